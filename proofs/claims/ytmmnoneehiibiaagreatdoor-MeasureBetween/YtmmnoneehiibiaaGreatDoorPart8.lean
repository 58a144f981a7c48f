/- Parts of the proof. -/
import Derived.Test.YtmmnoneehiibiaaGreatDoorPart7
import Derived.Lib.AppendZerosOnto
set_option linter.unusedVariables false
set_option linter.unusedSimpArgs false
namespace Go.Proofs.YtmmnoneehiibiaaGreatDoor
open Go Go.RowKit Go.Proofs.YtmmnoneehiibiaaGreatDoor.M
theorem maxV_ge:(2:Int)^2097<=maxV:=by
  have h:(2:Int)^2097<=(V Ieee.double 9218868437227405311:Int):=by decide +kernel
  exact h
theorem p2_up {b c:Nat} {x:Int} (h:(x.natAbs:Int)<=2^b) (hbc:b<=c):(x.natAbs:Int)<=2^c:=Int.le_trans h (p2le hbc)
def LB (s:Ls) (b:Nat):Prop:=∀ i,i<s.n->((iV (s.d i)).natAbs:Int)<=2^b
theorem LB.add {s:Ls} {b:Nat} (h:LB s b) {x:Int} (hx:((iV x).natAbs:Int)<=2^b):LB (s.add x) b:=by
  unfold Ls.add
  split
  . exact h
  . intro i hi
    show ((iV (upd s.d s.n x i)).natAbs:Int)<=_
    by_cases e:i=s.n
    . subst e; rw [upd_same]; exact hx
    . rw [upd_other _ _ e]; exact h i (by have:i<s.n+1:=hi; omega)
theorem XV.fn {s:Ls} (h:XV s.d s.n):s.fin:=fun i hi=>⟨(h.fin i hi).1,(h.fin i hi).2.1⟩
theorem lsm_neg {f:Nat->Int}:∀ {m},(∀ i,i<m->rng (f i)∧pok (f i)=true)->lsm (fun i=>neg (f i)) m=-lsm f m
  | 0,_=>rfl
  | m+1,h=>by
    rw [lsm_succ,lsm_succ,lsm_neg fun i hi=>h i (by omega),(neg_facts (h m (by omega)).1 (h m (by omega)).2).2.2]
    omega
def PTs (d T:Nat->Int) (b:Int) (n:Nat):Prop:=∀ j,j<n->2^1074*T j=iV (d j)*iV b
def tsm (T:Nat->Int):Nat->Int
  | 0=>0
  | k+1=>tsm T k+T k
theorem tsm_succ (T:Nat->Int) (k:Nat):tsm T (k+1)=tsm T k+T k:=rfl
theorem tsm_prod {d T:Nat->Int} {b:Int} {n:Nat} (h:PTs d T b n):∀ k,k<=n->2^1074*tsm T k=lsm d k*iV b
  | 0,_=>by show 2^1074*(0:Int)=0*iV b; rw [Int.mul_zero,Int.zero_mul]
  | k+1,hk=>by rw [tsm_succ,lsm_succ,Int.mul_add,Int.add_mul,tsm_prod h k (by omega),h k (by omega)]
theorem dvd_units {t B:Nat} {x b T:Int} (hx:(2^t:Int) ∣ x) (hb:(2^B:Int) ∣ b) (hT:2^1074*T=x*b):(2^(t+B-1074):Int) ∣ T:=by
  by_cases h:t+B<=1074
  . rw [Nat.sub_eq_zero_of_le h,Int.pow_zero]; exact Int.one_dvd _
  . obtain ⟨a,ha⟩:=hx
    obtain ⟨c,hc⟩:=hb
    refine ⟨a*c,?_⟩
    have e:(2:Int)^1074*T=2^1074*(2^(t+B-1074)*(a*c)):=by
      rw [hT,ha,hc,<- Int.mul_assoc (2^1074),<- Int.pow_add,show 1074+(t+B-1074)=t+B by omega,Int.pow_add]
      generalize (2:Int)^t=X
      generalize (2:Int)^B=Y
      grind
    exact Int.eq_of_mul_eq_mul_left (Int.ne_of_gt (p2 1074)) e
theorem fl_top {b:Int} {B:Nat} (h1:(2^B:Int) ∣ b) (h2:(b.natAbs:Int)<9007199254740992*2^B):(b.natAbs:Int)<=9007199254740991*2^B:=by
  have h3:=mult_lt (u:=0) h1 (⟨9007199254740992,by rw [Int.mul_comm]⟩:(2^B:Int) ∣ 9007199254740992*2^B) h2
  generalize (2:Int)^B=Y at *
  omega
theorem k_prod2 {A C X Y M:Int} (hA:0<=A) (hC:0<=C) (h1:A<=X-1) (h2:C<=M*Y) (hM:0<M) (hY:0<Y):A*C<X*Y*M:=by
  have e1:A*C<=(X-1)*C:=Int.mul_le_mul_of_nonneg_right h1 hC
  have e2:(X-1)*C<=(X-1)*(M*Y):=Int.mul_le_mul_of_nonneg_left h2 (by omega)
  have e3:0<M*Y:=Int.mul_pos hM hY
  have e4:(X-1)*(M*Y)=X*Y*M-M*Y:=by grind
  omega
theorem prod_lt {t B:Nat} {x b T:Int} (hx:(x.natAbs:Int)<2^t) (h1:(2^B:Int) ∣ b) (h2:(b.natAbs:Int)<9007199254740992*2^B) (hT:2^1074*T=x*b):(T.natAbs:Int)<9007199254740991*2^(t+B-1074):=by
  have h3:=fl_top h1 h2
  have e1:((2^1074*T).natAbs:Int)=2^1074*(T.natAbs:Int):=natAbs_p2 1074 T
  have e2:((x*b).natAbs:Int)=(x.natAbs:Int)*(b.natAbs:Int):=by rw [Int.natAbs_mul,Int.natCast_mul]
  have e3:=k_prod2 (A:=(x.natAbs:Int)) (C:=(b.natAbs:Int)) (X:=2^t) (Y:=2^B) (M:=9007199254740991) (by omega) (by omega) (by omega) h3 (by decide) (p2 B)
  rw [<- e2,<- hT,e1,<- Int.pow_add] at e3
  have e4:(2:Int)^(t+B)<=2^(1074+(t+B-1074)):=p2le (by omega)
  rw [Int.pow_add 2 1074] at e4
  have e5:(2:Int)^(t+B)*9007199254740991<=2^1074*2^(t+B-1074)*9007199254740991:=Int.mul_le_mul_of_nonneg_right e4 (by decide)
  have e6:(2:Int)^1074*(T.natAbs:Int)<2^1074*(9007199254740991*2^(t+B-1074)):=by
    refine Int.lt_of_lt_of_le e3 (Int.le_trans e5 ?_)
    rw [Int.mul_assoc,Int.mul_comm (2^(t+B-1074)) 9007199254740991]
    exact Int.le_refl _
  exact Int.lt_of_mul_lt_mul_left e6 (Int.le_of_lt (p2 1074))
theorem add_all {L:Ls} {l:Int} (P:Int->Prop) (h:∀ i,i<L.n->P (L.d i)) (hl:rg l≠0->P l):∀ i,i<(L.add l).n->P ((L.add l).d i):=by
  intro i
  unfold Ls.add
  split
  . exact h i
  . rename_i hz
    intro hi
    have hi':i<L.n+1:=hi
    show P (upd L.d L.n l i)
    by_cases e:i=L.n
    . subst e; rw [upd_same]; exact hl hz
    . rw [upd_other _ _ e]; exact h i (by omega)
theorem lsm_all {d:Nat->Int} {n t:Nat} (h:XV d n) (ht:∀ i,i<n->((iV (d i)).natAbs:Int)<2^t):((lsm d n).natAbs:Int)<2^t:=by
  cases n with
  | zero=>have:=p2 t; show (((0:Int).natAbs:Nat):Int)<_; omega
  | succ n=>exact lsm_lt h t (ht n (by omega))
structure SI (d T:Nat->Int) (B N k:Nat) (L:Ls) (q:Int):Prop where
  xv:XV L.d L.n
  sum:lsm L.d L.n+iV q=tsm T (k+1)
  up:∀ i,i<L.n->∃ s:Nat,((iV (L.d i)).natAbs:Int)<2^s∧(2^s:Int) ∣ iV q∧∀ j,k<j->j<=N->(2^s:Int) ∣ T j
  small:∀ t:Nat,((iV (d k)).natAbs:Int)<2^t->∀ i,i<L.n->((iV (L.d i)).natAbs:Int)<2^(t+B-1074)
theorem xv_next {d T:Nat->Int} {b:Int} {B N k:Nat} (hd:XV d (N+1)) (hB1:(2^B:Int) ∣ iV b) (hT:PTs d T b (N+1)) (hk:k<=N):∃ t:Nat,((iV (d k)).natAbs:Int)<2^t∧∀ j,k<j->j<=N->(2^(t+B-1074):Int) ∣ T j:=by
  by_cases h:k<N
  . obtain ⟨t,k1,k2⟩:=hd.lo k (by omega)
    refine ⟨t,k1,fun j hj hjn=>dvd_units ?_ hB1 (hT j (by omega))⟩
    by_cases e:j=k+1
    . subst e; exact k2
    . obtain ⟨t2,m1,m2⟩:=hd.far (show k+1<j by omega) (by omega)
      have h4:=dvd_abs_le k2 (hd.ne (by omega)) (p2 t)
      have h5:t<t2:=p2lt (Int.lt_of_le_of_lt h4 m1)
      exact Int.dvd_trans (p2dvd (by omega)) m2
  . refine ⟨(iV (d k)).natAbs,?_,fun j hj hjn=>by omega⟩
    have:(iV (d k)).natAbs<2^(iV (d k)).natAbs:=Nat.lt_two_pow_self
    have h2:(((iV (d k)).natAbs:Nat):Int)<((2^(iV (d k)).natAbs:Nat):Int):=by omega
    rwa [k_pow] at h2
theorem half_lt {x:Int} {g:Nat} (h:2*(x.natAbs:Int)<=2^g):(x.natAbs:Int)<2^g:=by
  have:=p2 g
  omega
theorem prod_facts {x b T:Int} (rx:rng x) (rb:rng b) (hx:pX x b=true) (hT:2^1074*T=iV x*iV b):pok (fprod x b)=true∧pok (prL x b)=true∧iV (fprod x b)+iV (prL x b)=T∧Nr T (iV (fprod x b)):=by
  unfold pX at hx
  rw [Bool.and_eq_true] at hx
  obtain ⟨⟨px,pb⟩,pf,e⟩:=prL_exact rx rb hx.1 hT
  exact ⟨pf,hx.1,e,(stp_prod rx rb px pb hT).nr pf⟩
theorem si_zero {d T:Nat->Int} {b:Int} {B N:Nat} (hd:XV d (N+1)) (rb:rng b) (hB1:(2^B:Int) ∣ iV b) (hB2:((iV b).natAbs:Int)<9007199254740992*2^B) (hT:PTs d T b (N+1)) (hx:pX (d 0) b=true):SI d T B N 0 ((⟨0,fun _=>0⟩:Ls).add (prL (d 0) b)) (fprod (d 0) b):=by
  obtain ⟨r0,p0,z0⟩:=hd.fin 0 (by omega)
  obtain ⟨pf,pl,e,nr⟩:=prod_facts r0 rb hx (hT 0 (by omega))
  have rl:=prL_rng r0 rb
  have small:∀ t:Nat,((iV (d 0)).natAbs:Int)<2^t->((iV (prL (d 0) b)).natAbs:Int)<2^(t+B-1074):=fun t ht=>by
    have h1:=prod_lt ht hB1 hB2 (hT 0 (by omega))
    have h2:=nr_err nr (i:=t+B-1074) (by have:=p2 (t+B-1074); omega)
    have h3:iV (prL (d 0) b)=T 0-iV (fprod (d 0) b):=by omega
    refine half_lt ?_
    rw [h3]
    omega
  refine ⟨XV.add ⟨fun i hi=>absurd hi (Nat.not_lt_zero _),fun i hi=>absurd hi (Nat.not_lt_zero _)⟩ rl pl (fun i hi=>absurd hi (Nat.not_lt_zero _)),?_,?_,fun t ht=>add_all (fun x=>((iV x).natAbs:Int)<2^(t+B-1074)) (fun i hi=>absurd hi (Nat.not_lt_zero _)) fun _=>small t ht⟩
  . rw [lsm_add rl,tsm_succ]
    show (0:Int)+_+_=0+_
    omega
  . refine add_all (fun x=>∃ s:Nat,((iV x).natAbs:Int)<2^s∧(2^s:Int) ∣ iV (fprod (d 0) b)∧∀ j,0<j->j<=N->(2^s:Int) ∣ T j) (fun i hi=>absurd hi (Nat.not_lt_zero _)) fun hz=>?_
    have hne:=(iV_some rl pl hz).1
    obtain ⟨u,h1,h2⟩:=nr_unit nr (fun c=>hne (by omega))
    obtain ⟨t,k1,k2⟩:=xv_next hd hB1 hT (k:=0) (by omega)
    have h3:=small t k1
    have h4:iV (prL (d 0) b)=T 0-iV (fprod (d 0) b):=by omega
    rw [<- h4] at h2
    by_cases hut:u<=t+B-1074
    . exact ⟨u,h2,h1,fun j hj hjn=>Int.dvd_trans (p2dvd hut) (k2 j hj hjn)⟩
    . exact ⟨t+B-1074,h3,Int.dvd_trans (p2dvd (by omega)) h1,k2⟩
theorem si_step {d T:Nat->Int} {b:Int} {B N k:Nat} (hd:XV d (N+1)) (rb:rng b) (hB1:(2^B:Int) ∣ iV b) (hB2:((iV b).natAbs:Int)<9007199254740992*2^B) (hT:PTs d T b (N+1)) (hk:k<N) {L:Ls} {q:Int} (rq:rng q) (pq:pok q=true) (h:SI d T B N k L q)
    (hx1:pX (d (k+1)) b=true) (hx2:pok (sL q (prL (d (k+1)) b))=true) (hx3:fX (fprod (d (k+1)) b) (fsum q (prL (d (k+1)) b))=true) :
    SI d T B N (k+1) ((L.add (sL q (prL (d (k+1)) b))).add (fL (fprod (d (k+1)) b) (fsum q (prL (d (k+1)) b)))) (fsum (fprod (d (k+1)) b) (fsum q (prL (d (k+1)) b))):=by
  obtain ⟨rx,px,zx⟩:=hd.fin (k+1) (by omega)
  have xne:=hd.ne (show k+1<N+1 by omega)
  have hTk:=hT (k+1) (by omega)
  obtain ⟨pT,pu,eT,nT⟩:=prod_facts rx rb hx1 hTk
  have ru:=prL_rng rx rb
  have rT:=fprod_rng rx rb
  have n1:=fsum_nr rq ru hx2
  obtain ⟨_,p1,e1⟩:=sL_exact rq ru hx2
  have r1:=fsum_rng rq ru
  have rl1:rng (sL q (prL (d (k+1)) b)):=sL_rng rq ru
  obtain ⟨p2',pl2⟩:=fX_fin rT r1 hx3
  have e2:iV (fsum (fprod (d (k+1)) b) (fsum q (prL (d (k+1)) b)))+iV (fL (fprod (d (k+1)) b) (fsum q (prL (d (k+1)) b)))=iV (fprod (d (k+1)) b)+iV (fsum q (prL (d (k+1)) b)):=by
    have:=fX_iff rT r1 pl2
    rw [hx3] at this
    exact of_decide_eq_true this.symm
  have n2:=(stp_sum rT r1 pT p1).nr p2'
  have rl2:rng (fL (fprod (d (k+1)) b) (fsum q (prL (d (k+1)) b))):=fL_rng rT r1
  obtain ⟨hxv,hsum,hup,hsmall⟩:=h
  have hl1:=nr_loss (fl_iV q) n1
  generalize fL (fprod (d (k+1)) b) (fsum q (prL (d (k+1)) b))=l2 at *
  generalize fsum (fprod (d (k+1)) b) (fsum q (prL (d (k+1)) b))=q2 at *
  generalize sL q (prL (d (k+1)) b)=l1 at *
  generalize fsum q (prL (d (k+1)) b)=q1 at *
  generalize prL (d (k+1)) b=u at *
  generalize fprod (d (k+1)) b=Tp at *
  have eu:iV u=T (k+1)-iV Tp:=by omega
  have el1:iV l1=iV q+iV u-iV q1:=by omega
  have el2:iV l2=iV Tp+iV q1-iV q2:=by omega
  rw [<- el1] at hl1
  have hold:∀ i,i<L.n->∃ s:Nat,((iV (L.d i)).natAbs:Int)<2^s∧(2^s:Int) ∣ iV l1∧(2^s:Int) ∣ iV l2∧(2^s:Int) ∣ iV q2∧∀ j,k+1<j->j<=N->(2^s:Int) ∣ T j:=fun i hi=>by
    obtain ⟨s,h1,h2,h3⟩:=hup i hi
    have d1:=h3 (k+1) (by omega) (by omega)
    have d2:=nr_dvd nT d1
    have d3:(2^s:Int) ∣ iV u:=by rw [eu]; exact Int.dvd_sub d1 d2
    have d4:(2^s:Int) ∣ iV q+iV u:=Int.dvd_add h2 d3
    have d5:=nr_dvd n1 d4
    have d6:(2^s:Int) ∣ iV Tp+iV q1:=Int.dvd_add d2 d5
    have d7:=nr_dvd n2 d6
    exact ⟨s,h1,by rw [el1]; exact Int.dvd_sub d4 d5,by rw [el2]; exact Int.dvd_sub d6 d7,d7,fun j hj hjn=>h3 j (by omega) hjn⟩
  have hxv1:XV (L.add l1).d (L.add l1).n:=hxv.add rl1 hx2 fun i hi=>by
    obtain ⟨s,h1,h2,_⟩:=hold i hi
    exact ⟨s,h1,h2⟩
  have hu:∀ t:Nat,((iV (d (k+1))).natAbs:Int)<2^t->2*((iV u).natAbs:Int)<=2^(t+B-1074):=fun t ht=>by
    have h1:=prod_lt ht hB1 hB2 hTk
    have h2:=nr_err nT (i:=t+B-1074) (by have:=p2 (t+B-1074); omega)
    rw [eu]
    omega
  have hs1:∀ t:Nat,((iV (d (k+1))).natAbs:Int)<2^t->∀ i,i<(L.add l1).n->((iV ((L.add l1).d i)).natAbs:Int)<2^(t+B-1074):=fun t ht=>by
    refine add_all (fun x=>((iV x).natAbs:Int)<2^(t+B-1074)) (fun i hi=>?_) fun _=>?_
    . obtain ⟨t0,k1,k2⟩:=hd.lo k (by omega)
      have h1:=hsmall t0 k1 i hi
      have h2:=dvd_abs_le k2 xne (p2 t0)
      have h3:t0<t:=p2lt (Int.lt_of_le_of_lt h2 ht)
      exact Int.lt_of_lt_of_le h1 (p2le (by omega))
    . have:=half_lt (hu t ht)
      omega
  have hl2:∀ t:Nat,((iV (d (k+1))).natAbs:Int)<2^t->((iV l2).natAbs:Int)<2^(t+B-1074):=fun t ht=>by
    have h1:=lsm_all hxv1 (hs1 t ht)
    rw [lsm_add rl1] at h1
    have hxk:XV d (k+1+1):=⟨fun i hi=>hd.fin i (by omega),fun i hi=>hd.lo i (by omega)⟩
    have h2:=prod_lt (lsm_lt hxk t ht) hB1 hB2 (tsm_prod hT (k+1+1) (by omega))
    rw [tsm_succ] at h2
    have h3:=nr_err n2 (i:=t+B-1074) (by
      generalize (2:Int)^(t+B-1074)=Y at *
      omega)
    refine half_lt ?_
    rw [el2]
    omega
  have hl1s:rg l1≠0->∃ s:Nat,((iV l1).natAbs:Int)<2^s∧(2^s:Int) ∣ iV l2∧(2^s:Int) ∣ iV q2∧∀ j,k+1<j->j<=N->(2^s:Int) ∣ T j:=fun hz=>by
    have hne:=(iV_some rl1 hx2 hz).1
    obtain ⟨u1,a1,a2⟩:=nr_unit n1 (fun c=>hne (by omega))
    rw [<- el1] at a2
    obtain ⟨u2,b1,b2⟩:=nr_unit nT (fun c=>hne (by omega))
    rw [<- eu] at b2
    obtain ⟨t,k1,k2⟩:=xv_next hd hB1 hT (k:=k+1) (by omega)
    have c2:=half_lt (hu t k1)
    obtain ⟨s,hs1,hs2,hs3,hs4⟩:∃ s:Nat,s<=u1∧s<=u2∧s<=t+B-1074∧((iV l1).natAbs:Int)<2^s:=by
      by_cases h1:u1<=u2∧u1<=t+B-1074
      . exact ⟨u1,Nat.le_refl _,h1.1,h1.2,a2⟩
      . by_cases h2:u2<=t+B-1074∧u2<=u1
        . exact ⟨u2,h2.2,Nat.le_refl _,h2.1,by omega⟩
        . exact ⟨t+B-1074,by omega,by omega,Nat.le_refl _,by omega⟩
    have d6:(2^s:Int) ∣ iV Tp+iV q1:=Int.dvd_add (Int.dvd_trans (p2dvd hs2) b1) (Int.dvd_trans (p2dvd hs1) a1)
    have d7:=nr_dvd n2 d6
    exact ⟨s,hs4,by rw [el2]; exact Int.dvd_sub d6 d7,d7,fun j hj hjn=>Int.dvd_trans (p2dvd hs3) (k2 j hj hjn)⟩
  have hl2s:rg l2≠0->∃ s:Nat,((iV l2).natAbs:Int)<2^s∧(2^s:Int) ∣ iV q2∧∀ j,k+1<j->j<=N->(2^s:Int) ∣ T j:=fun hz=>by
    have hne:=(iV_some rl2 pl2 hz).1
    obtain ⟨u3,a1,a2⟩:=nr_unit n2 (fun c=>hne (by omega))
    rw [<- el2] at a2
    obtain ⟨t,k1,k2⟩:=xv_next hd hB1 hT (k:=k+1) (by omega)
    have c2:=hl2 t k1
    by_cases hut:u3<=t+B-1074
    . exact ⟨u3,a2,a1,fun j hj hjn=>Int.dvd_trans (p2dvd hut) (k2 j hj hjn)⟩
    . exact ⟨t+B-1074,c2,Int.dvd_trans (p2dvd (by omega)) a1,k2⟩
  refine ⟨hxv1.add rl2 pl2 ?_,?_,?_,fun t ht=>add_all (fun x=>((iV x).natAbs:Int)<2^(t+B-1074)) (hs1 t ht) fun _=>hl2 t ht⟩
  . refine add_all (fun x=>Lo (iV x) (iV l2)) (fun i hi=>?_) fun hz=>?_
    . obtain ⟨s,h1,_,h3,_⟩:=hold i hi
      exact ⟨s,h1,h3⟩
    . obtain ⟨s,h1,h2,_⟩:=hl1s hz
      exact ⟨s,h1,h2⟩
  . rw [lsm_add rl2,lsm_add rl1,tsm_succ]
    omega
  . refine add_all (fun x=>∃ s:Nat,((iV x).natAbs:Int)<2^s∧(2^s:Int) ∣ iV q2∧∀ j,k+1<j->j<=N->(2^s:Int) ∣ T j) ?_ hl2s
    refine add_all (fun x=>∃ s:Nat,((iV x).natAbs:Int)<2^s∧(2^s:Int) ∣ iV q2∧∀ j,k+1<j->j<=N->(2^s:Int) ∣ T j) (fun i hi=>?_) fun hz=>?_
    . obtain ⟨s,h1,_,_,h4,h5⟩:=hold i hi
      exact ⟨s,h1,h4,h5⟩
    . obtain ⟨s,h1,_,h3,h4⟩:=hl1s hz
      exact ⟨s,h1,h3,h4⟩
def PB (P:Nat->Prop) (w:World):Prop:=∀ k,P k->k<w.heap.size
structure BelP (P:Nat->Prop) (w w':World):Prop where
  os:w'.os=w.os
  tape:w'.tape=w.tape
  output:w'.output=w.output
  size:w.heap.size<=w'.heap.size
  block:∀ k,P k->w'.heap[k]?=w.heap[k]?
theorem BelP.refl (P:Nat->Prop) (w:World):BelP P w w:=⟨rfl,rfl,rfl,Nat.le_refl _,fun _ _=>rfl⟩
theorem BelP.trans {P:Nat->Prop} {a b c:World} (h:BelP P a b) (k:BelP P b c):BelP P a c :=
  ⟨k.os.trans h.os,k.tape.trans h.tape,k.output.trans h.output,Nat.le_trans h.size k.size,fun i hi=>(k.block i hi).trans (h.block i hi)⟩
theorem BelP.of {P:Nat->Prop} {w w':World} (h:Below w.heap.size w w') (hP:PB P w):BelP P w w':=⟨h.os,h.tape,h.output,h.size,fun k hk=>h.block k (hP k hk)⟩
theorem PB.le {P:Nat->Prop} {w w':World} (h:PB P w) (hs:w.heap.size<=w'.heap.size):PB P w':=fun k hk=>Nat.lt_of_lt_of_le (h k hk) hs
def OutP (P:Nat->Prop) (w:World) (v:Value) (s:Ls):Prop:=Out 0 w v s.n s.d∧∀ k,v.ownBlock=some k->¬ P k
theorem OutP.shape {P:Nat->Prop} {w:World} {v:Value} {s:Ls} (h:OutP P w v s):∃ ao cap,v=.slice ao s.n cap:=by
  obtain ⟨ao,cap,e,_⟩:=h.1.row
  exact ⟨ao,cap,e⟩
theorem OutP.stays {P:Nat->Prop} {w w':World} {v:Value} {s:Ls} (h:OutP P w v s) (hb:Below w.heap.size w w'):OutP P w' v s:=⟨h.1.stays hb,h.2⟩
theorem OutP.gr {P:Nat->Prop} {w w':World} {v:Value} {s:Ls} (h:OutP P w v s) (hP:PB P w) (g:w.grownBy w' v.ownBlock):BelP P w w' :=
  ⟨g.os,g.tape,g.output,g.size,fun k hk=>g.block k (hP k hk) fun e=>h.2 k e.symm hk⟩
theorem wpList_appT {w:World} {ops:Array Oper} {rest:List Oper} {o:Oper} {a:Act} {Q:Exit->Act->World->Prop} (hgd:o.guard=none) (s x:Operand) (ho:o.op=.call { callee:=.builtin .append,args:=#[s,x],argTypes:=#[32,32] })
    (B:Nat) (v:Value) (n:Nat) (d:Nat->Int) (hs:a.eval s=v) (hO:Out B w v n d) (bo:Option Addr) (m cb:Nat) (e:Nat->Int) (hx:a.eval x=.slice bo m cb) (hR:Row w bo m cb e) (hlen:n+m<=1000000) (hB:B<=w.heap.size)
    (h:∀ v' w',Out B w' v' (n+m) (cat d n e)->w.grownBy w' v.ownBlock->(v'.ownBlock=v.ownBlock∨v'.ownBlock=some w.heap.size)->wpList Tryz.prog ops Q rest (a.put o.dst v') w'):wpList Tryz.prog ops Q (o :: rest) a w:=by
  obtain ⟨v',w',hr,h2,h3,h4⟩:=run_app o.type B v n d hO bo m cb e hR hlen hB
  exact Lib.wpList_append_run w hgd s x _ _ ho v (.slice bo m cb) hs hx _ w' hr (h v' w' h2 h3 h4)
set_option maxRecDepth 100000 in
theorem xaddP {P:Nat->Prop} {v:Value} {s:Ls} {b:Int} (w:World) (h:OutP P w v s) (hb:rng b) (hn:s.n<=900000) (hP:PB P w) :
    Calls Tryz.prog 169 #[v,.int .i64 b] w fun e w'=>∃ v',e=.returned v'∧OutP P w' v' (s.add b)∧BelP P w w':=by
  have hz:=fun W=>xnought hb W
  by_cases h0:rg b=0
  . have e:s.add b=s:=by unfold Ls.add; rw [if_pos h0]
    rw [decide_eq_true h0] at hz
    rw [e]
    go_enter Tryz.func169,Tryz.ntmps169
    go_wp2_with (go_at_call 167; refine (hz _).mono ?_; rintro _ _ ⟨rfl,rfl⟩)
    go_ret
    exact ⟨v,rfl,h,BelP.refl _ _⟩
  . have e:s.add b=⟨s.n+1,upd s.d s.n b⟩:=by unfold Ls.add; rw [if_neg h0]
    rw [decide_eq_false h0] at hz
    rw [e]
    go_enter Tryz.func169,Tryz.ntmps169
    go_wp2_with (first
      | (go_at_call 167; refine (hz _).mono ?_; rintro _ _ ⟨rfl,rfl⟩)
      | (at_builtin; refine wpList_appT rfl _ _ rfl 0 _ s.n s.d rfl (h.1.stays (bel_alloc _ _)) _ 1 1 (fun _=>b) rfl (row1 _ _ rfl) (by omega) (Nat.zero_le _) ?_; intro v' w1 hO1 hg1 hat1))
    go_ret
    refine ⟨v',rfl,⟨hO1.congr fun i hi=>?_,fun k hk=>?_⟩,h.gr hP (grown_past hg1)⟩
    . by_cases e:i<s.n
      . simp [cat,e,upd_other s.d _ (show i≠s.n by omega)]
      . obtain rfl:i=s.n:=by omega
        simp [cat,upd_same]
    . rcases hat1 with q | q
      . exact h.2 k (q.symm.trans hk)
      . rw [hk] at q
        intro hPk
        have:=hP k hPk
        simp at q
        omega
set_option maxRecDepth 100000 in
set_option maxHeartbeats 2000000 in
theorem xgrowP_some {P:Nat->Prop} {g n cap:Nat} {d:Nat->Int} {q:Int} (w:World) (h0:OutP P w (.slice (some ⟨g,0,none⟩) n cap) ⟨n,d⟩) (hd:∀ i,i<n->rng (d i)∧pok (d i)=true) (hq:rng q) (pq:pok q=true) (hn:n<=800000) (hP:PB P w) :
    Calls Tryz.prog 171 #[.slice (some ⟨g,0,none⟩) n cap,.int .i64 q] w fun e w'=>(gx d q n=true∧∃ v',e=.returned v'∧OutP P w' v' (grw n d q)∧BelP P w w')∨(gx d q n=false∧e=gaveX∧BelP P w w'):=by
  have h:Out 0 w (.slice (some ⟨g,0,none⟩) n cap) n d:=h0.1
  have HNP:Hid (¬ P g):=h0.2 g rfl
  have HPB:Hid (PB P w):=hP
  have HGP:Hid (∀ W,w.grownBy W (some g)->BelP P w W):=fun W hW=>h0.gr hP hW
  clear h0 hP
  obtain ⟨hI,hnc,hcm,hBg⟩:=h.inB
  have HQ:Hid (∀ k,k<=n->gx d q k=true->rng (gq d q k)∧pok (gq d q k)=true):=gq_fin hd hq pq
  have HDD:Hid (∀ i,i<n->rng (d i)∧pok (d i)=true):=hd
  have hgl:g<w.heap.size:=by obtain ⟨cur,h1,_⟩:=hI; exact (Array.getElem?_eq_some_iff.1 h1).1
  clear hd h hq pq
  go_enter Tryz.func171,Tryz.ntmps171
  go_wp2_with fail
  go_loopw [1,5,13] (fun qv gv iv wr=>∃ k:Nat,k<=n∧iv=.int .i64 k∧qv=.int .i64 (gq d q k)∧gv=.slice (some ⟨g,0,none⟩) (gs d q k).n cap∧Hid (gx d q k=true)∧Hid (InB wr g cap n (gs d q k))∧Hid (w.grownBy wr (some g))) (fun _ _ iv _=>n-(intOf iv).toNat)
  case atStart=>exact ⟨0,Nat.zero_le _,rfl,rfl,rfl,rfl,hI,World.grownBy.refl _ _⟩
  case round=>
    obtain ⟨k,hk,rfl,rfl,rfl,HX,HI,HG⟩:=hrel
    clear hI
    have hsn:=gs_le d q k
    by_cases hlt:k<n
    . obtain ⟨r1,r2⟩:=HQ.out k hk HX.out
      obtain ⟨d1,d2⟩:=HDD.out k hlt
      have c0:wr.cell? ⟨g,k,none⟩=some (.int .i64 (d k)):=by
        obtain ⟨cur,h1,h2,h3⟩:=HI.out
        rw [cell_of_row wr g k cur _ _ h1,h3 k hlt,gs_tail d q k k (Nat.le_refl _)]
      have CT:Hid (∀ W,Calls Tryz.prog 157 #[.int .i64 (gq d q k),.int .i64 (d k)] W fun e w'=>e=.returned (.tuple #[.int .i64 (gq d q (k+1)),.int .i64 (gl d q k),.bool (pok (gl d q k))])∧Below W.heap.size W w'):=fun W=>xtwoSum r1 d1 r2 d2 W
      have rl:rng (gl d q k):=sL_rng r1 d1
      have i0:(0:Int)<=(k:Int):=by omega
      have i1:(k:Int)<(n:Int):=by omega
      have HS:Hid (gs d q (k+1)=(gs d q k).add (gl d q k)):=rfl
      have HXS:Hid (gx d q (k+1)=(gx d q k && pok (gl d q k))):=rfl
      have HNO:Hid (pok (gl d q k)=false->gx d q n=false):=fun hno=>by
        cases hx:gx d q n
        . rfl
        . have:=gx_mono (show k+1<=n by omega) hx
          rw [HXS.out,hno,Bool.and_false] at this
          cases this
      obtain ⟨q',hq'⟩:∃ q',gq d q (k+1)=q':=⟨_,rfl⟩
      rw [hq'] at CT
      have HQ':Hid (gq d q (k+1)=q'):=hq'
      clear hq'
      generalize gl d q k=l at *
      generalize gq d q k=q0 at *
      generalize hd0:d k=dk at *
      have HD0:Hid (d k=dk):=hd0
      clear hd0 r1 r2 d1 d2
      have CA:=fun W h=>xadd_in (g:=g) (cap:=cap) (N:=n) (s:=gs d q k) (b:=l) W h rl (by omega)
      generalize hs0:gs d q k=s0 at *
      have HS0:Hid (gs d q k=s0):=hs0
      clear hs0
      cases hl:pok l
      . rw [hl] at CT
        go_wp2_with fail
        refine (CT.out _).mono ?_
        rintro _ w1 ⟨rfl,hb1⟩
        go_wp2_with fail
        refine (xsure_no _ _ _).mono ?_
        rintro _ _ ⟨rfl,rfl⟩
        unfold gaveX
        go_wp2
        exact ⟨rfl,.inr ⟨HNO.out hl,rfl,HGP.out _ (grown_bel2 HG.out hb1)⟩⟩
      . rw [hl] at CT
        go_wp2_with fail
        refine (CT.out _).mono ?_
        rintro _ w1 ⟨rfl,hb1⟩
        go_wp2_with fail
        refine (xsure_yes _ _ _).mono ?_
        rintro _ _ ⟨rfl,rfl⟩
        rename_i w1
        go_wp2_with fail
        refine (CA _ (HI.out.keeps hb1)).mono ?_
        rintro _ w2 ⟨rfl,hI2,hg2⟩
        go_wp2
        go_roundw
        case rel=>exact ⟨k+1,by omega,by go_num,by rw [HQ'.out],by rw [HS.out],by show _=_; rw [HXS.out,HX.out,hl]; rfl,by show InB _ _ _ _ _; rw [HS.out]; exact hI2,xgr_trans (grown_bel2 HG.out hb1) hg2⟩
        case measure=>simp [intOf]; omega
    . obtain rfl:k=n:=by omega
      have hO:OutP P wr (.slice (some ⟨g,0,none⟩) (gs d q k).n cap) (gs d q k):=⟨HI.out.out (B:=0) hsn hnc (Nat.zero_le _) hcm,fun j hj=>by cases hj; exact HNP.out⟩
      have HQ2:Hid (rng (gq d q k)∧pok (gq d q k)=true):=HQ.out k hk HX.out
      have CA:Hid (∀ W,W=wr->Calls Tryz.prog 169 #[.slice (some ⟨g,0,none⟩) (gs d q k).n cap,.int .i64 (gq d q k)] W fun e w'=>∃ v',e=.returned v'∧OutP P w' v' (grw k d q)∧BelP P W w'):=fun W hW=>by
        subst hW
        exact xaddP W hO HQ2.out.1 (by omega) (HPB.out.le HG.out.size)
      generalize gq d q k=q0 at *
      generalize gs d q k=s0 at *
      clear hO
      go_wp2_with fail
      refine (CA.out _ rfl).mono ?_
      rintro _ w2 ⟨v',rfl,hO2,hg2⟩
      go_wp2
      go_ret
      exact .inl ⟨HX.out,v',rfl,hO2,(HGP.out _ HG.out).trans hg2⟩
theorem xgrowP {P:Nat->Prop} {v:Value} {s:Ls} {q:Int} (w:World) (h:OutP P w v s) (hd:s.fin) (hq:rng q) (pq:pok q=true) (hn:s.n<=800000) (hP:PB P w) :
    Calls Tryz.prog 171 #[v,.int .i64 q] w fun e w'=>(gx s.d q s.n=true∧∃ v',e=.returned v'∧OutP P w' v' (grw s.n s.d q)∧BelP P w w')∨(gx s.d q s.n=false∧e=gaveX∧BelP P w w'):=by
  obtain ⟨n,d⟩:=s
  rcases id h.1.2 with ⟨rfl,h0⟩ | ⟨g,cap,cur,rfl,_⟩
  . have h0':n=0:=h0
    subst h0'
    have CA:Hid (∀ W,W=w->Calls Tryz.prog 169 #[.slice none 0 0,.int .i64 q] W fun e w'=>∃ v',e=.returned v'∧OutP P w' v' (grw 0 d q)∧BelP P W w'):=fun W hW=>by
      subst hW
      exact xaddP (s:=⟨0,d⟩) W h hq (Nat.zero_le _) hP
    clear h hd hq pq
    go_enter Tryz.func171,Tryz.ntmps171
    go_wp2_with fail
    go_loopw [1,5,13] (fun qv gv iv wr=>iv=.int .i64 0∧qv=.int .i64 q∧gv=.slice none 0 0∧wr=w) (fun _ _ iv _=>0)
    case atStart=>exact ⟨rfl,rfl,rfl,rfl⟩
    case round=>
      obtain ⟨rfl,rfl,rfl,rfl⟩:=hrel
      go_wp2_with fail
      refine (CA.out _ rfl).mono ?_
      rintro _ w2 ⟨v',rfl,hO2,hg2⟩
      go_wp2
      go_ret
      exact .inl ⟨rfl,v',rfl,hO2,hg2⟩
  . exact xgrowP_some w h hd hq pq hn hP
set_option maxRecDepth 100000 in
set_option maxHeartbeats 400000 in
theorem xgatherP {P:Nat->Prop} {v:Value} {s:Ls} {fo:Option Addr} {m fc:Nat} {f:Nat->Int} (w:World) (h:OutP P w v s) (hs:s.fin) (hf:∀ W,BelP P w W->Row W fo m fc f) (hff:∀ i,i<m->rng (f i)∧pok (f i)=true) (hn:s.n+m<=700000) (hB:PB P w) :
    Calls Tryz.prog 132 #[v,.slice fo m fc] w fun e w'=>(gaX s f m=true∧∃ v',e=.returned v'∧OutP P w' v' (gaS s f m)∧BelP P w w')∨(gaX s f m=false∧e=gaveX∧BelP P w w'):=by
  have hR:=hf w (BelP.refl _ _)
  have hle:=hR.le
  have hmx:=hR.max
  have HF:Hid (∀ W,BelP P w W->Row W fo m fc f):=hf
  have HFF:Hid (∀ i,i<m->rng (f i)∧pok (f i)=true):=hff
  have HFI:Hid (∀ k,k<=m->gaX s f k=true->(gaS s f k).fin):=gaS_fin hs hff
  have hL:=gaS_le s f
  obtain ⟨ao0,cap0,rfl⟩:=h.shape
  clear hf hff hR hs
  go_enter Tryz.func132,Tryz.ntmps132
  go_wp2_with fail
  go_loopw [0,9] (fun hv iv wr=>∃ (k:Nat) (v0:Value),k<=m∧iv=.int .i64 k∧hv=v0∧Hid (gaX s f k=true)∧Hid (OutP P wr v0 (gaS s f k))∧Hid (BelP P w wr)) (fun _ iv _=>m-(intOf iv).toNat)
  case atStart=>exact ⟨0,_,Nat.zero_le _,rfl,rfl,rfl,h,BelP.refl _ _⟩
  case round=>
    obtain ⟨k,hv,hk,rfl,hve,HX,HL,HBW⟩:=hrel
    replace hve:=hve.symm
    subst hve
    clear h
    have hLk:=hL k
    by_cases hlt:k<m
    . obtain ⟨b,off,rfl,hbb,hc⟩:=(HF.out _ HBW.out).spot (by omega)
      have c0:=hc k hlt
      clear hc
      obtain ⟨d1,d2⟩:=HFF.out k hlt
      have hwr:PB P wr:=PB.le hB HBW.out.size
      have CG:Hid (∀ W,W=wr->Calls Tryz.prog 171 #[hv,.int .i64 (f k)] W fun e w'=>(gaX s f (k+1)=true∧∃ v',e=.returned v'∧OutP P w' v' (gaS s f (k+1))∧BelP P W w')∨(gaX s f m=false∧e=gaveX∧BelP P W w')):=fun W hW=>by
        subst hW
        rw [gaS_succ,gaX_succ]
        refine (xgrowP W HL.out (HFI.out k hk HX.out) d1 d2 (by omega) hwr).mono ?_
        rintro e w' (⟨h1,v',h2,h3,h4⟩ | ⟨h1,h2,h3⟩)
        . exact .inl ⟨by rw [HX.out,h1]; rfl,v',h2,h3,h4⟩
        . refine .inr ⟨?_,h2,h3⟩
          cases hx:gaX s f m
          . rfl
          . have:=gaX_mono (show k+1<=m by omega) hx
            rw [gaX_succ,h1,Bool.and_false] at this
            cases this
      generalize f k=fk at *
      have i0:(0:Int)<=(k:Int):=by omega
      have i1:(k:Int)<(m:Int):=by omega
      go_wp2_with fail
      refine (CG.out _ rfl).mono ?_
      rintro _ w1 (⟨h1,v',rfl,h3,h4⟩ | ⟨h1,rfl,h3⟩)
      . go_wp2
        go_roundw
        case rel=>exact ⟨k+1,_,by omega,by go_num,rfl,h1,h3,HBW.out.trans h4⟩
        case measure=>simp [intOf]; omega
      . unfold gaveX
        go_wp2
        exact ⟨rfl,.inr ⟨h1,rfl,HBW.out.trans h3⟩⟩
    . obtain rfl:k=m:=by omega
      go_wp2
      go_ret
      exact .inl ⟨HX.out,_,rfl,HL.out,HBW.out⟩
set_option maxRecDepth 100000 in
set_option maxHeartbeats 1000000 in
theorem xscaleP {P:Nat->Prop} {v:Value} {s:Ls} {eo:Option Addr} {N ec:Nat} {d:Nat->Int} {b:Int} (w:World) (h:OutP P w v s) (hE:∀ W,BelP P w W->Row W eo (N+1) ec d) (hd:∀ i,i<=N->rng (d i)∧pok (d i)=true) (hb:rng b) (pb:pok b=true) (h0:¬ rg b=0) (hn:s.n+2*N<=700000) (hB:PB P w) (H:∀ W,BelP P w W->Hold4 W) :
    Calls Tryz.prog 131 #[v,.slice eo (N+1) ec,.int .i64 b] w fun e w'=>(sx d b N=true∧∃ v',e=.returned v'∧OutP P w' v' (scl s d b N)∧BelP P w w')∨(sx d b N=false∧e=gaveX∧BelP P w w'):=by
  have hz:=fun W=>xnought hb W
  rw [decide_eq_false h0] at hz
  have hR:=hE w (BelP.refl _ _)
  have hle:=hR.le
  have hmx:=hR.max
  obtain ⟨bb,off,rfl,hbb,hc⟩:=hR.spot (by omega)
  have c0:=hc 0 (by omega)
  rw [Nat.add_zero] at c0
  have HE:Hid (∀ W,BelP P w W->Row W (some ⟨bb,off,none⟩) (N+1) ec d):=hE
  have HH:Hid (∀ W,BelP P w W->Hold4 W):=H
  have HD:Hid (∀ i,i<=N->rng (d i)∧pok (d i)=true):=hd
  have HSQ:Hid (∀ k,k<=N->sx d b k=true->rng (sq d b k)∧pok (sq d b k)=true):=sq_fin hd hb
  have HSL:=ss_le s d b
  have HB:Hid (rng b∧pok b=true):=⟨hb,pb⟩
  have CP:Hid (∀ W,Hold4 W->Calls Tryz.prog 89 #[.int .i64 (d 0),.int .i64 b] W fun e w'=>e=.returned (.tuple #[.int .i64 (sq d b 0),.int .i64 (prL (d 0) b),.bool (sx d b 0)])∧Below W.heap.size W w'):=fun W hW=>xtwoProd (hd 0 (by omega)).1 hb (hd 0 (by omega)).2 pb W hW
  have HS0:Hid (ss s d b 0=s.add (prL (d 0) b)):=rfl
  have rl0:rng (prL (d 0) b):=prL_rng (hd 0 (by omega)).1 hb
  have HNO:Hid (sx d b 0=false->sx d b N=false):=fun hno=>by
    cases hx:sx d b N
    . rfl
    . have:=sx_mono (Nat.zero_le N) hx
      rw [hno] at this
      cases this
  clear hE H hd hc hR hb pb
  have hN1:((N:Int)+1 == 0)=false:=by simp; omega
  obtain ⟨ao0,cap0,rfl⟩:=h.shape
  cases hx0:sx d b 0
  . rw [hx0] at CP
    generalize sq d b 0=q0 at *
    generalize prL (d 0) b=l0 at *
    generalize d 0=d0 at *
    go_enter Tryz.func131,Tryz.ntmps131
    go_wp2_with (go_at_call 167; refine (hz _).mono ?_; rintro _ wz ⟨rfl,hw⟩; replace hw:=hw.symm; subst hw)
    refine (CP.out _ (HH.out _ (BelP.refl _ _))).mono ?_
    rintro _ w1 ⟨rfl,hb1⟩
    have hB1:BelP P w w1:=BelP.of hb1 hB
    go_wp2_with fail
    refine (xsure_no _ _ _).mono ?_
    rintro _ wz ⟨rfl,hw⟩
    replace hw:=hw.symm
    subst hw
    unfold gaveX
    go_wp2
    exact ⟨rfl,.inr ⟨HNO.out hx0,rfl,hB1⟩⟩
  . rw [hx0] at CP
    have CA:Hid (∀ W,BelP P w W->OutP P W (.slice ao0 s.n cap0) s->Calls Tryz.prog 169 #[.slice ao0 s.n cap0,.int .i64 (prL (d 0) b)] W fun e w'=>∃ v',e=.returned v'∧OutP P w' v' (ss s d b 0)∧BelP P W w'):=fun W hW hL=>by
      rw [HS0.out]
      exact xaddP W hL rl0 (by omega) (PB.le hB hW.size)
    have HK:Hid (∀ W,Below w.heap.size w W->OutP P W (.slice ao0 s.n cap0) s):=fun W hW=>h.stays hW
    clear h
    obtain ⟨q0,hq0⟩:∃ q0,sq d b 0=q0:=⟨_,rfl⟩
    obtain ⟨l0,hl0⟩:∃ l0,prL (d 0) b=l0:=⟨_,rfl⟩
    rw [hq0,hl0] at CP
    rw [hl0] at CA
    have HQ0:Hid (sq d b 0=q0):=hq0
    clear hq0 hl0 rl0 HS0 HNO
    generalize hd0:d 0=d0 at c0 CP
    clear hd0
    go_enter Tryz.func131,Tryz.ntmps131
    go_wp2_with (go_at_call 167; refine (hz _).mono ?_; rintro _ wz ⟨rfl,hw⟩; replace hw:=hw.symm; subst hw)
    refine (CP.out _ (HH.out _ (BelP.refl _ _))).mono ?_
    rintro _ w1 ⟨rfl,hb1⟩
    have hB1:BelP P w w1:=BelP.of hb1 hB
    go_wp2_with fail
    refine (xsure_yes _ _ _).mono ?_
    rintro _ wz ⟨rfl,hw⟩
    replace hw:=hw.symm
    subst hw
    go_wp2_with fail
    refine (CA.out _ hB1 (HK.out _ hb1)).mono ?_
    rintro _ w2 ⟨v2,rfl,hL2,hb2⟩
    have hB2:=hB1.trans hb2
    clear CP CA HK hz
    go_wp2_with fail
    . have hN0:N=0:=by omega
      go_loopw [0,7,39] (fun hv qv iv wr=>∃ (k:Nat) (v0:Value),k<=N∧iv=.int .i64 k∧hv=v0∧qv=.int .i64 (sq d b k)∧Hid (sx d b k=true)∧Hid (OutP P wr v0 (ss s d b k))∧Hid (BelP P w wr)) (fun _ _ iv _=>N-(intOf iv).toNat)
      case atStart=>exact ⟨0,_,Nat.zero_le _,rfl,rfl,by rw [HQ0.out],hx0,hL2,hB2⟩
      case round=>
        obtain ⟨k,hv,hk,rfl,hve,rfl,HX,HL,HBW⟩:=hrel
        replace hve:=hve.symm
        subst hve
        clear hL2 hB2 HQ0
        have hLk:=HSL k
        obtain rfl:k=N:=by omega
        obtain ⟨r1,r2⟩:=HSQ.out k hk HX.out
        have hwr:PB P wr:=PB.le hB HBW.out.size
        have CA:Hid (∀ W,W=wr->Calls Tryz.prog 169 #[hv,.int .i64 (sq d b k)] W fun e w'=>∃ v',e=.returned v'∧OutP P w' v' (scl s d b k)∧BelP P W w'):=fun W hW=>by
          subst hW
          exact xaddP W HL.out r1 (by omega) hwr
        clear r1 r2
        generalize sq d b k=qk at *
        go_wp2_with fail
        refine (CA.out _ rfl).mono ?_
        rintro _ w3 ⟨v3,rfl,hL3,hb3⟩
        go_wp2
        go_ret
        exact .inl ⟨HX.out,v3,rfl,hL3,HBW.out.trans hb3⟩
    . go_loopw [0,7,39] (fun hv qv iv wr=>∃ (k:Nat) (v0:Value),k<=N∧iv=.int .i64 k∧hv=v0∧qv=.int .i64 (sq d b k)∧Hid (sx d b k=true)∧Hid (OutP P wr v0 (ss s d b k))∧Hid (BelP P w wr)) (fun _ _ iv _=>N-(intOf iv).toNat)
      case atStart=>exact ⟨0,_,Nat.zero_le _,rfl,rfl,by rw [HQ0.out],hx0,hL2,hB2⟩
      case round=>
        obtain ⟨k,hv,hk,rfl,hve,rfl,HX,HL,HBW⟩:=hrel
        replace hve:=hve.symm
        subst hve
        clear hL2 hB2 HQ0
        have hLk:=HSL k
        by_cases hlt:k<N
        . obtain ⟨bb',off',e1,hbb',hc⟩:=(HE.out _ HBW.out).spot (by omega)
          simp only [Option.some.injEq,Addr.mk.injEq,and_true] at e1
          obtain ⟨rfl,rfl⟩:=e1
          have c1:=hc (k+1) (by omega)
          rw [show off+(k+1)=off+1+k by omega] at c1
          clear hc
          obtain ⟨d1,d2⟩:=HD.out (k+1) (by omega)
          obtain ⟨r1,r2⟩:=HSQ.out k hk HX.out
          obtain ⟨b1,b2⟩:=HB.out
          have hwr:PB P wr:=PB.le hB HBW.out.size
          have C1:Hid (∀ W,Hold4 W->Calls Tryz.prog 89 #[.int .i64 (d (k+1)),.int .i64 b] W fun e w'=>e=.returned (.tuple #[.int .i64 (fprod (d (k+1)) b),.int .i64 (prL (d (k+1)) b),.bool (pX (d (k+1)) b)])∧Below W.heap.size W w'):=fun W hW=>xtwoProd d1 b1 d2 b2 W hW
          have rt:rng (fprod (d (k+1)) b):=fprod_rng d1 b1
          have ru:rng (prL (d (k+1)) b):=prL_rng d1 b1
          have HP:Hid (pX (d (k+1)) b=true->pok (fprod (d (k+1)) b)=true∧pok (prL (d (k+1)) b)=true):=pX_fin d1 b1
          have HXS:Hid (sx d b (k+1)=(sx d b k && (pX (d (k+1)) b && (pok (sL (sq d b k) (prL (d (k+1)) b)) && fX (fprod (d (k+1)) b) (fsum (sq d b k) (prL (d (k+1)) b)))))):=sx_succ d b k
          have HQS:Hid (sq d b (k+1)=fsum (fprod (d (k+1)) b) (fsum (sq d b k) (prL (d (k+1)) b))):=sq_succ d b k
          have HSS:Hid (ss s d b (k+1)=((ss s d b k).add (sL (sq d b k) (prL (d (k+1)) b))).add (fL (fprod (d (k+1)) b) (fsum (sq d b k) (prL (d (k+1)) b)))):=ss_succ s d b k
          have HNO:Hid (sx d b (k+1)=false->sx d b N=false):=fun hno=>by
            cases hx:sx d b N
            . rfl
            . have:=sx_mono (show k+1<=N by omega) hx
              rw [hno] at this
              cases this
          generalize fprod (d (k+1)) b=t at *
          generalize prL (d (k+1)) b=u at *
          generalize pX (d (k+1)) b=x1 at *
          generalize d (k+1)=dk at *
          obtain ⟨qk,hqk⟩:∃ qk,sq d b k=qk:=⟨_,rfl⟩
          rw [hqk] at HXS HQS HSS r1 r2 ⊢
          obtain ⟨sk,hsk⟩:∃ sk,ss s d b k=sk:=⟨_,rfl⟩
          rw [hsk] at HL HSS hLk
          clear hqk hsk d1 d2 HSQ HD HSL
          have i0:(0:Int)<=(k:Int):=by omega
          have i1:(k:Int)<(N:Int):=by omega
          cases hx1:x1
          . rw [hx1] at C1
            have hno:sx d b N=false:=HNO.out (by rw [HXS.out,hx1]; simp)
            go_wp2_with fail
            refine (C1.out _ (HH.out _ HBW.out)).mono ?_
            rintro _ w3 ⟨rfl,hb3⟩
            go_wp2_with fail
            refine (xsure_no _ _ _).mono ?_
            rintro _ wz ⟨rfl,hw⟩
            replace hw:=hw.symm
            subst hw
            unfold gaveX
            go_wp2
            exact ⟨rfl,.inr ⟨hno,rfl,HBW.out.trans (BelP.of hb3 hwr)⟩⟩
          . rw [hx1] at C1
            obtain ⟨pt,pu⟩:=HP.out hx1
            have C2:Hid (∀ W,Calls Tryz.prog 157 #[.int .i64 qk,.int .i64 u] W fun e w'=>e=.returned (.tuple #[.int .i64 (fsum qk u),.int .i64 (sL qk u),.bool (pok (sL qk u))])∧Below W.heap.size W w'):=fun W=>xtwoSum r1 ru r2 pu W
            have rl1:rng (sL qk u):=sL_rng r1 ru
            have rq1:rng (fsum qk u):=fsum_rng r1 ru
            have HP2:Hid (pok (sL qk u)=true->pok (fsum qk u)=true):=fun hh=>(sL_exact r1 ru hh).2.1
            clear HP r1 r2 ru pu
            generalize sL qk u=l1 at *
            generalize fsum qk u=q1 at *
            cases hx2:pok l1
            . rw [hx2] at C2
              have hno:sx d b N=false:=HNO.out (by rw [HXS.out,hx2]; simp)
              go_wp2_with fail
              refine (C1.out _ (HH.out _ HBW.out)).mono ?_
              rintro _ w3 ⟨rfl,hb3⟩
              go_wp2_with fail
              refine (xsure_yes _ _ _).mono ?_
              rintro _ wz ⟨rfl,hw⟩
              replace hw:=hw.symm
              subst hw
              go_wp2_with fail
              refine (C2.out _).mono ?_
              rintro _ w4 ⟨rfl,hb4⟩
              go_wp2_with fail
              refine (xsure_no _ _ _).mono ?_
              rintro _ wz ⟨rfl,hw⟩
              replace hw:=hw.symm
              subst hw
              unfold gaveX
              go_wp2
              exact ⟨rfl,.inr ⟨hno,rfl,HBW.out.trans (BelP.of (bel_trans hb3 hb4) hwr)⟩⟩
            . rw [hx2] at C2
              have pq1:=HP2.out hx2
              have C3:Hid (∀ W,Calls Tryz.prog 170 #[.int .i64 t,.int .i64 q1] W fun e w'=>e=.returned (.tuple #[.int .i64 (fsum t q1),.int .i64 (fL t q1),.bool (fX t q1)])∧Below W.heap.size W w'):=fun W=>xfast rt rq1 pt pq1 W
              have rl2:rng (fL t q1):=fL_rng rt rq1
              have hA1:=(sk.add_le l1).2
              have CA1:Hid (∀ W,BelP P wr W->OutP P W hv sk->Calls Tryz.prog 169 #[hv,.int .i64 l1] W fun e w'=>∃ v',e=.returned v'∧OutP P w' v' (sk.add l1)∧BelP P W w'):=fun W hW hL=>xaddP W hL rl1 (by omega) (PB.le hwr hW.size)
              have CA2:Hid (∀ W v',BelP P wr W->OutP P W v' (sk.add l1)->Calls Tryz.prog 169 #[v',.int .i64 (fL t q1)] W fun e w'=>∃ v'',e=.returned v''∧OutP P w' v'' ((sk.add l1).add (fL t q1))∧BelP P W w'):=fun W v' hW hL=>xaddP W hL rl2 (by omega) (PB.le hwr hW.size)
              have HKP:Hid (∀ {W W' v' s'},OutP P W v' s'->Below W.heap.size W W'->OutP P W' v' s'):=fun {W W' v' s'} hL hW=>hL.stays hW
              clear HP2 rl1 rl2 rq1 rt pt pq1 b1 b2
              generalize fL t q1=l2 at *
              generalize fsum t q1=q2 at *
              cases hx3:fX t q1
              . rw [hx3] at C3
                have hno:sx d b N=false:=HNO.out (by rw [HXS.out,hx3]; simp)
                go_wp2_with fail
                refine (C1.out _ (HH.out _ HBW.out)).mono ?_
                rintro _ w3 ⟨rfl,hb3⟩
                go_wp2_with fail
                refine (xsure_yes _ _ _).mono ?_
                rintro _ wz ⟨rfl,hw⟩
                replace hw:=hw.symm
                subst hw
                go_wp2_with fail
                refine (C2.out _).mono ?_
                rintro _ w4 ⟨rfl,hb4⟩
                go_wp2_with fail
                refine (xsure_yes _ _ _).mono ?_
                rintro _ wz ⟨rfl,hw⟩
                replace hw:=hw.symm
                subst hw
                have hb34:=bel_trans hb3 hb4
                go_wp2_with fail
                refine (CA1.out _ (BelP.of hb34 hwr) (HKP.out HL.out hb34)).mono ?_
                rintro _ w5 ⟨v5,rfl,hL5,hb5⟩
                go_wp2_with fail
                refine (C3.out _).mono ?_
                rintro _ w6 ⟨rfl,hb6⟩
                go_wp2_with fail
                refine (xsure_no _ _ _).mono ?_
                rintro _ wz ⟨rfl,hw⟩
                replace hw:=hw.symm
                subst hw
                have hb56:=((BelP.of hb34 hwr).trans hb5).trans (BelP.of hb6 (PB.le hwr ((BelP.of hb34 hwr).trans hb5).size))
                unfold gaveX
                go_wp2
                exact ⟨rfl,.inr ⟨hno,rfl,HBW.out.trans hb56⟩⟩
              . rw [hx3] at C3
                have hyes:sx d b (k+1)=true:=by rw [HXS.out,HX.out,hx1,hx2,hx3]; rfl
                go_wp2_with fail
                refine (C1.out _ (HH.out _ HBW.out)).mono ?_
                rintro _ w3 ⟨rfl,hb3⟩
                go_wp2_with fail
                refine (xsure_yes _ _ _).mono ?_
                rintro _ wz ⟨rfl,hw⟩
                replace hw:=hw.symm
                subst hw
                go_wp2_with fail
                refine (C2.out _).mono ?_
                rintro _ w4 ⟨rfl,hb4⟩
                go_wp2_with fail
                refine (xsure_yes _ _ _).mono ?_
                rintro _ wz ⟨rfl,hw⟩
                replace hw:=hw.symm
                subst hw
                have hb34:=bel_trans hb3 hb4
                go_wp2_with fail
                refine (CA1.out _ (BelP.of hb34 hwr) (HKP.out HL.out hb34)).mono ?_
                rintro _ w5 ⟨v5,rfl,hL5,hb5⟩
                go_wp2_with fail
                refine (C3.out _).mono ?_
                rintro _ w6 ⟨rfl,hb6⟩
                go_wp2_with fail
                refine (xsure_yes _ _ _).mono ?_
                rintro _ wz ⟨rfl,hw⟩
                replace hw:=hw.symm
                subst hw
                have hb56:=((BelP.of hb34 hwr).trans hb5).trans (BelP.of hb6 (PB.le hwr ((BelP.of hb34 hwr).trans hb5).size))
                go_wp2_with fail
                refine (CA2.out _ _ hb56 (HKP.out hL5 hb6)).mono ?_
                rintro _ w7 ⟨v7,rfl,hL7,hb7⟩
                go_wp2
                go_roundw
                case rel=>exact ⟨k+1,_,by omega,by go_num,rfl,by rw [HQS.out],hyes,by show OutP _ _ _ _; rw [HSS.out]; exact hL7,HBW.out.trans (hb56.trans hb7)⟩
                case measure=>simp [intOf]; omega
        . obtain rfl:k=N:=by omega
          obtain ⟨r1,r2⟩:=HSQ.out k hk HX.out
          have hwr:PB P wr:=PB.le hB HBW.out.size
          have CA:Hid (∀ W,W=wr->Calls Tryz.prog 169 #[hv,.int .i64 (sq d b k)] W fun e w'=>∃ v',e=.returned v'∧OutP P w' v' (scl s d b k)∧BelP P W w'):=fun W hW=>by
            subst hW
            exact xaddP W HL.out r1 (by omega) hwr
          clear r1 r2
          generalize sq d b k=qk at *
          go_wp2_with fail
          refine (CA.out _ rfl).mono ?_
          rintro _ w3 ⟨v3,rfl,hL3,hb3⟩
          go_wp2
          go_ret
          exact .inl ⟨HX.out,v3,rfl,hL3,HBW.out.trans hb3⟩
theorem xscaleP_any {P:Nat->Prop} {v:Value} {d0:Nat->Int} {eo:Option Addr} {n ec:Nat} {d:Nat->Int} {b:Int} (w:World) (h:OutP P w v ⟨0,d0⟩) (hE:∀ W,BelP P w W->Row W eo n ec d) (hd:∀ i,i<n->rng (d i)∧pok (d i)=true) (hb:rng b) (pb:pok b=true) (hn:n<=300000) (hP:PB P w) (H:∀ W,BelP P w W->Hold4 W) :
    Calls Tryz.prog 131 #[v,.slice eo n ec,.int .i64 b] w fun e w'=>(sxN d b n=true∧∃ (v':Value) (s:Ls),e=.returned v'∧OutP P w' v' s∧s.same (sclN d b n)∧BelP P w w')∨(sxN d b n=false∧e=gaveX∧BelP P w w'):=by
  have hmx:=(hE w (BelP.refl _ _)).max
  have hle:=(hE w (BelP.refl _ _)).le
  cases n with
  | zero=>
    refine (xscale_empty w).mono ?_
    rintro e w' ⟨rfl,hw⟩
    subst hw
    exact .inl ⟨rfl,v,_,rfl,h,⟨rfl,fun i hi=>absurd hi (Nat.not_lt_zero _)⟩,BelP.refl _ _⟩
  | succ n=>
    by_cases h0:rg b=0
    . have e1:sxN d b (n+1)=true:=if_pos h0
      have e2:sclN d b (n+1)=⟨0,fun _=>0⟩:=if_pos h0
      rw [e1,e2]
      refine (xscale_nought w hb h0 (by omega)).mono ?_
      rintro e w' ⟨rfl,hw⟩
      subst hw
      exact .inl ⟨rfl,v,_,rfl,h,⟨rfl,fun i hi=>absurd hi (Nat.not_lt_zero _)⟩,BelP.refl _ _⟩
    . have e1:sxN d b (n+1)=sx d b n:=if_neg h0
      have e2:sclN d b (n+1)=scl ⟨0,fun _=>0⟩ d b n:=if_neg h0
      rw [e1,e2]
      refine (xscaleP w h hE (fun i hi=>hd i (by omega)) hb pb h0 (show 0+2*n<=700000 by omega) hP H).mono ?_
      rintro e w' (⟨h1,v',h2,h3,h4⟩ | ⟨h1,h2,h3⟩)
      . refine .inl ⟨h1,v',_,h2,h3,?_,h4⟩
        exact (ss_same (s:=⟨0,d0⟩) (t:=⟨0,fun _=>0⟩) ⟨rfl,fun i hi=>absurd hi (Nat.not_lt_zero _)⟩ d b n).add _
      . exact .inr ⟨h1,h2,h3⟩
def prS (d:Nat->Int) (n:Nat) (f:Nat->Int):Nat->Ls
  | 0=>⟨0,fun _=>0⟩
  | k+1=>gaS (prS d n f k) (sclN d (f k) n).d (sclN d (f k) n).n
def prX (d:Nat->Int) (n:Nat) (f:Nat->Int):Nat->Bool
  | 0=>true
  | k+1=>prX d n f k && (sxN d (f k) n && gaX (prS d n f k) (sclN d (f k) n).d (sclN d (f k) n).n)
theorem prS_succ (d:Nat->Int) (n:Nat) (f:Nat->Int) (k:Nat):prS d n f (k+1)=gaS (prS d n f k) (sclN d (f k) n).d (sclN d (f k) n).n:=rfl
theorem prX_succ (d:Nat->Int) (n:Nat) (f:Nat->Int) (k:Nat):prX d n f (k+1)=(prX d n f k && (sxN d (f k) n && gaX (prS d n f k) (sclN d (f k) n).d (sclN d (f k) n).n)):=rfl
theorem prS_le (d:Nat->Int) (n:Nat) (f:Nat->Int):∀ k,(prS d n f k).n<=2*n*k
  | 0=>Nat.zero_le _
  | k+1=>by
    have h1:=prS_le d n f k
    have h2:=gaS_le (prS d n f k) (sclN d (f k) n).d (sclN d (f k) n).n
    have h3:=sclN_le d (f k) n
    rw [prS_succ,Nat.mul_add]
    omega
theorem prX_mono {d:Nat->Int} {n:Nat} {f:Nat->Int}:∀ {k j},j<=k->prX d n f k=true->prX d n f j=true
  | 0,j,h,hx=>by
    obtain rfl:j=0:=by omega
    rfl
  | k+1,j,h,hx=>by
    by_cases e:j=k+1
    . subst e; exact hx
    . rw [prX_succ,Bool.and_eq_true] at hx
      exact prX_mono (by omega) hx.1
theorem ss_fin {s:Ls} {d:Nat->Int} {b:Int} {n:Nat} (hs:s.fin) (hd:∀ i,i<=n->rng (d i)∧pok (d i)=true) (hb:rng b):∀ k,k<=n->sx d b k=true->(ss s d b k).fin
  | 0,_,hx=>hs.add (prL_rng (hd 0 (by omega)).1 hb) (pX_fin (hd 0 (by omega)).1 hb hx).2
  | k+1,hk,hx=>by
    rw [sx_succ,Bool.and_eq_true,Bool.and_eq_true,Bool.and_eq_true] at hx
    obtain ⟨h1,h2,h3,h4⟩:=hx
    obtain ⟨r1,r2⟩:=sq_fin hd hb k (by omega) h1
    obtain ⟨d1,d2⟩:=hd (k+1) hk
    rw [ss_succ]
    exact ((ss_fin hs hd hb k (by omega) h1).add (sL_rng r1 (prL_rng d1 hb)) h3).add (fL_rng (fprod_rng d1 hb) (fsum_rng r1 (prL_rng d1 hb))) (fX_fin (fprod_rng d1 hb) (fsum_rng r1 (prL_rng d1 hb)) h4).2
theorem sclN_fin {d:Nat->Int} {b:Int} {n:Nat} (hd:∀ i,i<n->rng (d i)∧pok (d i)=true) (hb:rng b) (hx:sxN d b n=true):(sclN d b n).fin:=by
  cases n with
  | zero=>exact fun i hi=>absurd hi (Nat.not_lt_zero _)
  | succ n=>
    by_cases h0:rg b=0
    . have e2:sclN d b (n+1)=⟨0,fun _=>0⟩:=if_pos h0
      rw [e2]
      exact fun i hi=>absurd hi (Nat.not_lt_zero _)
    . have e1:sxN d b (n+1)=sx d b n:=if_neg h0
      have e2:sclN d b (n+1)=scl ⟨0,fun _=>0⟩ d b n:=if_neg h0
      rw [e1] at hx
      rw [e2]
      have hd':∀ i,i<=n->rng (d i)∧pok (d i)=true:=fun i hi=>hd i (by omega)
      obtain ⟨r1,r2⟩:=sq_fin hd' hb n (Nat.le_refl _) hx
      exact (ss_fin (fun i hi=>absurd hi (Nat.not_lt_zero _)) hd' hb n (Nat.le_refl _) hx).add r1 r2
theorem prS_fin {d:Nat->Int} {n:Nat} {f:Nat->Int} {m:Nat} (hd:∀ i,i<n->rng (d i)∧pok (d i)=true) (hf:∀ i,i<m->rng (f i)∧pok (f i)=true):∀ k,k<=m->prX d n f k=true->(prS d n f k).fin
  | 0,_,_=>fun i hi=>absurd hi (Nat.not_lt_zero _)
  | k+1,hk,hx=>by
    rw [prX_succ,Bool.and_eq_true,Bool.and_eq_true] at hx
    obtain ⟨h1,h2,h3⟩:=hx
    rw [prS_succ]
    exact gaS_fin (prS_fin hd hf k (by omega) h1) (sclN_fin hd (hf k (by omega)).1 h2) _ (Nat.le_refl _) h3
theorem Ls.same.fin {s t:Ls} (h:s.same t) (ht:t.fin):s.fin:=fun i hi=>by
  rw [h.2 i hi]
  exact ht i (by rw [<- h.1]; exact hi)
theorem BelP.below {P:Nat->Prop} {N:Nat} {w w':World} (h:BelP P w w') (hP:∀ k,k<N->P k):Below N w w':=⟨h.os,h.tape,h.output,h.size,fun k hk=>h.block k (hP k hk)⟩
theorem Out.belP {P:Nat->Prop} {N:Nat} {w w':World} {v:Value} {n:Nat} {d:Nat->Int} (h:Out N w v n d) (hb:BelP P w w') (hP:∀ g,v.ownBlock=some g->P g):Out N w' v n d:=h.of_block fun g hg=>hb.block g (hP g hg)
theorem OutP.raise {P:Nat->Prop} {N:Nat} {w:World} {v:Value} {s:Ls} (h:OutP P w v s) (hP:∀ k,k<N->P k):Out N w v s.n s.d:=by
  have h1:=h.1
  rcases h1.2 with q | ⟨g,cap,cur,q1,_,q3⟩
  . exact ⟨h1.1,.inl q⟩
  . refine ⟨h1.1,.inr ⟨g,cap,cur,q1,?_,q3⟩⟩
    have h2:=h.2 g (by rw [q1]; rfl)
    exact Nat.le_of_not_lt fun e=>h2 (hP g e)
set_option maxRecDepth 100000 in
set_option maxHeartbeats 2000000 in
theorem xproduct_any {eo fo:Option Addr} {n ec m fc:Nat} {d f:Nat->Int} (w:World) (h:Row w eo n ec d) (hf:Row w fo m fc f) (hd:∀ i,i<n->rng (d i)∧pok (d i)=true) (hff:∀ i,i<m->rng (f i)∧pok (f i)=true) (hn:n<=200) (hm:m<=200) (H:Hold4 w) :
    Calls Tryz.prog 93 #[.slice eo n ec,.slice fo m fc] w fun r w'=>XR w (prX d n f m) (prS d n f m) r w':=by
  have hle:=hf.le
  have hmx:=hf.max
  have HE:Hid (Row w eo n ec d):=h
  have HF:Hid (Row w fo m fc f):=hf
  have HD:Hid (∀ i,i<n->rng (d i)∧pok (d i)=true):=hd
  have HFF:Hid (∀ i,i<m->rng (f i)∧pok (f i)=true):=hff
  have HH:Hid (Hold4 w):=H
  have HSF:Hid (∀ k,k<=m->prX d n f k=true->(prS d n f k).fin):=prS_fin hd hff
  have HSL:Hid (∀ k,k<=m->(prS d n f k).n<=80000):=fun k hk=>Nat.le_trans (prS_le d n f k) (by
    have:2*n*k<=2*200*200:=Nat.mul_le_mul (by omega) (by omega)
    omega)
  clear h hf hd hff H
  go_enter Tryz.func93,Tryz.ntmps93
  go_wp2_with fail
  go_loopw [5,6,11] (fun hv pv iv wr=>∃ (k:Nat) (vh vp:Value) (sh sp:Ls),k<=m∧iv=.int .i64 k∧hv=vh∧pv=vp∧Hid (prX d n f k=true)∧Hid (sh.same (prS d n f k))∧Hid (Out w.heap.size wr vh sh.n sh.d)∧Hid (Out w.heap.size wr vp sp.n sp.d)∧Hid (∀ g,vp.ownBlock=some g->vh.ownBlock≠some g)∧Hid (Below w.heap.size w wr)) (fun _ _ iv _=>m-(intOf iv).toNat)
  case atStart=>exact ⟨0,_,_,⟨0,fun _=>0⟩,⟨0,fun _=>0⟩,Nat.zero_le _,rfl,rfl,rfl,rfl,Ls.same.refl _,Out.nil _ _ _,Out.nil _ _ _,fun g hg=>(by cases hg),Below.refl _ _⟩
  case round=>
    obtain ⟨k,vh,vp,sh,sp,hk,rfl,hve,hvp,HX,HS,HOH,HOP,HAP,HBW⟩:=hrel
    replace hve:=hve.symm
    subst hve
    replace hvp:=hvp.symm
    subst hvp
    by_cases hlt:k<m
    . obtain ⟨bb,off,rfl,hbb,hc⟩:=(HF.out.keeps HBW.out).spot (by omega)
      have c0:=hc k hlt
      clear hc
      obtain ⟨f1,f2⟩:=HFF.out k hlt
      obtain ⟨po,pc,rfl,hpr⟩:=HOP.out.row
      obtain ⟨ho,hcap,rfl,hhr⟩:=HOH.out.row
      have hpm:=hpr.max
      have hpl:=hpr.le
      clear hpr hhr
      have hsz:=HBW.out.size
      have hfin:=HS.out.fin (HSF.out k hk HX.out)
      have hn1:sh.n<=80000:=by rw [HS.out.1]; exact HSL.out k hk
      have HPB:Hid (PB (fun j=>j<w.heap.size∨(Value.slice ho sh.n hcap).ownBlock=some j) wr):=fun j hj=>by
        rcases hj with hj | hj
        . omega
        . exact (HOH.out.ge hj).2
      have CS:Hid (∀ W,W=wr->Calls Tryz.prog 131 #[.slice po 0 pc,.slice eo n ec,.int .i64 (f k)] W fun e w'=>(sxN d (f k) n=true∧∃ (v':Value) (s:Ls),e=.returned v'∧OutP (fun j=>j<w.heap.size∨(Value.slice ho sh.n hcap).ownBlock=some j) w' v' s∧s.same (sclN d (f k) n)∧BelP (fun j=>j<w.heap.size∨(Value.slice ho sh.n hcap).ownBlock=some j) W w')∨(sxN d (f k) n=false∧e=gaveX∧BelP (fun j=>j<w.heap.size∨(Value.slice ho sh.n hcap).ownBlock=some j) W w')):=fun W hW=>by
        subst hW
        refine xscaleP_any (d0:=sp.d) W ⟨(HOP.out.cut (Nat.zero_le _)).lower (Nat.zero_le _),fun j hj=>?_⟩ (fun W' hW'=>HE.out.keeps (HBW.out.trans (hW'.below fun j hj=>.inl hj))) HD.out f1 f2 (by omega) HPB.out (fun W' hW'=>HH.out.keeps (HBW.out.trans (hW'.below fun j hj=>.inl hj)))
        have hj':(Value.slice po sp.n pc).ownBlock=some j:=by cases po <;> exact hj
        rintro (h | h)
        . have:=(HOP.out.ge hj').1
          omega
        . exact HAP.out j hj' h
      have HXS:Hid (prX d n f (k+1)=(prX d n f k && (sxN d (f k) n && gaX (prS d n f k) (sclN d (f k) n).d (sclN d (f k) n).n))):=prX_succ d n f k
      have HSS:Hid (prS d n f (k+1)=gaS (prS d n f k) (sclN d (f k) n).d (sclN d (f k) n).n):=prS_succ d n f k
      have HNO:Hid (prX d n f (k+1)=false->prX d n f m=false):=fun hno=>by
        cases hx:prX d n f m
        . rfl
        . rw [prX_mono (show k+1<=m by omega) hx] at hno; cases hno
      have hn2:=sclN_le d (f k) n
      have HCF:Hid (sxN d (f k) n=true->(sclN d (f k) n).fin):=sclN_fin HD.out f1
      generalize sclN d (f k) n=SC at *
      generalize sxN d (f k) n=SX at *
      generalize f k=fk at *
      have i0:(0:Int)<=(k:Int):=by omega
      have i1:(k:Int)<(m:Int):=by omega
      go_wp2_with fail
      refine (CS.out _ rfl).mono ?_
      rintro _ w1 (⟨h1,v1,s1,rfl,hO1,hS1,hb1⟩ | ⟨h1,rfl,hb1⟩)
      . obtain ⟨qo,qc,rfl⟩:=hO1.shape
        have hO1N:Out w.heap.size w1 (.slice qo s1.n qc) s1.n s1.d:=hO1.raise fun j hj=>.inl hj
        have hH1:Out w.heap.size w1 (.slice ho sh.n hcap) sh.n sh.d:=HOH.out.belP hb1 fun g hg=>.inr hg
        have hB1:Below w.heap.size w w1:=HBW.out.trans (hb1.below fun j hj=>.inl hj)
        have hap1:∀ g,(Value.slice qo s1.n qc).ownBlock=some g->(Value.slice ho sh.n hcap).ownBlock≠some g:=fun g hg e=>hO1.2 g hg (.inr e)
        have hs1f:s1.fin:=hS1.fin (HCF.out h1)
        have hs1n:=hS1.1
        have HGS:Hid ((gaS sh s1.d s1.n).same (gaS (prS d n f k) SC.d SC.n)∧gaX sh s1.d s1.n=gaX (prS d n f k) SC.d SC.n):=by
          have:=gaS_same HS.out (m:=s1.n) (f:=s1.d) (g:=SC.d) hS1.2 s1.n (Nat.le_refl _)
          show _∧_
          rw [<- hS1.1]
          exact this
        have CG:Calls Tryz.prog 132 #[.slice ho sh.n hcap,.slice qo s1.n qc] w1 fun e w'=>(gaX sh s1.d s1.n=true∧∃ v',e=.returned v'∧OutP (fun j=>j<w.heap.size∨(Value.slice qo s1.n qc).ownBlock=some j) w' v' (gaS sh s1.d s1.n)∧BelP (fun j=>j<w.heap.size∨(Value.slice qo s1.n qc).ownBlock=some j) w1 w')∨(gaX sh s1.d s1.n=false∧e=gaveX∧BelP (fun j=>j<w.heap.size∨(Value.slice qo s1.n qc).ownBlock=some j) w1 w'):=by
          refine xgatherP w1 ⟨hH1.lower (Nat.zero_le _),fun j hj=>?_⟩ hfin (fun W hW=>?_) hs1f (by omega) (fun j hj=>?_)
          . rintro (h | h)
            . have:=(hH1.ge hj).1
              omega
            . exact hap1 j h hj
          . obtain ⟨_,_,e1,hR⟩:=(hO1N.belP hW fun g hg=>.inr hg).row
            simp only [Value.slice.injEq] at e1
            obtain ⟨rfl,_,rfl⟩:=e1
            exact hR
          . rcases hj with hj | hj
            . have:=hB1.size
              omega
            . exact (hO1N.ge hj).2
        have HO1:Hid (Out w.heap.size w1 (.slice qo s1.n qc) s1.n s1.d):=hO1N
        have HB1:Hid (Below w.heap.size w w1):=hB1
        have H1:Hid (SX=true):=h1
        clear hO1 hO1N hH1 hap1 hb1 hS1 hs1n hs1f h1 hfin CS
        generalize gaX sh s1.d s1.n=GX at *
        generalize gaS sh s1.d s1.n=GS at *
        go_wp2_with fail
        refine CG.mono ?_
        rintro _ w2 (⟨h2,v2,rfl,hO2,hb2⟩ | ⟨h2,rfl,hb2⟩)
        . obtain ⟨_,_,rfl⟩:=hO2.shape
          go_wp2
          go_roundw
          case rel=>exact ⟨k+1,_,_,GS,s1,by omega,by go_num,rfl,rfl,by show _=_; rw [HXS.out,HX.out,H1.out,<- HGS.out.2,h2]; rfl,by show Ls.same _ _; rw [HSS.out]; exact HGS.out.1,hO2.raise fun j hj=>.inl hj,HO1.out.belP hb2 fun g hg=>.inr hg,fun g hg e=>hO2.2 g e (.inr hg),HB1.out.trans (hb2.below fun j hj=>.inl hj)⟩
          case measure=>simp [intOf]; omega
        . unfold gaveX
          go_wp2
          exact ⟨rfl,.inr ⟨HNO.out (by rw [HXS.out,H1.out,<- HGS.out.2,h2]; simp),rfl⟩,HB1.out.trans (hb2.below fun j hj=>.inl hj)⟩
      . unfold gaveX
        go_wp2
        exact ⟨rfl,.inr ⟨HNO.out (by rw [HXS.out,h1,Bool.false_and,Bool.and_false]),rfl⟩,HBW.out.trans (hb1.below fun j hj=>.inl hj)⟩
    . obtain rfl:k=m:=by omega
      obtain ⟨ho,hcap,rfl,hhr⟩:=HOH.out.row
      clear hhr
      go_wp2
      go_ret
      refine ⟨.inl ⟨HX.out,_,rfl,.inl ?_⟩,HBW.out⟩
      have:=HOH.out.congr HS.out.2
      rw [HS.out.1] at this ⊢
      exact this
end Go.Proofs.YtmmnoneehiibiaaGreatDoor
namespace Go.Proofs.YtmmnoneehiibiaaGreatDoor
open Go Go.RowKit Go.Proofs.YtmmnoneehiibiaaGreatDoor.M Ieee
theorem pf_1 {T a b c d M:Int} (e:T=a+b+c+d) (hM:11*(T.natAbs:Int)<=10*M) (hb:33554432*(b.natAbs:Int)<=T.natAbs) (hc:33554432*(c.natAbs:Int)<=T.natAbs) (hd:33554432*(d.natAbs:Int)<=T.natAbs):(a.natAbs:Int)<=M∧1000*((T-a).natAbs:Int)<=T.natAbs∧1000*(a.natAbs:Int)<=1001*T.natAbs:=by omega
theorem pf_2 {T a H x M:Int} (hM:11*(T.natAbs:Int)<=10*M) (g:1000*((T-a).natAbs:Int)<=T.natAbs) (g2:1000*(a.natAbs:Int)<=1001*T.natAbs) (r1:1000*(H-T).natAbs<=T.natAbs) (r2:1000*(x-a).natAbs<=a.natAbs):((H-x).natAbs:Int)<=M∧300*((H-x).natAbs:Int)<=T.natAbs:=by omega
theorem pf_4 {T b x M:Int} (hM:11*(T.natAbs:Int)<=10*M) (hb:33554432*(b.natAbs:Int)<=T.natAbs) (r:1000*(x-b).natAbs<=b.natAbs):(b.natAbs:Int)<=M∧30000*(x.natAbs:Int)<=T.natAbs:=by omega
theorem pf_4a {T b M:Int} (hM:11*(T.natAbs:Int)<=10*M) (hb:33554432*(b.natAbs:Int)<=T.natAbs):(b.natAbs:Int)<=M:=by omega
theorem pf_5 {T t S x M:Int} (hM:11*(T.natAbs:Int)<=10*M) (g:300*(S.natAbs:Int)<=T.natAbs) (r1:1000*(t-S).natAbs<=S.natAbs) (hx:30000*(x.natAbs:Int)<=T.natAbs):((t-x).natAbs:Int)<=M∧290*((t-x).natAbs:Int)<=T.natAbs:=by omega
theorem pf_6 {T t S x M:Int} (hM:11*(T.natAbs:Int)<=10*M) (g:290*(S.natAbs:Int)<=T.natAbs) (r1:1000*(t-S).natAbs<=S.natAbs) (hx:30000*(x.natAbs:Int)<=T.natAbs):((t-x).natAbs:Int)<=M∧280*((t-x).natAbs:Int)<=T.natAbs:=by omega
theorem pf_7 {T t S x M:Int} (hM:11*(T.natAbs:Int)<=10*M) (g:280*(S.natAbs:Int)<=T.natAbs) (r1:1000*(t-S).natAbs<=S.natAbs) (hx:30000*(x.natAbs:Int)<=T.natAbs):((x-t).natAbs:Int)<=M:=by omega
theorem pf_sum {K T a b c d P Q R S x y:Int} (hK:0<K) (hx:x=P+Q) (hy:y=R+S) (hT:K*T=x*y) (e1:K*a=P*R) (e2:K*b=Q*R) (e3:K*c=P*S) (e4:K*d=Q*S):T=a+b+c+d:=by
  refine Int.eq_of_mul_eq_mul_left (Int.ne_of_gt hK) ?_
  rw [hT,Int.mul_add,Int.mul_add,Int.mul_add,e1,e2,e3,e4,hx,hy,Int.add_mul,Int.mul_add,Int.mul_add]
  exact dr0 _ _ _ _
theorem pf_two {a h l:Int} (H:Hlv a h l):(h.natAbs:Int)<=2*(a.natAbs:Int)∧(l.natAbs:Int)<=2*(a.natAbs:Int):=by
  have:=hlv_small H
  have:=H.sum
  omega
theorem prod_fin {p q T:Int} (hp:M.rng p) (hq:M.rng q) (pQ:pok (spL p)=true) (pS:pok (spL q)=true) (ph:pok (fprod p q)=true) (hT:2^1074*T=iV p*iV q) (hM:11*(T.natAbs:Int)<=10*maxV):pok (prL p q)=true:=by
  obtain ⟨pp,pP,ha⟩:=spL_exact hp pQ
  obtain ⟨pq,pR,hb⟩:=spL_exact hq pS
  obtain ⟨rP,rQ⟩:=sp_rng hp
  obtain ⟨rR,rS⟩:=sp_rng hq
  have rT1:M.rng (pT1 p q):=fsum_rng (fprod_rng hp hq) (neg_rng (fprod_rng rP rR))
  have rT2:M.rng (pT2 p q):=fsum_rng rT1 (neg_rng (fprod_rng rQ rR))
  have rT3:M.rng (pT3 p q):=fsum_rng rT2 (neg_rng (fprod_rng rP rS))
  have hd:(2^1074:Int) ∣ iV p*iV q:=⟨T,hT.symm⟩
  obtain ⟨i,j,eij,di,dj⟩:=dvd_split 1074 _ _ hd
  have dP:=ha.dvd i di
  have dR:=hb.dvd j dj
  have dQ:(2^i:Int) ∣ iV (spL p):=by have:=ha.sum; rw [show iV (spL p)=iV p-iV (spH p) by omega]; exact Int.dvd_sub di dP
  have dS:(2^j:Int) ∣ iV (spL q):=by have:=hb.sum; rw [show iV (spL q)=iV q-iV (spH q) by omega]; exact Int.dvd_sub dj dR
  obtain ⟨Tpr,e1⟩:=dvd_prod eij dP dR
  obtain ⟨Tqr,e2⟩:=dvd_prod eij dQ dR
  obtain ⟨Tps,e3⟩:=dvd_prod eij dP dS
  obtain ⟨Tqs,e4⟩:=dvd_prod eij dQ dS
  have hK:=p2 1074
  have es:=pf_sum hK ha.sum.symm hb.sum.symm hT e1 e2 e3 e4
  have s1:=hlv_small ha
  have s2:=hlv_small hb
  have t1:=pf_two ha
  have t2:=pf_two hb
  have b2:=pr_ratio hK hT e2 (pr_m1 s1 t2.1)
  have b3:33554432*(Tps.natAbs:Int)<=(T.natAbs:Int):=by
    refine pr_ratio hK hT e3 ?_
    rw [Int.mul_comm (iV (spH p)),Int.mul_comm (iV p)]
    exact pr_m1 s2 t1.1
  have b4:=pr_ratio hK hT e4 (pr_m1 s1 t2.2)
  have rH:=nr_rel ((stp_prod hp hq pp pq hT).nr ph)
  obtain ⟨c1,c2,c3⟩:=pf_1 es hM b2 b3 b4
  have X1:=stp_prod rP rR pP pR e1
  have p1:=X1.fin c1
  have Y1:=stp_diff (fprod_rng hp hq) (fprod_rng rP rR) ph p1
  obtain ⟨d1,d2⟩:=pf_2 hM c2 c3 rH (nr_rel (X1.nr p1))
  have q1:=Y1.fin d1
  have X2:=stp_prod rQ rR pQ pR e2
  have p2:=X2.fin (pf_4a hM b2)
  have x2:=(pf_4 hM b2 (nr_rel (X2.nr p2))).2
  have Y2:=stp_diff rT1 (fprod_rng rQ rR) q1 p2
  obtain ⟨d3,d4⟩:=pf_5 hM d2 (nr_rel (Y1.nr q1)) x2
  have q2:=Y2.fin d3
  have X3:=stp_prod rP rS pP pS e3
  have p3:=X3.fin (pf_4a hM b3)
  have x3:=(pf_4 hM b3 (nr_rel (X3.nr p3))).2
  have Y3:=stp_diff rT2 (fprod_rng rP rS) q2 p3
  obtain ⟨d5,d6⟩:=pf_6 hM d4 (nr_rel (Y2.nr q2)) x3
  have q3:=Y3.fin d5
  have X4:=stp_prod rQ rS pQ pS e4
  have p4:=X4.fin (pf_4a hM b4)
  have x4:=(pf_4 hM b4 (nr_rel (X4.nr p4))).2
  exact (stp_diff (fprod_rng rQ rS) rT3 p4 q3).fin (pf_7 hM d6 (nr_rel (Y3.nr q3)) x4)
theorem key_patS {g:Bool} {r:Int} (h0:0<=r) (h1:r<=9218868437227405312):key (patS g r)=sg g r:=by
  unfold key patS sg
  cases g
  . simp only [Bool.false_eq_true,if_false]
    rw [if_neg (by omega)]
  . simp only [if_true]
    rw [if_pos (by omega)]
    omega
theorem sg_pos2 (g:Bool) {r:Int} (h0:0<=r):sg (g && decide (0<r)) r=sg g r:=by
  by_cases c:0<r
  . rw [decide_eq_true c,Bool.and_true]
  . have:r=0:=by omega
    rw [this,sg_zero,sg_zero]
theorem same_pat {g k:Bool} {r:Int} (h0:0<=r) (h1:r<=9218868437227405312) (e:sg g r=sg k r):same (patS g r) (patS k r)=true:=by
  unfold same
  rw [decide_eq_false (patS_rng h0 h1).2,decide_eq_false (patS_rng h0 h1).2,key_patS h0 h1,key_patS h0 h1,decide_eq_true e]
  rfl
theorem k_sgn {ng:Bool} {A S:Int} (h0:0<=A) (h1:ng=true->0<A) (e:S=sg ng A):ng=decide (S<0):=by
  cases ng
  . have e:S=A:=e
    exact (decide_eq_false (by omega)).symm
  . have:=h1 rfl
    have e:S=-A:=e
    exact (decide_eq_true (by omega)).symm
theorem k_sg0 {ng:Bool} {A:Int} (h1:ng=true->0<A) (e:0=sg ng A):A=0∧ng=false:=by
  cases ng
  . exact ⟨e.symm,rfl⟩
  . have:=h1 rfl
    have e:0=-A:=e
    omega
theorem same_near {S h:Int} {g ng:Bool} {f:Int->Int × Bool} (hR:RdOf S ng f) (hh:(S=0∧h=patS g 0)∨(S≠0∧h=nearP S)):same h (f 0).1=true:=by
  obtain ⟨A,r0,left,eS,hA,hu,hf⟩:=hR
  rw [hf 0]
  have hA0:0<=A:=Int.le_trans (vS_nonneg r0) hu.lo
  rcases hh with ⟨e0,eh⟩ | ⟨e0,eh⟩
  . rw [e0] at eS
    obtain ⟨z1,z2⟩:=k_sg0 hA eS
    subst z1 z2
    obtain ⟨y1,y2⟩:=hu.unique rung_zero
    subst y1 y2
    rw [eh,rTo_zero]
    cases g <;> decide
  . obtain ⟨A',r0',left',eA,hu',eN⟩:=nearP_rung e0
    have eg:=k_sgn hA0 hA eS
    rw [<- eg] at eA eN
    have:A=A':=sg_inj (eS.symm.trans eA)
    rw [<- this] at hu'
    obtain ⟨y1,y2⟩:=hu.unique hu'
    subst y1 y2
    have hrr:=rTo_range 0 ng r0 left
    rw [eh,eN]
    exact same_pat hrr.1 hrr.2 (sg_pos2 ng hrr.1).symm
end Go.Proofs.YtmmnoneehiibiaaGreatDoor
namespace Go.Proofs.YtmmnoneehiibiaaGreatDoor
open Go Go.RowKit Go.Proofs.YtmmnoneehiibiaaGreatDoor.M
theorem si_all {d T:Nat->Int} {b:Int} {B N:Nat} (hd:XV d (N+1)) (rb:rng b) (hB1:(2^B:Int) ∣ iV b) (hB2:((iV b).natAbs:Int)<9007199254740992*2^B) (hT:PTs d T b (N+1)):∀ k,k<=N->sx d b k=true->SI d T B N k (ss ⟨0,fun _=>0⟩ d b k) (sq d b k)
  | 0,_,hx=>si_zero hd rb hB1 hB2 hT hx
  | k+1,hk,hx=>by
    rw [sx_succ,Bool.and_eq_true,Bool.and_eq_true,Bool.and_eq_true] at hx
    obtain ⟨h1,h2,h3,h4⟩:=hx
    have hfin:∀ i,i<=N->rng (d i)∧pok (d i)=true:=fun i hi=>⟨(hd.fin i (by omega)).1,(hd.fin i (by omega)).2.1⟩
    obtain ⟨r1,r2⟩:=sq_fin hfin rb k (by omega) h1
    rw [ss_succ,sq_succ]
    exact si_step hd rb hB1 hB2 hT (by omega) r1 r2 (si_all hd rb hB1 hB2 hT k (by omega) h1) h2 h3 h4
theorem odd_part {x:Int} (rx:rng x) (px:pok x=true) (zx:rg x≠0):∃ (t:Nat) (c:Int),iV x=2^t*c∧c % 2=1:=by
  have hm:=(iV_some rx px zx).2
  obtain ⟨j0,j1,j2,j3⟩:=pmag_in px
  obtain ⟨m,hmm,_,_⟩:=jz_spec (show 0<pmag x by omega) (by omega)
  have e2:=iV_form rx px
  have e3:((iV x).natAbs:Int)=2^(jz (pmag x)+(pexp x+1074).toNat)*(2*(m:Int)+1):=by
    rw [e2,Int.pow_add]
    calc pmag x*2^(pexp x+1074).toNat=2^jz (pmag x)*(2*(m:Int)+1)*2^(pexp x+1074).toNat:=by rw [<- hmm]
      _=_:=by rw [Int.mul_assoc,Int.mul_comm (2*(m:Int)+1),<- Int.mul_assoc]
  by_cases h:0<=iV x
  . exact ⟨jz (pmag x)+(pexp x+1074).toNat,2*(m:Int)+1,by rw [<- e3]; omega,by omega⟩
  . refine ⟨jz (pmag x)+(pexp x+1074).toNat,-(2*(m:Int)+1),?_,by omega⟩
    rw [Int.mul_neg]
    omega
theorem odd_cancel {s:Nat} {c Z:Int} (hc:c % 2=1) (h:(2^s:Int) ∣ c*Z):(2^s:Int) ∣ Z:=by
  induction s generalizing Z with
  | zero=>rw [Int.pow_zero]; exact Int.one_dvd _
  | succ s ih=>
    obtain ⟨a,ha⟩:=h
    rw [p2s,Int.mul_assoc] at ha
    have hZ:Z % 2=0:=by
      have h1:(c*Z) % 2=0:=by rw [ha]; omega
      rw [Int.mul_emod,hc] at h1
      omega
    obtain ⟨Y,rfl⟩:∃ Y,Z=2*Y:=⟨Z/2,by omega⟩
    have h2:(2^s:Int) ∣ c*Y:=⟨a,by
      have:c*(2*Y)=2*(c*Y):=by rw [Int.mul_left_comm]
      rw [this] at ha
      omega⟩
    obtain ⟨e,he⟩:=ih h2
    exact ⟨e,by rw [p2s,he,Int.mul_assoc]⟩
theorem fast_ok {d T:Nat->Int} {b:Int} {B N k:Nat} (hd:XV d (N+1)) (rb:rng b) (zb:iV b≠0) (hT:PTs d T b (N+1)) (hk:k<N) {L:Ls} {q:Int} (rq:rng q) (pq:pok q=true) (h:SI d T B N k L q)
    (hx1:pX (d (k+1)) b=true) (hx2:pok (sL q (prL (d (k+1)) b))=true):((iV (fsum q (prL (d (k+1)) b))).natAbs:Int)<=((iV (fprod (d (k+1)) b)).natAbs:Int):=by
  obtain ⟨rx,px,zx⟩:=hd.fin (k+1) (by omega)
  have hTk:=hT (k+1) (by omega)
  obtain ⟨pT,pu,eT,nT⟩:=prod_facts rx rb hx1 hTk
  have ru:=prL_rng rx rb
  have n1:=fsum_nr rq ru hx2
  obtain ⟨t,c,hxc,hc⟩:=odd_part rx px zx
  have xne:=hd.ne (show k+1<N+1 by omega)
  obtain ⟨s0,l1,l2⟩:=hd.lo k (by omega)
  have hs0:s0<=t:=by
    obtain ⟨m,hm⟩:∃ m,c=2*m+1:=⟨c/2,by omega⟩
    rw [hxc,hm] at l2
    exact odd_dvd l2
  have hlt:((iV (d k)).natAbs:Int)<2^t:=Int.lt_of_lt_of_le l1 (p2le hs0)
  -- the unit of the product
  obtain ⟨Z,hZ⟩:∃ Z,2^1074*Z=2^t*iV b:=by
    have h1:(2^1074:Int) ∣ c*(2^t*iV b):=⟨T (k+1),by
      rw [hTk,hxc,Int.mul_assoc,Int.mul_left_comm]⟩
    obtain ⟨Z,h2⟩:=odd_cancel hc h1
    exact ⟨Z,h2.symm⟩
  have hTZ:T (k+1)=c*Z:=by
    have:(2:Int)^1074*T (k+1)=2^1074*(c*Z):=by
      rw [hTk,hxc,Int.mul_left_comm (2^1074) c Z,hZ,Int.mul_assoc,Int.mul_left_comm]
    exact Int.eq_of_mul_eq_mul_left (Int.ne_of_gt (p2 1074)) this
  have fZ:Fl Z:=by
    have h1:=(fl_iV b).up t
    rw [<- hZ] at h1
    exact h1.down
  have hxk:XV d (k+1):=⟨fun i hi=>hd.fin i (by omega),fun i hi=>hd.lo i (by omega)⟩
  have hpt:((tsm T (k+1)).natAbs:Int)<(Z.natAbs:Int):=by
    have h1:=tsm_prod hT (k+1) (by omega)
    have h2:=lsm_lt hxk t hlt
    have e1:((2^1074*tsm T (k+1)).natAbs:Int)=2^1074*((tsm T (k+1)).natAbs:Int):=natAbs_p2 1074 _
    have e2:((2^1074*Z).natAbs:Int)=2^1074*(Z.natAbs:Int):=natAbs_p2 1074 _
    have e3:((2^t*iV b).natAbs:Int)=2^t*((iV b).natAbs:Int):=natAbs_p2 t _
    have e4:((lsm d (k+1)*iV b).natAbs:Int)=((lsm d (k+1)).natAbs:Int)*((iV b).natAbs:Int):=by rw [Int.natAbs_mul,Int.natCast_mul]
    rw [h1,e4] at e1
    rw [hZ,e3] at e2
    have e5:((lsm d (k+1)).natAbs:Int)*((iV b).natAbs:Int)<2^t*((iV b).natAbs:Int):=Int.mul_lt_mul_of_pos_right h2 (by omega)
    rw [e1,e2] at e5
    exact Int.lt_of_mul_lt_mul_left e5 (Int.le_of_lt (p2 1074))
  have hq:((iV q).natAbs:Int)<=(Z.natAbs:Int):=by
    have hsum:=h.sum
    by_cases hn:L.n=0
    . have:lsm L.d L.n=0:=by rw [hn]; rfl
      omega
    . obtain ⟨m,hm⟩:∃ m,L.n=m+1:=⟨L.n-1,by omega⟩
      obtain ⟨s,a1,a2,a3⟩:=h.up m (by omega)
      have hxL:=h.xv
      rw [hm] at hxL hsum
      have a4:=lsm_lt hxL s a1
      have a5:(2^s:Int) ∣ Z:=odd_cancel hc (by rw [<- hTZ]; exact a3 (k+1) (by omega) (by omega))
      apply Classical.byContradiction
      intro hno
      have a6:=mult_lt (u:=0) a5 (Int.dvd_natAbs.2 a2) (show (Z.natAbs:Int)<((iV q).natAbs:Int) by omega)
      omega
  have fZa:Fl (Z.natAbs:Int):=by
    by_cases h0:0<=Z
    . rw [show (Z.natAbs:Int)=Z by omega]; exact fZ
    . rw [show (Z.natAbs:Int)=-Z by omega]; exact fZ.neg
  have fTa:Fl ((iV (fprod (d (k+1)) b)).natAbs:Int):=by
    have f0:=fl_iV (fprod (d (k+1)) b)
    by_cases h0:0<=iV (fprod (d (k+1)) b)
    . rw [show ((iV (fprod (d (k+1)) b)).natAbs:Int)=iV (fprod (d (k+1)) b) by omega]; exact f0
    . rw [show ((iV (fprod (d (k+1)) b)).natAbs:Int)=-iV (fprod (d (k+1)) b) by omega]; exact f0.neg
  have hS:((iV q+iV (prL (d (k+1)) b)).natAbs:Int)<=((iV (fprod (d (k+1)) b)).natAbs:Int):=by
    rw [hTZ] at eT nT
    by_cases h1:c=1∨c=-1
    . have hTf:Fl (c*Z):=by
        rcases h1 with rfl | rfl
        . rw [Int.one_mul]; exact fZ
        . rw [Int.neg_mul,Int.one_mul]; exact fZ.neg
      have h2:=nr_self hTf nT
      have h3:((c*Z).natAbs:Int)=(Z.natAbs:Int):=by
        rcases h1 with rfl | rfl
        . rw [Int.one_mul]
        . rw [Int.neg_mul,Int.one_mul]; omega
      omega
    . have h2:=nr_rel nT
      have h3:3*(Z.natAbs:Int)<=((c*Z).natAbs:Int):=by
        rw [Int.natAbs_mul,Int.natCast_mul]
        exact Int.mul_le_mul_of_nonneg_right (by omega) (by omega)
      omega
  have g1:=nr_le n1 fTa (by omega)
  have g2:=nr_ge n1 fTa.neg (by omega)
  omega
def Mid (x:Int):Prop:=rng x∧pok x=true∧rg x≠0∧(2^822:Int) ∣ iV x∧((iV x).natAbs:Int)<=2^1250
theorem k_four (X a c:Int):X*a*(X*c)=X*X*(a*c):=by grind
theorem mid_T {x b:Int} (hx:Mid x) (hb:Mid b):∃ T,2^1074*T=iV x*iV b:=by
  obtain ⟨a,ha⟩:=hx.2.2.2.1
  obtain ⟨c,hc⟩:=hb.2.2.2.1
  have h1:(2^1074:Int) ∣ 2^822*2^822:=by rw [<- Int.pow_add]; exact p2dvd (by decide)
  obtain ⟨k,hk⟩:=h1
  refine ⟨k*(a*c),?_⟩
  rw [ha,hc,k_four,hk,Int.mul_assoc]
theorem mid_B {b:Int} (hb:Mid b):∃ B:Nat,(2^B:Int) ∣ iV b∧((iV b).natAbs:Int)<9007199254740992*2^B∧B<=1250:=by
  obtain ⟨B,h1,h2⟩:=fl_iV b
  refine ⟨B,h1,h2,?_⟩
  have h3:=dvd_abs_le h1 (iV_some hb.1 hb.2.1 hb.2.2.1).1 (p2 B)
  have h4:(2:Int)^B<2^(1250+1):=by
    rw [p2s]
    have:=hb.2.2.2.2
    have:=p2 1250
    omega
  have:=p2lt h4
  omega
theorem mid_lt {x:Int} (hx:Mid x):((iV x).natAbs:Int)<2^1251:=by
  have h:=hx.2.2.2.2
  have p:(2:Int)^1251=2*2^1250:=p2s 1250
  have:=p2 1250
  omega
theorem big_le {Y:Int} {g:Nat} (h:Y<9007199254740992*2^g) (hg:g<=1427):Y<=2^1480:=by
  have h1:(9007199254740992:Int)*2^g<=2^1480:=by
    have:(9007199254740992:Int)=2^53:=by decide
    rw [this,<- Int.pow_add]
    exact p2le (by omega)
  omega
theorem k_84 {X:Int} (h:X<=2^1480):16*X<=maxV:=by
  have h1:=maxV_ge
  have h2:(2:Int)^1484<=2^2097:=p2le (by decide)
  have h3:(2:Int)^1484=16*2^1480:=by
    rw [show 1484=1480+1+1+1+1 by decide,p2s,p2s,p2s,p2s]; omega
  omega
theorem sp_mid {x:Int} (hx:Mid x):pok (spL x)=true:=by
  refine sp_fin (B:=2^1250) hx.1 hx.2.1 hx.2.2.2.2 ?_
  have h1:=maxV_ge
  have h2:(2:Int)^1278<=2^2097:=p2le (by decide)
  have h3:(2:Int)^1278=268435456*2^1250:=by
    have:(268435456:Int)=2^28:=by decide
    rw [this,<- Int.pow_add]
  have:=p2 1250
  omega
theorem T_mid {x b T:Int} (hx:Mid x) (hb:Mid b) (hT:2^1074*T=iV x*iV b):(T.natAbs:Int)<=2^1480:=by
  obtain ⟨B,b1,b2,b3⟩:=mid_B hb
  have h1:=prod_lt (mid_lt hx) b1 b2 hT
  exact big_le (g:=1251+B-1074) (by have:=p2 (1251+B-1074); omega) (by omega)
theorem pX_mid {x b:Int} (hx:Mid x) (hb:Mid b):pX x b=true:=by
  obtain ⟨T,hT⟩:=mid_T hx hb
  have h2:=T_mid hx hb hT
  have h3:=k_84 h2
  have hf:=(stp_prod hx.1 hb.1 hx.2.1 hb.2.1 hT).fin (by omega)
  unfold pX
  rw [prod_fin hx.1 hb.1 (sp_mid hx) (sp_mid hb) hf hT (by omega),(reach_iff hx.1 hb.1 hx.2.1 hb.2.1).2 ⟨_,hT⟩]
  rfl
theorem sx_mid {d:Nat->Int} {b:Int} {N:Nat} (hd:XV d (N+1)) (hm:∀ j,j<=N->Mid (d j)) (hb:Mid b):∃ (T:Nat->Int) (B:Nat),PTs d T b (N+1)∧(2^B:Int) ∣ iV b∧((iV b).natAbs:Int)<9007199254740992*2^B∧B<=1250∧∀ k,k<=N->sx d b k=true∧((iV (sq d b k)).natAbs:Int)<=2^1480:=by
  obtain ⟨B,b1,b2,b3⟩:=mid_B hb
  have hex:∀ j,∃ t:Int,j<N+1->2^1074*t=iV (d j)*iV b:=fun j=>by
    by_cases h:j<N+1
    . obtain ⟨t,ht⟩:=mid_T (hm j (by omega)) hb
      exact ⟨t,fun _=>ht⟩
    . exact ⟨0,fun h'=>absurd h' h⟩
  obtain ⟨T,hT0⟩:=Classical.axiomOfChoice hex
  have hT:PTs d T b (N+1):=hT0
  clear hT0 hex
  refine ⟨T,B,hT,b1,b2,b3,fun k=>?_⟩
  have hfin:∀ i,i<=N->rng (d i)∧pok (d i)=true:=fun i hi=>⟨(hd.fin i (by omega)).1,(hd.fin i (by omega)).2.1⟩
  have bq:∀ k,k<=N->sx d b k=true->((iV (sq d b k)).natAbs:Int)<=2^1480:=fun k hk hx=>by
    have h:=si_all hd hb.1 b1 b2 hT k hk hx
    have h1:=lsm_all h.xv (h.small 1251 (mid_lt (hm k hk)))
    have hxk:XV d (k+1):=⟨fun i hi=>hd.fin i (by omega),fun i hi=>hd.lo i (by omega)⟩
    have h2:=prod_lt (lsm_lt hxk 1251 (mid_lt (hm k hk))) b1 b2 (tsm_prod hT (k+1) (by omega))
    have h3:=h.sum
    exact big_le (g:=1251+B-1074) (by generalize (2:Int)^(1251+B-1074)=Y at *; omega) (by omega)
  induction k with
  | zero=>
    intro hk
    have h0:sx d b 0=true:=pX_mid (hm 0 (by omega)) hb
    exact ⟨h0,bq 0 hk h0⟩
  | succ k ih=>
    intro hk
    obtain ⟨hx,hqb⟩:=ih (by omega)
    have h:=si_all hd hb.1 b1 b2 hT k (by omega) hx
    obtain ⟨rq,pq⟩:=sq_fin hfin hb.1 k (by omega) hx
    have x1:=pX_mid (hm (k+1) hk) hb
    have xT:=T_mid (hm (k+1) hk) hb (hT (k+1) (by omega))
    obtain ⟨rx,px⟩:=hfin (k+1) hk
    obtain ⟨pT,pu,eT,nT⟩:=prod_facts rx hb.1 x1 (hT (k+1) (by omega))
    have ru:=prL_rng rx hb.1
    have rT:=fprod_rng rx hb.1
    have z:=nT.2 0 fl_zero
    have k1:=k_84 hqb
    have k2:=k_84 xT
    obtain ⟨p1,pl1⟩:=sum_fin rq ru pq pu (by omega) (by omega)
    have r1:=fsum_rng rq ru
    have hab:=fast_ok hd hb.1 (iV_some hb.1 hb.2.1 hb.2.2.1).1 hT (by omega) rq pq h x1 pl1
    have p2':=(stp_sum rT r1 pT p1).fin (by omega)
    obtain ⟨pl2,e2⟩:=fL_fin rT r1 pT p1 p2' (by omega)
    have x3:fX (fprod (d (k+1)) b) (fsum (sq d b k) (prL (d (k+1)) b))=true:=by
      rw [fX_iff rT r1 pl2]
      exact decide_eq_true e2
    have hx':sx d b (k+1)=true:=by rw [sx_succ,hx,x1,pl1,x3]; rfl
    exact ⟨hx',bq (k+1) hk hx'⟩
theorem sclN_mid {d:Nat->Int} {b:Int} {n:Nat} (hd:XV d n) (hm:∀ j,j<n->Mid (d j)) (hb:Mid b):sxN d b n=true∧XV (sclN d b n).d (sclN d b n).n∧LB (sclN d b n) 1480∧2^1074*lsm (sclN d b n).d (sclN d b n).n=lsm d n*iV b:=by
  cases n with
  | zero=>exact ⟨rfl,⟨fun i hi=>absurd hi (Nat.not_lt_zero _),fun i hi=>absurd hi (Nat.not_lt_zero _)⟩,fun i hi=>absurd hi (Nat.not_lt_zero _),by show 2^1074*(0:Int)=0*iV b; rw [Int.mul_zero,Int.zero_mul]⟩
  | succ N=>
    have e1:sxN d b (N+1)=sx d b N:=if_neg hb.2.2.1
    have e2:sclN d b (N+1)=scl ⟨0,fun _=>0⟩ d b N:=if_neg hb.2.2.1
    rw [e1,e2]
    obtain ⟨T,B,hT,b1,b2,b3,hall⟩:=sx_mid hd (fun j hj=>hm j (by omega)) hb
    obtain ⟨hx,hq⟩:=hall N (Nat.le_refl _)
    have h:=si_all hd hb.1 b1 b2 hT N (Nat.le_refl _) hx
    have hfin:∀ i,i<=N->rng (d i)∧pok (d i)=true:=fun i hi=>⟨(hd.fin i (by omega)).1,(hd.fin i (by omega)).2.1⟩
    obtain ⟨rq,pq⟩:=sq_fin hfin hb.1 N (Nat.le_refl _) hx
    refine ⟨hx,h.xv.add rq pq fun i hi=>?_,LB.add (fun i hi=>?_) hq,?_⟩
    . obtain ⟨s,h1,h2,_⟩:=h.up i hi
      exact ⟨s,h1,h2⟩
    . have:=h.small 1251 (mid_lt (hm N (by omega))) i hi
      exact Int.le_trans (Int.le_of_lt this) (p2le (by omega))
    . show 2^1074*lsm ((ss ⟨0,fun _=>0⟩ d b N).add (sq d b N)).d ((ss ⟨0,fun _=>0⟩ d b N).add (sq d b N)).n=_
      rw [lsm_add rq,h.sum]
      exact tsm_prod hT (N+1) (Nat.le_refl _)
theorem gq_bd3 {d:Nat->Int} {q:Int} {n b:Nat} (hd:XV d n) (hq:rng q) (pq:pok q=true) (bd:∀ i,i<n->((iV (d i)).natAbs:Int)<=2^b) (bq:((iV q).natAbs:Int)<=2^b) (hb:b<=2080) :
    ∀ k,k<=n->gx d q k=true∧((iV (gq d q k)).natAbs:Int)<=2^(b+3)∧LB (gs d q k) b
  | 0,_=>⟨rfl,p2_up bq (by omega),fun i hi=>absurd hi (Nat.not_lt_zero _)⟩
  | k+1,hk=>by
    obtain ⟨h1,h2,h3⟩:=gq_bd3 hd hq pq bd bq hb k (by omega)
    have hfin:∀ i,i<n->rng (d i)∧pok (d i)=true:=fun i hi=>⟨(hd.fin i hi).1,(hd.fin i hi).2.1⟩
    obtain ⟨r1,r2⟩:=gq_fin hfin hq pq k (by omega) h1
    obtain ⟨d1,d2⟩:=hfin k (by omega)
    have b1:=bd k (by omega)
    have hM:=maxV_ge
    have p1:(2:Int)^(b+3+1)<=2^2097:=p2le (by omega)
    have p2':(2:Int)^(b+1)<=2^2097:=p2le (by omega)
    rw [p2s] at p1 p2'
    obtain ⟨f1,f2⟩:=sum_fin r1 d1 r2 d2 (by omega) (by omega)
    have nr:=fsum_nr r1 d1 f2
    have hx:gx d q (k+1)=true:=by
      show (gx d q k && pok (gl d q k))=true
      rw [h1]; exact f2
    have e:=(sL_exact r1 d1 f2).2.2
    have hl:=nr_loss (fl_iV (gq d q k)) nr
    have hLB:LB (gs d q (k+1)) b:=by
      show LB ((gs d q k).add (gl d q k)) b
      refine h3.add ?_
      show ((iV (sL (gq d q k) (d k))).natAbs:Int)<=_
      have:iV (sL (gq d q k) (d k))=iV (gq d q k)+iV (d k)-iV (fsum (gq d q k) (d k)):=by omega
      rw [this]
      omega
    refine ⟨hx,?_,hLB⟩
    have pb:(2:Int)^(b+1)=2*2^b:=p2s b
    have pp:=p2 b
    have g1:=lsm_all (gi_all hd hq pq (k+1) hk hx).xv (t:=b+1) (fun i hi=>by have:=hLB i hi; omega)
    have hxk:XV d (k+1):=⟨fun i hi=>hd.fin i (by omega),fun i hi=>hd.lo i (by omega)⟩
    have g2:=lsm_all hxk (t:=b+1) (fun i hi=>by have:=bd i (by omega); omega)
    have g3:=gs_sum hfin hq pq (k+1) hk hx
    have p8:(2:Int)^(b+3)=8*2^b:=by rw [show b+3=b+1+1+1 by omega,p2s,p2s,p2s]; omega
    rw [p8]
    omega
theorem gaS_all3 {s:Ls} {f:Nat->Int} {m b:Nat} (hs:XV s.d s.n) (hf:∀ i,i<m->rng (f i)∧pok (f i)=true) (bs:LB s b) (bf:∀ i,i<m->((iV (f i)).natAbs:Int)<=2^b) (hb:b+3*m<=2080) :
    ∀ k,k<=m->gaX s f k=true∧XV (gaS s f k).d (gaS s f k).n∧LB (gaS s f k) (b+3*k)∧lsm (gaS s f k).d (gaS s f k).n=lsm s.d s.n+lsm f k
  | 0,_=>⟨rfl,hs,bs,by show lsm s.d s.n=lsm s.d s.n+0; omega⟩
  | k+1,hk=>by
    obtain ⟨h1,h2,h3,h4⟩:=gaS_all3 hs hf bs bf hb k (by omega)
    obtain ⟨f1,f2⟩:=hf k (by omega)
    obtain ⟨g1,g2,g3⟩:=gq_bd3 h2 f1 f2 h3 (p2_up (bf k (by omega)) (by omega)) (by omega) (gaS s f k).n (Nat.le_refl _)
    rw [gaX_succ,gaS_succ,h1,g1,lsm_succ]
    refine ⟨rfl,grw_xv h2 f1 f2 g1,?_,?_⟩
    . show LB ((gs (gaS s f k).d (f k) (gaS s f k).n).add (gq (gaS s f k).d (f k) (gaS s f k).n)) _
      exact LB.add (fun i hi=>p2_up (g3 i hi) (by omega)) (p2_up g2 (by omega))
    . rw [grw_sum h2.fn f1 f2 g1,h4]
      omega
theorem pr_all {d f:Nat->Int} {n m:Nat} (hd:XV d n) (hm:∀ j,j<n->Mid (d j)) (hn:n<=6) (hf:∀ j,j<m->Mid (f j)) (hm6:m<=6) :
    ∀ k,k<=m->prX d n f k=true∧XV (prS d n f k).d (prS d n f k).n∧LB (prS d n f k) (1480+36*k)∧2^1074*lsm (prS d n f k).d (prS d n f k).n=lsm d n*lsm f k
  | 0,_=>⟨rfl,⟨fun i hi=>absurd hi (Nat.not_lt_zero _),fun i hi=>absurd hi (Nat.not_lt_zero _)⟩,fun i hi=>absurd hi (Nat.not_lt_zero _),by show 2^1074*(0:Int)=_*0; rw [Int.mul_zero,Int.mul_zero]⟩
  | k+1,hk=>by
    obtain ⟨h1,h2,h3,h4⟩:=pr_all hd hm hn hf hm6 k (by omega)
    obtain ⟨s1,s2,s3,s4⟩:=sclN_mid hd hm (hf k (by omega))
    have hl:=sclN_le d (f k) n
    obtain ⟨g1,g2,g3,g4⟩:=gaS_all3 h2 s2.fn (b:=1480+36*k) h3 (fun i hi=>p2_up (s3 i hi) (by omega)) (m:=(sclN d (f k) n).n) (by omega) (sclN d (f k) n).n (Nat.le_refl _)
    rw [prX_succ,prS_succ,h1,s1,g1,lsm_succ]
    refine ⟨rfl,g2,fun i hi=>p2_up (g3 i hi) (by omega),?_⟩
    rw [g4,Int.mul_add,h4,s4,Int.mul_add]
theorem lsm_sign {d:Nat->Int} {n:Nat} (h:XV d (n+1)):(0<lsm d (n+1) ↔ 0<iV (d n))∧(lsm d (n+1)<0 ↔ iV (d n)<0):=by
  have hne:=h.ne (show n<n+1 by omega)
  cases n with
  | zero=>
    have:lsm d 1=iV (d 0):=by rw [lsm_succ]; show 0+_=_; omega
    rw [this]; exact ⟨Iff.rfl,Iff.rfl⟩
  | succ n=>
    obtain ⟨s,h1,h2⟩:=h.lo n (by omega)
    have ih:=lsm_lt (n:=n) ⟨fun i hi=>h.fin i (by omega),fun i hi=>h.lo i (by omega)⟩ s h1
    have hge:=dvd_abs_le h2 hne (p2 s)
    rw [lsm_succ]
    omega
def Mz (x:Int):Prop:=rng x∧pok x=true∧(2^872:Int) ∣ iV x∧((iV x).natAbs:Int)<=2^1224
theorem tame_Mz {x:Int} (hx:rng x) (ht:tame x=true):Mz x:=by
  rw [tame_fld hx] at ht
  by_cases h0:rg x=0
  . have hc:=(cls_nought hx).2 h0
    have hp:pok x=true:=by
      cases hp:pok x
      . exfalso
        have hf:fld x=2047:=by simpa [pok] using hp
        unfold cls at hc
        rw [if_pos hf] at hc
        split at hc <;> omega
      . rfl
    rw [Mz,iV_nought hx h0]
    exact ⟨hx,hp,⟨0,by rw [Int.mul_zero]⟩,by have:=p2 1224; show (((0:Int).natAbs:Nat):Int)<=_; omega⟩
  . have hz:decide (rg x=0)=false:=decide_eq_false h0
    rw [hz,Bool.false_or,Bool.and_eq_true] at ht
    have h1:=of_decide_eq_true ht.1
    have h2:=of_decide_eq_true ht.2
    have hf0:fld x≠2047:=by omega
    have hf1:fld x≠0:=by omega
    have hp:pok x=true:=by simp [pok,hf0]
    have hfr:=frc_le x
    have e1:pmag x=4503599627370496+frc x:=by unfold pmag; rw [if_neg hf0,if_neg hf1]
    have e2:pexp x=fld x-1075:=by unfold pexp; rw [if_neg hf0,if_neg hf1]
    have hm:pmag x<=2^53:=by
      rw [e1]
      show _<=9007199254740992
      omega
    refine ⟨hx,hp,?_,?_⟩
    . apply Int.dvd_natAbs.1
      rw [iV_form hx hp]
      exact Int.dvd_trans (p2dvd (show 872<=(pexp x+1074).toNat by rw [e2]; omega)) ⟨pmag x,by rw [Int.mul_comm]⟩
    . rw [iV_form hx hp]
      have p1:(2:Int)^(pexp x+1074).toNat<=2^1171:=p2le (by rw [e2]; omega)
      have p0:=p2 (pexp x+1074).toNat
      calc pmag x*2^(pexp x+1074).toNat<=2^53*2^(pexp x+1074).toNat:=Int.mul_le_mul_of_nonneg_right hm (by omega)
        _<=2^53*2^1171:=Int.mul_le_mul_of_nonneg_left p1 (by decide)
        _=2^1224:=by rw [<- Int.pow_add]
def dfL (p q:Int):Ls:=((⟨0,fun _=>0⟩:Ls).add (sL p (neg q))).add (fsum p (neg q))
theorem df_fin {p q:Int} (hp:Mz p) (hq:Mz q):pok (fsum p (neg q))=true∧pok (sL p (neg q))=true:=by
  obtain ⟨n1,n2,n3⟩:=neg_facts hq.1 hq.2.1
  have hM:=maxV_ge
  have h1:(2:Int)^1225<=2^2097:=p2le (by decide)
  have h2:(2:Int)^1225=2*2^1224:=p2s 1224
  have a:=hp.2.2.2
  have b:=hq.2.2.2
  exact sum_fin hp.1 n1 hp.2.1 n2 (by omega) (by rw [n3]; omega)
theorem dfL_mid {p q:Int} (hp:Mz p) (hq:Mz q):XV (dfL p q).d (dfL p q).n∧(∀ j,j<(dfL p q).n->Mid ((dfL p q).d j))∧(dfL p q).n<=2∧lsm (dfL p q).d (dfL p q).n=iV p-iV q:=by
  obtain ⟨n1,n2,n3⟩:=neg_facts hq.1 hq.2.1
  obtain ⟨f1,f2⟩:=df_fin hp hq
  have nr:=fsum_nr hp.1 n1 f2
  have e:=(sL_exact hp.1 n1 f2).2.2
  have rh:=fsum_rng hp.1 n1
  have rl:rng (sL p (neg q)):=sL_rng hp.1 n1
  have hl:=nr_loss (fl_iV p) nr
  have z:=nr.2 0 fl_zero
  have dS:(2^872:Int) ∣ iV p+iV (neg q):=by
    rw [n3]
    exact Int.dvd_add hp.2.2.1 (Int.dvd_neg.2 hq.2.2.1)
  have dh:=nr_dvd nr dS
  have el:iV (sL p (neg q))=iV p+iV (neg q)-iV (fsum p (neg q)):=by omega
  have dl:(2^872:Int) ∣ iV (sL p (neg q)):=by rw [el]; exact Int.dvd_sub dS dh
  have a:=hp.2.2.2
  have b:=hq.2.2.2
  have pw1:(2:Int)^1226<=2^1250:=p2le (by decide)
  have pw2:(2:Int)^1226=4*2^1224:=by rw [show 1226=1224+1+1 by decide,p2s,p2s]; omega
  have up:(2^822:Int) ∣ 2^872:=p2dvd (by decide)
  have x0:XV (⟨0,fun _=>0⟩:Ls).d (⟨0,fun _=>0⟩:Ls).n:=⟨fun i hi=>absurd hi (Nat.not_lt_zero _),fun i hi=>absurd hi (Nat.not_lt_zero _)⟩
  have x1:=x0.add (b:=sL p (neg q)) rl f2 (fun i hi=>absurd hi (Nat.not_lt_zero _))
  refine ⟨x1.add rh f1 ?_,?_,?_,?_⟩
  . refine add_all (fun x=>Lo (iV x) (iV (fsum p (neg q)))) (fun i hi=>absurd hi (Nat.not_lt_zero _)) fun hz=>?_
    have hne:=(iV_some rl f2 hz).1
    obtain ⟨u,h1,h2⟩:=nr_unit nr (fun c=>hne (by omega))
    rw [<- el] at h2
    exact ⟨u,h2,h1⟩
  . refine add_all Mid (add_all Mid (fun i hi=>absurd hi (Nat.not_lt_zero _)) fun hz=>?_) fun hz=>?_
    . exact ⟨rl,f2,hz,Int.dvd_trans up dl,by rw [n3] at *; omega⟩
    . exact ⟨rh,f1,hz,Int.dvd_trans up dh,by rw [n3] at *; omega⟩
  . have h1:=((⟨0,fun _=>0⟩:Ls).add_le (sL p (neg q))).2
    have h2:=(((⟨0,fun _=>0⟩:Ls).add (sL p (neg q))).add_le (fsum p (neg q))).2
    have h1':((⟨0,fun _=>0⟩:Ls).add (sL p (neg q))).n<=0+1:=h1
    show (((⟨0,fun _=>0⟩:Ls).add (sL p (neg q))).add (fsum p (neg q))).n<=2
    omega
  . show lsm (((⟨0,fun _=>0⟩:Ls).add (sL p (neg q))).add (fsum p (neg q))).d (((⟨0,fun _=>0⟩:Ls).add (sL p (neg q))).add (fsum p (neg q))).n=_
    rw [lsm_add rh,lsm_add rl]
    show (0:Int)+_+_=_
    omega
theorem det_mid {ax ay bx by' cx cy:Int} (hax:Mz ax) (hay:Mz ay) (hbx:Mz bx) (hby:Mz by') (hcx:Mz cx) (hcy:Mz cy) :
    let L:=prS (dfL ax cx).d (dfL ax cx).n (dfL by' cy).d (dfL by' cy).n
    let R:=prS (dfL ay cy).d (dfL ay cy).n (dfL bx cx).d (dfL bx cx).n
    prX (dfL ax cx).d (dfL ax cx).n (dfL by' cy).d (dfL by' cy).n=true∧prX (dfL ay cy).d (dfL ay cy).n (dfL bx cx).d (dfL bx cx).n=true∧XV L.d L.n∧XV R.d R.n ∧
    gaX ⟨L.n,L.d⟩ (fun i=>neg (R.d i)) R.n=true∧XV (gaS ⟨L.n,L.d⟩ (fun i=>neg (R.d i)) R.n).d (gaS ⟨L.n,L.d⟩ (fun i=>neg (R.d i)) R.n).n ∧
    2^1074*lsm (gaS ⟨L.n,L.d⟩ (fun i=>neg (R.d i)) R.n).d (gaS ⟨L.n,L.d⟩ (fun i=>neg (R.d i)) R.n).n=(iV ax-iV cx)*(iV by'-iV cy)-(iV ay-iV cy)*(iV bx-iV cx):=by
  intro L R
  obtain ⟨u1,u2,u3,u4⟩:=dfL_mid hax hcx
  obtain ⟨v1,v2,v3,v4⟩:=dfL_mid hby hcy
  obtain ⟨s1,s2,s3,s4⟩:=dfL_mid hay hcy
  obtain ⟨t1,t2,t3,t4⟩:=dfL_mid hbx hcx
  obtain ⟨l1,l2,l3,l4⟩:=pr_all u1 u2 (by omega) v2 (by omega) (dfL by' cy).n (Nat.le_refl _)
  obtain ⟨r1,r2,r3,r4⟩:=pr_all s1 s2 (by omega) t2 (by omega) (dfL bx cx).n (Nat.le_refl _)
  rw [u4,v4] at l4
  rw [s4,t4] at r4
  have hRn:R.n<=8:=Nat.le_trans (prS_le _ _ _ _) (by
    have:2*(dfL ay cy).n*(dfL bx cx).n<=2*2*2:=Nat.mul_le_mul (by omega) (by omega)
    omega)
  have hnf:∀ i,i<R.n->rng (neg (R.d i))∧pok (neg (R.d i))=true:=fun i hi=>⟨(neg_facts (r2.fn i hi).1 (r2.fn i hi).2).1,(neg_facts (r2.fn i hi).1 (r2.fn i hi).2).2.1⟩
  obtain ⟨g1,g2,_,g4⟩:=gaS_all3 (s:=⟨L.n,L.d⟩) (f:=fun i=>neg (R.d i)) (m:=R.n) (b:=1552) l2 hnf (fun i hi=>p2_up (l3 i hi) (by omega)) (fun i hi=>by
    show ((iV (neg (R.d i))).natAbs:Int)<=_
    rw [(neg_facts (r2.fn i hi).1 (r2.fn i hi).2).2.2]
    have:=p2_up (r3 i hi) (show 1480+36*(dfL bx cx).n<=1552 by omega)
    omega) (by omega) R.n (Nat.le_refl _)
  refine ⟨l1,r1,l2,r2,g1,g2,?_⟩
  rw [g4,lsm_neg r2.fn]
  have e1:2^1074*lsm L.d L.n=(iV ax-iV cx)*(iV by'-iV cy):=l4
  have e2:2^1074*lsm R.d R.n=(iV ay-iV cy)*(iV bx-iV cx):=r4
  rw [Int.mul_add,Int.mul_neg,e1,e2]
  omega
end Go.Proofs.YtmmnoneehiibiaaGreatDoor
