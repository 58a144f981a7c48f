/-
  Parts of the proof, one behind another.
-/
import Derived.Test.YtafnigjehkpggaaGreatDoorPart13
import Derived.Test.YtafnigjehkpggaaGreatDoorPart12
import Derived.Test.YtafnigjehkpggaaGreatDoorPart7
import Derived.Lib.AppendZerosOnto
namespace Go.Proofs.YtafnigjehkpggaaGreatDoor
open Go Go.RowKit Go.Proofs.YtafnigjehkpggaaGreatDoor.M
set_option linter.unusedSimpArgs false
set_option linter.unusedVariables false
def PTs (d T:Nat->Int) (b:Int) (n:Nat):Prop:=∀ j,j < n->2 ^ 1074 * T j=iV (d j) * iV b
def tsm (T:Nat->Int):Nat->Int
  | 0=>0
  | k + 1=>tsm T k + T k
theorem tsm_succ (T:Nat->Int) (k:Nat):tsm T (k + 1)=tsm T k + T k:=rfl
theorem tsm_prod {d T:Nat->Int} {b:Int} {n:Nat} (h:PTs d T b n):∀ k,k <= n->2 ^ 1074 * tsm T k=lsm d k * iV b
  | 0,_=>by show 2 ^ 1074 * (0:Int)=0 * iV b; rw [Int.mul_zero,Int.zero_mul]
  | k + 1,hk=>by rw [tsm_succ,lsm_succ,Int.mul_add,Int.add_mul,tsm_prod h k (by omega),h k (by omega)]
theorem dvd_units {t B:Nat} {x b T:Int} (hx:(2 ^ t:Int) ∣ x) (hb:(2 ^ B:Int) ∣ b) (hT:2 ^ 1074 * T=x * b):(2 ^ (t + B - 1074):Int) ∣ T:=by
  by_cases h:t + B <= 1074
  . rw [Nat.sub_eq_zero_of_le h,Int.pow_zero]; exact Int.one_dvd _
  . obtain ⟨a,ha⟩:=hx
    obtain ⟨c,hc⟩:=hb
    refine ⟨a * c,?_⟩
    have e:(2:Int) ^ 1074 * T=2 ^ 1074 * (2 ^ (t + B - 1074) * (a * c)):=by
      rw [hT,ha,hc,<- Int.mul_assoc (2 ^ 1074),<- Int.pow_add,show 1074 + (t + B - 1074)=t + B by omega,Int.pow_add]
      generalize (2:Int) ^ t=X
      generalize (2:Int) ^ B=Y
      grind
    exact Int.eq_of_mul_eq_mul_left (Int.ne_of_gt (p2 1074)) e
theorem fl_top {b:Int} {B:Nat} (h1:(2 ^ B:Int) ∣ b) (h2:(b.natAbs:Int) < 9007199254740992 * 2 ^ B):(b.natAbs:Int) <= 9007199254740991 * 2 ^ B:=by
  have h3:=mult_lt (u:=0) h1 (⟨9007199254740992,by rw [Int.mul_comm]⟩:(2 ^ B:Int) ∣ 9007199254740992 * 2 ^ B) h2
  generalize (2:Int) ^ B=Y at *
  omega
theorem k_prod2 {A C X Y M:Int} (hA:0 <= A) (hC:0 <= C) (h1:A <= X - 1) (h2:C <= M * Y) (hM:0 < M) (hY:0 < Y):A * C < X * Y * M:=by
  have e1:A * C <= (X - 1) * C:=Int.mul_le_mul_of_nonneg_right h1 hC
  have e2:(X - 1) * C <= (X - 1) * (M * Y):=Int.mul_le_mul_of_nonneg_left h2 (by omega)
  have e3:0 < M * Y:=Int.mul_pos hM hY
  have e4:(X - 1) * (M * Y)=X * Y * M - M * Y:=by grind
  omega
theorem prod_lt {t B:Nat} {x b T:Int} (hx:(x.natAbs:Int) < 2 ^ t) (h1:(2 ^ B:Int) ∣ b) (h2:(b.natAbs:Int) < 9007199254740992 * 2 ^ B) (hT:2 ^ 1074 * T=x * b):(T.natAbs:Int) < 9007199254740991 * 2 ^ (t + B - 1074):=by
  have h3:=fl_top h1 h2
  have e1:((2 ^ 1074 * T).natAbs:Int)=2 ^ 1074 * (T.natAbs:Int):=natAbs_p2 1074 T
  have e2:((x * b).natAbs:Int)=(x.natAbs:Int) * (b.natAbs:Int):=by rw [Int.natAbs_mul,Int.natCast_mul]
  have e3:=k_prod2 (A:=(x.natAbs:Int)) (C:=(b.natAbs:Int)) (X:=2 ^ t) (Y:=2 ^ B) (M:=9007199254740991) (by omega) (by omega) (by omega) h3 (by decide) (p2 B)
  rw [<- e2,<- hT,e1,<- Int.pow_add] at e3
  have e4:(2:Int) ^ (t + B) <= 2 ^ (1074 + (t + B - 1074)):=p2le (by omega)
  rw [Int.pow_add 2 1074] at e4
  have e5:(2:Int) ^ (t + B) * 9007199254740991 <= 2 ^ 1074 * 2 ^ (t + B - 1074) * 9007199254740991:=Int.mul_le_mul_of_nonneg_right e4 (by decide)
  have e6:(2:Int) ^ 1074 * (T.natAbs:Int) < 2 ^ 1074 * (9007199254740991 * 2 ^ (t + B - 1074)):=by
    refine Int.lt_of_lt_of_le e3 (Int.le_trans e5 ?_)
    rw [Int.mul_assoc,Int.mul_comm (2 ^ (t + B - 1074)) 9007199254740991]
    exact Int.le_refl _
  exact Int.lt_of_mul_lt_mul_left e6 (Int.le_of_lt (p2 1074))
theorem add_all {L:Ls} {l:Int} (P:Int->Prop) (h:∀ i,i < L.n->P (L.d i)) (hl:rg l ≠ 0->P l):∀ i,i < (L.add l).n->P ((L.add l).d i):=by
  intro i
  unfold Ls.add
  split
  . exact h i
  . rename_i hz
    intro hi
    have hi':i < L.n + 1:=hi
    show P (upd L.d L.n l i)
    by_cases e:i=L.n
    . subst e; rw [upd_same]; exact hl hz
    . rw [upd_other _ _ e]; exact h i (by omega)
theorem lsm_all {d:Nat->Int} {n t:Nat} (h:XV d n) (ht:∀ i,i < n->((iV (d i)).natAbs:Int) < 2 ^ t):((lsm d n).natAbs:Int) < 2 ^ t:=by
  cases n with
  | zero=>have:=p2 t; show (((0:Int).natAbs:Nat):Int) < _; omega
  | succ n=>exact lsm_lt h t (ht n (by omega))
structure SI (d T:Nat->Int) (B N k:Nat) (L:Ls) (q:Int):Prop where
  xv:XV L.d L.n
  sum:lsm L.d L.n + iV q=tsm T (k + 1)
  up:∀ i,i < L.n->∃ s:Nat,((iV (L.d i)).natAbs:Int) < 2 ^ s∧(2 ^ s:Int) ∣ iV q∧∀ j,k < j->j <= N->(2 ^ s:Int) ∣ T j
  small:∀ t:Nat,((iV (d k)).natAbs:Int) < 2 ^ t->∀ i,i < L.n->((iV (L.d i)).natAbs:Int) < 2 ^ (t + B - 1074)
theorem xv_next {d T:Nat->Int} {b:Int} {B N k:Nat} (hd:XV d (N + 1)) (hB1:(2 ^ B:Int) ∣ iV b) (hT:PTs d T b (N + 1)) (hk:k <= N):∃ t:Nat,((iV (d k)).natAbs:Int) < 2 ^ t∧∀ j,k < j->j <= N->(2 ^ (t + B - 1074):Int) ∣ T j:=by
  by_cases h:k < N
  . obtain ⟨t,k1,k2⟩:=hd.lo k (by omega)
    refine ⟨t,k1,fun j hj hjn=>dvd_units ?_ hB1 (hT j (by omega))⟩
    by_cases e:j=k + 1
    . subst e; exact k2
    . obtain ⟨t2,m1,m2⟩:=hd.far (show k + 1 < j by omega) (by omega)
      have h4:=dvd_abs_le k2 (hd.ne (by omega)) (p2 t)
      have h5:t < t2:=p2lt (Int.lt_of_le_of_lt h4 m1)
      exact Int.dvd_trans (p2dvd (by omega)) m2
  . refine ⟨(iV (d k)).natAbs,?_,fun j hj hjn=>by omega⟩
    have:(iV (d k)).natAbs < 2 ^ (iV (d k)).natAbs:=Nat.lt_two_pow_self
    have h2:(((iV (d k)).natAbs:Nat):Int) < ((2 ^ (iV (d k)).natAbs:Nat):Int):=by omega
    rwa [k_pow] at h2
theorem half_lt {x:Int} {g:Nat} (h:2 * (x.natAbs:Int) <= 2 ^ g):(x.natAbs:Int) < 2 ^ g:=by
  have:=p2 g
  omega
theorem prod_facts {x b T:Int} (rx:rng x) (rb:rng b) (hx:pX x b=true) (hT:2 ^ 1074 * T=iV x * iV b):pok (fprod x b)=true∧pok (prL x b)=true∧iV (fprod x b) + iV (prL x b)=T∧Nr T (iV (fprod x b)):=by
  unfold pX at hx
  rw [Bool.and_eq_true] at hx
  obtain ⟨⟨px,pb⟩,pf,e⟩:=prL_exact rx rb hx.1 hT
  exact ⟨pf,hx.1,e,(stp_prod rx rb px pb hT).nr pf⟩
theorem si_zero {d T:Nat->Int} {b:Int} {B N:Nat} (hd:XV d (N + 1)) (rb:rng b) (hB1:(2 ^ B:Int) ∣ iV b) (hB2:((iV b).natAbs:Int) < 9007199254740992 * 2 ^ B) (hT:PTs d T b (N + 1)) (hx:pX (d 0) b=true):SI d T B N 0 ((⟨0,fun _=>0⟩:Ls).add (prL (d 0) b)) (fprod (d 0) b):=by
  obtain ⟨r0,p0,z0⟩:=hd.fin 0 (by omega)
  obtain ⟨pf,pl,e,nr⟩:=prod_facts r0 rb hx (hT 0 (by omega))
  have rl:=prL_rng r0 rb
  have small:∀ t:Nat,((iV (d 0)).natAbs:Int) < 2 ^ t->((iV (prL (d 0) b)).natAbs:Int) < 2 ^ (t + B - 1074):=fun t ht=>by
    have h1:=prod_lt ht hB1 hB2 (hT 0 (by omega))
    have h2:=nr_err nr (i:=t + B - 1074) (by have:=p2 (t + B - 1074); omega)
    have h3:iV (prL (d 0) b)=T 0 - iV (fprod (d 0) b):=by omega
    refine half_lt ?_
    rw [h3]
    omega
  refine ⟨XV.add ⟨fun i hi=>absurd hi (Nat.not_lt_zero _),fun i hi=>absurd hi (Nat.not_lt_zero _)⟩ rl pl (fun i hi=>absurd hi (Nat.not_lt_zero _)),?_,?_,fun t ht=>add_all (fun x=>((iV x).natAbs:Int) < 2 ^ (t + B - 1074)) (fun i hi=>absurd hi (Nat.not_lt_zero _)) fun _=>small t ht⟩
  . rw [lsm_add rl,tsm_succ]
    show (0:Int) + _ + _=0 + _
    omega
  . refine add_all (fun x=>∃ s:Nat,((iV x).natAbs:Int) < 2 ^ s∧(2 ^ s:Int) ∣ iV (fprod (d 0) b)∧∀ j,0 < j->j <= N->(2 ^ s:Int) ∣ T j) (fun i hi=>absurd hi (Nat.not_lt_zero _)) fun hz=>?_
    have hne:=(iV_some rl pl hz).1
    obtain ⟨u,h1,h2⟩:=nr_unit nr (fun c=>hne (by omega))
    obtain ⟨t,k1,k2⟩:=xv_next hd hB1 hT (k:=0) (by omega)
    have h3:=small t k1
    have h4:iV (prL (d 0) b)=T 0 - iV (fprod (d 0) b):=by omega
    rw [<- h4] at h2
    by_cases hut:u <= t + B - 1074
    . exact ⟨u,h2,h1,fun j hj hjn=>Int.dvd_trans (p2dvd hut) (k2 j hj hjn)⟩
    . exact ⟨t + B - 1074,h3,Int.dvd_trans (p2dvd (by omega)) h1,k2⟩
theorem si_step {d T:Nat->Int} {b:Int} {B N k:Nat} (hd:XV d (N + 1)) (rb:rng b) (hB1:(2 ^ B:Int) ∣ iV b) (hB2:((iV b).natAbs:Int) < 9007199254740992 * 2 ^ B) (hT:PTs d T b (N + 1)) (hk:k < N) {L:Ls} {q:Int} (rq:rng q) (pq:pok q=true) (h:SI d T B N k L q)
    (hx1:pX (d (k + 1)) b=true) (hx2:pok (sL q (prL (d (k + 1)) b))=true) (hx3:fX (fprod (d (k + 1)) b) (fsum q (prL (d (k + 1)) b))=true) :
    SI d T B N (k + 1) ((L.add (sL q (prL (d (k + 1)) b))).add (fL (fprod (d (k + 1)) b) (fsum q (prL (d (k + 1)) b)))) (fsum (fprod (d (k + 1)) b) (fsum q (prL (d (k + 1)) b))):=by
  obtain ⟨rx,px,zx⟩:=hd.fin (k + 1) (by omega)
  have xne:=hd.ne (show k + 1 < N + 1 by omega)
  have hTk:=hT (k + 1) (by omega)
  obtain ⟨pT,pu,eT,nT⟩:=prod_facts rx rb hx1 hTk
  have ru:=prL_rng rx rb
  have rT:=fprod_rng rx rb
  have n1:=fsum_nr rq ru hx2
  obtain ⟨_,p1,e1⟩:=sL_exact rq ru hx2
  have r1:=fsum_rng rq ru
  have rl1:rng (sL q (prL (d (k + 1)) b)):=sL_rng rq ru
  obtain ⟨p2',pl2⟩:=fX_fin rT r1 hx3
  have e2:iV (fsum (fprod (d (k + 1)) b) (fsum q (prL (d (k + 1)) b))) + iV (fL (fprod (d (k + 1)) b) (fsum q (prL (d (k + 1)) b)))=iV (fprod (d (k + 1)) b) + iV (fsum q (prL (d (k + 1)) b)):=by
    have:=fX_iff rT r1 pl2
    rw [hx3] at this
    exact of_decide_eq_true this.symm
  have n2:=(stp_sum rT r1 pT p1).nr p2'
  have rl2:rng (fL (fprod (d (k + 1)) b) (fsum q (prL (d (k + 1)) b))):=fL_rng rT r1
  obtain ⟨hxv,hsum,hup,hsmall⟩:=h
  have hl1:=nr_loss (fl_iV q) n1
  generalize fL (fprod (d (k + 1)) b) (fsum q (prL (d (k + 1)) b))=l2 at *
  generalize fsum (fprod (d (k + 1)) b) (fsum q (prL (d (k + 1)) b))=q2 at *
  generalize sL q (prL (d (k + 1)) b)=l1 at *
  generalize fsum q (prL (d (k + 1)) b)=q1 at *
  generalize prL (d (k + 1)) b=u at *
  generalize fprod (d (k + 1)) b=Tp at *
  have eu:iV u=T (k + 1) - iV Tp:=by omega
  have el1:iV l1=iV q + iV u - iV q1:=by omega
  have el2:iV l2=iV Tp + iV q1 - iV q2:=by omega
  rw [<- el1] at hl1
  have hold:∀ i,i < L.n->∃ s:Nat,((iV (L.d i)).natAbs:Int) < 2 ^ s∧(2 ^ s:Int) ∣ iV l1∧(2 ^ s:Int) ∣ iV l2∧(2 ^ s:Int) ∣ iV q2∧∀ j,k + 1 < j->j <= N->(2 ^ s:Int) ∣ T j:=fun i hi=>by
    obtain ⟨s,h1,h2,h3⟩:=hup i hi
    have d1:=h3 (k + 1) (by omega) (by omega)
    have d2:=nr_dvd nT d1
    have d3:(2 ^ s:Int) ∣ iV u:=by rw [eu]; exact Int.dvd_sub d1 d2
    have d4:(2 ^ s:Int) ∣ iV q + iV u:=Int.dvd_add h2 d3
    have d5:=nr_dvd n1 d4
    have d6:(2 ^ s:Int) ∣ iV Tp + iV q1:=Int.dvd_add d2 d5
    have d7:=nr_dvd n2 d6
    exact ⟨s,h1,by rw [el1]; exact Int.dvd_sub d4 d5,by rw [el2]; exact Int.dvd_sub d6 d7,d7,fun j hj hjn=>h3 j (by omega) hjn⟩
  have hxv1:XV (L.add l1).d (L.add l1).n:=hxv.add rl1 hx2 fun i hi=>by
    obtain ⟨s,h1,h2,_⟩:=hold i hi
    exact ⟨s,h1,h2⟩
  have hu:∀ t:Nat,((iV (d (k + 1))).natAbs:Int) < 2 ^ t->2 * ((iV u).natAbs:Int) <= 2 ^ (t + B - 1074):=fun t ht=>by
    have h1:=prod_lt ht hB1 hB2 hTk
    have h2:=nr_err nT (i:=t + B - 1074) (by have:=p2 (t + B - 1074); omega)
    rw [eu]
    omega
  have hs1:∀ t:Nat,((iV (d (k + 1))).natAbs:Int) < 2 ^ t->∀ i,i < (L.add l1).n->((iV ((L.add l1).d i)).natAbs:Int) < 2 ^ (t + B - 1074):=fun t ht=>by
    refine add_all (fun x=>((iV x).natAbs:Int) < 2 ^ (t + B - 1074)) (fun i hi=>?_) fun _=>?_
    . obtain ⟨t0,k1,k2⟩:=hd.lo k (by omega)
      have h1:=hsmall t0 k1 i hi
      have h2:=dvd_abs_le k2 xne (p2 t0)
      have h3:t0 < t:=p2lt (Int.lt_of_le_of_lt h2 ht)
      exact Int.lt_of_lt_of_le h1 (p2le (by omega))
    . have:=half_lt (hu t ht)
      omega
  have hl2:∀ t:Nat,((iV (d (k + 1))).natAbs:Int) < 2 ^ t->((iV l2).natAbs:Int) < 2 ^ (t + B - 1074):=fun t ht=>by
    have h1:=lsm_all hxv1 (hs1 t ht)
    rw [lsm_add rl1] at h1
    have hxk:XV d (k + 1 + 1):=⟨fun i hi=>hd.fin i (by omega),fun i hi=>hd.lo i (by omega)⟩
    have h2:=prod_lt (lsm_lt hxk t ht) hB1 hB2 (tsm_prod hT (k + 1 + 1) (by omega))
    rw [tsm_succ] at h2
    have h3:=nr_err n2 (i:=t + B - 1074) (by
      generalize (2:Int) ^ (t + B - 1074)=Y at *
      omega)
    refine half_lt ?_
    rw [el2]
    omega
  have hl1s:rg l1 ≠ 0->∃ s:Nat,((iV l1).natAbs:Int) < 2 ^ s∧(2 ^ s:Int) ∣ iV l2∧(2 ^ s:Int) ∣ iV q2∧∀ j,k + 1 < j->j <= N->(2 ^ s:Int) ∣ T j:=fun hz=>by
    have hne:=(iV_some rl1 hx2 hz).1
    obtain ⟨u1,a1,a2⟩:=nr_unit n1 (fun c=>hne (by omega))
    rw [<- el1] at a2
    obtain ⟨u2,b1,b2⟩:=nr_unit nT (fun c=>hne (by omega))
    rw [<- eu] at b2
    obtain ⟨t,k1,k2⟩:=xv_next hd hB1 hT (k:=k + 1) (by omega)
    have c2:=half_lt (hu t k1)
    obtain ⟨s,hs1,hs2,hs3,hs4⟩:∃ s:Nat,s <= u1∧s <= u2∧s <= t + B - 1074∧((iV l1).natAbs:Int) < 2 ^ s:=by
      by_cases h1:u1 <= u2∧u1 <= t + B - 1074
      . exact ⟨u1,Nat.le_refl _,h1.1,h1.2,a2⟩
      . by_cases h2:u2 <= t + B - 1074∧u2 <= u1
        . exact ⟨u2,h2.2,Nat.le_refl _,h2.1,by omega⟩
        . exact ⟨t + B - 1074,by omega,by omega,Nat.le_refl _,by omega⟩
    have d6:(2 ^ s:Int) ∣ iV Tp + iV q1:=Int.dvd_add (Int.dvd_trans (p2dvd hs2) b1) (Int.dvd_trans (p2dvd hs1) a1)
    have d7:=nr_dvd n2 d6
    exact ⟨s,hs4,by rw [el2]; exact Int.dvd_sub d6 d7,d7,fun j hj hjn=>Int.dvd_trans (p2dvd hs3) (k2 j hj hjn)⟩
  have hl2s:rg l2 ≠ 0->∃ s:Nat,((iV l2).natAbs:Int) < 2 ^ s∧(2 ^ s:Int) ∣ iV q2∧∀ j,k + 1 < j->j <= N->(2 ^ s:Int) ∣ T j:=fun hz=>by
    have hne:=(iV_some rl2 pl2 hz).1
    obtain ⟨u3,a1,a2⟩:=nr_unit n2 (fun c=>hne (by omega))
    rw [<- el2] at a2
    obtain ⟨t,k1,k2⟩:=xv_next hd hB1 hT (k:=k + 1) (by omega)
    have c2:=hl2 t k1
    by_cases hut:u3 <= t + B - 1074
    . exact ⟨u3,a2,a1,fun j hj hjn=>Int.dvd_trans (p2dvd hut) (k2 j hj hjn)⟩
    . exact ⟨t + B - 1074,c2,Int.dvd_trans (p2dvd (by omega)) a1,k2⟩
  refine ⟨hxv1.add rl2 pl2 ?_,?_,?_,fun t ht=>add_all (fun x=>((iV x).natAbs:Int) < 2 ^ (t + B - 1074)) (hs1 t ht) fun _=>hl2 t ht⟩
  . refine add_all (fun x=>Lo (iV x) (iV l2)) (fun i hi=>?_) fun hz=>?_
    . obtain ⟨s,h1,_,h3,_⟩:=hold i hi
      exact ⟨s,h1,h3⟩
    . obtain ⟨s,h1,h2,_⟩:=hl1s hz
      exact ⟨s,h1,h2⟩
  . rw [lsm_add rl2,lsm_add rl1,tsm_succ]
    omega
  . refine add_all (fun x=>∃ s:Nat,((iV x).natAbs:Int) < 2 ^ s∧(2 ^ s:Int) ∣ iV q2∧∀ j,k + 1 < j->j <= N->(2 ^ s:Int) ∣ T j) ?_ hl2s
    refine add_all (fun x=>∃ s:Nat,((iV x).natAbs:Int) < 2 ^ s∧(2 ^ s:Int) ∣ iV q2∧∀ j,k + 1 < j->j <= N->(2 ^ s:Int) ∣ T j) (fun i hi=>?_) fun hz=>?_
    . obtain ⟨s,h1,_,_,h4,h5⟩:=hold i hi
      exact ⟨s,h1,h4,h5⟩
    . obtain ⟨s,h1,_,h3,h4⟩:=hl1s hz
      exact ⟨s,h1,h3,h4⟩
def PB (P:Nat->Prop) (w:World):Prop:=∀ k,P k->k < w.heap.size
structure BelP (P:Nat->Prop) (w w':World):Prop where
  os:w'.os=w.os
  tape:w'.tape=w.tape
  output:w'.output=w.output
  size:w.heap.size <= w'.heap.size
  block:∀ k,P k->w'.heap[k]?=w.heap[k]?
theorem BelP.refl (P:Nat->Prop) (w:World):BelP P w w:=⟨rfl,rfl,rfl,Nat.le_refl _,fun _ _=>rfl⟩
theorem BelP.trans {P:Nat->Prop} {a b c:World} (h:BelP P a b) (k:BelP P b c):BelP P a c :=
  ⟨k.os.trans h.os,k.tape.trans h.tape,k.output.trans h.output,Nat.le_trans h.size k.size,fun i hi=>(k.block i hi).trans (h.block i hi)⟩
theorem BelP.of {P:Nat->Prop} {w w':World} (h:Below w.heap.size w w') (hP:PB P w):BelP P w w':=⟨h.os,h.tape,h.output,h.size,fun k hk=>h.block k (hP k hk)⟩
theorem PB.le {P:Nat->Prop} {w w':World} (h:PB P w) (hs:w.heap.size <= w'.heap.size):PB P w':=fun k hk=>Nat.lt_of_lt_of_le (h k hk) hs
def OutP (P:Nat->Prop) (w:World) (v:Value) (s:Ls):Prop:=Out 0 w v s.n s.d∧∀ k,v.ownBlock=some k->¬ P k
theorem OutP.shape {P:Nat->Prop} {w:World} {v:Value} {s:Ls} (h:OutP P w v s):∃ ao cap,v=.slice ao s.n cap:=by
  obtain ⟨ao,cap,e,_⟩:=h.1.row
  exact ⟨ao,cap,e⟩
theorem OutP.stays {P:Nat->Prop} {w w':World} {v:Value} {s:Ls} (h:OutP P w v s) (hb:Below w.heap.size w w'):OutP P w' v s:=⟨h.1.stays hb,h.2⟩
theorem OutP.gr {P:Nat->Prop} {w w':World} {v:Value} {s:Ls} (h:OutP P w v s) (hP:PB P w) (g:w.grownBy w' v.ownBlock):BelP P w w' :=
  ⟨g.os,g.tape,g.output,g.size,fun k hk=>g.block k (hP k hk) fun e=>h.2 k e.symm hk⟩
theorem wpList_appT {w:World} {ops:Array Oper} {rest:List Oper} {o:Oper} {a:Act} {Q:Exit->Act->World->Prop} (hgd:o.guard=none) (s x:Operand) (ho:o.op=.call { callee:=.builtin .append,args:=#[s,x],argTypes:=#[30,30] })
    (B:Nat) (v:Value) (n:Nat) (d:Nat->Int) (hs:a.eval s=v) (hO:Out B w v n d) (bo:Option Addr) (m cb:Nat) (e:Nat->Int) (hx:a.eval x=.slice bo m cb) (hR:Row w bo m cb e) (hlen:n + m <= 1000000) (hB:B <= w.heap.size)
    (h:∀ v' w',Out B w' v' (n + m) (cat d n e)->w.grownBy w' v.ownBlock->(v'.ownBlock=v.ownBlock∨v'.ownBlock=some w.heap.size)->wpList Tryz.prog ops Q rest (a.put o.dst v') w'):wpList Tryz.prog ops Q (o :: rest) a w:=by
  obtain ⟨v',w',hr,h2,h3,h4⟩:=run_app o.type B v n d hO bo m cb e hR hlen hB
  exact Lib.wpList_append_run w hgd s x _ _ ho v (.slice bo m cb) hs hx _ w' hr (h v' w' h2 h3 h4)
set_option maxRecDepth 100000 in
theorem xaddP {P:Nat->Prop} {v:Value} {s:Ls} {b:Int} (w:World) (h:OutP P w v s) (hb:rng b) (hn:s.n <= 900000) (hP:PB P w) :
    Calls Tryz.prog 139 #[v,.int .i64 b] w fun e w'=>∃ v',e=.returned v'∧OutP P w' v' (s.add b)∧BelP P w w':=by
  have hz:=fun W=>xnought hb W
  by_cases h0:rg b=0
  . have e:s.add b=s:=by unfold Ls.add; rw [if_pos h0]
    rw [decide_eq_true h0] at hz
    rw [e]
    go_enter Tryz.func139,Tryz.ntmps139
    go_wp2_with (go_at_call 137; refine (hz _).mono ?_; rintro _ _ ⟨rfl,rfl⟩)
    go_ret
    exact ⟨v,rfl,h,BelP.refl _ _⟩
  . have e:s.add b=⟨s.n + 1,upd s.d s.n b⟩:=by unfold Ls.add; rw [if_neg h0]
    rw [decide_eq_false h0] at hz
    rw [e]
    go_enter Tryz.func139,Tryz.ntmps139
    go_wp2_with (first
      | (go_at_call 137; refine (hz _).mono ?_; rintro _ _ ⟨rfl,rfl⟩)
      | (at_builtin; refine wpList_appT rfl _ _ rfl 0 _ s.n s.d rfl (h.1.stays (bel_alloc _ _)) _ 1 1 (fun _=>b) rfl (row1 _ _ rfl) (by omega) (Nat.zero_le _) ?_; intro v' w1 hO1 hg1 hat1))
    go_ret
    refine ⟨v',rfl,⟨hO1.congr fun i hi=>?_,fun k hk=>?_⟩,h.gr hP (grown_past hg1)⟩
    . by_cases e:i < s.n
      . simp [cat,e,upd_other s.d _ (show i ≠ s.n by omega)]
      . obtain rfl:i=s.n:=by omega
        simp [cat,upd_same]
    . rcases hat1 with q | q
      . exact h.2 k (q.symm.trans hk)
      . rw [hk] at q
        intro hPk
        have:=hP k hPk
        simp at q
        omega
set_option maxRecDepth 100000 in
set_option maxHeartbeats 2000000 in
theorem xgrowP_some {P:Nat->Prop} {g n cap:Nat} {d:Nat->Int} {q:Int} (w:World) (h0:OutP P w (.slice (some ⟨g,0,none⟩) n cap) ⟨n,d⟩) (hd:∀ i,i < n->rng (d i)∧pok (d i)=true) (hq:rng q) (pq:pok q=true) (hn:n <= 800000) (hP:PB P w) :
    Calls Tryz.prog 141 #[.slice (some ⟨g,0,none⟩) n cap,.int .i64 q] w fun e w'=>(gx d q n=true∧∃ v',e=.returned v'∧OutP P w' v' (grw n d q)∧BelP P w w')∨(gx d q n=false∧e=gaveX∧BelP P w w'):=by
  have h:Out 0 w (.slice (some ⟨g,0,none⟩) n cap) n d:=h0.1
  have HNP:Hid (¬ P g):=h0.2 g rfl
  have HPB:Hid (PB P w):=hP
  have HGP:Hid (∀ W,w.grownBy W (some g)->BelP P w W):=fun W hW=>h0.gr hP hW
  clear h0 hP
  obtain ⟨hI,hnc,hcm,hBg⟩:=h.inB
  have HQ:Hid (∀ k,k <= n->gx d q k=true->rng (gq d q k)∧pok (gq d q k)=true):=gq_fin hd hq pq
  have HDD:Hid (∀ i,i < n->rng (d i)∧pok (d i)=true):=hd
  have hgl:g < w.heap.size:=by obtain ⟨cur,h1,_⟩:=hI; exact (Array.getElem?_eq_some_iff.1 h1).1
  clear hd h hq pq
  go_enter Tryz.func141,Tryz.ntmps141
  go_wp2_with fail
  go_loopw [1,5,13] (fun qv gv iv wr=>∃ k:Nat,k <= n∧iv=.int .i64 k∧qv=.int .i64 (gq d q k)∧gv=.slice (some ⟨g,0,none⟩) (gs d q k).n cap∧Hid (gx d q k=true)∧Hid (InB wr g cap n (gs d q k))∧Hid (w.grownBy wr (some g))) (fun _ _ iv _=>n - (intOf iv).toNat)
  case atStart=>exact ⟨0,Nat.zero_le _,rfl,rfl,rfl,rfl,hI,World.grownBy.refl _ _⟩
  case round=>
    obtain ⟨k,hk,rfl,rfl,rfl,HX,HI,HG⟩:=hrel
    clear hI
    have hsn:=gs_le d q k
    by_cases hlt:k < n
    . obtain ⟨r1,r2⟩:=HQ.out k hk HX.out
      obtain ⟨d1,d2⟩:=HDD.out k hlt
      have c0:wr.cell? ⟨g,k,none⟩=some (.int .i64 (d k)):=by
        obtain ⟨cur,h1,h2,h3⟩:=HI.out
        rw [cell_of_row wr g k cur _ _ h1,h3 k hlt,gs_tail d q k k (Nat.le_refl _)]
      have CT:Hid (∀ W,Calls Tryz.prog 127 #[.int .i64 (gq d q k),.int .i64 (d k)] W fun e w'=>e=.returned (.tuple #[.int .i64 (gq d q (k + 1)),.int .i64 (gl d q k),.bool (pok (gl d q k))])∧Below W.heap.size W w'):=fun W=>xtwoSum r1 d1 r2 d2 W
      have rl:rng (gl d q k):=sL_rng r1 d1
      have i0:(0:Int) <= (k:Int):=by omega
      have i1:(k:Int) < (n:Int):=by omega
      have HS:Hid (gs d q (k + 1)=(gs d q k).add (gl d q k)):=rfl
      have HXS:Hid (gx d q (k + 1)=(gx d q k && pok (gl d q k))):=rfl
      have HNO:Hid (pok (gl d q k)=false->gx d q n=false):=fun hno=>by
        cases hx:gx d q n
        . rfl
        . have:=gx_mono (show k + 1 <= n by omega) hx
          rw [HXS.out,hno,Bool.and_false] at this
          cases this
      obtain ⟨q',hq'⟩:∃ q',gq d q (k + 1)=q':=⟨_,rfl⟩
      rw [hq'] at CT
      have HQ':Hid (gq d q (k + 1)=q'):=hq'
      clear hq'
      generalize gl d q k=l at *
      generalize gq d q k=q0 at *
      generalize hd0:d k=dk at *
      have HD0:Hid (d k=dk):=hd0
      clear hd0 r1 r2 d1 d2
      have CA:=fun W h=>xadd_in (g:=g) (cap:=cap) (N:=n) (s:=gs d q k) (b:=l) W h rl (by omega)
      generalize hs0:gs d q k=s0 at *
      have HS0:Hid (gs d q k=s0):=hs0
      clear hs0
      cases hl:pok l
      . rw [hl] at CT
        go_wp2_with fail
        refine (CT.out _).mono ?_
        rintro _ w1 ⟨rfl,hb1⟩
        go_wp2_with fail
        refine (xsure_no _ _ _).mono ?_
        rintro _ _ ⟨rfl,rfl⟩
        unfold gaveX
        go_wp2
        exact ⟨rfl,.inr ⟨HNO.out hl,rfl,HGP.out _ (grown_bel2 HG.out hb1)⟩⟩
      . rw [hl] at CT
        go_wp2_with fail
        refine (CT.out _).mono ?_
        rintro _ w1 ⟨rfl,hb1⟩
        go_wp2_with fail
        refine (xsure_yes _ _ _).mono ?_
        rintro _ _ ⟨rfl,rfl⟩
        rename_i w1
        go_wp2_with fail
        refine (CA _ (HI.out.keeps hb1)).mono ?_
        rintro _ w2 ⟨rfl,hI2,hg2⟩
        go_wp2
        go_roundw
        case rel=>exact ⟨k + 1,by omega,by go_num,by rw [HQ'.out],by rw [HS.out],by show _=_; rw [HXS.out,HX.out,hl]; rfl,by show InB _ _ _ _ _; rw [HS.out]; exact hI2,xgr_trans (grown_bel2 HG.out hb1) hg2⟩
        case measure=>simp [intOf]; omega
    . obtain rfl:k=n:=by omega
      have hO:OutP P wr (.slice (some ⟨g,0,none⟩) (gs d q k).n cap) (gs d q k):=⟨HI.out.out (B:=0) hsn hnc (Nat.zero_le _) hcm,fun j hj=>by cases hj; exact HNP.out⟩
      have HQ2:Hid (rng (gq d q k)∧pok (gq d q k)=true):=HQ.out k hk HX.out
      have CA:Hid (∀ W,W=wr->Calls Tryz.prog 139 #[.slice (some ⟨g,0,none⟩) (gs d q k).n cap,.int .i64 (gq d q k)] W fun e w'=>∃ v',e=.returned v'∧OutP P w' v' (grw k d q)∧BelP P W w'):=fun W hW=>by
        subst hW
        exact xaddP W hO HQ2.out.1 (by omega) (HPB.out.le HG.out.size)
      generalize gq d q k=q0 at *
      generalize gs d q k=s0 at *
      clear hO
      go_wp2_with fail
      refine (CA.out _ rfl).mono ?_
      rintro _ w2 ⟨v',rfl,hO2,hg2⟩
      go_wp2
      go_ret
      exact .inl ⟨HX.out,v',rfl,hO2,(HGP.out _ HG.out).trans hg2⟩
theorem xgrowP {P:Nat->Prop} {v:Value} {s:Ls} {q:Int} (w:World) (h:OutP P w v s) (hd:s.fin) (hq:rng q) (pq:pok q=true) (hn:s.n <= 800000) (hP:PB P w) :
    Calls Tryz.prog 141 #[v,.int .i64 q] w fun e w'=>(gx s.d q s.n=true∧∃ v',e=.returned v'∧OutP P w' v' (grw s.n s.d q)∧BelP P w w')∨(gx s.d q s.n=false∧e=gaveX∧BelP P w w'):=by
  obtain ⟨n,d⟩:=s
  rcases id h.1.2 with ⟨rfl,h0⟩ | ⟨g,cap,cur,rfl,_⟩
  . have h0':n=0:=h0
    subst h0'
    have CA:Hid (∀ W,W=w->Calls Tryz.prog 139 #[.slice none 0 0,.int .i64 q] W fun e w'=>∃ v',e=.returned v'∧OutP P w' v' (grw 0 d q)∧BelP P W w'):=fun W hW=>by
      subst hW
      exact xaddP (s:=⟨0,d⟩) W h hq (Nat.zero_le _) hP
    clear h hd hq pq
    go_enter Tryz.func141,Tryz.ntmps141
    go_wp2_with fail
    go_loopw [1,5,13] (fun qv gv iv wr=>iv=.int .i64 0∧qv=.int .i64 q∧gv=.slice none 0 0∧wr=w) (fun _ _ iv _=>0)
    case atStart=>exact ⟨rfl,rfl,rfl,rfl⟩
    case round=>
      obtain ⟨rfl,rfl,rfl,rfl⟩:=hrel
      go_wp2_with fail
      refine (CA.out _ rfl).mono ?_
      rintro _ w2 ⟨v',rfl,hO2,hg2⟩
      go_wp2
      go_ret
      exact .inl ⟨rfl,v',rfl,hO2,hg2⟩
  . exact xgrowP_some w h hd hq pq hn hP
set_option maxRecDepth 100000 in
set_option maxHeartbeats 400000 in
theorem xgatherP {P:Nat->Prop} {v:Value} {s:Ls} {fo:Option Addr} {m fc:Nat} {f:Nat->Int} (w:World) (h:OutP P w v s) (hs:s.fin) (hf:∀ W,BelP P w W->Row W fo m fc f) (hff:∀ i,i < m->rng (f i)∧pok (f i)=true) (hn:s.n + m <= 700000) (hB:PB P w) :
    Calls Tryz.prog 111 #[v,.slice fo m fc] w fun e w'=>(gaX s f m=true∧∃ v',e=.returned v'∧OutP P w' v' (gaS s f m)∧BelP P w w')∨(gaX s f m=false∧e=gaveX∧BelP P w w'):=by
  have hR:=hf w (BelP.refl _ _)
  have hle:=hR.le
  have hmx:=hR.max
  have HF:Hid (∀ W,BelP P w W->Row W fo m fc f):=hf
  have HFF:Hid (∀ i,i < m->rng (f i)∧pok (f i)=true):=hff
  have HFI:Hid (∀ k,k <= m->gaX s f k=true->(gaS s f k).fin):=gaS_fin hs hff
  have hL:=gaS_le s f
  obtain ⟨ao0,cap0,rfl⟩:=h.shape
  clear hf hff hR hs
  go_enter Tryz.func111,Tryz.ntmps111
  go_wp2_with fail
  go_loopw [0,9] (fun hv iv wr=>∃ (k:Nat) (v0:Value),k <= m∧iv=.int .i64 k∧hv=v0∧Hid (gaX s f k=true)∧Hid (OutP P wr v0 (gaS s f k))∧Hid (BelP P w wr)) (fun _ iv _=>m - (intOf iv).toNat)
  case atStart=>exact ⟨0,_,Nat.zero_le _,rfl,rfl,rfl,h,BelP.refl _ _⟩
  case round=>
    obtain ⟨k,hv,hk,rfl,hve,HX,HL,HBW⟩:=hrel
    replace hve:=hve.symm
    subst hve
    clear h
    have hLk:=hL k
    by_cases hlt:k < m
    . obtain ⟨b,off,rfl,hbb,hc⟩:=(HF.out _ HBW.out).spot (by omega)
      have c0:=hc k hlt
      clear hc
      obtain ⟨d1,d2⟩:=HFF.out k hlt
      have hwr:PB P wr:=PB.le hB HBW.out.size
      have CG:Hid (∀ W,W=wr->Calls Tryz.prog 141 #[hv,.int .i64 (f k)] W fun e w'=>(gaX s f (k + 1)=true∧∃ v',e=.returned v'∧OutP P w' v' (gaS s f (k + 1))∧BelP P W w')∨(gaX s f m=false∧e=gaveX∧BelP P W w')):=fun W hW=>by
        subst hW
        rw [gaS_succ,gaX_succ]
        refine (xgrowP W HL.out (HFI.out k hk HX.out) d1 d2 (by omega) hwr).mono ?_
        rintro e w' (⟨h1,v',h2,h3,h4⟩ | ⟨h1,h2,h3⟩)
        . exact .inl ⟨by rw [HX.out,h1]; rfl,v',h2,h3,h4⟩
        . refine .inr ⟨?_,h2,h3⟩
          cases hx:gaX s f m
          . rfl
          . have:=gaX_mono (show k + 1 <= m by omega) hx
            rw [gaX_succ,h1,Bool.and_false] at this
            cases this
      generalize f k=fk at *
      have i0:(0:Int) <= (k:Int):=by omega
      have i1:(k:Int) < (m:Int):=by omega
      go_wp2_with fail
      refine (CG.out _ rfl).mono ?_
      rintro _ w1 (⟨h1,v',rfl,h3,h4⟩ | ⟨h1,rfl,h3⟩)
      . go_wp2
        go_roundw
        case rel=>exact ⟨k + 1,_,by omega,by go_num,rfl,h1,h3,HBW.out.trans h4⟩
        case measure=>simp [intOf]; omega
      . unfold gaveX
        go_wp2
        exact ⟨rfl,.inr ⟨h1,rfl,HBW.out.trans h3⟩⟩
    . obtain rfl:k=m:=by omega
      go_wp2
      go_ret
      exact .inl ⟨HX.out,_,rfl,HL.out,HBW.out⟩
set_option maxRecDepth 100000 in
set_option maxHeartbeats 1000000 in
theorem xscaleP {P:Nat->Prop} {v:Value} {s:Ls} {eo:Option Addr} {N ec:Nat} {d:Nat->Int} {b:Int} (w:World) (h:OutP P w v s) (hE:∀ W,BelP P w W->Row W eo (N + 1) ec d) (hd:∀ i,i <= N->rng (d i)∧pok (d i)=true) (hb:rng b) (pb:pok b=true) (h0:¬ rg b=0) (hn:s.n + 2 * N <= 700000) (hB:PB P w) (H:∀ W,BelP P w W->Hold4 W) :
    Calls Tryz.prog 110 #[v,.slice eo (N + 1) ec,.int .i64 b] w fun e w'=>(sx d b N=true∧∃ v',e=.returned v'∧OutP P w' v' (scl s d b N)∧BelP P w w')∨(sx d b N=false∧e=gaveX∧BelP P w w'):=by
  have hz:=fun W=>xnought hb W
  rw [decide_eq_false h0] at hz
  have hR:=hE w (BelP.refl _ _)
  have hle:=hR.le
  have hmx:=hR.max
  obtain ⟨bb,off,rfl,hbb,hc⟩:=hR.spot (by omega)
  have c0:=hc 0 (by omega)
  rw [Nat.add_zero] at c0
  have HE:Hid (∀ W,BelP P w W->Row W (some ⟨bb,off,none⟩) (N + 1) ec d):=hE
  have HH:Hid (∀ W,BelP P w W->Hold4 W):=H
  have HD:Hid (∀ i,i <= N->rng (d i)∧pok (d i)=true):=hd
  have HSQ:Hid (∀ k,k <= N->sx d b k=true->rng (sq d b k)∧pok (sq d b k)=true):=sq_fin hd hb
  have HSL:=ss_le s d b
  have HB:Hid (rng b∧pok b=true):=⟨hb,pb⟩
  have CP:Hid (∀ W,Hold4 W->Calls Tryz.prog 73 #[.int .i64 (d 0),.int .i64 b] W fun e w'=>e=.returned (.tuple #[.int .i64 (sq d b 0),.int .i64 (prL (d 0) b),.bool (sx d b 0)])∧Below W.heap.size W w'):=fun W hW=>xtwoProd (hd 0 (by omega)).1 hb (hd 0 (by omega)).2 pb W hW
  have HS0:Hid (ss s d b 0=s.add (prL (d 0) b)):=rfl
  have rl0:rng (prL (d 0) b):=prL_rng (hd 0 (by omega)).1 hb
  have HNO:Hid (sx d b 0=false->sx d b N=false):=fun hno=>by
    cases hx:sx d b N
    . rfl
    . have:=sx_mono (Nat.zero_le N) hx
      rw [hno] at this
      cases this
  clear hE H hd hc hR hb pb
  have hN1:((N:Int) + 1 == 0)=false:=by simp; omega
  obtain ⟨ao0,cap0,rfl⟩:=h.shape
  cases hx0:sx d b 0
  . rw [hx0] at CP
    generalize sq d b 0=q0 at *
    generalize prL (d 0) b=l0 at *
    generalize d 0=d0 at *
    go_enter Tryz.func110,Tryz.ntmps110
    go_wp2_with (go_at_call 137; refine (hz _).mono ?_; rintro _ wz ⟨rfl,hw⟩; replace hw:=hw.symm; subst hw)
    refine (CP.out _ (HH.out _ (BelP.refl _ _))).mono ?_
    rintro _ w1 ⟨rfl,hb1⟩
    have hB1:BelP P w w1:=BelP.of hb1 hB
    go_wp2_with fail
    refine (xsure_no _ _ _).mono ?_
    rintro _ wz ⟨rfl,hw⟩
    replace hw:=hw.symm
    subst hw
    unfold gaveX
    go_wp2
    exact ⟨rfl,.inr ⟨HNO.out hx0,rfl,hB1⟩⟩
  . rw [hx0] at CP
    have CA:Hid (∀ W,BelP P w W->OutP P W (.slice ao0 s.n cap0) s->Calls Tryz.prog 139 #[.slice ao0 s.n cap0,.int .i64 (prL (d 0) b)] W fun e w'=>∃ v',e=.returned v'∧OutP P w' v' (ss s d b 0)∧BelP P W w'):=fun W hW hL=>by
      rw [HS0.out]
      exact xaddP W hL rl0 (by omega) (PB.le hB hW.size)
    have HK:Hid (∀ W,Below w.heap.size w W->OutP P W (.slice ao0 s.n cap0) s):=fun W hW=>h.stays hW
    clear h
    obtain ⟨q0,hq0⟩:∃ q0,sq d b 0=q0:=⟨_,rfl⟩
    obtain ⟨l0,hl0⟩:∃ l0,prL (d 0) b=l0:=⟨_,rfl⟩
    rw [hq0,hl0] at CP
    rw [hl0] at CA
    have HQ0:Hid (sq d b 0=q0):=hq0
    clear hq0 hl0 rl0 HS0 HNO
    generalize hd0:d 0=d0 at c0 CP
    clear hd0
    go_enter Tryz.func110,Tryz.ntmps110
    go_wp2_with (go_at_call 137; refine (hz _).mono ?_; rintro _ wz ⟨rfl,hw⟩; replace hw:=hw.symm; subst hw)
    refine (CP.out _ (HH.out _ (BelP.refl _ _))).mono ?_
    rintro _ w1 ⟨rfl,hb1⟩
    have hB1:BelP P w w1:=BelP.of hb1 hB
    go_wp2_with fail
    refine (xsure_yes _ _ _).mono ?_
    rintro _ wz ⟨rfl,hw⟩
    replace hw:=hw.symm
    subst hw
    go_wp2_with fail
    refine (CA.out _ hB1 (HK.out _ hb1)).mono ?_
    rintro _ w2 ⟨v2,rfl,hL2,hb2⟩
    have hB2:=hB1.trans hb2
    clear CP CA HK hz
    go_wp2_with fail
    . have hN0:N=0:=by omega
      go_loopw [0,7,39] (fun hv qv iv wr=>∃ (k:Nat) (v0:Value),k <= N∧iv=.int .i64 k∧hv=v0∧qv=.int .i64 (sq d b k)∧Hid (sx d b k=true)∧Hid (OutP P wr v0 (ss s d b k))∧Hid (BelP P w wr)) (fun _ _ iv _=>N - (intOf iv).toNat)
      case atStart=>exact ⟨0,_,Nat.zero_le _,rfl,rfl,by rw [HQ0.out],hx0,hL2,hB2⟩
      case round=>
        obtain ⟨k,hv,hk,rfl,hve,rfl,HX,HL,HBW⟩:=hrel
        replace hve:=hve.symm
        subst hve
        clear hL2 hB2 HQ0
        have hLk:=HSL k
        obtain rfl:k=N:=by omega
        obtain ⟨r1,r2⟩:=HSQ.out k hk HX.out
        have hwr:PB P wr:=PB.le hB HBW.out.size
        have CA:Hid (∀ W,W=wr->Calls Tryz.prog 139 #[hv,.int .i64 (sq d b k)] W fun e w'=>∃ v',e=.returned v'∧OutP P w' v' (scl s d b k)∧BelP P W w'):=fun W hW=>by
          subst hW
          exact xaddP W HL.out r1 (by omega) hwr
        clear r1 r2
        generalize sq d b k=qk at *
        go_wp2_with fail
        refine (CA.out _ rfl).mono ?_
        rintro _ w3 ⟨v3,rfl,hL3,hb3⟩
        go_wp2
        go_ret
        exact .inl ⟨HX.out,v3,rfl,hL3,HBW.out.trans hb3⟩
    . go_loopw [0,7,39] (fun hv qv iv wr=>∃ (k:Nat) (v0:Value),k <= N∧iv=.int .i64 k∧hv=v0∧qv=.int .i64 (sq d b k)∧Hid (sx d b k=true)∧Hid (OutP P wr v0 (ss s d b k))∧Hid (BelP P w wr)) (fun _ _ iv _=>N - (intOf iv).toNat)
      case atStart=>exact ⟨0,_,Nat.zero_le _,rfl,rfl,by rw [HQ0.out],hx0,hL2,hB2⟩
      case round=>
        obtain ⟨k,hv,hk,rfl,hve,rfl,HX,HL,HBW⟩:=hrel
        replace hve:=hve.symm
        subst hve
        clear hL2 hB2 HQ0
        have hLk:=HSL k
        by_cases hlt:k < N
        . obtain ⟨bb',off',e1,hbb',hc⟩:=(HE.out _ HBW.out).spot (by omega)
          simp only [Option.some.injEq,Addr.mk.injEq,and_true] at e1
          obtain ⟨rfl,rfl⟩:=e1
          have c1:=hc (k + 1) (by omega)
          rw [show off + (k + 1)=off + 1 + k by omega] at c1
          clear hc
          obtain ⟨d1,d2⟩:=HD.out (k + 1) (by omega)
          obtain ⟨r1,r2⟩:=HSQ.out k hk HX.out
          obtain ⟨b1,b2⟩:=HB.out
          have hwr:PB P wr:=PB.le hB HBW.out.size
          have C1:Hid (∀ W,Hold4 W->Calls Tryz.prog 73 #[.int .i64 (d (k + 1)),.int .i64 b] W fun e w'=>e=.returned (.tuple #[.int .i64 (fprod (d (k + 1)) b),.int .i64 (prL (d (k + 1)) b),.bool (pX (d (k + 1)) b)])∧Below W.heap.size W w'):=fun W hW=>xtwoProd d1 b1 d2 b2 W hW
          have rt:rng (fprod (d (k + 1)) b):=fprod_rng d1 b1
          have ru:rng (prL (d (k + 1)) b):=prL_rng d1 b1
          have HP:Hid (pX (d (k + 1)) b=true->pok (fprod (d (k + 1)) b)=true∧pok (prL (d (k + 1)) b)=true):=pX_fin d1 b1
          have HXS:Hid (sx d b (k + 1)=(sx d b k && (pX (d (k + 1)) b && (pok (sL (sq d b k) (prL (d (k + 1)) b)) && fX (fprod (d (k + 1)) b) (fsum (sq d b k) (prL (d (k + 1)) b)))))):=sx_succ d b k
          have HQS:Hid (sq d b (k + 1)=fsum (fprod (d (k + 1)) b) (fsum (sq d b k) (prL (d (k + 1)) b))):=sq_succ d b k
          have HSS:Hid (ss s d b (k + 1)=((ss s d b k).add (sL (sq d b k) (prL (d (k + 1)) b))).add (fL (fprod (d (k + 1)) b) (fsum (sq d b k) (prL (d (k + 1)) b)))):=ss_succ s d b k
          have HNO:Hid (sx d b (k + 1)=false->sx d b N=false):=fun hno=>by
            cases hx:sx d b N
            . rfl
            . have:=sx_mono (show k + 1 <= N by omega) hx
              rw [hno] at this
              cases this
          generalize fprod (d (k + 1)) b=t at *
          generalize prL (d (k + 1)) b=u at *
          generalize pX (d (k + 1)) b=x1 at *
          generalize d (k + 1)=dk at *
          obtain ⟨qk,hqk⟩:∃ qk,sq d b k=qk:=⟨_,rfl⟩
          rw [hqk] at HXS HQS HSS r1 r2 ⊢
          obtain ⟨sk,hsk⟩:∃ sk,ss s d b k=sk:=⟨_,rfl⟩
          rw [hsk] at HL HSS hLk
          clear hqk hsk d1 d2 HSQ HD HSL
          have i0:(0:Int) <= (k:Int):=by omega
          have i1:(k:Int) < (N:Int):=by omega
          cases hx1:x1
          . rw [hx1] at C1
            have hno:sx d b N=false:=HNO.out (by rw [HXS.out,hx1]; simp)
            go_wp2_with fail
            refine (C1.out _ (HH.out _ HBW.out)).mono ?_
            rintro _ w3 ⟨rfl,hb3⟩
            go_wp2_with fail
            refine (xsure_no _ _ _).mono ?_
            rintro _ wz ⟨rfl,hw⟩
            replace hw:=hw.symm
            subst hw
            unfold gaveX
            go_wp2
            exact ⟨rfl,.inr ⟨hno,rfl,HBW.out.trans (BelP.of hb3 hwr)⟩⟩
          . rw [hx1] at C1
            obtain ⟨pt,pu⟩:=HP.out hx1
            have C2:Hid (∀ W,Calls Tryz.prog 127 #[.int .i64 qk,.int .i64 u] W fun e w'=>e=.returned (.tuple #[.int .i64 (fsum qk u),.int .i64 (sL qk u),.bool (pok (sL qk u))])∧Below W.heap.size W w'):=fun W=>xtwoSum r1 ru r2 pu W
            have rl1:rng (sL qk u):=sL_rng r1 ru
            have rq1:rng (fsum qk u):=fsum_rng r1 ru
            have HP2:Hid (pok (sL qk u)=true->pok (fsum qk u)=true):=fun hh=>(sL_exact r1 ru hh).2.1
            clear HP r1 r2 ru pu
            generalize sL qk u=l1 at *
            generalize fsum qk u=q1 at *
            cases hx2:pok l1
            . rw [hx2] at C2
              have hno:sx d b N=false:=HNO.out (by rw [HXS.out,hx2]; simp)
              go_wp2_with fail
              refine (C1.out _ (HH.out _ HBW.out)).mono ?_
              rintro _ w3 ⟨rfl,hb3⟩
              go_wp2_with fail
              refine (xsure_yes _ _ _).mono ?_
              rintro _ wz ⟨rfl,hw⟩
              replace hw:=hw.symm
              subst hw
              go_wp2_with fail
              refine (C2.out _).mono ?_
              rintro _ w4 ⟨rfl,hb4⟩
              go_wp2_with fail
              refine (xsure_no _ _ _).mono ?_
              rintro _ wz ⟨rfl,hw⟩
              replace hw:=hw.symm
              subst hw
              unfold gaveX
              go_wp2
              exact ⟨rfl,.inr ⟨hno,rfl,HBW.out.trans (BelP.of (bel_trans hb3 hb4) hwr)⟩⟩
            . rw [hx2] at C2
              have pq1:=HP2.out hx2
              have C3:Hid (∀ W,Calls Tryz.prog 140 #[.int .i64 t,.int .i64 q1] W fun e w'=>e=.returned (.tuple #[.int .i64 (fsum t q1),.int .i64 (fL t q1),.bool (fX t q1)])∧Below W.heap.size W w'):=fun W=>xfast rt rq1 pt pq1 W
              have rl2:rng (fL t q1):=fL_rng rt rq1
              have hA1:=(sk.add_le l1).2
              have CA1:Hid (∀ W,BelP P wr W->OutP P W hv sk->Calls Tryz.prog 139 #[hv,.int .i64 l1] W fun e w'=>∃ v',e=.returned v'∧OutP P w' v' (sk.add l1)∧BelP P W w'):=fun W hW hL=>xaddP W hL rl1 (by omega) (PB.le hwr hW.size)
              have CA2:Hid (∀ W v',BelP P wr W->OutP P W v' (sk.add l1)->Calls Tryz.prog 139 #[v',.int .i64 (fL t q1)] W fun e w'=>∃ v'',e=.returned v''∧OutP P w' v'' ((sk.add l1).add (fL t q1))∧BelP P W w'):=fun W v' hW hL=>xaddP W hL rl2 (by omega) (PB.le hwr hW.size)
              have HKP:Hid (∀ {W W' v' s'},OutP P W v' s'->Below W.heap.size W W'->OutP P W' v' s'):=fun {W W' v' s'} hL hW=>hL.stays hW
              clear HP2 rl1 rl2 rq1 rt pt pq1 b1 b2
              generalize fL t q1=l2 at *
              generalize fsum t q1=q2 at *
              cases hx3:fX t q1
              . rw [hx3] at C3
                have hno:sx d b N=false:=HNO.out (by rw [HXS.out,hx3]; simp)
                go_wp2_with fail
                refine (C1.out _ (HH.out _ HBW.out)).mono ?_
                rintro _ w3 ⟨rfl,hb3⟩
                go_wp2_with fail
                refine (xsure_yes _ _ _).mono ?_
                rintro _ wz ⟨rfl,hw⟩
                replace hw:=hw.symm
                subst hw
                go_wp2_with fail
                refine (C2.out _).mono ?_
                rintro _ w4 ⟨rfl,hb4⟩
                go_wp2_with fail
                refine (xsure_yes _ _ _).mono ?_
                rintro _ wz ⟨rfl,hw⟩
                replace hw:=hw.symm
                subst hw
                have hb34:=bel_trans hb3 hb4
                go_wp2_with fail
                refine (CA1.out _ (BelP.of hb34 hwr) (HKP.out HL.out hb34)).mono ?_
                rintro _ w5 ⟨v5,rfl,hL5,hb5⟩
                go_wp2_with fail
                refine (C3.out _).mono ?_
                rintro _ w6 ⟨rfl,hb6⟩
                go_wp2_with fail
                refine (xsure_no _ _ _).mono ?_
                rintro _ wz ⟨rfl,hw⟩
                replace hw:=hw.symm
                subst hw
                have hb56:=((BelP.of hb34 hwr).trans hb5).trans (BelP.of hb6 (PB.le hwr ((BelP.of hb34 hwr).trans hb5).size))
                unfold gaveX
                go_wp2
                exact ⟨rfl,.inr ⟨hno,rfl,HBW.out.trans hb56⟩⟩
              . rw [hx3] at C3
                have hyes:sx d b (k + 1)=true:=by rw [HXS.out,HX.out,hx1,hx2,hx3]; rfl
                go_wp2_with fail
                refine (C1.out _ (HH.out _ HBW.out)).mono ?_
                rintro _ w3 ⟨rfl,hb3⟩
                go_wp2_with fail
                refine (xsure_yes _ _ _).mono ?_
                rintro _ wz ⟨rfl,hw⟩
                replace hw:=hw.symm
                subst hw
                go_wp2_with fail
                refine (C2.out _).mono ?_
                rintro _ w4 ⟨rfl,hb4⟩
                go_wp2_with fail
                refine (xsure_yes _ _ _).mono ?_
                rintro _ wz ⟨rfl,hw⟩
                replace hw:=hw.symm
                subst hw
                have hb34:=bel_trans hb3 hb4
                go_wp2_with fail
                refine (CA1.out _ (BelP.of hb34 hwr) (HKP.out HL.out hb34)).mono ?_
                rintro _ w5 ⟨v5,rfl,hL5,hb5⟩
                go_wp2_with fail
                refine (C3.out _).mono ?_
                rintro _ w6 ⟨rfl,hb6⟩
                go_wp2_with fail
                refine (xsure_yes _ _ _).mono ?_
                rintro _ wz ⟨rfl,hw⟩
                replace hw:=hw.symm
                subst hw
                have hb56:=((BelP.of hb34 hwr).trans hb5).trans (BelP.of hb6 (PB.le hwr ((BelP.of hb34 hwr).trans hb5).size))
                go_wp2_with fail
                refine (CA2.out _ _ hb56 (HKP.out hL5 hb6)).mono ?_
                rintro _ w7 ⟨v7,rfl,hL7,hb7⟩
                go_wp2
                go_roundw
                case rel=>exact ⟨k + 1,_,by omega,by go_num,rfl,by rw [HQS.out],hyes,by show OutP _ _ _ _; rw [HSS.out]; exact hL7,HBW.out.trans (hb56.trans hb7)⟩
                case measure=>simp [intOf]; omega
        . obtain rfl:k=N:=by omega
          obtain ⟨r1,r2⟩:=HSQ.out k hk HX.out
          have hwr:PB P wr:=PB.le hB HBW.out.size
          have CA:Hid (∀ W,W=wr->Calls Tryz.prog 139 #[hv,.int .i64 (sq d b k)] W fun e w'=>∃ v',e=.returned v'∧OutP P w' v' (scl s d b k)∧BelP P W w'):=fun W hW=>by
            subst hW
            exact xaddP W HL.out r1 (by omega) hwr
          clear r1 r2
          generalize sq d b k=qk at *
          go_wp2_with fail
          refine (CA.out _ rfl).mono ?_
          rintro _ w3 ⟨v3,rfl,hL3,hb3⟩
          go_wp2
          go_ret
          exact .inl ⟨HX.out,v3,rfl,hL3,HBW.out.trans hb3⟩
end Go.Proofs.YtafnigjehkpggaaGreatDoor
