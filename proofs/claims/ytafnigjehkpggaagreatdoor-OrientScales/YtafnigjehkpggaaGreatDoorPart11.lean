/-
  Parts of the proof, one behind another.
-/
import Derived.Test.YtafnigjehkpggaaGreatDoorPart10
import Derived.Test.YtafnigjehkpggaaGreatDoorPart9
import Derived.Test.YtafnigjehkpggaaGreatDoorPart5
import Derived.Test.YtafnigjehkpggaaGreatDoorPart8
import Derived.Test.YtafnigjehkpggaaGreatDoorPart1
import Derived.Test.YtafnigjehkpggaaGreatDoorPart6
import Derived.Test.YtafnigjehkpggaaGreatDoorPart7
import Derived.Test.YtafnigjehkpggaaGreatDoorPart2
namespace Go.Proofs.YtafnigjehkpggaaGreatDoor
open Go Go.RowKit Go.Proofs.YtafnigjehkpggaaGreatDoor.M Ieee
set_option linter.unusedSimpArgs false
set_option linter.unusedVariables false
theorem fl_iV (p:Int):Fl (iV p):=by
  unfold iV
  cases decide (p < 0)
  . exact fl_V _
  . exact (fl_V _).neg
theorem iV_abs (p:Int):((iV p).natAbs:Int)=(V Ieee.double (rg p).toNat:Int):=by
  unfold iV sg
  cases decide (p < 0)
  . simp
  . simp
theorem iV_max {p:Int} (hp:rng p) (h:pok p=true):((iV p).natAbs:Int) <= maxV:=by
  rw [iV_abs]
  have:=(pok_rg hp).1 h
  exact V_le (by omega)
theorem sL_exact {p q:Int} (hp:rng p) (hq:rng q) (h:pok (sL p q)=true):(pok p=true∧pok q=true)∧pok (fsum p q)=true∧iV (fsum p q) + iV (sL p q)=iV p + iV q:=by
  have rh:=fsum_rng hp hq
  have rv:rng (sV p q):=fsum_rng rh (neg_rng hp)
  have rU:=fsum_rng rh (neg_rng rv)
  have rX:=fsum_rng hp (neg_rng rU)
  have rY:=fsum_rng hq (neg_rng rv)
  obtain ⟨pX,pY⟩:=fsum_args rX rY h
  obtain ⟨pp,pU⟩:=fdiff_args hp rU pX
  obtain ⟨pq,pv⟩:=fdiff_args hq rv pY
  obtain ⟨ph,_⟩:=fdiff_args rh hp pv
  have e:=two_sum (fl_iV p) (fl_iV q) ((stp_sum hp hq pp pq).nr ph) ((stp_diff rh hp ph pp).nr pv) ((stp_diff rh rv ph pv).nr pU) ((stp_diff hp rU pp pU).nr pX) ((stp_diff hq rv pq pv).nr pY) ((stp_sum rX rY pX pY).nr h)
  exact ⟨⟨pp,pq⟩,ph,by unfold sL; omega⟩
theorem fL_args {p q:Int} (hp:rng p) (hq:rng q) (h:pok (fL p q)=true):(pok p=true∧pok q=true)∧pok (fsum p q)=true:=by
  have rh:=fsum_rng hp hq
  have rv:rng (fsum (fsum p q) (neg p)):=fsum_rng rh (neg_rng hp)
  obtain ⟨pq,pv⟩:=fdiff_args hq rv h
  obtain ⟨ph,pp⟩:=fdiff_args rh hp pv
  exact ⟨⟨pp,pq⟩,ph⟩
theorem back_le {a b h:Int} (ha:Fl a) (hab:b.natAbs <= a.natAbs) (n:Nr (a + b) h):(h - a).natAbs <= a.natAbs:=by
  have e1:=n.2 _ ha
  have e2:=n.2 _ ha.dbl
  have e3:=n.2 _ fl_zero
  omega
theorem fL_fin {p q:Int} (hp:rng p) (hq:rng q) (pp:pok p=true) (pq:pok q=true) (ph:pok (fsum p q)=true) (hab:(iV q).natAbs <= (iV p).natAbs):pok (fL p q)=true∧iV (fsum p q) + iV (fL p q)=iV p + iV q:=by
  have rh:=fsum_rng hp hq
  have rv:rng (fsum (fsum p q) (neg p)):=fsum_rng rh (neg_rng hp)
  have nh:=(stp_sum hp hq pp pq).nr ph
  have sv:=stp_diff rh hp ph pp
  have b1:=back_le (fl_iV p) hab nh
  have pv:=sv.fin (by have:=iV_max hp pp; omega)
  have ev:=nr_self (back (fl_iV p) (fl_iV q) hab nh) (sv.nr pv)
  have sl:=stp_diff hq rv pq pv
  have e3:=nh.2 _ (fl_iV p)
  have pl:=sl.fin (by rw [ev]; have:=iV_max hq pq; omega)
  have nl:=sl.nr pl
  have e4:=fast_sum (fl_iV p) (fl_iV q) hab nh (sv.nr pv) nl
  exact ⟨pl,by unfold fL; omega⟩
theorem fsum_eqn {p q:Int} (hp:rng p) (hq:rng q) (pp:pok p=true) (pq:pok q=true):fsum p q=if patV p + patV q=0 then patS (decide (p < 0) && decide (q < 0)) 0 else nearP (patV p + patV q):=by
  obtain ⟨a1,a2⟩:=fin_cls hp pp
  obtain ⟨b1,b2⟩:=fin_cls hq pq
  unfold fsum
  rw [if_neg (fun c=>c.elim a1 b1),if_neg a2,if_neg b2]
theorem fsum_comm {p q:Int} (hp:rng p) (hq:rng q) (pp:pok p=true) (pq:pok q=true):fsum p q=fsum q p:=by
  rw [fsum_eqn hp hq pp pq,fsum_eqn hq hp pq pp,Int.add_comm (patV q),Bool.and_comm (decide (q < 0))]
def fX (p q:Int):Bool:=pok (fL p q) && (!decide ((iV p).natAbs < (iV q).natAbs) || decide (iV (fL p q)=iV (fL q p)))
theorem fX_iff {p q:Int} (hp:rng p) (hq:rng q) (h:pok (fL p q)=true):fX p q=decide (iV (fsum p q) + iV (fL p q)=iV p + iV q):=by
  obtain ⟨⟨pp,pq⟩,ph⟩:=fL_args hp hq h
  unfold fX
  rw [h,Bool.true_and]
  by_cases c:(iV p).natAbs < (iV q).natAbs
  . have hc:=fsum_comm hp hq pp pq
    obtain ⟨k1,k2⟩:=fL_fin hq hp pq pp (by rw [<- hc]; exact ph) (by omega)
    rw [<- hc] at k2
    rw [decide_eq_true c]
    show decide _=decide _
    congr 1
    apply propext
    constructor <;> intro g <;> omega
  . rw [decide_eq_false c]
    have:=(fL_fin hp hq pp pq ph (by omega)).2
    rw [decide_eq_true this]
    rfl
theorem k_pow (k:Nat):((2 ^ k:Nat):Int)=2 ^ k:=by simp
theorem k_spl {K:Nat} {A B:Int} (h:(K:Int)=A) (g:B=33554432 * A):(((4503599627370496 + 33554432) * K:Nat):Int)=134217729 * B:=by omega
theorem k_split2 (i j:Nat):(2:Int) ^ (i + j)=2 ^ i * 2 ^ j:=Int.pow_add _ _ _
theorem V_splitter {k:Nat} (hk:k=1049):V Ieee.double 4728779608772575232=(4503599627370496 + 33554432) * 2 ^ k:=by
  unfold V
  rw [dBin,if_neg (by decide),show (4728779608772575232 % 4503599627370496:Nat)=33554432 by decide,show (4728779608772575232 / 4503599627370496 - 1:Nat)=k by omega]
theorem iV_splitter:iV 4728779608772575232=134217729 * 2 ^ 1074:=by
  obtain ⟨k,hk⟩:∃ k:Nat,k=1049:=⟨_,rfl⟩
  rw [show (1074:Nat)=25 + k by omega]
  have e3:iV 4728779608772575232=(V Ieee.double 4728779608772575232:Int):=by
    unfold iV
    rw [show (rg 4728779608772575232).toNat=4728779608772575232 by decide,show decide ((4728779608772575232:Int) < 0)=false by decide]
    exact sgF _
  have e2:=k_split2 25 k
  rw [show (2:Int) ^ 25=33554432 by decide] at e2
  rw [e3,V_splitter hk]
  exact k_spl (k_pow k) e2
structure Hlv (a h l:Int):Prop where
  sum:h + l=a
  dvd:∀ k:Nat,(2 ^ k:Int) ∣ a->(2 ^ k:Int) ∣ h
  zero:a=0->h=0
  spl:a ≠ 0->∃ x j:Nat,Spl (2 ^ x * a) (2 ^ x * h) j∧4503599627370496 * 2 ^ j <= ((2 ^ x * a).natAbs:Int)∧((2 ^ x * a).natAbs:Int) < 9007199254740992 * 2 ^ j
theorem stp_split {p:Int} (hp:rng p) (pp:pok p=true):EStp (134217729 * iV p) (cC p):=by
  refine stp_prod spl_rng hp (by decide) pp ?_
  rw [iV_splitter]
  generalize (2:Int) ^ 1074=k
  rw [<- Int.mul_assoc,Int.mul_comm k]
theorem hlv_of {a c d h l:Int} (ha:Fl a) (nc:Nr (134217729 * a) c) (nd:Nr (c - a) d) (nh:Nr (c - d) h) (nl:Nr (a - h) l):Hlv a h l:=by
  have dv:∀ k:Nat,(2 ^ k:Int) ∣ a->(2 ^ k:Int) ∣ h:=fun k g=>by
    have g1:=nr_dvd nc (Int.dvd_mul_of_dvd_right g)
    have g2:=nr_dvd nd (Int.dvd_sub g1 g)
    exact nr_dvd nh (Int.dvd_sub g1 g2)
  by_cases h0:a=0
  . subst h0
    have e1:=nr_self fl_zero nc
    subst e1
    have e2:=nr_self fl_zero nd
    subst e2
    have e3:=nr_self fl_zero nh
    subst e3
    have e4:=nr_self fl_zero nl
    subst e4
    exact ⟨rfl,dv,fun _=>rfl,fun c=>absurd rfl c⟩
  . obtain ⟨e,s⟩:=split_fl ha h0 nc nd nh nl
    exact ⟨by omega,dv,fun c=>absurd c h0,fun _=>s⟩
theorem spL_exact {p:Int} (hp:rng p) (h:pok (spL p)=true):pok p=true∧pok (spH p)=true∧Hlv (iV p) (iV (spH p)) (iV (spL p)):=by
  have rc:rng (cC p):=fprod_rng spl_rng hp
  have rd:=fsum_rng rc (neg_rng hp)
  have rH:rng (spH p):=fsum_rng rc (neg_rng rd)
  obtain ⟨pp,pH⟩:=fdiff_args hp rH h
  obtain ⟨pc,pd⟩:=fdiff_args rc rd pH
  exact ⟨pp,pH,hlv_of (fl_iV p) ((stp_split hp pp).nr pc) ((stp_diff rc hp pc pp).nr pd) ((stp_diff rc rd pc pd).nr pH) ((stp_diff hp rH pp pH).nr h)⟩
theorem dvd_split (n:Nat) (a b:Int):(2 ^ n:Int) ∣ a * b->∃ i j:Nat,i + j=n∧(2 ^ i:Int) ∣ a∧(2 ^ j:Int) ∣ b:=by
  induction n with
  | zero=>intro _; exact ⟨0,0,rfl,⟨a,by simp⟩,⟨b,by simp⟩⟩
  | succ n ih=>
    intro h
    obtain ⟨i,j,e,⟨c,rfl⟩,⟨d,rfl⟩⟩:=ih (Int.dvd_trans (p2dvd (by omega)) h)
    obtain ⟨t,ht⟩:=h
    have e2:(2:Int) ^ i * c * (2 ^ j * d)=2 ^ n * (c * d):=by
      rw [<- e,Int.pow_add,Int.mul_assoc,Int.mul_assoc]; congr 1; rw [<- Int.mul_assoc,<- Int.mul_assoc,Int.mul_comm c]
    rw [e2,p2s,Int.mul_comm 2,Int.mul_assoc] at ht
    have e3:c * d=2 * t:=Int.eq_of_mul_eq_mul_left (by have:=p2 n; omega) ht
    by_cases hc:c % 2=0
    . obtain ⟨c',rfl⟩:∃ c',c=2 * c':=⟨c / 2,by omega⟩
      exact ⟨i + 1,j,by omega,⟨c',by rw [p2s,<- Int.mul_assoc,Int.mul_comm (2 ^ i) 2]⟩,⟨d,rfl⟩⟩
    . have hd:d % 2=0:=by
        have h1:c % 2=1:=by omega
        have h2:(c * d) % 2=0:=by omega
        rw [Int.mul_emod,h1,Int.one_mul] at h2
        omega
      obtain ⟨d',rfl⟩:∃ d',d=2 * d':=⟨d / 2,by omega⟩
      exact ⟨i,j + 1,by omega,⟨c,rfl⟩,⟨d',by rw [p2s,<- Int.mul_assoc,Int.mul_comm (2 ^ j) 2]⟩⟩
theorem sc_prod {x y i:Nat} {T p r:Int} (h:2 ^ i * T=p * r):(2:Int) ^ (x + y + i) * T=(2 ^ x * p) * (2 ^ y * r):=by
  rw [Int.pow_add,Int.mul_assoc,h,Int.pow_add,Int.mul_assoc,Int.mul_assoc]
  congr 1
  rw [<- Int.mul_assoc,<- Int.mul_assoc,Int.mul_comm (2 ^ y) p]
theorem dekker_any {n:Nat} {a b P Q R S H T t1 t2 t3 l Tpr Tqr Tps Tqs xpr xqr xps xqs:Int} (ha:Hlv a P Q) (hb:Hlv b R S) (eT:2 ^ n * T=a * b) (e1:2 ^ n * Tpr=P * R) (e2:2 ^ n * Tqr=Q * R) (e3:2 ^ n * Tps=P * S) (e4:2 ^ n * Tqs=Q * S)
    (nH:Nr T H) (n1:Nr Tpr xpr) (m1:Nr (H - xpr) t1) (n2:Nr Tqr xqr) (m2:Nr (t1 - xqr) t2) (n3:Nr Tps xps) (m3:Nr (t2 - xps) t3) (n4:Nr Tqs xqs) (m4:Nr (xqs - t3) l):l=T - H:=by
  have hn:=p2 n
  by_cases h0:a=0∨b=0
  . have z0:T=0∧Tpr=0∧Tqr=0∧Tps=0∧Tqs=0:=by
      have s1:=ha.sum
      have s2:=hb.sum
      have cancel:∀ {t:Int},2 ^ n * t=0->t=0:=fun {t} h=>by
        rcases Int.mul_eq_zero.1 h with g | g
        . omega
        . exact g
      rcases h0 with c | c
      . have c1:=ha.zero c
        have c2:Q=0:=by omega
        subst c1 c2 c
        simp only [Int.zero_mul] at eT e1 e2 e3 e4
        exact ⟨cancel eT,cancel e1,cancel e2,cancel e3,cancel e4⟩
      . have c1:=hb.zero c
        have c2:S=0:=by omega
        subst c1 c2 c
        simp only [Int.mul_zero] at eT e1 e2 e3 e4
        exact ⟨cancel eT,cancel e1,cancel e2,cancel e3,cancel e4⟩
    obtain ⟨rfl,rfl,rfl,rfl,rfl⟩:=z0
    have g1:=nr_self fl_zero nH
    have g2:=nr_self fl_zero n1
    have g3:=nr_self fl_zero n2
    have g4:=nr_self fl_zero n3
    have g5:=nr_self fl_zero n4
    subst g1 g2 g3 g4 g5
    have g6:=nr_self fl_zero m1
    subst g6
    have g7:=nr_self fl_zero m2
    subst g7
    have g8:=nr_self fl_zero m3
    subst g8
    exact nr_self fl_zero m4
  . obtain ⟨x,i,sa,a0,a1⟩:=ha.spl (fun c=>h0 (.inl c))
    obtain ⟨y,j,sb,b0,b1⟩:=hb.spl (fun c=>h0 (.inr c))
    have eQ:Q=a - P:=by have:=ha.sum; omega
    have eS:S=b - R:=by have:=hb.sum; omega
    subst eQ eS
    have k0:=nr_scale nH (x + y + n)
    have k1:=nr_scale n1 (x + y + n)
    have k2:=nr_scale m1 (x + y + n)
    have k3:=nr_scale n2 (x + y + n)
    have k4:=nr_scale m2 (x + y + n)
    have k5:=nr_scale n3 (x + y + n)
    have k6:=nr_scale m3 (x + y + n)
    have k7:=nr_scale n4 (x + y + n)
    have k8:=nr_scale m4 (x + y + n)
    rw [sc_prod eT] at k0
    rw [sc_prod e1] at k1
    rw [sc_prod e2] at k3
    rw [sc_prod e3] at k5
    rw [sc_prod e4] at k7
    rw [Int.mul_sub] at k2 k4 k6 k8
    rw [Int.mul_sub (2 ^ x) a P] at k3 k7
    rw [Int.mul_sub (2 ^ y) b R] at k5 k7
    have e:=dekker sa sb a0 a1 b0 b1 k0 k1 k2 k3 k4 k5 k6 k7 k8
    rw [<- sc_prod eT,<- Int.mul_sub] at e
    exact Int.eq_of_mul_eq_mul_left (by have:=p2 (x + y + n); omega) e
theorem dvd_prod {n i j:Nat} {a b:Int} (h:i + j=n) (ha:(2 ^ i:Int) ∣ a) (hb:(2 ^ j:Int) ∣ b):∃ T,2 ^ n * T=a * b:=by
  obtain ⟨c,rfl⟩:=ha
  obtain ⟨d,rfl⟩:=hb
  refine ⟨c * d,?_⟩
  rw [<- h,Int.pow_add,Int.mul_assoc,Int.mul_assoc]; congr 1; rw [<- Int.mul_assoc,<- Int.mul_assoc,Int.mul_comm c]
theorem prL_args {p q:Int} (hp:rng p) (hq:rng q) (h:pok (prL p q)=true):(pok (spL p)=true∧pok (spL q)=true)∧pok (fprod p q)=true∧(pok (fprod (spH p) (spH q))=true∧pok (pT1 p q)=true)∧(pok (fprod (spL p) (spH q))=true∧pok (pT2 p q)=true)∧(pok (fprod (spH p) (spL q))=true∧pok (pT3 p q)=true)∧pok (fprod (spL p) (spL q))=true∧(rng (spH p)∧rng (spL p)∧rng (spH q)∧rng (spL q)∧rng (pT1 p q)∧rng (pT2 p q)∧rng (pT3 p q)):=by
  have rsp:∀ {p:Int},rng p->rng (spH p)∧rng (spL p):=fun {p} hp=>by
    have rc:rng (cC p):=fprod_rng spl_rng hp
    have rd:=fsum_rng rc (neg_rng hp)
    have rH:rng (spH p):=fsum_rng rc (neg_rng rd)
    exact ⟨rH,fsum_rng hp (neg_rng rH)⟩
  obtain ⟨rP,rQ⟩:=rsp hp
  obtain ⟨rR,rS⟩:=rsp hq
  have rT1:rng (pT1 p q):=fsum_rng (fprod_rng hp hq) (neg_rng (fprod_rng rP rR))
  have rT2:rng (pT2 p q):=fsum_rng rT1 (neg_rng (fprod_rng rQ rR))
  have rT3:rng (pT3 p q):=fsum_rng rT2 (neg_rng (fprod_rng rP rS))
  obtain ⟨pqs,p3⟩:=fdiff_args (fprod_rng rQ rS) rT3 h
  obtain ⟨p2,pps⟩:=fdiff_args rT2 (fprod_rng rP rS) p3
  obtain ⟨p1,pqr⟩:=fdiff_args rT1 (fprod_rng rQ rR) p2
  obtain ⟨ph,ppr⟩:=fdiff_args (fprod_rng hp hq) (fprod_rng rP rR) p1
  exact ⟨fprod_args rQ rS pqs,ph,⟨ppr,p1⟩,⟨pqr,p2⟩,⟨pps,p3⟩,pqs,rP,rQ,rR,rS,rT1,rT2,rT3⟩
theorem prL_exact {p q T:Int} (hp:rng p) (hq:rng q) (h:pok (prL p q)=true) (hT:2 ^ 1074 * T=iV p * iV q):(pok p=true∧pok q=true)∧pok (fprod p q)=true∧iV (fprod p q) + iV (prL p q)=T:=by
  obtain ⟨⟨pQ,pS⟩,ph,⟨ppr,p1⟩,⟨pqr,p2⟩,⟨pps,p3⟩,pqs,rP,rQ,rR,rS,rT1,rT2,rT3⟩:=prL_args hp hq h
  obtain ⟨pp,pP,ha⟩:=spL_exact hp pQ
  obtain ⟨pq,pR,hb⟩:=spL_exact hq pS
  have hd:(2 ^ 1074:Int) ∣ iV p * iV q:=⟨T,hT.symm⟩
  obtain ⟨i,j,eij,di,dj⟩:=dvd_split 1074 _ _ hd
  have dP:=ha.dvd i di
  have dR:=hb.dvd j dj
  have dQ:(2 ^ i:Int) ∣ iV (spL p):=by have:=ha.sum; rw [show iV (spL p)=iV p - iV (spH p) by omega]; exact Int.dvd_sub di dP
  have dS:(2 ^ j:Int) ∣ iV (spL q):=by have:=hb.sum; rw [show iV (spL q)=iV q - iV (spH q) by omega]; exact Int.dvd_sub dj dR
  obtain ⟨Tpr,e1⟩:=dvd_prod eij dP dR
  obtain ⟨Tqr,e2⟩:=dvd_prod eij dQ dR
  obtain ⟨Tps,e3⟩:=dvd_prod eij dP dS
  obtain ⟨Tqs,e4⟩:=dvd_prod eij dQ dS
  have e:=dekker_any ha hb hT e1 e2 e3 e4 ((stp_prod hp hq pp pq hT).nr ph) ((stp_prod rP rR pP pR e1).nr ppr) ((stp_diff (fprod_rng hp hq) (fprod_rng rP rR) ph ppr).nr p1) ((stp_prod rQ rR pQ pR e2).nr pqr) ((stp_diff rT1 (fprod_rng rQ rR) p1 pqr).nr p2) ((stp_prod rP rS pP pS e3).nr pps) ((stp_diff rT2 (fprod_rng rP rS) p2 pps).nr p3) ((stp_prod rQ rS pQ pS e4).nr pqs) ((stp_diff (fprod_rng rQ rS) rT3 pqs p3).nr h)
  exact ⟨⟨pp,pq⟩,ph,by unfold prL; omega⟩
end Go.Proofs.YtafnigjehkpggaaGreatDoor
/-
  Mathematics of whole numbers: a float's whole units,ints as floats,the order of floats in the model.
-/
namespace Go.Proofs.YtafnigjehkpggaaGreatDoor.M
open Go Ieee
set_option linter.unusedSimpArgs false
set_option linter.unusedVariables false
theorem left_u {A q:Int} {u v:Nat} {l k:Int} (h:Left A u q l) (g:Left A v q k):¬ u < v:=fun c=>by
  have h1:=h.hi
  have h2:=g.lo
  have hq:0 < q:=by have:=h.lo; omega
  have h3:((u:Int) + 1) * q <= (v:Int) * q:=Int.mul_le_mul_of_nonneg_right (by omega) (by omega)
  rw [Int.add_mul,Int.one_mul] at h3
  omega
theorem Left.unique {A q:Int} {u v:Nat} {l k:Int} (h:Left A u q l) (g:Left A v q k):u=v∧l=k:=by
  have e:u=v:=by
    have h1:=left_u h g
    have h2:=left_u g h
    omega
  subst e
  refine ⟨rfl,?_⟩
  have lo:=h.lo
  have hi:=h.hi
  obtain ⟨T,hT⟩:∃ T,(u:Int) * q=T:=⟨_,rfl⟩
  rw [hT] at lo hi
  have a0:=h.l0
  have a1:=h.l1
  have a2:=h.l2
  have a3:=h.l3
  have b0:=g.l0
  have b1:=g.l1
  have b2:=g.l2
  have b3:=g.l3
  rw [hT] at a0 a1 a2 a3 b0 b1 b2 b3
  by_cases c0:A=T
  . rw [a0.2 c0,b0.2 c0]
  . by_cases c1:2 * A < 2 * T + q
    . rw [a1.2 ⟨by omega,c1⟩,b1.2 ⟨by omega,c1⟩]
    . by_cases c2:2 * A=2 * T + q
      . rw [a2.2 c2,b2.2 c2]
      . rw [a3.2 (by omega),b3.2 (by omega)]
theorem cmp_mul {a b q:Int} (hq:0 < q):compare (a * q) (b * q)=compare a b:=by
  have h1:a * q < b * q ↔ a < b:=⟨fun h=>Int.lt_of_mul_lt_mul_right h (by omega),fun h=>Int.mul_lt_mul_of_pos_right h hq⟩
  have h2:a * q=b * q ↔ a=b:=⟨fun h=>Int.eq_of_mul_eq_mul_right (by omega) h,fun h=>by rw [h]⟩
  show compareOfLessAndEq (a * q) (b * q)=compareOfLessAndEq a b
  unfold compareOfLessAndEq
  simp only [h1,h2]
theorem cmp_eq {a b:Int}:(some (compare a b) == some Ordering.eq)=decide (a=b):=by
  show (some (compareOfLessAndEq a b) == some Ordering.eq)=_
  unfold compareOfLessAndEq
  by_cases h1:a < b
  . rw [if_pos h1,decide_eq_false (by omega)]; rfl
  . rw [if_neg h1]
    by_cases h2:a=b
    . rw [if_pos h2,decide_eq_true (by omega)]; rfl
    . rw [if_neg h2,decide_eq_false (by omega)]; rfl
end Go.Proofs.YtafnigjehkpggaaGreatDoor.M
namespace Go.Proofs.YtafnigjehkpggaaGreatDoor
open Go Go.RowKit Go.Proofs.YtafnigjehkpggaaGreatDoor.M Ieee
set_option linter.unusedSimpArgs false
set_option linter.unusedVariables false
theorem order_wd {p q:Int} (hp:rng p) (hq:rng q) (pp:pok p=true) (pq:pok q=true):Ieee.double.order (wd p) (wd q)=some (compare (patV p) (patV q)):=by
  obtain ⟨m,u,r1,v1⟩:=read_wd hp pp
  obtain ⟨n,v,r2,v2⟩:=read_wd hq pq
  unfold Ieee.Format.order
  rw [r1,r2]
  show some (compare (signed (decide (p < 0)) m (-1074 + (u:Int) - min (-1074 + (u:Int)) (-1074 + (v:Int))).toNat) (signed (decide (q < 0)) n (-1074 + (v:Int) - min (-1074 + (u:Int)) (-1074 + (v:Int))).toNat))=_
  have hb:-4194304 <= min (-1074 + (u:Int)) (-1074 + (v:Int)):=by omega
  have s1:=signed_pw (decide (p < 0)) m (-1074 + (u:Int) - min (-1074 + (u:Int)) (-1074 + (v:Int))).toNat (i:=-1074 + (u:Int)) (base:=min (-1074 + (u:Int)) (-1074 + (v:Int))) (by omega) hb
  have s2:=signed_pw (decide (q < 0)) n (-1074 + (v:Int) - min (-1074 + (u:Int)) (-1074 + (v:Int))).toNat (i:=-1074 + (v:Int)) (base:=min (-1074 + (u:Int)) (-1074 + (v:Int))) (by omega) hb
  rw [v1,v2,<- s1,<- s2,cmp_mul (pw_pos _)]
end Go.Proofs.YtafnigjehkpggaaGreatDoor
namespace Go.Proofs.YtafnigjehkpggaaGreatDoor
open Go Go.RowKit Go.Proofs.YtafnigjehkpggaaGreatDoor.M Ieee
set_option linter.unusedSimpArgs false
set_option linter.unusedVariables false
theorem FW.rng {p:Int} {x:Nat} (h:FW p x):M.rng p:=by
  rcases h with ⟨_,h,_⟩ | ⟨rfl,_⟩
  . exact h
  . exact nan_rng
theorem neg_sign {p:Int} (hp:M.rng p) (h4:¬ cls p=4):decide (M.neg p < 0)=!decide (p < 0)∧rg (M.neg p)=rg p∧¬ cls (M.neg p)=4:=by
  have h0:0 <= rg p∧rg p < 9223372036854775808:=by unfold rg; unfold M.rng at hp; split <;> omega
  have e:rg (M.neg p)=rg p∧decide (M.neg p < 0)=!decide (p < 0):=by
    unfold M.neg rg
    rw [if_neg h4]
    unfold M.rng at hp
    by_cases c:p < 0
    . rw [if_pos c,decide_eq_true c,if_neg (by omega)]
      exact ⟨by rw [if_pos c],decide_eq_false (by omega)⟩
    . rw [if_neg c,decide_eq_false c,if_pos (by omega)]
      exact ⟨by rw [if_neg c]; omega,decide_eq_true (by omega)⟩
  refine ⟨e.2,e.1,fun c=>?_⟩
  have:=(cls_rg (neg_rng hp)).1.1 c
  rw [e.1] at this
  exact h4 ((cls_rg hp).1.2 this)
theorem self_pat {p:Int} (hp:M.rng p):fsum p (M.neg p)=if pok p then 0 else 9221120237041090561:=by
  by_cases c4:cls p=4
  . have:pok p=false:=by
      cases h:pok p
      . rfl
      . exact absurd c4 (fin_cls hp h).1
    rw [this]
    unfold fsum
    rw [if_pos (.inl c4)]
    rfl
  . obtain ⟨s1,s2,s3⟩:=neg_sign hp c4
    cases h:pok p
    . have hi:rg p=9218868437227405312:=by
        by_cases c:rg p=9218868437227405312
        . exact c
        . rw [pok_of hp c4 c] at h; cases h
      unfold fsum
      rw [if_neg (fun c=>c.elim c4 s3),if_pos hi,if_pos ⟨by rw [s2]; exact hi,by rw [s1]; cases decide (p < 0) <;> decide⟩]
      rfl
    . obtain ⟨n1,n2,n3⟩:=neg_facts hp h
      unfold fsum
      rw [if_neg (fun c=>c.elim c4 s3),if_neg (fin_cls hp h).2,if_neg (by rw [s2]; exact (fin_cls hp h).2),patV_iV hp h,patV_iV n1 n2,n3,if_pos (by rw [<- Int.add_mul,Int.add_right_neg,Int.zero_mul]),s1]
      cases decide (p < 0) <;> rfl
theorem order_zero:Ieee.double.order 0 0=some .eq:=by decide +kernel
theorem self_order {p:Int} {z:Nat} (hp:M.rng p) (hz:FW (fsum p (M.neg p)) z):(Ieee.double.order z 0 == some Ordering.eq)=pok p:=by
  rw [self_pat hp] at hz
  cases h:pok p
  . rw [h] at hz
    obtain ⟨s,t,e⟩:=hz.read_nan nan_canon
    unfold Ieee.Format.order
    rw [e]
    rfl
  . rw [h] at hz
    obtain ⟨_,e,_⟩:=hz.of (by decide)
    have:z=0:=by rw [e]; decide
    rw [this,order_zero]
    rfl
set_option maxRecDepth 100000 in
set_option maxHeartbeats 1000000 in
theorem etold_any {p q:Int} {x y:Nat} (hx:FW p x) (hy:FW q y) (w:World) :
    Calls Tryz.prog 101 #[.float .f64 x,.float .f64 y] w fun e w'=>e=.returned (.tuple #[.int .i64 p,.int .i64 q,.bool (pok q)])∧Below w.heap.size w w':=by
  have C1:=fun W=>of_FW hx W
  have C2:=fun W=>of_FW hy W
  obtain ⟨z1,w1,e1,f1,d1⟩:=run_fdiff (P:=Tryz.prog) 60 hy hy w
  have B1:Hid (Below w.heap.size w w1):=stay_b d1
  have HO:(Ieee.double.order z1 0 == some Ordering.eq)=pok q:=self_order hy.rng f1
  clear d1 f1 hx hy
  generalize pok q=R at HO ⊢
  go_enter Tryz.func101,Tryz.ntmps101
  go_wp2_with fail
  refine (C1 _).mono ?_
  rintro _ _ ⟨rfl,rfl⟩
  go_wp2_with fail
  refine (C2 _).mono ?_
  rintro _ _ ⟨rfl,rfl⟩
  have HO2:(FloatKind.f64.format.order z1 0 == some Ordering.eq)=R:=HO
  go_wp2
  refine bodyPost_ret (v:=.tuple #[.int .i64 p,.int .i64 q,.bool R]) (by simp [results,Tryz.results101,go_sem,HO2]) rfl ⟨rfl,B1.out⟩
set_option maxRecDepth 100000 in
set_option maxHeartbeats 1000000 in
theorem twoSum_any {a b:Int} (ha:M.rng a) (hb:M.rng b) (w:World) :
    Calls Tryz.prog 127 #[.int .i64 a,.int .i64 b] w fun e w'=>e=.returned (.tuple #[.int .i64 (fsum (told a) (told b)),.int .i64 (sL (told a) (told b)),.bool (pok (sL (told a) (told b)))])∧Below w.heap.size w w':=by
  have C1:=fun W=>bitsFloat a W
  have C2:=fun W=>bitsFloat b W
  have FA:Hid (FW (told a) (wd a)):=wd_told ha
  have FB:Hid (FW (told b) (wd b)):=wd_told hb
  generalize told a=p at *
  generalize told b=q at *
  generalize wd a=x at *
  generalize wd b=y at *
  go_enter Tryz.func127,Tryz.ntmps127
  go_wp2_with fail
  refine (C1 _).mono ?_
  rintro _ _ ⟨rfl,rfl⟩
  go_wp2_with fail
  refine (C2 _).mono ?_
  rintro _ _ ⟨rfl,rfl⟩
  go_wp2_with fail
  refine (esum_any FA.out FB.out _).mono ?_
  rintro _ w1 ⟨z,u,rfl,g1,g2,b1⟩
  have G1:Hid (FW (fsum p q) z):=g1
  have G2:Hid (FW (sL p q) u):=g2
  clear g1 g2
  go_wp2_with fail
  refine (etold_any G1.out G2.out _).mono ?_
  rintro _ w2 ⟨rfl,b2⟩
  go_wp2
  refine bodyPost_ret (v:=.tuple #[.int .i64 (fsum p q),.int .i64 (sL p q),.bool (pok (sL p q))]) (by simp [results,Tryz.results127,go_sem]) rfl ⟨rfl,bel_trans b1 b2⟩
set_option maxRecDepth 100000 in
set_option maxHeartbeats 1000000 in
theorem twoDiff_any {a b:Int} (ha:M.rng a) (hb:M.rng b) (w:World) (L:Lays w) :
    Calls Tryz.prog 100 #[.int .i64 a,.int .i64 b] w fun e w'=>e=.returned (.tuple #[.int .i64 (fsum (told a) (told (M.neg b))),.int .i64 (sL (told a) (told (M.neg b))),.bool (pok (sL (told a) (told (M.neg b))))])∧Below w.heap.size w w':=by
  have C1:=bitsNeg b w L hb
  have C2:=fun W=>twoSum_any ha (neg_rng hb) W
  generalize M.neg b=c at *
  generalize told a=p at *
  generalize told c=q at *
  go_enter Tryz.func100,Tryz.ntmps100
  go_wp2_with fail
  refine C1.mono ?_
  rintro _ w1 ⟨rfl,g1⟩
  have b1:=g1.be
  clear g1
  go_wp2_with fail
  refine (C2 _).mono ?_
  rintro _ w2 ⟨rfl,b2⟩
  go_wp2
  refine bodyPost_ret (v:=.tuple #[.int .i64 (fsum p q),.int .i64 (sL p q),.bool (pok (sL p q))]) (by simp [results,Tryz.results100,go_sem]) rfl ⟨rfl,bel_trans b1 b2⟩
end Go.Proofs.YtafnigjehkpggaaGreatDoor
/-
  Package eft: math.Abs,FastTwoSum,reachable,TwoProd,by their contracts.
-/
namespace Go.Proofs.YtafnigjehkpggaaGreatDoor
open Go Go.RowKit Go.Proofs.YtafnigjehkpggaaGreatDoor.M Ieee
set_option linter.unusedSimpArgs false
set_option linter.unusedVariables false
theorem bits_andNotU (x y:Int):bits .andNot .u64 x y=IntKind.u64.wrap (((x % 18446744073709551616).toNat &&& (18446744073709551615 - (y % 18446744073709551616).toNat):Nat):Int):=by
  show IntKind.u64.wrap (((BitVec.ofInt 64 x &&& ~~~ BitVec.ofInt 64 y).toNat:Nat):Int)=_
  rw [BitVec.toNat_and,BitVec.toNat_not,ofInt64_toNat,ofInt64_toNat]
theorem abs_word {p:Int} (hp:M.rng p):bits .andNot .u64 ((wd p:Nat):Int) 9223372036854775808=((wd (rg p):Nat):Int):=by
  rw [bits_andNotU,show (18446744073709551615 - ((9223372036854775808:Int) % 18446744073709551616).toNat)=2 ^ 63 - 1 from by decide,IntKind.wrap_u64,Nat.and_two_pow_sub_one_eq_mod]
  unfold wd rg M.rng at *
  have e:(2:Nat) ^ 63=9223372036854775808:=by decide
  rw [e]
  split <;> omega
set_option maxRecDepth 100000 in
theorem mabs_any {p:Int} (hp:M.rng p) (w:World) :
    Calls Tryz.prog 27 #[.float .f64 (wd p)] w fun e w'=>e=.returned (.float .f64 (wd (rg p)))∧w'=w:=by
  have h1:=run_from64
  have h2:=run_bits64
  have h3:=abs_word hp
  generalize wd (rg p)=z at *
  generalize wd p=x at *
  go_enter Tryz.func27,Tryz.ntmps27
  go_wp2
  go_ret
  exact ⟨by simp,rfl⟩
theorem rg_facts {p:Int} (hp:M.rng p) (h:pok p=true):M.rng (rg p)∧pok (rg p)=true∧iV (rg p)=((iV p).natAbs:Int):=by
  have h1:=(pok_rg hp).1 h
  have h0:0 <= rg p:=by unfold rg; unfold M.rng at hp; split <;> omega
  have e:rg p=patS false (rg p):=rfl
  obtain ⟨a,b,c⟩:=patS_parts (ng:=false) h0 (by omega)
  rw [<- e] at a
  refine ⟨a,?_,?_⟩
  . rw [e,patS_fin h0 (by omega)]; exact decide_eq_true h1
  . rw [iV_abs]
    have:=iV_patS (ng:=false) h0 (show rg p <= 9218868437227405312 by omega)
    rw [<- e] at this
    rw [this]
    rfl
theorem cmp_iV {p q:Int} (hp:M.rng p) (hq:M.rng q) (pp:pok p=true) (pq:pok q=true):Ieee.double.order (wd p) (wd q)=some (compare (iV p) (iV q)):=by
  rw [order_wd hp hq pp pq,patV_iV hp pp,patV_iV hq pq,cmp_mul (pw_pos _)]
theorem cmp_lt {a b:Int}:(some (compare a b) == some Ordering.lt)=decide (a < b):=by
  show (some (compareOfLessAndEq a b) == some Ordering.lt)=_
  unfold compareOfLessAndEq
  by_cases h1:a < b
  . rw [if_pos h1,decide_eq_true h1]; rfl
  . rw [if_neg h1,decide_eq_false h1]
    split <;> rfl
theorem abs_order {p q:Int} (hp:M.rng p) (hq:M.rng q) (pp:pok p=true) (pq:pok q=true):(Ieee.double.order (wd (rg p)) (wd (rg q)) == some Ordering.lt)=decide ((iV p).natAbs < (iV q).natAbs):=by
  obtain ⟨a1,a2,a3⟩:=rg_facts hp pp
  obtain ⟨b1,b2,b3⟩:=rg_facts hq pq
  rw [cmp_iV a1 b1 a2 b2,cmp_lt,a3,b3]
  congr 1
  apply propext
  omega
theorem told_fin {a:Int} (h:pok (told a)=true):told a=a:=by
  unfold told at *
  by_cases c:cls a=4
  . rw [if_pos c,nan_no] at h; cases h
  . rw [if_neg c]
theorem FW.fin {p:Int} {x:Nat} (h:FW p x) (g:pok p=true):x=wd p:=by
  rcases h with ⟨_,_,h⟩ | ⟨rfl,_⟩
  . exact h
  . rw [nan_no] at g; cases g
set_option maxRecDepth 100000 in
set_option maxHeartbeats 2000000 in
theorem fastTwoSum_any {a b:Int} (ha:M.rng a) (hb:M.rng b) (w:World) :
    Calls Tryz.prog 140 #[.int .i64 a,.int .i64 b] w fun e w'=>e=.returned (.tuple #[.int .i64 (fsum (told a) (told b)),.int .i64 (fL (told a) (told b)),.bool (fX (told a) (told b))])∧Below w.heap.size w w':=by
  have C1:=fun W=>bitsFloat a W
  have C2:=fun W=>bitsFloat b W
  have FA:Hid (FW (told a) (wd a)):=wd_told ha
  have FB:Hid (FW (told b) (wd b)):=wd_told hb
  generalize told a=p at *
  generalize told b=q at *
  generalize wd a=x at *
  generalize wd b=y at *
  obtain ⟨X,hX0⟩:∃ X,fX p q=X:=⟨_,rfl⟩
  have HX:Hid (fX p q=X):=hX0
  rw [hX0]
  clear hX0
  go_enter Tryz.func140,Tryz.ntmps140
  go_wp2_with fail
  refine (C1 _).mono ?_
  rintro _ _ ⟨rfl,rfl⟩
  go_wp2_with fail
  refine (C2 _).mono ?_
  rintro _ _ ⟨rfl,rfl⟩
  go_wp2_with fail
  refine (efast_any FA.out FB.out _).mono ?_
  rintro _ w1 ⟨z,u,rfl,g1,g2,b1⟩
  have G1:Hid (FW (fsum p q) z):=g1
  have G2:Hid (FW (fL p q) u):=g2
  clear g1 g2 C1 C2
  go_wp2_with fail
  refine (etold_any G1.out G2.out _).mono ?_
  rintro _ w2 ⟨rfl,b2⟩
  have hb2:=bel_trans b1 b2
  have hp:=FA.out.rng
  have hq:=FB.out.rng
  cases hl:pok (fL p q)
  . have hx:X=false:=by rw [<- HX.out]; unfold fX; rw [hl]; rfl
    subst hx
    clear HX
    clear G1 G2 FA FB hp hq
    go_wp2
    all_goals refine bodyPost_ret (v:=.tuple #[.int .i64 (fsum p q),.int .i64 (fL p q),.bool false]) (by simp [results,Tryz.results140,go_sem]) rfl ⟨rfl,hb2⟩
  . obtain ⟨⟨pp,pq⟩,ph⟩:=fL_args hp hq hl
    have ex:=FA.out.fin pp
    have ey:=FB.out.fin pq
    have eu:=G2.out.fin hl
    subst ex ey eu
    have A1:=fun W=>mabs_any hp W
    have A2:=fun W=>mabs_any hq W
    have HO:(FloatKind.f64.format.order (wd (rg p)) (wd (rg q)) == some Ordering.lt)=decide ((iV p).natAbs < (iV q).natAbs):=abs_order hp hq pp pq
    by_cases c:(iV p).natAbs < (iV q).natAbs
    . have hc:=fsum_comm hp hq pp pq
      obtain ⟨k1,k2⟩:=fL_fin hq hp pq pp (by rw [<- hc]; exact ph) (by omega)
      have hfl:M.rng (fL p q):=by unfold fL; exact fsum_rng hq (neg_rng (fsum_rng (fsum_rng hp hq) (neg_rng hp)))
      have hfl2:M.rng (fL q p):=by unfold fL; exact fsum_rng hp (neg_rng (fsum_rng (fsum_rng hq hp) (neg_rng hq)))
      have HE:(FloatKind.f64.format.order (wd (fL p q)) (wd (fL q p)) == some Ordering.eq)=decide (iV (fL p q)=iV (fL q p)):=by
        show (Ieee.double.order (wd (fL p q)) (wd (fL q p)) == some Ordering.eq)=_
        rw [cmp_iV hfl hfl2 hl k1,cmp_eq]
      have hx:X=decide (iV (fL p q)=iV (fL q p)):=by rw [<- HX.out]; unfold fX; rw [hl,decide_eq_true c]; rfl
      rw [<- hx] at HE
      clear HX hx
      rw [decide_eq_true c] at HO
      have K1:Hid (pok (fL q p)=true):=k1
      clear hc k2 G1 hfl hfl2
      generalize wd (rg p)=xa at *
      generalize wd (rg q)=ya at *
      go_wp2_with fail
      refine (A1 _).mono ?_
      rintro _ _ ⟨rfl,rfl⟩
      go_wp2_with fail
      refine (A2 _).mono ?_
      rintro _ _ ⟨rfl,rfl⟩
      go_wp2_with fail
      refine (efast_any FB.out FA.out _).mono ?_
      rintro _ w3 ⟨z3,u3,rfl,g3,g4,b3⟩
      have e4:=g4.fin K1.out
      subst e4
      have hb3:=bel_trans hb2 b3
      clear g3 g4
      go_wp2
      all_goals refine bodyPost_ret (v:=.tuple #[.int .i64 (fsum p q),.int .i64 (fL p q),.bool X]) (by simp [results,Tryz.results140,go_sem,HE]) rfl ⟨rfl,hb3⟩
    . have hx:X=true:=by rw [<- HX.out]; unfold fX; rw [hl,decide_eq_false c]; rfl
      subst hx
      clear HX
      rw [decide_eq_false c] at HO
      clear G1
      generalize wd (rg p)=xa at *
      generalize wd (rg q)=ya at *
      go_wp2_with fail
      refine (A1 _).mono ?_
      rintro _ _ ⟨rfl,rfl⟩
      go_wp2_with fail
      refine (A2 _).mono ?_
      rintro _ _ ⟨rfl,rfl⟩
      go_wp2
      all_goals refine bodyPost_ret (v:=.tuple #[.int .i64 (fsum p q),.int .i64 (fL p q),.bool true]) (by simp [results,Tryz.results140,go_sem]) rfl ⟨rfl,hb2⟩
end Go.Proofs.YtafnigjehkpggaaGreatDoor
namespace Go.Proofs.YtafnigjehkpggaaGreatDoor
open Go Go.RowKit Go.Proofs.YtafnigjehkpggaaGreatDoor.M Ieee
set_option linter.unusedSimpArgs false
set_option linter.unusedVariables false
set_option maxRecDepth 100000 in
theorem tzero_any (mag:Int) (h0:0 < mag) (h:mag < 9223372036854775808) (w:World) (hT:b_Tab w) :
    Calls Tryz.prog 115 #[.int .u64 mag] w fun e w'=>e=.returned (.int .i64 (jz mag))∧w'=w:=by
  go_enter Tryz.func115,Tryz.ntmps115
  go_wp2_with fail
  refine (trailingI mag h0 h _ hT).mono ?_
  rintro _ _ ⟨rfl,rfl⟩
  go_wp2
  go_ret
  exact ⟨rfl,rfl⟩
set_option maxRecDepth 100000 in
theorem zeros_any (x:Int) (h0:0 < x) (h1:x < 9223372036854775808) (w:World) (hT:b_Tab w) :
    Calls Tryz.prog 129 #[.int .i64 x] w fun e w'=>e=.returned (.int .i64 (jz x))∧w'=w:=by
  have u1:IntKind.u64.wrap x=x:=by rw [IntKind.wrap_u64]; omega
  have C:=fun W (T:b_Tab W)=>tzero_any x h0 h1 W T
  go_enter Tryz.func129,Tryz.ntmps129
  go_wp2_with fail
  refine (C _ hT).mono ?_
  rintro _ _ ⟨rfl,rfl⟩
  go_wp2
  go_ret
  exact ⟨rfl,rfl⟩
def reach (a b:Int):Bool:=decide (pmag a=0) || decide (pmag b=0) || decide (-1074 <= pexp a + jz (pmag a) + pexp b + jz (pmag b))
end Go.Proofs.YtafnigjehkpggaaGreatDoor
namespace Go.Proofs.YtafnigjehkpggaaGreatDoor
open Go Go.RowKit Go.Proofs.YtafnigjehkpggaaGreatDoor.M Ieee
set_option linter.unusedSimpArgs false
set_option linter.unusedVariables false
set_option maxRecDepth 100000 in
set_option maxHeartbeats 2000000 in
theorem reachable_any {a b:Int} (pa:pok a=true) (pb:pok b=true) (w:World) (H:Hold4 w) :
    Calls Tryz.prog 103 #[.int .i64 a,.int .i64 b] w fun e w'=>e=.returned (.bool (reach a b))∧Below w.heap.size w w':=by
  have C1:=bitsPartsA a w H.lay
  have C2:Hid (∀ W,Below w.heap.size w W->_):=fun W hb=>bitsPartsA b W (H.keeps hb).lay
  have HT:Hid (∀ W,Below w.heap.size w W->b_Tab W):=fun W hb=>(H.keeps hb).env.tab
  obtain ⟨a0,a1,a2,a3⟩:=pmag_in pa
  obtain ⟨b0,b1,b2,b3⟩:=pmag_in pb
  have Z1:Hid (pmag a ≠ 0->∀ W,Below w.heap.size w W->Calls Tryz.prog 129 #[.int .i64 (pmag a)] W fun e w'=>e=.returned (.int .i64 (jz (pmag a)))∧w'=W):=fun h W hb=>zeros_any _ (by omega) (by omega) W (HT.out W hb)
  have Z2:Hid (pmag b ≠ 0->∀ W,Below w.heap.size w W->Calls Tryz.prog 129 #[.int .i64 (pmag b)] W fun e w'=>e=.returned (.int .i64 (jz (pmag b)))∧w'=W):=fun h W hb=>zeros_any _ (by omega) (by omega) W (HT.out W hb)
  have z1:pmag a ≠ 0->jz (pmag a) < 63:=fun h=>by obtain ⟨_,_,g,_⟩:=jz_spec (mag:=pmag a) (by omega) (by omega); exact g
  have z2:pmag b ≠ 0->jz (pmag b) < 63:=fun h=>by obtain ⟨_,_,g,_⟩:=jz_spec (mag:=pmag b) (by omega) (by omega); exact g
  unfold reach
  clear HT H
  generalize jz (pmag a)=j at *
  generalize jz (pmag b)=k at *
  generalize pmag a=m at *
  generalize pmag b=n at *
  generalize pexp a=x at *
  generalize pexp b=y at *
  generalize pneg a=s at *
  generalize pneg b=t at *
  go_enter Tryz.func103,Tryz.ntmps103
  go_wp2_with fail
  refine C1.mono ?_
  rintro _ w1 ⟨rfl,g1⟩
  go_wp2_with fail
  refine (C2.out _ g1).mono ?_
  rintro _ w2 ⟨rfl,g2⟩
  have hb2:=bel_trans g1 g2
  clear C1 C2 g1 g2
  by_cases hm:m=0
  . subst hm
    go_wp2
    all_goals go_ret
    all_goals exact ⟨by simp,hb2⟩
  . by_cases hn:n=0
    . subst hn
      go_wp2
      all_goals go_ret
      all_goals exact ⟨by simp,hb2⟩
    . have Z1:=Z1.out hm w2 hb2
      have Z2:=Z2.out hn w2 hb2
      have j1:=z1 hm
      have k1:=z2 hn
      have u1:IntKind.i64.wrap (x + (j:Int))=x + j:=by rw [wrap_i64_eq]; omega
      have u2:IntKind.i64.wrap (x + (j:Int) + y)=x + j + y:=by rw [wrap_i64_eq]; omega
      have u3:IntKind.i64.wrap (x + (j:Int) + y + (k:Int))=x + j + y + k:=by rw [wrap_i64_eq]; omega
      by_cases hr:-1074 <= x + (j:Int) + y + (k:Int)
      . go_wp2_with (first | (go_at_call 129; first | (refine Z1.mono ?_; rintro _ _ ⟨rfl,rfl⟩) | (refine Z2.mono ?_; rintro _ _ ⟨rfl,rfl⟩)))
        all_goals go_ret
        all_goals exact ⟨by simp [hr],by first | exact hb2 | exact hb2.drew⟩
      . go_wp2_with (first | (go_at_call 129; first | (refine Z1.mono ?_; rintro _ _ ⟨rfl,rfl⟩) | (refine Z2.mono ?_; rintro _ _ ⟨rfl,rfl⟩)))
        all_goals go_ret
        all_goals exact ⟨by simp [hm,hn,hr],by first | exact hb2 | exact hb2.drew⟩
def pX (p q:Int):Bool:=pok (prL p q) && reach p q
set_option maxRecDepth 100000 in
set_option maxHeartbeats 2000000 in
theorem twoProd_any {a b:Int} (ha:M.rng a) (hb:M.rng b) (w:World) (H:Hold4 w) :
    Calls Tryz.prog 73 #[.int .i64 a,.int .i64 b] w fun e w'=>e=.returned (.tuple #[.int .i64 (fprod (told a) (told b)),.int .i64 (prL (told a) (told b)),.bool (pX (told a) (told b))])∧Below w.heap.size w w':=by
  have C1:=fun W=>bitsFloat a W
  have C2:=fun W=>bitsFloat b W
  have FA:Hid (FW (told a) (wd a)):=wd_told ha
  have FB:Hid (FW (told b) (wd b)):=wd_told hb
  have HH:Hid (Hold4 w):=H
  have TA:Hid (pok (told a)=true->told a=a):=told_fin
  have TB:Hid (pok (told b)=true->told b=b):=told_fin
  clear H
  generalize told a=p at *
  generalize told b=q at *
  generalize wd a=x at *
  generalize wd b=y at *
  obtain ⟨X,hX0⟩:∃ X,pX p q=X:=⟨_,rfl⟩
  have HX:Hid (pX p q=X):=hX0
  rw [hX0]
  clear hX0
  go_enter Tryz.func73,Tryz.ntmps73
  go_wp2_with fail
  refine (C1 _).mono ?_
  rintro _ _ ⟨rfl,rfl⟩
  go_wp2_with fail
  refine (C2 _).mono ?_
  rintro _ _ ⟨rfl,rfl⟩
  go_wp2_with fail
  refine (eprod_any FA.out FB.out _).mono ?_
  rintro _ w1 ⟨z,u,rfl,g1,g2,b1⟩
  have G1:Hid (FW (fprod p q) z):=g1
  have G2:Hid (FW (prL p q) u):=g2
  clear g1 g2 C1 C2
  go_wp2_with fail
  refine (etold_any G1.out G2.out _).mono ?_
  rintro _ w2 ⟨rfl,b2⟩
  have hb2:=bel_trans b1 b2
  have hp:=FA.out.rng
  have hq:=FB.out.rng
  cases hl:pok (prL p q)
  . have hx:X=false:=by rw [<- HX.out]; unfold pX; rw [hl]; rfl
    subst hx
    clear G1 G2 FA FB hp hq HX
    go_wp2
    all_goals refine bodyPost_ret (v:=.tuple #[.int .i64 (fprod p q),.int .i64 (prL p q),.bool false]) (by simp [results,Tryz.results73,go_sem]) rfl ⟨rfl,hb2⟩
  . have hx:X=reach p q:=by rw [<- HX.out]; unfold pX; rw [hl]; rfl
    obtain ⟨⟨pQ,pS⟩,_⟩:=prL_args hp hq hl
    have pp:=(spL_exact hp pQ).1
    have pq:=(spL_exact hq pS).1
    have ea:=TA.out pp
    have eb:=TB.out pq
    have CR:=reachable_any (a:=p) (b:=q) pp pq w2 (HH.out.keeps hb2)
    rw [<- hx] at CR
    subst ea eb
    clear G1 G2 FA FB hp hq HX pQ pS pp pq hx TA TB
    go_wp2_with fail
    refine CR.mono ?_
    rintro _ w3 ⟨rfl,b3⟩
    go_wp2
    all_goals refine bodyPost_ret (v:=.tuple #[.int .i64 (fprod p q),.int .i64 (prL p q),.bool X]) (by simp [results,Tryz.results73,go_sem]) rfl ⟨rfl,bel_trans hb2 b3⟩
theorem dvd_odd {s n:Nat} {t:Int} (h:(2 ^ n:Int) ∣ 2 ^ s * (2 * t + 1)):n <= s:=by
  rcases Nat.lt_or_ge s n with c | c
  . exfalso
    obtain ⟨d,rfl⟩:∃ d,n=s + 1 + d:=⟨n - s - 1,by omega⟩
    obtain ⟨e,he⟩:=h
    rw [Int.pow_add,p2s,show (2:Int) * 2 ^ s * 2 ^ d * e=2 ^ s * (2 * (2 ^ d * e)) by ac_rfl] at he
    have:=Int.eq_of_mul_eq_mul_left (by have:=p2 s; omega) he
    generalize (2:Int) ^ d * e=f at this
    omega
  . exact c
theorem iV_form {p:Int} (hp:rng p) (h:pok p=true):((iV p).natAbs:Int)=pmag p * 2 ^ (pexp p + 1074).toNat:=by
  have h0:=(pmag_in h).1
  rw [iV_abs,V_rg hp h,nat_two,Int.toNat_of_nonneg h0,Int.mul_comm]
theorem k_form {m:Nat} {mag:Int} {j e:Nat} (h:mag=2 ^ j * (2 * m + 1)):mag * 2 ^ e=2 ^ (j + e) * (2 * (m:Int) + 1):=by
  rw [h,Int.pow_add,Int.mul_assoc,Int.mul_assoc,Int.mul_comm (2 * (m:Int) + 1)]
theorem k_form2 (i j:Nat) (a b:Int):2 ^ i * (2 * a + 1) * (2 ^ j * (2 * b + 1))=2 ^ (i + j) * (2 * (2 * a * b + a + b) + 1):=by
  have e:(2 * a + 1) * (2 * b + 1)=2 * (2 * a * b + a + b) + 1:=by
    rw [Int.add_mul,Int.mul_add,Int.one_mul,Int.mul_one,Int.mul_add,Int.mul_add]
    have:2 * a * (2 * b)=2 * (2 * a * b):=by ac_rfl
    omega
  rw [<- e,Int.pow_add]
  generalize 2 * a + 1=A
  generalize 2 * b + 1=B
  ac_rfl
theorem reach_iff {a b:Int} (ha:rng a) (hb:rng b) (pa:pok a=true) (pb:pok b=true):reach a b=true ↔ ∃ T,2 ^ 1074 * T=iV a * iV b:=by
  have fa:=iV_form ha pa
  have fb:=iV_form hb pb
  obtain ⟨a0,a1,a2,a3⟩:=pmag_in pa
  obtain ⟨b0,b1,b2,b3⟩:=pmag_in pb
  unfold reach
  by_cases hm:pmag a=0
  . rw [hm] at fa ⊢
    have:iV a=0:=by rw [Int.zero_mul] at fa; omega
    rw [this]
    exact ⟨fun _=>⟨0,by rw [Int.mul_zero,Int.zero_mul]⟩,fun _=>rfl⟩
  by_cases hn:pmag b=0
  . rw [hn] at fb ⊢
    have:iV b=0:=by rw [Int.zero_mul] at fb; omega
    rw [this]
    exact ⟨fun _=>⟨0,by rw [Int.mul_zero,Int.mul_zero]⟩,fun _=>by simp⟩
  obtain ⟨m,m1,m2,_⟩:=jz_spec (mag:=pmag a) (by omega) (by omega)
  obtain ⟨n,n1,n2,_⟩:=jz_spec (mag:=pmag b) (by omega) (by omega)
  rw [decide_eq_false hm,decide_eq_false hn,Bool.false_or,Bool.false_or,decide_eq_true_iff]
  rw [k_form m1] at fa
  rw [k_form n1] at fb
  have hd:(∃ T,2 ^ 1074 * T=iV a * iV b) ↔ (2 ^ 1074:Int) ∣ ((iV a).natAbs:Int) * ((iV b).natAbs:Int):=by
    rw [<- Int.natCast_mul,<- Int.natAbs_mul,Int.dvd_natAbs]
    exact ⟨fun ⟨T,h⟩=>⟨T,h.symm⟩,fun ⟨T,h⟩=>⟨T,h.symm⟩⟩
  rw [hd,fa,fb,k_form2]
  constructor
  . intro h
    exact Int.dvd_trans (p2dvd (by omega)) ⟨_,rfl⟩
  . intro h
    have:=dvd_odd h
    omega
end Go.Proofs.YtafnigjehkpggaaGreatDoor
namespace Go.Proofs.YtafnigjehkpggaaGreatDoor
open Go Go.RowKit Go.Proofs.YtafnigjehkpggaaGreatDoor.M
set_option linter.unusedSimpArgs false
set_option linter.unusedVariables false
end Go.Proofs.YtafnigjehkpggaaGreatDoor
namespace Go.Proofs.YtafnigjehkpggaaGreatDoor
open Go Go.RowKit Go.Proofs.YtafnigjehkpggaaGreatDoor.M Ieee
set_option linter.unusedSimpArgs false
set_option linter.unusedVariables false
theorem hold6_of {W : World} (h : laidMetH Tryz.prog [("math/bits.deBruijn32tab", Rows.laid_math_bits_deBruijn32tab), ("math/bits.deBruijn64tab", Rows.laid_math_bits_deBruijn64tab), ("plumb/bits.binary64", Rows.laid_plumb_bits_binary64)] W) : Hold4 W := by
  have k:=hold_of h
  exact ⟨k.lay,k.tab,⟨⟨k.lay.a0,k.lay.a1,k.lay.a2,trivial,trivial,trivial⟩,k.tab⟩⟩
theorem told_ok {a:Int} (h:pok a=true) (ha:M.rng a):told a=a:=by
  unfold told; rw [if_neg (fin_cls ha h).1]
theorem sL_rng {p q:Int} (hp:M.rng p) (hq:M.rng q):M.rng (sL p q):=by
  have rh:=fsum_rng hp hq
  have rv:M.rng (sV p q):=fsum_rng rh (neg_rng hp)
  exact fsum_rng (fsum_rng hp (neg_rng (fsum_rng rh (neg_rng rv)))) (fsum_rng hq (neg_rng rv))
theorem fL_rng {p q:Int} (hp:M.rng p) (hq:M.rng q):M.rng (fL p q):=fsum_rng hq (neg_rng (fsum_rng (fsum_rng hp hq) (neg_rng hp)))
theorem sp_rng {p:Int} (hp:M.rng p):M.rng (spH p)∧M.rng (spL p):=by
  have rc:M.rng (cC p):=fprod_rng spl_rng hp
  have rd:=fsum_rng rc (neg_rng hp)
  have rH:M.rng (spH p):=fsum_rng rc (neg_rng rd)
  exact ⟨rH,fsum_rng hp (neg_rng rH)⟩
theorem prL_rng {p q:Int} (hp:M.rng p) (hq:M.rng q):M.rng (prL p q):=by
  obtain ⟨rP,rQ⟩:=sp_rng hp
  obtain ⟨rR,rS⟩:=sp_rng hq
  have rT1:M.rng (pT1 p q):=fsum_rng (fprod_rng hp hq) (neg_rng (fprod_rng rP rR))
  have rT2:M.rng (pT2 p q):=fsum_rng rT1 (neg_rng (fprod_rng rQ rR))
  have rT3:M.rng (pT3 p q):=fsum_rng rT2 (neg_rng (fprod_rng rP rS))
  exact fsum_rng (fprod_rng rQ rS) (neg_rng rT3)
end Go.Proofs.YtafnigjehkpggaaGreatDoor
namespace Go.Proofs.YtafnigjehkpggaaGreatDoor.M
open Go Ieee
set_option linter.unusedSimpArgs false
set_option linter.unusedVariables false
theorem q_rg {b:Int} (h:rng b):rng (rg b)∧0 <= rg b:=by unfold rng rg at *; split <;> omega
theorem q_cls {b:Int} (h:rng b):cls (rg b)=cls b:=by
  unfold rng at h; unfold cls rg fld frc
  by_cases h0:b < 0
  . rw [if_pos h0,show (b + 9223372036854775808) / 4503599627370496 % 2048=b / 4503599627370496 % 2048 from by omega,show (b + 9223372036854775808) % 4503599627370496=b % 4503599627370496 from by omega]
  . rw [if_neg h0]
theorem q_wd {b:Int} (h:rng b):wd b % 9223372036854775808=wd (rg b):=by unfold rng rg wd at *; split <;> omega
theorem q_key {b:Int} (h:0 <= b):key b=b:=by unfold key; rw [if_neg (by omega)]
theorem q_wdlt (b:Int):wd b < 18446744073709551616:=by unfold wd; omega
theorem q_abs {b:Int} (h:rng b):(bits .andNot .u64 (wd b) 9223372036854775808).toNat=wd (rg b):=by
  have e:=q_wd h
  have l:=q_wdlt b
  rw [<- e]
  show (IntKind.u64.wrap (((BitVec.ofInt 64 (wd b:Int) &&& ~~~ BitVec.ofInt 64 9223372036854775808).toNat:Nat):Int)).toNat=_
  rw [BitVec.toNat_and,BitVec.toNat_not,ofInt64_toNat,ofInt64_toNat,show (2 ^ 64 - 1 - ((9223372036854775808:Int) % 18446744073709551616).toNat)=2 ^ 63 - 1 from by decide,Nat.and_two_pow_sub_one_eq_mod,IntKind.wrap_u64]
  omega
theorem q_fin {b:Int} (h:pok b=true):¬ cls b=4:=by
  have:=pparts h
  unfold cls; rw [if_neg this]; split
  . split <;> omega
  . omega
theorem q_lt {a b:Int} (ha:rng a) (hb:rng b) (h1:¬ cls a=4) (h2:¬ cls b=4) (h:key a < key b):FloatKind.f64.format.order (wd a) (wd b)=some .lt:=by rw [order64 ha hb h1 h2,compare_lt h]
theorem q_gt {a b:Int} (ha:rng a) (hb:rng b) (h1:¬ cls a=4) (h2:¬ cls b=4) (h:key b < key a):FloatKind.f64.format.order (wd a) (wd b)=some .gt:=by rw [order64 ha hb h1 h2,compare_gt h]
theorem q_eq {a b:Int} (ha:rng a) (hb:rng b) (h1:¬ cls a=4) (h2:¬ cls b=4) (h:key a=key b):FloatKind.f64.format.order (wd a) (wd b)=some .eq:=by rw [order64 ha hb h1 h2,compare_eq h]
def tame (b:Int):Bool:=decide (rg b=0) || (decide (3931642474694443008 <= rg b) && decide (rg b < 5282722362905591808))
theorem tame_fld {b:Int} (h:rng b):tame b=(decide (rg b=0) || (decide (873 <= fld b) && decide (fld b < 1173))):=by
  obtain ⟨h0,h1⟩:=rg_parts h
  have h2:0 <= frc b∧frc b < 4503599627370496:=by unfold frc; omega
  unfold tame
  congr 1
  congr 1
  . apply decide_eq_decide.2; omega
  . apply decide_eq_decide.2; omega
theorem pok_rg' {b:Int} (h:rng b):pok b=decide (rg b <= 9218868437227405311):=by
  obtain ⟨h0,h1⟩:=rg_parts h
  have h2:0 <= frc b∧frc b < 4503599627370496:=by unfold frc; omega
  have h3:0 <= fld b∧fld b < 2048:=by unfold fld; omega
  unfold pok
  by_cases e:fld b=2047
  . simp [e]; omega
  . simp [e]; omega
end Go.Proofs.YtafnigjehkpggaaGreatDoor.M
namespace Go.Proofs.YtafnigjehkpggaaGreatDoor
open Go Go.RowKit Go.Proofs.YtafnigjehkpggaaGreatDoor.M
set_option linter.unusedSimpArgs false
set_option linter.unusedVariables false
structure Ls where
  n:Nat
  d:Nat->Int
def Ls.add (s:Ls) (b:Int):Ls:=if rg b=0 then s else ⟨s.n + 1,upd s.d s.n b⟩
theorem Ls.add_le (s:Ls) (b:Int):s.n <= (s.add b).n∧(s.add b).n <= s.n + 1:=by
  unfold Ls.add
  split
  . exact ⟨Nat.le_refl _,Nat.le_succ _⟩
  . exact ⟨Nat.le_succ _,Nat.le_refl _⟩
def Ls.same (s t:Ls):Prop:=s.n=t.n∧∀ i,i < s.n->s.d i=t.d i
theorem Ls.same.add {s t:Ls} (h:s.same t) (b:Int):(s.add b).same (t.add b):=by
  unfold Ls.add
  split
  . exact h
  . refine ⟨by show s.n + 1=t.n + 1; rw [h.1],fun i hi=>?_⟩
    show upd s.d s.n b i=upd t.d t.n b i
    by_cases e:i=s.n
    . subst e; rw [upd_same,h.1,upd_same]
    . rw [upd_other _ _ e,upd_other _ _ (by rw [<- h.1]; exact e)]
      exact h.2 i (by have:i < s.n + 1:=hi; omega)
def gq (d:Nat->Int) (q:Int):Nat->Int
  | 0=>q
  | k + 1=>fsum (gq d q k) (d k)
def gl (d:Nat->Int) (q:Int) (k:Nat):Int:=sL (gq d q k) (d k)
def gs (d:Nat->Int) (q:Int):Nat->Ls
  | 0=>⟨0,d⟩
  | k + 1=>(gs d q k).add (gl d q k)
def gx (d:Nat->Int) (q:Int):Nat->Bool
  | 0=>true
  | k + 1=>gx d q k && pok (gl d q k)
def grw (n:Nat) (d:Nat->Int) (q:Int):Ls:=(gs d q n).add (gq d q n)
theorem gs_le (d:Nat->Int) (q:Int):∀ k,(gs d q k).n <= k
  | 0=>Nat.le_refl _
  | k + 1=>by
    have h1:=gs_le d q k
    have h2:=((gs d q k).add_le (gl d q k)).2
    show ((gs d q k).add _).n <= k + 1
    omega
theorem gs_tail (d:Nat->Int) (q:Int):∀ k i,k <= i->(gs d q k).d i=d i
  | 0,i,_=>rfl
  | k + 1,i,h=>by
    have h1:=gs_le d q k
    show ((gs d q k).add _).d i=d i
    unfold Ls.add
    split
    . exact gs_tail d q k i (by omega)
    . show upd _ _ _ i=d i
      rw [upd_other _ _ (by omega)]
      exact gs_tail d q k i (by omega)
theorem gx_mono {d:Nat->Int} {q:Int}:∀ {k j},j <= k->gx d q k=true->gx d q j=true
  | 0,j,h,hx=>by
    obtain rfl:j=0:=by omega
    rfl
  | k + 1,j,h,hx=>by
    by_cases e:j=k + 1
    . subst e; exact hx
    . have:(gx d q k && pok (gl d q k))=true:=hx
      rw [Bool.and_eq_true] at this
      exact gx_mono (by omega) this.1
theorem gq_fin {d:Nat->Int} {q:Int} {n:Nat} (hd:∀ i,i < n->rng (d i)∧pok (d i)=true) (hq:rng q) (pq:pok q=true):∀ k,k <= n->gx d q k=true->rng (gq d q k)∧pok (gq d q k)=true
  | 0,_,_=>⟨hq,pq⟩
  | k + 1,hk,hx=>by
    have hx':(gx d q k && pok (gl d q k))=true:=hx
    rw [Bool.and_eq_true] at hx'
    obtain ⟨r1,r2⟩:=gq_fin hd hq pq k (by omega) hx'.1
    obtain ⟨d1,d2⟩:=hd k (by omega)
    exact ⟨fsum_rng r1 d1,(sL_exact r1 d1 hx'.2).2.1⟩
theorem nought_order {b:Int} (hb:rng b):(FloatKind.f64.format.order (wd b) 0 == some .eq)=decide (rg b=0):=by
  have h:=same_order hb (show rng 0 by unfold rng; omega)
  rw [show wd 0=0 by decide] at h
  rw [h]
  unfold same
  have hk:key 0=0:=by decide
  have c0:¬ cls 0=4:=by decide
  by_cases h4:cls b=4
  . have:rg b ≠ 0:=fun e=>by
      have:=q_cls hb
      rw [e] at this
      rw [<- this] at h4
      exact c0 h4
    simp [h4,this]
  . have e:(key b=key 0) ↔ rg b=0:=by
      rw [hk]
      unfold rng at hb
      unfold key rg
      split <;> omega
    by_cases hz:rg b=0
    . simp [h4,c0,hz,e.2 hz]
    . have:¬ key b=key 0:=fun q=>hz (e.1 q)
      simp [h4,c0,hz,this]
end Go.Proofs.YtafnigjehkpggaaGreatDoor
