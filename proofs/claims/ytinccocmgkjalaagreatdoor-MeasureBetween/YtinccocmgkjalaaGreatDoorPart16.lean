/-
  Parts of the proof, one behind another.
-/
import Derived.Test.YtinccocmgkjalaaGreatDoorPart15
set_option linter.unusedVariables false
set_option linter.unusedSimpArgs false
namespace Go.Proofs.YtinccocmgkjalaaGreatDoor
open Go Go.RowKit Go.Proofs.YtinccocmgkjalaaGreatDoor.M
def Mid (x:Int):Prop:=rng x∧pok x=true∧rg x ≠ 0∧(2 ^ 822:Int) ∣ iV x∧((iV x).natAbs:Int) <= 2 ^ 1250
theorem k_four (X a c:Int):X * a * (X * c)=X * X * (a * c):=by grind
theorem mid_T {x b:Int} (hx:Mid x) (hb:Mid b):∃ T,2 ^ 1074 * T=iV x * iV b:=by
 obtain ⟨a,ha⟩:=hx.2.2.2.1
 obtain ⟨c,hc⟩:=hb.2.2.2.1
 have h1:(2 ^ 1074:Int) ∣ 2 ^ 822 * 2 ^ 822:=by rw [<- Int.pow_add]; exact p2dvd (by decide)
 obtain ⟨k,hk⟩:=h1
 refine ⟨k * (a * c),?_⟩
 rw [ha,hc,k_four,hk,Int.mul_assoc]
theorem mid_B {b:Int} (hb:Mid b):∃ B:Nat,(2 ^ B:Int) ∣ iV b∧((iV b).natAbs:Int) < 9007199254740992 * 2 ^ B∧B <= 1250:=by
 obtain ⟨B,h1,h2⟩:=fl_iV b
 refine ⟨B,h1,h2,?_⟩
 have h3:=dvd_abs_le h1 (iV_some hb.1 hb.2.1 hb.2.2.1).1 (p2 B)
 have h4:(2:Int) ^ B < 2 ^ (1250 + 1):=by
  rw [p2s]
  have:=hb.2.2.2.2
  have:=p2 1250
  omega
 have:=p2lt h4
 omega
theorem mid_lt {x:Int} (hx:Mid x):((iV x).natAbs:Int) < 2 ^ 1251:=by
 have h:=hx.2.2.2.2
 have p:(2:Int) ^ 1251=2 * 2 ^ 1250:=p2s 1250
 have:=p2 1250
 omega
theorem big_le {Y:Int} {g:Nat} (h:Y < 9007199254740992 * 2 ^ g) (hg:g <= 1427):Y <= 2 ^ 1480:=by
 have h1:(9007199254740992:Int) * 2 ^ g <= 2 ^ 1480:=by
  have:(9007199254740992:Int)=2 ^ 53:=by decide
  rw [this,<- Int.pow_add]
  exact p2le (by omega)
 omega
theorem k_84 {X:Int} (h:X <= 2 ^ 1480):16 * X <= maxV:=by
 have h1:=maxV_ge
 have h2:(2:Int) ^ 1484 <= 2 ^ 2097:=p2le (by decide)
 have h3:(2:Int) ^ 1484=16 * 2 ^ 1480:=by
  rw [show 1484=1480 + 1 + 1 + 1 + 1 by decide,p2s,p2s,p2s,p2s]; omega
 omega
theorem sp_mid {x:Int} (hx:Mid x):pok (spL x)=true:=by
 refine sp_fin (B:=2 ^ 1250) hx.1 hx.2.1 hx.2.2.2.2 ?_
 have h1:=maxV_ge
 have h2:(2:Int) ^ 1278 <= 2 ^ 2097:=p2le (by decide)
 have h3:(2:Int) ^ 1278=268435456 * 2 ^ 1250:=by
  have:(268435456:Int)=2 ^ 28:=by decide
  rw [this,<- Int.pow_add]
 have:=p2 1250
 omega
theorem T_mid {x b T:Int} (hx:Mid x) (hb:Mid b) (hT:2 ^ 1074 * T=iV x * iV b):(T.natAbs:Int) <= 2 ^ 1480:=by
 obtain ⟨B,b1,b2,b3⟩:=mid_B hb
 have h1:=prod_lt (mid_lt hx) b1 b2 hT
 exact big_le (g:=1251 + B - 1074) (by have:=p2 (1251 + B - 1074); omega) (by omega)
theorem pX_mid {x b:Int} (hx:Mid x) (hb:Mid b):pX x b=true:=by
 obtain ⟨T,hT⟩:=mid_T hx hb
 have h2:=T_mid hx hb hT
 have h3:=k_84 h2
 have hf:=(stp_prod hx.1 hb.1 hx.2.1 hb.2.1 hT).fin (by omega)
 unfold pX
 rw [prod_fin hx.1 hb.1 (sp_mid hx) (sp_mid hb) hf hT (by omega),(reach_iff hx.1 hb.1 hx.2.1 hb.2.1).2 ⟨_,hT⟩]
 rfl
theorem sx_mid {d:Nat->Int} {b:Int} {N:Nat} (hd:XV d (N + 1)) (hm:∀ j,j <= N->Mid (d j)) (hb:Mid b):∃ (T:Nat->Int) (B:Nat),PTs d T b (N + 1)∧(2 ^ B:Int) ∣ iV b∧((iV b).natAbs:Int) < 9007199254740992 * 2 ^ B∧B <= 1250∧∀ k,k <= N->sx d b k=true∧((iV (sq d b k)).natAbs:Int) <= 2 ^ 1480:=by
 obtain ⟨B,b1,b2,b3⟩:=mid_B hb
 have hex:∀ j,∃ t:Int,j < N + 1->2 ^ 1074 * t=iV (d j) * iV b:=fun j=>by
  by_cases h:j < N + 1
  ·obtain ⟨t,ht⟩:=mid_T (hm j (by omega)) hb
   exact ⟨t,fun _=>ht⟩
  ·exact ⟨0,fun h'=>absurd h' h⟩
 obtain ⟨T,hT0⟩:=Classical.axiomOfChoice hex
 have hT:PTs d T b (N + 1):=hT0
 clear hT0 hex
 refine ⟨T,B,hT,b1,b2,b3,fun k=>?_⟩
 have hfin:∀ i,i <= N->rng (d i)∧pok (d i)=true:=fun i hi=>⟨(hd.fin i (by omega)).1,(hd.fin i (by omega)).2.1⟩
 have bq:∀ k,k <= N->sx d b k=true->((iV (sq d b k)).natAbs:Int) <= 2 ^ 1480:=fun k hk hx=>by
  have h:=si_all hd hb.1 b1 b2 hT k hk hx
  have h1:=lsm_all h.xv (h.small 1251 (mid_lt (hm k hk)))
  have hxk:XV d (k + 1):=⟨fun i hi=>hd.fin i (by omega),fun i hi=>hd.lo i (by omega)⟩
  have h2:=prod_lt (lsm_lt hxk 1251 (mid_lt (hm k hk))) b1 b2 (tsm_prod hT (k + 1) (by omega))
  have h3:=h.sum
  exact big_le (g:=1251 + B - 1074) (by generalize (2:Int) ^ (1251 + B - 1074)=Y at *; omega) (by omega)
 induction k with
 | zero=>
  intro hk
  have h0:sx d b 0=true:=pX_mid (hm 0 (by omega)) hb
  exact ⟨h0,bq 0 hk h0⟩
 | succ k ih=>
  intro hk
  obtain ⟨hx,hqb⟩:=ih (by omega)
  have h:=si_all hd hb.1 b1 b2 hT k (by omega) hx
  obtain ⟨rq,pq⟩:=sq_fin hfin hb.1 k (by omega) hx
  have x1:=pX_mid (hm (k + 1) hk) hb
  have xT:=T_mid (hm (k + 1) hk) hb (hT (k + 1) (by omega))
  obtain ⟨rx,px⟩:=hfin (k + 1) hk
  obtain ⟨pT,pu,eT,nT⟩:=prod_facts rx hb.1 x1 (hT (k + 1) (by omega))
  have ru:=prL_rng rx hb.1
  have rT:=fprod_rng rx hb.1
  have z:=nT.2 0 fl_zero
  have k1:=k_84 hqb
  have k2:=k_84 xT
  obtain ⟨p1,pl1⟩:=sum_fin rq ru pq pu (by omega) (by omega)
  have r1:=fsum_rng rq ru
  have hab:=fast_ok hd hb.1 (iV_some hb.1 hb.2.1 hb.2.2.1).1 hT (by omega) rq pq h x1 pl1
  have p2':=(stp_sum rT r1 pT p1).fin (by omega)
  obtain ⟨pl2,e2⟩:=fL_fin rT r1 pT p1 p2' (by omega)
  have x3:fX (fprod (d (k + 1)) b) (fsum (sq d b k) (prL (d (k + 1)) b))=true:=by
   rw [fX_iff rT r1 pl2]
   exact decide_eq_true e2
  have hx':sx d b (k + 1)=true:=by rw [sx_succ,hx,x1,pl1,x3]; rfl
  exact ⟨hx',bq (k + 1) hk hx'⟩
theorem sclN_mid {d:Nat->Int} {b:Int} {n:Nat} (hd:XV d n) (hm:∀ j,j < n->Mid (d j)) (hb:Mid b):sxN d b n=true∧XV (sclN d b n).d (sclN d b n).n∧LB (sclN d b n) 1480∧2 ^ 1074 * lsm (sclN d b n).d (sclN d b n).n=lsm d n * iV b:=by
 cases n with
 | zero=>exact ⟨rfl,⟨fun i hi=>absurd hi (Nat.not_lt_zero _),fun i hi=>absurd hi (Nat.not_lt_zero _)⟩,fun i hi=>absurd hi (Nat.not_lt_zero _),by show 2 ^ 1074 * (0:Int)=0 * iV b; rw [Int.mul_zero,Int.zero_mul]⟩
 | succ N=>
  have e1:sxN d b (N + 1)=sx d b N:=if_neg hb.2.2.1
  have e2:sclN d b (N + 1)=scl ⟨0,fun _=>0⟩ d b N:=if_neg hb.2.2.1
  rw [e1,e2]
  obtain ⟨T,B,hT,b1,b2,b3,hall⟩:=sx_mid hd (fun j hj=>hm j (by omega)) hb
  obtain ⟨hx,hq⟩:=hall N (Nat.le_refl _)
  have h:=si_all hd hb.1 b1 b2 hT N (Nat.le_refl _) hx
  have hfin:∀ i,i <= N->rng (d i)∧pok (d i)=true:=fun i hi=>⟨(hd.fin i (by omega)).1,(hd.fin i (by omega)).2.1⟩
  obtain ⟨rq,pq⟩:=sq_fin hfin hb.1 N (Nat.le_refl _) hx
  refine ⟨hx,h.xv.add rq pq fun i hi=>?_,LB.add (fun i hi=>?_) hq,?_⟩
  ·obtain ⟨s,h1,h2,_⟩:=h.up i hi
   exact ⟨s,h1,h2⟩
  ·have:=h.small 1251 (mid_lt (hm N (by omega))) i hi
   exact Int.le_trans (Int.le_of_lt this) (p2le (by omega))
  ·show 2 ^ 1074 * lsm ((ss ⟨0,fun _=>0⟩ d b N).add (sq d b N)).d ((ss ⟨0,fun _=>0⟩ d b N).add (sq d b N)).n=_
   rw [lsm_add rq,h.sum]
   exact tsm_prod hT (N + 1) (Nat.le_refl _)
theorem gq_bd3 {d:Nat->Int} {q:Int} {n b:Nat} (hd:XV d n) (hq:rng q) (pq:pok q=true) (bd:∀ i,i < n->((iV (d i)).natAbs:Int) <= 2 ^ b) (bq:((iV q).natAbs:Int) <= 2 ^ b) (hb:b <= 2080) :
  ∀ k,k <= n->gx d q k=true∧((iV (gq d q k)).natAbs:Int) <= 2 ^ (b + 3)∧LB (gs d q k) b
 | 0,_=>⟨rfl,p2_up bq (by omega),fun i hi=>absurd hi (Nat.not_lt_zero _)⟩
 | k + 1,hk=>by
  obtain ⟨h1,h2,h3⟩:=gq_bd3 hd hq pq bd bq hb k (by omega)
  have hfin:∀ i,i < n->rng (d i)∧pok (d i)=true:=fun i hi=>⟨(hd.fin i hi).1,(hd.fin i hi).2.1⟩
  obtain ⟨r1,r2⟩:=gq_fin hfin hq pq k (by omega) h1
  obtain ⟨d1,d2⟩:=hfin k (by omega)
  have b1:=bd k (by omega)
  have hM:=maxV_ge
  have p1:(2:Int) ^ (b + 3 + 1) <= 2 ^ 2097:=p2le (by omega)
  have p2':(2:Int) ^ (b + 1) <= 2 ^ 2097:=p2le (by omega)
  rw [p2s] at p1 p2'
  obtain ⟨f1,f2⟩:=sum_fin r1 d1 r2 d2 (by omega) (by omega)
  have nr:=fsum_nr r1 d1 f2
  have hx:gx d q (k + 1)=true:=by
   show (gx d q k && pok (gl d q k))=true
   rw [h1]; exact f2
  have e:=(sL_exact r1 d1 f2).2.2
  have hl:=nr_loss (fl_iV (gq d q k)) nr
  have hLB:LB (gs d q (k + 1)) b:=by
   show LB ((gs d q k).add (gl d q k)) b
   refine h3.add ?_
   show ((iV (sL (gq d q k) (d k))).natAbs:Int) <= _
   have:iV (sL (gq d q k) (d k))=iV (gq d q k) + iV (d k) - iV (fsum (gq d q k) (d k)):=by omega
   rw [this]
   omega
  refine ⟨hx,?_,hLB⟩
  have pb:(2:Int) ^ (b + 1)=2 * 2 ^ b:=p2s b
  have pp:=p2 b
  have g1:=lsm_all (gi_all hd hq pq (k + 1) hk hx).xv (t:=b + 1) (fun i hi=>by have:=hLB i hi; omega)
  have hxk:XV d (k + 1):=⟨fun i hi=>hd.fin i (by omega),fun i hi=>hd.lo i (by omega)⟩
  have g2:=lsm_all hxk (t:=b + 1) (fun i hi=>by have:=bd i (by omega); omega)
  have g3:=gs_sum hfin hq pq (k + 1) hk hx
  have p8:(2:Int) ^ (b + 3)=8 * 2 ^ b:=by rw [show b + 3=b + 1 + 1 + 1 by omega,p2s,p2s,p2s]; omega
  rw [p8]
  omega
theorem gaS_all3 {s:Ls} {f:Nat->Int} {m b:Nat} (hs:XV s.d s.n) (hf:∀ i,i < m->rng (f i)∧pok (f i)=true) (bs:LB s b) (bf:∀ i,i < m->((iV (f i)).natAbs:Int) <= 2 ^ b) (hb:b + 3 * m <= 2080) :
  ∀ k,k <= m->gaX s f k=true∧XV (gaS s f k).d (gaS s f k).n∧LB (gaS s f k) (b + 3 * k)∧lsm (gaS s f k).d (gaS s f k).n=lsm s.d s.n + lsm f k
 | 0,_=>⟨rfl,hs,bs,by show lsm s.d s.n=lsm s.d s.n + 0; omega⟩
 | k + 1,hk=>by
  obtain ⟨h1,h2,h3,h4⟩:=gaS_all3 hs hf bs bf hb k (by omega)
  obtain ⟨f1,f2⟩:=hf k (by omega)
  obtain ⟨g1,g2,g3⟩:=gq_bd3 h2 f1 f2 h3 (p2_up (bf k (by omega)) (by omega)) (by omega) (gaS s f k).n (Nat.le_refl _)
  rw [gaX_succ,gaS_succ,h1,g1,lsm_succ]
  refine ⟨rfl,grw_xv h2 f1 f2 g1,?_,?_⟩
  ·show LB ((gs (gaS s f k).d (f k) (gaS s f k).n).add (gq (gaS s f k).d (f k) (gaS s f k).n)) _
   exact LB.add (fun i hi=>p2_up (g3 i hi) (by omega)) (p2_up g2 (by omega))
  ·rw [grw_sum h2.fn f1 f2 g1,h4]
   omega
theorem pr_all {d f:Nat->Int} {n m:Nat} (hd:XV d n) (hm:∀ j,j < n->Mid (d j)) (hn:n <= 6) (hf:∀ j,j < m->Mid (f j)) (hm6:m <= 6) :
  ∀ k,k <= m->prX d n f k=true∧XV (prS d n f k).d (prS d n f k).n∧LB (prS d n f k) (1480 + 36 * k)∧2 ^ 1074 * lsm (prS d n f k).d (prS d n f k).n=lsm d n * lsm f k
 | 0,_=>⟨rfl,⟨fun i hi=>absurd hi (Nat.not_lt_zero _),fun i hi=>absurd hi (Nat.not_lt_zero _)⟩,fun i hi=>absurd hi (Nat.not_lt_zero _),by show 2 ^ 1074 * (0:Int)=_ * 0; rw [Int.mul_zero,Int.mul_zero]⟩
 | k + 1,hk=>by
  obtain ⟨h1,h2,h3,h4⟩:=pr_all hd hm hn hf hm6 k (by omega)
  obtain ⟨s1,s2,s3,s4⟩:=sclN_mid hd hm (hf k (by omega))
  have hl:=sclN_le d (f k) n
  obtain ⟨g1,g2,g3,g4⟩:=gaS_all3 h2 s2.fn (b:=1480 + 36 * k) h3 (fun i hi=>p2_up (s3 i hi) (by omega)) (m:=(sclN d (f k) n).n) (by omega) (sclN d (f k) n).n (Nat.le_refl _)
  rw [prX_succ,prS_succ,h1,s1,g1,lsm_succ]
  refine ⟨rfl,g2,fun i hi=>p2_up (g3 i hi) (by omega),?_⟩
  rw [g4,Int.mul_add,h4,s4,Int.mul_add]
theorem lsm_sign {d:Nat->Int} {n:Nat} (h:XV d (n + 1)):(0 < lsm d (n + 1) ↔ 0 < iV (d n))∧(lsm d (n + 1) < 0 ↔ iV (d n) < 0):=by
 have hne:=h.ne (show n < n + 1 by omega)
 cases n with
 | zero=>
  have:lsm d 1=iV (d 0):=by rw [lsm_succ]; show 0 + _=_; omega
  rw [this]; exact ⟨Iff.rfl,Iff.rfl⟩
 | succ n=>
  obtain ⟨s,h1,h2⟩:=h.lo n (by omega)
  have ih:=lsm_lt (n:=n) ⟨fun i hi=>h.fin i (by omega),fun i hi=>h.lo i (by omega)⟩ s h1
  have hge:=dvd_abs_le h2 hne (p2 s)
  rw [lsm_succ]
  omega
def Mz (x:Int):Prop:=rng x∧pok x=true∧(2 ^ 872:Int) ∣ iV x∧((iV x).natAbs:Int) <= 2 ^ 1224
theorem tame_Mz {x:Int} (hx:rng x) (ht:tame x=true):Mz x:=by
 rw [tame_fld hx] at ht
 by_cases h0:rg x=0
 ·have hc:=(cls_nought hx).2 h0
  have hp:pok x=true:=by
   cases hp:pok x
   ·exfalso
    have hf:fld x=2047:=by simpa [pok] using hp
    unfold cls at hc
    rw [if_pos hf] at hc
    split at hc <;> omega
   ·rfl
  rw [Mz,iV_nought hx h0]
  exact ⟨hx,hp,⟨0,by rw [Int.mul_zero]⟩,by have:=p2 1224; show (((0:Int).natAbs:Nat):Int) <= _; omega⟩
 ·have hz:decide (rg x=0)=false:=decide_eq_false h0
  rw [hz,Bool.false_or,Bool.and_eq_true] at ht
  have h1:=of_decide_eq_true ht.1
  have h2:=of_decide_eq_true ht.2
  have hf0:fld x ≠ 2047:=by omega
  have hf1:fld x ≠ 0:=by omega
  have hp:pok x=true:=by simp [pok,hf0]
  have hfr:=frc_le x
  have e1:pmag x=4503599627370496 + frc x:=by unfold pmag; rw [if_neg hf0,if_neg hf1]
  have e2:pexp x=fld x - 1075:=by unfold pexp; rw [if_neg hf0,if_neg hf1]
  have hm:pmag x <= 2 ^ 53:=by
   rw [e1]
   show _ <= 9007199254740992
   omega
  refine ⟨hx,hp,?_,?_⟩
  ·apply Int.dvd_natAbs.1
   rw [iV_form hx hp]
   exact Int.dvd_trans (p2dvd (show 872 <= (pexp x + 1074).toNat by rw [e2]; omega)) ⟨pmag x,by rw [Int.mul_comm]⟩
  ·rw [iV_form hx hp]
   have p1:(2:Int) ^ (pexp x + 1074).toNat <= 2 ^ 1171:=p2le (by rw [e2]; omega)
   have p0:=p2 (pexp x + 1074).toNat
   calc pmag x * 2 ^ (pexp x + 1074).toNat <= 2 ^ 53 * 2 ^ (pexp x + 1074).toNat:=Int.mul_le_mul_of_nonneg_right hm (by omega)
    _ <= 2 ^ 53 * 2 ^ 1171:=Int.mul_le_mul_of_nonneg_left p1 (by decide)
    _=2 ^ 1224:=by rw [<- Int.pow_add]
def dfL (p q:Int):Ls:=((⟨0,fun _=>0⟩:Ls).add (sL p (neg q))).add (fsum p (neg q))
theorem df_fin {p q:Int} (hp:Mz p) (hq:Mz q):pok (fsum p (neg q))=true∧pok (sL p (neg q))=true:=by
 obtain ⟨n1,n2,n3⟩:=neg_facts hq.1 hq.2.1
 have hM:=maxV_ge
 have h1:(2:Int) ^ 1225 <= 2 ^ 2097:=p2le (by decide)
 have h2:(2:Int) ^ 1225=2 * 2 ^ 1224:=p2s 1224
 have a:=hp.2.2.2
 have b:=hq.2.2.2
 exact sum_fin hp.1 n1 hp.2.1 n2 (by omega) (by rw [n3]; omega)
theorem dfL_mid {p q:Int} (hp:Mz p) (hq:Mz q):XV (dfL p q).d (dfL p q).n∧(∀ j,j < (dfL p q).n->Mid ((dfL p q).d j))∧(dfL p q).n <= 2∧lsm (dfL p q).d (dfL p q).n=iV p - iV q:=by
 obtain ⟨n1,n2,n3⟩:=neg_facts hq.1 hq.2.1
 obtain ⟨f1,f2⟩:=df_fin hp hq
 have nr:=fsum_nr hp.1 n1 f2
 have e:=(sL_exact hp.1 n1 f2).2.2
 have rh:=fsum_rng hp.1 n1
 have rl:rng (sL p (neg q)):=sL_rng hp.1 n1
 have hl:=nr_loss (fl_iV p) nr
 have z:=nr.2 0 fl_zero
 have dS:(2 ^ 872:Int) ∣ iV p + iV (neg q):=by
  rw [n3]
  exact Int.dvd_add hp.2.2.1 (Int.dvd_neg.2 hq.2.2.1)
 have dh:=nr_dvd nr dS
 have el:iV (sL p (neg q))=iV p + iV (neg q) - iV (fsum p (neg q)):=by omega
 have dl:(2 ^ 872:Int) ∣ iV (sL p (neg q)):=by rw [el]; exact Int.dvd_sub dS dh
 have a:=hp.2.2.2
 have b:=hq.2.2.2
 have pw1:(2:Int) ^ 1226 <= 2 ^ 1250:=p2le (by decide)
 have pw2:(2:Int) ^ 1226=4 * 2 ^ 1224:=by rw [show 1226=1224 + 1 + 1 by decide,p2s,p2s]; omega
 have up:(2 ^ 822:Int) ∣ 2 ^ 872:=p2dvd (by decide)
 have x0:XV (⟨0,fun _=>0⟩:Ls).d (⟨0,fun _=>0⟩:Ls).n:=⟨fun i hi=>absurd hi (Nat.not_lt_zero _),fun i hi=>absurd hi (Nat.not_lt_zero _)⟩
 have x1:=x0.add (b:=sL p (neg q)) rl f2 (fun i hi=>absurd hi (Nat.not_lt_zero _))
 refine ⟨x1.add rh f1 ?_,?_,?_,?_⟩
 ·refine add_all (fun x=>Lo (iV x) (iV (fsum p (neg q)))) (fun i hi=>absurd hi (Nat.not_lt_zero _)) fun hz=>?_
  have hne:=(iV_some rl f2 hz).1
  obtain ⟨u,h1,h2⟩:=nr_unit nr (fun c=>hne (by omega))
  rw [<- el] at h2
  exact ⟨u,h2,h1⟩
 ·refine add_all Mid (add_all Mid (fun i hi=>absurd hi (Nat.not_lt_zero _)) fun hz=>?_) fun hz=>?_
  ·exact ⟨rl,f2,hz,Int.dvd_trans up dl,by rw [n3] at *; omega⟩
  ·exact ⟨rh,f1,hz,Int.dvd_trans up dh,by rw [n3] at *; omega⟩
 ·have h1:=((⟨0,fun _=>0⟩:Ls).add_le (sL p (neg q))).2
  have h2:=(((⟨0,fun _=>0⟩:Ls).add (sL p (neg q))).add_le (fsum p (neg q))).2
  have h1':((⟨0,fun _=>0⟩:Ls).add (sL p (neg q))).n <= 0 + 1:=h1
  show (((⟨0,fun _=>0⟩:Ls).add (sL p (neg q))).add (fsum p (neg q))).n <= 2
  omega
 ·show lsm (((⟨0,fun _=>0⟩:Ls).add (sL p (neg q))).add (fsum p (neg q))).d (((⟨0,fun _=>0⟩:Ls).add (sL p (neg q))).add (fsum p (neg q))).n=_
  rw [lsm_add rh,lsm_add rl]
  show (0:Int) + _ + _=_
  omega
theorem det_mid {ax ay bx by' cx cy:Int} (hax:Mz ax) (hay:Mz ay) (hbx:Mz bx) (hby:Mz by') (hcx:Mz cx) (hcy:Mz cy) :
  let L:=prS (dfL ax cx).d (dfL ax cx).n (dfL by' cy).d (dfL by' cy).n
  let R:=prS (dfL ay cy).d (dfL ay cy).n (dfL bx cx).d (dfL bx cx).n
  prX (dfL ax cx).d (dfL ax cx).n (dfL by' cy).d (dfL by' cy).n=true∧prX (dfL ay cy).d (dfL ay cy).n (dfL bx cx).d (dfL bx cx).n=true∧XV L.d L.n∧XV R.d R.n ∧
  gaX ⟨L.n,L.d⟩ (fun i=>neg (R.d i)) R.n=true∧XV (gaS ⟨L.n,L.d⟩ (fun i=>neg (R.d i)) R.n).d (gaS ⟨L.n,L.d⟩ (fun i=>neg (R.d i)) R.n).n ∧
  2 ^ 1074 * lsm (gaS ⟨L.n,L.d⟩ (fun i=>neg (R.d i)) R.n).d (gaS ⟨L.n,L.d⟩ (fun i=>neg (R.d i)) R.n).n=(iV ax - iV cx) * (iV by' - iV cy) - (iV ay - iV cy) * (iV bx - iV cx):=by
 intro L R
 obtain ⟨u1,u2,u3,u4⟩:=dfL_mid hax hcx
 obtain ⟨v1,v2,v3,v4⟩:=dfL_mid hby hcy
 obtain ⟨s1,s2,s3,s4⟩:=dfL_mid hay hcy
 obtain ⟨t1,t2,t3,t4⟩:=dfL_mid hbx hcx
 obtain ⟨l1,l2,l3,l4⟩:=pr_all u1 u2 (by omega) v2 (by omega) (dfL by' cy).n (Nat.le_refl _)
 obtain ⟨r1,r2,r3,r4⟩:=pr_all s1 s2 (by omega) t2 (by omega) (dfL bx cx).n (Nat.le_refl _)
 rw [u4,v4] at l4
 rw [s4,t4] at r4
 have hRn:R.n <= 8:=Nat.le_trans (prS_le _ _ _ _) (by
  have:2 * (dfL ay cy).n * (dfL bx cx).n <= 2 * 2 * 2:=Nat.mul_le_mul (by omega) (by omega)
  omega)
 have hnf:∀ i,i < R.n->rng (neg (R.d i))∧pok (neg (R.d i))=true:=fun i hi=>⟨(neg_facts (r2.fn i hi).1 (r2.fn i hi).2).1,(neg_facts (r2.fn i hi).1 (r2.fn i hi).2).2.1⟩
 obtain ⟨g1,g2,_,g4⟩:=gaS_all3 (s:=⟨L.n,L.d⟩) (f:=fun i=>neg (R.d i)) (m:=R.n) (b:=1552) l2 hnf (fun i hi=>p2_up (l3 i hi) (by omega)) (fun i hi=>by
  show ((iV (neg (R.d i))).natAbs:Int) <= _
  rw [(neg_facts (r2.fn i hi).1 (r2.fn i hi).2).2.2]
  have:=p2_up (r3 i hi) (show 1480 + 36 * (dfL bx cx).n <= 1552 by omega)
  omega) (by omega) R.n (Nat.le_refl _)
 refine ⟨l1,r1,l2,r2,g1,g2,?_⟩
 rw [g4,lsm_neg r2.fn]
 have e1:2 ^ 1074 * lsm L.d L.n=(iV ax - iV cx) * (iV by' - iV cy):=l4
 have e2:2 ^ 1074 * lsm R.d R.n=(iV ay - iV cy) * (iV bx - iV cx):=r4
 rw [Int.mul_add,Int.mul_neg,e1,e2]
 omega
def Un (S h:Int):Prop:=9007199254740992 * ((h - S).natAbs:Int) <= (S.natAbs:Int)∧9007199254740992 * ((h - S).natAbs:Int) <= (h.natAbs:Int)
theorem nr_Un_pos {S h:Int} (n:Nr S h) (h0:0 <= S):Un S h:=by
 obtain ⟨k,h1,h2⟩:=binade S h0
 rcases h2 with h2 | h2
 ·subst h2
  have e:=nr_self ⟨0,⟨S,by rw [Int.pow_zero]; omega⟩,by omega⟩ n
  subst e
  rw [Un,Int.sub_self]
  simp
 ·have c:=nr_err n (i:=k) (by omega)
  have g:=nr_ge n (fl_p2 k (m:=4503599627370496) (by decide)) h2
  have p0:=p2 k
  generalize (2:Int) ^ k=q at *
  have g':4503599627370496 * q <= h:=g
  constructor <;> omega
theorem nr_Un {S h:Int} (n:Nr S h):Un S h:=by
 by_cases h0:0 <= S
 ·exact nr_Un_pos n h0
 ·have:=nr_Un_pos n.neg (by omega)
  unfold Un at *
  omega
theorem Un.scale {S h:Int} (u:Un S h) {c:Int} (hc:0 <= c):Un (c * S) (c * h):=by
 have e:∀ x:Int,((c * x).natAbs:Int)=c * (x.natAbs:Int):=fun x=>by
  rw [Int.natAbs_mul,Int.natCast_mul]
  congr 1
  omega
 rw [Un,<- Int.mul_sub,e,e,e,<- Int.mul_assoc,Int.mul_comm 9007199254740992 c,Int.mul_assoc]
 exact ⟨Int.mul_le_mul_of_nonneg_left u.1 hc,Int.mul_le_mul_of_nonneg_left u.2 hc⟩
theorem abs_mul (x y:Int):((x * y).natAbs:Int)=(x.natAbs:Int) * (y.natAbs:Int):=by rw [Int.natAbs_mul,Int.natCast_mul]
theorem part_l {u e v:Int} (h:9007199254740992 * (e.natAbs:Int) <= (u.natAbs:Int)):9007199254740992 * ((e * v).natAbs:Int) <= ((u * v).natAbs:Int):=by
 rw [abs_mul,abs_mul,<- Int.mul_assoc]
 exact Int.mul_le_mul_of_nonneg_right h (by omega)
theorem part_r {u e v:Int} (h:9007199254740992 * (e.natAbs:Int) <= (u.natAbs:Int)):9007199254740992 * ((v * e).natAbs:Int) <= ((v * u).natAbs:Int):=by
 rw [Int.mul_comm v e,Int.mul_comm v u]
 exact part_l h
theorem dev_prod {x y u v:Int} (hu:Un x u) (hv:Un y v):81129638414606681695789005144064 * ((x * y - u * v).natAbs:Int) <= 18014398509481985 * ((u * v).natAbs:Int):=by
 obtain ⟨e,he⟩:∃ e,x=u + e:=⟨x - u,by omega⟩
 obtain ⟨f,hf⟩:∃ f,y=v + f:=⟨y - v,by omega⟩
 have h1:9007199254740992 * (e.natAbs:Int) <= (u.natAbs:Int):=by have:=hu.2; omega
 have h2:9007199254740992 * (f.natAbs:Int) <= (v.natAbs:Int):=by have:=hv.2; omega
 have a1:=part_l (v:=v) h1
 have a2:=part_r (v:=u) h2
 have a3:=part_r (v:=e) h2
 have ee:x * y - u * v=u * f + e * v + e * f:=by
  rw [he,hf,Int.add_mul,Int.mul_add,Int.mul_add]
  omega
 rw [ee]
 generalize u * f=A at *
 generalize e * v=B at *
 generalize e * f=C at *
 generalize u * v=D at *
 omega
theorem dev_heads {x1 y1 x2 y2 u1 v1 u2 v2 L R S:Int} (h1:Un x1 u1) (h2:Un y2 v2) (h3:Un y1 v1) (h4:Un x2 u2) (hL:Un (u1 * v2) L) (hR:Un (v1 * u2) R) (hS:Un ((L.natAbs:Int) + (R.natAbs:Int)) S) :
  9007199254740992 * (((u1 * v2).natAbs:Int) + ((v1 * u2).natAbs:Int)) <= 9007199254740993 * ((L.natAbs:Int) + (R.natAbs:Int))∧9007199254740992 * ((L.natAbs:Int) + (R.natAbs:Int)) <= 9007199254740993 * S∧0 <= S ∧
  81129638414606681695789005144064 * (((x1 * y2 - y1 * x2) - (u1 * v2 - v1 * u2)).natAbs:Int) <= 18014398509481985 * (((u1 * v2).natAbs:Int) + ((v1 * u2).natAbs:Int)):=by
 have d1:=dev_prod h1 h2
 have d2:=dev_prod h3 h4
 have l:=hL.2
 have r:=hR.2
 have s:=hS.2
 have s':=hS.1
 generalize u1 * v2=A at *
 generalize v1 * u2=B at *
 generalize x1 * y2=C at *
 generalize y1 * x2=D at *
 refine ⟨by omega,by omega,by omega,by omega⟩
theorem k_sg {X Z D:Int} (hD:Un Z D) (h:((X - Z).natAbs:Int) < (Z.natAbs:Int)):(0 < X ↔ 0 < D)∧(X < 0 ↔ D < 0):=by
 have d:=hD.1
 omega
theorem k_tri {X H Z:Int}:((X - Z).natAbs:Int) <= ((X - H).natAbs:Int) + ((H - Z).natAbs:Int):=by omega
theorem k_two {A B L R:Int} (hA:Un A L) (hB:Un B R):9007199254740992 * (((A - B) - (L - R)).natAbs:Int) <= (L.natAbs:Int) + (R.natAbs:Int):=by
 have a:=hA.2
 have b:=hB.2
 omega
theorem k_lowM {T M:Int} (h:Un T M) (t:0 <= T):9007199254740991 * T <= 9007199254740992 * M:=by
 have:=h.1
 omega
theorem k_lowD {Z D:Int} (h:Un Z D):9007199254740991 * (D.natAbs:Int) <= 9007199254740992 * (Z.natAbs:Int):=by
 have:=h.2
 omega
theorem kf_ch {a b c d X Y Z:Int} (hb:0 <= b) (hc:0 <= c) (h1:a * X <= b * Y) (h2:c * Y <= d * Z):(c * a) * X <= (b * d) * Z:=by
 have a1:=Int.mul_le_mul_of_nonneg_left h1 hc
 have a2:=Int.mul_le_mul_of_nonneg_left h2 hb
 rw [Int.mul_assoc,Int.mul_assoc]
 refine Int.le_trans a1 (Int.le_trans (Int.le_of_eq ?_) a2)
 rw [<- Int.mul_assoc,<- Int.mul_assoc,Int.mul_comm c b]
theorem kf_end {a b Y Z:Int} (hb:0 <= b) (hab:b < a) (h:a * Y <= b * Z) (hz:0 < Z):Y < Z:=by
 apply Int.lt_of_not_ge
 intro c
 have h1:b * Z <= b * Y:=Int.mul_le_mul_of_nonneg_left c hb
 have h2:b * Y < a * Y:=Int.mul_lt_mul_of_pos_right hab (by omega)
 omega
theorem kf_pos {a b S Z:Int} (ha:0 < a) (hb:0 <= b) (h:a * S <= b * Z) (hs:0 < S):0 < Z:=by
 apply Int.lt_of_not_ge
 intro c
 have h1:b * Z <= b * 0:=Int.mul_le_mul_of_nonneg_left c hb
 have h2:0 < a * S:=Int.mul_pos ha hs
 omega
theorem k_flt {Y Y1 Y2 V W S T M Q Z:Int} (y:Y <= Y1 + Y2) (y1:81129638414606681695789005144064 * Y1 <= 18014398509481985 * V) (y2:9007199254740992 * Y2 <= W) (a0:9007199254740992 * V <= 9007199254740993 * W) (s0:9007199254740992 * W <= 9007199254740993 * S) (c:0 < S)
  (hT:5070602400912917605986812821504 * T=1688849860263937 * S) (m:9007199254740991 * T <= 9007199254740992 * M) (h:M <= Q) (d:9007199254740991 * Q <= 9007199254740992 * Z):Y < Z:=by
 have e1:(730750818665451459101842416358141509827966271488:Int) * Y1 <= 162259276829213390413175774511105 * W:=kf_ch (a:=81129638414606681695789005144064) (b:=18014398509481985) (c:=9007199254740992) (d:=9007199254740993) (by decide) (by decide) y1 a0
 have e2:(730750818665451459101842416358141509827966271488:Int) * Y <= 243388915243820072108964779655169 * W:=by
  clear hT m h d s0 c y1 a0
  omega
 have e3:=kf_ch (by decide) (by decide) e2 s0
 have f1:1688849860263937 * S <= 5070602400912917605986812821504 * T:=Int.le_of_eq hT.symm
 have f2:9007199254740991 * T <= 9007199254740992 * Q:=Int.le_trans m (Int.mul_le_mul_of_nonneg_left h (by decide))
 have f3:=kf_ch (by decide) (by decide) (kf_ch (by decide) (by decide) f1 f2) d
 exact kf_end (by decide) (by decide) (kf_ch (by decide) (by decide) e3 f3) (kf_pos (by decide) (by decide) f3 c)
theorem k_hds {Y V W S T M Q Z:Int} (y:81129638414606681695789005144064 * Y <= 18014398509481985 * V) (a0:9007199254740992 * V <= 9007199254740993 * W) (s0:9007199254740992 * W <= 9007199254740993 * S) (c:0 < S)
  (hT:20282409603651670423947251286016 * T=4503599627370499 * S) (m:9007199254740991 * T <= 9007199254740992 * M) (h:M <= Q) (d:9007199254740991 * Q <= 9007199254740992 * Z):Y < Z:=by
 have e3:=kf_ch (by decide) (by decide) (kf_ch (by decide) (by decide) y a0) s0
 have f1:4503599627370499 * S <= 20282409603651670423947251286016 * T:=Int.le_of_eq hT.symm
 have f2:9007199254740991 * T <= 9007199254740992 * Q:=Int.le_trans m (Int.mul_le_mul_of_nonneg_left h (by decide))
 have f3:=kf_ch (by decide) (by decide) (kf_ch (by decide) (by decide) f1 f2) d
 exact kf_end (by decide) (by decide) (kf_ch (by decide) (by decide) e3 f3) (kf_pos (by decide) (by decide) f3 c)
theorem k_T2 {T S:Int} (h:5070602400912917605986812821504 * T=1688849860263937 * S) (s:0 < S):0 <= T:=Int.le_of_lt (kf_pos (by decide) (by decide) (Int.le_of_eq h.symm) s)
theorem k_T4 {T S:Int} (h:20282409603651670423947251286016 * T=4503599627370499 * S) (s:0 < S):0 <= T:=Int.le_of_lt (kf_pos (by decide) (by decide) (Int.le_of_eq h.symm) s)
theorem k_ab0 {A:Int} (h:81129638414606681695789005144064 * (A.natAbs:Int) <= 0):A=0:=by omega
theorem k_un0 {A L:Int} (h:Un A L) (l:L=0):A=0:=by
 have:=h.2
 omega
theorem k_lr {L R S:Int} (h:9007199254740992 * ((L.natAbs:Int) + (R.natAbs:Int)) <= 9007199254740993 * 0):L=0∧R=0:=by omega
theorem k_nil {X A B L R:Int} (hA:Un A L) (hB:Un B R) (s0:9007199254740992 * ((L.natAbs:Int) + (R.natAbs:Int)) <= 9007199254740993 * 0)
  (hX:81129638414606681695789005144064 * ((X - (A - B)).natAbs:Int) <= 18014398509481985 * ((A.natAbs:Int) + (B.natAbs:Int))):L=0∧R=0∧A=0∧B=0∧X=0:=by
 obtain ⟨l,r⟩:=k_lr (S:=0) s0
 have a:=k_un0 hA l
 have b:=k_un0 hB r
 rw [a,b] at hX
 have x:=k_ab0 (A:=X - (0 - 0)) hX
 exact ⟨l,r,a,b,by omega⟩
theorem k_nil2 {X D:Int} (x:X=0) (hD:Un (0 - 0) D):(0 < X ↔ 0 < D)∧(X < 0 ↔ D < 0):=by
 have:=hD.1
 omega
theorem flt_sign {X A B L R S D T M:Int} (hA:Un A L) (hB:Un B R) (a0:9007199254740992 * ((A.natAbs:Int) + (B.natAbs:Int)) <= 9007199254740993 * ((L.natAbs:Int) + (R.natAbs:Int))) (s0:9007199254740992 * ((L.natAbs:Int) + (R.natAbs:Int)) <= 9007199254740993 * S) (s1:0 <= S)
  (hX:81129638414606681695789005144064 * ((X - (A - B)).natAbs:Int) <= 18014398509481985 * ((A.natAbs:Int) + (B.natAbs:Int)))
  (hD:Un (L - R) D) (hT:5070602400912917605986812821504 * T=1688849860263937 * S) (hM:Un T M) (h:M <= (D.natAbs:Int)):(0 < X ↔ 0 < D)∧(X < 0 ↔ D < 0):=by
 rcases Int.lt_or_eq_of_le s1 with c | c
 ·exact k_sg hD (k_flt k_tri hX (k_two hA hB) a0 s0 c hT (k_lowM hM (k_T2 hT c)) h (k_lowD hD))
 ·obtain ⟨l,r,_,_,x⟩:=k_nil hA hB (by rw [c]; exact s0) hX
  rw [l,r] at hD
  exact k_nil2 x hD
theorem hds_sign {X A B L R S D T M:Int} (hA:Un A L) (hB:Un B R) (a0:9007199254740992 * ((A.natAbs:Int) + (B.natAbs:Int)) <= 9007199254740993 * ((L.natAbs:Int) + (R.natAbs:Int))) (s0:9007199254740992 * ((L.natAbs:Int) + (R.natAbs:Int)) <= 9007199254740993 * S) (s1:0 <= S)
  (hX:81129638414606681695789005144064 * ((X - (A - B)).natAbs:Int) <= 18014398509481985 * ((A.natAbs:Int) + (B.natAbs:Int)))
  (hD:Un (A - B) D) (hT:20282409603651670423947251286016 * T=4503599627370499 * S) (hM:Un T M) (h:M <= (D.natAbs:Int)):(0 < X ↔ 0 < D)∧(X < 0 ↔ D < 0):=by
 rcases Int.lt_or_eq_of_le s1 with c | c
 ·exact k_sg hD (k_hds hX a0 s0 c hT (k_lowM hM (k_T4 hT c)) h (k_lowD hD))
 ·obtain ⟨_,_,a,b,x⟩:=k_nil hA hB (by rw [c]; exact s0) hX
  rw [a,b] at hD
  exact k_nil2 x hD
theorem g_t1 {d z p a:Int} (h1:9007199254740992 * d <= z) (hz:9007199254740992 * z <= a) (h:p <= z + d) (a0:0 <= a):81129638414606681695789005144064 * d <= a∧100 * (9007199254740992 * p) <= 101 * a:=by
 constructor <;> omega
theorem tl_prod {z p a:Int} (h:Un z p) (hz:9007199254740992 * (z.natAbs:Int) <= a):81129638414606681695789005144064 * ((p - z).natAbs:Int) <= a∧100 * (9007199254740992 * (p.natAbs:Int)) <= 101 * a :=
 g_t1 h.1 hz (by omega) (by omega)
theorem g_t2 {a dl d1 d2 p1 p2 D:Int} (e1:81129638414606681695789005144064 * d1 <= a) (e2:81129638414606681695789005144064 * d2 <= a) (f1:100 * (9007199254740992 * p1) <= 101 * a) (f2:100 * (9007199254740992 * p2) <= 101 * a) (h:9007199254740992 * dl <= p1 + p2) (hD:D <= dl + d1 + d2):100 * (81129638414606681695789005144064 * D) <= 402 * a:=by
 have g:100 * (81129638414606681695789005144064 * dl) <= 202 * a:=by
  clear e1 e2 hD
  omega
 clear f1 f2 h
 omega
theorem g_t3 {a z1 z2 l D:Int} (a0:0 <= a) (h:100 * (81129638414606681695789005144064 * D) <= 402 * a) (c1:9007199254740992 * z1 <= a) (c2:9007199254740992 * z2 <= a) (hl:l <= z1 + z2 + D):100 * (9007199254740992 * l) <= 201 * a:=by
 have g:100 * (9007199254740992 * D) <= a:=by
  clear c1 c2 hl
  omega
 clear h
 omega
theorem tl_sum {z1 z2 p1 p2 l a:Int} (h1:Un z1 p1) (h2:Un z2 p2) (c1:9007199254740992 * (z1.natAbs:Int) <= a) (c2:9007199254740992 * (z2.natAbs:Int) <= a) (hl:Un (p1 + p2) l) :
  100 * (81129638414606681695789005144064 * ((l - (z1 + z2)).natAbs:Int)) <= 402 * a∧100 * (9007199254740992 * (l.natAbs:Int)) <= 201 * a:=by
 obtain ⟨d1,f1⟩:=tl_prod h1 c1
 obtain ⟨d2,f2⟩:=tl_prod h2 c2
 have s:=hl.1
 have k:9007199254740992 * ((l - (p1 + p2)).natAbs:Int) <= (p1.natAbs:Int) + (p2.natAbs:Int):=by clear d1 f1 d2 f2 c1 c2; omega
 have t:((l - (z1 + z2)).natAbs:Int) <= ((l - (p1 + p2)).natAbs:Int) + ((p1 - z1).natAbs:Int) + ((p2 - z2).natAbs:Int):=by clear d1 f1 d2 f2 c1 c2 s k; omega
 have D:=g_t2 d1 d2 f1 f2 k t
 have a0:0 <= a:=by clear d1 f1 d2 f2 D k t s; omega
 exact ⟨D,g_t3 a0 D c1 c2 (by clear d1 f1 d2 f2 D k t s c1 c2; omega)⟩
theorem g_t4 {a b dl dr t D l r:Int} (e1:100 * (81129638414606681695789005144064 * dl) <= 402 * a) (e2:100 * (81129638414606681695789005144064 * dr) <= 402 * b) (f1:100 * (9007199254740992 * l) <= 201 * a) (f2:100 * (9007199254740992 * r) <= 201 * b) (h:9007199254740992 * t <= l + r) (hD:D <= t + dl + dr):100 * (81129638414606681695789005144064 * D) <= 603 * (a + b):=by
 have g:100 * (81129638414606681695789005144064 * t) <= 201 * (a + b):=by
  clear e1 e2 hD
  omega
 clear f1 f2 h
 omega
theorem tl_dif {zl zr l r T a b:Int} (d1:100 * (81129638414606681695789005144064 * ((l - zl).natAbs:Int)) <= 402 * a) (f1:100 * (9007199254740992 * (l.natAbs:Int)) <= 201 * a)
  (d2:100 * (81129638414606681695789005144064 * ((r - zr).natAbs:Int)) <= 402 * b) (f2:100 * (9007199254740992 * (r.natAbs:Int)) <= 201 * b) (hT:Un (l - r) T):100 * (81129638414606681695789005144064 * ((T - (zl - zr)).natAbs:Int)) <= 603 * (a + b):=by
 have s:=hT.1
 exact g_t4 d1 d2 f1 f2 (t:=((T - (l - r)).natAbs:Int)) (by clear d1 f1 d2 f2; omega) (by clear d1 f1 d2 f2 s; omega)
theorem g_t5 {a b D E1 E2 Y:Int} (h:100 * (81129638414606681695789005144064 * D) <= 603 * (a + b)) (h1:81129638414606681695789005144064 * E1 <= a) (h2:81129638414606681695789005144064 * E2 <= b) (hY:Y <= D + E1 + E2):100 * (81129638414606681695789005144064 * Y) <= 703 * (a + b):=by
 omega
theorem g_part {e f u v:Int} (h1:9007199254740992 * (e.natAbs:Int) <= (u.natAbs:Int)) (h2:9007199254740992 * (f.natAbs:Int) <= (v.natAbs:Int)):81129638414606681695789005144064 * ((e * f).natAbs:Int) <= ((u * v).natAbs:Int):=by
 have a:=part_l (v:=v) h1
 have b:=part_r (v:=e) h2
 generalize ((e * f).natAbs:Int)=x at *
 generalize ((e * v).natAbs:Int)=y at *
 generalize ((u * v).natAbs:Int)=z at *
 omega
theorem dev_tails {u1 v1 u2 v2 e1 f1 e2 f2 p1 p2 q1 q2 l r T:Int} (a1:9007199254740992 * (e1.natAbs:Int) <= (u1.natAbs:Int)) (b1:9007199254740992 * (f1.natAbs:Int) <= (v1.natAbs:Int)) (a2:9007199254740992 * (e2.natAbs:Int) <= (u2.natAbs:Int)) (b2:9007199254740992 * (f2.natAbs:Int) <= (v2.natAbs:Int))
  (h1:Un (u1 * f2) p1) (h2:Un (v2 * e1) p2) (h3:Un (v1 * e2) q1) (h4:Un (u2 * f1) q2) (hl:Un (p1 + p2) l) (hr:Un (q1 + q2) r) (hT:Un (l - r) T) :
  100 * (81129638414606681695789005144064 * ((((u1 + e1) * (v2 + f2) - (v1 + f1) * (u2 + e2)) - ((u1 * v2 - v1 * u2) + T)).natAbs:Int)) <= 703 * (((u1 * v2).natAbs:Int) + ((v1 * u2).natAbs:Int)):=by
 obtain ⟨x1,x2⟩:=tl_sum (a:=((u1 * v2).natAbs:Int)) h1 h2 (part_r b2) (by rw [Int.mul_comm v2 e1]; exact part_l a1) hl
 obtain ⟨y1,y2⟩:=tl_sum (a:=((v1 * u2).natAbs:Int)) h3 h4 (part_r a2) (by rw [Int.mul_comm u2 f1]; exact part_l b1) hr
 have d:=tl_dif x1 x2 y1 y2 hT
 have g1:=g_part a1 b2
 have g2:=g_part b1 a2
 refine g_t5 d g1 g2 ?_
 have e:((u1 + e1) * (v2 + f2) - (v1 + f1) * (u2 + e2)) - ((u1 * v2 - v1 * u2) + T)=e1 * f2 - f1 * e2 - (T - ((u1 * f2 + v2 * e1) - (v1 * e2 + u2 * f1))):=by
  rw [Int.add_mul,Int.mul_add,Int.mul_add,Int.add_mul,Int.mul_add,Int.mul_add,Int.mul_comm v2 e1,Int.mul_comm u2 f1]
  omega
 rw [e]
 clear d g1 g2 x1 x2 y1 y2 e
 omega
theorem g_low {T M:Int} (h:Un T M) (t:0 <= T):999 * T <= 1000 * M:=by
 have:=h.1
 omega
theorem g_lowD {Z D:Int} (h:Un Z D):999 * (D.natAbs:Int) <= 1000 * (Z.natAbs:Int):=by
 have:=h.2
 omega
theorem g_S {V W S Y:Int} (y:100 * (81129638414606681695789005144064 * Y) <= 703 * V) (a0:9007199254740992 * V <= 9007199254740993 * W) (s0:9007199254740992 * W <= 9007199254740993 * S) (v0:0 <= V):81129638414606681695789005144064 * Y <= 8 * S:=by
 have w:100 * V <= 101 * W:=by clear s0 y; omega
 have w0:0 <= W:=by clear s0 y; omega
 have s:100 * W <= 101 * S:=by clear a0 y w; omega
 clear a0 s0
 generalize 81129638414606681695789005144064 * Y=Q at *
 omega
theorem g_end {Y G Z S N tc tk c k E d:Int} (y:81129638414606681695789005144064 * Y <= 8 * S) (g:9007199254740992 * G <= N) (n0:0 <= N) (s:0 < S)
  (hc:9 * S <= 81129638414606681695789005144064 * tc) (hk:3 * N <= 9007199254740992 * tk) (lc:999 * tc <= 1000 * c) (lk:999 * tk <= 1000 * k) (le:999 * (c + k) <= 1000 * E) (h:E <= d) (ld:999 * d <= 1000 * Z):Y + G < Z:=by
 have z:997002999 * (tc + tk) <= 1000000000 * Z:=by
  clear y g hc hk
  omega
 have hk':3 * (9007199254740992 * N) <= 81129638414606681695789005144064 * tk:=by clear z y hc; omega
 have g':81129638414606681695789005144064 * G <= 9007199254740992 * N:=by clear z y hc hk hk'; omega
 have z':997002999 * (81129638414606681695789005144064 * tc + 81129638414606681695789005144064 * tk) <= 1000000000 * (81129638414606681695789005144064 * Z):=by
  clear y g hc hk hk' g' lc lk le h ld
  omega
 apply Int.lt_of_not_ge
 intro q
 have q':81129638414606681695789005144064 * Z <= 81129638414606681695789005144064 * Y + 81129638414606681695789005144064 * G:=by
  clear z z' y g hc hk hk' g' lc lk le h ld
  omega
 have nn:0 <= 9007199254740992 * N:=by clear z z' q' y g hc hk hk' g' lc lk le h ld q; omega
 clear z lc lk le h ld q hk g
 generalize 81129638414606681695789005144064 * Z=z1 at *
 generalize 81129638414606681695789005144064 * Y=y1 at *
 generalize 81129638414606681695789005144064 * G=g1 at *
 generalize 81129638414606681695789005144064 * tc=c1 at *
 generalize 81129638414606681695789005144064 * tk=k1 at *
 generalize 9007199254740992 * N=n1 at *
 omega
theorem tls_sign {X H h T d S V W tc tk c k E:Int} (hX:100 * (81129638414606681695789005144064 * ((X - (H + T)).natAbs:Int)) <= 703 * V) (a0:9007199254740992 * V <= 9007199254740993 * W) (s0:9007199254740992 * W <= 9007199254740993 * S) (v0:0 <= V) (s1:0 < S)
  (hh:Un H h) (hd:Un (h + T) d) (hc:9 * S <= 81129638414606681695789005144064 * tc) (hk:3 * (h.natAbs:Int) <= 9007199254740992 * tk) (tc0:0 <= tc) (tk0:0 <= tk) (uc:Un tc c) (uk:Un tk k) (c0:0 <= c) (k0:0 <= k) (uE:Un (c + k) E) (hE:E <= (d.natAbs:Int)):(0 < X ↔ 0 < d)∧(X < 0 ↔ d < 0):=by
 have y:=g_S hX a0 s0 v0
 have e:=g_end (Y:=((X - (H + T)).natAbs:Int)) (G:=((h - H).natAbs:Int)) y hh.2 (by clear y hX hc hk; omega) s1 hc hk (g_low uc tc0) (g_low uk tk0) (g_low uE (by clear y hX hc hk; omega)) hE (g_lowD hd)
 exact k_sg hd (by clear y hX hc hk hE a0 s0; omega)
structure Fx (a b:Nat) (x:Int):Prop where
 r:rng x
 p:pok x=true
 d:(2 ^ a:Int) ∣ iV x
 b:((iV x).natAbs:Int) <= 2 ^ b
theorem Mz.fx {x:Int} (h:Mz x):Fx 872 1224 x:=⟨h.1,h.2.1,h.2.2.1,h.2.2.2⟩
theorem Fx.up {a b b':Nat} {x:Int} (h:Fx a b x) (c:b <= b'):Fx a b' x:=⟨h.r,h.p,h.d,p2_up h.b c⟩
theorem Fx.neg {a b:Nat} {x:Int} (h:Fx a b x):Fx a b (neg x)∧iV (neg x)=-iV x:=by
 obtain ⟨n1,n2,n3⟩:=neg_facts h.r h.p
 refine ⟨⟨n1,n2,?_,?_⟩,n3⟩
 ·rw [n3]; exact Int.dvd_neg.2 h.d
 ·rw [n3,Int.natAbs_neg]; exact h.b
theorem h_dbl {S x:Int} (h:Un S x):(x.natAbs:Int) <= 2 * (S.natAbs:Int):=by
 have:=h.1
 omega
theorem h_fin {a b m:Int} {k:Nat} (h1:a <= 2 ^ k) (hk:k + 1 <= 2097) (hm:(2:Int) ^ 2097 <= m):2 * a <= m:=by
 have e:=p2s k
 have f:(2:Int) ^ (k + 1) <= 2 ^ 2097:=p2le hk
 omega
theorem Fx.sum {a b:Nat} {x y:Int} (hx:Fx a b x) (hy:Fx a b y) (hb:b + 1 <= 2097):Fx a (b + 2) (fsum x y)∧Un (iV x + iV y) (iV (fsum x y)):=by
 obtain ⟨f1,f2⟩:=sum_fin hx.r hy.r hx.p hy.p (h_fin (b:=0) hx.b hb maxV_ge) (h_fin (b:=0) hy.b hb maxV_ge)
 have nr:=fsum_nr hx.r hy.r f2
 have u:=nr_Un nr
 refine ⟨⟨fsum_rng hx.r hy.r,f1,nr_dvd nr (Int.dvd_add hx.d hy.d),?_⟩,u⟩
 have h2:=h_dbl u
 have e1:=hx.b
 have e2:=hy.b
 rw [show b + 2=b + 1 + 1 by omega,p2s,p2s]
 omega
theorem h_mul {x y:Int} {b d:Nat} (h1:(x.natAbs:Int) <= 2 ^ b) (h2:(y.natAbs:Int) <= 2 ^ d):((x * y).natAbs:Int) <= 2 ^ (b + d):=by
 have:=abs_mul_le h1 h2
 rwa [<- Int.pow_add] at this
theorem Fx.prod {a b c d:Nat} {x y:Int} (hx:Fx a b x) (hy:Fx c d y) (h1:1074 <= a + c) (h2:1074 <= b + d) (h3:b + d - 1074 <= 2097) :
  Fx (a + c - 1074) (b + d - 1074 + 1) (fprod x y)∧Un (iV x * iV y) (2 ^ 1074 * iV (fprod x y))∧∃ T,2 ^ 1074 * T=iV x * iV y∧Un T (iV (fprod x y)):=by
 have dd:(2 ^ (a + c):Int) ∣ iV x * iV y:=by
  rw [Int.pow_add]
  exact Int.mul_dvd_mul hx.d hy.d
 obtain ⟨k,hk⟩:=dd
 have e0:(2:Int) ^ (a + c)=2 ^ 1074 * 2 ^ (a + c - 1074):=by rw [<- Int.pow_add,show 1074 + (a + c - 1074)=a + c by omega]
 have hT:2 ^ 1074 * (2 ^ (a + c - 1074) * k)=iV x * iV y:=by rw [hk,e0,Int.mul_assoc]
 have b1:=h_mul hx.b hy.b
 rw [<- hT,natAbs_p2,show b + d=1074 + (b + d - 1074) by omega,Int.pow_add] at b1
 have b2:(((2 ^ (a + c - 1074) * k:Int)).natAbs:Int) <= 2 ^ (b + d - 1074):=Int.le_of_mul_le_mul_left b1 (p2 1074)
 have s:=stp_prod hx.r hy.r hx.p hy.p hT
 have f:pok (fprod x y)=true:=s.fin (Int.le_trans b2 (Int.le_trans (p2le h3) maxV_ge))
 have nr:=s.nr f
 have u:=nr_Un nr
 refine ⟨⟨fprod_rng hx.r hy.r,f,nr_dvd nr ⟨k,rfl⟩,?_⟩,?_,_,hT,u⟩
 ·have:=h_dbl u
  rw [p2s]
  omega
 ·rw [<- hT]
  exact u.scale (Int.le_of_lt (p2 1074))
theorem rg_rg {x:Int} (h:rng x):rg (rg x)=rg x:=by unfold rng rg at *; split <;> (try split) <;> omega
theorem Fx.abs {a b:Nat} {x:Int} (h:Fx a b x):Fx a b (rg x)∧iV (rg x)=((iV x).natAbs:Int):=by
 obtain ⟨q1,q2⟩:=q_rg h.r
 have e:iV (rg x)=((iV x).natAbs:Int):=by
  rw [iV_abs,iV,decide_eq_false (by omega),rg_rg h.r]
  rfl
 refine ⟨⟨q1,?_,?_,?_⟩,e⟩
 ·rw [pok_rg' q1,rg_rg h.r,<- pok_rg' h.r]; exact h.p
 ·rw [e]; exact Int.dvd_natAbs.2 h.d
 ·rw [e,Int.natAbs_natCast]; exact h.b
structure FltN (u1 v1 u2 v2:Int):Prop where
 l:Fx 670 1379 (fprod u1 v2)
 r:Fx 670 1379 (fprod v1 u2)
 lu:Un (iV u1 * iV v2) (2 ^ 1074 * iV (fprod u1 v2))
 ru:Un (iV v1 * iV u2) (2 ^ 1074 * iV (fprod v1 u2))
 s:Fx 670 1381 (fsum (rg (fprod u1 v2)) (rg (fprod v1 u2)))
 su:Un (((iV (fprod u1 v2)).natAbs:Int) + ((iV (fprod v1 u2)).natAbs:Int)) (iV (fsum (rg (fprod u1 v2)) (rg (fprod v1 u2))))
 d:Fx 670 1381 (fsum (fprod u1 v2) (neg (fprod v1 u2)))
 du:Un (iV (fprod u1 v2) - iV (fprod v1 u2)) (iV (fsum (fprod u1 v2) (neg (fprod v1 u2))))
theorem fltN_of {u1 v1 u2 v2:Int} (h1:Fx 872 1226 u1) (h2:Fx 872 1226 v1) (h3:Fx 872 1226 u2) (h4:Fx 872 1226 v2):FltN u1 v1 u2 v2:=by
 obtain ⟨l,lu,_⟩:=h1.prod h4 (by decide) (by decide) (by decide)
 obtain ⟨r,ru,_⟩:=h2.prod h3 (by decide) (by decide) (by decide)
 obtain ⟨la,le⟩:=l.abs
 obtain ⟨ra,re⟩:=r.abs
 obtain ⟨s,su⟩:=la.sum ra (by decide)
 obtain ⟨nr,ne⟩:=r.neg
 obtain ⟨d,du⟩:=l.sum nr (by decide)
 rw [le,re] at su
 rw [ne] at du
 exact ⟨l,r,lu,ru,s,su,d,du⟩
theorem Mz.diff {p q:Int} (hp:Mz p) (hq:Mz q):Fx 872 1226 (fsum p (neg q))∧Un (iV p - iV q) (iV (fsum p (neg q))):=by
 obtain ⟨n,ne⟩:=hq.fx.neg
 obtain ⟨s,su⟩:=hp.fx.sum n (by decide)
 rw [ne] at su
 exact ⟨s,su⟩
def oA:Int:=4375247037990436868
def oB:Int:=4372995238176751619
def oC:Int:=4143874607134277636
def oK:Int:=4375247037990436866
theorem iV_posO {p m:Int} {n:Nat} (hr:rng p) (hp:pok p=true) (h0:0 <= p) (hm:pmag p=m * 4) (he:pexp p + 1074=n) (m0:0 <= m):iV p=m * 2 ^ (n + 2):=by
 have e:=iV_form hr hp
 rw [hm,he,Int.toNat_natCast] at e
 have s:0 <= iV p:=by
  rw [iV,decide_eq_false (by omega)]
  exact Int.natCast_nonneg _
 rw [show n + 2=n + 1 + 1 by omega,p2s,p2s]
 have q:=p2 n
 have:m * (2 * (2 * 2 ^ n))=m * 4 * 2 ^ n:=by rw [<- Int.mul_assoc 2 2,<- Int.mul_assoc,show (2:Int) * 2=4 from rfl]
 omega
theorem rng_oA:rng oA:=by unfold rng oA; omega
theorem iV_oA:iV oA=1688849860263937 * 2 ^ 972:=iV_posO (n:=970) rng_oA (by decide) (by decide) (by decide) (by decide) (by decide)
theorem fx_oA:Fx 972 1024 oA:=by
 refine ⟨rng_oA,by decide,⟨_,by rw [iV_oA,Int.mul_comm]⟩,?_⟩
 rw [iV_oA,Int.natAbs_mul,Int.natCast_mul]
 have e:(((2:Int) ^ 972).natAbs:Int)=2 ^ 972:=by have:=p2 972; omega
 rw [e,show (2:Int) ^ 1024=2 ^ 52 * 2 ^ 972 by rw [<- Int.pow_add]]
 exact Int.mul_le_mul_of_nonneg_right (by decide) (Int.le_of_lt (p2 972))
theorem sc_abs {S:Int} {q:Int} (hq:0 <= q):((q * S).natAbs:Int)=q * (S.natAbs:Int):=by
 rw [abs_mul]
 congr 1
 omega
theorem sc_sgn {q x:Int} (hq:0 < q):(0 < q * x ↔ 0 < x)∧(q * x < 0 ↔ x < 0):=by
 rcases Int.lt_trichotomy x 0 with h | h | h
 ·have:q * x < 0:=Int.mul_neg_of_pos_of_neg hq h
  omega
 ·rw [h,Int.mul_zero]
  exact ⟨Iff.rfl,Iff.rfl⟩
 ·have:0 < q * x:=Int.mul_pos hq h
  omega
theorem flt_dev {ax ay bx by' cx cy:Int} (hax:Mz ax) (hay:Mz ay) (hbx:Mz bx) (hby:Mz by') (hcx:Mz cx) (hcy:Mz cy) {u1 v1 u2 v2 L R S:Int} (e1:u1=fsum ax (neg cx)) (e2:v1=fsum ay (neg cy)) (e3:u2=fsum bx (neg cx)) (e4:v2=fsum by' (neg cy))
  (eL:L=fprod u1 v2) (eR:R=fprod v1 u2) (eS:S=fsum (rg L) (rg R)) :
  FltN u1 v1 u2 v2 ∧
  9007199254740992 * (((iV u1 * iV v2).natAbs:Int) + ((iV v1 * iV u2).natAbs:Int)) <= 9007199254740993 * (((2 ^ 1074 * iV L).natAbs:Int) + ((2 ^ 1074 * iV R).natAbs:Int)) ∧
  9007199254740992 * (((2 ^ 1074 * iV L).natAbs:Int) + ((2 ^ 1074 * iV R).natAbs:Int)) <= 9007199254740993 * (2 ^ 1074 * iV S)∧0 <= 2 ^ 1074 * iV S ∧
  81129638414606681695789005144064 * ((((iV ax - iV cx) * (iV by' - iV cy) - (iV ay - iV cy) * (iV bx - iV cx)) - (iV u1 * iV v2 - iV v1 * iV u2)).natAbs:Int) <= 18014398509481985 * (((iV u1 * iV v2).natAbs:Int) + ((iV v1 * iV u2).natAbs:Int)):=by
 obtain ⟨f1,n1⟩:=hax.diff hcx
 obtain ⟨f2,n2⟩:=hay.diff hcy
 obtain ⟨f3,n3⟩:=hbx.diff hcx
 obtain ⟨f4,n4⟩:=hby.diff hcy
 rw [<- e1] at f1 n1
 rw [<- e2] at f2 n2
 rw [<- e3] at f3 n3
 rw [<- e4] at f4 n4
 have F:=fltN_of f1 f2 f3 f4
 refine ⟨F,?_⟩
 have q0:=Int.le_of_lt (p2 1074)
 have su:=F.su.scale q0
 rw [Int.mul_add,<- sc_abs q0,<- sc_abs q0] at su
 rw [eS,eL,eR]
 exact dev_heads n1 n4 n2 n3 F.lu F.ru su
theorem flt_pat {ax ay bx by' cx cy:Int} (hax:Mz ax) (hay:Mz ay) (hbx:Mz bx) (hby:Mz by') (hcx:Mz cx) (hcy:Mz cy) {u1 v1 u2 v2 L R S D:Int} (e1:u1=fsum ax (neg cx)) (e2:v1=fsum ay (neg cy)) (e3:u2=fsum bx (neg cx)) (e4:v2=fsum by' (neg cy))
  (eL:L=fprod u1 v2) (eR:R=fprod v1 u2) (eS:S=fsum (rg L) (rg R)) (eD:D=fsum L (neg R)) (h:iV (fprod oA S) <= ((iV D).natAbs:Int)) :
  (0 < (iV ax - iV cx) * (iV by' - iV cy) - (iV ay - iV cy) * (iV bx - iV cx) ↔ 0 < iV D)∧((iV ax - iV cx) * (iV by' - iV cy) - (iV ay - iV cy) * (iV bx - iV cx) < 0 ↔ iV D < 0):=by
 obtain ⟨F,a0,s0,s1,hX⟩:=flt_dev hax hay hbx hby hcx hcy e1 e2 e3 e4 eL eR eS
 have q:=p2 1074
 have q0:=Int.le_of_lt q
 have fS:Fx 670 1381 S:=by rw [eS,eL,eR]; exact F.s
 obtain ⟨_,_,T,hT,uT⟩:=fx_oA.prod fS (by decide) (by decide) (by decide)
 have du:Un (2 ^ 1074 * iV L - 2 ^ 1074 * iV R) (2 ^ 1074 * iV D):=by
  rw [<- Int.mul_sub,eD,eL,eR]
  exact F.du.scale q0
 have hT':5070602400912917605986812821504 * (2 ^ 1074 * T)=1688849860263937 * (2 ^ 1074 * iV S):=by
  rw [hT,iV_oA,show (5070602400912917605986812821504:Int)=2 ^ 102 by decide,show (2:Int) ^ 1074=2 ^ 102 * 2 ^ 972 by rw [<- Int.pow_add]]
  generalize (2:Int) ^ 972=z
  generalize (2:Int) ^ 102=y
  generalize iV S=x
  rw [Int.mul_assoc,Int.mul_assoc,Int.mul_left_comm]
 have hM:2 ^ 1074 * iV (fprod oA S) <= ((2 ^ 1074 * iV D).natAbs:Int):=by
  rw [sc_abs q0]
  exact Int.mul_le_mul_of_nonneg_left h q0
 have lu:=F.lu
 have ru:=F.ru
 rw [<- eL] at lu
 rw [<- eR] at ru
 obtain ⟨r1,r2⟩:=flt_sign lu ru a0 s0 s1 hX du hT' (uT.scale q0) hM
 rw [r1,r2]
 exact sc_sgn q
theorem iV_posN {p m:Int} {n:Nat} (hr:rng p) (hp:pok p=true) (h0:0 <= p) (hm:pmag p=m) (he:pexp p + 1074=n):iV p=m * 2 ^ n:=by
 have e:=iV_form hr hp
 rw [hm,he,Int.toNat_natCast] at e
 have s:0 <= iV p:=by
  rw [iV,decide_eq_false (by omega)]
  exact Int.natCast_nonneg _
 omega
theorem rng_oB:rng oB:=by unfold rng oB; omega
theorem rng_oC:rng oC:=by unfold rng oC; omega
theorem rng_oK:rng oK:=by unfold rng oK; omega
theorem iV_oB:iV oB=4503599627370499 * 2 ^ 970:=iV_posN rng_oB (by decide) (by decide) (by decide) (by decide)
theorem iV_oC:iV oC=5066549580791812 * 2 ^ 919:=iV_posN rng_oC (by decide) (by decide) (by decide) (by decide)
theorem iV_oK:iV oK=6755399441055746 * 2 ^ 970:=iV_posN rng_oK (by decide) (by decide) (by decide) (by decide)
theorem fx_pos {p m:Int} {n:Nat} (hr:rng p) (hp:pok p=true) (e:iV p=m * 2 ^ n) (m0:0 <= m) (hm:m <= 2 ^ 53):Fx n (n + 53) p:=by
 refine ⟨hr,hp,⟨_,by rw [e,Int.mul_comm]⟩,?_⟩
 have q:=p2 n
 have:0 <= m * 2 ^ n:=Int.mul_nonneg m0 (by omega)
 have e':((iV p).natAbs:Int)=m * 2 ^ n:=by omega
 rw [e',Int.pow_add,Int.mul_comm ((2:Int) ^ n)]
 exact Int.mul_le_mul_of_nonneg_right hm (by omega)
theorem fx_oB:Fx 970 1023 oB:=fx_pos rng_oB (by decide) iV_oB (by decide) (by decide)
theorem fx_oC:Fx 919 972 oC:=fx_pos rng_oC (by decide) iV_oC (by decide) (by decide)
theorem fx_oK:Fx 970 1023 oK:=fx_pos rng_oK (by decide) iV_oK (by decide) (by decide)
theorem Fx.dn {a a' b:Nat} {x:Int} (h:Fx a b x) (c:a' <= a):Fx a' b x:=⟨h.r,h.p,Int.dvd_trans (p2dvd c) h.d,h.b⟩
theorem hds_pat {ax ay bx by' cx cy:Int} (hax:Mz ax) (hay:Mz ay) (hbx:Mz bx) (hby:Mz by') (hcx:Mz cx) (hcy:Mz cy) {u1 v1 u2 v2 L R S D:Int} (e1:u1=fsum ax (neg cx)) (e2:v1=fsum ay (neg cy)) (e3:u2=fsum bx (neg cx)) (e4:v2=fsum by' (neg cy))
  (eL:L=fprod u1 v2) (eR:R=fprod v1 u2) (eS:S=fsum (rg L) (rg R)) (hD:Un (iV u1 * iV v2 - iV v1 * iV u2) (2 ^ 1074 * iV D)) (h:iV (fprod oB S) <= ((iV D).natAbs:Int)) :
  (0 < (iV ax - iV cx) * (iV by' - iV cy) - (iV ay - iV cy) * (iV bx - iV cx) ↔ 0 < iV D)∧((iV ax - iV cx) * (iV by' - iV cy) - (iV ay - iV cy) * (iV bx - iV cx) < 0 ↔ iV D < 0):=by
 obtain ⟨F,a0,s0,s1,hX⟩:=flt_dev hax hay hbx hby hcx hcy e1 e2 e3 e4 eL eR eS
 have q:=p2 1074
 have q0:=Int.le_of_lt q
 have fS:Fx 670 1381 S:=by rw [eS,eL,eR]; exact F.s
 obtain ⟨_,_,T,hT,uT⟩:=fx_oB.prod fS (by decide) (by decide) (by decide)
 have hT':20282409603651670423947251286016 * (2 ^ 1074 * T)=4503599627370499 * (2 ^ 1074 * iV S):=by
  rw [hT,iV_oB,show (20282409603651670423947251286016:Int)=2 ^ 104 by decide,show (2:Int) ^ 1074=2 ^ 104 * 2 ^ 970 by rw [<- Int.pow_add]]
  generalize (2:Int) ^ 970=z
  generalize (2:Int) ^ 104=y
  generalize iV S=x
  rw [Int.mul_assoc,Int.mul_assoc,Int.mul_left_comm]
 have hM:2 ^ 1074 * iV (fprod oB S) <= ((2 ^ 1074 * iV D).natAbs:Int):=by
  rw [sc_abs q0]
  exact Int.mul_le_mul_of_nonneg_left h q0
 have lu:=F.lu
 have ru:=F.ru
 rw [<- eL] at lu
 rw [<- eR] at ru
 obtain ⟨r1,r2⟩:=hds_sign lu ru a0 s0 s1 hX hD hT' (uT.scale q0) hM
 rw [r1,r2]
 exact sc_sgn q
theorem Mz.lost {p q:Int} (hp:Mz p) (hq:Mz q):Fx 872 1226 (sL p (neg q))∧iV p - iV q=iV (fsum p (neg q)) + iV (sL p (neg q))∧9007199254740992 * ((iV (sL p (neg q))).natAbs:Int) <= ((iV (fsum p (neg q))).natAbs:Int):=by
 obtain ⟨n1,n2,n3⟩:=neg_facts hq.1 hq.2.1
 obtain ⟨f1,f2⟩:=df_fin hp hq
 have nr:=fsum_nr hp.1 n1 f2
 have e:=(sL_exact hp.1 n1 f2).2.2
 obtain ⟨s,u⟩:=hp.diff hq
 have el:iV (sL p (neg q))=iV p - iV q - iV (fsum p (neg q)):=by omega
 have k:9007199254740992 * ((iV (sL p (neg q))).natAbs:Int) <= ((iV (fsum p (neg q))).natAbs:Int):=by
  have:=u.2
  rw [el]
  omega
 refine ⟨⟨sL_rng hp.1 n1,f2,?_,?_⟩,by omega,k⟩
 ·rw [el]
  exact Int.dvd_sub (Int.dvd_sub hp.2.2.1 hq.2.2.1) s.d
 ·have:=s.b
  omega
end Go.Proofs.YtinccocmgkjalaaGreatDoor
