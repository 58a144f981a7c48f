/- Parts of the proof. -/
import Derived.Test.YtjjihmnbdeeedaaGreatDoorCe8
import Derived.Test.YtjjihmnbdeeedaaGreatDoorCe6
import Derived.Test.YtjjihmnbdeeedaaGreatDoorCe4
import Derived.Test.YtjjihmnbdeeedaaGreatDoorCe1
import Derived.Test.YtjjihmnbdeeedaaGreatDoorCe7
set_option linter.unusedVariables false
set_option linter.unusedSimpArgs false
namespace Go.Proofs.YtjjihmnbdeeedaaGreatDoor
open Go Go.RowKit Go.Proofs.YtjjihmnbdeeedaaGreatDoor.M Ieee
theorem read_same {x y:Nat} (h1:x % Ieee.double.signWeight=y % Ieee.double.signWeight) (h2:(x/Ieee.double.signWeight % 2 == 1)=!(y/Ieee.double.signWeight % 2 == 1)):Ieee.double.read x=(Ieee.double.read y).opposite:=by
  unfold Format.read
  dsimp only
  rw [h1,h2]
  split
  . rfl
  . split
    . rfl
    . split
      . rfl
      . rfl
theorem read_neg {q:Int} (hq:rng q) (h4:cls q≠4):Ieee.double.read (wd (neg q))=(Ieee.double.read (wd q)).opposite:=by
  have hn:neg q=if q<0 then q+9223372036854775808 else q-9223372036854775808:=by unfold neg; rw [if_neg h4]
  refine read_same ?_ ?_
  . rw [dSign,hn]
    unfold rng at hq
    unfold wd
    split <;> omega
  . rw [dSign,wd_neg (rng_neg hq),wd_neg hq,hn]
    unfold rng at hq
    by_cases h:q<0
    . rw [if_pos h,decide_eq_false (p:=q+9223372036854775808<0) (by omega),decide_eq_true h]; rfl
    . rw [if_neg h,decide_eq_true (p:=q-9223372036854775808<0) (by omega),decide_eq_false h]; rfl
theorem neg_nan {q:Int} (h:cls q=4):neg q=9221120237041090561:=by unfold neg; rw [if_pos h]
theorem sub_FW {p q:Int} {x y:Nat} (hx:FW p x) (hy:FW q y):(∃ z,Ieee.double.sub x y=some z∧FW (fsum p (neg q)) z)∨(Ieee.double.sub x y=none∧fsum p (neg q)=9221120237041090561):=by
  by_cases h4:cls q=4
  . right
    refine ⟨?_,by unfold fsum; rw [neg_nan h4,if_pos (.inr nan_canon)]⟩
    obtain ⟨s,t,e⟩:=hy.read_nan h4
    unfold Format.sub
    rw [e]
    cases Ieee.double.read x <;> rfl
  . obtain ⟨rq,rfl,_,_⟩:=hy.of h4
    have hs:Ieee.double.sub x (wd q)=Ieee.double.add x (wd (neg q)):=by
      unfold Format.sub Format.add
      rw [read_neg rq h4]
    rw [hs]
    exact add_FW hx (FW.pat (cls_neg rq h4) (rng_neg rq))
def xsg (p q:Int):Bool:=decide (p<0) != decide (q<0)
def fsize (p q:Int):Int:=sg (xsg p q) (patV p*patV q/2^4194304)
def fprod (p q:Int):Int :=
  if cls p=4∨cls q=4 then 9221120237041090561
  else if rg p=9218868437227405312∨rg q=9218868437227405312 then (if rg p=0∨rg q=0 then 9221120237041090561 else patS (xsg p q) 9218868437227405312)
  else if fsize p q=0 then patS (xsg p q) 0 else nearP (sg (xsg p q) (fsize p q))
theorem fsize_of {g:Bool} {D Z C:Int} (hZ:0<Z) (h:sg g D*Z=C):sg g (C/Z)=D:=by
  rw [<- h,Int.mul_ediv_cancel _ (Int.ne_of_gt hZ)]
  cases g
  . rfl
  . exact Int.neg_neg D
theorem nearP_sg {g:Bool} {D:Int} {r0:Nat} {left:Int} (h0:0<D) (hR:Rung D r0 left):nearP (sg g D)=patS g (rTo 0 g r0 left):=by
  have hd:decide (sg g D<0)=g:=by
    cases g
    . exact decide_eq_false (by show ¬ D<0; omega)
    . exact decide_eq_true (by show -D<0; omega)
  have hn:sg g D≠0:=by
    cases g
    . show D≠0; omega
    . show -D≠0; omega
  obtain ⟨A,s0,k,e1,e2,e3⟩:=nearP_rung hn
  rw [hd] at e1 e3
  have:=sg_inj e1
  subst this
  obtain ⟨h1,h2⟩:=hR.unique e2
  subst h1 h2
  exact e3
theorem fmul_fin {p q:Int} (hp:rng p) (hq:rng q) (pp:pok p=true) (pq:pok q=true):Ieee.double.mul (wd p) (wd q)=some (wd (if fsize p q=0 then patS (xsg p q) 0 else nearP (sg (xsg p q) (fsize p q)))):=by
  obtain ⟨D,d0,d1,d2,d3⟩:=fmul hp hq pp pq
  have hf:fsize p q=D:=fsize_of (two_pos 4194304) d1
  rw [hf]
  by_cases h:D=0
  . rw [if_pos h]; exact d2 h
  . rw [if_neg h]
    obtain ⟨r0,left,hR,hE⟩:=d3 h
    rw [hE,nearP_sg (by omega) hR]
    rfl
theorem write_infS (g:Bool):Ieee.double.write (.infinity g)=wd (patS g 9218868437227405312):=by
  unfold Format.write
  dsimp only
  rw [dInf]
  exact wd_word (ng:=g) (r:=9218868437227405312) (by decide) (by decide)
theorem mag_zero {q:Int} {m u:Nat} (hq:rng q) (pq:pok q=true) (h:patV q=sg (decide (q<0)) ((m:Int)*pw (-1074+(u:Int)))):m=0 ↔ rg q=0:=by
  have e:=patV_dec hq pq
  rw [h] at e
  have e2:=sg_inj e
  obtain ⟨r0,r1⟩:=rg_lt hq pq
  constructor
  . intro hm
    rw [hm] at e2
    have e3:vS (rg q).toNat=0:=by rw [<- e2]; simp
    rcases Nat.eq_zero_or_pos (rg q).toNat with g | g
    . omega
    . have:=vS_lt g
      rw [vS_zero,e3] at this
      exact absurd this (Int.lt_irrefl _)
  . intro hr
    rw [hr] at e2
    have e3:(m:Int)*pw (-1074+(u:Int))=0:=by rw [e2]; exact vS_zero
    have:=(eq_zero_iff (pw_pos (-1074+(u:Int)))).2 e3
    omega
theorem mul_FW {p q:Int} {x y:Nat} (hx:FW p x) (hy:FW q y):(∃ z,Ieee.double.mul x y=some z∧FW (fprod p q) z)∨(Ieee.double.mul x y=none∧fprod p q=9221120237041090561):=by
  by_cases h4:cls p=4∨cls q=4
  . right
    refine ⟨?_,by unfold fprod; rw [if_pos h4]⟩
    unfold Format.mul
    rcases h4 with h | h
    . obtain ⟨s,t,e⟩:=hx.read_nan h
      rw [e]
      rfl
    . obtain ⟨s,t,e⟩:=hy.read_nan h
      rw [e]
      cases Ieee.double.read x <;> rfl
  . have h4p:cls p≠4:=fun h=>h4 (.inl h)
    have h4q:cls q≠4:=fun h=>h4 (.inr h)
    obtain ⟨rp,rfl,p0,p1⟩:=hx.of h4p
    obtain ⟨rq,rfl,q0,q1⟩:=hy.of h4q
    have hI:=patS_rng (ng:=xsg p q) (r:=9218868437227405312) (by decide) (by decide)
    have hX:(decide (p<0) ^^ decide (q<0))=xsg p q:=xor_ne _ _
    have hX2:(decide (q<0) ^^ decide (p<0))=xsg p q:=by rw [<- hX]; cases decide (p<0) <;> cases decide (q<0) <;> rfl
    unfold fprod
    rw [if_neg h4]
    by_cases ip:rg p=9218868437227405312
    . rw [if_pos (.inl ip)]
      have ep:=read_inf64 rp ip
      by_cases iq:rg q=9218868437227405312
      . left
        rw [if_neg (by omega)]
        refine ⟨_,?_,FW.pat hI.2 hI.1⟩
        unfold Format.mul
        rw [ep,read_inf64 rq iq]
        show some (Ieee.double.write (.infinity (decide (p<0) ^^ decide (q<0))))=_
        rw [write_infS,hX]
      . have pq:=(pok_rg rq).2 (by omega)
        obtain ⟨m,u,eq,vq⟩:=read_wd rq pq
        have hz:=mag_zero rq pq vq
        by_cases hm:m=0
        . right
          refine ⟨?_,by rw [if_pos (.inr (hz.1 hm))]⟩
          unfold Format.mul
          rw [ep,eq,hm]
          rfl
        . left
          rw [if_neg (fun h=>by rcases h with h | h; omega; exact hm (hz.2 h))]
          refine ⟨_,?_,FW.pat hI.2 hI.1⟩
          unfold Format.mul
          rw [ep,eq]
          unfold Datum.product
          dsimp only
          rw [if_neg hm]
          show some (Ieee.double.write (.infinity (decide (p<0) ^^ decide (q<0))))=_
          rw [write_infS,hX]
    . have pp:=(pok_rg rp).2 (by omega)
      by_cases iq:rg q=9218868437227405312
      . rw [if_pos (.inr iq)]
        obtain ⟨m,u,ep,vp⟩:=read_wd rp pp
        have hz:=mag_zero rp pp vp
        have eq:=read_inf64 rq iq
        by_cases hm:m=0
        . right
          refine ⟨?_,by rw [if_pos (.inl (hz.1 hm))]⟩
          unfold Format.mul
          rw [ep,eq,hm]
          rfl
        . left
          rw [if_neg (fun h=>by rcases h with h | h; exact hm (hz.2 h); omega)]
          refine ⟨_,?_,FW.pat hI.2 hI.1⟩
          unfold Format.mul
          rw [ep,eq]
          unfold Datum.product
          dsimp only
          rw [if_neg hm]
          show some (Ieee.double.write (.infinity (decide (q<0) ^^ decide (p<0))))=_
          rw [write_infS,hX2]
      . left
        rw [if_neg (by omega)]
        refine ⟨_,fmul_fin rp rq pp ((pok_rg rq).2 (by omega)),?_⟩
        by_cases hS:fsize p q=0
        . rw [if_pos hS]
          obtain ⟨g1,g2⟩:=patS_rng (ng:=xsg p q) (r:=0) (by decide) (by decide)
          exact FW.pat g2 g1
        . rw [if_neg hS]
          have hn:sg (xsg p q) (fsize p q)≠0:=by
            generalize fsize p q=D at *
            cases xsg p q
            . exact hS
            . show -D≠0; omega
          exact FW.pat (nearP_pat hn).2 (nearP_pat hn).1
end Go.Proofs.YtjjihmnbdeeedaaGreatDoor
namespace Go.Proofs.YtjjihmnbdeeedaaGreatDoor.M
def Fl (n:Int):Prop:=∃ k:Nat,(2^k:Int) ∣ n∧(n.natAbs:Int)<9007199254740992*2^k
def Nr (S h:Int):Prop:=Fl h∧∀ f,Fl f->(h-S).natAbs<=(f-S).natAbs
theorem p2 (k:Nat):(0:Int)<2^k:=Int.pow_pos (by decide)
theorem p2s (k:Nat):(2:Int)^(k+1)=2*2^k:=by rw [Int.pow_succ,Int.mul_comm]
theorem p2dvd {j k:Nat} (h:j<=k):(2^j:Int) ∣ 2^k:=⟨2^(k-j),by rw [<- Int.pow_add,Nat.add_sub_cancel' h]⟩
theorem p2le {j k:Nat} (h:j<=k):(2:Int)^j<=2^k:=Int.le_of_dvd (p2 k) (p2dvd h)
theorem p2lt {j k:Nat} (h:(2:Int)^j<2^k):j<k:=by
  rcases Nat.lt_or_ge j k with c | c
  . exact c
  . have:=p2le c; omega
theorem Fl.neg {n:Int} (h:Fl n):Fl (-n):=by
  obtain ⟨k,d,b⟩:=h
  exact ⟨k,(Int.dvd_neg).2 d,by rw [Int.natAbs_neg]; exact b⟩
theorem fl_zero:Fl 0:=⟨0,⟨0,by simp⟩,by simp⟩
theorem fl_of {n:Int} {k:Nat} (d:(2^k:Int) ∣ n) (b:(n.natAbs:Int)<=9007199254740992*2^k):Fl n:=by
  by_cases c:(n.natAbs:Int)<9007199254740992*2^k
  . exact ⟨k,d,c⟩
  . have e:(n.natAbs:Int)=9007199254740992*2^k:=by omega
    refine ⟨k+1,?_,?_⟩
    . rw [<- Int.dvd_natAbs,e,p2s]
      exact ⟨4503599627370496,by omega⟩
    . rw [p2s]; have:=p2 k; omega
theorem Fl.dbl {n:Int} (h:Fl n):Fl (2*n):=by
  obtain ⟨k,⟨c,rfl⟩,b⟩:=h
  refine ⟨k+1,⟨c,by rw [p2s,Int.mul_assoc]⟩,?_⟩
  rw [p2s]
  omega
theorem Nr.neg {S h:Int} (n:Nr S h):Nr (-S) (-h):=by
  refine ⟨n.1.neg,fun f hf=>?_⟩
  have:=n.2 (-f) hf.neg
  omega
theorem nr_self {S h:Int} (hS:Fl S) (n:Nr S h):h=S:=by
  have:=n.2 S hS
  omega
theorem fl_sub {x y:Int} (hx:Fl x) (hy:Fl y) (h1:(x-y).natAbs<=x.natAbs) (h2:(x-y).natAbs<=y.natAbs):Fl (x-y):=by
  obtain ⟨j,dx,bx⟩:=hx
  obtain ⟨k,dy,by1⟩:=hy
  rcases Nat.le_total j k with c | c
  . exact ⟨j,Int.dvd_sub dx (Int.dvd_trans (p2dvd c) dy),by omega⟩
  . exact ⟨k,Int.dvd_sub (Int.dvd_trans (p2dvd c) dx) dy,by omega⟩
theorem fl_add {x y:Int} (hx:Fl x) (hy:Fl y) (h1:(x+y).natAbs<=x.natAbs) (h2:(x+y).natAbs<=y.natAbs):Fl (x+y):=by
  have e:x+y=x - -y:=by omega
  rw [e]
  exact fl_sub hx hy.neg (by omega) (by omega)
theorem nr_dvd_pos {S h:Int} {k:Nat} (n:Nr S h) (d:(2^k:Int) ∣ S) (h0:0<=S):(2^k:Int) ∣ h:=by
  by_cases c:(S.natAbs:Int)<=9007199254740992*2^k
  . rw [nr_self (fl_of d c) n]; exact d
  . have hT:Fl (9007199254740992*2^k):=fl_of ⟨9007199254740992,by rw [Int.mul_comm]⟩ (by have:=p2 k; omega)
    have h1:=n.2 _ hT
    obtain ⟨j,dj,bj⟩:=n.1
    have hk:=p2 k
    have hj:=p2 j
    have:(2:Int)^k<2^j:=by omega
    exact Int.dvd_trans (p2dvd (Nat.le_of_lt (p2lt this))) dj
theorem nr_dvd {S h:Int} {k:Nat} (n:Nr S h) (d:(2^k:Int) ∣ S):(2^k:Int) ∣ h:=by
  rcases Int.le_total 0 S with c | c
  . exact nr_dvd_pos n d c
  . have:=nr_dvd_pos n.neg ((Int.dvd_neg).2 d) (by omega)
    exact (Int.dvd_neg).1 this
theorem err_sum {a b h:Int} (ha:Fl a) (hb:Fl b) (n:Nr (a+b) h):Fl (a+b-h):=by
  have e1:=n.2 a ha
  have e2:=n.2 b hb
  obtain ⟨j,da,ba⟩:=ha
  obtain ⟨k,db,bb⟩:=hb
  rcases Nat.le_total j k with c | c
  . have d:=Int.dvd_add da (Int.dvd_trans (p2dvd c) db)
    exact ⟨j,Int.dvd_sub d (nr_dvd n d),by omega⟩
  . have d:=Int.dvd_add (Int.dvd_trans (p2dvd c) da) db
    exact ⟨k,Int.dvd_sub d (nr_dvd n d),by omega⟩
theorem back_pos {a b h:Int} (ha:Fl a) (hb:Fl b) (h0:0<=a) (hab:b.natAbs<=a.natAbs) (n:Nr (a+b) h):Fl (h-a):=by
  have ea:=n.2 a ha
  have e2:=n.2 (2*a) ha.dbl
  have ez:=n.2 0 fl_zero
  by_cases hs:a<=2*h
  . exact fl_sub n.1 ha (by omega) (by omega)
  . have hS:Fl (a+b):=by
      obtain ⟨k,⟨c,hc⟩,ba⟩:=ha
      cases k with
      | zero=>exact ⟨0,⟨a+b,by simp⟩,by simp at ba ⊢; omega⟩
      | succ k=>
        have hf:Fl (2^k*c):=⟨k,⟨c,rfl⟩,by rw [p2s] at ba hc; rw [Int.mul_assoc] at hc; omega⟩
        have e3:=n.2 _ hf
        rw [p2s,Int.mul_assoc] at hc
        exact fl_add ⟨k+1,⟨c,by rw [p2s,Int.mul_assoc]; exact hc⟩,ba⟩ hb (by omega) (by omega)
    rw [nr_self hS n,show a+b-a=b by omega]
    exact hb
theorem back {a b h:Int} (ha:Fl a) (hb:Fl b) (hab:b.natAbs<=a.natAbs) (n:Nr (a+b) h):Fl (h-a):=by
  rcases Int.le_total 0 a with c | c
  . exact back_pos ha hb c hab n
  . have n2:=n.neg
    rw [show -(a+b)=-a + -b by omega] at n2
    have:=(back_pos ha.neg hb.neg (by omega) (by omega) n2).neg
    rwa [show -(-h - -a)=h-a by omega] at this
theorem binade (S:Int) (h0:0<=S):∃ k:Nat,S<9007199254740992*2^k∧(k=0∨4503599627370496*2^k<=S):=by
  have ex:∀ n:Nat,S<9007199254740992*2^n->∃ k:Nat,S<9007199254740992*2^k∧(k=0∨4503599627370496*2^k<=S):=by
    intro n
    induction n with
    | zero=>intro h; exact ⟨0,h,.inl rfl⟩
    | succ n ih=>
      intro h
      by_cases c:S<9007199254740992*2^n
      . exact ih c
      . exact ⟨n+1,h,.inr (by rw [p2s]; omega)⟩
  refine ex S.natAbs ?_
  have h1:S.natAbs<2^S.natAbs:=Nat.lt_two_pow_self
  have h2:((2^S.natAbs:Nat):Int)=2^S.natAbs:=by simp
  have h3:=p2 S.natAbs
  omega
theorem nr_rel_pos {S h:Int} (n:Nr S h) (h0:0<=S):1000*(h-S).natAbs<=S.natAbs:=by
  obtain ⟨k,b,c⟩:=binade S h0
  have hk:=p2 k
  have hm:=Int.emod_nonneg S (show (2:Int)^k≠0 by omega)
  have hl:=Int.emod_lt_of_pos S hk
  have hf:Fl (S-S % 2^k):=by
    refine fl_of (k:=k) ⟨S/2^k,by have:=Int.emod_add_mul_ediv S (2^k); omega⟩ ?_
    have:0<=S-S % 2^k:=by
      have:=Int.emod_add_mul_ediv S (2^k)
      have h2:0<=2^k*(S/2^k):=Int.mul_nonneg (by omega) (Int.ediv_nonneg h0 (by omega))
      omega
    omega
  have e:=n.2 _ hf
  rcases c with c | c
  . subst c
    have:S % 2^0=0:=by simp
    omega
  . omega
theorem nr_rel {S h:Int} (n:Nr S h):1000*(h-S).natAbs<=S.natAbs:=by
  rcases Int.le_total 0 S with c | c
  . exact nr_rel_pos n c
  . have:=nr_rel_pos n.neg (by omega)
    omega
theorem two_sum {a b h v u p q l:Int} (ha:Fl a) (hb:Fl b) (nh:Nr (a+b) h) (nv:Nr (h-a) v) (nu:Nr (h-v) u) (np:Nr (a-u) p) (nq:Nr (b-v) q) (nl:Nr (p+q) l):l=a+b-h:=by
  have hd:=err_sum ha hb nh
  -- the step back,where it is exact
  have A:Fl (h-a)->l=a+b-h:=by
    intro hx
    have e1:=nr_self hx nv
    subst e1
    rw [show h-(h-a)=a by omega] at nu
    have e2:=nr_self ha nu
    subst e2
    rw [show u-u=0 by omega] at np
    have e3:=nr_self fl_zero np
    subst e3
    rw [show b-(h-u)=u+b-h by omega] at nq
    have e4:=nr_self hd nq
    subst e4
    rw [show 0+(u+b-h)=u+b-h by omega] at nl
    exact nr_self hd nl
  by_cases hab:b.natAbs<=a.natAbs
  . exact A (back ha hb hab nh)
  by_cases hha:a.natAbs<=h.natAbs
  . -- h-v is exact
    have n1:Nr (h + -a) v:=by rw [show h + -a=h-a by omega]; exact nv
    have hx:=(back nh.1 ha.neg (by omega) n1).neg
    rw [show -(v-h)=h-v by omega] at hx
    have e1:=nr_self hx nu
    subst e1
    have hy:=(err_sum nh.1 ha.neg n1).neg
    rw [show -(h + -a-v)=a-(h-v) by omega] at hy
    have e2:=nr_self hy np
    subst e2
    have r1:=nr_rel nh
    have r2:=nv.2 b hb
    have hz:Fl (b-v):=fl_sub hb nv.1 (by omega) (by omega)
    have e3:=nr_self hz nq
    subst e3
    rw [show a-(h-v)+(b-v)=a+b-h by omega] at nl
    exact nr_self hd nl
  . -- then the sum is exact
    have e1:=nh.2 a ha
    have e2:=nh.2 (-a) ha.neg
    have hS:Fl (a+b):=fl_add ha hb (by omega) (by omega)
    have e3:=nr_self hS nh
    exact A (by rw [e3,show a+b-a=b by omega]; exact hb)
theorem nr_ge {S h T:Int} (n:Nr S h) (hT:Fl T) (c:T<=S):T<=h:=by
  have:=n.2 T hT
  omega
theorem fl_p2 (i:Nat) {m:Nat} (hm:(m:Int)<=9007199254740992):Fl ((m:Int)*2^i):=by
  refine fl_of (k:=i) ⟨m,by rw [Int.mul_comm]⟩ ?_
  have h1:0<=(m:Int)*2^i:=Int.mul_nonneg (by omega) (Int.le_of_lt (p2 i))
  have h2:(m:Int)*2^i<=9007199254740992*2^i:=Int.mul_le_mul_of_nonneg_right hm (Int.le_of_lt (p2 i))
  omega
theorem fl_units {h:Int} {i:Nat} (f:Fl h) (c:4503599627370496*2^i<=(h.natAbs:Int)):(2^i:Int) ∣ h:=by
  obtain ⟨j,d,b⟩:=f
  have hi:=p2 i
  have hj:=p2 j
  cases i with
  | zero=>exact ⟨h,by simp⟩
  | succ i=>
    rw [p2s] at c
    have:(2:Int)^i<2^j:=by omega
    exact Int.dvd_trans (p2dvd (p2lt this)) d
theorem near_mult (S:Int) (i:Nat):∃ T:Int,(2^i:Int) ∣ T∧2*(T-S).natAbs<=(2^i:Int):=by
  have hi:=p2 i
  have hm:=Int.emod_nonneg S (show (2:Int)^i≠0 by omega)
  have hl:=Int.emod_lt_of_pos S hi
  have e:=Int.emod_add_mul_ediv S (2^i)
  generalize S % 2^i=t at *
  by_cases c:2*t<=2^i
  . exact ⟨S-t,⟨S/2^i,by omega⟩,by omega⟩
  . exact ⟨S-t+2^i,⟨S/2^i+1,by rw [Int.mul_add,Int.mul_one]; omega⟩,by omega⟩
theorem nr_err {S h:Int} {i:Nat} (n:Nr S h) (c:(S.natAbs:Int)<=9007199254740992*2^i):2*((h-S).natAbs:Int)<=2^i:=by
  obtain ⟨T,d,e⟩:=near_mult S i
  have hi:=p2 i
  have hT:Fl T:=by
    by_cases c2:(T.natAbs:Int)<=9007199254740992*2^i
    . exact fl_of d c2
    . exfalso
      obtain ⟨t,rfl⟩:=d
      have h1:(9007199254740992:Int)<t.natAbs:=by
        rw [Int.natAbs_mul] at c2
        have e2:((2^i:Int).natAbs:Int)=2^i:=by omega
        push_cast at c2
        rcases Int.lt_or_le 9007199254740992 (t.natAbs:Int) with g | g
        . exact g
        . exfalso
          have:=Int.mul_le_mul_of_nonneg_left g (Int.le_of_lt hi)
          rw [e2] at c2
          omega
      have h2:(2^i:Int)*9007199254740993<=((2^i*t).natAbs:Int):=by
        rw [Int.natAbs_mul]
        have e2:((2^i:Int).natAbs:Int)=2^i:=by omega
        rw [Int.natCast_mul,e2]
        exact Int.mul_le_mul_of_nonneg_left (by omega) (Int.le_of_lt hi)
      generalize 2^i*t=T at *
      omega
  have:=n.2 T hT
  omega
structure Spl (a h:Int) (j:Nat):Prop where
  up:(134217728*2^j:Int) ∣ h
  lo:(2^j:Int) ∣ a-h
  top:(h.natAbs:Int)<=9007199254740992*2^j
  low:((a-h).natAbs:Int)<=67108864*2^j
theorem Spl.neg {a h:Int} {j:Nat} (s:Spl a h j):Spl (-a) (-h) j :=
  ⟨(Int.dvd_neg).2 s.up,by rw [show -a - -h=-(a-h) by omega]; exact (Int.dvd_neg).2 s.lo,by rw [Int.natAbs_neg]; exact s.top,by rw [show -a - -h=-(a-h) by omega,Int.natAbs_neg]; exact s.low⟩
theorem natAbs_p2 (i:Nat) (t:Int):((2^i*t).natAbs:Int)=2^i*(t.natAbs:Int):=by
  have hi:=p2 i
  rw [Int.natAbs_mul,Int.natCast_mul,show ((2^i:Int).natAbs:Int)=2^i by omega]
theorem Fl.down {i:Nat} {t:Int} (h:Fl (2^i*t)):Fl t:=by
  obtain ⟨k,d,b⟩:=h
  rw [natAbs_p2] at b
  rcases Nat.le_total i k with c | c
  . obtain ⟨e,rfl⟩:∃ e,k=i+e:=⟨k-i,by omega⟩
    rw [Int.pow_add] at d b
    refine ⟨e,Int.dvd_of_mul_dvd_mul_left (by have:=p2 i; omega) d,?_⟩
    have e2:(9007199254740992:Int)*(2^i*2^e)=2^i*(9007199254740992*2^e):=by rw [<- Int.mul_assoc,<- Int.mul_assoc,Int.mul_comm _ (2^i)]
    rw [e2] at b
    exact Int.lt_of_mul_lt_mul_left b (Int.le_of_lt (p2 i))
  . refine ⟨0,⟨t,by simp⟩,?_⟩
    have h1:(9007199254740992:Int)*2^k<=2^i*9007199254740992:=by rw [Int.mul_comm]; exact Int.mul_le_mul_of_nonneg_right (p2le c) (by decide)
    have h2:=Int.lt_of_mul_lt_mul_left (Int.lt_of_lt_of_le b h1) (Int.le_of_lt (p2 i))
    simpa using h2
theorem Fl.up {t:Int} (h:Fl t) (i:Nat):Fl (2^i*t):=by
  obtain ⟨k,⟨c,rfl⟩,b⟩:=h
  refine ⟨i+k,⟨c,by rw [Int.pow_add,Int.mul_assoc]⟩,?_⟩
  rw [natAbs_p2,Int.pow_add]
  have e2:(9007199254740992:Int)*(2^i*2^k)=2^i*(9007199254740992*2^k):=by rw [<- Int.mul_assoc,<- Int.mul_assoc,Int.mul_comm _ (2^i)]
  rw [e2]
  exact Int.mul_lt_mul_of_pos_left b (p2 i)
theorem abs_mul_le {x y:Int} {X Y:Int} (hx:(x.natAbs:Int)<=X) (hy:(y.natAbs:Int)<=Y):((x*y).natAbs:Int)<=X*Y:=by
  rw [Int.natAbs_mul,Int.natCast_mul]
  exact Int.mul_le_mul hx hy (by omega) (by omega)
end Go.Proofs.YtjjihmnbdeeedaaGreatDoor.M
namespace Go.Proofs.YtjjihmnbdeeedaaGreatDoor
open Go Go.RowKit Go.Proofs.YtjjihmnbdeeedaaGreatDoor.M Ieee
def iV (p:Int):Int:=sg (decide (p<0)) (V Ieee.double (rg p).toNat:Int)
theorem patV_iV {p:Int} (hp:rng p) (h:pok p=true):patV p=iV p*pw (-1074):=by
  rw [patV_dec hp h]; unfold iV vS; rw [sg_prod]
theorem nat_two (n k:Nat):((n*2^k:Nat):Int)=2^k*(n:Int):=by rw [Int.natCast_mul,Int.mul_comm]; simp
theorem k_ne {S q:Int} (hq:0<q) (h:S≠0):S*q≠0:=fun c=>by
  rcases Int.mul_eq_zero.1 c with d | d <;> omega
theorem k_neg {S q:Int} (hq:0<q):decide (S*q<0)=decide (S<0):=by
  congr 1
  exact propext (lt_zero_iff hq).symm
theorem k_abs {S q A:Int} (hq:0<q) (h:S*q=sg (decide (S<0)) A):A=(S.natAbs:Int)*q:=by
  have:=natAbs_sg (t:=S) hq
  rw [this] at h
  exact (sg_inj h).symm
theorem k_back {S h:Int} (n:Nr (S.natAbs:Int) h):Nr S (sg (decide (S<0)) h):=by
  by_cases c:S<0
  . rw [decide_eq_true c]
    have n2:=n.neg
    have e:-(S.natAbs:Int)=S:=by omega
    rw [e] at n2
    exact n2
  . rw [decide_eq_false c]
    have e:(S.natAbs:Int)=S:=by omega
    rw [e] at n
    exact n
theorem fl_V (r:Nat):Fl (V Ieee.double r:Int):=by
  unfold V
  rw [dBin]
  by_cases h:r<4503599627370496
  . rw [if_pos h]
    exact ⟨0,⟨r,by simp⟩,by simp; omega⟩
  . rw [if_neg h]
    have hm:=Nat.mod_lt r (show 0<4503599627370496 by decide)
    obtain ⟨n,hn⟩:∃ n,4503599627370496+r % 4503599627370496=n:=⟨_,rfl⟩
    rw [hn]
    refine ⟨r/4503599627370496-1,⟨n,nat_two _ _⟩,?_⟩
    rw [Int.natAbs_natCast,nat_two,Int.mul_comm]
    exact Int.mul_lt_mul_of_pos_right (by omega) (p2 _)
theorem V_fl {f:Int} (h:Fl f):∃ r:Nat,(f.natAbs:Int)=(V Ieee.double r:Int):=by
  obtain ⟨k,b,c⟩:=binade (f.natAbs:Int) (by omega)
  rcases Nat.eq_zero_or_pos k with g | g
  . subst g
    have:=V_parts Ieee.double 0 f.natAbs (.inl ⟨rfl,by rw [dBin]; simp at b; omega⟩)
    exact ⟨_,by rw [this]; simp⟩
  . have c2:4503599627370496*2^k<=(f.natAbs:Int):=by
      rcases c with c | c
      . omega
      . exact c
    obtain ⟨t,ht⟩:=fl_units h c2
    have e:(f.natAbs:Int)=2^k*(t.natAbs:Int):=by rw [ht,natAbs_p2]
    rw [e] at b c2
    have hk:=p2 k
    have b2:(t.natAbs:Int)<9007199254740992:=Int.lt_of_mul_lt_mul_left (by rw [Int.mul_comm (2^k) 9007199254740992]; exact b) (Int.le_of_lt hk)
    have c3:4503599627370496<=(t.natAbs:Int):=Int.le_of_mul_le_mul_left (by rw [Int.mul_comm (2^k) 4503599627370496]; exact c2) hk
    have:=V_parts Ieee.double k t.natAbs (.inr ⟨by rw [dBin]; omega,by rw [dBin]; omega⟩)
    exact ⟨_,by rw [this,e]; push_cast; rw [Int.mul_comm]⟩
theorem V_le {r s:Nat} (h:r<=s):(V Ieee.double r:Int)<=V Ieee.double s:=by
  rcases Nat.lt_or_eq_of_le h with g | g
  . have:=V_lt Ieee.double g; omega
  . rw [g]; omega
theorem nr_V {S:Int} {ng:Bool} {r0:Nat} {left:Int} (h0:0<=S) (hR:Rung (S*pw (-1074)) r0 left) (hf:rTo 0 ng r0 left<9218868437227405312):Nr S (V Ieee.double (rTo 0 ng r0 left).toNat:Int):=by
  obtain ⟨lo,hi,l0,l1,l2,l3⟩:=hR
  have hq:=pw_pos (-1074)
  unfold vS at *
  generalize pw (-1074)=q at *
  have g1:(V Ieee.double r0:Int)<=S:=Int.le_of_mul_le_mul_right lo hq
  have g2:S<(V Ieee.double (r0+1):Int):=Int.lt_of_mul_lt_mul_right hi (Int.le_of_lt hq)
  have g3:left=2->2*S=(V Ieee.double r0:Int)+V Ieee.double (r0+1):=fun c=>by
    have:=l2.1 c
    rw [<- Int.add_mul,<- Int.mul_assoc] at this
    exact Int.eq_of_mul_eq_mul_right (by omega) this
  have g4:left=3->(V Ieee.double r0:Int)+V Ieee.double (r0+1)<2*S:=fun c=>by
    have:=l3.1 c
    rw [<- Int.add_mul,<- Int.mul_assoc] at this
    exact Int.lt_of_mul_lt_mul_right this (Int.le_of_lt hq)
  have g5:left≠3->2*S<=(V Ieee.double r0:Int)+V Ieee.double (r0+1):=fun c=>by
    rcases Int.lt_or_le ((V Ieee.double r0:Int)+V Ieee.double (r0+1)) (2*S) with d | d
    . have:=Int.mul_lt_mul_of_pos_right d hq
      rw [Int.add_mul,Int.mul_assoc] at this
      exact absurd (l3.2 this) c
    . exact d
  clear l0 l1 l2 l3 lo hi
  have far:∀ f:Int,Fl f->f<=V Ieee.double r0∨V Ieee.double (r0+1)<=f:=by
    intro f hf
    obtain ⟨s,hs⟩:=V_fl hf
    rcases Nat.lt_or_ge r0 s with c | c
    . have:=V_le (show r0+1<=s from c)
      have:=V_le (show 0<=r0 by omega)
      omega
    . have:=V_le c
      omega
  unfold rTo at hf ⊢
  by_cases hr:(r0:Int)<9218868437227405312
  . rw [if_pos hr] at hf ⊢
    cases hu:rUp 0 ng (decide (r0 % 2=1)) left
    . rw [if_neg (by decide)]
      have e:((r0:Int)+0).toNat=r0:=by omega
      rw [e]
      have hl:left≠3:=fun c=>by
        subst c
        unfold rUp at hu
        simp at hu
      refine ⟨fl_V r0,fun f hf=>?_⟩
      have:=far f hf
      have:=g5 hl
      omega
    . rw [if_pos rfl]
      have e:((r0:Int)+1).toNat=r0+1:=by omega
      rw [e]
      have hl:left=3∨left=2:=by
        unfold rUp at hu
        simp at hu
        rcases hu with c | c
        . exact .inl c
        . exact .inr c.1
      refine ⟨fl_V (r0+1),fun f hf=>?_⟩
      have:=far f hf
      rcases hl with c | c
      . have:=g4 c; omega
      . have:=g3 c; omega
  . rw [if_neg hr] at hf
    unfold bRung rUp at hf
    simp at hf
def maxV:Int:=(V Ieee.double 9218868437227405311:Int)
theorem fin_V {S:Int} {ng:Bool} {r0:Nat} {left:Int} (h0:S<=maxV) (hR:Rung (S*pw (-1074)) r0 left):rTo 0 ng r0 left<9218868437227405312:=by
  obtain ⟨lo,hi,l0,l1,l2,l3⟩:=hR
  have hq:=pw_pos (-1074)
  unfold vS at *
  generalize pw (-1074)=q at *
  have g1:(V Ieee.double r0:Int)<=S:=Int.le_of_mul_le_mul_right lo hq
  have hr:r0<=9218868437227405311:=by
    rcases Nat.lt_or_ge 9218868437227405311 r0 with c | c
    . have:=V_lt Ieee.double c
      unfold maxV at h0
      omega
    . exact c
  unfold rTo
  rw [if_pos (by omega)]
  by_cases c:r0=9218868437227405311
  . have e:S=(V Ieee.double r0:Int):=by rw [c] at g1 ⊢; unfold maxV at h0; omega
    have:left=0:=l0.2 (by rw [e])
    subst this
    rw [if_neg (fun c=>rUp_left c)]
    omega
  . split <;> omega
theorem patS_parts {ng:Bool} {r:Int} (h0:0<=r) (h1:r<=9218868437227405312):rng (patS ng r)∧rg (patS ng r)=r∧decide (patS ng r<0)=ng:=by
  unfold patS rng rg
  cases ng
  . simp only [Bool.false_eq_true,if_false]
    rw [if_neg (by omega)]
    exact ⟨by omega,rfl,decide_eq_false (by omega)⟩
  . simp only [if_true]
    rw [if_pos (by omega)]
    exact ⟨by omega,by omega,decide_eq_true (by omega)⟩
theorem patS_fin {ng:Bool} {r:Int} (h0:0<=r) (h1:r<=9218868437227405312):pok (patS ng r)=decide (r<9218868437227405312):=by
  obtain ⟨a,b,_⟩:=patS_parts (ng:=ng) h0 h1
  have:=pok_rg a
  rw [b] at this
  cases h:pok (patS ng r)
  . refine (decide_eq_false fun c=>?_).symm
    rw [this.2 c] at h; cases h
  . exact (decide_eq_true (this.1 h)).symm
theorem iV_patS {ng:Bool} {r:Int} (h0:0<=r) (h1:r<=9218868437227405312):iV (patS ng r)=sg ng (V Ieee.double r.toNat:Int):=by
  obtain ⟨_,b,c⟩:=patS_parts (ng:=ng) h0 h1
  unfold iV
  rw [b,c]
theorem nr_zero:Nr 0 0:=⟨fl_zero,fun f _=>by omega⟩
theorem near_iV {S:Int} (h:S≠0):rng (nearP (S*pw (-1074)))∧(pok (nearP (S*pw (-1074)))=true->Nr S (iV (nearP (S*pw (-1074)))))∧((S.natAbs:Int)<=maxV->pok (nearP (S*pw (-1074)))=true):=by
  have hq:=pw_pos (-1074)
  obtain ⟨A,r0,left,e1,hR,e2⟩:=nearP_rung (k_ne hq h)
  rw [k_neg hq] at e1 e2
  have hA:=k_abs hq e1
  rw [hA] at hR
  have hrr:=rTo_range 0 (decide (S<0)) r0 left
  rw [e2]
  refine ⟨(patS_parts hrr.1 hrr.2).1,fun hp=>?_,fun hb=>?_⟩
  . rw [patS_fin hrr.1 hrr.2] at hp
    have n:=nr_V (ng:=decide (S<0)) (Int.natCast_nonneg _) hR (of_decide_eq_true hp)
    rw [iV_patS hrr.1 hrr.2]
    exact k_back n
  . rw [patS_fin hrr.1 hrr.2]
    exact decide_eq_true (fin_V hb hR)
theorem nan_rng:rng 9221120237041090561:=by unfold rng; decide
theorem nan_no:pok 9221120237041090561=false:=by decide
theorem pok_of {p:Int} (hp:rng p) (h4:¬ cls p=4) (hi:¬ rg p=9218868437227405312):pok p=true:=by
  have:=(cls_rg hp).1
  rw [pok_rg hp]
  have:¬ 9218868437227405312<rg p:=fun c=>h4 (this.2 c)
  omega
theorem inf_no {p:Int} (hp:rng p) (hi:rg p=9218868437227405312):¬ pok p=true:=fun h=>by
  have:=(pok_rg hp).1 h
  omega
theorem fin_cls {p:Int} (hp:rng p) (h:pok p=true):¬ cls p=4∧¬ rg p=9218868437227405312:=by
  have h1:=(pok_rg hp).1 h
  exact ⟨fun c=>by have:=(cls_rg hp).1.1 c; omega,by omega⟩
theorem fsum_args {p q:Int} (hp:rng p) (hq:rng q) (h:pok (fsum p q)=true):pok p=true∧pok q=true:=by
  unfold fsum at h
  by_cases c4:cls p=4∨cls q=4
  . rw [if_pos c4,nan_no] at h; cases h
  rw [if_neg c4] at h
  by_cases ci:rg p=9218868437227405312
  . rw [if_pos ci] at h
    by_cases cj:rg q=9218868437227405312∧decide (p<0)≠decide (q<0)
    . rw [if_pos cj,nan_no] at h; cases h
    . rw [if_neg cj] at h; exact absurd h (inf_no hp ci)
  rw [if_neg ci] at h
  by_cases cj:rg q=9218868437227405312
  . rw [if_pos cj] at h; exact absurd h (inf_no hq cj)
  exact ⟨pok_of hp (fun c=>c4 (.inl c)) ci,pok_of hq (fun c=>c4 (.inr c)) cj⟩
theorem zero_facts (g:Bool):rng (patS g 0)∧pok (patS g 0)=true∧iV (patS g 0)=0:=by
  refine ⟨(patS_parts (by decide) (by decide)).1,?_,?_⟩
  . rw [patS_fin (by decide) (by decide)]; decide
  . rw [iV_patS (by decide) (by decide)]
    show sg g (V Ieee.double 0:Int)=0
    rw [V_zero]
    exact sg_zero g
structure EStp (S p:Int):Prop where
  rn:rng p
  nr:pok p=true->Nr S (iV p)
  fin:(S.natAbs:Int)<=maxV->pok p=true
theorem stp_zero (g:Bool):EStp 0 (patS g 0):=by
  obtain ⟨a,b,c⟩:=zero_facts g
  exact ⟨a,fun _=>by rw [c]; exact nr_zero,fun _=>b⟩
theorem stp_near {S:Int} (h:S≠0):EStp S (nearP (S*pw (-1074))):=by
  obtain ⟨a,b,c⟩:=near_iV h
  exact ⟨a,b,c⟩
theorem k_fs {a b T u Z k w:Int} (hz:0<Z) (e2:w*w=u*Z) (e3:w=u*k) (hT:k*T=a*b):a*w*(b*w)/Z=T*w:=by
  have e1:a*w*(b*w)=a*b*(w*w):=by
    rw [Int.mul_assoc,Int.mul_assoc]; congr 1; rw [<- Int.mul_assoc,<- Int.mul_assoc,Int.mul_comm w b]
  rw [e1,e2,<- hT]
  have:k*T*(u*Z)=T*w*Z:=by
    rw [e3,Int.mul_comm k T,Int.mul_assoc,Int.mul_assoc,<- Int.mul_assoc k u Z,Int.mul_comm k u]
  rw [this]
  exact Int.mul_ediv_cancel _ (by omega)
theorem k_zero {T w:Int} (g:Bool) (hw:0<w) (d:sg g (T*w)=0):T=0:=by
  have:=sg_eq_zero d
  rcases Int.mul_eq_zero.1 this with g | g <;> omega
theorem k_zero0 {T w:Int} (hw:0<w) (d:T*w=0):T=0:=by
  rcases Int.mul_eq_zero.1 d with g | g <;> omega
theorem k_sgz {T w:Int} (g:Bool) (h:T=0):sg g (T*w)=0:=by rw [h,Int.zero_mul]; exact sg_zero g
theorem k_sgsg (g:Bool) (A:Int):sg g (sg g A)=A:=by cases g <;> simp [sg]
theorem stp_sum {p q:Int} (hp:rng p) (hq:rng q) (pp:pok p=true) (pq:pok q=true):EStp (iV p+iV q) (fsum p q):=by
  obtain ⟨a1,a2⟩:=fin_cls hp pp
  obtain ⟨b1,b2⟩:=fin_cls hq pq
  have e:fsum p q=if iV p+iV q=0 then patS (decide (p<0) && decide (q<0)) 0 else nearP ((iV p+iV q)*pw (-1074)):=by
    unfold fsum
    rw [if_neg (fun c=>c.elim a1 b1),if_neg a2,if_neg b2,patV_iV hp pp,patV_iV hq pq,<- Int.add_mul]
    have hq:=pw_pos (-1074)
    by_cases c:iV p+iV q=0
    . rw [if_pos c,if_pos (by rw [c,Int.zero_mul])]
    . rw [if_neg c,if_neg (fun d=>c (k_zero0 hq d))]
  rw [e]
  by_cases c:iV p+iV q=0
  . rw [if_pos c,c]; exact stp_zero _
  . rw [if_neg c]; exact stp_near c
theorem stp_prod {p q T:Int} (hp:rng p) (hq:rng q) (pp:pok p=true) (pq:pok q=true) (hT:2^1074*T=iV p*iV q):EStp T (fprod p q):=by
  obtain ⟨a1,a2⟩:=fin_cls hp pp
  obtain ⟨b1,b2⟩:=fin_cls hq pq
  have hw:=pw_pos (-1074)
  have hs:patV p*patV q/2^4194304=T*pw (-1074):=by
    rw [patV_iV hp pp,patV_iV hq pq]
    have e2:=pw_mul (a:=-1074) (b:=-1074) (by decide) (by decide)
    rw [show (-1074 + -1074:Int)=-2148 by decide] at e2
    have e3:=pw_add (e:=-2148) (by decide) 1074
    rw [show (-2148+((1074:Nat):Int))=-1074 by decide] at e3
    exact k_fs (two_pos 4194304) e2 e3 hT
  have e:fprod p q=if T=0 then patS (xsg p q) 0 else nearP (T*pw (-1074)):=by
    unfold fprod fsize
    rw [if_neg (fun c=>c.elim a1 b1),if_neg (fun c=>c.elim a2 b2),hs]
    by_cases c:T=0
    . rw [if_pos c,if_pos (k_sgz _ c)]
    . rw [if_neg c,if_neg (fun d=>c (k_zero _ hw d)),k_sgsg]
  rw [e]
  by_cases c:T=0
  . rw [if_pos c,c]; exact stp_zero _
  . rw [if_neg c]; exact stp_near c
theorem neg_facts {q:Int} (hq:rng q) (h:pok q=true):rng (neg q)∧pok (neg q)=true∧iV (neg q)=-iV q:=by
  obtain ⟨b1,b2⟩:=fin_cls hq h
  have h1:=(pok_rg hq).1 h
  have e:neg q=patS (!decide (q<0)) (rg q):=by
    unfold neg patS rg
    rw [if_neg b1]
    by_cases c:q<0
    . rw [if_pos c,if_pos c,decide_eq_true c]; rfl
    . rw [if_neg c,if_neg c,decide_eq_false c]; rfl
  have h0:0<=rg q:=by unfold rg; unfold rng at hq; split <;> omega
  obtain ⟨c1,c2,c3⟩:=patS_parts (ng:=!decide (q<0)) h0 (by omega)
  refine ⟨by rw [e]; exact c1,by rw [e,patS_fin h0 (by omega)]; exact decide_eq_true h1,?_⟩
  rw [e,iV_patS h0 (by omega)]
  unfold iV
  rw [sg_not]
theorem neg_arg {q:Int} (hq:rng q) (h:pok (neg q)=true):pok q=true:=by
  unfold neg at h
  by_cases c:cls q=4
  . rw [if_pos c,nan_no] at h; cases h
  . by_cases ci:rg q=9218868437227405312
    . exfalso
      rw [if_neg c] at h
      have hr:rng (if q<0 then q+9223372036854775808 else q-9223372036854775808):=by unfold rng at *; split <;> omega
      have:=(pok_rg hr).1 h
      unfold rg at this ci
      split at this <;> split at ci <;> split at this <;> omega
    . exact pok_of hq c ci
theorem neg_rng {q:Int} (hq:rng q):rng (neg q):=by
  unfold neg rng at *
  split
  . omega
  . split <;> omega
theorem stp_diff {p q:Int} (hp:rng p) (hq:rng q) (pp:pok p=true) (pq:pok q=true):EStp (iV p-iV q) (fsum p (neg q)):=by
  obtain ⟨a,b,c⟩:=neg_facts hq pq
  have:=stp_sum hp a pp b
  rw [c] at this
  exact this
theorem fdiff_args {p q:Int} (hp:rng p) (hq:rng q) (h:pok (fsum p (neg q))=true):pok p=true∧pok q=true:=by
  obtain ⟨a,b⟩:=fsum_args hp (neg_rng hq) h
  exact ⟨a,neg_arg hq b⟩
theorem fsum_rng {p q:Int} (hp:rng p) (hq:rng q):rng (fsum p q):=by
  by_cases h:pok p=true∧pok q=true
  . exact (stp_sum hp hq h.1 h.2).rn
  . unfold fsum
    by_cases c4:cls p=4∨cls q=4
    . rw [if_pos c4]; exact nan_rng
    rw [if_neg c4]
    by_cases ci:rg p=9218868437227405312
    . rw [if_pos ci]; split
      . exact nan_rng
      . exact hp
    rw [if_neg ci]
    by_cases cj:rg q=9218868437227405312
    . rw [if_pos cj]; exact hq
    exact absurd ⟨pok_of hp (fun c=>c4 (.inl c)) ci,pok_of hq (fun c=>c4 (.inr c)) cj⟩ h
theorem fprod_rng {p q:Int} (hp:rng p) (hq:rng q):rng (fprod p q):=by
  unfold fprod
  split
  . exact nan_rng
  . split
    . split
      . exact nan_rng
      . exact (patS_parts (by decide) (by decide)).1
    . split
      . exact (patS_parts (by decide) (by decide)).1
      . rename_i h
        exact (nearP_pat (fun c=>h (sg_eq_zero c))).1
def sV (p q:Int):Int:=fsum (fsum p q) (neg p)
def sL (p q:Int):Int:=fsum (fsum p (neg (fsum (fsum p q) (neg (sV p q))))) (fsum q (neg (sV p q)))
def fL (p q:Int):Int:=fsum q (neg (fsum (fsum p q) (neg p)))
def cC (p:Int):Int:=fprod 4728779608772575232 p
def spH (p:Int):Int:=fsum (cC p) (neg (fsum (cC p) (neg p)))
def spL (p:Int):Int:=fsum p (neg (spH p))
def pT1 (a b:Int):Int:=fsum (fprod a b) (neg (fprod (spH a) (spH b)))
def pT2 (a b:Int):Int:=fsum (pT1 a b) (neg (fprod (spL a) (spH b)))
def pT3 (a b:Int):Int:=fsum (pT2 a b) (neg (fprod (spH a) (spL b)))
def prL (a b:Int):Int:=fsum (fprod (spL a) (spL b)) (neg (pT3 a b))
end Go.Proofs.YtjjihmnbdeeedaaGreatDoor
/-
  Mathematics of whole numbers: a float's whole units,ints as floats,the order of floats in the model.
-/
namespace Go.Proofs.YtjjihmnbdeeedaaGreatDoor.M
open Go Ieee
theorem left_u {A q:Int} {u v:Nat} {l k:Int} (h:Left A u q l) (g:Left A v q k):¬ u<v:=fun c=>by
  have h1:=h.hi
  have h2:=g.lo
  have hq:0<q:=by have:=h.lo; omega
  have h3:((u:Int)+1)*q<=(v:Int)*q:=Int.mul_le_mul_of_nonneg_right (by omega) (by omega)
  rw [Int.add_mul,Int.one_mul] at h3
  omega
theorem Left.unique {A q:Int} {u v:Nat} {l k:Int} (h:Left A u q l) (g:Left A v q k):u=v∧l=k:=by
  have e:u=v:=by
    have h1:=left_u h g
    have h2:=left_u g h
    omega
  subst e
  refine ⟨rfl,?_⟩
  have lo:=h.lo
  have hi:=h.hi
  obtain ⟨T,hT⟩:∃ T,(u:Int)*q=T:=⟨_,rfl⟩
  rw [hT] at lo hi
  have a0:=h.l0
  have a1:=h.l1
  have a2:=h.l2
  have a3:=h.l3
  have b0:=g.l0
  have b1:=g.l1
  have b2:=g.l2
  have b3:=g.l3
  rw [hT] at a0 a1 a2 a3 b0 b1 b2 b3
  by_cases c0:A=T
  . rw [a0.2 c0,b0.2 c0]
  . by_cases c1:2*A<2*T+q
    . rw [a1.2 ⟨by omega,c1⟩,b1.2 ⟨by omega,c1⟩]
    . by_cases c2:2*A=2*T+q
      . rw [a2.2 c2,b2.2 c2]
      . rw [a3.2 (by omega),b3.2 (by omega)]
end Go.Proofs.YtjjihmnbdeeedaaGreatDoor.M
namespace Go.Proofs.YtjjihmnbdeeedaaGreatDoor
open Go Go.RowKit Go.Proofs.YtjjihmnbdeeedaaGreatDoor.M Ieee
end Go.Proofs.YtjjihmnbdeeedaaGreatDoor
namespace Go.Proofs.YtjjihmnbdeeedaaGreatDoor
open Go Go.RowKit Go.Proofs.YtjjihmnbdeeedaaGreatDoor.M Ieee
theorem FW.rng {p:Int} {x:Nat} (h:FW p x):M.rng p:=by
  rcases h with ⟨_,h,_⟩ | ⟨rfl,_⟩
  . exact h
  . exact nan_rng
theorem fl_iV (p:Int):Fl (iV p):=by
  unfold iV
  cases decide (p<0)
  . exact fl_V _
  . exact (fl_V _).neg
theorem iV_abs (p:Int):((iV p).natAbs:Int)=(V Ieee.double (rg p).toNat:Int):=by
  unfold iV sg
  cases decide (p<0)
  . simp
  . simp
theorem sL_exact {p q:Int} (hp:rng p) (hq:rng q) (h:pok (sL p q)=true):(pok p=true∧pok q=true)∧pok (fsum p q)=true∧iV (fsum p q)+iV (sL p q)=iV p+iV q:=by
  have rh:=fsum_rng hp hq
  have rv:rng (sV p q):=fsum_rng rh (neg_rng hp)
  have rU:=fsum_rng rh (neg_rng rv)
  have rX:=fsum_rng hp (neg_rng rU)
  have rY:=fsum_rng hq (neg_rng rv)
  obtain ⟨pX,pY⟩:=fsum_args rX rY h
  obtain ⟨pp,pU⟩:=fdiff_args hp rU pX
  obtain ⟨pq,pv⟩:=fdiff_args hq rv pY
  obtain ⟨ph,_⟩:=fdiff_args rh hp pv
  have e:=two_sum (fl_iV p) (fl_iV q) ((stp_sum hp hq pp pq).nr ph) ((stp_diff rh hp ph pp).nr pv) ((stp_diff rh rv ph pv).nr pU) ((stp_diff hp rU pp pU).nr pX) ((stp_diff hq rv pq pv).nr pY) ((stp_sum rX rY pX pY).nr h)
  exact ⟨⟨pp,pq⟩,ph,by unfold sL; omega⟩
def fX (p q:Int):Bool:=pok (fL p q) && (!decide ((iV p).natAbs<(iV q).natAbs) || decide (iV (fL p q)=iV (fL q p)))
end Go.Proofs.YtjjihmnbdeeedaaGreatDoor
/-
  Package eft: math.Abs,FastTwoSum,reachable,TwoProd,by their contracts.
-/
namespace Go.Proofs.YtjjihmnbdeeedaaGreatDoor
open Go Go.RowKit Go.Proofs.YtjjihmnbdeeedaaGreatDoor.M Ieee
theorem FW.fin {p:Int} {x:Nat} (h:FW p x) (g:pok p=true):x=wd p:=by
  rcases h with ⟨_,_,h⟩ | ⟨rfl,_⟩
  . exact h
  . rw [nan_no] at g; cases g
end Go.Proofs.YtjjihmnbdeeedaaGreatDoor
namespace Go.Proofs.YtjjihmnbdeeedaaGreatDoor
open Go Go.RowKit Go.Proofs.YtjjihmnbdeeedaaGreatDoor.M Ieee
def reach (a b:Int):Bool:=decide (pmag a=0) || decide (pmag b=0) || decide (-1074<=pexp a+jz (pmag a)+pexp b+jz (pmag b))
end Go.Proofs.YtjjihmnbdeeedaaGreatDoor
namespace Go.Proofs.YtjjihmnbdeeedaaGreatDoor
open Go Go.RowKit Go.Proofs.YtjjihmnbdeeedaaGreatDoor.M Ieee
def pX (p q:Int):Bool:=pok (prL p q) && reach p q
theorem iV_form {p:Int} (hp:rng p) (h:pok p=true):((iV p).natAbs:Int)=pmag p*2^(pexp p+1074).toNat:=by
  have h0:=(pmag_in h).1
  rw [iV_abs,V_rg hp h,nat_two,Int.toNat_of_nonneg h0,Int.mul_comm]
end Go.Proofs.YtjjihmnbdeeedaaGreatDoor
namespace Go.Proofs.YtjjihmnbdeeedaaGreatDoor
open Go Go.RowKit Go.Proofs.YtjjihmnbdeeedaaGreatDoor.M
end Go.Proofs.YtjjihmnbdeeedaaGreatDoor
namespace Go.Proofs.YtjjihmnbdeeedaaGreatDoor
open Go Go.RowKit Go.Proofs.YtjjihmnbdeeedaaGreatDoor.M Ieee
theorem hold6_of {W : World} (h : laidMetH Tryz.prog [("math/bits.deBruijn32tab", Rows.laid_math_bits_deBruijn32tab), ("math/bits.deBruijn64tab", Rows.laid_math_bits_deBruijn64tab), ("plumb/bits.binary64", Rows.laid_plumb_bits_binary64)] W) : Hold4 W := by
  have k:=hold_of h
  exact ⟨k.lay,k.tab,⟨⟨k.lay.a0,k.lay.a1,k.lay.a2,trivial,trivial,trivial⟩,k.tab⟩⟩
end Go.Proofs.YtjjihmnbdeeedaaGreatDoor
namespace Go.Proofs.YtjjihmnbdeeedaaGreatDoor
open Go Go.RowKit Go.Proofs.YtjjihmnbdeeedaaGreatDoor.M
theorem dans_past {w w':World} {V:Int} {v:Value} (h:DAns w w' V v) (o:Obj):DAns w (w'.alloc o) V v:=h.stays (bel_alloc _ _)
set_option maxRecDepth 100000 in
set_option maxHeartbeats 2000000 in
theorem oapart_any {p q:Int} (pp:pok p=true) (pq:pok q=true) (w:World) (H:Hold4 w) :
    Calls Tryz.prog 78 #[.int .i64 p,.int .i64 q] w fun r w'=>∃ v,r=.returned v∧DAns w w' (patV p-patV q) v:=by
  have r_k:=heap_a1 w (.cells #[.bool false,.slice none 0 0,.int .i64 0] 40)
  have hb0:=bel_alloc w (.cells #[.bool false,.slice none 0 0,.int .i64 0] 40)
  have B1:=patV_bd pp
  have B2:=patV_bd pq
  go_enter Tryz.func78,Tryz.ntmps78
  go_wp2_with fail
  generalize w.alloc (.cells #[.bool false,.slice none 0 0,.int .i64 0] 40)=x0 at r_k hb0 ⊢
  have H:=H.keeps hb0
  refine (of_ok pp H).mono ?_
  rintro _ y1 ⟨v,rfl,h1⟩
  obtain ⟨x_g,x_o,x_n,x_c,x_e,rfl⟩:=dans_shape h1
  have hw1:=h1.below
  have x_D:=h1.num
  have H:=H.keeps hw1
  have r_k:=(hw1.block _ (Array.getElem?_eq_some_iff.1 r_k).1).trans r_k
  have hb1:=bel_trans hb0 hw1
  have r_k:=heap_past (.cells #[.bool x_g,.slice x_o x_n x_c,.int .i64 x_e] 40) r_k
  have x_k:=heap_a1 y1 (.cells #[.bool x_g,.slice x_o x_n x_c,.int .i64 x_e] 40)
  have x_D:=x_D.keeps (bel_alloc y1 (.cells #[.bool x_g,.slice x_o x_n x_c,.int .i64 x_e] 40))
  have H:=H.keeps (bel_alloc y1 (.cells #[.bool x_g,.slice x_o x_n x_c,.int .i64 x_e] 40))
  have hb2':=bel_trans hb1 (bel_alloc y1 (.cells #[.bool x_g,.slice x_o x_n x_c,.int .i64 x_e] 40))
  go_wp2_with fail
  generalize y1.alloc (.cells #[.bool x_g,.slice x_o x_n x_c,.int .i64 x_e] 40)=x2 at r_k x_k x_D H hb2' ⊢
  refine (of_ok pq H).mono ?_
  rintro _ y2 ⟨v,rfl,h2⟩
  obtain ⟨y_g,y_o,y_n,y_c,y_e,rfl⟩:=dans_shape h2
  have hw2:=h2.below
  have y_D:=h2.num
  have H:=H.keeps hw2
  have r_k:=(hw2.block _ (Array.getElem?_eq_some_iff.1 r_k).1).trans r_k
  have x_k:=(hw2.block _ (Array.getElem?_eq_some_iff.1 x_k).1).trans x_k
  have x_D:=x_D.keeps hw2
  have hb2:=bel_trans hb2' hw2
  have r_k:=heap_past (.cells #[.bool y_g,.slice y_o y_n y_c,.int .i64 y_e] 40) r_k
  have x_k:=heap_past (.cells #[.bool y_g,.slice y_o y_n y_c,.int .i64 y_e] 40) x_k
  have y_k:=heap_a1 y2 (.cells #[.bool y_g,.slice y_o y_n y_c,.int .i64 y_e] 40)
  have x_D:=x_D.keeps (bel_alloc y2 (.cells #[.bool y_g,.slice y_o y_n y_c,.int .i64 y_e] 40))
  have y_D:=y_D.keeps (bel_alloc y2 (.cells #[.bool y_g,.slice y_o y_n y_c,.int .i64 y_e] 40))
  have H:=H.keeps (bel_alloc y2 (.cells #[.bool y_g,.slice y_o y_n y_c,.int .i64 y_e] 40))
  have hb3':=bel_trans hb2 (bel_alloc y2 (.cells #[.bool y_g,.slice y_o y_n y_c,.int .i64 y_e] 40))
  have f_x0:=blkC x_k 0 rfl
  have f_x1:=blkC x_k 1 rfl
  have f_x2:=blkC x_k 2 rfl
  go_wp2_with fail
  clear f_x0 f_x1 f_x2
  generalize y2.alloc (.cells #[.bool y_g,.slice y_o y_n y_c,.int .i64 y_e] 40)=x3 at r_k x_k y_k x_D y_D H hb3' ⊢
  have hs0:=(Array.getElem?_eq_some_iff.1 r_k).1
  refine (sub_B x_D y_D B1 B2 (by omega) H.tab).mono ?_
  rintro _ y3 ⟨v,rfl,h3⟩
  obtain ⟨n_g,n_o,n_n,n_c,n_e,rfl⟩:=dans_shape h3
  have hw3:=h3.below
  have n_D:=h3.num
  have H:=H.keeps hw3
  have r_k:=(hw3.block _ (Array.getElem?_eq_some_iff.1 r_k).1).trans r_k
  have x_k:=(hw3.block _ (Array.getElem?_eq_some_iff.1 x_k).1).trans x_k
  have x_D:=x_D.keeps hw3
  have y_k:=(hw3.block _ (Array.getElem?_eq_some_iff.1 y_k).1).trans y_k
  have y_D:=y_D.keeps hw3
  have hb3:=bel_trans hb3' hw3
  have r_k:=heap_past (.cells #[.bool n_g,.slice n_o n_n n_c,.int .i64 n_e] 40) r_k
  have k0:=blkC r_k 0 rfl
  have k1:=blkC r_k 1 rfl
  have k2:=blkC r_k 2 rfl
  have z0:=blkF r_k 0
  have z1:=blkF r_k 1
  have z2:=blkF r_k 2
  go_wp2
  refine bodyPost_ret (v:=.agg #[.bool n_g,.slice n_o n_n n_c,.int .i64 n_e]) (by simp [results,Tryz.results78,go_sem,k0,k1,k2]) rfl ⟨_,rfl,?_⟩
  exact dans_res3 (g:=w.heap.size) (dans_past h3 _) (by assumption) (Nat.le_refl _) hs0 _ _ _
end Go.Proofs.YtjjihmnbdeeedaaGreatDoor
namespace Go.Proofs.YtjjihmnbdeeedaaGreatDoor.M
open Go Ieee
theorem q_rg {b:Int} (h:rng b):rng (rg b)∧0<=rg b:=by unfold rng rg at *; split <;> omega
theorem q_cls {b:Int} (h:rng b):cls (rg b)=cls b:=by
  unfold rng at h; unfold cls rg fld frc
  by_cases h0:b<0
  . rw [if_pos h0,show (b+9223372036854775808)/4503599627370496 % 2048=b/4503599627370496 % 2048 from by omega,show (b+9223372036854775808) % 4503599627370496=b % 4503599627370496 from by omega]
  . rw [if_neg h0]
theorem q_wd {b:Int} (h:rng b):wd b % 9223372036854775808=wd (rg b):=by unfold rng rg wd at *; split <;> omega
theorem q_key {b:Int} (h:0<=b):key b=b:=by unfold key; rw [if_neg (by omega)]
theorem q_wdlt (b:Int):wd b<18446744073709551616:=by unfold wd; omega
theorem q_abs {b:Int} (h:rng b):(bits .andNot .u64 (wd b) 9223372036854775808).toNat=wd (rg b):=by
  have e:=q_wd h
  have l:=q_wdlt b
  rw [<- e]
  show (IntKind.u64.wrap (((BitVec.ofInt 64 (wd b:Int) &&& ~~~ BitVec.ofInt 64 9223372036854775808).toNat:Nat):Int)).toNat=_
  rw [BitVec.toNat_and,BitVec.toNat_not,ofInt64_toNat,ofInt64_toNat,show (2^64-1-((9223372036854775808:Int) % 18446744073709551616).toNat)=2^63-1 from by decide,Nat.and_two_pow_sub_one_eq_mod,IntKind.wrap_u64]
  omega
theorem q_fin {b:Int} (h:pok b=true):¬ cls b=4:=by
  have:=pparts h
  unfold cls; rw [if_neg this]; split
  . split <;> omega
  . omega
theorem q_lt {a b:Int} (ha:rng a) (hb:rng b) (h1:¬ cls a=4) (h2:¬ cls b=4) (h:key a<key b):FloatKind.f64.format.order (wd a) (wd b)=some .lt:=by rw [order64 ha hb h1 h2,compare_lt h]
theorem q_gt {a b:Int} (ha:rng a) (hb:rng b) (h1:¬ cls a=4) (h2:¬ cls b=4) (h:key b<key a):FloatKind.f64.format.order (wd a) (wd b)=some .gt:=by rw [order64 ha hb h1 h2,compare_gt h]
theorem q_eq {a b:Int} (ha:rng a) (hb:rng b) (h1:¬ cls a=4) (h2:¬ cls b=4) (h:key a=key b):FloatKind.f64.format.order (wd a) (wd b)=some .eq:=by rw [order64 ha hb h1 h2,compare_eq h]
def tame (b:Int):Bool:=decide (rg b=0) || (decide (3931642474694443008<=rg b) && decide (rg b<5282722362905591808))
theorem tame_fld {b:Int} (h:rng b):tame b=(decide (rg b=0) || (decide (873<=fld b) && decide (fld b<1173))):=by
  obtain ⟨h0,h1⟩:=rg_parts h
  have h2:0<=frc b∧frc b<4503599627370496:=by unfold frc; omega
  unfold tame
  congr 1
  congr 1
  . apply decide_eq_decide.2; omega
  . apply decide_eq_decide.2; omega
theorem pok_rg' {b:Int} (h:rng b):pok b=decide (rg b<=9218868437227405311):=by
  obtain ⟨h0,h1⟩:=rg_parts h
  have h2:0<=frc b∧frc b<4503599627370496:=by unfold frc; omega
  have h3:0<=fld b∧fld b<2048:=by unfold fld; omega
  unfold pok
  by_cases e:fld b=2047
  . simp [e]; omega
  . simp [e]; omega
end Go.Proofs.YtjjihmnbdeeedaaGreatDoor.M
