/- Parts of the proof. -/
import Derived.Test.YtjjihmnbdeeedaaGreatDoorKn4
import Derived.Test.YtjjihmnbdeeedaaGreatDoorKn1
import Derived.Laws.FloatArith
import Derived.Test.YtjjihmnbdeeedaaGreatDoorKn3
set_option maxRecDepth 100000
set_option maxHeartbeats 40000000
set_option linter.unusedVariables false
set_option linter.unusedSimpArgs false
namespace Go.Proofs.YtjjihmnbdeeedaaGreatDoor
open Go Go.RowKit Go.Proofs.YtjjihmnbdeeedaaGreatDoor.M
def RdOf (V:Int) (ng:Bool) (f:Int->Int × Bool):Prop:=∃ (A:Int) (r0:Nat) (left:Int),V=sg ng A∧(ng=true->0<A)∧Rung A r0 left∧∀ way,f way=(patS (ng && decide (0<rTo way ng r0 left)) (rTo way ng r0 left),decide (left≠0) || decide (9218868437227405312<=(r0:Int)))
theorem rung_zero_aux {a b:Int} (h0:a=0) (h1:a<b):(0:Int)<b∧(((0:Int)=0 ↔ (0:Int)=a)∧((0:Int)=1 ↔ a<0∧2*0<a+b)∧((0:Int)=2 ↔ 2*0=a+b)∧((0:Int)=3 ↔ a+b<2*0)):=by
 subst h0
 exact ⟨h1,by omega,by omega,by omega,by omega⟩
theorem rung_zero:Rung 0 0 0:=by
 have h1:=vS_lt (show 0<0+1 by decide)
 have h0:=vS_zero
 obtain ⟨q,a,b,c,d⟩:=rung_zero_aux h0 h1
 exact ⟨Int.le_of_eq h0,q,a,b,c,d⟩
theorem rTo_zero (way:Int):rTo way false 0 0=0:=by
 unfold rTo
 rw [if_pos (by decide)]
 cases h:rUp way false (decide (0 % 2=1)) 0
 ·rfl
 ·exact (rUp_left h).elim
theorem val_posA {x:NumR} (ok:okR x=true) (h0:0<x.n):0<val x.d x.n*pw x.e:=by
 obtain ⟨na,_⟩:=okR_sane ok
 exact Int.mul_pos (val_pos na h0) (pw_pos _)
theorem to_rd {x:NumR} (ok:okR x=true):RdOf x.V x.ng (fun way=>toR way x):=by
 by_cases h0:x.n=0
 ·have hz:x.ng=false:=by
   have:=of_decide_eq_true ok
   rcases this with ⟨_,a,b⟩ | ⟨a,_⟩
   ·exact a
   ·omega
  have hv:x.V=0:=by
   have hv:val x.d x.n=0:=by rw [h0]; rfl
   unfold NumR.V
   rw [hv,sg_zero,Int.zero_mul]
  refine ⟨0,0,0,by rw [hv,hz]; rfl,(fun h=>by rw [hz] at h; cases h),rung_zero,fun way=>?_⟩
  rw [hz,rTo_zero]
  exact to_zero ok h0 way
 ·obtain ⟨r0,left,hR,hf⟩:=to_all ok (by omega)
  have hp:=val_posA ok (by omega)
  have hV:x.V=sg x.ng (val x.d x.n*pw x.e):=by
   unfold NumR.V
   exact sg_prod _ _ _
  exact ⟨_,r0,left,hV,(fun _=>hp),hR,hf⟩
theorem ord_neg_iff {a b:Int}:ord a b<0 ↔ a<b:=by
 rcases Int.lt_trichotomy a b with h | h | h
 ·rw [ord_lt h]; exact ⟨fun _=>h,fun _=>by decide⟩
 ·rw [ord_eq h]; exact ⟨fun q=>absurd q (by decide),fun q=>by omega⟩
 ·rw [ord_gt h]; exact ⟨fun q=>absurd q (by decide),fun q=>by omega⟩
theorem ord_pos_iff {a b:Int}:0<ord a b ↔ b<a:=by
 rcases Int.lt_trichotomy a b with h | h | h
 ·rw [ord_lt h]; exact ⟨fun q=>absurd q (by decide),fun q=>by omega⟩
 ·rw [ord_eq h]; exact ⟨fun q=>absurd q (by decide),fun q=>by omega⟩
 ·rw [ord_gt h]; exact ⟨fun _=>h,fun _=>by decide⟩
theorem ord_zero_iff {a b:Int}:ord a b=0 ↔ a=b:=by
 rcases Int.lt_trichotomy a b with h | h | h
 ·rw [ord_lt h]; exact ⟨fun q=>absurd q (by decide),fun q=>by omega⟩
 ·rw [ord_eq h]; exact ⟨fun _=>h,fun _=>rfl⟩
 ·rw [ord_gt h]; exact ⟨fun q=>absurd q (by decide),fun q=>by omega⟩
theorem near_pos {A a b left:Int} (l1:left=1 ↔ a<A∧2*A<a+b) (l2:left=2 ↔ 2*A=a+b) (l3:left=3 ↔ a+b<2*A) (lo:a<A) :
  (ord (A-a) (b-A)<0->left=1)∧(0<ord (A-a) (b-A)->left=3)∧(ord (A-a) (b-A)=0->left=2) :=
 ⟨fun h=>l1.2 ⟨lo,by have:=ord_neg_iff.1 h; omega⟩,fun h=>l3.2 (by have:=ord_pos_iff.1 h; omega),fun h=>l2.2 (by have:=ord_zero_iff.1 h; omega)⟩
theorem near_neg {A a b left:Int} (l1:left=1 ↔ a<A∧2*A<a+b) (l2:left=2 ↔ 2*A=a+b) (l3:left=3 ↔ a+b<2*A) (lo:a<A) :
  (ord (-A - -b) (-a - -A)<0->left=3)∧(0<ord (-A - -b) (-a - -A)->left=1)∧(ord (-A - -b) (-a - -A)=0->left=2) :=
 ⟨fun h=>l3.2 (by have:=ord_neg_iff.1 h; omega),fun h=>l1.2 ⟨lo,by have:=ord_pos_iff.1 h; omega⟩,fun h=>l2.2 (by have:=ord_zero_iff.1 h; omega)⟩
theorem near_posS {A a b left:Int} (l1:left=1 ↔ a<A∧2*A<a+b) (l2:left=2 ↔ 2*A=a+b) (l3:left=3 ↔ a+b<2*A) (lo:a<A) :
  (ord (sg false A-sg false a) (sg false b-sg false A)<0->left=1)∧(0<ord (sg false A-sg false a) (sg false b-sg false A)->left=3)∧(ord (sg false A-sg false a) (sg false b-sg false A)=0->left=2):=near_pos l1 l2 l3 lo
theorem near_negS {A a b left:Int} (l1:left=1 ↔ a<A∧2*A<a+b) (l2:left=2 ↔ 2*A=a+b) (l3:left=3 ↔ a+b<2*A) (lo:a<A) :
  (ord (sg true A-sg true b) (sg true a-sg true A)<0->left=3)∧(0<ord (sg true A-sg true b) (sg true a-sg true A)->left=1)∧(ord (sg true A-sg true b) (sg true a-sg true A)=0->left=2):=near_neg l1 l2 l3 lo
theorem rTo0_1 {ng:Bool} {r0:Nat} (h:(r0:Int)<9218868437227405312):rTo 0 ng r0 1=(r0:Int):=by
 unfold rTo
 rw [if_pos h]
 simp [rUp]
theorem rTo0_3 {ng:Bool} {r0:Nat} (h:(r0:Int)<9218868437227405312):rTo 0 ng r0 3=((r0+1:Nat):Int):=by
 unfold rTo
 rw [if_pos h]
 simp [rUp]
theorem rTo0_2 {ng:Bool} {r0:Nat} (h:(r0:Int)<9218868437227405312):rTo 0 ng r0 2 % 2=0:=by
 unfold rTo
 rw [if_pos h]
 by_cases hp:r0 % 2=1
 ·simp [rUp,hp]; omega
 ·simp [rUp,hp]; omega
theorem patS_even {b:Bool} {r:Int} (h:r % 2=0):patS b r % 2=0:=by
 unfold patS
 cases b
 ·exact h
 ·show (r-9223372036854775808) % 2=0; omega
theorem and_pos {ng:Bool} {r:Int} (h:(ng && decide (0<r))=true):0<r:=by
 cases ng
 ·cases h
 ·rw [Bool.true_and] at h; exact of_decide_eq_true h
theorem pat_fin {ng:Bool} {r:Int} (h0:0<=r) (h1:r<=9218868437227405312) (h:pok (patS (ng && decide (0<r)) r)=true):r<9218868437227405312:=by
 rw [patS_pok h0 h1 and_pos] at h
 exact of_decide_eq_true h
theorem patV_rung {ng:Bool} {r:Nat} (h:(r:Int)<9218868437227405312):patV (patS (ng && decide ((0:Int)<(r:Int))) (r:Int))=sg ng (vS r):=by
 rw [patV_patS h (fun q=>by have:=and_pos q; omega)]
 by_cases h0:r=0
 ·subst h0
  rw [vS_zero]
  simp [sg]
 ·have e:(ng && decide ((0:Int)<(r:Int)))=ng:=by rw [decide_eq_true (by omega),Bool.and_true]
  rw [e]
structure Nea (V:Int) (f:Int->Int × Bool):Prop where
 lo:ord (V-patV (f 1).1) (patV (f 2).1-V)<0->(f 0).1=(f 1).1
 hi:0<ord (V-patV (f 1).1) (patV (f 2).1-V)->(f 0).1=(f 2).1
 ev:ord (V-patV (f 1).1) (patV (f 2).1-V)=0->(f 0).1 % 2=0
theorem Nea.of {V:Int} {f:Int->Int × Bool} {d u n p q:Int} {o:Bool} (f1:f 1=(d,o)) (f2:f 2=(u,o)) (f0:f 0=(n,o)) (hd:patV d=p) (hu:patV u=q)
  (lo:ord (V-p) (q-V)<0->n=d) (hi:0<ord (V-p) (q-V)->n=u) (ev:ord (V-p) (q-V)=0->n % 2=0):Nea V f:=by
 subst hd hu
 exact ⟨by rw [f1,f2,f0]; exact lo,by rw [f1,f2,f0]; exact hi,by rw [f1,f2,f0]; exact ev⟩
theorem nearest {V:Int} {ng:Bool} {f:Int->Int × Bool} (h:RdOf V ng f) (o:(f 0).2=true) (pd:pok (f 1).1=true) (pu:pok (f 2).1=true):Nea V f:=by
 obtain ⟨A,r0,left,hV,hA,hR,hf⟩:=h
 have f1:=hf 1
 have f2:=hf 2
 have f0:=hf 0
 rw [f1] at pd
 rw [f2] at pu
 rw [f0] at o
 have g1:=rTo_range 1 ng r0 left
 have g2:=rTo_range 2 ng r0 left
 have q1:=pat_fin g1.1 g1.2 pd
 have q2:=pat_fin g2.1 g2.2 pu
 clear pd pu hf g1 g2
 by_cases hr:(r0:Int)<9218868437227405312
 ·obtain ⟨t1,t2,t3,t0⟩:=rTo_fin (ng:=ng) (left:=left) hr
  have hl:left≠0:=by
   have o':(decide (left≠0) || decide (9218868437227405312<=(r0:Int)))=true:=o
   rw [decide_eq_false (p:=9218868437227405312<=(r0:Int)) (Int.not_le.2 hr),Bool.or_false] at o'
   exact of_decide_eq_true o'
  have hAl:vS r0<A:=by
   rcases Int.lt_or_eq_of_le hR.lo with h | h
   ·exact h
   ·exact absurd (hR.l0.2 h.symm) hl
  have l1:=hR.l1
  have l2:=hR.l2
  have l3:=hR.l3
  clear hR t3 t0 hA
  have V0:=patV_rung (ng:=ng) hr
  cases ng
  ·have e1:rTo 1 false r0 left=(r0:Int):=by rw [t1,if_neg (fun h=>by cases h.2)]
   have e2:rTo 2 false r0 left=((r0+1:Nat):Int):=by rw [t2,if_pos ⟨hl,rfl⟩]
   rw [e1] at f1
   rw [e2] at f2 q2
   have V1:=patV_rung (ng:=false) q2
   obtain ⟨n1,n2,n3⟩:=near_posS l1 l2 l3 hAl
   refine Nea.of f1 f2 f0 V0 V1 ?_ ?_ ?_
   ·intro h
    rw [hV] at h
    have:=n1 h
    subst this
    rw [rTo0_1 hr]
   ·intro h
    rw [hV] at h
    have:=n2 h
    subst this
    rw [rTo0_3 hr]
   ·intro h
    rw [hV] at h
    have:=n3 h
    subst this
    exact patS_even (rTo0_2 hr)
  ·have e1:rTo 1 true r0 left=((r0+1:Nat):Int):=by rw [t1,if_pos ⟨hl,rfl⟩]
   have e2:rTo 2 true r0 left=(r0:Int):=by rw [t2,if_neg (fun h=>by cases h.2)]
   rw [e1] at f1 q1
   rw [e2] at f2
   have V1:=patV_rung (ng:=true) q1
   obtain ⟨n1,n2,n3⟩:=near_negS l1 l2 l3 hAl
   refine Nea.of f1 f2 f0 V1 V0 ?_ ?_ ?_
   ·intro h
    rw [hV] at h
    have:=n1 h
    subst this
    rw [rTo0_3 hr]
   ·intro h
    rw [hV] at h
    have:=n2 h
    subst this
    rw [rTo0_1 hr]
   ·intro h
    rw [hV] at h
    have:=n3 h
    subst this
    exact patS_even (rTo0_2 hr)
 ·exfalso
  obtain ⟨t1,t2,t3,t0⟩:=rTo_inf (ng:=ng) (left:=left) hr
  rw [t1] at q1
  rw [t2] at q2
  clear f1 f2 f0 o hV hA hR
  cases ng
  ·rw [if_neg (by decide)] at q2; omega
  ·rw [if_pos rfl] at q1; omega
end Go.Proofs.YtjjihmnbdeeedaaGreatDoor
namespace Go.Proofs.YtjjihmnbdeeedaaGreatDoor.M
open Go
theorem key_next {b:Int} (hb:rng b) (h4:¬ cls b=4) (hi:¬ b=9218868437227405312):key (next b)=key b+1∧¬ cls (next b)=4∧place b<place (next b)∧¬ next b=-4503599627370496:=by
 have n:=cls4_not h4
 unfold rng at hb
 unfold next
 rw [if_neg h4,if_neg hi]
 by_cases h1:b=-9223372036854775808
 ·subst h1; rw [if_pos rfl]; refine ⟨by decide,by decide,by decide,by decide⟩
 ·rw [if_neg h1]
  by_cases h2:b<0
  ·rw [if_pos h2]
   refine ⟨?_,?_,?_,?_⟩
   ·unfold key; split <;> omega
   ·rw [cls4]; unfold fld frc at *; omega
   ·unfold place; split <;> omega
   ·unfold fld frc at n; omega
  ·rw [if_neg h2]
   refine ⟨?_,?_,?_,?_⟩
   ·unfold key; split <;> omega
   ·rw [cls4]; unfold fld frc at *; omega
   ·unfold place; split <;> omega
   ·unfold fld frc at n; omega
theorem key_neg {b:Int} (hb:rng b) (h4:¬ cls b=4):key (neg b)=- key b∧¬ cls (neg b)=4:=by
 have n:=cls4_not h4
 unfold rng at hb
 unfold neg
 rw [if_neg h4]
 by_cases h2:b<0
 ·rw [if_pos h2]
  refine ⟨?_,?_⟩
  ·unfold key; split <;> omega
  ·rw [cls4]; unfold fld frc at *; omega
 ·rw [if_neg h2]
  refine ⟨?_,?_⟩
  ·unfold key; split <;> omega
  ·rw [cls4]; unfold fld frc at *; omega
theorem key_prev {b:Int} (hb:rng b) (h4:¬ cls b=4) (hi:¬ b=-4503599627370496):key (prev b)=key b-1∧¬ cls (prev b)=4:=by
 obtain ⟨a1,a2⟩:=key_neg hb h4
 have r1:=rng_neg hb
 have hi':¬ neg b=9218868437227405312:=by
  unfold neg; rw [if_neg h4]; unfold rng at hb; split <;> omega
 obtain ⟨c1,c2,_,_⟩:=key_next r1 a2 hi'
 obtain ⟨d1,d2⟩:=key_neg (rng_next r1) c2
 unfold prev
 refine ⟨by omega,d2⟩
theorem next_inf:next 9218868437227405312=9218868437227405312:=by decide
/-! the order of all -/
end Go.Proofs.YtjjihmnbdeeedaaGreatDoor.M
namespace Go.Proofs.YtjjihmnbdeeedaaGreatDoor.M
open Go Ieee
theorem cut_zero (neg:Bool) (n:Nat):Toward.even.cut neg n 0=n:=by
 unfold Toward.cut
 have h1:n % 1=0:=Nat.mod_one n
 simp [h1]
theorem dLeast:Ieee.double.leastPlace=-1074:=by decide
end Go.Proofs.YtjjihmnbdeeedaaGreatDoor.M
namespace Go.Proofs.YtjjihmnbdeeedaaGreatDoor
open Go Go.RowKit Go.Proofs.YtjjihmnbdeeedaaGreatDoor.M Ieee
def lefN (t D:Nat):Int:=if t=0 then 0 else if 2*t<D then 1 else if 2*t=D then 2 else 3
theorem left_nat {mag u t D:Nat} {q:Int} (hq:0<q) (hm:mag=u*D+t) (ht:t<D):M.Left ((mag:Int)*q) u ((D:Int)*q) (lefN t D):=by
 have e:(mag:Int)*q=(u:Int)*((D:Int)*q)+(t:Int)*q:=by
  rw [hm]; push_cast; rw [Int.add_mul,Int.mul_assoc]
 have k1:∀ a b:Nat,a<b->(a:Int)*q<(b:Int)*q:=fun a b h=>Int.mul_lt_mul_of_pos_right (by omega) hq
 have t0:0<=(t:Int)*q:=Int.mul_nonneg (by omega) (Int.le_of_lt hq)
 have t1:=k1 t D ht
 have e2:((2*t:Nat):Int)*q=2*((t:Int)*q):=by push_cast; rw [Int.mul_assoc]
 have z1:2*t<D->2*((t:Int)*q)<(D:Int)*q:=fun h=>by rw [<- e2]; exact k1 _ _ h
 have z2:2*t=D->2*((t:Int)*q)=(D:Int)*q:=fun h=>by rw [<- e2,h]
 have z3:D<2*t->(D:Int)*q<2*((t:Int)*q):=fun h=>by rw [<- e2]; exact k1 _ _ h
 have z4:0<t->0<(t:Int)*q:=fun h=>Int.mul_pos (by omega) hq
 have z5:t=0->(t:Int)*q=0:=fun h=>by rw [h]; simp
 obtain ⟨U,hU⟩:∃ U,(u:Int)*((D:Int)*q)=U:=⟨_,rfl⟩
 rw [e,hU]
 generalize (t:Int)*q=T at *
 generalize (D:Int)*q=R at *
 unfold lefN
 by_cases c0:t=0
 ·rw [if_pos c0]
  have:=z5 c0
  exact M.Left.mk' hU (by omega) (by omega) (by constructor <;> intro h <;> omega) (by constructor <;> intro h <;> omega) (by constructor <;> intro h <;> omega) (by constructor <;> intro h <;> omega)
 ·have:=z4 (by omega)
  rw [if_neg c0]
  by_cases c1:2*t<D
  ·rw [if_pos c1]
   have:=z1 c1
   exact M.Left.mk' hU (by omega) (by omega) (by constructor <;> intro h <;> omega) (by constructor <;> intro h <;> omega) (by constructor <;> intro h <;> omega) (by constructor <;> intro h <;> omega)
  ·rw [if_neg c1]
   by_cases c2:2*t=D
   ·rw [if_pos c2]
    have:=z2 c2
    exact M.Left.mk' hU (by omega) (by omega) (by constructor <;> intro h <;> omega) (by constructor <;> intro h <;> omega) (by constructor <;> intro h <;> omega) (by constructor <;> intro h <;> omega)
   ·rw [if_neg c2]
    have:=z3 (by omega)
    exact M.Left.mk' hU (by omega) (by omega) (by constructor <;> intro h <;> omega) (by constructor <;> intro h <;> omega) (by constructor <;> intro h <;> omega) (by constructor <;> intro h <;> omega)
theorem up_lef (neg odd:Bool) (t D:Nat) (ht:t<D):rUp 0 neg odd (lefN t D)=(decide (D<2*t) || (decide (D=2*t) && odd)):=by
 unfold rUp lefN
 rw [if_pos rfl]
 by_cases c0:t=0
 ·rw [if_pos c0,decide_eq_false (p:=D<2*t) (by omega),decide_eq_false (p:=D=2*t) (by omega)]
  simp
 ·rw [if_neg c0]
  by_cases c1:2*t<D
  ·rw [if_pos c1,decide_eq_false (p:=D<2*t) (by omega),decide_eq_false (p:=D=2*t) (by omega)]
   simp
  ·rw [if_neg c1]
   by_cases c2:2*t=D
   ·rw [if_pos c2,decide_eq_false (p:=D<2*t) (by omega),decide_eq_true (p:=D=2*t) (by omega)]
    simp
   ·rw [if_neg c2,decide_eq_true (p:=D<2*t) (by omega)]
    simp
theorem cut_even (neg:Bool) (n d:Nat) (hn:n≠0):Toward.even.cut neg n d=n/2^d+(if rUp 0 neg (decide (n/2^d % 2=1)) (lefN (n % 2^d) (2^d)) then 1 else 0):=by
 have h2:n<2^(n.log2+1):=Nat.lt_log2_self
 have hD:=Nat.two_pow_pos d
 rw [up_lef _ _ _ _ (Nat.mod_lt _ hD)]
 unfold Toward.cut
 dsimp only
 by_cases h:d<=n.log2+2
 ·rw [Nat.min_eq_left h,Nat.shiftLeft_eq,Nat.one_mul]
  congr 1
  have e1:(2^d == 2*(n % 2^d))=decide (2^d=2*(n % 2^d)):=rfl
  have e2:(n/2^d % 2 == 1)=decide (n/2^d % 2=1):=rfl
  rw [e1,e2]
  cases (decide (2^d<2*(n % 2^d)) || decide (2^d=2*(n % 2^d)) && decide (n/2^d % 2=1)) <;> rfl
 ·rw [Nat.min_eq_right (by omega),Nat.shiftLeft_eq,Nat.one_mul]
  have h3:2^(n.log2+2)=2*2^(n.log2+1):=by rw [Nat.pow_succ,Nat.mul_comm]
  have h4:2^(n.log2+2)<=2^d:=Nat.pow_le_pow_right (by decide) (by omega)
  have q1:n/2^(n.log2+2)=0:=Nat.div_eq_of_lt (by omega)
  have q2:n % 2^(n.log2+2)=n:=Nat.mod_eq_of_lt (by omega)
  have q3:n/2^d=0:=Nat.div_eq_of_lt (by omega)
  have q4:n % 2^d=n:=Nat.mod_eq_of_lt (by omega)
  rw [q1,q2,q3,q4,decide_eq_false (p:=2^d<2*n) (by omega),decide_eq_false (p:=2^d=2*n) (by omega),decide_eq_false (p:=2^(n.log2+2)<2*n) (by omega)]
  have e1:(2^(n.log2+2) == 2*n)=decide (2^(n.log2+2)=2*n):=rfl
  rw [e1,decide_eq_false (p:=2^(n.log2+2)=2*n) (by omega)]
  rfl
theorem dLeast:Ieee.double.leastPlace=-1074:=by decide
theorem dFrac:Ieee.double.fractionBits=52:=by decide
theorem dBin:Ieee.double.binade=4503599627370496:=by decide
def lastP (mag:Nat) (place:Int):Int:=max (place+(mag.log2:Int)-52) (-1074)
theorem nearest_word (neg:Bool) {mag:Nat} (place:Int) (h:mag≠0):Ieee.double.nearest neg mag place=Ieee.double.word neg (min ((lastP mag place+1074).toNat*4503599627370496+Toward.even.cut neg (mag*2^(place-lastP mag place).toNat) (lastP mag place-place).toNat) 9218868437227405312):=by
 unfold Format.nearest
 rw [if_neg h,dLeast,dFrac,dBin,dInf]
 dsimp only
 rw [Nat.shiftLeft_eq,show (lastP mag place+1074)=(lastP mag place - -1074) by omega]
 rfl
theorem minInf {r:Nat} {up:Bool} {neg:Bool} {left:Int} (hup:rUp 0 neg (decide (r % 2=1)) left=up):((min (r+(if up=true then 1 else 0)) 9218868437227405312:Nat):Int)=rTo 0 neg r left:=by
 unfold rTo
 rw [hup]
 by_cases h:(r:Int)<9218868437227405312
 ·rw [if_pos h]
  cases up
  ·simp only [Bool.false_eq_true,if_false]; omega
  ·simp only [if_true]; omega
 ·rw [if_neg h]
  have hb:bRung 0 neg=9218868437227405312:=by cases neg <;> rfl
  rw [hb]
  split <;> omega
theorem odd_rung (a u:Nat):decide ((a*4503599627370496+u) % 2=1)=decide (u % 2=1):=by congr 1; apply propext; omega
theorem nearest_rung (neg:Bool) {mag:Nat} {place:Int} (h:mag≠0) (hp:-4194304<=place) :
  ∃ (r0:Nat) (left:Int),Rung ((mag:Int)*pw place) r0 left∧Ieee.double.nearest neg mag place=Ieee.double.word neg (rTo 0 neg r0 left).toNat:=by
 rw [nearest_word neg place h]
 have h1:=Nat.log2_self_le h
 have h2:mag<2^(mag.log2+1):=Nat.lt_log2_self
 have hL:lastP mag place=max (place+(mag.log2:Int)-52) (-1074):=rfl
 obtain ⟨l,hl⟩:∃ l,lastP mag place=l:=⟨_,rfl⟩
 rw [hl] at hL ⊢
 have hl0:-1074<=l:=by omega
 have hl1:place+(mag.log2:Int)-52<=l:=by omega
 have hl2:-1074<l->l=place+(mag.log2:Int)-52:=by omega
 obtain ⟨a,ha⟩:∃ a:Nat,(l+1074).toNat=a:=⟨_,rfl⟩
 have hal:l=-1074+(a:Int):=by omega
 have e52:(2:Nat)^52=4503599627370496:=by decide
 have e53:(2:Nat)^53=9007199254740992:=by decide
 rw [ha]
 -- u units of 2^l and what is left
 have main:∃ (u:Nat) (left:Int),M.Left ((mag:Int)*pw place) u (pw l) left∧Toward.even.cut neg (mag*2^(place-l).toNat) (l-place).toNat=u+(if rUp 0 neg (decide (u % 2=1)) left then 1 else 0)∧u<9007199254740992∧(0<a->4503599627370496<=u):=by
  by_cases hs:l<=place
  ·obtain ⟨k,hk⟩:∃ k:Nat,(place-l).toNat=k:=⟨_,rfl⟩
   have hpl:place=l+(k:Int):=by omega
   rw [hk,show (l-place).toNat=0 by omega,cut_zero]
   refine ⟨mag*2^k,0,?_,?_,?_,?_⟩
   ·have e:(mag:Int)*pw place=((mag*2^k:Nat):Int)*pw l:=by
     rw [hpl,pw_add (by omega),Int.mul_comm (pw l)]
     push_cast
     rw [Int.mul_assoc]
    have:=left_nat (mag:=mag*2^k) (u:=mag*2^k) (t:=0) (D:=1) (pw_pos l) (by omega) (by decide)
    rw [e]
    have e1:((1:Nat):Int)*pw l=pw l:=by rw [Int.natCast_one,Int.one_mul]
    rw [e1] at this
    exact this
   ·have:rUp 0 neg (decide (mag*2^k % 2=1)) 0=false:=by
     cases hu:rUp 0 neg (decide (mag*2^k % 2=1)) 0
     ·rfl
     ·exact (rUp_left hu).elim
    rw [this]
    rfl
   ·have b1:mag*2^k<2^(mag.log2+1)*2^k:=Nat.mul_lt_mul_of_pos_right h2 (Nat.two_pow_pos _)
    rw [<- Nat.pow_add] at b1
    have b2:2^(mag.log2+1+k)<=2^53:=Nat.pow_le_pow_right (by decide) (by omega)
    omega
   ·intro h0
    have b1:2^mag.log2*2^k<=mag*2^k:=Nat.mul_le_mul_right _ h1
    rw [<- Nat.pow_add] at b1
    have b2:2^52<=2^(mag.log2+k):=Nat.pow_le_pow_right (by decide) (by have:=hl2 (by omega); omega)
    omega
  ·obtain ⟨k,hk⟩:∃ k:Nat,(l-place).toNat=k:=⟨_,rfl⟩
   have hpl:l=place+(k:Int):=by omega
   rw [hk,show (place-l).toNat=0 by omega,Nat.pow_zero,Nat.mul_one,cut_even neg mag k h]
   have hD:=Nat.two_pow_pos k
   have hdm:=Nat.div_add_mod mag (2^k)
   have hml:=Nat.mod_lt mag hD
   refine ⟨mag/2^k,lefN (mag % 2^k) (2^k),?_,rfl,?_,?_⟩
   ·have:=left_nat (mag:=mag) (u:=mag/2^k) (t:=mag % 2^k) (D:=2^k) (pw_pos place) (by rw [Nat.mul_comm]; exact hdm.symm) hml
    have e:pw l=((2^k:Nat):Int)*pw place:=by
     rw [hpl,pw_add hp,Int.mul_comm]
     push_cast
     rfl
    rw [e]
    exact this
   ·rw [Nat.div_lt_iff_lt_mul hD,<- e53,<- Nat.pow_add]
    exact Nat.lt_of_lt_of_le h2 (Nat.pow_le_pow_right (by decide) (by omega))
   ·intro h0
    rw [Nat.le_div_iff_mul_le hD,<- e52,<- Nat.pow_add]
    exact Nat.le_trans (Nat.pow_le_pow_right (by decide) (by have:=hl2 (by omega); omega)) h1
 obtain ⟨u,left,hLeft,hcut,hu1,hu2⟩:=main
 rw [hcut]
 have hV:=V_rung Ieee.double a u (by rw [dBin]; omega) (fun q=>by rw [dBin]; exact hu2 q)
 rw [dBin] at hV
 have hpw:pw l=2^a*pw (-1074):=by rw [hal,pw_add (by decide),Int.mul_comm]
 rw [hpw] at hLeft
 refine ⟨a*4503599627370496+u,left,left_rung hLeft hV.1 hV.2,?_⟩
 have hm:=minInf (r:=a*4503599627370496+u) (neg:=neg) (left:=left) rfl
 rw [odd_rung] at hm
 rw [<- hm,Int.toNat_natCast,Nat.add_assoc]
end Go.Proofs.YtjjihmnbdeeedaaGreatDoor
namespace Go.Proofs.YtjjihmnbdeeedaaGreatDoor
open Go Go.RowKit Go.Proofs.YtjjihmnbdeeedaaGreatDoor.M
theorem patV_bd {b:Int} (h:pok b=true):Bd 4000 (patV b):=by
 obtain ⟨i0,i1,i2,i3⟩:=pmag_in h
 have h30:(9007199254740992:Int)<=P 30:=by unfold P; decide
 exact bd_num i0 (Int.lt_of_lt_of_le (by omega) h30) (by omega) (by omega)
theorem Bd.sub {B:Nat} {V W:Int} (h:Bd B V) (k:Bd B W) (hB:B<4194304):Bd (B+1) (V-W):=by
 rw [Int.sub_eq_add_neg]
 exact h.add k.neg hB
theorem of_ok {b:Int} {w:World} (h:pok b=true) (H:Hold4 w):Calls Tryz.prog 150 #[.int .i64 b] w fun r w'=>∃ v,r=.returned (.tuple #[v,.int .i64 0])∧DAns w w' (patV b) v:=by
 refine (dof_any b w H.lay H.tab).mono ?_
 rintro _ w' ⟨v,er,rfl,hb,(⟨_,rfl,hD⟩ | ⟨h',_⟩)⟩
 ·exact ⟨v,rfl,hD⟩
 ·rw [h] at h'; cases h'
theorem of_no {b:Int} {w:World} (h:pok b=false) (H:Hold4 w):Calls Tryz.prog 150 #[.int .i64 b] w fun r w'=>r=.returned (.tuple #[.agg #[.bool false,.slice none 0 0,.int .i64 0],.int .i64 10])∧Below w.heap.size w w':=by
 refine (dof_any b w H.lay H.tab).mono ?_
 rintro _ w' ⟨v,er,rfl,hb,(⟨h',_⟩ | ⟨_,rfl,rfl⟩)⟩
 ·rw [h] at h'; cases h'
 ·exact ⟨rfl,hb⟩
theorem cls_pat {s:Bool} {r:Int} (h0:0<=r) (h1:r<=9218868437227405312) (h:s=true->0<r):cls (patS s r)≠4:=by
 obtain ⟨a,b,_⟩:=patS_facts h0 h1 h
 intro q
 have:=(cls_rg a).1.1 q
 omega
theorem key_pat {s:Bool} {r:Int} (h0:0<=r) (h1:r<=9218868437227405312) (h:s=true->0<r):key (patS s r)=sg s r:=by
 unfold key patS sg
 cases s
 ·simp only [Bool.false_eq_true,if_false]
  rw [if_neg (by omega)]
 ·have:=h rfl
  simp only [if_true]
  rw [if_pos (by omega)]
  omega
theorem rg_neg {b:Int} (hb:rng b) (h:cls b≠4):rg (neg b)=rg b∧key (neg b)=-key b:=by
 unfold rng at hb
 unfold neg
 rw [if_neg h]
 unfold rg key
 by_cases h0:b<0
 ·rw [if_pos h0,if_neg (by omega),if_pos h0,if_neg (by omega),if_pos h0]; omega
 ·rw [if_neg h0,if_pos (by omega),if_neg h0,if_pos (by omega),if_neg h0]; omega
theorem cls_neg {b:Int} (hb:rng b) (h:cls b≠4):cls (neg b)≠4:=by
 intro q
 have h1:=(cls_rg (rng_neg hb)).1.1 q
 rw [(rg_neg hb h).1] at h1
 exact h ((cls_rg hb).1.2 h1)
theorem less_not {a b:Int} (h:key b<=key a):less a b=false:=by
 unfold less
 rw [decide_eq_false (p:=key a<key b) (by omega),Bool.and_false,Bool.and_false]
theorem rUp_mono {way:Int} {ng odd:Bool} {A B a b l k:Int} (h0:l=0 ↔ A=a) (h2:l=2 ↔ 2*A=a+b) (h3:l=3 ↔ a+b<2*A) (g0:k=0 ↔ B=a) (g2:k=2 ↔ 2*B=a+b) (g3:k=3 ↔ a+b<2*B) (lo:a<=A) (AB:A<=B)
  (h:rUp way ng odd l=true):rUp way ng odd k=true:=by
 have nz:l≠0->k≠0:=fun q e=>by
  have e1:=g0.1 e
  exact q (h0.2 (by omega))
 unfold rUp at *
 split at h
 ·rename_i e
  rw [if_pos e]
  simp only [Bool.or_eq_true,Bool.and_eq_true,decide_eq_true_eq] at *
  rcases h with h | ⟨h,ho⟩
  ·left; exact g3.2 (by have:=h3.1 h; omega)
  ·have e2:=h2.1 h
   by_cases e3:2*B=a+b
   ·right; exact ⟨g2.2 e3,ho⟩
   ·left; exact g3.2 (by omega)
 ·rename_i e
  rw [if_neg e]
  split at h
  ·rename_i e2
   rw [if_pos e2]
   simp only [Bool.and_eq_true,decide_eq_true_eq] at *
   exact ⟨nz h.1,h.2⟩
  ·rename_i e2
   rw [if_neg e2]
   split at h
   ·rename_i e3
    rw [if_pos e3]
    simp only [Bool.and_eq_true,decide_eq_true_eq] at *
    exact ⟨nz h.1,h.2⟩
   ·cases h
theorem rung_le {A B:Int} {r s:Nat} {l k:Int} (h:Rung A r l) (g:Rung B s k) (AB:A<=B):r<=s:=by
 rcases Nat.lt_or_ge s r with q | q
 ·exfalso
  have h1:=h.lo
  have g1:=g.hi
  have e:vS (s+1)<=vS r:=by
   rcases Nat.lt_or_eq_of_le (show s+1<=r from q) with q2 | q2
   ·exact Int.le_of_lt (vS_lt q2)
   ·rw [q2]; exact Int.le_refl _
  exact absurd (Int.lt_of_lt_of_le g1 (Int.le_trans e (Int.le_trans h1 AB))) (Int.lt_irrefl _)
 ·exact q
theorem rTo_mono {way:Int} {ng:Bool} {A B:Int} {r s:Nat} {l k:Int} (h:Rung A r l) (g:Rung B s k) (AB:A<=B):rTo way ng r l<=rTo way ng s k:=by
 have hrs:=rung_le h g AB
 rcases Nat.lt_or_eq_of_le hrs with q | q
 ·clear h g
  unfold rTo
  by_cases hs:(s:Int)<9218868437227405312
  ·rw [if_pos hs,if_pos (by omega)]
   split <;> split <;> omega
  ·rw [if_neg hs]
   by_cases hr:(r:Int)<9218868437227405312
   ·rw [if_pos hr]
    unfold bRung
    cases hu:rUp way ng (decide (r % 2=1)) l
    ·simp only [Bool.false_eq_true,if_false]
     split <;> omega
    ·rw [if_pos rfl,if_pos (rUp_more hu)]
     omega
   ·rw [if_neg hr]
    exact Int.le_refl _
 ·subst q
  have lo:=h.lo
  have h0:=h.l0
  have h2:=h.l2
  have h3:=h.l3
  have g0:=g.l0
  have g2:=g.l2
  have g3:=g.l3
  have hm:=fun odd=>@rUp_mono way ng odd A B (vS r) (vS (r+1)) l k h0 h2 h3 g0 g2 g3 lo AB
  clear h g lo h0 h2 h3 g0 g2 g3
  unfold rTo
  by_cases hr:(r:Int)<9218868437227405312
  ·rw [if_pos hr,if_pos hr]
   cases hu:rUp way ng (decide (r % 2=1)) l
   ·simp only [Bool.false_eq_true,if_false]
    split <;> omega
   ·rw [hm _ hu]
    exact Int.le_refl _
  ·rw [if_neg hr,if_neg hr]
   exact Int.le_refl _
theorem vS_nonneg (r:Nat):0<=vS r:=by
 rcases Nat.eq_zero_or_pos r with h | h
 ·subst h; rw [vS_zero]; exact Int.le_refl _
 ·have:=vS_lt h
  rw [vS_zero] at this
  exact Int.le_of_lt this
theorem sg_key (ng:Bool) {r:Int} (h0:0<=r):sg (ng && decide (0<r)) r=sg ng r:=by
 by_cases h:0<r
 ·rw [decide_eq_true h,Bool.and_true]
 ·obtain rfl:r=0:=by omega
  cases ng <;> rfl
theorem RdOf.key {V:Int} {ng:Bool} {f:Int->Int × Bool} {A:Int} {r0:Nat} {left:Int} {way:Int} (hf:f way=(patS (ng && decide (0<rTo way ng r0 left)) (rTo way ng r0 left),decide (left≠0) || decide (9218868437227405312<=(r0:Int)))) :
  M.key (f way).1=sg ng (rTo way ng r0 left)∧cls (f way).1≠4∧rng (f way).1:=by
 obtain ⟨g1,g2⟩:=rTo_range way ng r0 left
 rw [hf]
 exact ⟨(key_pat g1 g2 and_pos).trans (sg_key ng g1),cls_pat g1 g2 and_pos,(patS_facts g1 g2 and_pos).1⟩
theorem sg_le {ng mg:Bool} {A B r s:Int} (hA:0<=A) (hB:0<=B) (zB:mg=true->0<B) (r0:0<=r) (s0:0<=s) (h:sg ng A<=sg mg B) (up:ng=mg->A<=B->r<=s) (dn:ng=mg->B<=A->s<=r):sg ng r<=sg mg s:=by
 cases ng <;> cases mg
 ·exact up rfl h
 ·exfalso
  have h':A <= -B:=h
  have:=zB rfl
  omega
 ·show -r<=s
  omega
 ·have h':-A <= -B:=h
  have:=dn rfl (by omega)
  show -r <= -s
  omega
theorem rd_mono {V U:Int} {ng mg:Bool} {f g:Int->Int × Bool} (h:RdOf V ng f) (k:RdOf U mg g) (hVU:V<=U) (way:Int):less (g way).1 (f way).1=false:=by
 obtain ⟨A,r,l,eV,zA,RA,hf⟩:=h
 obtain ⟨B,s,m,eU,zB,RB,hg⟩:=k
 have kf:=(RdOf.key (V:=V) (A:=A) (hf way)).1
 have kg:=(RdOf.key (V:=U) (A:=B) (hg way)).1
 have hA:0<=A:=Int.le_trans (vS_nonneg r) RA.lo
 have hB:0<=B:=Int.le_trans (vS_nonneg s) RB.lo
 refine less_not ?_
 rw [kf,kg]
 rw [eV,eU] at hVU
 refine sg_le hA hB zB (rTo_range way ng r l).1 (rTo_range way mg s m).1 hVU (fun e AB=>?_) (fun e BA=>?_)
 ·subst e; exact rTo_mono RA RB AB
 ·subst e; exact rTo_mono RB RA BA
structure Quo (U S d:Int) (o:Bool):Prop where
 rg:rng d
 fin:pok d=true->patV d*S<=U∧(patV d*S=U ↔ o=false)
 nxt:pok (next d)=true->U<patV (next d)*S
 neg:pok d=false->d<0
theorem next_pos {r:Int} (h0:0<=r) (h1:r<9218868437227405312):next (patS false r)=patS false (r+1):=by
 have hc:=cls_pat (s:=false) (r:=r) h0 (by omega) (fun h=>by cases h)
 unfold next
 rw [if_neg hc]
 show (if r=9218868437227405312 then r else if r=-9223372036854775808 then 1 else if r<0 then r-1 else r+1)=r+1
 rw [if_neg (by omega),if_neg (by omega),if_neg (by omega)]
theorem pmag_nz:pmag (-9223372036854775808)=0:=by decide
theorem patV_neg {r:Nat} (h:(r:Int)<9218868437227405312):patV (patS true (r:Int))=sg true (vS r):=by
 by_cases h0:r=0
 ·subst h0
  rw [vS_zero]
  show patV (-9223372036854775808)=sg true 0
  unfold patV
  rw [pmag_nz,sg_zero,sg_zero,Int.zero_mul]
 ·exact patV_patS h (fun _=>by omega)
theorem pok_pos {r:Int} (h0:0<=r) (h1:r<=9218868437227405312) (h:pok (patS false r)=true):r<9218868437227405312:=by
 rw [patS_pok h0 h1 (fun q=>by cases q)] at h
 exact of_decide_eq_true h
theorem Quo.pos {S A:Int} {r:Nat} {o:Bool} (hr:(r:Int)<9218868437227405312) (lo:vS r*S<=A) (eq:vS r*S=A ↔ o=false) (hi:((r+1:Nat):Int)<9218868437227405312->A<vS (r+1)*S):Quo A S (patS false (r:Int)) o:=by
 have hv:patV (patS false (r:Int))=vS r:=by
  have:=patV_patS (ng:=false) hr (fun h=>by cases h)
  rw [this]
  unfold sg
  rw [if_neg (by decide)]
 have hnx:next (patS false (r:Int))=patS false ((r+1:Nat):Int):=by
  rw [next_pos (by omega) hr]; rfl
 refine ⟨(patS_facts (by omega) (by omega) (fun h=>by cases h)).1,fun _=>?_,fun h=>?_,fun h=>?_⟩
 ·rw [hv]; exact ⟨lo,eq⟩
 ·rw [hnx] at h ⊢
  have h1:=pok_pos (by omega) (by omega) h
  have:=patV_patS (ng:=false) h1 (fun h=>by cases h)
  rw [this]
  unfold sg
  rw [if_neg (by decide)]
  exact hi h1
 ·exfalso
  rw [patS_pok (by omega) (by omega) (fun h=>by cases h)] at h
  exact absurd hr (of_decide_eq_false h)
structure RungR (X:Int) (r0:Nat) (left:Int):Prop where
 lo:vS r0*vS r0<=X
 hi:X<vS (r0+1)*vS (r0+1)
 l0:left=0 ↔ X=vS r0*vS r0
theorem sq_le {a b:Int} (h0:0<=a) (h:a<=b):a*a<=b*b:=Int.mul_le_mul h h h0 (Int.le_trans h0 h)
theorem RungR.unique {X:Int} {r s:Nat} {l k:Int} (h:RungR X r l) (g:RungR X s k):r=s:=by
 have key:∀ {r s:Nat} {l k:Int},RungR X r l->RungR X s k->¬ r<s:=fun {r s l k} h g q=>by
  have e:vS (r+1)<=vS s:=by
   rcases Nat.lt_or_eq_of_le (show r+1<=s from q) with q2 | q2
   ·exact Int.le_of_lt (vS_lt q2)
   ·rw [q2]; exact Int.le_refl _
  exact absurd (Int.lt_of_lt_of_le h.hi (Int.le_trans (sq_le (vS_nonneg _) e) g.lo)) (Int.lt_irrefl _)
 rcases Nat.lt_trichotomy r s with q | q | q
 ·exact absurd q (key h g)
 ·exact q
 ·exact absurd q (key g h)
theorem Bd.sg {B:Nat} {V:Int} (g:Bool) (h:Bd B V):Bd B (M.sg g V):=by
 cases g
 ·exact h
 ·exact h.neg
theorem sgF (v:Int):sg false v=v:=rfl
theorem patV_rg {b:Int} (hb:rng b) (hp:pok b=true):∃ (ng:Bool) (r:Nat),(r:Int)=rg b∧(r:Int)<9218868437227405312∧patV b=sg ng (vS r):=by
 obtain ⟨r0,r1⟩:=rg_parts hb
 have hlt:rg b<9218868437227405312:=by
  have hne:=pparts hp
  have hf:0<=frc b∧frc b<4503599627370496:=by unfold frc; omega
  have hg:0<=fld b∧fld b<2048:=by unfold fld; omega
  omega
 obtain ⟨r,hr⟩:∃ r:Nat,(r:Int)=rg b:=⟨(rg b).toNat,Int.toNat_of_nonneg r0⟩
 have hs:b=patS (decide (b<0)) (r:Int):=by
  rw [hr]
  unfold patS rg
  by_cases h:b<0
  ·rw [decide_eq_true h,if_pos rfl,if_pos h]; omega
  ·rw [decide_eq_false h,if_neg (by decide),if_neg h]
 refine ⟨decide (b<0),r,hr,by rw [hr]; exact hlt,?_⟩
 rw [<- hr] at hlt
 cases hd:decide (b<0)
 ·rw [hd] at hs
  rw [hs]
  exact patV_patS hlt (fun h=>by cases h)
 ·rw [hd] at hs
  rw [hs]
  exact patV_neg hlt
end Go.Proofs.YtjjihmnbdeeedaaGreatDoor
namespace Go.Proofs.YtjjihmnbdeeedaaGreatDoor
open Go Go.RowKit Go.Proofs.YtjjihmnbdeeedaaGreatDoor.M Ieee
theorem wd_word {ng:Bool} {r:Int} (h0:0<=r) (h1:r<=9218868437227405312):Ieee.double.word ng r.toNat=wd (patS ng r):=by
 unfold Format.word wd patS
 rw [dSign]
 cases ng
 ·rw [if_neg (by decide),if_neg (by decide)]; omega
 ·rw [if_pos rfl,if_pos rfl]; omega
theorem rg_lt {b:Int} (hb:rng b) (hp:pok b=true):0<=rg b∧rg b<9218868437227405312:=by
 obtain ⟨_,r,hr,hlt,_⟩:=patV_rg hb hp
 omega
theorem patV_dec {b:Int} (hb:rng b) (hp:pok b=true):patV b=sg (decide (b<0)) (vS (rg b).toNat):=by
 obtain ⟨h0,h1⟩:=rg_lt hb hp
 obtain ⟨r,hr⟩:∃ r:Nat,(r:Int)=rg b:=⟨(rg b).toNat,Int.toNat_of_nonneg h0⟩
 have hs:b=patS (decide (b<0)) (r:Int):=by
  rw [hr]
  unfold patS rg
  by_cases h:b<0
  ·rw [decide_eq_true h,if_pos rfl,if_pos h]; omega
  ·rw [decide_eq_false h,if_neg (by decide),if_neg h]
 rw [<- hr] at h1 ⊢
 rw [Int.toNat_natCast]
 cases hd:decide (b<0)
 ·rw [hd] at hs
  rw [hs]
  exact patV_patS h1 (fun h=>by cases h)
 ·rw [hd] at hs
  rw [hs]
  exact patV_neg h1
theorem read_wd {b:Int} (hb:rng b) (hp:pok b=true):∃ m u:Nat,Ieee.double.read (wd b)=.number (decide (b<0)) m (-1074+(u:Int))∧patV b=sg (decide (b<0)) ((m:Int)*pw (-1074+(u:Int))):=by
 obtain ⟨h0,h1⟩:=rg_lt hb hp
 have hw:((wd b % 9223372036854775808:Nat):Int)=rg b:=wd_rung hb
 have hw2:wd b % 9223372036854775808=(rg b).toNat:=by omega
 obtain ⟨m,u,h,hm⟩:=read_finite Ieee.double (wd b) (by rw [dSign,dInf]; omega)
 rw [dSign,dLeast,wd_neg hb] at h
 rw [dSign,hw2] at hm
 refine ⟨m,u,h,?_⟩
 have e:vS (rg b).toNat=(m:Int)*pw (-1074+(u:Int)):=by
  unfold vS
  rw [<- hm,pw_add (by decide),Int.mul_comm (pw (-1074))]
  generalize pw (-1074)=q
  push_cast
  rw [Int.mul_assoc]
 rw [patV_dec hb hp,e]
theorem signed_pw (s:Bool) (m k:Nat) {i base:Int} (h:i=base+(k:Int)) (hb:-4194304<=base):signed s m k*pw base=sg s ((m:Int)*pw i):=by
 rw [signed_V,h,pw_add hb,Int.mul_comm (pw base),<- Int.mul_assoc]
 have e:((m*2^k:Nat):Int)=(m:Int)*2^k:=by push_cast; rfl
 rw [e]
 generalize (m:Int)*2^k=t
 unfold sg
 cases s
 ·rfl
 ·show -t*pw base=-(t*pw base)
  rw [Int.neg_mul]
theorem natAbs_sg {t q:Int} (hq:0<q):t*q=sg (decide (t<0)) ((t.natAbs:Int)*q):=by
 by_cases h:t<0
 ·rw [decide_eq_true h]
  show t*q=-((t.natAbs:Int)*q)
  rw [<- Int.neg_mul,show -(t.natAbs:Int)=t by omega]
 ·rw [decide_eq_false h]
  show t*q=(t.natAbs:Int)*q
  rw [show (t.natAbs:Int)=t by omega]
theorem lt_zero_iff {t q:Int} (hq:0<q):t<0 ↔ t*q<0:=by
 constructor
 ·exact fun h=>Int.mul_neg_of_neg_of_pos h hq
 ·intro h
  rcases Int.lt_or_le t 0 with g | g
  ·exact g
  ·exact absurd h (Int.not_lt.2 (Int.mul_nonneg g (Int.le_of_lt hq)))
theorem eq_zero_iff {t q:Int} (hq:0<q):t=0 ↔ t*q=0:=by
 constructor
 ·intro h; rw [h,Int.zero_mul]
 ·intro h
  rcases Int.mul_eq_zero.1 h with g | g
  ·exact g
  ·omega
theorem write_near {S t base:Int} (hb:-4194304<=base) (hS:t*pw base=S) (h0:S≠0) :
  ∃ (A:Int) (r0:Nat) (left:Int),S=sg (decide (S<0)) A∧Rung A r0 left∧Ieee.double.nearest (decide (t<0)) t.natAbs base=wd (patS (decide (S<0)) (rTo 0 (decide (S<0)) r0 left)):=by
 have hq:=pw_pos base
 have ht:t≠0:=fun h=>h0 (by rw [<- hS,h,Int.zero_mul])
 have hd:decide (t<0)=decide (S<0):=by rw [<- hS]; congr 1; exact propext (lt_zero_iff hq)
 obtain ⟨r0,left,hR,hE⟩:=nearest_rung (decide (t<0)) (mag:=t.natAbs) (place:=base) (by omega) hb
 refine ⟨_,r0,left,?_,hR,?_⟩
 ·rw [<- hd,<- hS]; exact natAbs_sg hq
 ·rw [hE,hd]
  obtain ⟨g1,g2⟩:=rTo_range 0 (decide (S<0)) r0 left
  exact wd_word g1 g2
theorem fadd {a b:Int} (ha:rng a) (hb:rng b) (pa:pok a=true) (pb:pok b=true) :
  (patV a+patV b=0->Ieee.double.add (wd a) (wd b)=some (wd (patS (decide (a<0) && decide (b<0)) 0))) ∧
  (patV a+patV b≠0->∃ (A:Int) (r0:Nat) (left:Int),patV a+patV b=sg (decide (patV a+patV b<0)) A∧Rung A r0 left∧Ieee.double.add (wd a) (wd b)=some (wd (patS (decide (patV a+patV b<0)) (rTo 0 (decide (patV a+patV b<0)) r0 left)))):=by
 obtain ⟨m,u,h1,v1⟩:=read_wd ha pa
 obtain ⟨n,v,h2,v2⟩:=read_wd hb pb
 have hadd:Ieee.double.add (wd a) (wd b)=some (Ieee.double.nearest (if signed (decide (a<0)) m (u-min u v)+signed (decide (b<0)) n (v-min u v)=0 then decide (a<0) && decide (b<0) else decide (signed (decide (a<0)) m (u-min u v)+signed (decide (b<0)) n (v-min u v)<0)) (signed (decide (a<0)) m (u-min u v)+signed (decide (b<0)) n (v-min u v)).natAbs (-1074+((min u v:Nat):Int))):=by
  unfold Format.add
  rw [h1,h2]
  unfold Datum.sum
  dsimp only
  have hmin:min (-1074+(u:Int)) (-1074+(v:Int))=-1074+((min u v:Nat):Int):=by omega
  have e1:(-1074+(u:Int)-(-1074+((min u v:Nat):Int))).toNat=u-min u v:=by omega
  have e2:(-1074+(v:Int)-(-1074+((min u v:Nat):Int))).toNat=v-min u v:=by omega
  rw [hmin,e1,e2]
  rfl
 have s1:=signed_pw (decide (a<0)) m (u-min u v) (i:=-1074+(u:Int)) (base:=-1074+((min u v:Nat):Int)) (by omega) (by omega)
 have s2:=signed_pw (decide (b<0)) n (v-min u v) (i:=-1074+(v:Int)) (base:=-1074+((min u v:Nat):Int)) (by omega) (by omega)
 rw [<- v1] at s1
 rw [<- v2] at s2
 have hB:-4194304 <= -1074+((min u v:Nat):Int):=by omega
 generalize -1074+((min u v:Nat):Int)=base at *
 have hq:=pw_pos base
 have hS:(signed (decide (a<0)) m (u-min u v)+signed (decide (b<0)) n (v-min u v))*pw base=patV a+patV b:=by rw [Int.add_mul,s1,s2]
 generalize signed (decide (a<0)) m (u-min u v)+signed (decide (b<0)) n (v-min u v)=t at *
 clear s1 s2 v1 v2 h1 h2
 refine ⟨fun h=>?_,fun h=>?_⟩
 ·have ht:t=0:=(eq_zero_iff hq).2 (hS.trans h)
  rw [hadd,ht,if_pos rfl]
  unfold Format.nearest
  rw [if_pos (show Int.natAbs 0=0 from rfl)]
  have:=wd_word (ng:=decide (a<0) && decide (b<0)) (r:=0) (by decide) (by decide)
  rw [<- this]
  rfl
 ·have ht:t≠0:=fun e=>h (by rw [<- hS,e,Int.zero_mul])
  obtain ⟨A,r0,left,q1,q2,q3⟩:=write_near hB hS h
  refine ⟨A,r0,left,q1,q2,?_⟩
  rw [hadd,if_neg ht,q3]
theorem fmul_core {g h:Bool} {x y p q r Z:Int} (e:p*q=r*Z):sg (g != h) (x*y*r)*Z=sg g (x*p)*sg h (y*q):=by
 rw [sg_mul,sg_prod]
 congr 1
 rw [Int.mul_assoc (x*y),<- e,Int.mul_assoc x y,Int.mul_assoc x p]
 congr 1
 rw [<- Int.mul_assoc,<- Int.mul_assoc,Int.mul_comm y p]
theorem xor_ne (g h:Bool):(g ^^ h)=(g != h):=by cases g <;> cases h <;> rfl
theorem fmul {a b:Int} (ha:rng a) (hb:rng b) (pa:pok a=true) (pb:pok b=true) :
  ∃ D:Int,0<=D∧sg (decide (a<0) != decide (b<0)) D*2^4194304=patV a*patV b ∧
   (D=0->Ieee.double.mul (wd a) (wd b)=some (wd (patS (decide (a<0) != decide (b<0)) 0))) ∧
   (D≠0->∃ (r0:Nat) (left:Int),Rung D r0 left∧Ieee.double.mul (wd a) (wd b)=some (wd (patS (decide (a<0) != decide (b<0)) (rTo 0 (decide (a<0) != decide (b<0)) r0 left)))):=by
 obtain ⟨m,u,h1,v1⟩:=read_wd ha pa
 obtain ⟨n,v,h2,v2⟩:=read_wd hb pb
 have hmul:Ieee.double.mul (wd a) (wd b)=some (Ieee.double.nearest (decide (a<0) != decide (b<0)) (m*n) (-1074+(u:Int)+(-1074+(v:Int)))):=by
  unfold Format.mul
  rw [h1,h2]
  unfold Datum.product
  dsimp only
  rw [xor_ne]
  rfl
 have hpm:=pw_mul (a:=-1074+(u:Int)) (b:=-1074+(v:Int)) (by omega) (by omega)
 have hB:-4194304 <= -1074+(u:Int)+(-1074+(v:Int)):=by omega
 have hq:=pw_pos (-1074+(u:Int)+(-1074+(v:Int)))
 have hC:=fmul_core (g:=decide (a<0)) (h:=decide (b<0)) (x:=(m:Int)) (y:=(n:Int)) hpm
 rw [<- v1,<- v2] at hC
 generalize -1074+(u:Int)+(-1074+(v:Int))=base at *
 have hcast:((m*n:Nat):Int)=(m:Int)*(n:Int):=by push_cast; rfl
 refine ⟨(m:Int)*(n:Int)*pw base,Int.mul_nonneg (by rw [<- hcast]; omega) (Int.le_of_lt hq),hC,fun h=>?_,fun h=>?_⟩
 ·have h0:m*n=0:=by
   rcases Int.mul_eq_zero.1 h with g | g
   ·rw [<- hcast] at g; omega
   ·omega
  rw [hmul,h0]
  unfold Format.nearest
  rw [if_pos rfl]
  have:=wd_word (ng:=decide (a<0) != decide (b<0)) (r:=0) (by decide) (by decide)
  rw [<- this]
  rfl
 ·have h0:m*n≠0:=fun e=>h (by rw [<- hcast,e]; simp)
  obtain ⟨r0,left,hR,hE⟩:=nearest_rung (decide (a<0) != decide (b<0)) (place:=base) h0 hB
  rw [hcast] at hR
  refine ⟨r0,left,hR,?_⟩
  rw [hmul,hE]
  obtain ⟨g1,g2⟩:=rTo_range 0 (decide (a<0) != decide (b<0)) r0 left
  rw [wd_word g1 g2]
def NanW (z:Nat):Prop:=z<18446744073709551616∧9218868437227405312<z % 9223372036854775808
theorem nan_cut (x y t:Nat):NanW ((Question.nanBits .f64 x y).cut t):=by
 have h:(Question.nanBits .f64 x y).cut t=(t % 2)*2^63+0x7ff0000000000000+1+(t/2) % (2^52-1):=rfl
 have e63:(2:Nat)^63=9223372036854775808:=by decide
 have e52:(2:Nat)^52-1=4503599627370495:=by decide
 rw [h,e63,e52]
 have hc:=Nat.mod_lt (t/2) (show 0<4503599627370495 by decide)
 have hm:t % 2=0∨t % 2=1:=by omega
 generalize t/2 % 4503599627370495=c at *
 unfold NanW
 rcases hm with h2 | h2
 ·rw [h2]; omega
 ·rw [h2]; omega
theorem run_farith {P:Program} (op:BinOp) (ho:op=.add∨op=.sub∨op=.mul∨op=.quo) (t:TypeId) (x y:Nat) (w:World) :
  ∃ z w',(binOp op t (.float .f64 x) (.float .f64 y)).run P w=.ok (.float .f64 z) w'∧((floatBits op .f64 x y=some z∧w'=w)∨(floatBits op .f64 x y=none∧NanW z∧w'=w.drew)):=by
 cases h:floatBits op .f64 x y with
 | some r=>exact ⟨r,w,run_float_arith w op t .f64 x y r h,.inl ⟨rfl,rfl⟩⟩
 | none=>
  refine ⟨_,w.drew,?_,.inr ⟨rfl,nan_cut x y (w.tape w.drawn (.nanBits .f64 x y)),rfl⟩⟩
  unfold floatBits at h
  rcases ho with rfl | rfl | rfl | rfl <;> simp only at h <;> simp [binOp,Op.floatArith,h] <;> exact fun hf=>absurd (show false=true from hf) (by decide)
def FW (p:Int) (x:Nat):Prop:=(cls p≠4∧rng p∧x=wd p)∨(p=9221120237041090561∧NanW x)
def patW (x:Nat):Int:=if x<9223372036854775808 then (x:Int) else (x:Int)-18446744073709551616
theorem patW_wd {p:Int} (h:rng p):patW (wd p)=p:=by
 unfold rng at h
 unfold patW wd
 split <;> omega
def nearP (S:Int):Int:=patW (Ieee.double.nearest (decide (S<0)) S.natAbs (-4194304))
theorem pw_least:pw (-4194304)=1:=by unfold pw; rfl
theorem patS_rng {ng:Bool} {r:Int} (h0:0<=r) (h1:r<=9218868437227405312):rng (patS ng r)∧cls (patS ng r)≠4:=by
 have hr:rng (patS ng r):=by unfold rng patS; cases ng <;> simp <;> omega
 refine ⟨hr,fun q=>?_⟩
 have:=(cls_rg hr).1.1 q
 unfold rg patS at this
 cases ng
 ·simp only [Bool.false_eq_true,if_false] at this; split at this <;> omega
 ·simp only [if_true] at this; split at this <;> omega
theorem nearP_rung {S:Int} (h:S≠0):∃ (A:Int) (r0:Nat) (left:Int),S=sg (decide (S<0)) A∧Rung A r0 left∧nearP S=patS (decide (S<0)) (rTo 0 (decide (S<0)) r0 left):=by
 obtain ⟨A,r0,left,h1,h2,h3⟩:=write_near (S:=S) (t:=S) (base:=-4194304) (by decide) (by rw [pw_least,Int.mul_one]) h
 refine ⟨A,r0,left,h1,h2,?_⟩
 unfold nearP
 rw [h3]
 obtain ⟨g1,g2⟩:=rTo_range 0 (decide (S<0)) r0 left
 exact patW_wd (patS_rng g1 g2).1
theorem sg_inj {g:Bool} {A B:Int} (h:sg g A=sg g B):A=B:=by
 cases g
 ·exact h
 ·exact Int.neg_inj.1 h
def fsum (p q:Int):Int :=
 if cls p=4∨cls q=4 then 9221120237041090561
 else if rg p=9218868437227405312 then (if rg q=9218868437227405312∧decide (p<0)≠decide (q<0) then 9221120237041090561 else p)
 else if rg q=9218868437227405312 then q
 else if patV p+patV q=0 then patS (decide (p<0) && decide (q<0)) 0 else nearP (patV p+patV q)
theorem pok_rg {p:Int} (hp:rng p):pok p=true ↔ rg p<9218868437227405312:=by
 obtain ⟨r0,r1⟩:=rg_parts hp
 have hf:0<=frc p∧frc p<4503599627370496:=by unfold frc; omega
 have hg:0<=fld p∧fld p<2048:=by unfold fld; omega
 unfold pok
 simp
 omega
theorem fadd_fin {p q:Int} (hp:rng p) (hq:rng q) (pp:pok p=true) (pq:pok q=true):Ieee.double.add (wd p) (wd q)=some (wd (if patV p+patV q=0 then patS (decide (p<0) && decide (q<0)) 0 else nearP (patV p+patV q))):=by
 obtain ⟨h0,h1⟩:=fadd hp hq pp pq
 by_cases hS:patV p+patV q=0
 ·rw [if_pos hS]; exact h0 hS
 ·rw [if_neg hS]
  obtain ⟨A,r0,left,a1,a2,a3⟩:=h1 hS
  obtain ⟨B,s0,k,b1,b2,b3⟩:=nearP_rung hS
  have hAB:=sg_inj (a1.symm.trans b1)
  subst hAB
  obtain ⟨h2,h3⟩:=a2.unique b2
  subst h2 h3
  rw [a3,b3]
theorem read_inf64 {p:Int} (hp:rng p) (h:rg p=9218868437227405312):Ieee.double.read (wd p)=.infinity (decide (p<0)):=by
 have hw:((wd p % 9223372036854775808:Nat):Int)=rg p:=wd_rung hp
 have:=read_inf Ieee.double dOk (wd p) (by rw [dSign,dInf]; omega)
 rwa [dSign,wd_neg hp] at this
theorem write_inf64 {p:Int} (hp:rng p) (h:rg p=9218868437227405312):Ieee.double.write (.infinity (decide (p<0)))=wd p:=by
 unfold Format.write
 dsimp only
 rw [dInf]
 have:=wd_word (ng:=decide (p<0)) (r:=9218868437227405312) (by decide) (by decide)
 have e:patS (decide (p<0)) 9218868437227405312=p:=by
  unfold rg at h
  unfold patS
  by_cases h0:p<0
  ·rw [if_pos h0] at h; rw [decide_eq_true h0,if_pos rfl]; omega
  ·rw [if_neg h0] at h; rw [decide_eq_false h0,if_neg (by decide)]; omega
 rw [e] at this
 exact this
theorem nan_canon:cls 9221120237041090561=4:=by decide
theorem FW.nan {x:Nat} (h:NanW x):FW 9221120237041090561 x:=.inr ⟨rfl,h⟩
theorem FW.pat {p:Int} (h:cls p≠4) (hp:rng p):FW p (wd p):=.inl ⟨h,hp,rfl⟩
theorem FW.read_nan {p:Int} {x:Nat} (h:FW p x) (h4:cls p=4):∃ s t,Ieee.double.read x=.nan s t:=by
 rcases h with ⟨h,_⟩ | ⟨_,h⟩
 ·exact absurd h4 h
 ·exact M.read_nan Ieee.double dOk x (by rw [dSign,dInf]; exact h.2)
theorem FW.of {p:Int} {x:Nat} (h:FW p x) (h4:cls p≠4):rng p∧x=wd p∧0<=rg p∧rg p<=9218868437227405312:=by
 rcases h with ⟨_,h1,h2⟩ | ⟨h,_⟩
 ·obtain ⟨r0,_⟩:=rg_parts h1
  refine ⟨h1,h2,r0,?_⟩
  rcases Int.lt_or_le 9218868437227405312 (rg p) with g | g
  ·exact absurd ((cls_rg h1).1.2 g) h4
  ·exact g
 ·rw [h] at h4; exact absurd nan_canon h4
theorem nearP_pat {S:Int} (h:S≠0):rng (nearP S)∧cls (nearP S)≠4:=by
 obtain ⟨A,r0,left,_,_,e⟩:=nearP_rung h
 rw [e]
 obtain ⟨g1,g2⟩:=rTo_range 0 (decide (S<0)) r0 left
 exact patS_rng g1 g2
theorem add_FW {p q:Int} {x y:Nat} (hx:FW p x) (hy:FW q y):(∃ z,Ieee.double.add x y=some z∧FW (fsum p q) z)∨(Ieee.double.add x y=none∧fsum p q=9221120237041090561):=by
 by_cases h4:cls p=4∨cls q=4
 ·right
  refine ⟨?_,by unfold fsum; rw [if_pos h4]⟩
  unfold Format.add
  rcases h4 with h | h
  ·obtain ⟨s,t,e⟩:=hx.read_nan h
   rw [e]
   rfl
  ·obtain ⟨s,t,e⟩:=hy.read_nan h
   rw [e]
   cases Ieee.double.read x <;> rfl
 ·have h4p:cls p≠4:=fun h=>h4 (.inl h)
  have h4q:cls q≠4:=fun h=>h4 (.inr h)
  obtain ⟨rp,rfl,p0,p1⟩:=hx.of h4p
  obtain ⟨rq,rfl,q0,q1⟩:=hy.of h4q
  unfold fsum
  rw [if_neg h4]
  by_cases ip:rg p=9218868437227405312
  ·rw [if_pos ip]
   have ep:=read_inf64 rp ip
   by_cases iq:rg q=9218868437227405312
   ·have eq:=read_inf64 rq iq
    by_cases hs:decide (p<0)=decide (q<0)
    ·left
     refine ⟨wd p,?_,?_⟩
     ·unfold Format.add
      rw [ep,eq]
      unfold Datum.sum
      dsimp only
      rw [if_pos hs]
      show some (Ieee.double.write (.infinity (decide (p<0))))=_
      rw [write_inf64 rp ip]
     ·rw [if_neg (fun h=>h.2 hs)]
      exact FW.pat h4p rp
    ·right
     refine ⟨?_,by rw [if_pos ⟨iq,hs⟩]⟩
     unfold Format.add
     rw [ep,eq]
     unfold Datum.sum
     dsimp only
     rw [if_neg hs]
     rfl
   ·left
    obtain ⟨m,u,eq,_⟩:=read_wd rq ((pok_rg rq).2 (by omega))
    refine ⟨wd p,?_,?_⟩
    ·unfold Format.add
     rw [ep,eq]
     show some (Ieee.double.write (.infinity (decide (p<0))))=_
     rw [write_inf64 rp ip]
    ·rw [if_neg (fun h=>iq h.1)]
     exact FW.pat h4p rp
  ·rw [if_neg ip]
   have pp:=(pok_rg rp).2 (by omega)
   by_cases iq:rg q=9218868437227405312
   ·left
    rw [if_pos iq]
    have eq:=read_inf64 rq iq
    obtain ⟨m,u,ep,_⟩:=read_wd rp pp
    refine ⟨wd q,?_,FW.pat h4q rq⟩
    unfold Format.add
    rw [ep,eq]
    show some (Ieee.double.write (.infinity (decide (q<0))))=_
    rw [write_inf64 rq iq]
   ·left
    rw [if_neg iq]
    refine ⟨_,fadd_fin rp rq pp ((pok_rg rq).2 (by omega)),?_⟩
    by_cases hS:patV p+patV q=0
    ·rw [if_pos hS]
     obtain ⟨g1,g2⟩:=patS_rng (ng:=decide (p<0) && decide (q<0)) (r:=0) (by decide) (by decide)
     exact FW.pat g2 g1
    ·rw [if_neg hS]
     exact FW.pat (nearP_pat hS).2 (nearP_pat hS).1
theorem run_fsum {P:Program} (t:TypeId) {p q:Int} {x y:Nat} (hx:FW p x) (hy:FW q y) (w:World) :
  ∃ z w',(binOp .add t (.float .f64 x) (.float .f64 y)).run P w=.ok (.float .f64 z) w'∧FW (fsum p q) z∧(w'=w∨w'=w.drew):=by
 obtain ⟨z,w',h,hz⟩:=run_farith (P:=P) .add (.inl rfl) t x y w
 refine ⟨z,w',h,?_⟩
 have hf:floatBits .add .f64 x y=Ieee.double.add x y:=rfl
 rw [hf] at hz
 rcases add_FW hx hy with ⟨z',e1,e2⟩ | ⟨e1,e2⟩
 ·rcases hz with ⟨h1,h2⟩ | ⟨h1,_⟩
  ·rw [e1] at h1; cases h1; exact ⟨e2,.inl h2⟩
  ·rw [e1] at h1; cases h1
 ·rcases hz with ⟨h1,_⟩ | ⟨_,h2,h3⟩
  ·rw [e1] at h1; cases h1
  ·rw [e2]; exact ⟨FW.nan h2,.inr h3⟩
theorem read_same {x y:Nat} (h1:x % Ieee.double.signWeight=y % Ieee.double.signWeight) (h2:(x/Ieee.double.signWeight % 2 == 1)=!(y/Ieee.double.signWeight % 2 == 1)):Ieee.double.read x=(Ieee.double.read y).opposite:=by
 unfold Format.read
 dsimp only
 rw [h1,h2]
 split
 ·rfl
 ·split
  ·rfl
  ·split
   ·rfl
   ·rfl
theorem read_neg {q:Int} (hq:rng q) (h4:cls q≠4):Ieee.double.read (wd (neg q))=(Ieee.double.read (wd q)).opposite:=by
 have hn:neg q=if q<0 then q+9223372036854775808 else q-9223372036854775808:=by unfold neg; rw [if_neg h4]
 refine read_same ?_ ?_
 ·rw [dSign,hn]
  unfold rng at hq
  unfold wd
  split <;> omega
 ·rw [dSign,wd_neg (rng_neg hq),wd_neg hq,hn]
  unfold rng at hq
  by_cases h:q<0
  ·rw [if_pos h,decide_eq_false (p:=q+9223372036854775808<0) (by omega),decide_eq_true h]; rfl
  ·rw [if_neg h,decide_eq_true (p:=q-9223372036854775808<0) (by omega),decide_eq_false h]; rfl
theorem neg_nan {q:Int} (h:cls q=4):neg q=9221120237041090561:=by unfold neg; rw [if_pos h]
theorem sub_FW {p q:Int} {x y:Nat} (hx:FW p x) (hy:FW q y):(∃ z,Ieee.double.sub x y=some z∧FW (fsum p (neg q)) z)∨(Ieee.double.sub x y=none∧fsum p (neg q)=9221120237041090561):=by
 by_cases h4:cls q=4
 ·right
  refine ⟨?_,by unfold fsum; rw [neg_nan h4,if_pos (.inr nan_canon)]⟩
  obtain ⟨s,t,e⟩:=hy.read_nan h4
  unfold Format.sub
  rw [e]
  cases Ieee.double.read x <;> rfl
 ·obtain ⟨rq,rfl,_,_⟩:=hy.of h4
  have hs:Ieee.double.sub x (wd q)=Ieee.double.add x (wd (neg q)):=by
   unfold Format.sub Format.add
   rw [read_neg rq h4]
  rw [hs]
  exact add_FW hx (FW.pat (cls_neg rq h4) (rng_neg rq))
theorem run_fdiff {P:Program} (t:TypeId) {p q:Int} {x y:Nat} (hx:FW p x) (hy:FW q y) (w:World) :
  ∃ z w',(binOp .sub t (.float .f64 x) (.float .f64 y)).run P w=.ok (.float .f64 z) w'∧FW (fsum p (neg q)) z∧(w'=w∨w'=w.drew):=by
 obtain ⟨z,w',h,hz⟩:=run_farith (P:=P) .sub (.inr (.inl rfl)) t x y w
 refine ⟨z,w',h,?_⟩
 have hf:floatBits .sub .f64 x y=Ieee.double.sub x y:=rfl
 rw [hf] at hz
 rcases sub_FW hx hy with ⟨z',e1,e2⟩ | ⟨e1,e2⟩
 ·rcases hz with ⟨h1,h2⟩ | ⟨h1,_⟩
  ·rw [e1] at h1; cases h1; exact ⟨e2,.inl h2⟩
  ·rw [e1] at h1; cases h1
 ·rcases hz with ⟨h1,_⟩ | ⟨_,h2,h3⟩
  ·rw [e1] at h1; cases h1
  ·rw [e2]; exact ⟨FW.nan h2,.inr h3⟩
def xsg (p q:Int):Bool:=decide (p<0) != decide (q<0)
def fsize (p q:Int):Int:=sg (xsg p q) (patV p*patV q/2^4194304)
def fprod (p q:Int):Int :=
 if cls p=4∨cls q=4 then 9221120237041090561
 else if rg p=9218868437227405312∨rg q=9218868437227405312 then (if rg p=0∨rg q=0 then 9221120237041090561 else patS (xsg p q) 9218868437227405312)
 else if fsize p q=0 then patS (xsg p q) 0 else nearP (sg (xsg p q) (fsize p q))
theorem fsize_of {g:Bool} {D Z C:Int} (hZ:0<Z) (h:sg g D*Z=C):sg g (C/Z)=D:=by
 rw [<- h,Int.mul_ediv_cancel _ (Int.ne_of_gt hZ)]
 cases g
 ·rfl
 ·exact Int.neg_neg D
theorem nearP_sg {g:Bool} {D:Int} {r0:Nat} {left:Int} (h0:0<D) (hR:Rung D r0 left):nearP (sg g D)=patS g (rTo 0 g r0 left):=by
 have hd:decide (sg g D<0)=g:=by
  cases g
  ·exact decide_eq_false (by show ¬ D<0; omega)
  ·exact decide_eq_true (by show -D<0; omega)
 have hn:sg g D≠0:=by
  cases g
  ·show D≠0; omega
  ·show -D≠0; omega
 obtain ⟨A,s0,k,e1,e2,e3⟩:=nearP_rung hn
 rw [hd] at e1 e3
 have:=sg_inj e1
 subst this
 obtain ⟨h1,h2⟩:=hR.unique e2
 subst h1 h2
 exact e3
theorem fmul_fin {p q:Int} (hp:rng p) (hq:rng q) (pp:pok p=true) (pq:pok q=true):Ieee.double.mul (wd p) (wd q)=some (wd (if fsize p q=0 then patS (xsg p q) 0 else nearP (sg (xsg p q) (fsize p q)))):=by
 obtain ⟨D,d0,d1,d2,d3⟩:=fmul hp hq pp pq
 have hf:fsize p q=D:=fsize_of (two_pos 4194304) d1
 rw [hf]
 by_cases h:D=0
 ·rw [if_pos h]; exact d2 h
 ·rw [if_neg h]
  obtain ⟨r0,left,hR,hE⟩:=d3 h
  rw [hE,nearP_sg (by omega) hR]
  rfl
theorem write_infS (g:Bool):Ieee.double.write (.infinity g)=wd (patS g 9218868437227405312):=by
 unfold Format.write
 dsimp only
 rw [dInf]
 exact wd_word (ng:=g) (r:=9218868437227405312) (by decide) (by decide)
theorem mag_zero {q:Int} {m u:Nat} (hq:rng q) (pq:pok q=true) (h:patV q=sg (decide (q<0)) ((m:Int)*pw (-1074+(u:Int)))):m=0 ↔ rg q=0:=by
 have e:=patV_dec hq pq
 rw [h] at e
 have e2:=sg_inj e
 obtain ⟨r0,r1⟩:=rg_lt hq pq
 constructor
 ·intro hm
  rw [hm] at e2
  have e3:vS (rg q).toNat=0:=by rw [<- e2]; simp
  rcases Nat.eq_zero_or_pos (rg q).toNat with g | g
  ·omega
  ·have:=vS_lt g
   rw [vS_zero,e3] at this
   exact absurd this (Int.lt_irrefl _)
 ·intro hr
  rw [hr] at e2
  have e3:(m:Int)*pw (-1074+(u:Int))=0:=by rw [e2]; exact vS_zero
  have:=(eq_zero_iff (pw_pos (-1074+(u:Int)))).2 e3
  omega
theorem mul_FW {p q:Int} {x y:Nat} (hx:FW p x) (hy:FW q y):(∃ z,Ieee.double.mul x y=some z∧FW (fprod p q) z)∨(Ieee.double.mul x y=none∧fprod p q=9221120237041090561):=by
 by_cases h4:cls p=4∨cls q=4
 ·right
  refine ⟨?_,by unfold fprod; rw [if_pos h4]⟩
  unfold Format.mul
  rcases h4 with h | h
  ·obtain ⟨s,t,e⟩:=hx.read_nan h
   rw [e]
   rfl
  ·obtain ⟨s,t,e⟩:=hy.read_nan h
   rw [e]
   cases Ieee.double.read x <;> rfl
 ·have h4p:cls p≠4:=fun h=>h4 (.inl h)
  have h4q:cls q≠4:=fun h=>h4 (.inr h)
  obtain ⟨rp,rfl,p0,p1⟩:=hx.of h4p
  obtain ⟨rq,rfl,q0,q1⟩:=hy.of h4q
  have hI:=patS_rng (ng:=xsg p q) (r:=9218868437227405312) (by decide) (by decide)
  have hX:(decide (p<0) ^^ decide (q<0))=xsg p q:=xor_ne _ _
  have hX2:(decide (q<0) ^^ decide (p<0))=xsg p q:=by rw [<- hX]; cases decide (p<0) <;> cases decide (q<0) <;> rfl
  unfold fprod
  rw [if_neg h4]
  by_cases ip:rg p=9218868437227405312
  ·rw [if_pos (.inl ip)]
   have ep:=read_inf64 rp ip
   by_cases iq:rg q=9218868437227405312
   ·left
    rw [if_neg (by omega)]
    refine ⟨_,?_,FW.pat hI.2 hI.1⟩
    unfold Format.mul
    rw [ep,read_inf64 rq iq]
    show some (Ieee.double.write (.infinity (decide (p<0) ^^ decide (q<0))))=_
    rw [write_infS,hX]
   ·have pq:=(pok_rg rq).2 (by omega)
    obtain ⟨m,u,eq,vq⟩:=read_wd rq pq
    have hz:=mag_zero rq pq vq
    by_cases hm:m=0
    ·right
     refine ⟨?_,by rw [if_pos (.inr (hz.1 hm))]⟩
     unfold Format.mul
     rw [ep,eq,hm]
     rfl
    ·left
     rw [if_neg (fun h=>by rcases h with h | h; omega; exact hm (hz.2 h))]
     refine ⟨_,?_,FW.pat hI.2 hI.1⟩
     unfold Format.mul
     rw [ep,eq]
     unfold Datum.product
     dsimp only
     rw [if_neg hm]
     show some (Ieee.double.write (.infinity (decide (p<0) ^^ decide (q<0))))=_
     rw [write_infS,hX]
  ·have pp:=(pok_rg rp).2 (by omega)
   by_cases iq:rg q=9218868437227405312
   ·rw [if_pos (.inr iq)]
    obtain ⟨m,u,ep,vp⟩:=read_wd rp pp
    have hz:=mag_zero rp pp vp
    have eq:=read_inf64 rq iq
    by_cases hm:m=0
    ·right
     refine ⟨?_,by rw [if_pos (.inl (hz.1 hm))]⟩
     unfold Format.mul
     rw [ep,eq,hm]
     rfl
    ·left
     rw [if_neg (fun h=>by rcases h with h | h; exact hm (hz.2 h); omega)]
     refine ⟨_,?_,FW.pat hI.2 hI.1⟩
     unfold Format.mul
     rw [ep,eq]
     unfold Datum.product
     dsimp only
     rw [if_neg hm]
     show some (Ieee.double.write (.infinity (decide (q<0) ^^ decide (p<0))))=_
     rw [write_infS,hX2]
   ·left
    rw [if_neg (by omega)]
    refine ⟨_,fmul_fin rp rq pp ((pok_rg rq).2 (by omega)),?_⟩
    by_cases hS:fsize p q=0
    ·rw [if_pos hS]
     obtain ⟨g1,g2⟩:=patS_rng (ng:=xsg p q) (r:=0) (by decide) (by decide)
     exact FW.pat g2 g1
    ·rw [if_neg hS]
     have hn:sg (xsg p q) (fsize p q)≠0:=by
      generalize fsize p q=D at *
      cases xsg p q
      ·exact hS
      ·show -D≠0; omega
     exact FW.pat (nearP_pat hn).2 (nearP_pat hn).1
theorem run_fprod {P:Program} (t:TypeId) {p q:Int} {x y:Nat} (hx:FW p x) (hy:FW q y) (w:World) :
  ∃ z w',(binOp .mul t (.float .f64 x) (.float .f64 y)).run P w=.ok (.float .f64 z) w'∧FW (fprod p q) z∧(w'=w∨w'=w.drew):=by
 obtain ⟨z,w',h,hz⟩:=run_farith (P:=P) .mul (.inr (.inr (.inl rfl))) t x y w
 refine ⟨z,w',h,?_⟩
 have hf:floatBits .mul .f64 x y=Ieee.double.mul x y:=rfl
 rw [hf] at hz
 rcases mul_FW hx hy with ⟨z',e1,e2⟩ | ⟨e1,e2⟩
 ·rcases hz with ⟨h1,h2⟩ | ⟨h1,_⟩
  ·rw [e1] at h1; cases h1; exact ⟨e2,.inl h2⟩
  ·rw [e1] at h1; cases h1
 ·rcases hz with ⟨h1,_⟩ | ⟨_,h2,h3⟩
  ·rw [e1] at h1; cases h1
  ·rw [e2]; exact ⟨FW.nan h2,.inr h3⟩
theorem wd_told {a:Int} (ha:rng a):FW (told a) (wd a):=by
 unfold told
 by_cases h:cls a=4
 ·rw [if_pos h]
  refine FW.nan ⟨?_,?_⟩
  ·unfold wd; omega
  ·exact (cls4_rung ha).1 h
 ·rw [if_neg h]
  exact FW.pat h ha
theorem patW_rng {x:Nat} (h:x<18446744073709551616):rng (patW x)∧wd (patW x)=x:=by
 unfold patW rng wd
 split
 ·exact ⟨by omega,by omega⟩
 ·exact ⟨by omega,by omega⟩
theorem of_FW {p:Int} {x:Nat} (h:FW p x) (w:World):Calls Tryz.prog 124 #[.float .f64 x] w fun e w'=>e=.returned (.int .i64 p)∧w'=w:=by
 rcases h with ⟨h4,hp,rfl⟩ | ⟨rfl,hN⟩
 ·have:=bitsOf p w hp
  have e:told p=p:=by unfold told; rw [if_neg h4]
  rwa [e] at this
 ·obtain ⟨h1,h2⟩:=patW_rng hN.1
  have:=bitsOf (patW x) w h1
  rw [h2] at this
  have e:told (patW x)=9221120237041090561:=by
   unfold told
   rw [if_pos ((cls4_rung h1).2 (by rw [h2]; exact hN.2))]
  rwa [e] at this
end Go.Proofs.YtjjihmnbdeeedaaGreatDoor
namespace Go.Proofs.YtjjihmnbdeeedaaGreatDoor.M
def Fl (n:Int):Prop:=∃ k:Nat,(2^k:Int) ∣ n∧(n.natAbs:Int)<9007199254740992*2^k
def Nr (S h:Int):Prop:=Fl h∧∀ f,Fl f->(h-S).natAbs<=(f-S).natAbs
theorem p2 (k:Nat):(0:Int)<2^k:=Int.pow_pos (by decide)
theorem p2s (k:Nat):(2:Int)^(k+1)=2*2^k:=by rw [Int.pow_succ,Int.mul_comm]
theorem p2dvd {j k:Nat} (h:j<=k):(2^j:Int) ∣ 2^k:=⟨2^(k-j),by rw [<- Int.pow_add,Nat.add_sub_cancel' h]⟩
theorem p2le {j k:Nat} (h:j<=k):(2:Int)^j<=2^k:=Int.le_of_dvd (p2 k) (p2dvd h)
theorem p2lt {j k:Nat} (h:(2:Int)^j<2^k):j<k:=by
 rcases Nat.lt_or_ge j k with c | c
 ·exact c
 ·have:=p2le c; omega
theorem Fl.neg {n:Int} (h:Fl n):Fl (-n):=by
 obtain ⟨k,d,b⟩:=h
 exact ⟨k,(Int.dvd_neg).2 d,by rw [Int.natAbs_neg]; exact b⟩
theorem fl_zero:Fl 0:=⟨0,⟨0,by simp⟩,by simp⟩
theorem fl_of {n:Int} {k:Nat} (d:(2^k:Int) ∣ n) (b:(n.natAbs:Int)<=9007199254740992*2^k):Fl n:=by
 by_cases c:(n.natAbs:Int)<9007199254740992*2^k
 ·exact ⟨k,d,c⟩
 ·have e:(n.natAbs:Int)=9007199254740992*2^k:=by omega
  refine ⟨k+1,?_,?_⟩
  ·rw [<- Int.dvd_natAbs,e,p2s]
   exact ⟨4503599627370496,by omega⟩
  ·rw [p2s]; have:=p2 k; omega
theorem Fl.dbl {n:Int} (h:Fl n):Fl (2*n):=by
 obtain ⟨k,⟨c,rfl⟩,b⟩:=h
 refine ⟨k+1,⟨c,by rw [p2s,Int.mul_assoc]⟩,?_⟩
 rw [p2s]
 omega
theorem Nr.neg {S h:Int} (n:Nr S h):Nr (-S) (-h):=by
 refine ⟨n.1.neg,fun f hf=>?_⟩
 have:=n.2 (-f) hf.neg
 omega
theorem nr_self {S h:Int} (hS:Fl S) (n:Nr S h):h=S:=by
 have:=n.2 S hS
 omega
theorem fl_sub {x y:Int} (hx:Fl x) (hy:Fl y) (h1:(x-y).natAbs<=x.natAbs) (h2:(x-y).natAbs<=y.natAbs):Fl (x-y):=by
 obtain ⟨j,dx,bx⟩:=hx
 obtain ⟨k,dy,by1⟩:=hy
 rcases Nat.le_total j k with c | c
 ·exact ⟨j,Int.dvd_sub dx (Int.dvd_trans (p2dvd c) dy),by omega⟩
 ·exact ⟨k,Int.dvd_sub (Int.dvd_trans (p2dvd c) dx) dy,by omega⟩
theorem fl_add {x y:Int} (hx:Fl x) (hy:Fl y) (h1:(x+y).natAbs<=x.natAbs) (h2:(x+y).natAbs<=y.natAbs):Fl (x+y):=by
 have e:x+y=x - -y:=by omega
 rw [e]
 exact fl_sub hx hy.neg (by omega) (by omega)
theorem nr_dvd_pos {S h:Int} {k:Nat} (n:Nr S h) (d:(2^k:Int) ∣ S) (h0:0<=S):(2^k:Int) ∣ h:=by
 by_cases c:(S.natAbs:Int)<=9007199254740992*2^k
 ·rw [nr_self (fl_of d c) n]; exact d
 ·have hT:Fl (9007199254740992*2^k):=fl_of ⟨9007199254740992,by rw [Int.mul_comm]⟩ (by have:=p2 k; omega)
  have h1:=n.2 _ hT
  obtain ⟨j,dj,bj⟩:=n.1
  have hk:=p2 k
  have hj:=p2 j
  have:(2:Int)^k<2^j:=by omega
  exact Int.dvd_trans (p2dvd (Nat.le_of_lt (p2lt this))) dj
theorem nr_dvd {S h:Int} {k:Nat} (n:Nr S h) (d:(2^k:Int) ∣ S):(2^k:Int) ∣ h:=by
 rcases Int.le_total 0 S with c | c
 ·exact nr_dvd_pos n d c
 ·have:=nr_dvd_pos n.neg ((Int.dvd_neg).2 d) (by omega)
  exact (Int.dvd_neg).1 this
theorem err_sum {a b h:Int} (ha:Fl a) (hb:Fl b) (n:Nr (a+b) h):Fl (a+b-h):=by
 have e1:=n.2 a ha
 have e2:=n.2 b hb
 obtain ⟨j,da,ba⟩:=ha
 obtain ⟨k,db,bb⟩:=hb
 rcases Nat.le_total j k with c | c
 ·have d:=Int.dvd_add da (Int.dvd_trans (p2dvd c) db)
  exact ⟨j,Int.dvd_sub d (nr_dvd n d),by omega⟩
 ·have d:=Int.dvd_add (Int.dvd_trans (p2dvd c) da) db
  exact ⟨k,Int.dvd_sub d (nr_dvd n d),by omega⟩
theorem back_pos {a b h:Int} (ha:Fl a) (hb:Fl b) (h0:0<=a) (hab:b.natAbs<=a.natAbs) (n:Nr (a+b) h):Fl (h-a):=by
 have ea:=n.2 a ha
 have e2:=n.2 (2*a) ha.dbl
 have ez:=n.2 0 fl_zero
 by_cases hs:a<=2*h
 ·exact fl_sub n.1 ha (by omega) (by omega)
 ·have hS:Fl (a+b):=by
   obtain ⟨k,⟨c,hc⟩,ba⟩:=ha
   cases k with
   | zero=>exact ⟨0,⟨a+b,by simp⟩,by simp at ba ⊢; omega⟩
   | succ k=>
    have hf:Fl (2^k*c):=⟨k,⟨c,rfl⟩,by rw [p2s] at ba hc; rw [Int.mul_assoc] at hc; omega⟩
    have e3:=n.2 _ hf
    rw [p2s,Int.mul_assoc] at hc
    exact fl_add ⟨k+1,⟨c,by rw [p2s,Int.mul_assoc]; exact hc⟩,ba⟩ hb (by omega) (by omega)
  rw [nr_self hS n,show a+b-a=b by omega]
  exact hb
theorem back {a b h:Int} (ha:Fl a) (hb:Fl b) (hab:b.natAbs<=a.natAbs) (n:Nr (a+b) h):Fl (h-a):=by
 rcases Int.le_total 0 a with c | c
 ·exact back_pos ha hb c hab n
 ·have n2:=n.neg
  rw [show -(a+b)=-a + -b by omega] at n2
  have:=(back_pos ha.neg hb.neg (by omega) (by omega) n2).neg
  rwa [show -(-h - -a)=h-a by omega] at this
theorem binade (S:Int) (h0:0<=S):∃ k:Nat,S<9007199254740992*2^k∧(k=0∨4503599627370496*2^k<=S):=by
 have ex:∀ n:Nat,S<9007199254740992*2^n->∃ k:Nat,S<9007199254740992*2^k∧(k=0∨4503599627370496*2^k<=S):=by
  intro n
  induction n with
  | zero=>intro h; exact ⟨0,h,.inl rfl⟩
  | succ n ih=>
   intro h
   by_cases c:S<9007199254740992*2^n
   ·exact ih c
   ·exact ⟨n+1,h,.inr (by rw [p2s]; omega)⟩
 refine ex S.natAbs ?_
 have h1:S.natAbs<2^S.natAbs:=Nat.lt_two_pow_self
 have h2:((2^S.natAbs:Nat):Int)=2^S.natAbs:=by simp
 have h3:=p2 S.natAbs
 omega
theorem nr_rel_pos {S h:Int} (n:Nr S h) (h0:0<=S):1000*(h-S).natAbs<=S.natAbs:=by
 obtain ⟨k,b,c⟩:=binade S h0
 have hk:=p2 k
 have hm:=Int.emod_nonneg S (show (2:Int)^k≠0 by omega)
 have hl:=Int.emod_lt_of_pos S hk
 have hf:Fl (S-S % 2^k):=by
  refine fl_of (k:=k) ⟨S/2^k,by have:=Int.emod_add_mul_ediv S (2^k); omega⟩ ?_
  have:0<=S-S % 2^k:=by
   have:=Int.emod_add_mul_ediv S (2^k)
   have h2:0<=2^k*(S/2^k):=Int.mul_nonneg (by omega) (Int.ediv_nonneg h0 (by omega))
   omega
  omega
 have e:=n.2 _ hf
 rcases c with c | c
 ·subst c
  have:S % 2^0=0:=by simp
  omega
 ·omega
theorem nr_rel {S h:Int} (n:Nr S h):1000*(h-S).natAbs<=S.natAbs:=by
 rcases Int.le_total 0 S with c | c
 ·exact nr_rel_pos n c
 ·have:=nr_rel_pos n.neg (by omega)
  omega
theorem two_sum {a b h v u p q l:Int} (ha:Fl a) (hb:Fl b) (nh:Nr (a+b) h) (nv:Nr (h-a) v) (nu:Nr (h-v) u) (np:Nr (a-u) p) (nq:Nr (b-v) q) (nl:Nr (p+q) l):l=a+b-h:=by
 have hd:=err_sum ha hb nh
 -- the step back,where it is exact
 have A:Fl (h-a)->l=a+b-h:=by
  intro hx
  have e1:=nr_self hx nv
  subst e1
  rw [show h-(h-a)=a by omega] at nu
  have e2:=nr_self ha nu
  subst e2
  rw [show u-u=0 by omega] at np
  have e3:=nr_self fl_zero np
  subst e3
  rw [show b-(h-u)=u+b-h by omega] at nq
  have e4:=nr_self hd nq
  subst e4
  rw [show 0+(u+b-h)=u+b-h by omega] at nl
  exact nr_self hd nl
 by_cases hab:b.natAbs<=a.natAbs
 ·exact A (back ha hb hab nh)
 by_cases hha:a.natAbs<=h.natAbs
 ·-- h-v is exact
  have n1:Nr (h + -a) v:=by rw [show h + -a=h-a by omega]; exact nv
  have hx:=(back nh.1 ha.neg (by omega) n1).neg
  rw [show -(v-h)=h-v by omega] at hx
  have e1:=nr_self hx nu
  subst e1
  have hy:=(err_sum nh.1 ha.neg n1).neg
  rw [show -(h + -a-v)=a-(h-v) by omega] at hy
  have e2:=nr_self hy np
  subst e2
  have r1:=nr_rel nh
  have r2:=nv.2 b hb
  have hz:Fl (b-v):=fl_sub hb nv.1 (by omega) (by omega)
  have e3:=nr_self hz nq
  subst e3
  rw [show a-(h-v)+(b-v)=a+b-h by omega] at nl
  exact nr_self hd nl
 ·-- then the sum is exact
  have e1:=nh.2 a ha
  have e2:=nh.2 (-a) ha.neg
  have hS:Fl (a+b):=fl_add ha hb (by omega) (by omega)
  have e3:=nr_self hS nh
  exact A (by rw [e3,show a+b-a=b by omega]; exact hb)
theorem fast_sum {a b h v l:Int} (ha:Fl a) (hb:Fl b) (hab:b.natAbs<=a.natAbs) (nh:Nr (a+b) h) (nv:Nr (h-a) v) (nl:Nr (b-v) l):l=a+b-h:=by
 have hd:=err_sum ha hb nh
 have e1:=nr_self (back ha hb hab nh) nv
 subst e1
 rw [show b-(h-a)=a+b-h by omega] at nl
 exact nr_self hd nl
theorem nr_ge {S h T:Int} (n:Nr S h) (hT:Fl T) (c:T<=S):T<=h:=by
 have:=n.2 T hT
 omega
theorem nr_le {S h T:Int} (n:Nr S h) (hT:Fl T) (c:S<=T):h<=T:=by
 have:=n.2 T hT
 omega
theorem fl_p2 (i:Nat) {m:Nat} (hm:(m:Int)<=9007199254740992):Fl ((m:Int)*2^i):=by
 refine fl_of (k:=i) ⟨m,by rw [Int.mul_comm]⟩ ?_
 have h1:0<=(m:Int)*2^i:=Int.mul_nonneg (by omega) (Int.le_of_lt (p2 i))
 have h2:(m:Int)*2^i<=9007199254740992*2^i:=Int.mul_le_mul_of_nonneg_right hm (Int.le_of_lt (p2 i))
 omega
theorem fl_units {h:Int} {i:Nat} (f:Fl h) (c:4503599627370496*2^i<=(h.natAbs:Int)):(2^i:Int) ∣ h:=by
 obtain ⟨j,d,b⟩:=f
 have hi:=p2 i
 have hj:=p2 j
 cases i with
 | zero=>exact ⟨h,by simp⟩
 | succ i=>
  rw [p2s] at c
  have:(2:Int)^i<2^j:=by omega
  exact Int.dvd_trans (p2dvd (p2lt this)) d
theorem near_mult (S:Int) (i:Nat):∃ T:Int,(2^i:Int) ∣ T∧2*(T-S).natAbs<=(2^i:Int):=by
 have hi:=p2 i
 have hm:=Int.emod_nonneg S (show (2:Int)^i≠0 by omega)
 have hl:=Int.emod_lt_of_pos S hi
 have e:=Int.emod_add_mul_ediv S (2^i)
 generalize S % 2^i=t at *
 by_cases c:2*t<=2^i
 ·exact ⟨S-t,⟨S/2^i,by omega⟩,by omega⟩
 ·exact ⟨S-t+2^i,⟨S/2^i+1,by rw [Int.mul_add,Int.mul_one]; omega⟩,by omega⟩
theorem nr_err {S h:Int} {i:Nat} (n:Nr S h) (c:(S.natAbs:Int)<=9007199254740992*2^i):2*((h-S).natAbs:Int)<=2^i:=by
 obtain ⟨T,d,e⟩:=near_mult S i
 have hi:=p2 i
 have hT:Fl T:=by
  by_cases c2:(T.natAbs:Int)<=9007199254740992*2^i
  ·exact fl_of d c2
  ·exfalso
   obtain ⟨t,rfl⟩:=d
   have h1:(9007199254740992:Int)<t.natAbs:=by
    rw [Int.natAbs_mul] at c2
    have e2:((2^i:Int).natAbs:Int)=2^i:=by omega
    push_cast at c2
    rcases Int.lt_or_le 9007199254740992 (t.natAbs:Int) with g | g
    ·exact g
    ·exfalso
     have:=Int.mul_le_mul_of_nonneg_left g (Int.le_of_lt hi)
     rw [e2] at c2
     omega
   have h2:(2^i:Int)*9007199254740993<=((2^i*t).natAbs:Int):=by
    rw [Int.natAbs_mul]
    have e2:((2^i:Int).natAbs:Int)=2^i:=by omega
    rw [Int.natCast_mul,e2]
    exact Int.mul_le_mul_of_nonneg_left (by omega) (Int.le_of_lt hi)
   generalize 2^i*t=T at *
   omega
 have:=n.2 T hT
 omega
structure Spl (a h:Int) (j:Nat):Prop where
 up:(134217728*2^j:Int) ∣ h
 lo:(2^j:Int) ∣ a-h
 top:(h.natAbs:Int)<=9007199254740992*2^j
 low:((a-h).natAbs:Int)<=67108864*2^j
theorem mult_le {a q:Int} {m:Int} (hq:0<q) (d:q ∣ a) (h:a<m*q):a<=m*q-q:=by
 obtain ⟨c,rfl⟩:=d
 rw [Int.mul_comm q c] at h ⊢
 have h1:c<m:=Int.lt_of_mul_lt_mul_right h (by omega)
 have h2:(c+1)*q<=m*q:=Int.mul_le_mul_of_nonneg_right (by omega) (by omega)
 rw [Int.add_mul,Int.one_mul] at h2
 omega
theorem split_pos {a c d h l:Int} {j:Nat} (da:(2^j:Int) ∣ a) (a0:4503599627370496*2^j<=a) (a1:a<9007199254740992*2^j)
  (nc:Nr (134217729*a) c) (nd:Nr (c-a) d) (nh:Nr (c-d) h) (nl:Nr (a-h) l):h=c-d∧l=a-h∧Spl a h j:=by
 have hj:=p2 j
 have a2:a<=9007199254740992*2^j-2^j:=mult_le hj da a1
 have a3:a=4503599627370496*2^j∨4503599627370496*2^j+2^j<=a:=by
  by_cases c0:a=4503599627370496*2^j
  ·exact .inl c0
  ·right
   have d2:(2^j:Int) ∣ -a:=(Int.dvd_neg).2 da
   have:=mult_le hj d2 (show -a < -4503599627370496*2^j by omega)
   omega
 have e27:(2:Int)^(j+27)=134217728*2^j:=by rw [Int.pow_add,Int.mul_comm]; rfl
 have e28:(2:Int)^(j+28)=268435456*2^j:=by rw [Int.pow_add,Int.mul_comm]; rfl
 have L79:Fl (604462909807314587353088*2^j):=by
  have:=fl_p2 (j+27) (m:=4503599627370496) (by decide)
  rw [e27] at this
  rwa [show ((4503599627370496:Nat):Int)*(134217728*2^j)=604462909807314587353088*2^j by rw [<- Int.mul_assoc]; rfl] at this
 -- the product
 have c1:=nr_ge nc L79 (by omega)
 have ec:=nr_err (i:=j+28) nc (by rw [e28]; omega)
 rw [e28] at ec
 have dc:(134217728*2^j:Int) ∣ c:=by rw [<- e27]; exact fl_units nc.1 (by rw [e27]; omega)
 -- where a is a power of 2 nothing is lost
 have cz:a=4503599627370496*2^j->c=134217729*a:=by
  intro h0
  refine nr_self ?_ nc
  subst h0
  have:=fl_p2 (j+52) (m:=134217729) (by decide)
  rw [show (2:Int)^(j+52)=4503599627370496*2^j by rw [Int.pow_add,Int.mul_comm]; rfl] at this
  exact this
 have c2:604462909807314587353088*2^j<=c-a:=by
  rcases a3 with g | g
  ·have:=cz g; omega
  ·omega
 have d1:=nr_ge nd L79 c2
 have ed:=nr_err (i:=j+27) nd (by rw [e27]; omega)
 rw [e27] at ed
 have dd:(134217728*2^j:Int) ∣ d:=by rw [<- e27]; exact fl_units nd.1 (by rw [e27]; omega)
 have dcd:=Int.dvd_sub dc dd
 have hx:Fl (c-d):=by
  refine fl_of (k:=j+27) (by rw [e27]; exact dcd) ?_
  rw [e27]; omega
 have eh:=nr_self hx nh
 have top:((c-d).natAbs:Int)<=9007199254740992*2^j:=by
  -- a multiple of 2^27 units within 2^26 of what is below 2^53
  by_cases g:c-d<=9007199254740992*2^j
  ·omega
  ·exfalso
   have d2:(134217728*2^j:Int) ∣ -(c-d):=(Int.dvd_neg).2 dcd
   have:=mult_le (q:=134217728*2^j) (m:=-67108864) (by omega) d2 (by omega)
   omega
 have dal:(2^j:Int) ∣ a-(c-d):=Int.dvd_sub da (Int.dvd_trans ⟨134217728,by rw [Int.mul_comm]⟩ dcd)
 have hl:Fl (a-(c-d)):=fl_of (k:=j) dal (by omega)
 rw [eh] at nl ⊢
 have el:=nr_self hl nl
 exact ⟨rfl,el,dcd,dal,top,by omega⟩
theorem Spl.neg {a h:Int} {j:Nat} (s:Spl a h j):Spl (-a) (-h) j :=
 ⟨(Int.dvd_neg).2 s.up,by rw [show -a - -h=-(a-h) by omega]; exact (Int.dvd_neg).2 s.lo,by rw [Int.natAbs_neg]; exact s.top,by rw [show -a - -h=-(a-h) by omega,Int.natAbs_neg]; exact s.low⟩
theorem split_norm {a c d h l:Int} {j:Nat} (da:(2^j:Int) ∣ a) (a0:4503599627370496*2^j<=(a.natAbs:Int)) (a1:(a.natAbs:Int)<9007199254740992*2^j)
  (nc:Nr (134217729*a) c) (nd:Nr (c-a) d) (nh:Nr (c-d) h) (nl:Nr (a-h) l):h=c-d∧l=a-h∧Spl a h j:=by
 rcases Int.le_total 0 a with g | g
 ·exact split_pos da (by omega) (by omega) nc nd nh nl
 ·have n1:=nc.neg
  rw [show -(134217729*a)=134217729 * -a by omega] at n1
  have n2:=nd.neg
  rw [show -(c-a)=-c - -a by omega] at n2
  have n3:=nh.neg
  rw [show -(c-d)=-c - -d by omega] at n3
  have n4:=nl.neg
  rw [show -(a-h)=-a - -h by omega] at n4
  obtain ⟨e1,e2,s⟩:=split_pos ((Int.dvd_neg).2 da) (by omega) (by omega) n1 n2 n3 n4
  have:=s.neg
  rw [Int.neg_neg,Int.neg_neg] at this
  exact ⟨by omega,by omega,this⟩
theorem natAbs_p2 (i:Nat) (t:Int):((2^i*t).natAbs:Int)=2^i*(t.natAbs:Int):=by
 have hi:=p2 i
 rw [Int.natAbs_mul,Int.natCast_mul,show ((2^i:Int).natAbs:Int)=2^i by omega]
theorem Fl.down {i:Nat} {t:Int} (h:Fl (2^i*t)):Fl t:=by
 obtain ⟨k,d,b⟩:=h
 rw [natAbs_p2] at b
 rcases Nat.le_total i k with c | c
 ·obtain ⟨e,rfl⟩:∃ e,k=i+e:=⟨k-i,by omega⟩
  rw [Int.pow_add] at d b
  refine ⟨e,Int.dvd_of_mul_dvd_mul_left (by have:=p2 i; omega) d,?_⟩
  have e2:(9007199254740992:Int)*(2^i*2^e)=2^i*(9007199254740992*2^e):=by rw [<- Int.mul_assoc,<- Int.mul_assoc,Int.mul_comm _ (2^i)]
  rw [e2] at b
  exact Int.lt_of_mul_lt_mul_left b (Int.le_of_lt (p2 i))
 ·refine ⟨0,⟨t,by simp⟩,?_⟩
  have h1:(9007199254740992:Int)*2^k<=2^i*9007199254740992:=by rw [Int.mul_comm]; exact Int.mul_le_mul_of_nonneg_right (p2le c) (by decide)
  have h2:=Int.lt_of_mul_lt_mul_left (Int.lt_of_lt_of_le b h1) (Int.le_of_lt (p2 i))
  simpa using h2
theorem Fl.up {t:Int} (h:Fl t) (i:Nat):Fl (2^i*t):=by
 obtain ⟨k,⟨c,rfl⟩,b⟩:=h
 refine ⟨i+k,⟨c,by rw [Int.pow_add,Int.mul_assoc]⟩,?_⟩
 rw [natAbs_p2,Int.pow_add]
 have e2:(9007199254740992:Int)*(2^i*2^k)=2^i*(9007199254740992*2^k):=by rw [<- Int.mul_assoc,<- Int.mul_assoc,Int.mul_comm _ (2^i)]
 rw [e2]
 exact Int.mul_lt_mul_of_pos_left b (p2 i)
theorem nr_scale {S h:Int} (n:Nr S h) (i:Nat):Nr (2^i*S) (2^i*h):=by
 have hi:=p2 i
 have key:∀ g:Int,Fl g->((2^i*h-2^i*S).natAbs:Int)<=((2^i*g-2^i*S).natAbs:Int):=by
  intro g hg
  rw [<- Int.mul_sub,<- Int.mul_sub,natAbs_p2,natAbs_p2]
  exact Int.mul_le_mul_of_nonneg_left (by have:=n.2 g hg; omega) (Int.le_of_lt hi)
 refine ⟨n.1.up i,fun f hf=>?_⟩
 by_cases d:(2^i:Int) ∣ f
 ·obtain ⟨g,rfl⟩:=d
  have:=key g hf.down
  omega
 ·-- f is small: the next whole number of units on S's side is a float,and nearer
  obtain ⟨j,dj,bj⟩:=hf
  have hji:j<i:=by
   rcases Nat.lt_or_ge j i with c | c
   ·exact c
   ·exact absurd (Int.dvd_trans (p2dvd c) dj) d
  have hfb:(f.natAbs:Int)<4503599627370496*2^i:=by
   have:=p2le (show j+1<=i by omega)
   rw [p2s] at this
   omega
  have em:=Int.emod_add_mul_ediv f (2^i)
  have m0:=Int.emod_nonneg f (show (2:Int)^i≠0 by omega)
  have m1:=Int.emod_lt_of_pos f hi
  obtain ⟨e,he⟩:∃ e,f/2^i=e:=⟨_,rfl⟩
  rw [he] at em
  have small:∀ g:Int,((2^i*g).natAbs:Int)<=4503599627370496*2^i+2^i->Fl g:=by
   intro g hg
   rw [natAbs_p2] at hg
   refine fl_of (k:=0) ⟨g,by simp⟩ ?_
   have:(2:Int)^i*(g.natAbs:Int)<=2^i*4503599627370497:=by omega
   have:=Int.le_of_mul_le_mul_left this hi
   simp
   omega
  rcases Int.lt_or_le e S with c | c
  ·have h1:=key (e+1) (small (e+1) (by rw [Int.mul_add,Int.mul_one]; omega))
   have h2:(2:Int)^i*(e+1)<=2^i*S:=Int.mul_le_mul_of_nonneg_left (by omega) (Int.le_of_lt hi)
   rw [Int.mul_add,Int.mul_one] at h1 h2
   omega
  ·have h1:=key e (small e (by omega))
   have h2:(2:Int)^i*S<=2^i*e:=Int.mul_le_mul_of_nonneg_left (by omega) (Int.le_of_lt hi)
   omega
theorem norm_steps (j:Nat):∀ (n:Nat) (a:Int),((a.natAbs:Int)<9007199254740992*2^j)->(4503599627370496*2^j<=2^n*(a.natAbs:Int))->∃ x:Nat,4503599627370496*2^j<=((2^x*a).natAbs:Int)∧((2^x*a).natAbs:Int)<9007199254740992*2^j:=by
 intro n
 induction n with
 | zero=>
  intro a h1 h2
  rw [Int.pow_zero,Int.one_mul] at h2
  exact ⟨0,by rw [Int.pow_zero,Int.one_mul]; exact ⟨h2,h1⟩⟩
 | succ n ih=>
  intro a h1 h2
  by_cases c:4503599627370496*2^j<=(a.natAbs:Int)
  ·exact ⟨0,by rw [Int.pow_zero,Int.one_mul]; exact ⟨c,h1⟩⟩
  ·have e:((2*a).natAbs:Int)=2*(a.natAbs:Int):=by omega
   obtain ⟨x,g⟩:=ih (2*a) (by omega) (by rw [e,<- Int.mul_assoc,Int.mul_comm (2^n) 2,<- p2s]; exact h2)
   rw [<- Int.mul_assoc,Int.mul_comm (2^x) 2,<- p2s] at g
   exact ⟨x+1,g⟩
theorem fl_norm {a:Int} (h:Fl a) (h0:a≠0):∃ x j:Nat,(2^j:Int) ∣ 2^x*a∧4503599627370496*2^j<=((2^x*a).natAbs:Int)∧((2^x*a).natAbs:Int)<9007199254740992*2^j:=by
 obtain ⟨j,d,b⟩:=h
 have hj:=p2 j
 have h1:(2^j:Int)<=(a.natAbs:Int):=Int.le_of_dvd (by omega) (Int.dvd_natAbs.2 d)
 obtain ⟨x,g⟩:=norm_steps j 52 a b (by rw [show (2:Int)^52=4503599627370496 by decide]; omega)
 exact ⟨x,j,Int.dvd_mul_of_dvd_right d,g⟩
theorem split_fl {a c d h l:Int} (ha:Fl a) (h0:a≠0) (nc:Nr (134217729*a) c) (nd:Nr (c-a) d) (nh:Nr (c-d) h) (nl:Nr (a-h) l) :
  l=a-h∧∃ x j:Nat,Spl (2^x*a) (2^x*h) j∧4503599627370496*2^j<=((2^x*a).natAbs:Int)∧((2^x*a).natAbs:Int)<9007199254740992*2^j:=by
 obtain ⟨x,j,g1,g2,g3⟩:=fl_norm ha h0
 have n1:=nr_scale nc x
 rw [show (2:Int)^x*(134217729*a)=134217729*(2^x*a) by rw [<- Int.mul_assoc,Int.mul_comm (2^x),Int.mul_assoc]] at n1
 have n2:=nr_scale nd x
 rw [Int.mul_sub] at n2
 have n3:=nr_scale nh x
 rw [Int.mul_sub] at n3
 have n4:=nr_scale nl x
 rw [Int.mul_sub] at n4
 obtain ⟨e1,e2,s⟩:=split_norm g1 g2 g3 n1 n2 n3 n4
 rw [<- Int.mul_sub] at e2
 exact ⟨Int.eq_of_mul_eq_mul_left (by have:=p2 x; omega) e2,x,j,s,g2,g3⟩
theorem abs_mul_le {x y:Int} {X Y:Int} (hx:(x.natAbs:Int)<=X) (hy:(y.natAbs:Int)<=Y):((x*y).natAbs:Int)<=X*Y:=by
 rw [Int.natAbs_mul,Int.natCast_mul]
 exact Int.mul_le_mul hx hy (by omega) (by omega)
theorem abs_mul_ge {x y:Int} {X Y:Int} (hX:0<=X) (hY:0<=Y) (hx:X<=(x.natAbs:Int)) (hy:Y<=(y.natAbs:Int)):X*Y<=((x*y).natAbs:Int):=by
 rw [Int.natAbs_mul,Int.natCast_mul]
 exact Int.mul_le_mul hx hy hY (by omega)
theorem prod2 (c d:Int) (i j:Nat):(c*2^i)*(d*2^j)=c*d*2^(i+j):=by
 rw [Int.pow_add,Int.mul_assoc,Int.mul_assoc]
 congr 1
 rw [<- Int.mul_assoc,<- Int.mul_assoc,Int.mul_comm (2^i) d]
theorem dr0 (a b c d:Int):a+c+(b+d)=a+b+c+d:=by omega
theorem dr1 (a b c d:Int):a+b+c+d=a+(b+d)+c:=by omega
theorem dr2 (a b c d:Int):a+b+c+d=a+b+(c+d):=by omega
theorem dr3 (h a b c d:Int):d-(h-a-b-c)=a+b+c+d-h:=by omega
theorem dk1 {H AB PR QB PS g:Int} (e:AB=PR+QB+PS) (h:2*((H-AB).natAbs:Int)<=9007199254740992*g) (q:(QB.natAbs:Int)<=604462909807314587353088*g) (s:(PS.natAbs:Int)<=604462909807314587353088*g):((H-PR).natAbs:Int)<=9007199254740992*(4503599627370496*g):=by omega
theorem dk2 {H AB PR QR AS g:Int} (e:AB=PR+QR+AS) (h:2*((H-AB).natAbs:Int)<=9007199254740992*g) (q:(AS.natAbs:Int)<=604462909807314587353088*g):((H-PR-QR).natAbs:Int)<=9007199254740992*(134217728*g):=by omega
theorem dk3 {H AB PR QR PS QS g:Int} (e:AB=PR+QR+PS+QS) (h:2*((H-AB).natAbs:Int)<=9007199254740992*g) (q:(QS.natAbs:Int)<=4503599627370496*g):((H-PR-QR-PS).natAbs:Int)<=9007199254740992*g:=by omega
theorem dk4 {H AB PR QR PS QS g:Int} (e:AB=PR+QR+PS+QS) (h:2*((H-AB).natAbs:Int)<=9007199254740992*g):((QS-(H-PR-QR-PS)).natAbs:Int)<=9007199254740992*g:=by omega
theorem dk5 {H AB G:Int} (n:Nr AB H) (f:Fl G) (h:G<=(AB.natAbs:Int)):G<=(H.natAbs:Int):=by
 rcases Int.le_total 0 AB with c | c
 ·have:=nr_ge n f (by omega); omega
 ·have:=nr_le n f.neg (by omega); omega
theorem dk6 {x c d g:Int} (hg:0<g) (h:(x.natAbs:Int)<=c*g) (hcd:c<=d):(x.natAbs:Int)<=d*g:=Int.le_trans h (Int.mul_le_mul_of_nonneg_right hcd (Int.le_of_lt hg))
theorem dk7 {x c d e g:Int} (hg:0<g) (h:(x.natAbs:Int)<=c*g) (hcd:c<=d*e):(x.natAbs:Int)<=d*(e*g):=by rw [<- Int.mul_assoc]; exact dk6 hg h hcd
theorem dekker {A B P R H x1 t1 x2 t2 x3 t3 x4 l:Int} {i j:Nat} (sa:Spl A P i) (sb:Spl B R j) (a0:4503599627370496*2^i<=(A.natAbs:Int)) (a1:(A.natAbs:Int)<9007199254740992*2^i)
  (b0:4503599627370496*2^j<=(B.natAbs:Int)) (b1:(B.natAbs:Int)<9007199254740992*2^j)
  (nH:Nr (A*B) H) (n1:Nr (P*R) x1) (m1:Nr (H-x1) t1) (n2:Nr ((A-P)*R) x2) (m2:Nr (t1-x2) t2) (n3:Nr (P*(B-R)) x3) (m3:Nr (t2-x3) t3) (n4:Nr ((A-P)*(B-R)) x4) (m4:Nr (x4-t3) l):l=A*B-H:=by
 obtain ⟨Q,hQ⟩:∃ Q,A-P=Q:=⟨_,rfl⟩
 obtain ⟨S,hS⟩:∃ S,B-R=S:=⟨_,rfl⟩
 obtain ⟨u1,u2,u3,u4⟩:=sa
 obtain ⟨v1,v2,v3,v4⟩:=sb
 rw [hQ] at u2 u4 n2 n4
 rw [hS] at v2 v4 n3 n4
 have hi:=p2 i
 have hj:=p2 j
 have hg:=p2 (i+j)
 -- sizes
 have zAB:=abs_mul_ge (by omega) (by omega) a0 b0
 rw [prod2] at zAB
 have yAB:=abs_mul_le (Int.le_of_lt a1) (Int.le_of_lt b1)
 rw [prod2] at yAB
 have yQS:=abs_mul_le u4 v4
 rw [prod2] at yQS
 have yQR:=abs_mul_le u4 v3
 rw [prod2] at yQR
 have yPS:=abs_mul_le u3 v4
 rw [prod2] at yPS
 have yPR:=abs_mul_le u3 v3
 rw [prod2] at yPR
 have yQB:=abs_mul_le u4 (Int.le_of_lt b1)
 rw [prod2] at yQB
 have yAS:=abs_mul_le (Int.le_of_lt a1) v4
 rw [prod2] at yAS
 -- units
 have dPR:(18014398509481984*2^(i+j):Int) ∣ P*R:=by
  have:=Int.mul_dvd_mul u1 v1
  rw [prod2] at this
  exact this
 have dQR:(134217728*2^(i+j):Int) ∣ Q*R:=by
  have:=Int.mul_dvd_mul u2 v1
  rw [show (2:Int)^i*(134217728*2^j)=134217728*2^(i+j) by rw [<- Int.mul_assoc,Int.mul_comm (2^i),Int.mul_assoc,<- Int.pow_add]] at this
  exact this
 have dPS:(134217728*2^(i+j):Int) ∣ P*S:=by
  have:=Int.mul_dvd_mul u1 v2
  rw [show 134217728*(2:Int)^i*2^j=134217728*2^(i+j) by rw [Int.mul_assoc,<- Int.pow_add]] at this
  exact this
 have dQS:(2^(i+j):Int) ∣ Q*S:=by
  have:=Int.mul_dvd_mul u2 v2
  rwa [<- Int.pow_add] at this
 have eA:A=P+Q:=by omega
 have eB:B=R+S:=by omega
 have e1:A*B=P*R+Q*R+P*S+Q*S:=by
  rw [eA,eB,Int.add_mul,Int.mul_add,Int.mul_add]; exact dr0 _ _ _ _
 have e2:Q*B=Q*R+Q*S:=by rw [eB,Int.mul_add]
 have e3:A*S=P*S+Q*S:=by rw [eA,Int.add_mul]
 have e4:A*B=P*R+Q*B+P*S:=by rw [e1,e2]; exact dr1 _ _ _ _
 have e5:A*B=P*R+Q*R+A*S:=by rw [e1,e3]; exact dr2 _ _ _ _
 clear eA eB hQ hS e2 e3
 generalize P*R=PR at *
 generalize Q*R=QR at *
 generalize P*S=PS at *
 generalize Q*S=QS at *
 generalize A*S=AS at *
 generalize Q*B=QB at *
 generalize A*B=AB at *
 obtain ⟨g,hgg⟩:∃ g:Int,(2:Int)^(i+j)=g:=⟨_,rfl⟩
 have w27:(2:Int)^(i+j+27)=134217728*g:=by rw [Int.pow_add,hgg,Int.mul_comm]; rfl
 have w52:(2:Int)^(i+j+52)=4503599627370496*g:=by rw [Int.pow_add,hgg,Int.mul_comm]; rfl
 have w53:(2:Int)^(i+j+53)=9007199254740992*g:=by rw [Int.pow_add,hgg,Int.mul_comm]; rfl
 have w54:(2:Int)^(i+j+54)=18014398509481984*g:=by rw [Int.pow_add,hgg,Int.mul_comm]; rfl
 rw [hgg] at zAB yAB yQS yQR yPS yPR yQB yAS dPR dQR dPS dQS hg
 -- the product
 have eH:=nr_err (i:=i+j+53) nH (by rw [w53]; exact dk7 hg yAB (by decide))
 rw [w53] at eH
 have L104:Fl (20282409603651670423947251286016*g):=by
  have:=fl_p2 (i+j+52) (m:=4503599627370496) (by decide)
  rw [w52] at this
  rwa [show ((4503599627370496:Nat):Int)*(4503599627370496*g)=20282409603651670423947251286016*g by rw [<- Int.mul_assoc]; rfl] at this
 have h104:20282409603651670423947251286016*g<=(H.natAbs:Int):=dk5 nH L104 zAB
 have dH:(4503599627370496*g:Int) ∣ H:=by rw [<- w52]; exact fl_units nH.1 (by rw [w52,<- Int.mul_assoc]; exact h104)
 have dvA:∀ {c d x:Int},(c*d*g:Int) ∣ x->(d*g:Int) ∣ x:=fun {c d x} h=>Int.dvd_trans ⟨c,by rw [Int.mul_assoc,Int.mul_comm]⟩ h
 -- the steps
 have f1:=nr_self (fl_of (k:=i+j+54) (by rw [w54]; exact dPR) (by rw [w54]; exact dk7 hg yPR (by decide))) n1
 subst f1
 have d1:(4503599627370496*g:Int) ∣ H-x1:=Int.dvd_sub dH (dvA (c:=4) dPR)
 have f2:=nr_self (fl_of (k:=i+j+52) (by rw [w52]; exact d1) (by rw [w52]; exact dk1 e4 eH yQB yPS)) m1
 subst f2
 have f3:=nr_self (fl_of (k:=i+j+27) (by rw [w27]; exact dQR) (by rw [w27]; exact dk7 hg yQR (by decide))) n2
 subst f3
 have d2:(134217728*g:Int) ∣ H-x1-x2:=Int.dvd_sub (dvA (c:=33554432) d1) dQR
 have f4:=nr_self (fl_of (k:=i+j+27) (by rw [w27]; exact d2) (by rw [w27]; exact dk2 e5 eH yAS)) m2
 subst f4
 have f5:=nr_self (fl_of (k:=i+j+27) (by rw [w27]; exact dPS) (by rw [w27]; exact dk7 hg yPS (by decide))) n3
 subst f5
 have d3:(g:Int) ∣ H-x1-x2-x3:=by
  have:=Int.dvd_sub d2 dPS
  exact Int.dvd_trans ⟨134217728,by rw [Int.mul_comm]⟩ this
 have f6:=nr_self (fl_of (k:=i+j) (by rw [hgg]; exact d3) (by rw [hgg]; exact dk3 e1 eH yQS)) m3
 subst f6
 have f7:=nr_self (fl_of (k:=i+j) (by rw [hgg]; exact dQS) (by rw [hgg]; exact dk6 hg yQS (by decide))) n4
 subst f7
 have d4:(g:Int) ∣ x4-(H-x1-x2-x3):=Int.dvd_sub dQS d3
 have f8:=nr_self (fl_of (k:=i+j) (by rw [hgg]; exact d4) (by rw [hgg]; exact dk4 e1 eH)) m4
 rw [f8,e1]
 exact dr3 _ _ _ _ _
end Go.Proofs.YtjjihmnbdeeedaaGreatDoor.M
