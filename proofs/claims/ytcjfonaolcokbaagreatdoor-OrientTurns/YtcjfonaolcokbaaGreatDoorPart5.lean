/- Parts of the proof. -/
import Derived.Test.YtcjfonaolcokbaaGreatDoorPart4
set_option maxRecDepth 100000
set_option maxHeartbeats 8000000
set_option linter.unusedVariables false
set_option linter.unusedSimpArgs false
namespace Go.Proofs.YtcjfonaolcokbaaGreatDoor
open Go Go.RowKit Go.Proofs.YtcjfonaolcokbaaGreatDoor.M Ieee
def uD (t D:Nat):Int:=if t=0 then 0 else if 2*t<D then 1 else if 2*t=D then 2 else 3
theorem xE {mag u t D:Nat} {q:Int} (hq:0<q) (hm:mag=u*D+t) (ht:t<D):M.km ((mag:Int)*q) u ((D:Int)*q) (uD t D):=by
 have e:(mag:Int)*q=(u:Int)*((D:Int)*q)+(t:Int)*q:=by
  rw [hm]; push_cast; rw [Int.add_mul,Int.mul_assoc]
 have k1:∀ a b:Nat,a<b->(a:Int)*q<(b:Int)*q:=fun a b h=>Int.mul_lt_mul_of_pos_right (by omega) hq
 have t0:0<=(t:Int)*q:=Int.mul_nonneg (by omega) (Int.le_of_lt hq)
 have t1:=k1 t D ht
 have e2:((2*t:Nat):Int)*q=2*((t:Int)*q):=by push_cast; rw [Int.mul_assoc]
 have z1:2*t<D->2*((t:Int)*q)<(D:Int)*q:=fun h=>by rw [<- e2]; exact k1 _ _ h
 have z2:2*t=D->2*((t:Int)*q)=(D:Int)*q:=fun h=>by rw [<- e2,h]
 have z3:D<2*t->(D:Int)*q<2*((t:Int)*q):=fun h=>by rw [<- e2]; exact k1 _ _ h
 have z4:0<t->0<(t:Int)*q:=fun h=>Int.mul_pos (by omega) hq
 have z5:t=0->(t:Int)*q=0:=fun h=>by rw [h]; simp
 obtain ⟨U,hU⟩:∃ U,(u:Int)*((D:Int)*q)=U:=⟨_,rfl⟩
 rw [e,hU]
 generalize (t:Int)*q=T at *
 generalize (D:Int)*q=R at *
 unfold uD
 by_cases c0:t=0
 ·rw [if_pos c0]
  have:=z5 c0
  exact M.km.mk' hU (by omega) (by omega) (by constructor <;> intro h <;> omega) (by constructor <;> intro h <;> omega) (by constructor <;> intro h <;> omega) (by constructor <;> intro h <;> omega)
 ·have:=z4 (by omega)
  rw [if_neg c0]
  by_cases c1:2*t<D
  ·rw [if_pos c1]
   have:=z1 c1
   exact M.km.mk' hU (by omega) (by omega) (by constructor <;> intro h <;> omega) (by constructor <;> intro h <;> omega) (by constructor <;> intro h <;> omega) (by constructor <;> intro h <;> omega)
  ·rw [if_neg c1]
   by_cases c2:2*t=D
   ·rw [if_pos c2]
    have:=z2 c2
    exact M.km.mk' hU (by omega) (by omega) (by constructor <;> intro h <;> omega) (by constructor <;> intro h <;> omega) (by constructor <;> intro h <;> omega) (by constructor <;> intro h <;> omega)
   ·rw [if_neg c2]
    have:=z3 (by omega)
    exact M.km.mk' hU (by omega) (by omega) (by constructor <;> intro h <;> omega) (by constructor <;> intro h <;> omega) (by constructor <;> intro h <;> omega) (by constructor <;> intro h <;> omega)
theorem KI (neg odd:Bool) (t D:Nat) (ht:t<D):bM 0 neg odd (uD t D)=(decide (D<2*t) || (decide (D=2*t) && odd)):=by
 unfold bM uD
 rw [if_pos rfl]
 by_cases c0:t=0
 ·rw [if_pos c0,decide_eq_false (p:=D<2*t) (by omega),decide_eq_false (p:=D=2*t) (by omega)]
  simp
 ·rw [if_neg c0]
  by_cases c1:2*t<D
  ·rw [if_pos c1,decide_eq_false (p:=D<2*t) (by omega),decide_eq_false (p:=D=2*t) (by omega)]
   simp
  ·rw [if_neg c1]
   by_cases c2:2*t=D
   ·rw [if_pos c2,decide_eq_false (p:=D<2*t) (by omega),decide_eq_true (p:=D=2*t) (by omega)]
    simp
   ·rw [if_neg c2,decide_eq_true (p:=D<2*t) (by omega)]
    simp
theorem FY (neg:Bool) (n d:Nat) (hn:n≠0):Toward.even.cut neg n d=n/2^d+(if bM 0 neg (decide (n/2^d % 2=1)) (uD (n % 2^d) (2^d)) then 1 else 0):=by
 have h2:n<2^(n.log2+1):=Nat.lt_log2_self
 have hD:=Nat.two_pow_pos d
 rw [KI _ _ _ _ (Nat.mod_lt _ hD)]
 unfold Toward.cut
 dsimp only
 by_cases h:d<=n.log2+2
 ·rw [Nat.min_eq_left h,Nat.shiftLeft_eq,Nat.one_mul]
  congr 1
  have e1:(2^d == 2*(n % 2^d))=decide (2^d=2*(n % 2^d)):=rfl
  have e2:(n/2^d % 2 == 1)=decide (n/2^d % 2=1):=rfl
  rw [e1,e2]
  cases (decide (2^d<2*(n % 2^d)) || decide (2^d=2*(n % 2^d)) && decide (n/2^d % 2=1)) <;> rfl
 ·rw [Nat.min_eq_right (by omega),Nat.shiftLeft_eq,Nat.one_mul]
  have h3:2^(n.log2+2)=2*2^(n.log2+1):=by rw [Nat.pow_succ,Nat.mul_comm]
  have h4:2^(n.log2+2)<=2^d:=Nat.pow_le_pow_right (by decide) (by omega)
  have q1:n/2^(n.log2+2)=0:=Nat.div_eq_of_lt (by omega)
  have q2:n % 2^(n.log2+2)=n:=Nat.mod_eq_of_lt (by omega)
  have q3:n/2^d=0:=Nat.div_eq_of_lt (by omega)
  have q4:n % 2^d=n:=Nat.mod_eq_of_lt (by omega)
  rw [q1,q2,q3,q4,decide_eq_false (p:=2^d<2*n) (by omega),decide_eq_false (p:=2^d=2*n) (by omega),decide_eq_false (p:=2^(n.log2+2)<2*n) (by omega)]
  have e1:(2^(n.log2+2) == 2*n)=decide (2^(n.log2+2)=2*n):=rfl
  rw [e1,decide_eq_false (p:=2^(n.log2+2)=2*n) (by omega)]
  rfl
theorem tm:Ieee.double.leastPlace=-1074:=by decide
theorem Mr:Ieee.double.fractionBits=52:=by decide
theorem kK:Ieee.double.binade=4503599627370496:=by decide
def oH (mag:Nat) (place:Int):Int:=max (place+(mag.log2:Int)-52) (-1074)
theorem xF (neg:Bool) {mag:Nat} (place:Int) (h:mag≠0):Ieee.double.nearest neg mag place=Ieee.double.word neg (min ((oH mag place+1074).toNat*4503599627370496+Toward.even.cut neg (mag*2^(place-oH mag place).toNat) (oH mag place-place).toNat) 9218868437227405312):=by
 unfold Format.nearest
 rw [if_neg h,tm,Mr,kK,mc]
 dsimp only
 rw [Nat.shiftLeft_eq,show (oH mag place+1074)=(oH mag place - -1074) by omega]
 rfl
theorem KJ {r:Nat} {up:Bool} {neg:Bool} {left:Int} (hup:bM 0 neg (decide (r % 2=1)) left=up):((min (r+(if up=true then 1 else 0)) 9218868437227405312:Nat):Int)=bk 0 neg r left:=by
 unfold bk
 rw [hup]
 by_cases h:(r:Int)<9218868437227405312
 ·rw [if_pos h]
  cases up
  ·simp only [Bool.false_eq_true,if_false]; omega
  ·simp only [if_true]; omega
 ·rw [if_neg h]
  have hb:c9 0 neg=9218868437227405312:=by cases neg <;> rfl
  rw [hb]
  split <;> omega
theorem FZ (a u:Nat):decide ((a*4503599627370496+u) % 2=1)=decide (u % 2=1):=by congr 1; apply propext; omega
theorem qb (neg:Bool) {mag:Nat} {place:Int} (h:mag≠0) (hp:-4194304<=place) :
  ∃ (r0:Nat) (left:Int),dM ((mag:Int)*pw place) r0 left∧Ieee.double.nearest neg mag place=Ieee.double.word neg (bk 0 neg r0 left).toNat:=by
 rw [xF neg place h]
 have h1:=Nat.log2_self_le h
 have h2:mag<2^(mag.log2+1):=Nat.lt_log2_self
 have hL:oH mag place=max (place+(mag.log2:Int)-52) (-1074):=rfl
 obtain ⟨l,hl⟩:∃ l,oH mag place=l:=⟨_,rfl⟩
 rw [hl] at hL ⊢
 have hl0:-1074<=l:=by omega
 have hl1:place+(mag.log2:Int)-52<=l:=by omega
 have hl2:-1074<l->l=place+(mag.log2:Int)-52:=by omega
 obtain ⟨a,ha⟩:∃ a:Nat,(l+1074).toNat=a:=⟨_,rfl⟩
 have hal:l=-1074+(a:Int):=by omega
 have e52:(2:Nat)^52=4503599627370496:=by decide
 have e53:(2:Nat)^53=9007199254740992:=by decide
 rw [ha]
 -- u units of 2^l and what is left
 have main:∃ (u:Nat) (left:Int),M.km ((mag:Int)*pw place) u (pw l) left∧Toward.even.cut neg (mag*2^(place-l).toNat) (l-place).toNat=u+(if bM 0 neg (decide (u % 2=1)) left then 1 else 0)∧u<9007199254740992∧(0<a->4503599627370496<=u):=by
  by_cases hs:l<=place
  ·obtain ⟨k,hk⟩:∃ k:Nat,(place-l).toNat=k:=⟨_,rfl⟩
   have hpl:place=l+(k:Int):=by omega
   rw [hk,show (l-place).toNat=0 by omega,FX]
   refine ⟨mag*2^k,0,?_,?_,?_,?_⟩
   ·have e:(mag:Int)*pw place=((mag*2^k:Nat):Int)*pw l:=by
     rw [hpl,ff (by omega),Int.mul_comm (pw l)]
     push_cast
     rw [Int.mul_assoc]
    have:=xE (mag:=mag*2^k) (u:=mag*2^k) (t:=0) (D:=1) (bD l) (by omega) (by decide)
    rw [e]
    have e1:((1:Nat):Int)*pw l=pw l:=by rw [Int.natCast_one,Int.one_mul]
    rw [e1] at this
    exact this
   ·have:bM 0 neg (decide (mag*2^k % 2=1)) 0=false:=by
     cases hu:bM 0 neg (decide (mag*2^k % 2=1)) 0
     ·rfl
     ·exact (iS hu).elim
    rw [this]
    rfl
   ·have b1:mag*2^k<2^(mag.log2+1)*2^k:=Nat.mul_lt_mul_of_pos_right h2 (Nat.two_pow_pos _)
    rw [<- Nat.pow_add] at b1
    have b2:2^(mag.log2+1+k)<=2^53:=Nat.pow_le_pow_right (by decide) (by omega)
    omega
   ·intro h0
    have b1:2^mag.log2*2^k<=mag*2^k:=Nat.mul_le_mul_right _ h1
    rw [<- Nat.pow_add] at b1
    have b2:2^52<=2^(mag.log2+k):=Nat.pow_le_pow_right (by decide) (by have:=hl2 (by omega); omega)
    omega
  ·obtain ⟨k,hk⟩:∃ k:Nat,(l-place).toNat=k:=⟨_,rfl⟩
   have hpl:l=place+(k:Int):=by omega
   rw [hk,show (place-l).toNat=0 by omega,Nat.pow_zero,Nat.mul_one,FY neg mag k h]
   have hD:=Nat.two_pow_pos k
   have hdm:=Nat.div_add_mod mag (2^k)
   have hml:=Nat.mod_lt mag hD
   refine ⟨mag/2^k,uD (mag % 2^k) (2^k),?_,rfl,?_,?_⟩
   ·have:=xE (mag:=mag) (u:=mag/2^k) (t:=mag % 2^k) (D:=2^k) (bD place) (by rw [Nat.mul_comm]; exact hdm.symm) hml
    have e:pw l=((2^k:Nat):Int)*pw place:=by
     rw [hpl,ff hp,Int.mul_comm]
     push_cast
     rfl
    rw [e]
    exact this
   ·rw [Nat.div_lt_iff_lt_mul hD,<- e53,<- Nat.pow_add]
    exact Nat.lt_of_lt_of_le h2 (Nat.pow_le_pow_right (by decide) (by omega))
   ·intro h0
    rw [Nat.le_div_iff_mul_le hD,<- e52,<- Nat.pow_add]
    exact Nat.le_trans (Nat.pow_le_pow_right (by decide) (by have:=hl2 (by omega); omega)) h1
 obtain ⟨u,left,hLeft,hcut,hu1,hu2⟩:=main
 rw [hcut]
 have hV:=pM Ieee.double a u (by rw [kK]; omega) (fun q=>by rw [kK]; exact hu2 q)
 rw [kK] at hV
 have hpw:pw l=2^a*pw (-1074):=by rw [hal,ff (by decide),Int.mul_comm]
 rw [hpw] at hLeft
 refine ⟨a*4503599627370496+u,left,vz hLeft hV.1 hV.2,?_⟩
 have hm:=KJ (r:=a*4503599627370496+u) (neg:=neg) (left:=left) rfl
 rw [FZ] at hm
 rw [<- hm,Int.toNat_natCast,Nat.add_assoc]
end Go.Proofs.YtcjfonaolcokbaaGreatDoor
namespace Go.Proofs.YtcjfonaolcokbaaGreatDoor
open Go Go.RowKit Go.Proofs.YtcjfonaolcokbaaGreatDoor.M
theorem dN {b:Int} (h:ak b=true):Bd 4000 (ar b):=by
 obtain ⟨i0,i1,i2,i3⟩:=eE h
 have h30:(9007199254740992:Int)<=P 30:=by unfold P; decide
 exact KE i0 (Int.lt_of_lt_of_le (by omega) h30) (by omega) (by omega)
theorem Bd.sub {B:Nat} {V W:Int} (h:Bd B V) (k:Bd B W) (hB:B<4194304):Bd (B+1) (V-W):=by
 rw [Int.sub_eq_add_neg]
 exact h.add k.neg hB
theorem tn {b:Int} {w:World} (h:ak b=true) (H:aD w):Calls Tryz.prog 62 #[.int .i64 b] w fun r w'=>∃ v,r=.returned (.tuple #[v,.int .i64 0])∧bG w w' (ar b) v:=by
 refine (Ac b w H.lay H.tab).mono ?_
 rintro _ w' ⟨v,er,rfl,hb,(⟨_,rfl,hD⟩ | ⟨h',_⟩)⟩
 ·exact ⟨v,rfl,hD⟩
 ·rw [h] at h'; cases h'
theorem Ms {b:Int} {w:World} (h:ak b=false) (H:aD w):Calls Tryz.prog 62 #[.int .i64 b] w fun r w'=>r=.returned (.tuple #[.agg #[.bool false,.slice none 0 0,.int .i64 0],.int .i64 10])∧Below w.heap.size w w':=by
 refine (Ac b w H.lay H.tab).mono ?_
 rintro _ w' ⟨v,er,rfl,hb,(⟨h',_⟩ | ⟨_,rfl,rfl⟩)⟩
 ·rw [h] at h'; cases h'
 ·exact ⟨rfl,hb⟩
theorem Ai {s:Bool} {r:Int} (h0:0<=r) (h1:r<=9218868437227405312) (h:s=true->0<r):aG (aC s r)≠4:=by
 obtain ⟨a,b,_⟩:=jb h0 h1 h
 intro q
 have:=(dZ a).1.1 q
 omega
theorem Jh {s:Bool} {r:Int} (h0:0<=r) (h1:r<=9218868437227405312) (h:s=true->0<r):au (aC s r)=sg s r:=by
 unfold au aC sg
 cases s
 ·simp only [Bool.false_eq_true,if_false]
  rw [if_neg (by omega)]
 ·have:=h rfl
  simp only [if_true]
  rw [if_pos (by omega)]
  omega
theorem KL {b:Int} (hb:aj b) (h:aG b≠4):rg (neg b)=rg b∧au (neg b)=-au b:=by
 unfold aj at hb
 unfold neg
 rw [if_neg h]
 unfold rg au
 by_cases h0:b<0
 ·rw [if_pos h0,if_neg (by omega),if_pos h0,if_neg (by omega),if_pos h0]; omega
 ·rw [if_neg h0,if_pos (by omega),if_neg h0,if_pos (by omega),if_neg h0]; omega
theorem Ji {b:Int} (hb:aj b) (h:aG b≠4):aG (neg b)≠4:=by
 intro q
 have h1:=(dZ (i4 hb)).1.1 q
 rw [(KL hb h).1] at h1
 exact h ((dZ hb).1.2 h1)
theorem F7 {a b:Int} (h:au b<=au a):bE a b=false:=by
 unfold bE
 rw [decide_eq_false (p:=au a<au b) (by omega),Bool.and_false,Bool.and_false]
theorem F8 {way:Int} {ng odd:Bool} {A B a b l k:Int} (h0:l=0 ↔ A=a) (h2:l=2 ↔ 2*A=a+b) (h3:l=3 ↔ a+b<2*A) (g0:k=0 ↔ B=a) (g2:k=2 ↔ 2*B=a+b) (g3:k=3 ↔ a+b<2*B) (lo:a<=A) (AB:A<=B)
  (h:bM way ng odd l=true):bM way ng odd k=true:=by
 have nz:l≠0->k≠0:=fun q e=>by
  have e1:=g0.1 e
  exact q (h0.2 (by omega))
 unfold bM at *
 split at h
 ·rename_i e
  rw [if_pos e]
  simp only [Bool.or_eq_true,Bool.and_eq_true,decide_eq_true_eq] at *
  rcases h with h | ⟨h,ho⟩
  ·left; exact g3.2 (by have:=h3.1 h; omega)
  ·have e2:=h2.1 h
   by_cases e3:2*B=a+b
   ·right; exact ⟨g2.2 e3,ho⟩
   ·left; exact g3.2 (by omega)
 ·rename_i e
  rw [if_neg e]
  split at h
  ·rename_i e2
   rw [if_pos e2]
   simp only [Bool.and_eq_true,decide_eq_true_eq] at *
   exact ⟨nz h.1,h.2⟩
  ·rename_i e2
   rw [if_neg e2]
   split at h
   ·rename_i e3
    rw [if_pos e3]
    simp only [Bool.and_eq_true,decide_eq_true_eq] at *
    exact ⟨nz h.1,h.2⟩
   ·cases h
theorem Jj {A B:Int} {r s:Nat} {l k:Int} (h:dM A r l) (g:dM B s k) (AB:A<=B):r<=s:=by
 rcases Nat.lt_or_ge s r with q | q
 ·exfalso
  have h1:=h.lo
  have g1:=g.hi
  have e:vS (s+1)<=vS r:=by
   rcases Nat.lt_or_eq_of_le (show s+1<=r from q) with q2 | q2
   ·exact Int.le_of_lt (ku q2)
   ·rw [q2]; exact Int.le_refl _
  exact absurd (Int.lt_of_lt_of_le g1 (Int.le_trans e (Int.le_trans h1 AB))) (Int.lt_irrefl _)
 ·exact q
theorem xG {way:Int} {ng:Bool} {A B:Int} {r s:Nat} {l k:Int} (h:dM A r l) (g:dM B s k) (AB:A<=B):bk way ng r l<=bk way ng s k:=by
 have hrs:=Jj h g AB
 rcases Nat.lt_or_eq_of_le hrs with q | q
 ·clear h g
  unfold bk
  by_cases hs:(s:Int)<9218868437227405312
  ·rw [if_pos hs,if_pos (by omega)]
   split <;> split <;> omega
  ·rw [if_neg hs]
   by_cases hr:(r:Int)<9218868437227405312
   ·rw [if_pos hr]
    unfold c9
    cases hu:bM way ng (decide (r % 2=1)) l
    ·simp only [Bool.false_eq_true,if_false]
     split <;> omega
    ·rw [if_pos rfl,if_pos (xw hu)]
     omega
   ·rw [if_neg hr]
    exact Int.le_refl _
 ·subst q
  have lo:=h.lo
  have h0:=h.l0
  have h2:=h.l2
  have h3:=h.l3
  have g0:=g.l0
  have g2:=g.l2
  have g3:=g.l3
  have hm:=fun odd=>@F8 way ng odd A B (vS r) (vS (r+1)) l k h0 h2 h3 g0 g2 g3 lo AB
  clear h g lo h0 h2 h3 g0 g2 g3
  unfold bk
  by_cases hr:(r:Int)<9218868437227405312
  ·rw [if_pos hr,if_pos hr]
   cases hu:bM way ng (decide (r % 2=1)) l
   ·simp only [Bool.false_eq_true,if_false]
    split <;> omega
   ·rw [hm _ hu]
    exact Int.le_refl _
  ·rw [if_neg hr,if_neg hr]
   exact Int.le_refl _
theorem mN (r:Nat):0<=vS r:=by
 rcases Nat.eq_zero_or_pos r with h | h
 ·subst h; rw [gM]; exact Int.le_refl _
 ·have:=ku h
  rw [gM] at this
  exact Int.le_of_lt this
theorem KM (ng:Bool) {r:Int} (h0:0<=r):sg (ng && decide (0<r)) r=sg ng r:=by
 by_cases h:0<r
 ·rw [decide_eq_true h,Bool.and_true]
 ·obtain rfl:r=0:=by omega
  cases ng <;> rfl
theorem lB.key {V:Int} {ng:Bool} {f:Int->Int × Bool} {A:Int} {r0:Nat} {left:Int} {way:Int} (hf:f way=(aC (ng && decide (0<bk way ng r0 left)) (bk way ng r0 left),decide (left≠0) || decide (9218868437227405312<=(r0:Int)))) :
  M.au (f way).1=sg ng (bk way ng r0 left)∧aG (f way).1≠4∧aj (f way).1:=by
 obtain ⟨g1,g2⟩:=b9 way ng r0 left
 rw [hf]
 exact ⟨(Jh g1 g2 nJ).trans (KM ng g1),Ai g1 g2 nJ,(jb g1 g2 nJ).1⟩
theorem Mt {ng mg:Bool} {A B r s:Int} (hA:0<=A) (hB:0<=B) (zB:mg=true->0<B) (r0:0<=r) (s0:0<=s) (h:sg ng A<=sg mg B) (up:ng=mg->A<=B->r<=s) (dn:ng=mg->B<=A->s<=r):sg ng r<=sg mg s:=by
 cases ng <;> cases mg
 ·exact up rfl h
 ·exfalso
  have h':A <= -B:=h
  have:=zB rfl
  omega
 ·show -r<=s
  omega
 ·have h':-A <= -B:=h
  have:=dn rfl (by omega)
  show -r <= -s
  omega
theorem Aj {V U:Int} {ng mg:Bool} {f g:Int->Int × Bool} (h:lB V ng f) (k:lB U mg g) (hVU:V<=U) (way:Int):bE (g way).1 (f way).1=false:=by
 obtain ⟨A,r,l,eV,zA,RA,hf⟩:=h
 obtain ⟨B,s,m,eU,zB,RB,hg⟩:=k
 have kf:=(lB.key (V:=V) (A:=A) (hf way)).1
 have kg:=(lB.key (V:=U) (A:=B) (hg way)).1
 have hA:0<=A:=Int.le_trans (mN r) RA.lo
 have hB:0<=B:=Int.le_trans (mN s) RB.lo
 refine F7 ?_
 rw [kf,kg]
 rw [eV,eU] at hVU
 refine Mt hA hB zB (b9 way ng r l).1 (b9 way mg s m).1 hVU (fun e AB=>?_) (fun e BA=>?_)
 ·subst e; exact xG RA RB AB
 ·subst e; exact xG RB RA BA
structure Nw (U S d:Int) (o:Bool):Prop where
 rg:aj d
 fin:ak d=true->ar d*S<=U∧(ar d*S=U ↔ o=false)
 nxt:ak (next d)=true->U<ar (next d)*S
 neg:ak d=false->d<0
theorem F9 {r:Int} (h0:0<=r) (h1:r<9218868437227405312):next (aC false r)=aC false (r+1):=by
 have hc:=Ai (s:=false) (r:=r) h0 (by omega) (fun h=>by cases h)
 unfold next
 rw [if_neg hc]
 show (if r=9218868437227405312 then r else if r=-9223372036854775808 then 1 else if r<0 then r-1 else r+1)=r+1
 rw [if_neg (by omega),if_neg (by omega),if_neg (by omega)]
theorem Jk:aK (-9223372036854775808)=0:=by decide
theorem sz {r:Nat} (h:(r:Int)<9218868437227405312):ar (aC true (r:Int))=sg true (vS r):=by
 by_cases h0:r=0
 ·subst h0
  rw [gM]
  show ar (-9223372036854775808)=sg true 0
  unfold ar
  rw [Jk,dI,dI,Int.zero_mul]
 ·exact gf h (fun _=>by omega)
theorem Jl {r:Int} (h0:0<=r) (h1:r<=9218868437227405312) (h:ak (aC false r)=true):r<9218868437227405312:=by
 rw [mj h0 h1 (fun q=>by cases q)] at h
 exact of_decide_eq_true h
theorem Nw.pos {S A:Int} {r:Nat} {o:Bool} (hr:(r:Int)<9218868437227405312) (lo:vS r*S<=A) (eq:vS r*S=A ↔ o=false) (hi:((r+1:Nat):Int)<9218868437227405312->A<vS (r+1)*S):Nw A S (aC false (r:Int)) o:=by
 have hv:ar (aC false (r:Int))=vS r:=by
  have:=gf (ng:=false) hr (fun h=>by cases h)
  rw [this]
  unfold sg
  rw [if_neg (by decide)]
 have hnx:next (aC false (r:Int))=aC false ((r+1:Nat):Int):=by
  rw [F9 (by omega) hr]; rfl
 refine ⟨(jb (by omega) (by omega) (fun h=>by cases h)).1,fun _=>?_,fun h=>?_,fun h=>?_⟩
 ·rw [hv]; exact ⟨lo,eq⟩
 ·rw [hnx] at h ⊢
  have h1:=Jl (by omega) (by omega) h
  have:=gf (ng:=false) h1 (fun h=>by cases h)
  rw [this]
  unfold sg
  rw [if_neg (by decide)]
  exact hi h1
 ·exfalso
  rw [mj (by omega) (by omega) (fun h=>by cases h)] at h
  exact absurd hr (of_decide_eq_false h)
structure tp (X:Int) (r0:Nat) (left:Int):Prop where
 lo:vS r0*vS r0<=X
 hi:X<vS (r0+1)*vS (r0+1)
 l0:left=0 ↔ X=vS r0*vS r0
theorem Mu {a b:Int} (h0:0<=a) (h:a<=b):a*a<=b*b:=Int.mul_le_mul h h h0 (Int.le_trans h0 h)
theorem tp.unique {X:Int} {r s:Nat} {l k:Int} (h:tp X r l) (g:tp X s k):r=s:=by
 have au:∀ {r s:Nat} {l k:Int},tp X r l->tp X s k->¬ r<s:=fun {r s l k} h g q=>by
  have e:vS (r+1)<=vS s:=by
   rcases Nat.lt_or_eq_of_le (show r+1<=s from q) with q2 | q2
   ·exact Int.le_of_lt (ku q2)
   ·rw [q2]; exact Int.le_refl _
  exact absurd (Int.lt_of_lt_of_le h.hi (Int.le_trans (Mu (mN _) e) g.lo)) (Int.lt_irrefl _)
 rcases Nat.lt_trichotomy r s with q | q | q
 ·exact absurd q (au h g)
 ·exact q
 ·exact absurd q (au g h)
theorem Bd.sg {B:Nat} {V:Int} (g:Bool) (h:Bd B V):Bd B (M.sg g V):=by
 cases g
 ·exact h
 ·exact h.neg
theorem Ol (v:Int):sg false v=v:=rfl
theorem Jm {b:Int} (hb:aj b) (hp:ak b=true):∃ (ng:Bool) (r:Nat),(r:Int)=rg b∧(r:Int)<9218868437227405312∧ar b=sg ng (vS r):=by
 obtain ⟨r0,r1⟩:=gI hb
 have hlt:rg b<9218868437227405312:=by
  have hne:=s7 hp
  have hf:0<=cf b∧cf b<4503599627370496:=by unfold cf; omega
  have hg:0<=bN b∧bN b<2048:=by unfold bN; omega
  omega
 obtain ⟨r,hr⟩:∃ r:Nat,(r:Int)=rg b:=⟨(rg b).toNat,Int.toNat_of_nonneg r0⟩
 have hs:b=aC (decide (b<0)) (r:Int):=by
  rw [hr]
  unfold aC rg
  by_cases h:b<0
  ·rw [decide_eq_true h,if_pos rfl,if_pos h]; omega
  ·rw [decide_eq_false h,if_neg (by decide),if_neg h]
 refine ⟨decide (b<0),r,hr,by rw [hr]; exact hlt,?_⟩
 rw [<- hr] at hlt
 cases hd:decide (b<0)
 ·rw [hd] at hs
  rw [hs]
  exact gf hlt (fun h=>by cases h)
 ·rw [hd] at hs
  rw [hs]
  exact sz hlt
end Go.Proofs.YtcjfonaolcokbaaGreatDoor
namespace Go.Proofs.YtcjfonaolcokbaaGreatDoor
open Go Go.RowKit Go.Proofs.YtcjfonaolcokbaaGreatDoor.M Ieee
theorem kL {ng:Bool} {r:Int} (h0:0<=r) (h1:r<=9218868437227405312):Ieee.double.word ng r.toNat=wd (aC ng r):=by
 unfold Format.word wd aC
 rw [ie]
 cases ng
 ·rw [if_neg (by decide),if_neg (by decide)]; omega
 ·rw [if_pos rfl,if_pos rfl]; omega
theorem wA {b:Int} (hb:aj b) (hp:ak b=true):0<=rg b∧rg b<9218868437227405312:=by
 obtain ⟨_,r,hr,hlt,_⟩:=Jm hb hp
 omega
theorem jF {b:Int} (hb:aj b) (hp:ak b=true):ar b=sg (decide (b<0)) (vS (rg b).toNat):=by
 obtain ⟨h0,h1⟩:=wA hb hp
 obtain ⟨r,hr⟩:∃ r:Nat,(r:Int)=rg b:=⟨(rg b).toNat,Int.toNat_of_nonneg h0⟩
 have hs:b=aC (decide (b<0)) (r:Int):=by
  rw [hr]
  unfold aC rg
  by_cases h:b<0
  ·rw [decide_eq_true h,if_pos rfl,if_pos h]; omega
  ·rw [decide_eq_false h,if_neg (by decide),if_neg h]
 rw [<- hr] at h1 ⊢
 rw [Int.toNat_natCast]
 cases hd:decide (b<0)
 ·rw [hd] at hs
  rw [hs]
  exact gf h1 (fun h=>by cases h)
 ·rw [hd] at hs
  rw [hs]
  exact sz h1
theorem cF {b:Int} (hb:aj b) (hp:ak b=true):∃ m u:Nat,Ieee.double.read (wd b)=.number (decide (b<0)) m (-1074+(u:Int))∧ar b=sg (decide (b<0)) ((m:Int)*pw (-1074+(u:Int))):=by
 obtain ⟨h0,h1⟩:=wA hb hp
 have hw:((wd b % 9223372036854775808:Nat):Int)=rg b:=nE hb
 have hw2:wd b % 9223372036854775808=(rg b).toNat:=by omega
 obtain ⟨m,u,h,hm⟩:=jr Ieee.double (wd b) (by rw [ie,mc]; omega)
 rw [ie,tm,pJ hb] at h
 rw [ie,hw2] at hm
 refine ⟨m,u,h,?_⟩
 have e:vS (rg b).toNat=(m:Int)*pw (-1074+(u:Int)):=by
  unfold vS
  rw [<- hm,ff (by decide),Int.mul_comm (pw (-1074))]
  generalize pw (-1074)=q
  push_cast
  rw [Int.mul_assoc]
 rw [jF hb hp,e]
theorem jP (s:Bool) (m k:Nat) {i base:Int} (h:i=base+(k:Int)) (hb:-4194304<=base):signed s m k*pw base=sg s ((m:Int)*pw i):=by
 rw [rW,h,ff hb,Int.mul_comm (pw base),<- Int.mul_assoc]
 have e:((m*2^k:Nat):Int)=(m:Int)*2^k:=by push_cast; rfl
 rw [e]
 generalize (m:Int)*2^k=t
 unfold sg
 cases s
 ·rfl
 ·show -t*pw base=-(t*pw base)
  rw [Int.neg_mul]
theorem vD {t q:Int} (hq:0<q):t*q=sg (decide (t<0)) ((t.natAbs:Int)*q):=by
 by_cases h:t<0
 ·rw [decide_eq_true h]
  show t*q=-((t.natAbs:Int)*q)
  rw [<- Int.neg_mul,show -(t.natAbs:Int)=t by omega]
 ·rw [decide_eq_false h]
  show t*q=(t.natAbs:Int)*q
  rw [show (t.natAbs:Int)=t by omega]
theorem rA {t q:Int} (hq:0<q):t<0 ↔ t*q<0:=by
 constructor
 ·exact fun h=>Int.mul_neg_of_neg_of_pos h hq
 ·intro h
  rcases Int.lt_or_le t 0 with g | g
  ·exact g
  ·exact absurd h (Int.not_lt.2 (Int.mul_nonneg g (Int.le_of_lt hq)))
theorem nj {t q:Int} (hq:0<q):t=0 ↔ t*q=0:=by
 constructor
 ·intro h; rw [h,Int.zero_mul]
 ·intro h
  rcases Int.mul_eq_zero.1 h with g | g
  ·exact g
  ·omega
theorem oI {S t base:Int} (hb:-4194304<=base) (hS:t*pw base=S) (h0:S≠0) :
  ∃ (A:Int) (r0:Nat) (left:Int),S=sg (decide (S<0)) A∧dM A r0 left∧Ieee.double.nearest (decide (t<0)) t.natAbs base=wd (aC (decide (S<0)) (bk 0 (decide (S<0)) r0 left)):=by
 have hq:=bD base
 have ht:t≠0:=fun h=>h0 (by rw [<- hS,h,Int.zero_mul])
 have hd:decide (t<0)=decide (S<0):=by rw [<- hS]; congr 1; exact propext (rA hq)
 obtain ⟨r0,left,hR,hE⟩:=qb (decide (t<0)) (mag:=t.natAbs) (place:=base) (by omega) hb
 refine ⟨_,r0,left,?_,hR,?_⟩
 ·rw [<- hd,<- hS]; exact vD hq
 ·rw [hE,hd]
  obtain ⟨g1,g2⟩:=b9 0 (decide (S<0)) r0 left
  exact kL g1 g2
theorem NI {a b:Int} (ha:aj a) (hb:aj b) (pa:ak a=true) (pb:ak b=true) :
  (ar a+ar b=0->Ieee.double.add (wd a) (wd b)=some (wd (aC (decide (a<0) && decide (b<0)) 0))) ∧
  (ar a+ar b≠0->∃ (A:Int) (r0:Nat) (left:Int),ar a+ar b=sg (decide (ar a+ar b<0)) A∧dM A r0 left∧Ieee.double.add (wd a) (wd b)=some (wd (aC (decide (ar a+ar b<0)) (bk 0 (decide (ar a+ar b<0)) r0 left)))):=by
 obtain ⟨m,u,h1,v1⟩:=cF ha pa
 obtain ⟨n,v,h2,v2⟩:=cF hb pb
 have hadd:Ieee.double.add (wd a) (wd b)=some (Ieee.double.nearest (if signed (decide (a<0)) m (u-min u v)+signed (decide (b<0)) n (v-min u v)=0 then decide (a<0) && decide (b<0) else decide (signed (decide (a<0)) m (u-min u v)+signed (decide (b<0)) n (v-min u v)<0)) (signed (decide (a<0)) m (u-min u v)+signed (decide (b<0)) n (v-min u v)).natAbs (-1074+((min u v:Nat):Int))):=by
  unfold Format.add
  rw [h1,h2]
  unfold Datum.sum
  dsimp only
  have hmin:min (-1074+(u:Int)) (-1074+(v:Int))=-1074+((min u v:Nat):Int):=by omega
  have e1:(-1074+(u:Int)-(-1074+((min u v:Nat):Int))).toNat=u-min u v:=by omega
  have e2:(-1074+(v:Int)-(-1074+((min u v:Nat):Int))).toNat=v-min u v:=by omega
  rw [hmin,e1,e2]
  rfl
 have s1:=jP (decide (a<0)) m (u-min u v) (i:=-1074+(u:Int)) (base:=-1074+((min u v:Nat):Int)) (by omega) (by omega)
 have s2:=jP (decide (b<0)) n (v-min u v) (i:=-1074+(v:Int)) (base:=-1074+((min u v:Nat):Int)) (by omega) (by omega)
 rw [<- v1] at s1
 rw [<- v2] at s2
 have hB:-4194304 <= -1074+((min u v:Nat):Int):=by omega
 generalize -1074+((min u v:Nat):Int)=base at *
 have hq:=bD base
 have hS:(signed (decide (a<0)) m (u-min u v)+signed (decide (b<0)) n (v-min u v))*pw base=ar a+ar b:=by rw [Int.add_mul,s1,s2]
 generalize signed (decide (a<0)) m (u-min u v)+signed (decide (b<0)) n (v-min u v)=t at *
 clear s1 s2 v1 v2 h1 h2
 refine ⟨fun h=>?_,fun h=>?_⟩
 ·have ht:t=0:=(nj hq).2 (hS.trans h)
  rw [hadd,ht,if_pos rfl]
  unfold Format.nearest
  rw [if_pos (show Int.natAbs 0=0 from rfl)]
  have:=kL (ng:=decide (a<0) && decide (b<0)) (r:=0) (by decide) (by decide)
  rw [<- this]
  rfl
 ·have ht:t≠0:=fun e=>h (by rw [<- hS,e,Int.zero_mul])
  obtain ⟨A,r0,left,q1,q2,q3⟩:=oI hB hS h
  refine ⟨A,r0,left,q1,q2,?_⟩
  rw [hadd,if_neg ht,q3]
theorem qd {g h:Bool} {x y p q r Z:Int} (e:p*q=r*Z):sg (g != h) (x*y*r)*Z=sg g (x*p)*sg h (y*q):=by
 rw [Co,lT]
 congr 1
 rw [Int.mul_assoc (x*y),<- e,Int.mul_assoc x y,Int.mul_assoc x p]
 congr 1
 rw [<- Int.mul_assoc,<- Int.mul_assoc,Int.mul_comm y p]
theorem tq (g h:Bool):(g ^^ h)=(g != h):=by cases g <;> cases h <;> rfl
theorem NJ {a b:Int} (ha:aj a) (hb:aj b) (pa:ak a=true) (pb:ak b=true) :
  ∃ D:Int,0<=D∧sg (decide (a<0) != decide (b<0)) D*2^4194304=ar a*ar b ∧
   (D=0->Ieee.double.mul (wd a) (wd b)=some (wd (aC (decide (a<0) != decide (b<0)) 0))) ∧
   (D≠0->∃ (r0:Nat) (left:Int),dM D r0 left∧Ieee.double.mul (wd a) (wd b)=some (wd (aC (decide (a<0) != decide (b<0)) (bk 0 (decide (a<0) != decide (b<0)) r0 left)))):=by
 obtain ⟨m,u,h1,v1⟩:=cF ha pa
 obtain ⟨n,v,h2,v2⟩:=cF hb pb
 have hmul:Ieee.double.mul (wd a) (wd b)=some (Ieee.double.nearest (decide (a<0) != decide (b<0)) (m*n) (-1074+(u:Int)+(-1074+(v:Int)))):=by
  unfold Format.mul
  rw [h1,h2]
  unfold Datum.product
  dsimp only
  rw [tq]
  rfl
 have hpm:=j8 (a:=-1074+(u:Int)) (b:=-1074+(v:Int)) (by omega) (by omega)
 have hB:-4194304 <= -1074+(u:Int)+(-1074+(v:Int)):=by omega
 have hq:=bD (-1074+(u:Int)+(-1074+(v:Int)))
 have hC:=qd (g:=decide (a<0)) (h:=decide (b<0)) (x:=(m:Int)) (y:=(n:Int)) hpm
 rw [<- v1,<- v2] at hC
 generalize -1074+(u:Int)+(-1074+(v:Int))=base at *
 have hcast:((m*n:Nat):Int)=(m:Int)*(n:Int):=by push_cast; rfl
 refine ⟨(m:Int)*(n:Int)*pw base,Int.mul_nonneg (by rw [<- hcast]; omega) (Int.le_of_lt hq),hC,fun h=>?_,fun h=>?_⟩
 ·have h0:m*n=0:=by
   rcases Int.mul_eq_zero.1 h with g | g
   ·rw [<- hcast] at g; omega
   ·omega
  rw [hmul,h0]
  unfold Format.nearest
  rw [if_pos rfl]
  have:=kL (ng:=decide (a<0) != decide (b<0)) (r:=0) (by decide) (by decide)
  rw [<- this]
  rfl
 ·have h0:m*n≠0:=fun e=>h (by rw [<- hcast,e]; simp)
  obtain ⟨r0,left,hR,hE⟩:=qb (decide (a<0) != decide (b<0)) (place:=base) h0 hB
  rw [hcast] at hR
  refine ⟨r0,left,hR,?_⟩
  rw [hmul,hE]
  obtain ⟨g1,g2⟩:=b9 0 (decide (a<0) != decide (b<0)) r0 left
  rw [kL g1 g2]
def xH (z:Nat):Prop:=z<18446744073709551616∧9218868437227405312<z % 9223372036854775808
theorem Ak (x y t:Nat):xH ((Question.nanBits .f64 x y).cut t):=by
 have h:(Question.nanBits .f64 x y).cut t=(t % 2)*2^63+0x7ff0000000000000+1+(t/2) % (2^52-1):=rfl
 have e63:(2:Nat)^63=9223372036854775808:=by decide
 have e52:(2:Nat)^52-1=4503599627370495:=by decide
 rw [h,e63,e52]
 have hc:=Nat.mod_lt (t/2) (show 0<4503599627370495 by decide)
 have hm:t % 2=0∨t % 2=1:=by omega
 generalize t/2 % 4503599627370495=c at *
 unfold xH
 rcases hm with h2 | h2
 ·rw [h2]; omega
 ·rw [h2]; omega
theorem jd {P:Program} (op:BinOp) (ho:op=.add∨op=.sub∨op=.mul∨op=.quo) (t:TypeId) (x y:Nat) (w:World) :
  ∃ z w',(binOp op t (.float .f64 x) (.float .f64 y)).run P w=.ok (.float .f64 z) w'∧((floatBits op .f64 x y=some z∧w'=w)∨(floatBits op .f64 x y=none∧xH z∧w'=w.drew)):=by
 cases h:floatBits op .f64 x y with
 | some r=>exact ⟨r,w,run_float_arith w op t .f64 x y r h,.inl ⟨rfl,rfl⟩⟩
 | none=>
  refine ⟨_,w.drew,?_,.inr ⟨rfl,Ak x y (w.tape w.drawn (.nanBits .f64 x y)),rfl⟩⟩
  unfold floatBits at h
  rcases ho with rfl | rfl | rfl | rfl <;> simp only at h <;> simp [binOp,Op.floatArith,h] <;> exact fun hf=>absurd (show false=true from hf) (by decide)
def FW (p:Int) (x:Nat):Prop:=(aG p≠4∧aj p∧x=wd p)∨(p=9221120237041090561∧xH x)
def qe (x:Nat):Int:=if x<9223372036854775808 then (x:Int) else (x:Int)-18446744073709551616
theorem Jn {p:Int} (h:aj p):qe (wd p)=p:=by
 unfold aj at h
 unfold qe wd
 split <;> omega
def bu (S:Int):Int:=qe (Ieee.double.nearest (decide (S<0)) S.natAbs (-4194304))
theorem xI:pw (-4194304)=1:=by unfold pw; rfl
theorem fH {ng:Bool} {r:Int} (h0:0<=r) (h1:r<=9218868437227405312):aj (aC ng r)∧aG (aC ng r)≠4:=by
 have hr:aj (aC ng r):=by unfold aj aC; cases ng <;> simp <;> omega
 refine ⟨hr,fun q=>?_⟩
 have:=(dZ hr).1.1 q
 unfold rg aC at this
 cases ng
 ·simp only [Bool.false_eq_true,if_false] at this; split at this <;> omega
 ·simp only [if_true] at this; split at this <;> omega
theorem gg {S:Int} (h:S≠0):∃ (A:Int) (r0:Nat) (left:Int),S=sg (decide (S<0)) A∧dM A r0 left∧bu S=aC (decide (S<0)) (bk 0 (decide (S<0)) r0 left):=by
 obtain ⟨A,r0,left,h1,h2,h3⟩:=oI (S:=S) (t:=S) (base:=-4194304) (by decide) (by rw [xI,Int.mul_one]) h
 refine ⟨A,r0,left,h1,h2,?_⟩
 unfold bu
 rw [h3]
 obtain ⟨g1,g2⟩:=b9 0 (decide (S<0)) r0 left
 exact Jn (fH g1 g2).1
theorem js {g:Bool} {A B:Int} (h:sg g A=sg g B):A=B:=by
 cases g
 ·exact h
 ·exact Int.neg_inj.1 h
def ap (p q:Int):Int :=
 if aG p=4∨aG q=4 then 9221120237041090561
 else if rg p=9218868437227405312 then (if rg q=9218868437227405312∧decide (p<0)≠decide (q<0) then 9221120237041090561 else p)
 else if rg q=9218868437227405312 then q
 else if ar p+ar q=0 then aC (decide (p<0) && decide (q<0)) 0 else bu (ar p+ar q)
theorem bw {p:Int} (hp:aj p):ak p=true ↔ rg p<9218868437227405312:=by
 obtain ⟨r0,r1⟩:=gI hp
 have hf:0<=cf p∧cf p<4503599627370496:=by unfold cf; omega
 have hg:0<=bN p∧bN p<2048:=by unfold bN; omega
 unfold ak
 simp
 omega
theorem Ga {p q:Int} (hp:aj p) (hq:aj q) (pp:ak p=true) (pq:ak q=true):Ieee.double.add (wd p) (wd q)=some (wd (if ar p+ar q=0 then aC (decide (p<0) && decide (q<0)) 0 else bu (ar p+ar q))):=by
 obtain ⟨h0,h1⟩:=NI hp hq pp pq
 by_cases hS:ar p+ar q=0
 ·rw [if_pos hS]; exact h0 hS
 ·rw [if_neg hS]
  obtain ⟨A,r0,left,a1,a2,a3⟩:=h1 hS
  obtain ⟨B,s0,k,b1,b2,b3⟩:=gg hS
  have hAB:=js (a1.symm.trans b1)
  subst hAB
  obtain ⟨h2,h3⟩:=a2.unique b2
  subst h2 h3
  rw [a3,b3]
theorem dp {p:Int} (hp:aj p) (h:rg p=9218868437227405312):Ieee.double.read (wd p)=.infinity (decide (p<0)):=by
 have hw:((wd p % 9223372036854775808:Nat):Int)=rg p:=nE hp
 have:=oh Ieee.double Cr (wd p) (by rw [ie,mc]; omega)
 rwa [ie,pJ hp] at this
theorem kY {p:Int} (hp:aj p) (h:rg p=9218868437227405312):Ieee.double.write (.infinity (decide (p<0)))=wd p:=by
 unfold Format.write
 dsimp only
 rw [mc]
 have:=kL (ng:=decide (p<0)) (r:=9218868437227405312) (by decide) (by decide)
 have e:aC (decide (p<0)) 9218868437227405312=p:=by
  unfold rg at h
  unfold aC
  by_cases h0:p<0
  ·rw [if_pos h0] at h; rw [decide_eq_true h0,if_pos rfl]; omega
  ·rw [if_neg h0] at h; rw [decide_eq_false h0,if_neg (by decide)]; omega
 rw [e] at this
 exact this
theorem iT:aG 9221120237041090561=4:=by decide
theorem FW.nan {x:Nat} (h:xH x):FW 9221120237041090561 x:=.inr ⟨rfl,h⟩
theorem FW.pat {p:Int} (h:aG p≠4) (hp:aj p):FW p (wd p):=.inl ⟨h,hp,rfl⟩
theorem FW.read_nan {p:Int} {x:Nat} (h:FW p x) (h4:aG p=4):∃ s t,Ieee.double.read x=.nan s t:=by
 rcases h with ⟨h,_⟩ | ⟨_,h⟩
 ·exact absurd h4 h
 ·exact M.wQ Ieee.double Cr x (by rw [ie,mc]; exact h.2)
theorem FW.of {p:Int} {x:Nat} (h:FW p x) (h4:aG p≠4):aj p∧x=wd p∧0<=rg p∧rg p<=9218868437227405312:=by
 rcases h with ⟨_,h1,h2⟩ | ⟨h,_⟩
 ·obtain ⟨r0,_⟩:=gI h1
  refine ⟨h1,h2,r0,?_⟩
  rcases Int.lt_or_le 9218868437227405312 (rg p) with g | g
  ·exact absurd ((dZ h1).1.2 g) h4
  ·exact g
 ·rw [h] at h4; exact absurd iT h4
theorem ef {S:Int} (h:S≠0):aj (bu S)∧aG (bu S)≠4:=by
 obtain ⟨A,r0,left,_,_,e⟩:=gg h
 rw [e]
 obtain ⟨g1,g2⟩:=b9 0 (decide (S<0)) r0 left
 exact fH g1 g2
theorem xJ {p q:Int} {x y:Nat} (hx:FW p x) (hy:FW q y):(∃ z,Ieee.double.add x y=some z∧FW (ap p q) z)∨(Ieee.double.add x y=none∧ap p q=9221120237041090561):=by
 by_cases h4:aG p=4∨aG q=4
 ·right
  refine ⟨?_,by unfold ap; rw [if_pos h4]⟩
  unfold Format.add
  rcases h4 with h | h
  ·obtain ⟨s,t,e⟩:=hx.read_nan h
   rw [e]
   rfl
  ·obtain ⟨s,t,e⟩:=hy.read_nan h
   rw [e]
   cases Ieee.double.read x <;> rfl
 ·have h4p:aG p≠4:=fun h=>h4 (.inl h)
  have h4q:aG q≠4:=fun h=>h4 (.inr h)
  obtain ⟨rp,rfl,p0,p1⟩:=hx.of h4p
  obtain ⟨rq,rfl,q0,q1⟩:=hy.of h4q
  unfold ap
  rw [if_neg h4]
  by_cases ip:rg p=9218868437227405312
  ·rw [if_pos ip]
   have ep:=dp rp ip
   by_cases iq:rg q=9218868437227405312
   ·have eq:=dp rq iq
    by_cases hs:decide (p<0)=decide (q<0)
    ·left
     refine ⟨wd p,?_,?_⟩
     ·unfold Format.add
      rw [ep,eq]
      unfold Datum.sum
      dsimp only
      rw [if_pos hs]
      show some (Ieee.double.write (.infinity (decide (p<0))))=_
      rw [kY rp ip]
     ·rw [if_neg (fun h=>h.2 hs)]
      exact FW.pat h4p rp
    ·right
     refine ⟨?_,by rw [if_pos ⟨iq,hs⟩]⟩
     unfold Format.add
     rw [ep,eq]
     unfold Datum.sum
     dsimp only
     rw [if_neg hs]
     rfl
   ·left
    obtain ⟨m,u,eq,_⟩:=cF rq ((bw rq).2 (by omega))
    refine ⟨wd p,?_,?_⟩
    ·unfold Format.add
     rw [ep,eq]
     show some (Ieee.double.write (.infinity (decide (p<0))))=_
     rw [kY rp ip]
    ·rw [if_neg (fun h=>iq h.1)]
     exact FW.pat h4p rp
  ·rw [if_neg ip]
   have pp:=(bw rp).2 (by omega)
   by_cases iq:rg q=9218868437227405312
   ·left
    rw [if_pos iq]
    have eq:=dp rq iq
    obtain ⟨m,u,ep,_⟩:=cF rp pp
    refine ⟨wd q,?_,FW.pat h4q rq⟩
    unfold Format.add
    rw [ep,eq]
    show some (Ieee.double.write (.infinity (decide (q<0))))=_
    rw [kY rq iq]
   ·left
    rw [if_neg iq]
    refine ⟨_,Ga rp rq pp ((bw rq).2 (by omega)),?_⟩
    by_cases hS:ar p+ar q=0
    ·rw [if_pos hS]
     obtain ⟨g1,g2⟩:=fH (ng:=decide (p<0) && decide (q<0)) (r:=0) (by decide) (by decide)
     exact FW.pat g2 g1
    ·rw [if_neg hS]
     exact FW.pat (ef hS).2 (ef hS).1
theorem sA {P:Program} (t:TypeId) {p q:Int} {x y:Nat} (hx:FW p x) (hy:FW q y) (w:World) :
  ∃ z w',(binOp .add t (.float .f64 x) (.float .f64 y)).run P w=.ok (.float .f64 z) w'∧FW (ap p q) z∧(w'=w∨w'=w.drew):=by
 obtain ⟨z,w',h,hz⟩:=jd (P:=P) .add (.inl rfl) t x y w
 refine ⟨z,w',h,?_⟩
 have hf:floatBits .add .f64 x y=Ieee.double.add x y:=rfl
 rw [hf] at hz
 rcases xJ hx hy with ⟨z',e1,e2⟩ | ⟨e1,e2⟩
 ·rcases hz with ⟨h1,h2⟩ | ⟨h1,_⟩
  ·rw [e1] at h1; cases h1; exact ⟨e2,.inl h2⟩
  ·rw [e1] at h1; cases h1
 ·rcases hz with ⟨h1,_⟩ | ⟨_,h2,h3⟩
  ·rw [e1] at h1; cases h1
  ·rw [e2]; exact ⟨FW.nan h2,.inr h3⟩
theorem DF {x y:Nat} (h1:x % Ieee.double.signWeight=y % Ieee.double.signWeight) (h2:(x/Ieee.double.signWeight % 2 == 1)=!(y/Ieee.double.signWeight % 2 == 1)):Ieee.double.read x=(Ieee.double.read y).opposite:=by
 unfold Format.read
 dsimp only
 rw [h1,h2]
 split
 ·rfl
 ·split
  ·rfl
  ·split
   ·rfl
   ·rfl
theorem Gb {q:Int} (hq:aj q) (h4:aG q≠4):Ieee.double.read (wd (neg q))=(Ieee.double.read (wd q)).opposite:=by
 have hn:neg q=if q<0 then q+9223372036854775808 else q-9223372036854775808:=by unfold neg; rw [if_neg h4]
 refine DF ?_ ?_
 ·rw [ie,hn]
  unfold aj at hq
  unfold wd
  split <;> omega
 ·rw [ie,pJ (i4 hq),pJ hq,hn]
  unfold aj at hq
  by_cases h:q<0
  ·rw [if_pos h,decide_eq_false (p:=q+9223372036854775808<0) (by omega),decide_eq_true h]; rfl
  ·rw [if_neg h,decide_eq_true (p:=q-9223372036854775808<0) (by omega),decide_eq_false h]; rfl
theorem Al {q:Int} (h:aG q=4):neg q=9221120237041090561:=by unfold neg; rw [if_pos h]
theorem DG {p q:Int} {x y:Nat} (hx:FW p x) (hy:FW q y):(∃ z,Ieee.double.sub x y=some z∧FW (ap p (neg q)) z)∨(Ieee.double.sub x y=none∧ap p (neg q)=9221120237041090561):=by
 by_cases h4:aG q=4
 ·right
  refine ⟨?_,by unfold ap; rw [Al h4,if_pos (.inr iT)]⟩
  obtain ⟨s,t,e⟩:=hy.read_nan h4
  unfold Format.sub
  rw [e]
  cases Ieee.double.read x <;> rfl
 ·obtain ⟨rq,rfl,_,_⟩:=hy.of h4
  have hs:Ieee.double.sub x (wd q)=Ieee.double.add x (wd (neg q)):=by
   unfold Format.sub Format.add
   rw [Gb rq h4]
  rw [hs]
  exact xJ hx (FW.pat (Ji rq h4) (i4 rq))
theorem cA {P:Program} (t:TypeId) {p q:Int} {x y:Nat} (hx:FW p x) (hy:FW q y) (w:World) :
  ∃ z w',(binOp .sub t (.float .f64 x) (.float .f64 y)).run P w=.ok (.float .f64 z) w'∧FW (ap p (neg q)) z∧(w'=w∨w'=w.drew):=by
 obtain ⟨z,w',h,hz⟩:=jd (P:=P) .sub (.inr (.inl rfl)) t x y w
 refine ⟨z,w',h,?_⟩
 have hf:floatBits .sub .f64 x y=Ieee.double.sub x y:=rfl
 rw [hf] at hz
 rcases DG hx hy with ⟨z',e1,e2⟩ | ⟨e1,e2⟩
 ·rcases hz with ⟨h1,h2⟩ | ⟨h1,_⟩
  ·rw [e1] at h1; cases h1; exact ⟨e2,.inl h2⟩
  ·rw [e1] at h1; cases h1
 ·rcases hz with ⟨h1,_⟩ | ⟨_,h2,h3⟩
  ·rw [e1] at h1; cases h1
  ·rw [e2]; exact ⟨FW.nan h2,.inr h3⟩
def bv (p q:Int):Bool:=decide (p<0) != decide (q<0)
def eG (p q:Int):Int:=sg (bv p q) (ar p*ar q/2^4194304)
def aq (p q:Int):Int :=
 if aG p=4∨aG q=4 then 9221120237041090561
 else if rg p=9218868437227405312∨rg q=9218868437227405312 then (if rg p=0∨rg q=0 then 9221120237041090561 else aC (bv p q) 9218868437227405312)
 else if eG p q=0 then aC (bv p q) 0 else bu (sg (bv p q) (eG p q))
theorem sB {g:Bool} {D Z C:Int} (hZ:0<Z) (h:sg g D*Z=C):sg g (C/Z)=D:=by
 rw [<- h,Int.mul_ediv_cancel _ (Int.ne_of_gt hZ)]
 cases g
 ·rfl
 ·exact Int.neg_neg D
theorem Gc {g:Bool} {D:Int} {r0:Nat} {left:Int} (h0:0<D) (hR:dM D r0 left):bu (sg g D)=aC g (bk 0 g r0 left):=by
 have hd:decide (sg g D<0)=g:=by
  cases g
  ·exact decide_eq_false (by show ¬ D<0; omega)
  ·exact decide_eq_true (by show -D<0; omega)
 have hn:sg g D≠0:=by
  cases g
  ·show D≠0; omega
  ·show -D≠0; omega
 obtain ⟨A,s0,k,e1,e2,e3⟩:=gg hn
 rw [hd] at e1 e3
 have:=js e1
 subst this
 obtain ⟨h1,h2⟩:=hR.unique e2
 subst h1 h2
 exact e3
theorem Gd {p q:Int} (hp:aj p) (hq:aj q) (pp:ak p=true) (pq:ak q=true):Ieee.double.mul (wd p) (wd q)=some (wd (if eG p q=0 then aC (bv p q) 0 else bu (sg (bv p q) (eG p q)))):=by
 obtain ⟨D,d0,d1,d2,d3⟩:=NJ hp hq pp pq
 have hf:eG p q=D:=sB (aO 4194304) d1
 rw [hf]
 by_cases h:D=0
 ·rw [if_pos h]; exact d2 h
 ·rw [if_neg h]
  obtain ⟨r0,left,hR,hE⟩:=d3 h
  rw [hE,Gc (by omega) hR]
  rfl
theorem kv (g:Bool):Ieee.double.write (.infinity g)=wd (aC g 9218868437227405312):=by
 unfold Format.write
 dsimp only
 rw [mc]
 exact kL (ng:=g) (r:=9218868437227405312) (by decide) (by decide)
theorem oM {q:Int} {m u:Nat} (hq:aj q) (pq:ak q=true) (h:ar q=sg (decide (q<0)) ((m:Int)*pw (-1074+(u:Int)))):m=0 ↔ rg q=0:=by
 have e:=jF hq pq
 rw [h] at e
 have e2:=js e
 obtain ⟨r0,r1⟩:=wA hq pq
 constructor
 ·intro hm
  rw [hm] at e2
  have e3:vS (rg q).toNat=0:=by rw [<- e2]; simp
  rcases Nat.eq_zero_or_pos (rg q).toNat with g | g
  ·omega
  ·have:=ku g
   rw [gM,e3] at this
   exact absurd this (Int.lt_irrefl _)
 ·intro hr
  rw [hr] at e2
  have e3:(m:Int)*pw (-1074+(u:Int))=0:=by rw [e2]; exact gM
  have:=(nj (bD (-1074+(u:Int)))).2 e3
  omega
theorem DI {p q:Int} {x y:Nat} (hx:FW p x) (hy:FW q y):(∃ z,Ieee.double.mul x y=some z∧FW (aq p q) z)∨(Ieee.double.mul x y=none∧aq p q=9221120237041090561):=by
 by_cases h4:aG p=4∨aG q=4
 ·right
  refine ⟨?_,by unfold aq; rw [if_pos h4]⟩
  unfold Format.mul
  rcases h4 with h | h
  ·obtain ⟨s,t,e⟩:=hx.read_nan h
   rw [e]
   rfl
  ·obtain ⟨s,t,e⟩:=hy.read_nan h
   rw [e]
   cases Ieee.double.read x <;> rfl
 ·have h4p:aG p≠4:=fun h=>h4 (.inl h)
  have h4q:aG q≠4:=fun h=>h4 (.inr h)
  obtain ⟨rp,rfl,p0,p1⟩:=hx.of h4p
  obtain ⟨rq,rfl,q0,q1⟩:=hy.of h4q
  have hI:=fH (ng:=bv p q) (r:=9218868437227405312) (by decide) (by decide)
  have hX:(decide (p<0) ^^ decide (q<0))=bv p q:=tq _ _
  have hX2:(decide (q<0) ^^ decide (p<0))=bv p q:=by rw [<- hX]; cases decide (p<0) <;> cases decide (q<0) <;> rfl
  unfold aq
  rw [if_neg h4]
  by_cases ip:rg p=9218868437227405312
  ·rw [if_pos (.inl ip)]
   have ep:=dp rp ip
   by_cases iq:rg q=9218868437227405312
   ·left
    rw [if_neg (by omega)]
    refine ⟨_,?_,FW.pat hI.2 hI.1⟩
    unfold Format.mul
    rw [ep,dp rq iq]
    show some (Ieee.double.write (.infinity (decide (p<0) ^^ decide (q<0))))=_
    rw [kv,hX]
   ·have pq:=(bw rq).2 (by omega)
    obtain ⟨m,u,eq,vq⟩:=cF rq pq
    have hz:=oM rq pq vq
    by_cases hm:m=0
    ·right
     refine ⟨?_,by rw [if_pos (.inr (hz.1 hm))]⟩
     unfold Format.mul
     rw [ep,eq,hm]
     rfl
    ·left
     rw [if_neg (fun h=>by rcases h with h | h; omega; exact hm (hz.2 h))]
     refine ⟨_,?_,FW.pat hI.2 hI.1⟩
     unfold Format.mul
     rw [ep,eq]
     unfold Datum.product
     dsimp only
     rw [if_neg hm]
     show some (Ieee.double.write (.infinity (decide (p<0) ^^ decide (q<0))))=_
     rw [kv,hX]
  ·have pp:=(bw rp).2 (by omega)
   by_cases iq:rg q=9218868437227405312
   ·rw [if_pos (.inr iq)]
    obtain ⟨m,u,ep,vp⟩:=cF rp pp
    have hz:=oM rp pp vp
    have eq:=dp rq iq
    by_cases hm:m=0
    ·right
     refine ⟨?_,by rw [if_pos (.inl (hz.1 hm))]⟩
     unfold Format.mul
     rw [ep,eq,hm]
     rfl
    ·left
     rw [if_neg (fun h=>by rcases h with h | h; exact hm (hz.2 h); omega)]
     refine ⟨_,?_,FW.pat hI.2 hI.1⟩
     unfold Format.mul
     rw [ep,eq]
     unfold Datum.product
     dsimp only
     rw [if_neg hm]
     show some (Ieee.double.write (.infinity (decide (q<0) ^^ decide (p<0))))=_
     rw [kv,hX2]
   ·left
    rw [if_neg (by omega)]
    refine ⟨_,Gd rp rq pp ((bw rq).2 (by omega)),?_⟩
    by_cases hS:eG p q=0
    ·rw [if_pos hS]
     obtain ⟨g1,g2⟩:=fH (ng:=bv p q) (r:=0) (by decide) (by decide)
     exact FW.pat g2 g1
    ·rw [if_neg hS]
     have hn:sg (bv p q) (eG p q)≠0:=by
      generalize eG p q=D at *
      cases bv p q
      ·exact hS
      ·show -D≠0; omega
     exact FW.pat (ef hn).2 (ef hn).1
theorem fF {P:Program} (t:TypeId) {p q:Int} {x y:Nat} (hx:FW p x) (hy:FW q y) (w:World) :
  ∃ z w',(binOp .mul t (.float .f64 x) (.float .f64 y)).run P w=.ok (.float .f64 z) w'∧FW (aq p q) z∧(w'=w∨w'=w.drew):=by
 obtain ⟨z,w',h,hz⟩:=jd (P:=P) .mul (.inr (.inr (.inl rfl))) t x y w
 refine ⟨z,w',h,?_⟩
 have hf:floatBits .mul .f64 x y=Ieee.double.mul x y:=rfl
 rw [hf] at hz
 rcases DI hx hy with ⟨z',e1,e2⟩ | ⟨e1,e2⟩
 ·rcases hz with ⟨h1,h2⟩ | ⟨h1,_⟩
  ·rw [e1] at h1; cases h1; exact ⟨e2,.inl h2⟩
  ·rw [e1] at h1; cases h1
 ·rcases hz with ⟨h1,_⟩ | ⟨_,h2,h3⟩
  ·rw [e1] at h1; cases h1
  ·rw [e2]; exact ⟨FW.nan h2,.inr h3⟩
theorem jQ {a:Int} (ha:aj a):FW (aR a) (wd a):=by
 unfold aR
 by_cases h:aG a=4
 ·rw [if_pos h]
  refine FW.nan ⟨?_,?_⟩
  ·unfold wd; omega
  ·exact (jM ha).1 h
 ·rw [if_neg h]
  exact FW.pat h ha
theorem Ge {x:Nat} (h:x<18446744073709551616):aj (qe x)∧wd (qe x)=x:=by
 unfold qe aj wd
 split
 ·exact ⟨by omega,by omega⟩
 ·exact ⟨by omega,by omega⟩
theorem je {p:Int} {x:Nat} (h:FW p x) (w:World):Calls Tryz.prog 42 #[.float .f64 x] w fun e w'=>e=.returned (.int .i64 p)∧w'=w:=by
 rcases h with ⟨h4,hp,rfl⟩ | ⟨rfl,hN⟩
 ·have:=ti p w hp
  have e:aR p=p:=by unfold aR; rw [if_neg h4]
  rwa [e] at this
 ·obtain ⟨h1,h2⟩:=Ge hN.1
  have:=ti (qe x) w h1
  rw [h2] at this
  have e:aR (qe x)=9221120237041090561:=by
   unfold aR
   rw [if_pos ((jM h1).2 (by rw [h2]; exact hN.2))]
  rwa [e] at this
end Go.Proofs.YtcjfonaolcokbaaGreatDoor
namespace Go.Proofs.YtcjfonaolcokbaaGreatDoor.M
def Fl (n:Int):Prop:=∃ k:Nat,(2^k:Int) ∣ n∧(n.natAbs:Int)<9007199254740992*2^k
def Nr (S h:Int):Prop:=Fl h∧∀ f,Fl f->(h-S).natAbs<=(f-S).natAbs
theorem p2 (k:Nat):(0:Int)<2^k:=Int.pow_pos (by decide)
theorem cX (k:Nat):(2:Int)^(k+1)=2*2^k:=by rw [Int.pow_succ,Int.mul_comm]
theorem ct {j k:Nat} (h:j<=k):(2^j:Int) ∣ 2^k:=⟨2^(k-j),by rw [<- Int.pow_add,Nat.add_sub_cancel' h]⟩
theorem eY {j k:Nat} (h:j<=k):(2:Int)^j<=2^k:=Int.le_of_dvd (p2 k) (ct h)
theorem oN {j k:Nat} (h:(2:Int)^j<2^k):j<k:=by
 rcases Nat.lt_or_ge j k with c | c
 ·exact c
 ·have:=eY c; omega
theorem Fl.neg {n:Int} (h:Fl n):Fl (-n):=by
 obtain ⟨k,d,b⟩:=h
 exact ⟨k,(Int.dvd_neg).2 d,by rw [Int.natAbs_neg]; exact b⟩
theorem co:Fl 0:=⟨0,⟨0,by simp⟩,by simp⟩
theorem gh {n:Int} {k:Nat} (d:(2^k:Int) ∣ n) (b:(n.natAbs:Int)<=9007199254740992*2^k):Fl n:=by
 by_cases c:(n.natAbs:Int)<9007199254740992*2^k
 ·exact ⟨k,d,c⟩
 ·have e:(n.natAbs:Int)=9007199254740992*2^k:=by omega
  refine ⟨k+1,?_,?_⟩
  ·rw [<- Int.dvd_natAbs,e,cX]
   exact ⟨4503599627370496,by omega⟩
  ·rw [cX]; have:=p2 k; omega
theorem Fl.dbl {n:Int} (h:Fl n):Fl (2*n):=by
 obtain ⟨k,⟨c,rfl⟩,b⟩:=h
 refine ⟨k+1,⟨c,by rw [cX,Int.mul_assoc]⟩,?_⟩
 rw [cX]
 omega
theorem Nr.neg {S h:Int} (n:Nr S h):Nr (-S) (-h):=by
 refine ⟨n.1.neg,fun f hf=>?_⟩
 have:=n.2 (-f) hf.neg
 omega
theorem aY {S h:Int} (hS:Fl S) (n:Nr S h):h=S:=by
 have:=n.2 S hS
 omega
theorem xK {x y:Int} (hx:Fl x) (hy:Fl y) (h1:(x-y).natAbs<=x.natAbs) (h2:(x-y).natAbs<=y.natAbs):Fl (x-y):=by
 obtain ⟨j,dx,bx⟩:=hx
 obtain ⟨k,dy,by1⟩:=hy
 rcases Nat.le_total j k with c | c
 ·exact ⟨j,Int.dvd_sub dx (Int.dvd_trans (ct c) dy),by omega⟩
 ·exact ⟨k,Int.dvd_sub (Int.dvd_trans (ct c) dx) dy,by omega⟩
theorem DJ {x y:Int} (hx:Fl x) (hy:Fl y) (h1:(x+y).natAbs<=x.natAbs) (h2:(x+y).natAbs<=y.natAbs):Fl (x+y):=by
 have e:x+y=x - -y:=by omega
 rw [e]
 exact xK hx hy.neg (by omega) (by omega)
theorem tr {S h:Int} {k:Nat} (n:Nr S h) (d:(2^k:Int) ∣ S) (h0:0<=S):(2^k:Int) ∣ h:=by
 by_cases c:(S.natAbs:Int)<=9007199254740992*2^k
 ·rw [aY (gh d c) n]; exact d
 ·have hT:Fl (9007199254740992*2^k):=gh ⟨9007199254740992,by rw [Int.mul_comm]⟩ (by have:=p2 k; omega)
  have h1:=n.2 _ hT
  obtain ⟨j,dj,bj⟩:=n.1
  have hk:=p2 k
  have hj:=p2 j
  have:(2:Int)^k<2^j:=by omega
  exact Int.dvd_trans (ct (Nat.le_of_lt (oN this))) dj
theorem gk {S h:Int} {k:Nat} (n:Nr S h) (d:(2^k:Int) ∣ S):(2^k:Int) ∣ h:=by
 rcases Int.le_total 0 S with c | c
 ·exact tr n d c
 ·have:=tr n.neg ((Int.dvd_neg).2 d) (by omega)
  exact (Int.dvd_neg).1 this
theorem uF {a b h:Int} (ha:Fl a) (hb:Fl b) (n:Nr (a+b) h):Fl (a+b-h):=by
 have e1:=n.2 a ha
 have e2:=n.2 b hb
 obtain ⟨j,da,ba⟩:=ha
 obtain ⟨k,db,bb⟩:=hb
 rcases Nat.le_total j k with c | c
 ·have d:=Int.dvd_add da (Int.dvd_trans (ct c) db)
  exact ⟨j,Int.dvd_sub d (gk n d),by omega⟩
 ·have d:=Int.dvd_add (Int.dvd_trans (ct c) da) db
  exact ⟨k,Int.dvd_sub d (gk n d),by omega⟩
theorem xL {a b h:Int} (ha:Fl a) (hb:Fl b) (h0:0<=a) (hab:b.natAbs<=a.natAbs) (n:Nr (a+b) h):Fl (h-a):=by
 have ea:=n.2 a ha
 have e2:=n.2 (2*a) ha.dbl
 have ez:=n.2 0 co
 by_cases hs:a<=2*h
 ·exact xK n.1 ha (by omega) (by omega)
 ·have hS:Fl (a+b):=by
   obtain ⟨k,⟨c,hc⟩,ba⟩:=ha
   cases k with
   | zero=>exact ⟨0,⟨a+b,by simp⟩,by simp at ba ⊢; omega⟩
   | succ k=>
    have hf:Fl (2^k*c):=⟨k,⟨c,rfl⟩,by rw [cX] at ba hc; rw [Int.mul_assoc] at hc; omega⟩
    have e3:=n.2 _ hf
    rw [cX,Int.mul_assoc] at hc
    exact DJ ⟨k+1,⟨c,by rw [cX,Int.mul_assoc]; exact hc⟩,ba⟩ hb (by omega) (by omega)
  rw [aY hS n,show a+b-a=b by omega]
  exact hb
theorem sC {a b h:Int} (ha:Fl a) (hb:Fl b) (hab:b.natAbs<=a.natAbs) (n:Nr (a+b) h):Fl (h-a):=by
 rcases Int.le_total 0 a with c | c
 ·exact xL ha hb c hab n
 ·have n2:=n.neg
  rw [show -(a+b)=-a + -b by omega] at n2
  have:=(xL ha.neg hb.neg (by omega) (by omega) n2).neg
  rwa [show -(-h - -a)=h-a by omega] at this
theorem tt (S:Int) (h0:0<=S):∃ k:Nat,S<9007199254740992*2^k∧(k=0∨4503599627370496*2^k<=S):=by
 have ex:∀ n:Nat,S<9007199254740992*2^n->∃ k:Nat,S<9007199254740992*2^k∧(k=0∨4503599627370496*2^k<=S):=by
  intro n
  induction n with
  | zero=>intro h; exact ⟨0,h,.inl rfl⟩
  | succ n ih=>
   intro h
   by_cases c:S<9007199254740992*2^n
   ·exact ih c
   ·exact ⟨n+1,h,.inr (by rw [cX]; omega)⟩
 refine ex S.natAbs ?_
 have h1:S.natAbs<2^S.natAbs:=Nat.lt_two_pow_self
 have h2:((2^S.natAbs:Nat):Int)=2^S.natAbs:=by simp
 have h3:=p2 S.natAbs
 omega
theorem tw {S h:Int} (n:Nr S h) (h0:0<=S):1000*(h-S).natAbs<=S.natAbs:=by
 obtain ⟨k,b,c⟩:=tt S h0
 have hk:=p2 k
 have hm:=Int.emod_nonneg S (show (2:Int)^k≠0 by omega)
 have hl:=Int.emod_lt_of_pos S hk
 have hf:Fl (S-S % 2^k):=by
  refine gh (k:=k) ⟨S/2^k,by have:=Int.emod_add_mul_ediv S (2^k); omega⟩ ?_
  have:0<=S-S % 2^k:=by
   have:=Int.emod_add_mul_ediv S (2^k)
   have h2:0<=2^k*(S/2^k):=Int.mul_nonneg (by omega) (Int.ediv_nonneg h0 (by omega))
   omega
  omega
 have e:=n.2 _ hf
 rcases c with c | c
 ·subst c
  have:S % 2^0=0:=by simp
  omega
 ·omega
theorem gm {S h:Int} (n:Nr S h):1000*(h-S).natAbs<=S.natAbs:=by
 rcases Int.le_total 0 S with c | c
 ·exact tw n c
 ·have:=tw n.neg (by omega)
  omega
theorem Jo {a b h v u p q l:Int} (ha:Fl a) (hb:Fl b) (nh:Nr (a+b) h) (nv:Nr (h-a) v) (nu:Nr (h-v) u) (np:Nr (a-u) p) (nq:Nr (b-v) q) (nl:Nr (p+q) l):l=a+b-h:=by
 have hd:=uF ha hb nh
 -- the step sC,where it is exact
 have A:Fl (h-a)->l=a+b-h:=by
  intro hx
  have e1:=aY hx nv
  subst e1
  rw [show h-(h-a)=a by omega] at nu
  have e2:=aY ha nu
  subst e2
  rw [show u-u=0 by omega] at np
  have e3:=aY co np
  subst e3
  rw [show b-(h-u)=u+b-h by omega] at nq
  have e4:=aY hd nq
  subst e4
  rw [show 0+(u+b-h)=u+b-h by omega] at nl
  exact aY hd nl
 by_cases hab:b.natAbs<=a.natAbs
 ·exact A (sC ha hb hab nh)
 by_cases hha:a.natAbs<=h.natAbs
 ·-- h-v is exact
  have n1:Nr (h + -a) v:=by rw [show h + -a=h-a by omega]; exact nv
  have hx:=(sC nh.1 ha.neg (by omega) n1).neg
  rw [show -(v-h)=h-v by omega] at hx
  have e1:=aY hx nu
  subst e1
  have hy:=(uF nh.1 ha.neg n1).neg
  rw [show -(h + -a-v)=a-(h-v) by omega] at hy
  have e2:=aY hy np
  subst e2
  have r1:=gm nh
  have r2:=nv.2 b hb
  have hz:Fl (b-v):=xK hb nv.1 (by omega) (by omega)
  have e3:=aY hz nq
  subst e3
  rw [show a-(h-v)+(b-v)=a+b-h by omega] at nl
  exact aY hd nl
 ·-- then the sum is exact
  have e1:=nh.2 a ha
  have e2:=nh.2 (-a) ha.neg
  have hS:Fl (a+b):=DJ ha hb (by omega) (by omega)
  have e3:=aY hS nh
  exact A (by rw [e3,show a+b-a=b by omega]; exact hb)
theorem Gf {a b h v l:Int} (ha:Fl a) (hb:Fl b) (hab:b.natAbs<=a.natAbs) (nh:Nr (a+b) h) (nv:Nr (h-a) v) (nl:Nr (b-v) l):l=a+b-h:=by
 have hd:=uF ha hb nh
 have e1:=aY (sC ha hb hab nh) nv
 subst e1
 rw [show b-(h-a)=a+b-h by omega] at nl
 exact aY hd nl
theorem tz {S h T:Int} (n:Nr S h) (hT:Fl T) (c:T<=S):T<=h:=by
 have:=n.2 T hT
 omega
theorem Ii {S h T:Int} (n:Nr S h) (hT:Fl T) (c:S<=T):h<=T:=by
 have:=n.2 T hT
 omega
theorem tA (i:Nat) {m:Nat} (hm:(m:Int)<=9007199254740992):Fl ((m:Int)*2^i):=by
 refine gh (k:=i) ⟨m,by rw [Int.mul_comm]⟩ ?_
 have h1:0<=(m:Int)*2^i:=Int.mul_nonneg (by omega) (Int.le_of_lt (p2 i))
 have h2:(m:Int)*2^i<=9007199254740992*2^i:=Int.mul_le_mul_of_nonneg_right hm (Int.le_of_lt (p2 i))
 omega
theorem ml {h:Int} {i:Nat} (f:Fl h) (c:4503599627370496*2^i<=(h.natAbs:Int)):(2^i:Int) ∣ h:=by
 obtain ⟨j,d,b⟩:=f
 have hi:=p2 i
 have hj:=p2 j
 cases i with
 | zero=>exact ⟨h,by simp⟩
 | succ i=>
  rw [cX] at c
  have:(2:Int)^i<2^j:=by omega
  exact Int.dvd_trans (ct (oN this)) d
theorem DK (S:Int) (i:Nat):∃ T:Int,(2^i:Int) ∣ T∧2*(T-S).natAbs<=(2^i:Int):=by
 have hi:=p2 i
 have hm:=Int.emod_nonneg S (show (2:Int)^i≠0 by omega)
 have hl:=Int.emod_lt_of_pos S hi
 have e:=Int.emod_add_mul_ediv S (2^i)
 generalize S % 2^i=t at *
 by_cases c:2*t<=2^i
 ·exact ⟨S-t,⟨S/2^i,by omega⟩,by omega⟩
 ·exact ⟨S-t+2^i,⟨S/2^i+1,by rw [Int.mul_add,Int.mul_one]; omega⟩,by omega⟩
theorem lq {S h:Int} {i:Nat} (n:Nr S h) (c:(S.natAbs:Int)<=9007199254740992*2^i):2*((h-S).natAbs:Int)<=2^i:=by
 obtain ⟨T,d,e⟩:=DK S i
 have hi:=p2 i
 have hT:Fl T:=by
  by_cases c2:(T.natAbs:Int)<=9007199254740992*2^i
  ·exact gh d c2
  ·exfalso
   obtain ⟨t,rfl⟩:=d
   have h1:(9007199254740992:Int)<t.natAbs:=by
    rw [Int.natAbs_mul] at c2
    have e2:((2^i:Int).natAbs:Int)=2^i:=by omega
    push_cast at c2
    rcases Int.lt_or_le 9007199254740992 (t.natAbs:Int) with g | g
    ·exact g
    ·exfalso
     have:=Int.mul_le_mul_of_nonneg_left g (Int.le_of_lt hi)
     rw [e2] at c2
     omega
   have h2:(2^i:Int)*9007199254740993<=((2^i*t).natAbs:Int):=by
    rw [Int.natAbs_mul]
    have e2:((2^i:Int).natAbs:Int)=2^i:=by omega
    rw [Int.natCast_mul,e2]
    exact Int.mul_le_mul_of_nonneg_left (by omega) (Int.le_of_lt hi)
   generalize 2^i*t=T at *
   omega
 have:=n.2 T hT
 omega
structure tB (a h:Int) (j:Nat):Prop where
 up:(134217728*2^j:Int) ∣ h
 lo:(2^j:Int) ∣ a-h
 top:(h.natAbs:Int)<=9007199254740992*2^j
 low:((a-h).natAbs:Int)<=67108864*2^j
theorem uG {a q:Int} {m:Int} (hq:0<q) (d:q ∣ a) (h:a<m*q):a<=m*q-q:=by
 obtain ⟨c,rfl⟩:=d
 rw [Int.mul_comm q c] at h ⊢
 have h1:c<m:=Int.lt_of_mul_lt_mul_right h (by omega)
 have h2:(c+1)*q<=m*q:=Int.mul_le_mul_of_nonneg_right (by omega) (by omega)
 rw [Int.add_mul,Int.one_mul] at h2
 omega
theorem vE {a c d h l:Int} {j:Nat} (da:(2^j:Int) ∣ a) (a0:4503599627370496*2^j<=a) (a1:a<9007199254740992*2^j)
  (nc:Nr (134217729*a) c) (nd:Nr (c-a) d) (nh:Nr (c-d) h) (nl:Nr (a-h) l):h=c-d∧l=a-h∧tB a h j:=by
 have hj:=p2 j
 have a2:a<=9007199254740992*2^j-2^j:=uG hj da a1
 have a3:a=4503599627370496*2^j∨4503599627370496*2^j+2^j<=a:=by
  by_cases c0:a=4503599627370496*2^j
  ·exact .inl c0
  ·right
   have d2:(2^j:Int) ∣ -a:=(Int.dvd_neg).2 da
   have:=uG hj d2 (show -a < -4503599627370496*2^j by omega)
   omega
 have e27:(2:Int)^(j+27)=134217728*2^j:=by rw [Int.pow_add,Int.mul_comm]; rfl
 have e28:(2:Int)^(j+28)=268435456*2^j:=by rw [Int.pow_add,Int.mul_comm]; rfl
 have L79:Fl (604462909807314587353088*2^j):=by
  have:=tA (j+27) (m:=4503599627370496) (by decide)
  rw [e27] at this
  rwa [show ((4503599627370496:Nat):Int)*(134217728*2^j)=604462909807314587353088*2^j by rw [<- Int.mul_assoc]; rfl] at this
 -- the product
 have c1:=tz nc L79 (by omega)
 have ec:=lq (i:=j+28) nc (by rw [e28]; omega)
 rw [e28] at ec
 have dc:(134217728*2^j:Int) ∣ c:=by rw [<- e27]; exact ml nc.1 (by rw [e27]; omega)
 -- where a is a power of 2 nothing is lost
 have cz:a=4503599627370496*2^j->c=134217729*a:=by
  intro h0
  refine aY ?_ nc
  subst h0
  have:=tA (j+52) (m:=134217729) (by decide)
  rw [show (2:Int)^(j+52)=4503599627370496*2^j by rw [Int.pow_add,Int.mul_comm]; rfl] at this
  exact this
 have c2:604462909807314587353088*2^j<=c-a:=by
  rcases a3 with g | g
  ·have:=cz g; omega
  ·omega
 have d1:=tz nd L79 c2
 have ed:=lq (i:=j+27) nd (by rw [e27]; omega)
 rw [e27] at ed
 have dd:(134217728*2^j:Int) ∣ d:=by rw [<- e27]; exact ml nd.1 (by rw [e27]; omega)
 have dcd:=Int.dvd_sub dc dd
 have hx:Fl (c-d):=by
  refine gh (k:=j+27) (by rw [e27]; exact dcd) ?_
  rw [e27]; omega
 have eh:=aY hx nh
 have top:((c-d).natAbs:Int)<=9007199254740992*2^j:=by
  -- a multiple of 2^27 units within 2^26 of what is below 2^53
  by_cases g:c-d<=9007199254740992*2^j
  ·omega
  ·exfalso
   have d2:(134217728*2^j:Int) ∣ -(c-d):=(Int.dvd_neg).2 dcd
   have:=uG (q:=134217728*2^j) (m:=-67108864) (by omega) d2 (by omega)
   omega
 have dal:(2^j:Int) ∣ a-(c-d):=Int.dvd_sub da (Int.dvd_trans ⟨134217728,by rw [Int.mul_comm]⟩ dcd)
 have hl:Fl (a-(c-d)):=gh (k:=j) dal (by omega)
 rw [eh] at nl ⊢
 have el:=aY hl nl
 exact ⟨rfl,el,dcd,dal,top,by omega⟩
theorem tB.neg {a h:Int} {j:Nat} (s:tB a h j):tB (-a) (-h) j :=
 ⟨(Int.dvd_neg).2 s.up,by rw [show -a - -h=-(a-h) by omega]; exact (Int.dvd_neg).2 s.lo,by rw [Int.natAbs_neg]; exact s.top,by rw [show -a - -h=-(a-h) by omega,Int.natAbs_neg]; exact s.low⟩
theorem Bz {a c d h l:Int} {j:Nat} (da:(2^j:Int) ∣ a) (a0:4503599627370496*2^j<=(a.natAbs:Int)) (a1:(a.natAbs:Int)<9007199254740992*2^j)
  (nc:Nr (134217729*a) c) (nd:Nr (c-a) d) (nh:Nr (c-d) h) (nl:Nr (a-h) l):h=c-d∧l=a-h∧tB a h j:=by
 rcases Int.le_total 0 a with g | g
 ·exact vE da (by omega) (by omega) nc nd nh nl
 ·have n1:=nc.neg
  rw [show -(134217729*a)=134217729 * -a by omega] at n1
  have n2:=nd.neg
  rw [show -(c-a)=-c - -a by omega] at n2
  have n3:=nh.neg
  rw [show -(c-d)=-c - -d by omega] at n3
  have n4:=nl.neg
  rw [show -(a-h)=-a - -h by omega] at n4
  obtain ⟨e1,e2,s⟩:=vE ((Int.dvd_neg).2 da) (by omega) (by omega) n1 n2 n3 n4
  have:=s.neg
  rw [Int.neg_neg,Int.neg_neg] at this
  exact ⟨by omega,by omega,this⟩
theorem c7 (i:Nat) (t:Int):((2^i*t).natAbs:Int)=2^i*(t.natAbs:Int):=by
 have hi:=p2 i
 rw [Int.natAbs_mul,Int.natCast_mul,show ((2^i:Int).natAbs:Int)=2^i by omega]
theorem Fl.down {i:Nat} {t:Int} (h:Fl (2^i*t)):Fl t:=by
 obtain ⟨k,d,b⟩:=h
 rw [c7] at b
 rcases Nat.le_total i k with c | c
 ·obtain ⟨e,rfl⟩:∃ e,k=i+e:=⟨k-i,by omega⟩
  rw [Int.pow_add] at d b
  refine ⟨e,Int.dvd_of_mul_dvd_mul_left (by have:=p2 i; omega) d,?_⟩
  have e2:(9007199254740992:Int)*(2^i*2^e)=2^i*(9007199254740992*2^e):=by rw [<- Int.mul_assoc,<- Int.mul_assoc,Int.mul_comm _ (2^i)]
  rw [e2] at b
  exact Int.lt_of_mul_lt_mul_left b (Int.le_of_lt (p2 i))
 ·refine ⟨0,⟨t,by simp⟩,?_⟩
  have h1:(9007199254740992:Int)*2^k<=2^i*9007199254740992:=by rw [Int.mul_comm]; exact Int.mul_le_mul_of_nonneg_right (eY c) (by decide)
  have h2:=Int.lt_of_mul_lt_mul_left (Int.lt_of_lt_of_le b h1) (Int.le_of_lt (p2 i))
  simpa using h2
theorem Fl.up {t:Int} (h:Fl t) (i:Nat):Fl (2^i*t):=by
 obtain ⟨k,⟨c,rfl⟩,b⟩:=h
 refine ⟨i+k,⟨c,by rw [Int.pow_add,Int.mul_assoc]⟩,?_⟩
 rw [c7,Int.pow_add]
 have e2:(9007199254740992:Int)*(2^i*2^k)=2^i*(9007199254740992*2^k):=by rw [<- Int.mul_assoc,<- Int.mul_assoc,Int.mul_comm _ (2^i)]
 rw [e2]
 exact Int.mul_lt_mul_of_pos_left b (p2 i)
theorem dO {S h:Int} (n:Nr S h) (i:Nat):Nr (2^i*S) (2^i*h):=by
 have hi:=p2 i
 have au:∀ g:Int,Fl g->((2^i*h-2^i*S).natAbs:Int)<=((2^i*g-2^i*S).natAbs:Int):=by
  intro g hg
  rw [<- Int.mul_sub,<- Int.mul_sub,c7,c7]
  exact Int.mul_le_mul_of_nonneg_left (by have:=n.2 g hg; omega) (Int.le_of_lt hi)
 refine ⟨n.1.up i,fun f hf=>?_⟩
 by_cases d:(2^i:Int) ∣ f
 ·obtain ⟨g,rfl⟩:=d
  have:=au g hf.down
  omega
 ·-- f is small: the next whole number of units on S's side is a float,and nearer
  obtain ⟨j,dj,bj⟩:=hf
  have hji:j<i:=by
   rcases Nat.lt_or_ge j i with c | c
   ·exact c
   ·exact absurd (Int.dvd_trans (ct c) dj) d
  have hfb:(f.natAbs:Int)<4503599627370496*2^i:=by
   have:=eY (show j+1<=i by omega)
   rw [cX] at this
   omega
  have em:=Int.emod_add_mul_ediv f (2^i)
  have m0:=Int.emod_nonneg f (show (2:Int)^i≠0 by omega)
  have m1:=Int.emod_lt_of_pos f hi
  obtain ⟨e,he⟩:∃ e,f/2^i=e:=⟨_,rfl⟩
  rw [he] at em
  have small:∀ g:Int,((2^i*g).natAbs:Int)<=4503599627370496*2^i+2^i->Fl g:=by
   intro g hg
   rw [c7] at hg
   refine gh (k:=0) ⟨g,by simp⟩ ?_
   have:(2:Int)^i*(g.natAbs:Int)<=2^i*4503599627370497:=by omega
   have:=Int.le_of_mul_le_mul_left this hi
   simp
   omega
  rcases Int.lt_or_le e S with c | c
  ·have h1:=au (e+1) (small (e+1) (by rw [Int.mul_add,Int.mul_one]; omega))
   have h2:(2:Int)^i*(e+1)<=2^i*S:=Int.mul_le_mul_of_nonneg_left (by omega) (Int.le_of_lt hi)
   rw [Int.mul_add,Int.mul_one] at h1 h2
   omega
  ·have h1:=au e (small e (by omega))
   have h2:(2:Int)^i*S<=2^i*e:=Int.mul_le_mul_of_nonneg_left (by omega) (Int.le_of_lt hi)
   omega
theorem BB (j:Nat):∀ (n:Nat) (a:Int),((a.natAbs:Int)<9007199254740992*2^j)->(4503599627370496*2^j<=2^n*(a.natAbs:Int))->∃ x:Nat,4503599627370496*2^j<=((2^x*a).natAbs:Int)∧((2^x*a).natAbs:Int)<9007199254740992*2^j:=by
 intro n
 induction n with
 | zero=>
  intro a h1 h2
  rw [Int.pow_zero,Int.one_mul] at h2
  exact ⟨0,by rw [Int.pow_zero,Int.one_mul]; exact ⟨h2,h1⟩⟩
 | succ n ih=>
  intro a h1 h2
  by_cases c:4503599627370496*2^j<=(a.natAbs:Int)
  ·exact ⟨0,by rw [Int.pow_zero,Int.one_mul]; exact ⟨c,h1⟩⟩
  ·have e:((2*a).natAbs:Int)=2*(a.natAbs:Int):=by omega
   obtain ⟨x,g⟩:=ih (2*a) (by omega) (by rw [e,<- Int.mul_assoc,Int.mul_comm (2^n) 2,<- cX]; exact h2)
   rw [<- Int.mul_assoc,Int.mul_comm (2^x) 2,<- cX] at g
   exact ⟨x+1,g⟩
theorem Jp {a:Int} (h:Fl a) (h0:a≠0):∃ x j:Nat,(2^j:Int) ∣ 2^x*a∧4503599627370496*2^j<=((2^x*a).natAbs:Int)∧((2^x*a).natAbs:Int)<9007199254740992*2^j:=by
 obtain ⟨j,d,b⟩:=h
 have hj:=p2 j
 have h1:(2^j:Int)<=(a.natAbs:Int):=Int.le_of_dvd (by omega) (Int.dvd_natAbs.2 d)
 obtain ⟨x,g⟩:=BB j 52 a b (by rw [show (2:Int)^52=4503599627370496 by decide]; omega)
 exact ⟨x,j,Int.dvd_mul_of_dvd_right d,g⟩
theorem Gg {a c d h l:Int} (ha:Fl a) (h0:a≠0) (nc:Nr (134217729*a) c) (nd:Nr (c-a) d) (nh:Nr (c-d) h) (nl:Nr (a-h) l) :
  l=a-h∧∃ x j:Nat,tB (2^x*a) (2^x*h) j∧4503599627370496*2^j<=((2^x*a).natAbs:Int)∧((2^x*a).natAbs:Int)<9007199254740992*2^j:=by
 obtain ⟨x,j,g1,g2,g3⟩:=Jp ha h0
 have n1:=dO nc x
 rw [show (2:Int)^x*(134217729*a)=134217729*(2^x*a) by rw [<- Int.mul_assoc,Int.mul_comm (2^x),Int.mul_assoc]] at n1
 have n2:=dO nd x
 rw [Int.mul_sub] at n2
 have n3:=dO nh x
 rw [Int.mul_sub] at n3
 have n4:=dO nl x
 rw [Int.mul_sub] at n4
 obtain ⟨e1,e2,s⟩:=Bz g1 g2 g3 n1 n2 n3 n4
 rw [<- Int.mul_sub] at e2
 exact ⟨Int.eq_of_mul_eq_mul_left (by have:=p2 x; omega) e2,x,j,s,g2,g3⟩
theorem gn {x y:Int} {X Y:Int} (hx:(x.natAbs:Int)<=X) (hy:(y.natAbs:Int)<=Y):((x*y).natAbs:Int)<=X*Y:=by
 rw [Int.natAbs_mul,Int.natCast_mul]
 exact Int.mul_le_mul hx hy (by omega) (by omega)
theorem BC {x y:Int} {X Y:Int} (hX:0<=X) (hY:0<=Y) (hx:X<=(x.natAbs:Int)) (hy:Y<=(y.natAbs:Int)):X*Y<=((x*y).natAbs:Int):=by
 rw [Int.natAbs_mul,Int.natCast_mul]
 exact Int.mul_le_mul hx hy hY (by omega)
theorem lJ (c d:Int) (i j:Nat):(c*2^i)*(d*2^j)=c*d*2^(i+j):=by
 rw [Int.pow_add,Int.mul_assoc,Int.mul_assoc]
 congr 1
 rw [<- Int.mul_assoc,<- Int.mul_assoc,Int.mul_comm (2^i) d]
theorem Nx (a b c d:Int):a+c+(b+d)=a+b+c+d:=by omega
theorem Om (a b c d:Int):a+b+c+d=a+(b+d)+c:=by omega
theorem On (a b c d:Int):a+b+c+d=a+b+(c+d):=by omega
theorem Oo (h a b c d:Int):d-(h-a-b-c)=a+b+c+d-h:=by omega
theorem Oq {H AB PR QB PS g:Int} (e:AB=PR+QB+PS) (h:2*((H-AB).natAbs:Int)<=9007199254740992*g) (q:(QB.natAbs:Int)<=604462909807314587353088*g) (s:(PS.natAbs:Int)<=604462909807314587353088*g):((H-PR).natAbs:Int)<=9007199254740992*(4503599627370496*g):=by omega
theorem Or {H AB PR QR AS g:Int} (e:AB=PR+QR+AS) (h:2*((H-AB).natAbs:Int)<=9007199254740992*g) (q:(AS.natAbs:Int)<=604462909807314587353088*g):((H-PR-QR).natAbs:Int)<=9007199254740992*(134217728*g):=by omega
theorem Ot {H AB PR QR PS QS g:Int} (e:AB=PR+QR+PS+QS) (h:2*((H-AB).natAbs:Int)<=9007199254740992*g) (q:(QS.natAbs:Int)<=4503599627370496*g):((H-PR-QR-PS).natAbs:Int)<=9007199254740992*g:=by omega
theorem Ou {H AB PR QR PS QS g:Int} (e:AB=PR+QR+PS+QS) (h:2*((H-AB).natAbs:Int)<=9007199254740992*g):((QS-(H-PR-QR-PS)).natAbs:Int)<=9007199254740992*g:=by omega
theorem Ny {H AB G:Int} (n:Nr AB H) (f:Fl G) (h:G<=(AB.natAbs:Int)):G<=(H.natAbs:Int):=by
 rcases Int.le_total 0 AB with c | c
 ·have:=tz n f (by omega); omega
 ·have:=Ii n f.neg (by omega); omega
theorem Nz {x c d g:Int} (hg:0<g) (h:(x.natAbs:Int)<=c*g) (hcd:c<=d):(x.natAbs:Int)<=d*g:=Int.le_trans h (Int.mul_le_mul_of_nonneg_right hcd (Int.le_of_lt hg))
theorem Ij {x c d e g:Int} (hg:0<g) (h:(x.natAbs:Int)<=c*g) (hcd:c<=d*e):(x.natAbs:Int)<=d*(e*g):=by rw [<- Int.mul_assoc]; exact Nz hg h hcd
theorem KN {A B P R H x1 t1 x2 t2 x3 t3 x4 l:Int} {i j:Nat} (sa:tB A P i) (sb:tB B R j) (a0:4503599627370496*2^i<=(A.natAbs:Int)) (a1:(A.natAbs:Int)<9007199254740992*2^i)
  (b0:4503599627370496*2^j<=(B.natAbs:Int)) (b1:(B.natAbs:Int)<9007199254740992*2^j)
  (nH:Nr (A*B) H) (n1:Nr (P*R) x1) (m1:Nr (H-x1) t1) (n2:Nr ((A-P)*R) x2) (m2:Nr (t1-x2) t2) (n3:Nr (P*(B-R)) x3) (m3:Nr (t2-x3) t3) (n4:Nr ((A-P)*(B-R)) x4) (m4:Nr (x4-t3) l):l=A*B-H:=by
 obtain ⟨Q,hQ⟩:∃ Q,A-P=Q:=⟨_,rfl⟩
 obtain ⟨S,hS⟩:∃ S,B-R=S:=⟨_,rfl⟩
 obtain ⟨u1,u2,u3,u4⟩:=sa
 obtain ⟨v1,v2,v3,v4⟩:=sb
 rw [hQ] at u2 u4 n2 n4
 rw [hS] at v2 v4 n3 n4
 have hi:=p2 i
 have hj:=p2 j
 have hg:=p2 (i+j)
 -- sizes
 have zAB:=BC (by omega) (by omega) a0 b0
 rw [lJ] at zAB
 have yAB:=gn (Int.le_of_lt a1) (Int.le_of_lt b1)
 rw [lJ] at yAB
 have yQS:=gn u4 v4
 rw [lJ] at yQS
 have yQR:=gn u4 v3
 rw [lJ] at yQR
 have yPS:=gn u3 v4
 rw [lJ] at yPS
 have yPR:=gn u3 v3
 rw [lJ] at yPR
 have yQB:=gn u4 (Int.le_of_lt b1)
 rw [lJ] at yQB
 have yAS:=gn (Int.le_of_lt a1) v4
 rw [lJ] at yAS
 -- units
 have dPR:(18014398509481984*2^(i+j):Int) ∣ P*R:=by
  have:=Int.mul_dvd_mul u1 v1
  rw [lJ] at this
  exact this
 have dQR:(134217728*2^(i+j):Int) ∣ Q*R:=by
  have:=Int.mul_dvd_mul u2 v1
  rw [show (2:Int)^i*(134217728*2^j)=134217728*2^(i+j) by rw [<- Int.mul_assoc,Int.mul_comm (2^i),Int.mul_assoc,<- Int.pow_add]] at this
  exact this
 have dPS:(134217728*2^(i+j):Int) ∣ P*S:=by
  have:=Int.mul_dvd_mul u1 v2
  rw [show 134217728*(2:Int)^i*2^j=134217728*2^(i+j) by rw [Int.mul_assoc,<- Int.pow_add]] at this
  exact this
 have dQS:(2^(i+j):Int) ∣ Q*S:=by
  have:=Int.mul_dvd_mul u2 v2
  rwa [<- Int.pow_add] at this
 have eA:A=P+Q:=by omega
 have eB:B=R+S:=by omega
 have e1:A*B=P*R+Q*R+P*S+Q*S:=by
  rw [eA,eB,Int.add_mul,Int.mul_add,Int.mul_add]; exact Nx _ _ _ _
 have e2:Q*B=Q*R+Q*S:=by rw [eB,Int.mul_add]
 have e3:A*S=P*S+Q*S:=by rw [eA,Int.add_mul]
 have e4:A*B=P*R+Q*B+P*S:=by rw [e1,e2]; exact Om _ _ _ _
 have e5:A*B=P*R+Q*R+A*S:=by rw [e1,e3]; exact On _ _ _ _
 clear eA eB hQ hS e2 e3
 generalize P*R=PR at *
 generalize Q*R=QR at *
 generalize P*S=PS at *
 generalize Q*S=QS at *
 generalize A*S=AS at *
 generalize Q*B=QB at *
 generalize A*B=AB at *
 obtain ⟨g,hgg⟩:∃ g:Int,(2:Int)^(i+j)=g:=⟨_,rfl⟩
 have w27:(2:Int)^(i+j+27)=134217728*g:=by rw [Int.pow_add,hgg,Int.mul_comm]; rfl
 have w52:(2:Int)^(i+j+52)=4503599627370496*g:=by rw [Int.pow_add,hgg,Int.mul_comm]; rfl
 have w53:(2:Int)^(i+j+53)=9007199254740992*g:=by rw [Int.pow_add,hgg,Int.mul_comm]; rfl
 have w54:(2:Int)^(i+j+54)=18014398509481984*g:=by rw [Int.pow_add,hgg,Int.mul_comm]; rfl
 rw [hgg] at zAB yAB yQS yQR yPS yPR yQB yAS dPR dQR dPS dQS hg
 -- the product
 have eH:=lq (i:=i+j+53) nH (by rw [w53]; exact Ij hg yAB (by decide))
 rw [w53] at eH
 have L104:Fl (20282409603651670423947251286016*g):=by
  have:=tA (i+j+52) (m:=4503599627370496) (by decide)
  rw [w52] at this
  rwa [show ((4503599627370496:Nat):Int)*(4503599627370496*g)=20282409603651670423947251286016*g by rw [<- Int.mul_assoc]; rfl] at this
 have h104:20282409603651670423947251286016*g<=(H.natAbs:Int):=Ny nH L104 zAB
 have dH:(4503599627370496*g:Int) ∣ H:=by rw [<- w52]; exact ml nH.1 (by rw [w52,<- Int.mul_assoc]; exact h104)
 have dvA:∀ {c d x:Int},(c*d*g:Int) ∣ x->(d*g:Int) ∣ x:=fun {c d x} h=>Int.dvd_trans ⟨c,by rw [Int.mul_assoc,Int.mul_comm]⟩ h
 -- the steps
 have f1:=aY (gh (k:=i+j+54) (by rw [w54]; exact dPR) (by rw [w54]; exact Ij hg yPR (by decide))) n1
 subst f1
 have d1:(4503599627370496*g:Int) ∣ H-x1:=Int.dvd_sub dH (dvA (c:=4) dPR)
 have f2:=aY (gh (k:=i+j+52) (by rw [w52]; exact d1) (by rw [w52]; exact Oq e4 eH yQB yPS)) m1
 subst f2
 have f3:=aY (gh (k:=i+j+27) (by rw [w27]; exact dQR) (by rw [w27]; exact Ij hg yQR (by decide))) n2
 subst f3
 have d2:(134217728*g:Int) ∣ H-x1-x2:=Int.dvd_sub (dvA (c:=33554432) d1) dQR
 have f4:=aY (gh (k:=i+j+27) (by rw [w27]; exact d2) (by rw [w27]; exact Or e5 eH yAS)) m2
 subst f4
 have f5:=aY (gh (k:=i+j+27) (by rw [w27]; exact dPS) (by rw [w27]; exact Ij hg yPS (by decide))) n3
 subst f5
 have d3:(g:Int) ∣ H-x1-x2-x3:=by
  have:=Int.dvd_sub d2 dPS
  exact Int.dvd_trans ⟨134217728,by rw [Int.mul_comm]⟩ this
 have f6:=aY (gh (k:=i+j) (by rw [hgg]; exact d3) (by rw [hgg]; exact Ot e1 eH yQS)) m3
 subst f6
 have f7:=aY (gh (k:=i+j) (by rw [hgg]; exact dQS) (by rw [hgg]; exact Nz hg yQS (by decide))) n4
 subst f7
 have d4:(g:Int) ∣ x4-(H-x1-x2-x3):=Int.dvd_sub dQS d3
 have f8:=aY (gh (k:=i+j) (by rw [hgg]; exact d4) (by rw [hgg]; exact Ou e1 eH)) m4
 rw [f8,e1]
 exact Oo _ _ _ _ _
end Go.Proofs.YtcjfonaolcokbaaGreatDoor.M
namespace Go.Proofs.YtcjfonaolcokbaaGreatDoor
open Go Go.RowKit Go.Proofs.YtcjfonaolcokbaaGreatDoor.M Ieee
def iV (p:Int):Int:=sg (decide (p<0)) (V Ieee.double (rg p).toNat:Int)
theorem bF {p:Int} (hp:aj p) (h:ak p=true):ar p=iV p*pw (-1074):=by
 rw [jF hp h]; unfold iV vS; rw [lT]
theorem uH (n k:Nat):((n*2^k:Nat):Int)=2^k*(n:Int):=by rw [Int.natCast_mul,Int.mul_comm]; simp
theorem Gh {S q:Int} (hq:0<q) (h:S≠0):S*q≠0:=fun c=>by
 rcases Int.mul_eq_zero.1 c with d | d <;> omega
theorem Mv {S q:Int} (hq:0<q):decide (S*q<0)=decide (S<0):=by
 congr 1
 exact propext (rA hq).symm
theorem Mw {S q A:Int} (hq:0<q) (h:S*q=sg (decide (S<0)) A):A=(S.natAbs:Int)*q:=by
 have:=vD (t:=S) hq
 rw [this] at h
 exact (js h).symm
theorem KO {S h:Int} (n:Nr (S.natAbs:Int) h):Nr S (sg (decide (S<0)) h):=by
 by_cases c:S<0
 ·rw [decide_eq_true c]
  have n2:=n.neg
  have e:-(S.natAbs:Int)=S:=by omega
  rw [e] at n2
  exact n2
 ·rw [decide_eq_false c]
  have e:(S.natAbs:Int)=S:=by omega
  rw [e] at n
  exact n
theorem BD (r:Nat):Fl (V Ieee.double r:Int):=by
 unfold V
 rw [kK]
 by_cases h:r<4503599627370496
 ·rw [if_pos h]
  exact ⟨0,⟨r,by simp⟩,by simp; omega⟩
 ·rw [if_neg h]
  have hm:=Nat.mod_lt r (show 0<4503599627370496 by decide)
  obtain ⟨n,hn⟩:∃ n,4503599627370496+r % 4503599627370496=n:=⟨_,rfl⟩
  rw [hn]
  refine ⟨r/4503599627370496-1,⟨n,uH _ _⟩,?_⟩
  rw [Int.natAbs_natCast,uH,Int.mul_comm]
  exact Int.mul_lt_mul_of_pos_right (by omega) (p2 _)
theorem NK {f:Int} (h:Fl f):∃ r:Nat,(f.natAbs:Int)=(V Ieee.double r:Int):=by
 obtain ⟨k,b,c⟩:=tt (f.natAbs:Int) (by omega)
 rcases Nat.eq_zero_or_pos k with g | g
 ·subst g
  have:=jN Ieee.double 0 f.natAbs (.inl ⟨rfl,by rw [kK]; simp at b; omega⟩)
  exact ⟨_,by rw [this]; simp⟩
 ·have c2:4503599627370496*2^k<=(f.natAbs:Int):=by
   rcases c with c | c
   ·omega
   ·exact c
  obtain ⟨t,ht⟩:=ml h c2
  have e:(f.natAbs:Int)=2^k*(t.natAbs:Int):=by rw [ht,c7]
  rw [e] at b c2
  have hk:=p2 k
  have b2:(t.natAbs:Int)<9007199254740992:=Int.lt_of_mul_lt_mul_left (by rw [Int.mul_comm (2^k) 9007199254740992]; exact b) (Int.le_of_lt hk)
  have c3:4503599627370496<=(t.natAbs:Int):=Int.le_of_mul_le_mul_left (by rw [Int.mul_comm (2^k) 4503599627370496]; exact c2) hk
  have:=jN Ieee.double k t.natAbs (.inr ⟨by rw [kK]; omega,by rw [kK]; omega⟩)
  exact ⟨_,by rw [this,e]; push_cast; rw [Int.mul_comm]⟩
theorem uI {r s:Nat} (h:r<=s):(V Ieee.double r:Int)<=V Ieee.double s:=by
 rcases Nat.lt_or_eq_of_le h with g | g
 ·have:=j9 Ieee.double g; omega
 ·rw [g]; omega
theorem NL {S:Int} {ng:Bool} {r0:Nat} {left:Int} (h0:0<=S) (hR:dM (S*pw (-1074)) r0 left) (hf:bk 0 ng r0 left<9218868437227405312):Nr S (V Ieee.double (bk 0 ng r0 left).toNat:Int):=by
 obtain ⟨lo,hi,l0,l1,l2,l3⟩:=hR
 have hq:=bD (-1074)
 unfold vS at *
 generalize pw (-1074)=q at *
 have g1:(V Ieee.double r0:Int)<=S:=Int.le_of_mul_le_mul_right lo hq
 have g2:S<(V Ieee.double (r0+1):Int):=Int.lt_of_mul_lt_mul_right hi (Int.le_of_lt hq)
 have g3:left=2->2*S=(V Ieee.double r0:Int)+V Ieee.double (r0+1):=fun c=>by
  have:=l2.1 c
  rw [<- Int.add_mul,<- Int.mul_assoc] at this
  exact Int.eq_of_mul_eq_mul_right (by omega) this
 have g4:left=3->(V Ieee.double r0:Int)+V Ieee.double (r0+1)<2*S:=fun c=>by
  have:=l3.1 c
  rw [<- Int.add_mul,<- Int.mul_assoc] at this
  exact Int.lt_of_mul_lt_mul_right this (Int.le_of_lt hq)
 have g5:left≠3->2*S<=(V Ieee.double r0:Int)+V Ieee.double (r0+1):=fun c=>by
  rcases Int.lt_or_le ((V Ieee.double r0:Int)+V Ieee.double (r0+1)) (2*S) with d | d
  ·have:=Int.mul_lt_mul_of_pos_right d hq
   rw [Int.add_mul,Int.mul_assoc] at this
   exact absurd (l3.2 this) c
  ·exact d
 clear l0 l1 l2 l3 lo hi
 have far:∀ f:Int,Fl f->f<=V Ieee.double r0∨V Ieee.double (r0+1)<=f:=by
  intro f hf
  obtain ⟨s,hs⟩:=NK hf
  rcases Nat.lt_or_ge r0 s with c | c
  ·have:=uI (show r0+1<=s from c)
   have:=uI (show 0<=r0 by omega)
   omega
  ·have:=uI c
   omega
 unfold bk at hf ⊢
 by_cases hr:(r0:Int)<9218868437227405312
 ·rw [if_pos hr] at hf ⊢
  cases hu:bM 0 ng (decide (r0 % 2=1)) left
  ·rw [if_neg (by decide)]
   have e:((r0:Int)+0).toNat=r0:=by omega
   rw [e]
   have hl:left≠3:=fun c=>by
    subst c
    unfold bM at hu
    simp at hu
   refine ⟨BD r0,fun f hf=>?_⟩
   have:=far f hf
   have:=g5 hl
   omega
  ·rw [if_pos rfl]
   have e:((r0:Int)+1).toNat=r0+1:=by omega
   rw [e]
   have hl:left=3∨left=2:=by
    unfold bM at hu
    simp at hu
    rcases hu with c | c
    ·exact .inl c
    ·exact .inr c.1
   refine ⟨BD (r0+1),fun f hf=>?_⟩
   have:=far f hf
   rcases hl with c | c
   ·have:=g4 c; omega
   ·have:=g3 c; omega
 ·rw [if_neg hr] at hf
  unfold c9 bM at hf
  simp at hf
def ii:Int:=(V Ieee.double 9218868437227405311:Int)
theorem Mx {S:Int} {ng:Bool} {r0:Nat} {left:Int} (h0:S<=ii) (hR:dM (S*pw (-1074)) r0 left):bk 0 ng r0 left<9218868437227405312:=by
 obtain ⟨lo,hi,l0,l1,l2,l3⟩:=hR
 have hq:=bD (-1074)
 unfold vS at *
 generalize pw (-1074)=q at *
 have g1:(V Ieee.double r0:Int)<=S:=Int.le_of_mul_le_mul_right lo hq
 have hr:r0<=9218868437227405311:=by
  rcases Nat.lt_or_ge 9218868437227405311 r0 with c | c
  ·have:=j9 Ieee.double c
   unfold ii at h0
   omega
  ·exact c
 unfold bk
 rw [if_pos (by omega)]
 by_cases c:r0=9218868437227405311
 ·have e:S=(V Ieee.double r0:Int):=by rw [c] at g1 ⊢; unfold ii at h0; omega
  have:left=0:=l0.2 (by rw [e])
  subst this
  rw [if_neg (fun c=>iS c)]
  omega
 ·split <;> omega
theorem cW {ng:Bool} {r:Int} (h0:0<=r) (h1:r<=9218868437227405312):aj (aC ng r)∧rg (aC ng r)=r∧decide (aC ng r<0)=ng:=by
 unfold aC aj rg
 cases ng
 ·simp only [Bool.false_eq_true,if_false]
  rw [if_neg (by omega)]
  exact ⟨by omega,rfl,decide_eq_false (by omega)⟩
 ·simp only [if_true]
  rw [if_pos (by omega)]
  exact ⟨by omega,by omega,decide_eq_true (by omega)⟩
theorem iU {ng:Bool} {r:Int} (h0:0<=r) (h1:r<=9218868437227405312):ak (aC ng r)=decide (r<9218868437227405312):=by
 obtain ⟨a,b,_⟩:=cW (ng:=ng) h0 h1
 have:=bw a
 rw [b] at this
 cases h:ak (aC ng r)
 ·refine (decide_eq_false fun c=>?_).symm
  rw [this.2 c] at h; cases h
 ·exact (decide_eq_true (this.1 h)).symm
theorem qM {ng:Bool} {r:Int} (h0:0<=r) (h1:r<=9218868437227405312):iV (aC ng r)=sg ng (V Ieee.double r.toNat:Int):=by
 obtain ⟨_,b,c⟩:=cW (ng:=ng) h0 h1
 unfold iV
 rw [b,c]
theorem Jq:Nr 0 0:=⟨co,fun f _=>by omega⟩
theorem Am {S:Int} (h:S≠0):aj (bu (S*pw (-1074)))∧(ak (bu (S*pw (-1074)))=true->Nr S (iV (bu (S*pw (-1074)))))∧((S.natAbs:Int)<=ii->ak (bu (S*pw (-1074)))=true):=by
 have hq:=bD (-1074)
 obtain ⟨A,r0,left,e1,hR,e2⟩:=gg (Gh hq h)
 rw [Mv hq] at e1 e2
 have hA:=Mw hq e1
 rw [hA] at hR
 have hrr:=b9 0 (decide (S<0)) r0 left
 rw [e2]
 refine ⟨(cW hrr.1 hrr.2).1,fun hp=>?_,fun hb=>?_⟩
 ·rw [iU hrr.1 hrr.2] at hp
  have n:=NL (ng:=decide (S<0)) (Int.natCast_nonneg _) hR (of_decide_eq_true hp)
  rw [qM hrr.1 hrr.2]
  exact KO n
 ·rw [iU hrr.1 hrr.2]
  exact decide_eq_true (Mx hb hR)
theorem nK:aj 9221120237041090561:=by unfold aj; decide
theorem mn:ak 9221120237041090561=false:=by decide
theorem kA {p:Int} (hp:aj p) (h4:¬ aG p=4) (hi:¬ rg p=9218868437227405312):ak p=true:=by
 have:=(dZ hp).1
 rw [bw hp]
 have:¬ 9218868437227405312<rg p:=fun c=>h4 (this.2 c)
 omega
theorem xM {p:Int} (hp:aj p) (hi:rg p=9218868437227405312):¬ ak p=true:=fun h=>by
 have:=(bw hp).1 h
 omega
theorem dT {p:Int} (hp:aj p) (h:ak p=true):¬ aG p=4∧¬ rg p=9218868437227405312:=by
 have h1:=(bw hp).1 h
 exact ⟨fun c=>by have:=(dZ hp).1.1 c; omega,by omega⟩
theorem vF {p q:Int} (hp:aj p) (hq:aj q) (h:ak (ap p q)=true):ak p=true∧ak q=true:=by
 unfold ap at h
 by_cases c4:aG p=4∨aG q=4
 ·rw [if_pos c4,mn] at h; cases h
 rw [if_neg c4] at h
 by_cases ci:rg p=9218868437227405312
 ·rw [if_pos ci] at h
  by_cases cj:rg q=9218868437227405312∧decide (p<0)≠decide (q<0)
  ·rw [if_pos cj,mn] at h; cases h
  ·rw [if_neg cj] at h; exact absurd h (xM hp ci)
 rw [if_neg ci] at h
 by_cases cj:rg q=9218868437227405312
 ·rw [if_pos cj] at h; exact absurd h (xM hq cj)
 exact ⟨kA hp (fun c=>c4 (.inl c)) ci,kA hq (fun c=>c4 (.inr c)) cj⟩
theorem BE {p q:Int} (hp:aj p) (hq:aj q) (h:ak (aq p q)=true):ak p=true∧ak q=true:=by
 unfold aq at h
 by_cases c4:aG p=4∨aG q=4
 ·rw [if_pos c4,mn] at h; cases h
 rw [if_neg c4] at h
 by_cases ci:rg p=9218868437227405312∨rg q=9218868437227405312
 ·rw [if_pos ci] at h
  by_cases cj:rg p=0∨rg q=0
  ·rw [if_pos cj,mn] at h; cases h
  ·rw [if_neg cj,iU (by decide) (by decide)] at h
   simp at h
 exact ⟨kA hp (fun c=>c4 (.inl c)) (fun c=>ci (.inl c)),kA hq (fun c=>c4 (.inr c)) (fun c=>ci (.inr c))⟩
theorem lK (g:Bool):aj (aC g 0)∧ak (aC g 0)=true∧iV (aC g 0)=0:=by
 refine ⟨(cW (by decide) (by decide)).1,?_,?_⟩
 ·rw [iU (by decide) (by decide)]; decide
 ·rw [qM (by decide) (by decide)]
  show sg g (V Ieee.double 0:Int)=0
  rw [nD]
  exact dI g
structure sD (S p:Int):Prop where
 rn:aj p
 nr:ak p=true->Nr S (iV p)
 fin:(S.natAbs:Int)<=ii->ak p=true
theorem sE (g:Bool):sD 0 (aC g 0):=by
 obtain ⟨a,b,c⟩:=lK g
 exact ⟨a,fun _=>by rw [c]; exact Jq,fun _=>b⟩
theorem sF {S:Int} (h:S≠0):sD S (bu (S*pw (-1074))):=by
 obtain ⟨a,b,c⟩:=Am h
 exact ⟨a,b,c⟩
theorem KP {a b T u Z k w:Int} (hz:0<Z) (e2:w*w=u*Z) (e3:w=u*k) (hT:k*T=a*b):a*w*(b*w)/Z=T*w:=by
 have e1:a*w*(b*w)=a*b*(w*w):=by
  rw [Int.mul_assoc,Int.mul_assoc]; congr 1; rw [<- Int.mul_assoc,<- Int.mul_assoc,Int.mul_comm w b]
 rw [e1,e2,<- hT]
 have:k*T*(u*Z)=T*w*Z:=by
  rw [e3,Int.mul_comm k T,Int.mul_assoc,Int.mul_assoc,<- Int.mul_assoc k u Z,Int.mul_comm k u]
 rw [this]
 exact Int.mul_ediv_cancel _ (by omega)
theorem DL {T w:Int} (g:Bool) (hw:0<w) (d:sg g (T*w)=0):T=0:=by
 have:=oc d
 rcases Int.mul_eq_zero.1 this with g | g <;> omega
theorem Jr {T w:Int} (hw:0<w) (d:T*w=0):T=0:=by
 rcases Int.mul_eq_zero.1 d with g | g <;> omega
theorem Ik {T w:Int} (g:Bool) (h:T=0):sg g (T*w)=0:=by rw [h,Int.zero_mul]; exact dI g
theorem DM (g:Bool) (A:Int):sg g (sg g A)=A:=by cases g <;> simp [sg]
theorem eI {p q:Int} (hp:aj p) (hq:aj q) (pp:ak p=true) (pq:ak q=true):sD (iV p+iV q) (ap p q):=by
 obtain ⟨a1,a2⟩:=dT hp pp
 obtain ⟨b1,b2⟩:=dT hq pq
 have e:ap p q=if iV p+iV q=0 then aC (decide (p<0) && decide (q<0)) 0 else bu ((iV p+iV q)*pw (-1074)):=by
  unfold ap
  rw [if_neg (fun c=>c.elim a1 b1),if_neg a2,if_neg b2,bF hp pp,bF hq pq,<- Int.add_mul]
  have hq:=bD (-1074)
  by_cases c:iV p+iV q=0
  ·rw [if_pos c,if_pos (by rw [c,Int.zero_mul])]
  ·rw [if_neg c,if_neg (fun d=>c (Jr hq d))]
 rw [e]
 by_cases c:iV p+iV q=0
 ·rw [if_pos c,c]; exact sE _
 ·rw [if_neg c]; exact sF c
theorem dq {p q T:Int} (hp:aj p) (hq:aj q) (pp:ak p=true) (pq:ak q=true) (hT:2^1074*T=iV p*iV q):sD T (aq p q):=by
 obtain ⟨a1,a2⟩:=dT hp pp
 obtain ⟨b1,b2⟩:=dT hq pq
 have hw:=bD (-1074)
 have hs:ar p*ar q/2^4194304=T*pw (-1074):=by
  rw [bF hp pp,bF hq pq]
  have e2:=j8 (a:=-1074) (b:=-1074) (by decide) (by decide)
  rw [show (-1074 + -1074:Int)=-2148 by decide] at e2
  have e3:=ff (e:=-2148) (by decide) 1074
  rw [show (-2148+((1074:Nat):Int))=-1074 by decide] at e3
  exact KP (aO 4194304) e2 e3 hT
 have e:aq p q=if T=0 then aC (bv p q) 0 else bu (T*pw (-1074)):=by
  unfold aq eG
  rw [if_neg (fun c=>c.elim a1 b1),if_neg (fun c=>c.elim a2 b2),hs]
  by_cases c:T=0
  ·rw [if_pos c,if_pos (Ik _ c)]
  ·rw [if_neg c,if_neg (fun d=>c (DL _ hw d)),DM]
 rw [e]
 by_cases c:T=0
 ·rw [if_pos c,c]; exact sE _
 ·rw [if_neg c]; exact sF c
theorem bS {q:Int} (hq:aj q) (h:ak q=true):aj (neg q)∧ak (neg q)=true∧iV (neg q)=-iV q:=by
 obtain ⟨b1,b2⟩:=dT hq h
 have h1:=(bw hq).1 h
 have e:neg q=aC (!decide (q<0)) (rg q):=by
  unfold neg aC rg
  rw [if_neg b1]
  by_cases c:q<0
  ·rw [if_pos c,if_pos c,decide_eq_true c]; rfl
  ·rw [if_neg c,if_neg c,decide_eq_false c]; rfl
 have h0:0<=rg q:=by unfold rg; unfold aj at hq; split <;> omega
 obtain ⟨c1,c2,c3⟩:=cW (ng:=!decide (q<0)) h0 (by omega)
 refine ⟨by rw [e]; exact c1,by rw [e,iU h0 (by omega)]; exact decide_eq_true h1,?_⟩
 rw [e,qM h0 (by omega)]
 unfold iV
 rw [wP]
theorem Js {q:Int} (hq:aj q) (h:ak (neg q)=true):ak q=true:=by
 unfold neg at h
 by_cases c:aG q=4
 ·rw [if_pos c,mn] at h; cases h
 ·by_cases ci:rg q=9218868437227405312
  ·exfalso
   rw [if_neg c] at h
   have hr:aj (if q<0 then q+9223372036854775808 else q-9223372036854775808):=by unfold aj at *; split <;> omega
   have:=(bw hr).1 h
   unfold rg at this ci
   split at this <;> split at ci <;> split at this <;> omega
  ·exact kA hq c ci
theorem aZ {q:Int} (hq:aj q):aj (neg q):=by
 unfold neg aj at *
 split
 ·omega
 ·split <;> omega
theorem bP {p q:Int} (hp:aj p) (hq:aj q) (pp:ak p=true) (pq:ak q=true):sD (iV p-iV q) (ap p (neg q)):=by
 obtain ⟨a,b,c⟩:=bS hq pq
 have:=eI hp a pp b
 rw [c] at this
 exact this
theorem dt {p q:Int} (hp:aj p) (hq:aj q) (h:ak (ap p (neg q))=true):ak p=true∧ak q=true:=by
 obtain ⟨a,b⟩:=vF hp (aZ hq) h
 exact ⟨a,Js hq b⟩
theorem aH {p q:Int} (hp:aj p) (hq:aj q):aj (ap p q):=by
 by_cases h:ak p=true∧ak q=true
 ·exact (eI hp hq h.1 h.2).rn
 ·unfold ap
  by_cases c4:aG p=4∨aG q=4
  ·rw [if_pos c4]; exact nK
  rw [if_neg c4]
  by_cases ci:rg p=9218868437227405312
  ·rw [if_pos ci]; split
   ·exact nK
   ·exact hp
  rw [if_neg ci]
  by_cases cj:rg q=9218868437227405312
  ·rw [if_pos cj]; exact hq
  exact absurd ⟨kA hp (fun c=>c4 (.inl c)) ci,kA hq (fun c=>c4 (.inr c)) cj⟩ h
theorem aU {p q:Int} (hp:aj p) (hq:aj q):aj (aq p q):=by
 unfold aq
 split
 ·exact nK
 ·split
  ·split
   ·exact nK
   ·exact (cW (by decide) (by decide)).1
  ·split
   ·exact (cW (by decide) (by decide)).1
   ·rename_i h
    exact (ef (fun c=>h (oc c))).1
end Go.Proofs.YtcjfonaolcokbaaGreatDoor
