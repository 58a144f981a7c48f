/- Parts of the proof. -/
import Derived.WalkKit
import Derived.Laws.MathBits
import Derived.Lib.TrailingZeros
import Ieee.Arith
import GoSem.Core.Float
import Derived.Lib.BitFns
import Derived.Test.YtjjihmnbdeeedaaGreatDoorProg
import Derived.OwnWalk
import Derived.Below
import Derived.Laws.OwnMore
import Derived.Laws.AppendOwnNone
import Derived.Deep.QuietTactic
import Derived.BigQuiet
import Derived.Tactics
import Derived.Tactics2
import Derived.Defers
import Derived.Recover
import Derived.Laws.Pointers
import Derived.WalkLawsBesides
import Derived.WideLaws
set_option maxRecDepth 100000
set_option maxHeartbeats 40000000
set_option linter.unusedVariables false
set_option linter.unusedSimpArgs false
namespace Go.Proofs.YtjjihmnbdeeedaaGreatDoor.M
open Go
/-! signed 64-bit masks -/
theorem ofInt64_toNat (x:Int):(BitVec.ofInt 64 x).toNat=(x % 18446744073709551616).toNat:=by
 simp [BitVec.toNat_ofInt]
theorem bits_and64 (x y:Int):bits .and .i64 x y=IntKind.i64.wrap (((x % 18446744073709551616).toNat &&& (y % 18446744073709551616).toNat:Nat):Int):=by
 show IntKind.i64.wrap (((BitVec.ofInt 64 x &&& BitVec.ofInt 64 y).toNat:Nat):Int)=_
 rw [BitVec.toNat_and,ofInt64_toNat,ofInt64_toNat]
theorem bits_or64 (x y:Int):bits .or .i64 x y=IntKind.i64.wrap (((x % 18446744073709551616).toNat ||| (y % 18446744073709551616).toNat:Nat):Int):=by
 show IntKind.i64.wrap (((BitVec.ofInt 64 x ||| BitVec.ofInt 64 y).toNat:Nat):Int)=_
 rw [BitVec.toNat_or,ofInt64_toNat,ofInt64_toNat]
theorem bits_xor64 (x y:Int):bits .xor .i64 x y=IntKind.i64.wrap (((x % 18446744073709551616).toNat ^^^ (y % 18446744073709551616).toNat:Nat):Int):=by
 show IntKind.i64.wrap (((BitVec.ofInt 64 x ^^^ BitVec.ofInt 64 y).toNat:Nat):Int)=_
 rw [BitVec.toNat_xor,ofInt64_toNat,ofInt64_toNat]
theorem wrap_i64_eq (n:Int):IntKind.i64.wrap n=(n+9223372036854775808) % 18446744073709551616-9223372036854775808:=by
 simp only [IntKind.wrap,IntKind.bits,IntKind.signed]
 simp
 split <;> omega
theorem and_i64_mask (x:Int) (k:Nat) (hk:k<63):bits .and .i64 x (2^k-1)=x % 2^k:=by
 have hp:(2:Nat)^k<2^63:=Nat.pow_lt_pow_right (by decide) hk
 have hp0:0<(2:Nat)^k:=Nat.two_pow_pos k
 have e2:((2:Int)^k-1)=((2^k-1:Nat):Int):=by
  rw [Int.ofNat_sub (by omega)]; simp
 have e3:(((2:Int)^k-1) % 18446744073709551616).toNat=2^k-1:=by
  rw [e2]; omega
 rw [bits_and64,e3,Nat.and_two_pow_sub_one_eq_mod]
 have e4:(((x % 18446744073709551616).toNat % 2^k:Nat):Int)=x % 2^k:=by
  rw [Int.natCast_emod,Int.toNat_of_nonneg (Int.emod_nonneg _ (by decide))]
  rw [show ((2^k:Nat):Int)=(2:Int)^k by simp]
  apply Int.emod_emod_of_dvd
  exact ⟨2^(64-k),by rw [<- Int.pow_add,show k+(64-k)=64 by omega]; decide⟩
 rw [e4]
 have h5:0<=x % 2^k:=Int.emod_nonneg _ (by have:(0:Int)<2^k:=Int.pow_pos (by decide); omega)
 have h6:x % 2^k<2^k:=Int.emod_lt_of_pos _ (Int.pow_pos (by decide))
 have h7:((2:Int)^k)<9223372036854775808:=by
  have:((2^k:Nat):Int)<((2^63:Nat):Int):=Int.ofNat_lt.2 hp
  simpa using this
 rw [wrap_i64_eq]; omega
theorem and_i64_2047 (x:Int):bits .and .i64 x 2047=x % 2048:=and_i64_mask x 11 (by decide)
theorem and_i64_m52 (x:Int):bits .and .i64 x 4503599627370495=x % 4503599627370496:=and_i64_mask x 52 (by decide)
theorem xor_top (k n:Nat) (h:n<2^k):2^k ^^^ n=2^k+n:=by
 apply Nat.eq_of_testBit_eq
 intro i
 rw [Nat.testBit_xor,Nat.testBit_two_pow]
 rcases Nat.lt_trichotomy i k with hi | hi | hi
 ·rw [Nat.testBit_two_pow_add_gt hi]
  simp [show ¬ k=i by omega]
 ·subst hi
  rw [Nat.testBit_two_pow_add_eq,Nat.testBit_lt_two_pow h]; simp
 ·have hk:2^(k+1)<=2^i:=Nat.pow_le_pow_right (by decide) hi
  rw [Nat.testBit_lt_two_pow (show n<2^i by rw [Nat.pow_succ] at hk; omega),Nat.testBit_lt_two_pow (show 2^k+n<2^i by rw [Nat.pow_succ] at hk; omega)]
  simp [show ¬ k=i by omega]
theorem xor_top' (k m:Nat) (h:m<2^k):(2^k+m) ^^^ 2^k=m:=by
 rw [<- xor_top k m h,Nat.xor_comm (2^k) m,Nat.xor_assoc,Nat.xor_self,Nat.xor_zero]
theorem xor_i64_sign (x:Int) (h0:-9223372036854775808<=x) (h1:x<9223372036854775808):bits .xor .i64 x (-9223372036854775808)=if x<0 then x+9223372036854775808 else x-9223372036854775808:=by
 rw [bits_xor64,show ((-9223372036854775808:Int) % 18446744073709551616).toNat=2^63 from by decide,wrap_i64_eq]
 split
 ·rw [show (x % 18446744073709551616).toNat=2^63+(x+9223372036854775808).toNat by omega,xor_top' 63 _ (by omega)]; omega
 ·rw [Nat.xor_comm,xor_top 63 _ (by omega)]; omega
theorem or_i64_sign (x:Int) (h0:0<=x) (h1:x<9223372036854775808):bits .or .i64 x (-9223372036854775808)=x-9223372036854775808:=by
 rw [bits_or64,show ((-9223372036854775808:Int) % 18446744073709551616).toNat=2^63 from by decide,wrap_i64_eq,Nat.or_comm,nat_join 63 _ _ (by decide) (by omega)]
 omega
/-! the fields of a binary64's pattern -/
def fld (b:Int):Int:=b/4503599627370496 % 2048
def frc (b:Int):Int:=b % 4503599627370496
def cls (b:Int):Int:=if fld b=2047 then (if frc b=0 then 3 else 4) else if fld b=0 then (if frc b=0 then 0 else 1) else 2
def pok (b:Int):Bool:=!decide (fld b=2047)
def pneg (b:Int):Bool:=pok b && decide (b<0)
def pmag (b:Int):Int:=if fld b=2047 then 0 else if fld b=0 then frc b else 4503599627370496+frc b
def pexp (b:Int):Int:=if fld b=2047 then 0 else if fld b=0 then -1074 else fld b-1075
def nan:Int:=9221120237041090561
def neg (b:Int):Int:=if cls b=4 then 9221120237041090561 else if b<0 then b+9223372036854775808 else b-9223372036854775808
def abs (b:Int):Int:=if cls b=4 then 9221120237041090561 else if b<0 then b+9223372036854775808 else b
def canon (b:Int):Int:=if cls b=4 then 9221120237041090561 else if cls b=0 then 0 else b
def next (b:Int):Int:=if cls b=4 then 9221120237041090561 else if b=9218868437227405312 then b else if b=-9223372036854775808 then 1 else if b<0 then b-1 else b+1
def prev (b:Int):Int:=neg (next (neg b))
def rng (b:Int):Prop:=-9223372036854775808<=b∧b<9223372036854775808
theorem fld_le (b:Int):0<=fld b∧fld b<2048:=by unfold fld; omega
theorem frc_le (b:Int):0<=frc b∧frc b<4503599627370496:=by unfold frc; omega
theorem cls4 {b:Int}:cls b=4 ↔ fld b=2047∧frc b≠0:=by
 unfold cls; repeat' split
 all_goals omega
theorem cls4_not {b:Int} (h:¬ cls b=4):fld b≠2047∨frc b=0:=by
 rw [cls4] at h; omega
theorem rng_neg {b:Int} (h:rng b):rng (neg b):=by
 unfold rng neg at *; repeat' split
 all_goals omega
theorem rng_next {b:Int} (h:rng b):rng (next b):=by
 unfold rng next at *; repeat' split
 ·omega
 ·omega
 ·omega
 ·omega
 ·rename_i h1 h2 h3 h4
  have:=cls4_not h1
  unfold fld frc at this
  omega
theorem neg_neg {b:Int} (h:rng b) (hc:¬ cls b=4):neg (neg b)=b:=by
 have hc':=cls4_not hc
 have key:¬ cls (if b<0 then b+9223372036854775808 else b-9223372036854775808)=4:=by
  rw [cls4]
  unfold fld frc at *
  split <;> omega
 unfold rng at h
 unfold neg
 simp only [hc,if_false,key]
 split <;> split <;> omega
def wd (b:Int):Nat:=(b % 18446744073709551616).toNat
def P:Nat->Int | 0=>1 | n+1=>P n*1073741824
def val (d:Nat->Int):Nat->Int | 0=>0 | n+1=>val d n+d n*P n
def Dig (d:Nat->Int) (n:Nat):Prop:=∀ i,i<n->0<=d i∧d i<1073741824
def Top (d:Nat->Int) (n:Nat):Prop:=n=0∨d (n-1)≠0
def Nrm (d:Nat->Int) (n:Nat):Prop:=Dig d n∧Top d n
theorem P_succ (n:Nat):P (n+1)=P n*1073741824:=rfl
theorem P_pos (n:Nat):0<P n:=by
 induction n with
 | zero=>decide
 | succ n ih=>rw [P_succ]; omega
theorem P_add (n m:Nat):P (n+m)=P n*P m:=by
 induction m with
 | zero=>show P n=P n*1; omega
 | succ m ih=>show P (n+m)*1073741824=P n*(P m*1073741824); rw [ih,Int.mul_assoc]
theorem P_le {n m:Nat} (h:n<=m):P n<=P m:=by
 obtain ⟨k,rfl⟩:=Nat.exists_eq_add_of_le h
 rw [P_add]
 have:=P_pos n
 have:=P_pos k
 have:P n*1<=P n*P k:=Int.mul_le_mul_of_nonneg_left (by omega) (by omega)
 omega
theorem val_succ (d:Nat->Int) (n:Nat):val d (n+1)=val d n+d n*P n:=rfl
theorem val_congr {d e:Nat->Int} {n:Nat} (h:∀ i,i<n->d i=e i):val d n=val e n:=by
 induction n with
 | zero=>rfl
 | succ n ih=>rw [val_succ,val_succ,ih (fun i hi=>h i (by omega)),h n (by omega)]
theorem Dig.le {d:Nat->Int} {n m:Nat} (h:Dig d n) (hm:m<=n):Dig d m:=fun i hi=>h i (by omega)
theorem Dig.congr {d e:Nat->Int} {n:Nat} (h:Dig d n) (he:∀ i,i<n->d i=e i):Dig e n:=fun i hi=>by rw [<- he i hi]; exact h i hi
theorem val_nonneg {d:Nat->Int} {n:Nat} (h:Dig d n):0<=val d n:=by
 induction n with
 | zero=>exact Int.le_refl _
 | succ n ih=>
  rw [val_succ]
  have:=ih (h.le (by omega))
  have:=Int.mul_nonneg (h n (by omega)).1 (Int.le_of_lt (P_pos n))
  omega
theorem val_lt {d:Nat->Int} {n:Nat} (h:Dig d n):val d n<P n:=by
 induction n with
 | zero=>show (0:Int)<1; decide
 | succ n ih=>
  rw [val_succ,P_succ]
  have a:=ih (h.le (by omega))
  have b:d n*P n<=1073741823*P n:=Int.mul_le_mul_of_nonneg_right (by have:=(h n (by omega)).2; omega) (Int.le_of_lt (P_pos n))
  omega
theorem val_top {d:Nat->Int} {n:Nat} (h:Dig d n) (hn:0<n) (ht:Top d n):P (n-1)<=val d n:=by
 obtain ⟨m,rfl⟩:∃ m,n=m+1:=⟨n-1,by omega⟩
 rw [val_succ,Nat.add_sub_cancel]
 have a:=val_nonneg (h.le (Nat.le_succ m))
 have b:1<=d m:=by
  rcases ht with h0 | h0
  ·omega
  ·rw [Nat.add_sub_cancel] at h0; have:=(h m (by omega)).1; omega
 have c:1*P m<=d m*P m:=Int.mul_le_mul_of_nonneg_right b (Int.le_of_lt (P_pos m))
 omega
theorem val_pos {d:Nat->Int} {n:Nat} (h:Nrm d n) (hn:0<n):0<val d n:=by
 have:=val_top h.1 hn h.2
 have:=P_pos (n-1)
 omega
theorem val_zero {d:Nat->Int} {n:Nat} (h:Nrm d n):val d n=0 ↔ n=0:=by
 constructor
 ·intro h0
  by_cases hn:0<n
  ·have:=val_pos h hn; omega
  ·omega
 ·rintro rfl; rfl
theorem val_inj {d e:Nat->Int} {n:Nat} (h:Dig d n) (k:Dig e n) (hv:val d n=val e n):∀ i,i<n->d i=e i:=by
 induction n with
 | zero=>intro i hi; omega
 | succ n ih=>
  rw [val_succ,val_succ] at hv
  have a:=val_lt (h.le (Nat.le_succ n))
  have b:=val_lt (k.le (Nat.le_succ n))
  have a0:=val_nonneg (h.le (Nat.le_succ n))
  have b0:=val_nonneg (k.le (Nat.le_succ n))
  have hp:=P_pos n
  have e1:d n=e n:=by
   have x1:(val d n+d n*P n)/P n=d n:=by
    rw [Int.add_mul_ediv_right _ _ (by omega),Int.ediv_eq_zero_of_lt a0 a]; omega
   have x2:(val e n+e n*P n)/P n=e n:=by
    rw [Int.add_mul_ediv_right _ _ (by omega),Int.ediv_eq_zero_of_lt b0 b]; omega
   rw [<- x1,<- x2,hv]
  rw [e1] at hv
  intro i hi
  by_cases hi':i=n
  ·rw [hi']; exact e1
  ·exact ih (h.le (Nat.le_succ n)) (k.le (Nat.le_succ n)) (by omega) i (by omega)
theorem val_split (d:Nat->Int) (n m:Nat):val d (n+m)=val d n+P n*val (fun i=>d (n+i)) m:=by
 induction m with
 | zero=>show val d n=val d n+P n*0; omega
 | succ m ih=>
  show val d (n+m)+d (n+m)*P (n+m)=val d n+P n*(val (fun i=>d (n+i)) m+d (n+m)*P m)
  rw [ih,P_add,Int.mul_add,Int.add_assoc]
  congr 2
  rw [<- Int.mul_assoc,Int.mul_comm (d (n+m)) (P n),Int.mul_assoc]
theorem val_zeros {d:Nat->Int} {n m:Nat} (hm:m<=n) (h:∀ i,m<=i->i<n->d i=0):val d n=val d m:=by
 induction n with
 | zero=>rw [show m=0 by omega]
 | succ n ih=>
  by_cases he:m=n+1
  ·rw [he]
  ·rw [val_succ,h n (by omega) (by omega),ih (by omega) (fun i a b=>h i a (by omega))]; omega
def upd (d:Nat->Int) (i:Nat) (x:Int):Nat->Int:=fun j=>if j=i then x else d j
theorem upd_same (d:Nat->Int) (i:Nat) (x:Int):upd d i x i=x:=by simp [upd]
theorem upd_other (d:Nat->Int) {i j:Nat} (x:Int) (h:j≠i):upd d i x j=d j:=by simp [upd,h]
theorem val_upd_ge (d:Nat->Int) {i n:Nat} (x:Int) (h:n<=i):val (upd d i x) n=val d n:=val_congr fun j hj=>upd_other d x (by omega)
theorem val_upd (d:Nat->Int) {i n:Nat} (x:Int) (h:i<n):val (upd d i x) n=val d n+(x-d i)*P i:=by
 induction n with
 | zero=>omega
 | succ n ih=>
  rw [val_succ,val_succ]
  by_cases hi:i=n
  ·subst hi; rw [upd_same,val_upd_ge d x (Nat.le_refl _),Int.sub_mul]; omega
  ·rw [upd_other d x (by omega),ih (by omega)]; omega
theorem Dig.upd {d:Nat->Int} {n:Nat} (h:Dig d n) (i:Nat) {x:Int} (hx:0<=x∧x<1073741824):Dig (upd d i x) n:=fun j hj=>by
 by_cases hj':j=i
 ·rw [hj',upd_same]; exact hx
 ·rw [upd_other d x hj']; exact h j hj
def ext (d:Nat->Int) (n:Nat):Nat->Int:=fun i=>if i<n then d i else 0
theorem ext_lt (d:Nat->Int) {n i:Nat} (h:i<n):ext d n i=d i:=by simp [ext,h]
theorem ext_ge (d:Nat->Int) {n i:Nat} (h:n<=i):ext d n i=0:=by simp [ext]; omega
theorem ext_dig {d:Nat->Int} {n:Nat} (h:Dig d n) (m:Nat):Dig (ext d n) m:=fun i hi=>by
 by_cases hi':i<n
 ·rw [ext_lt d hi']; exact h i hi'
 ·rw [ext_ge d (by omega)]; omega
theorem carry_step (V c x p:Int):V+(c+x) % 1073741824*p+(c+x)/1073741824*(p*1073741824)=V+c*p+x*p:=by
 have h:=Int.emod_add_mul_ediv (c+x) 1073741824
 have:(c+x)*p=((c+x) % 1073741824+1073741824*((c+x)/1073741824))*p:=by rw [h]
 rw [Int.add_mul,Int.add_mul] at this
 have e:1073741824*((c+x)/1073741824)*p=(c+x)/1073741824*(p*1073741824):=by
  rw [Int.mul_comm 1073741824,Int.mul_assoc,Int.mul_comm 1073741824 p]
 omega
theorem and_30 (x:Int):bits .and .i64 x 1073741823=x % 1073741824:=and_i64_mask x 30 (by decide)
def IsLow (V:Int) (l:Nat):Prop:=∃ m:Int,V=(2*m+1)*2^l
theorem two_pos (k:Nat):(0:Int)<2^k:=Int.pow_pos (by decide)
theorem P_two (n:Nat):P n=2^(30*n):=by
 induction n with
 | zero=>rfl
 | succ n ih=>rw [P_succ,ih,show 30*(n+1)=30*n+30 by omega,Int.pow_add]; rfl
theorem two_split (k:Nat):(2:Int)^k=P (k/30)*2^(k % 30):=by
 rw [P_two,<- Int.pow_add]; congr 1; omega
theorem two_le {j k:Nat} (h:j<=k):(2:Int)^j<=2^k:=by
 obtain ⟨m,rfl⟩:=Nat.exists_eq_add_of_le h
 rw [Int.pow_add]
 have h1:=two_pos j
 have h2:=two_pos m
 have h3:(2:Int)^j*1<=2^j*2^m:=Int.mul_le_mul_of_nonneg_left (by omega) (by omega)
 omega
theorem or_add (x m:Int) (k:Nat) (hx:0<=x) (hxk:x<2^k) (hm:0<=m) (hs:x+m*2^k<9223372036854775808):bits .or .i64 x (m*2^k)=x+m*2^k:=by
 have hp:=two_pos k
 have hy:0<=m*2^k:=Int.mul_nonneg hm (by omega)
 obtain ⟨m',rfl⟩:=Int.eq_ofNat_of_zero_le hm
 obtain ⟨x',rfl⟩:=Int.eq_ofNat_of_zero_le hx
 have e2:((m':Int)*2^k)=((m'*2^k:Nat):Int):=by simp
 rw [e2] at hs hy ⊢
 have hx':x'<2^k:=by
  have:((x':Nat):Int)<((2^k:Nat):Int):=by simpa using hxk
  exact Int.ofNat_lt.1 this
 have e3:x' ||| m'*2^k=m'*2^k+x':=by rw [Nat.or_comm,Nat.mul_comm m',Nat.two_pow_add_eq_or_of_lt hx' m']
 generalize m'*2^k=M at *
 rw [bits_or64,show (((x':Int)) % 18446744073709551616).toNat=x' by omega,show ((M:Int) % 18446744073709551616).toNat=M by omega,e3,wrap_i64_eq]
 omega
def low (s:Nat->Int) (u v:Int):Nat->Int:=fun i=>s i/u+s (i+1) % u*v
theorem low_dig {s:Nat->Int} {u v:Int} {n:Nat} (hu:0<u) (huv:u*v=1073741824) (h:Dig s (n+1)):Dig (low s u v) n:=by
 intro i hi
 have a:=h i (by omega)
 have hv:0<v:=by
  rcases Int.lt_or_le 0 v with h | h
  ·exact h
  ·have:=Int.mul_nonneg (show 0<=u by omega) (show 0 <= -v by omega); rw [Int.mul_neg] at this; omega
 have b0:0<=s (i+1) % u:=Int.emod_nonneg _ (by omega)
 have b1:s (i+1) % u<u:=Int.emod_lt_of_pos _ hu
 have c0:0<=s i/u:=Int.ediv_nonneg a.1 (by omega)
 have c1:s i/u<v:=(Int.ediv_lt_iff_lt_mul hu).2 (by rw [Int.mul_comm,huv]; exact a.2)
 have d1:s (i+1) % u*v<=(u-1)*v:=Int.mul_le_mul_of_nonneg_right (by omega) (by omega)
 have d0:0<=s (i+1) % u*v:=Int.mul_nonneg b0 (by omega)
 rw [Int.sub_mul,huv] at d1
 unfold low
 omega
theorem low_val (s:Nat->Int) {u v:Int} (huv:u*v=1073741824) (n:Nat):val (low s u v) n*u=val s n-s 0 % u+s n % u*P n:=by
 induction n with
 | zero=>show (0:Int)*u=0-s 0 % u+s 0 % u*1; omega
 | succ n ih=>
  rw [val_succ,val_succ,P_succ]
  have e:s n/u*u=s n-s n % u:=by have:=Int.emod_add_ediv_mul (s n) u; omega
  unfold low at ih ⊢
  have e2:(val (fun i=>s i/u+s (i+1) % u*v) n+(s n/u+s (n+1) % u*v)*P n)*u=val (fun i=>s i/u+s (i+1) % u*v) n*u+(s n/u*u)*P n+s (n+1) % u*(u*v)*P n:=by grind
  rw [e2,ih,e,huv]; grind
theorem low_eq {s:Nat->Int} {u v:Int} (hu:0<u) (huv:u*v=1073741824) {n:Nat} (h:s n=0):val (low s u v) n=val s n/u:=by
 have h1:=low_val s huv n
 rw [h,Int.zero_emod,Int.zero_mul,Int.add_zero] at h1
 have b0:0<=s 0 % u:=Int.emod_nonneg _ (by omega)
 have b1:s 0 % u<u:=Int.emod_lt_of_pos _ hu
 have:val s n=s 0 % u+val (low s u v) n*u:=by omega
 rw [this,Int.add_mul_ediv_right _ _ (by omega),Int.ediv_eq_zero_of_lt b0 b1]; omega
theorem val_drop (d:Nat->Int) {w n:Nat} (h:w<=n) (hd:Dig d n):val (fun i=>d (w+i)) (n-w)=val d n/P w:=by
 have e:=val_split d w (n-w)
 rw [show w+(n-w)=n by omega] at e
 rw [e,Int.add_mul_ediv_left _ _ (by have:=P_pos w; omega),Int.ediv_eq_zero_of_lt (val_nonneg (hd.le h)) (val_lt (hd.le h))]; omega
theorem val_shift0 (d:Nat->Int) (w n:Nat) (h:∀ i,i<w->d i=0):val d (w+n)=P w*val (fun i=>d (w+i)) n:=by
 rw [val_split,val_zeros (Nat.zero_le w) (fun i _ b=>h i b)]; show 0+_=_; omega
def LL:Nat:=4194304
def pw (e:Int):Int:=2^(e+4194304).toNat
def sg (b:Bool) (x:Int):Int:=if b then -x else x
theorem pw_pos (e:Int):0<pw e:=two_pos _
theorem pw_add {e:Int} (h:-4194304<=e) (l:Nat):pw (e+l)=pw e*2^l:=by
 unfold pw
 rw [show (e+l+4194304).toNat=(e+4194304).toNat+l by omega,Int.pow_add]
theorem pw_sub {e low:Int} (h:-4194304<=low) (h1:low<=e):pw e=2^(e-low).toNat*pw low:=by
 have:=pw_add h (e-low).toNat
 rw [show low+((e-low).toNat:Int)=e by omega] at this
 rw [this,Int.mul_comm]
theorem pw_mul {a b:Int} (ha:-2097152<=a) (hb:-2097152<=b):pw a*pw b=pw (a+b)*2^4194304:=by
 unfold pw
 rw [<- Int.pow_add,<- Int.pow_add,show (a+4194304).toNat+(b+4194304).toNat=(a+b+4194304).toNat+4194304 by omega]
theorem sg_mul (a b:Bool) (x y:Int):sg a x*sg b y=sg (a != b) (x*y):=by
 cases a <;> cases b <;> simp [sg,Int.neg_mul,Int.mul_neg]
theorem sg_sgn (b:Bool) (x:Int):sg b x=(if b then -1 else 1)*x:=by cases b <;> simp [sg]
theorem sg_not (b:Bool) (x:Int):sg (!b) x=-sg b x:=by cases b <;> simp [sg]
theorem sg_zero (b:Bool):sg b 0=0:=by cases b <;> rfl
theorem sg_eq_zero {b:Bool} {x:Int} (h:sg b x=0):x=0:=by cases b <;> simp [sg] at h <;> exact h
structure Dy (V:Int) (ng:Bool) (m e:Int):Prop where
 val:V=sg ng m*pw e
 low:-4194304<=e
 form:(m=0∧ng=false∧e=0)∨(0<m∧m % 2=1)
def Dok (V:Int):Prop:=∃ ng m e,Dy V ng m e∧m<P 2000∧-1048576<=e∧e<=1048576
theorem Dy.zero:Dy 0 false 0 0:=⟨by simp [sg],by decide,.inl ⟨rfl,rfl,rfl⟩⟩
theorem dok_zero:Dok 0:=⟨_,_,_,Dy.zero,P_pos _,by decide,by decide⟩
theorem Dy.eq_zero {V:Int} {ng:Bool} {m e:Int} (h:Dy V ng m e):V=0 ↔ m=0:=by
 constructor
 ·intro h0
  have:=h.val
  rw [h0] at this
  rcases Int.mul_eq_zero.1 this.symm with h1 | h1
  ·exact sg_eq_zero h1
  ·have:=pw_pos e; omega
 ·intro h0
  rw [h.val,h0,sg_zero,Int.zero_mul]
theorem Dy.nonneg {V:Int} {ng:Bool} {m e:Int} (h:Dy V ng m e):0<=m:=by rcases h.form with h | h <;> omega
theorem Dy.neg_iff {V:Int} {ng:Bool} {m e:Int} (h:Dy V ng m e):ng=true ↔ V<0:=by
 have hp:=pw_pos e
 rcases h.form with ⟨h1,h2,h3⟩ | ⟨h1,_⟩
 ·have:=h.eq_zero.2 h1; simp [h2]; omega
 ·have hm:0<m*pw e:=Int.mul_pos h1 hp
  have:=h.val
  cases ng
  ·simp [sg] at this; simp; omega
  ·simp [sg,Int.neg_mul] at this; simp; omega
theorem odd_pow {m m':Int} {a b:Nat} (h:m % 2=1) (h':m' % 2=1) (e:m*2^a=m'*2^b):¬ a<b:=by
 intro hlt
 obtain ⟨d,rfl⟩:∃ d,b=a+1+d:=⟨b-a-1,by omega⟩
 rw [Int.pow_add,Int.pow_add] at e
 have e1:m*2^a=(m'*(2^d*2))*2^a:=by rw [e]; grind
 have e2:=Int.eq_of_mul_eq_mul_right (Int.ne_of_gt (two_pos a)) e1
 rw [show m'*(2^d*2)=2*(m'*2^d) by grind] at e2
 omega
theorem Dy.unique {V:Int} {ng ng':Bool} {m m' e e':Int} (h:Dy V ng m e) (k:Dy V ng' m' e'):ng=ng'∧m=m'∧e=e':=by
 have hn:ng=ng':=by
  have a:=h.neg_iff
  have b:=k.neg_iff
  cases ng <;> cases ng' <;> simp_all <;> omega
 subst hn
 rcases h.form with ⟨h1,h2,h3⟩ | ⟨h1,h2⟩
 ·have h0:=k.eq_zero.1 (h.eq_zero.2 h1)
  rcases k.form with ⟨k1,k2,k3⟩ | ⟨k1,k2⟩
  ·exact ⟨rfl,by omega,by omega⟩
  ·omega
 ·rcases k.form with ⟨k1,k2,k3⟩ | ⟨k1,k2⟩
  ·have:=h.eq_zero.1 (k.eq_zero.2 k1); omega
  ·have e1:m*pw e=m'*pw e':=by
    have:=h.val.symm.trans k.val
    cases ng
    ·simpa [sg] using this
    ·simpa [sg,Int.neg_mul] using this
   have a1:=odd_pow h2 k2 e1
   have a2:=odd_pow k2 h2 e1.symm
   have l1:=h.low
   have l2:=k.low
   obtain rfl:e=e':=by omega
   exact ⟨rfl,Int.eq_of_mul_eq_mul_right (Int.ne_of_gt (pw_pos _)) e1,rfl⟩
theorem Dy.ok {V:Int} {ng:Bool} {m e:Int} (h:Dy V ng m e):Dok V ↔ m<P 2000∧-1048576<=e∧e<=1048576:=by
 constructor
 ·rintro ⟨ng',m',e',k,h3⟩
  obtain ⟨_,rfl,rfl⟩:=h.unique k
  exact h3
 ·exact fun h3=>⟨_,_,_,h,h3⟩
theorem Dy.neg {V:Int} {ng:Bool} {m e:Int} (h:Dy V ng m e) (h0:0<m):Dy (-V) (!ng) m e :=
 ⟨by rw [sg_not,Int.neg_mul,<- h.val],h.low,by rcases h.form with ⟨h1,_⟩ | h1; (· omega); (· exact .inr h1)⟩
theorem sg_abs {V:Int} {ng:Bool} {m e:Int} (h:Dy V ng m e):m*pw e=V.natAbs:=by
 have:=h.val
 have h0:=h.nonneg
 have:0<=m*pw e:=Int.mul_nonneg h0 (Int.le_of_lt (pw_pos _))
 cases ng <;> simp [sg,Int.neg_mul] at * <;> omega
theorem Dy.abs {V:Int} {ng:Bool} {m e:Int} (h:Dy V ng m e):Dy V.natAbs false m e :=
 ⟨by rw [<- sg_abs h]; simp [sg],h.low,by rcases h.form with ⟨h1,_,h3⟩ | h1; (· exact .inl ⟨h1,rfl,h3⟩); (· exact .inr h1)⟩
theorem isLow_odd {M:Int} {l:Nat} (h:IsLow M l) (h0:0<M):0<M/2^l∧(M/2^l) % 2=1∧M/2^l*2^l=M:=by
 obtain ⟨k,hk⟩:=h
 have hp:=two_pos l
 have e:M/2^l=2*k+1:=by rw [hk]; exact Int.mul_ediv_cancel _ (by omega)
 rw [e]
 refine ⟨?_,by omega,hk.symm⟩
 by_cases h1:0<2*k+1
 ·exact h1
 ·have:(2*k+1)*2^l<=0:=Int.mul_nonpos_of_nonpos_of_nonneg (by omega) (by omega)
  omega
theorem Dy.of {M e:Int} {l:Nat} (ng:Bool) (h:IsLow M l) (h0:0<M) (he:-4194304<=e):Dy (sg ng M*pw e) ng (M/2^l) (e+l):=by
 obtain ⟨a,b,c⟩:=isLow_odd h h0
 refine ⟨?_,by omega,.inr ⟨a,b⟩⟩
 rw [pw_add he,sg_sgn,sg_sgn]
 rw [show (if ng=true then (-1:Int) else 1)*(M/2^l)*(pw e*2^l)=(if ng=true then (-1:Int) else 1)*(M/2^l*2^l)*pw e by grind,c]
theorem Dy.sum {V V':Int} {low s s':Int} (h:V=s*pw low) (h':V'=s'*pw low):V+V'=(s+s')*pw low:=by rw [h,h',Int.add_mul]
theorem Dy.at {V:Int} {ng:Bool} {m e low:Int} (h:Dy V ng m e) (hl:-4194304<=low) (h1:low<=e):V=sg ng (m*2^(e-low).toNat)*pw low:=by
 rw [h.val,pw_sub hl h1,sg_sgn,sg_sgn]; grind
theorem scale_inj {x y:Int} (h:x*2^4194304=y*2^4194304):x=y:=Int.eq_of_mul_eq_mul_right (Int.ne_of_gt (two_pos _)) h
end Go.Proofs.YtjjihmnbdeeedaaGreatDoor.M
namespace Go.Proofs.YtjjihmnbdeeedaaGreatDoor.M
open Go Ieee
def V (f:Format) (r:Nat):Nat:=if r<f.binade then r else (f.binade+r % f.binade)*2^(r/f.binade-1)
theorem binade_pos (f:Format):0<f.binade:=Nat.two_pow_pos _
theorem V_succ (f:Format) (r:Nat):V f r<V f (r+1):=by
 have hB:=binade_pos f
 unfold V
 generalize hBd:f.binade=B at *
 clear hBd
 by_cases h1:r+1<B
 ·rw [if_pos (by omega),if_pos h1]; omega
 ·rw [if_neg h1]
  by_cases h2:r<B
  ·have:r+1=B:=by omega
   rw [if_pos h2,this,Nat.mod_self,Nat.div_self hB]; simp; omega
  ·rw [if_neg h2]
   have hq:1<=r/B:=(Nat.one_le_div_iff hB).2 (by omega)
   have hd:=Nat.div_add_mod r B
   have hm:=Nat.mod_lt r hB
   have hp:0<2^(r/B-1):=Nat.two_pow_pos _
   by_cases h3:r % B+1<B
   ·have e1:(r+1) % B=r % B+1:=by
     rw [Nat.add_mod,Nat.mod_eq_of_lt (show 1<B by omega)]; exact Nat.mod_eq_of_lt h3
    have e2:(r+1)/B=r/B:=by
     have:=Nat.div_add_mod (r+1) B
     rw [e1] at this
     have h4:B*((r+1)/B)=B*(r/B):=by omega
     exact Nat.eq_of_mul_eq_mul_left hB h4
    rw [e1,e2]
    exact Nat.mul_lt_mul_of_pos_right (by omega) hp
   ·have h4:r % B+1=B:=by omega
    have e0:r+1=B*(r/B+1):=by rw [Nat.mul_add,Nat.mul_one]; omega
    have e1:(r+1) % B=0:=by rw [e0]; exact Nat.mul_mod_right _ _
    have e2:(r+1)/B=r/B+1:=by rw [e0]; exact Nat.mul_div_cancel_left _ hB
    rw [e1,e2]
    have e3:2^(r/B+1-1)=2*2^(r/B-1):=by
     rw [show r/B+1-1=(r/B-1)+1 by omega,Nat.pow_succ,Nat.mul_comm]
    rw [e3,Nat.add_zero,<- Nat.mul_assoc]
    exact Nat.mul_lt_mul_of_pos_right (by omega) hp
theorem V_lt (f:Format) {r s:Nat} (h:r<s):V f r<V f s:=by
 induction s with
 | zero=>omega
 | succ s ih=>
  rcases Nat.lt_or_ge r s with h1 | h1
  ·exact Nat.lt_trans (ih h1) (V_succ f s)
  ·have:r=s:=by omega
   subst this
   exact V_succ f r
theorem V_lt_iff (f:Format) (r s:Nat):V f r<V f s ↔ r<s:=by
 constructor
 ·intro h
  rcases Nat.lt_trichotomy r s with h1 | h1 | h1
  ·exact h1
  ·subst h1; omega
  ·have:=V_lt f h1; omega
 ·exact V_lt f
theorem V_zero (f:Format):V f 0=0:=by unfold V; rw [if_pos (binade_pos f)]
theorem read_finite (f:Format) (x:Nat) (h:x % f.signWeight<f.infRung) :
  ∃ m u:Nat,f.read x=.number (x/f.signWeight % 2 == 1) m (f.leastPlace+u)∧m*2^u=V f (x % f.signWeight):=by
 unfold Format.read V
 dsimp only
 by_cases h1:x % f.signWeight<f.binade
 ·rw [if_pos h1,if_pos h1]
  exact ⟨x % f.signWeight,0,by simp,by simp⟩
 ·rw [if_neg h1,if_pos h,if_neg h1]
  exact ⟨_,_,rfl,rfl⟩
theorem read_inf (f:Format) (hI:f.binade<=f.infRung) (x:Nat) (h:x % f.signWeight=f.infRung):f.read x=.infinity (x/f.signWeight % 2 == 1):=by
 unfold Format.read
 dsimp only
 rw [h,if_neg (by omega),if_neg (by omega),if_pos rfl]
theorem read_nan (f:Format) (hI:f.binade<=f.infRung) (x:Nat) (h:f.infRung<x % f.signWeight):∃ s t,f.read x=.nan s t:=by
 unfold Format.read
 dsimp only
 rw [if_neg (by omega),if_neg (by omega),if_neg (by omega)]
 exact ⟨_,_,rfl⟩
theorem order_nan (f:Format) (hI:f.binade<=f.infRung) (x y:Nat) (h:f.infRung<x % f.signWeight∨f.infRung<y % f.signWeight):f.order x y=none:=by
 unfold Format.order
 rcases h with h | h
 ·obtain ⟨s,t,e⟩:=read_nan f hI x h
  rw [e]; rfl
 ·obtain ⟨s,t,e⟩:=read_nan f hI y h
  rw [e]; cases f.read x <;> rfl
theorem compare_scale (x y k:Int) (hk:0<k):compare (x*k) (y*k)=compare x y:=by
 simp only [compare,compareOfLessAndEq]
 have h1:x*k<y*k ↔ x<y:=⟨fun h=>Int.lt_of_mul_lt_mul_right h (Int.le_of_lt hk),fun h=>Int.mul_lt_mul_of_pos_right h hk⟩
 have h2:x*k=y*k ↔ x=y:=⟨fun h=>Int.eq_of_mul_eq_mul_right (by omega) h,fun h=>by rw [h]⟩
 simp only [h1,h2]
theorem signed_scale (s:Bool) (m u k:Nat):signed s m u*((2^k:Nat):Int)=signed s m (u+k):=by
 unfold signed
 have e:((m <<< u:Nat):Int)*((2^k:Nat):Int)=((m <<< (u+k):Nat):Int):=by
  rw [Nat.shiftLeft_eq,Nat.shiftLeft_eq,Nat.pow_add,<- Nat.mul_assoc]
  exact (Int.natCast_mul _ _).symm
 split
 ·rw [Int.neg_mul,e]
 ·exact e
def skey (neg:Bool) (r:Nat):Int:=if neg then -(r:Int) else r
theorem order_number (s t:Bool) (m n:Nat) (l:Int) (u v:Nat) :
  (Datum.number s m (l+u)).order (Datum.number t n (l+v))=some (compare (signed s m u) (signed t n v)):=by
 unfold Datum.order
 dsimp only
 have hmin:min (l+(u:Int)) (l+(v:Int))=l+((min u v:Nat):Int):=by omega
 have a:(l+(u:Int)-(l+((min u v:Nat):Int))).toNat=u-min u v:=by omega
 have b:(l+(v:Int)-(l+((min u v:Nat):Int))).toNat=v-min u v:=by omega
 rw [hmin,a,b,<- compare_scale _ _ ((2^min u v:Nat):Int) (by exact_mod_cast Nat.two_pow_pos _),signed_scale,signed_scale,
  show u-min u v+min u v=u by omega,show v-min u v+min u v=v by omega]
theorem signed_V (s:Bool) (m u:Nat):signed s m u=if s then -((m*2^u:Nat):Int) else ((m*2^u:Nat):Int):=by
 unfold signed; rw [Nat.shiftLeft_eq]
theorem compare_int (a b c d:Int) (h1:a<b ↔ c<d) (h2:b<a ↔ d<c):compare a b=compare c d:=by
 simp only [compare,compareOfLessAndEq]
 by_cases h:a<b
 ·rw [if_pos h,if_pos (h1.1 h)]
 ·rw [if_neg h,if_neg (fun k=>h (h1.2 k))]
  by_cases k:b<a
  ·rw [if_neg (by omega),if_neg (by have:=h2.1 k; omega)]
  ·rw [if_pos (by omega),if_pos (by have:=fun z=>k (h2.2 z); have:=fun z=>h (h1.2 z); omega)]
theorem order_finite (f:Format) (x y:Nat) (hx:x % f.signWeight<f.infRung) (hy:y % f.signWeight<f.infRung) :
  f.order x y=some (compare (skey (x/f.signWeight % 2 == 1) (x % f.signWeight)) (skey (y/f.signWeight % 2 == 1) (y % f.signWeight))):=by
 obtain ⟨m,u,e1,k1⟩:=read_finite f x hx
 obtain ⟨n,v,e2,k2⟩:=read_finite f y hy
 unfold Format.order
 rw [e1,e2,order_number,signed_V,signed_V,k1,k2]
 congr 1
 generalize x % f.signWeight=r
 generalize y % f.signWeight=q
 have a:=V_lt_iff f r q
 have b:=V_lt_iff f q r
 have a0:=V_lt_iff f 0 r
 have b0:=V_lt_iff f 0 q
 rw [V_zero] at a0 b0
 unfold skey
 cases (x/f.signWeight % 2 == 1) <;> cases (y/f.signWeight % 2 == 1) <;> simp only [if_true,if_false,Bool.false_eq_true] <;> apply compare_int <;> omega
theorem compare_lt {a b:Int} (h:a<b):compare a b=.lt:=by simp only [compare,compareOfLessAndEq]; rw [if_pos h]
theorem compare_gt {a b:Int} (h:b<a):compare a b=.gt:=by simp only [compare,compareOfLessAndEq]; rw [if_neg (by omega),if_neg (by omega)]
theorem compare_eq {a b:Int} (h:a=b):compare a b=.eq:=by simp only [compare,compareOfLessAndEq]; rw [if_neg (by omega),if_pos h]
theorem order_all (f:Format) (hI:f.binade<=f.infRung) (x y:Nat) (hx:x % f.signWeight<=f.infRung) (hy:y % f.signWeight<=f.infRung) :
  f.order x y=some (compare (skey (x/f.signWeight % 2 == 1) (x % f.signWeight)) (skey (y/f.signWeight % 2 == 1) (y % f.signWeight))):=by
 have hB:=binade_pos f
 rcases Nat.lt_or_ge (x % f.signWeight) f.infRung with h1 | h1
 ·rcases Nat.lt_or_ge (y % f.signWeight) f.infRung with h2 | h2
  ·exact order_finite f x y h1 h2
  ·have e2:=read_inf f hI y (by omega)
   obtain ⟨m,u,e1,_⟩:=read_finite f x h1
   have h2':y % f.signWeight=f.infRung:=by omega
   unfold Format.order skey
   rw [e1,e2,h2']
   cases (x/f.signWeight % 2 == 1) <;> cases (y/f.signWeight % 2 == 1) <;> simp only [if_true,if_false,Bool.false_eq_true,Datum.order]
   ·rw [compare_lt (by omega)]
   ·rw [compare_gt (by omega)]
   ·rw [compare_lt (by omega)]
   ·rw [compare_gt (by omega)]
 ·have e1:=read_inf f hI x (by omega)
  have h1':x % f.signWeight=f.infRung:=by omega
  rcases Nat.lt_or_ge (y % f.signWeight) f.infRung with h2 | h2
  ·obtain ⟨n,v,e2,_⟩:=read_finite f y h2
   unfold Format.order skey
   rw [e1,e2,h1']
   cases (x/f.signWeight % 2 == 1) <;> cases (y/f.signWeight % 2 == 1) <;> simp only [if_true,if_false,Bool.false_eq_true,Datum.order]
   ·rw [compare_gt (by omega)]
   ·rw [compare_gt (by omega)]
   ·rw [compare_lt (by omega)]
   ·rw [compare_lt (by omega)]
  ·have e2:=read_inf f hI y (by omega)
   have h2':y % f.signWeight=f.infRung:=by omega
   unfold Format.order skey
   rw [e1,e2,h1',h2']
   cases (x/f.signWeight % 2 == 1) <;> cases (y/f.signWeight % 2 == 1) <;> simp only [if_true,if_false,Bool.false_eq_true,Datum.order]
   ·rw [compare_eq rfl]; rfl
   ·rw [compare_gt (by omega)]; rfl
   ·rw [compare_lt (by omega)]; rfl
   ·rw [compare_eq rfl]; rfl
def key (b:Int):Int:=if b<0 then -(b+9223372036854775808) else b
theorem dSign:Ieee.double.signWeight=9223372036854775808:=by decide
theorem dInf:Ieee.double.infRung=9218868437227405312:=by decide
theorem dOk:Ieee.double.binade<=Ieee.double.infRung:=by decide
theorem wd_rung {b:Int} (h:rng b):((wd b % 9223372036854775808:Nat):Int)=if b<0 then b+9223372036854775808 else b:=by
 unfold rng at h; unfold wd; split <;> omega
theorem wd_neg {b:Int} (h:rng b):(wd b/9223372036854775808 % 2 == 1)=decide (b<0):=by
 unfold rng at h; unfold wd
 rw [Bool.eq_iff_iff]; simp only [beq_iff_eq,decide_eq_true_eq]; omega
theorem cls4_rung {b:Int} (h:rng b):cls b=4 ↔ 9218868437227405312<wd b % 9223372036854775808:=by
 have:=wd_rung h
 rw [cls4]; unfold rng at h; unfold fld frc
 split at this <;> omega
theorem skey_key {b:Int} (h:rng b):skey (wd b/9223372036854775808 % 2 == 1) (wd b % 9223372036854775808)=key b:=by
 rw [wd_neg h]; unfold skey key; rw [wd_rung h]
 by_cases hb:b<0 <;> simp [hb]
theorem order64 {a b:Int} (ha:rng a) (hb:rng b) (h1:¬ cls a=4) (h2:¬ cls b=4):FloatKind.f64.format.order (wd a) (wd b)=some (compare (key a) (key b)):=by
 rw [cls4_rung ha] at h1; rw [cls4_rung hb] at h2
 have:=order_all Ieee.double dOk (wd a) (wd b) (by rw [dSign,dInf]; omega) (by rw [dSign,dInf]; omega)
 rw [dSign,skey_key ha,skey_key hb] at this
 exact this
theorem order64_nan {a b:Int} (ha:rng a) (hb:rng b) (h:cls a=4∨cls b=4):FloatKind.f64.format.order (wd a) (wd b)=none:=by
 refine order_nan Ieee.double dOk _ _ ?_
 rw [dSign,dInf]
 rcases h with h | h
 ·exact .inl ((cls4_rung ha).1 h)
 ·exact .inr ((cls4_rung hb).1 h)
def less (a b:Int):Bool:=!decide (cls a=4) && (!decide (cls b=4) && decide (key a<key b))
def same (a b:Int):Bool:=!decide (cls a=4) && (!decide (cls b=4) && decide (key a=key b))
theorem less_order {a b:Int} (ha:rng a) (hb:rng b):(FloatKind.f64.format.order (wd a) (wd b) == some .lt)=less a b:=by
 unfold less
 by_cases h1:cls a=4
 ·rw [order64_nan ha hb (.inl h1)]; simp [h1]
 ·by_cases h2:cls b=4
  ·rw [order64_nan ha hb (.inr h2)]; simp [h2]
  ·rw [order64 ha hb h1 h2]
   simp only [h1,h2,decide_false,Bool.not_false,Bool.true_and]
   rcases Int.lt_trichotomy (key a) (key b) with h | h | h
   ·rw [compare_lt h]; simp [h]
   ·rw [compare_eq h]; simp [h]
   ·rw [compare_gt h]; simp; omega
theorem same_order {a b:Int} (ha:rng a) (hb:rng b):(FloatKind.f64.format.order (wd a) (wd b) == some .eq)=same a b:=by
 unfold same
 by_cases h1:cls a=4
 ·rw [order64_nan ha hb (.inl h1)]; simp [h1]
 ·by_cases h2:cls b=4
  ·rw [order64_nan ha hb (.inr h2)]; simp [h2]
  ·rw [order64 ha hb h1 h2]
   simp only [h1,h2,decide_false,Bool.not_false,Bool.true_and]
   rcases Int.lt_trichotomy (key a) (key b) with h | h | h
   ·rw [compare_lt h]; simp; omega
   ·rw [compare_eq h]; simp [h]
   ·rw [compare_gt h]; simp; omega
def place (b:Int):Int:=if b<0 then -(b+9223372036854775808)-1 else b
theorem cls0 {b:Int} (h:rng b):cls b=0 ↔ b=0∨b=-9223372036854775808:=by
 unfold rng at h
 unfold cls fld frc; repeat' split
 all_goals omega
theorem rng_canon {b:Int} (h:rng b):rng (canon b):=by
 unfold canon; repeat' split
 ·unfold rng; omega
 ·unfold rng; omega
 ·exact h
end Go.Proofs.YtjjihmnbdeeedaaGreatDoor.M
namespace Go.Proofs.YtjjihmnbdeeedaaGreatDoor.M
open Go
def jz (mag:Int):Nat:=Lib.ctz 64 mag.toNat
def jo (mag:Int):Int:=mag/2^jz mag
def jl (mag:Int):Int:=Lib.bitLen (jo mag).toNat
def jsp (fr mag:Int):Int:=fr+1-jl mag
def jsh (fr least mag exp:Int):Int:=min (jsp fr mag) (exp+jz mag-least)
def jab (fr least mag exp:Int):Int:=exp+jz mag-jsh fr least mag exp-least
def jgood (fr top least mag exp:Int):Bool:=decide (0<=jsp fr mag) && (decide (least<=exp+jz mag) && decide (jab fr least mag exp<=top-2))
def jk (fr top least mag exp:Int):Bool:=if mag<0 then false else if mag=0 then true else jgood fr top least mag exp
def jv (fr top least mag exp:Int):Int:=if mag<=0 then 0 else if jgood fr top least mag exp then jab fr least mag exp*2^fr.toNat+jo mag*2^(jsh fr least mag exp).toNat else 0
theorem bitLen_spec (n:Nat) (h:n<2^64) (h0:n≠0):2^(Lib.bitLen n-1)<=n∧n<2^Lib.bitLen n∧1<=Lib.bitLen n∧Lib.bitLen n<=64:=by
 have hl:Lib.bitLen n<=64:=Lib.bitLen_le n 64 (by omega) h
 -- by halving
 have main:∀ f n:Nat,n<2^f->f<=64->n≠0->2^(Lib.bitLen n-1)<=n∧n<2^Lib.bitLen n∧1<=Lib.bitLen n:=by
  intro f
  induction f with
  | zero=>intro n h _ h0; simp at h; omega
  | succ f ih=>
   intro n h hf h0
   have h64:n<2^64:=Nat.lt_of_lt_of_le h (Nat.pow_le_pow_right (by decide) hf)
   have e:=Lib.bitLen_half n h0 h64
   by_cases h2:n/2=0
   ·have h1:n=1:=by omega
    subst h1
    have:Lib.bitLen 1=1:=by decide +kernel
    rw [this]; decide
   ·obtain ⟨a,b,c⟩:=ih (n/2) (by rw [Nat.pow_succ] at h; omega) (by omega) h2
    obtain ⟨m,hm⟩:∃ m,Lib.bitLen (n/2)=m+1:=⟨Lib.bitLen (n/2)-1,by omega⟩
    rw [e,hm]
    rw [hm] at a b
    simp only [Nat.add_sub_cancel] at a
    refine ⟨?_,?_,by omega⟩
    ·rw [show 1+(m+1)-1=m+1 by omega,Nat.pow_succ]; omega
    ·rw [show 1+(m+1)=m+1+1 by omega,Nat.pow_succ]; omega
 obtain ⟨a,b,c⟩:=main 64 n h (by omega) h0
 exact ⟨a,b,c,hl⟩
theorem bitLen_lt (n k:Nat) (h:n<2^64) (h0:n≠0):n<2^k ↔ Lib.bitLen n<=k:=by
 obtain ⟨a,b,c,d⟩:=bitLen_spec n h h0
 constructor
 ·intro hk
  apply Nat.le_of_not_lt
  intro hlt
  have:2^k<=2^(Lib.bitLen n-1):=Nat.pow_le_pow_right (by decide) (by omega)
  omega
 ·intro hk
  exact Nat.lt_of_lt_of_le b (Nat.pow_le_pow_right (by decide) hk)
theorem jz_spec {mag:Int} (h0:0<mag) (h:mag<9223372036854775808):∃ m:Nat,mag=2^jz mag*(2*m+1)∧jz mag<63∧jo mag=2*m+1:=by
 unfold jo jz
 obtain ⟨n,rfl⟩:=Int.eq_ofNat_of_zero_le (Int.le_of_lt h0)
 have hn:n≠0:=by omega
 simp only [Int.toNat_natCast]
 obtain ⟨m,hm,hk⟩:=Lib.ctzFrom_spec 64 n (by omega) (by omega)
 have e:Lib.ctz 64 n=Lib.ctzFrom 64 n:=by simp [Lib.ctz,hn]
 rw [e]
 have hp:0<2^Lib.ctzFrom 64 n:=Nat.two_pow_pos _
 have hz:Lib.ctzFrom 64 n<63:=by
  apply Nat.lt_of_not_le
  intro hle
  have:2^63<=2^Lib.ctzFrom 64 n:=Nat.pow_le_pow_right (by decide) hle
  have:2^Lib.ctzFrom 64 n<=n:=by
   rw (occs:=.pos [2]) [hm]
   exact Nat.le_mul_of_pos_right _ (by omega)
  omega
 have hm':(n:Int)=2^Lib.ctzFrom 64 n*(2*(m:Int)+1):=by
  have:((2^Lib.ctzFrom 64 n*(2*m+1):Nat):Int)=2^Lib.ctzFrom 64 n*(2*(m:Int)+1):=by
   rw [Int.natCast_mul]; simp
  rw [<- this,<- hm]
 refine ⟨m,hm',hz,?_⟩
 have hpi:(0:Int)<2^Lib.ctzFrom 64 n:=Int.pow_pos (by decide)
 rw (occs:=.pos [1]) [hm']
 exact Int.mul_ediv_cancel_left _ (by omega)
theorem jo_le {mag:Int} (h0:0<mag) (h:mag<9223372036854775808):1<=jo mag∧jo mag<=mag:=by
 obtain ⟨m,a,b,c⟩:=jz_spec h0 h
 have hp:(0:Int)<2^jz mag:=Int.pow_pos (by decide)
 have:(2*(m:Int)+1)*1<=(2*(m:Int)+1)*2^jz mag:=Int.mul_le_mul_of_nonneg_left (by omega) (by omega)
 rw [Int.mul_comm _ (2^jz mag),<- a] at this
 omega
theorem jl_le {mag:Int} (h0:0<mag) (h:mag<9223372036854775808):1<=jl mag∧jl mag<=63:=by
 obtain ⟨a,b⟩:=jo_le h0 h
 have s:=bitLen_spec (jo mag).toNat (by omega) (by omega)
 unfold jl
 have:=(bitLen_lt (jo mag).toNat 63 (by omega) (by omega)).1 (by omega)
 omega
theorem jshift_lt {fr mag:Int} (h0:0<mag) (h:mag<9223372036854775808) (hf:0<=fr) (s:Nat) (hs:(s:Int)<=jsp fr mag):1<=jo mag*2^s∧jo mag*2^s<2^(fr.toNat+1):=by
 obtain ⟨a,b⟩:=jo_le h0 h
 have sp:=bitLen_spec (jo mag).toNat (by omega) (by omega)
 unfold jsp jl at hs
 have hp:(0:Int)<2^s:=Int.pow_pos (by decide)
 constructor
 ·have:(1:Int)*1<=jo mag*2^s:=Int.mul_le_mul a (by omega) (by omega) (by omega)
  omega
 ·have h1:(jo mag).toNat*2^s<2^(Lib.bitLen (jo mag).toNat)*2^s:=Nat.mul_lt_mul_of_pos_right sp.2.1 (Nat.two_pow_pos _)
  rw [<- Nat.pow_add] at h1
  have h2:2^(Lib.bitLen (jo mag).toNat+s)<=2^(fr.toNat+1):=Nat.pow_le_pow_right (by decide) (by omega)
  have h3:(jo mag).toNat*2^s<2^(fr.toNat+1):=Nat.lt_of_lt_of_le h1 h2
  have h4:(((jo mag).toNat*2^s:Nat):Int)<((2^(fr.toNat+1):Nat):Int):=Int.ofNat_lt.2 h3
  rw [Int.natCast_mul,Int.toNat_of_nonneg (by omega)] at h4
  simpa using h4
theorem jgood_far {mag exp:Int} (h0:0<mag) (h:mag<9223372036854775808) (hf:1025<exp):jgood 52 2047 (-1074) mag exp=false:=by
 have:=jl_le h0 h
 unfold jgood jab jsh jsp
 simp; intro _ _; omega
theorem jv_le {mag exp:Int} (hm:rng mag):0<=jv 52 2047 (-1074) mag exp∧jv 52 2047 (-1074) mag exp<9218868437227405312:=by
 unfold rng at hm
 unfold jv
 by_cases h0:mag<=0
 ·rw [if_pos h0]; omega
 ·rw [if_neg h0]
  by_cases hk:jgood 52 2047 (-1074) mag exp=true
  ·rw [if_pos hk]
   unfold jgood at hk
   simp only [Bool.and_eq_true,decide_eq_true_eq] at hk
   have hl:=jl_le (mag:=mag) (by omega) hm.2
   have hs:0<=jsh 52 (-1074) mag exp∧jsh 52 (-1074) mag exp<=jsp 52 mag:=by unfold jsh; omega
   have hb:=jshift_lt (fr:=52) (mag:=mag) (by omega) hm.2 (by omega) (jsh 52 (-1074) mag exp).toNat (by omega)
   have hb2:jo mag*2^(jsh 52 (-1074) mag exp).toNat<9007199254740992:=hb.2
   have ha:0<=jab 52 (-1074) mag exp:=by unfold jab jsh; omega
   -- a normal number's highest bit is counted into the field
   have e:(2:Int)^(52:Int).toNat=4503599627370496:=by decide
   rw [e]
   omega
  ·rw [if_neg hk]; omega
theorem doubled {fr mag:Int} (h0:0<mag) (h:mag<9223372036854775808) (hf:0<=fr) (j:Nat):jo mag*2^j<2^fr.toNat ↔ (j:Int)<jsp fr mag:=by
 obtain ⟨a,b⟩:=jo_le h0 h
 have sp:=bitLen_spec (jo mag).toNat (by omega) (by omega)
 unfold jsp jl
 have hc:((((jo mag).toNat*2^j:Nat)):Int)=jo mag*2^j:=by
  rw [Int.natCast_mul,Int.toNat_of_nonneg (by omega)]; simp
 have hd:((2^fr.toNat:Nat):Int)=2^fr.toNat:=by simp
 rw [<- hc,<- hd,Int.ofNat_lt]
 constructor
 ·intro hlt
  have h1:2^(Lib.bitLen (jo mag).toNat-1)*2^j<=(jo mag).toNat*2^j:=Nat.mul_le_mul_right _ sp.1
  rw [<- Nat.pow_add] at h1
  have h2:2^(Lib.bitLen (jo mag).toNat-1+j)<2^fr.toNat:=by omega
  have:=(Nat.pow_lt_pow_iff_right (by decide:1<2)).1 h2
  omega
 ·intro hlt
  have h1:(jo mag).toNat*2^j<2^(Lib.bitLen (jo mag).toNat)*2^j:=Nat.mul_lt_mul_of_pos_right sp.2.1 (Nat.two_pow_pos _)
  rw [<- Nat.pow_add] at h1
  exact Nat.lt_of_lt_of_le h1 (Nat.pow_le_pow_right (by decide) (by omega))
def sk (fr low mag exp:Int):Bool:=decide (0<=jsp fr mag) && decide (low<=exp+jz mag)
def se (fr low mag exp:Int):Int:=if sk fr low mag exp then exp+jz mag-jsh fr low mag exp else 0
def jp (neg:Bool) (mag exp:Int):Int:=if jk 52 2047 (-1074) mag exp && neg then jv 52 2047 (-1074) mag exp-9223372036854775808 else jv 52 2047 (-1074) mag exp
end Go.Proofs.YtjjihmnbdeeedaaGreatDoor.M
namespace Go.Proofs.YtjjihmnbdeeedaaGreatDoor.M
open Go Ieee
theorem V_parts (f:Format) (a n:Nat) (h:(a=0∧n<2*f.binade)∨(f.binade<=n∧n<2*f.binade)):V f (a*f.binade+n)=n*2^a:=by
 have hB:=binade_pos f
 unfold V
 by_cases hn:n<f.binade
 ·have ha:a=0:=by omega
  subst ha
  rw [Nat.zero_mul,Nat.zero_add,if_pos hn]; simp
 ·have hge:f.binade<=a*f.binade+n:=Nat.le_trans (by omega) (Nat.le_add_left _ _)
  rw [if_neg (by omega)]
  have e:a*f.binade+n=f.binade*(a+1)+(n-f.binade):=by
   rw [Nat.mul_add,Nat.mul_one,Nat.mul_comm]; omega
  rw [e,Nat.mul_add_mod,Nat.mod_eq_of_lt (show n-f.binade<f.binade by omega),Nat.mul_add_div hB,Nat.div_eq_of_lt (show n-f.binade<f.binade by omega)]
  rw [show a+1+0-1=a by omega,show f.binade+(n-f.binade)=n by omega]
theorem V_inj (f:Format) {r s:Nat} (h:V f r=V f s):r=s:=by
 rcases Nat.lt_trichotomy r s with h1 | h1 | h1
 ·have:=V_lt f h1; omega
 ·exact h1
 ·have:=V_lt f h1; omega
theorem pow_split (z:Nat) (n:Int) (u:Nat) (m:Nat) (hn:0<=n) (h:z<=u) (hm:(m:Int)=n*2^z):n.toNat*2^u=m*2^(u-z):=by
 obtain ⟨k,rfl⟩:=Int.eq_ofNat_of_zero_le hn
 have hm':m=k*2^z:=by
  have:((k*2^z:Nat):Int)=(k:Int)*2^z:=by rw [Int.natCast_mul]; simp
  omega
 rw [hm',Int.toNat_natCast,Nat.mul_assoc,<- Nat.pow_add,show z+(u-z)=u by omega]
theorem V_join (f:Format) (fr:Nat) (hB:f.binade=2^fr) (top least mag exp:Int) (h0:0<mag) (h:mag<9223372036854775808)
    (hg:jgood fr top least mag exp=true) (he:least<=exp):V f (jv fr top least mag exp).toNat=mag.toNat*2^(exp-least).toNat:=by
  obtain ⟨m,ez,z63,eo⟩:=jz_spec h0 h
  have hg':=hg
  unfold jgood at hg'
  simp only [Bool.and_eq_true,decide_eq_true_eq] at hg'
  have hs:0<=jsh fr least mag exp∧jsh fr least mag exp<=jsp fr mag∧jsh fr least mag exp<=exp+jz mag-least:=by unfold jsh; omega
  have hb:=jshift_lt (fr:=fr) h0 h (by omega) (jsh fr least mag exp).toNat (by omega)
  have hd:=doubled (fr:=fr) h0 h (by omega) (jsh fr least mag exp).toNat
  have ha:0<=jab fr least mag exp:=by unfold jab; omega
  obtain ⟨n,hn⟩:=Int.eq_ofNat_of_zero_le (show 0<=jo mag*2^(jsh fr least mag exp).toNat by omega)
  obtain ⟨a,ha'⟩:=Int.eq_ofNat_of_zero_le ha
  rw [hn] at hb hd
  have hB1:((f.binade:Nat):Int)=2^fr:=by rw [hB]; simp
  rw [Int.toNat_natCast,<- hB1] at hd
  have hb2:(n:Int)<2*(f.binade:Int):=by
    have:=hb.2
    rw [Int.toNat_natCast,Int.pow_succ,<- hB1] at this
    omega
  have ejv:(jv fr top least mag exp).toNat=a*f.binade+n:=by
    unfold jv
    rw [if_neg (by omega),if_pos hg,hn,ha',Int.toNat_natCast,<- hB1]
    have:((a:Int)*(f.binade:Int)+(n:Int))=((a*f.binade+n:Nat):Int):=by rw [Int.natCast_add,Int.natCast_mul]
    rw [this,Int.toNat_natCast]
  rw [ejv,V_parts f a n (by
    by_cases hn1:n<f.binade
    · left
      have:=hd.1 (by omega)
      have:jab fr least mag exp=0:=by unfold jab; unfold jsh at *; omega
      omega
    · right; omega)]
  -- n*2^a=mag*2^(exp-least)
  have e1:mag.toNat*2^(exp-least).toNat=(jo mag).toNat*2^(jz mag+(exp-least).toNat):=by
    have hm:((mag.toNat:Nat):Int)=jo mag*2^jz mag:=by
      rw [Int.toNat_of_nonneg (by omega),eo,Int.mul_comm]; exact ez
    rw [pow_split (jz mag) (jo mag) (jz mag+(exp-least).toNat) mag.toNat (by omega) (by omega) hm]
    congr 2; omega
  have e2:n*2^a=(jo mag).toNat*2^((jsh fr least mag exp).toNat+a):=by
    rw [pow_split (jsh fr least mag exp).toNat (jo mag) ((jsh fr least mag exp).toNat+a) n (by omega) (by omega) (by rw [<- hn])]
    congr 2; omega
  rw [e1,e2]
  congr 2
  unfold jab at ha'
  omega
theorem jzl {mag:Int} (h0:0<mag) (h:mag<9223372036854775808) (k:Nat) (hk:mag<2^k):(jz mag:Int)+jl mag<=k:=by
 obtain ⟨m,ez,z63,eo⟩:=jz_spec h0 h
 have hj:=jo_le h0 h
 have sp:=bitLen_spec (jo mag).toNat (by omega) (by omega)
 have h1:2^(Lib.bitLen (jo mag).toNat-1)*2^jz mag<=(jo mag).toNat*2^jz mag:=Nat.mul_le_mul_right _ sp.1
 rw [<- Nat.pow_add] at h1
 have h2:(((jo mag).toNat*2^jz mag:Nat):Int)=mag:=by
  rw [Int.natCast_mul,Int.toNat_of_nonneg (by omega),eo,Int.mul_comm]
  simp only [Int.natCast_pow]
  exact ez.symm
 have h3:(jo mag).toNat*2^jz mag<2^k:=by
  have:((2^k:Nat):Int)=2^k:=by simp
  omega
 have h4:2^(Lib.bitLen (jo mag).toNat-1+jz mag)<2^k:=by omega
 have:=(Nat.pow_lt_pow_iff_right (by decide:1<2)).1 h4
 unfold jl
 omega
theorem jgood_small {fr top least mag exp:Int} (h0:0<mag) (h:mag<9223372036854775808) (hf:0<=fr) (hk:mag<2^(fr.toNat+1)) (he:least<=exp) (he2:exp<=top-2+least):jgood fr top least mag exp=true:=by
 have hl:=jzl h0 h (fr.toNat+1) hk
 have:=jl_le h0 h
 unfold jgood jab jsh jsp
 simp only [Bool.and_eq_true,decide_eq_true_eq]
 omega
/-! binary64 -/
def rg (b:Int):Int:=if b<0 then b+9223372036854775808 else b
theorem rg_parts {b:Int} (h:rng b):0<=rg b∧rg b=fld b*4503599627370496+frc b:=by
 unfold rng at h; unfold rg fld frc; split <;> omega
theorem pparts {b:Int} (h:pok b=true):fld b≠2047:=by simpa [pok] using h
theorem dB:Ieee.double.binade=2^52:=by decide
theorem V_rg {b:Int} (hb:rng b) (hp:pok b=true):V Ieee.double (rg b).toNat=(pmag b).toNat*2^(pexp b+1074).toNat:=by
 have hne:=pparts hp
 obtain ⟨r0,r1⟩:=rg_parts hb
 have hf:=fld_le b
 have ht:=frc_le b
 by_cases h0:fld b=0
 ·have e:(rg b).toNat=0*Ieee.double.binade+(frc b).toNat:=by omega
  rw [e,V_parts _ _ _ (.inl ⟨rfl,by rw [dB]; omega⟩)]
  simp [pmag,pexp,h0]
 ·have e:(rg b).toNat=(fld b-1).toNat*Ieee.double.binade+(4503599627370496+frc b).toNat:=by rw [dB]; omega
  rw [e,V_parts _ _ _ (.inr (by rw [dB]; omega))]
  unfold pmag pexp
  rw [if_neg hne,if_neg h0,if_neg hne,if_neg h0]
  congr 2; omega
/-! binary32 -/
def rU (mag:Nat) (sh:Int):Nat:=if sh<=0 then mag*2^(-sh).toNat else mag/2^sh.toNat
def rL (mag:Nat) (cut:Bool) (sh:Int):Int :=
 if sh<=0 then 0 else if mag % 2^sh.toNat=0∧cut=false then 0 else if 2*(mag % 2^sh.toNat)<2^sh.toNat then 1 else if 2*(mag % 2^sh.toNat)=2^sh.toNat∧cut=false then 2 else 3
def rE (size low:Int) (mag:Nat) (exp:Int):Int:=max (exp+(Lib.bitLen mag:Int)-size) low
def rUp (way:Int) (neg odd:Bool) (left:Int):Bool :=
 if way=0 then decide (left=3) || (decide (left=2) && odd) else if way=1 then decide (left≠0) && neg else if way=2 then decide (left≠0) && !neg else false
def Held (A:Int) (mag:Nat) (exp:Int) (cut:Bool):Prop:=(mag:Int)*pw exp<=A∧A<((mag:Int)+1)*pw exp∧(cut=false ↔ A=(mag:Int)*pw exp)
structure Left (A:Int) (u:Nat) (q:Int) (left:Int):Prop where
 lo:(u:Int)*q<=A
 hi:A<(u:Int)*q+q
 l0:left=0 ↔ A=(u:Int)*q
 l1:left=1 ↔ (u:Int)*q<A∧2*A<2*((u:Int)*q)+q
 l2:left=2 ↔ 2*A=2*((u:Int)*q)+q
 l3:left=3 ↔ 2*((u:Int)*q)+q<2*A
theorem Left.mk' {A U q left:Int} {u:Nat} (hU:(u:Int)*q=U) (lo:U<=A) (hi:A<U+q) (l0:left=0 ↔ A=U) (l1:left=1 ↔ U<A∧2*A<2*U+q) (l2:left=2 ↔ 2*A=2*U+q) (l3:left=3 ↔ 2*U+q<2*A):Left A u q left:=by
 subst hU
 exact ⟨lo,hi,l0,l1,l2,l3⟩
theorem two_half (n:Nat) (h:0<n):∃ k,2^n=2*k∧0<k:=⟨2^(n-1),by rw [<- Nat.pow_succ',Nat.succ_eq_add_one,Nat.sub_add_cancel h],Nat.two_pow_pos _⟩
theorem left_of {A:Int} {mag:Nat} {exp e:Int} {cut:Bool} (h:Held A mag exp cut) (hc:cut=true->0<e-exp) (h0:-4194304<=e) (h1:-4194304<=exp):Left A (rU mag (e-exp)) (pw e) (rL mag cut (e-exp)):=by
 obtain ⟨a1,a2,a3⟩:=h
 have hq:=pw_pos exp
 have hqe:=pw_pos e
 by_cases hs:e-exp<=0
 ·have hcf:cut=false:=by cases cut; rfl; have:=hc rfl; omega
  have hA:=a3.1 hcf
  unfold rU rL
  rw [if_pos hs,if_pos hs]
  have e1:((mag*2^(-(e-exp)).toNat:Nat):Int)*pw e=A:=by
   rw [hA,pw_sub (e:=exp) (low:=e) h0 (by omega),show (exp-e).toNat=(-(e-exp)).toNat by omega]
   push_cast
   rw [Int.mul_assoc]
  exact ⟨by rw [e1]; omega,by rw [e1]; omega,by rw [e1]; simp,by rw [e1]; constructor <;> intro h <;> omega,by rw [e1]; constructor <;> intro h <;> omega,by rw [e1]; constructor <;> intro h <;> omega⟩
 ·have hp:pw e=2^(e-exp).toNat*pw exp:=pw_sub h1 (by omega)
  obtain ⟨s,hsn⟩:∃ s,(e-exp).toNat=s:=⟨_,rfl⟩
  have hs0:0<s:=by omega
  unfold rU rL
  rw [if_neg hs,if_neg hs,hsn]
  rw [hsn] at hp
  obtain ⟨k,hk,hk0⟩:=two_half s hs0
  have hpn:(2:Int)^s=((2^s:Nat):Int):=by simp
  rw [hpn,hk] at hp
  rw [hk]
  have hdm:=Nat.div_add_mod mag (2*k)
  have hml:=Nat.mod_lt mag (show 0<2*k by omega)
  generalize mag/(2*k)=u at *
  generalize mag % (2*k)=t at *
  generalize hQ:pw exp=q at *
  have e1:(mag:Int)*q=(u:Int)*(((2*k:Nat):Int)*q)+(t:Int)*q:=by
   rw [<- hdm]; push_cast; rw [Int.add_mul]; congr 1; rw [Int.mul_comm (2*(k:Int)) u,Int.mul_assoc]
  have e2:((mag:Int)+1)*q=(mag:Int)*q+q:=by rw [Int.add_mul,Int.one_mul]
  rw [e2,e1] at a2
  rw [e1] at a1 a3
  rw [hp]
  have e3:((2*k:Nat):Int)*q=2*((k:Int)*q):=by push_cast; rw [Int.mul_assoc]
  have t1:∀ x y:Nat,x<=y->(x:Int)*q<=(y:Int)*q:=fun x y h=>Int.mul_le_mul_of_nonneg_right (by omega) (by omega)
  have t2:∀ x y:Nat,x<y->(x:Int)*q+q<=(y:Int)*q:=fun x y h=>by
   have:=t1 (x+1) y h
   push_cast at this
   rwa [Int.add_mul,Int.one_mul] at this
  have t0:0<=(t:Int)*q:=Int.mul_nonneg (by omega) (by omega)
  have b1:(t:Int)*q+q<=2*((k:Int)*q):=by rw [<- e3]; exact t2 t (2*k) hml
  rw [e3] at a1 a2 a3 ⊢
  have c1:t<k->(t:Int)*q+q<=(k:Int)*q:=t2 t k
  have c2:t=k->(t:Int)*q=(k:Int)*q:=fun h=>by rw [h]
  have c3:k<t->(k:Int)*q+q<=(t:Int)*q:=t2 k t
  have c4:t=0->(t:Int)*q=0:=fun h=>by rw [h]; simp
  have c5:0<t->q<=(t:Int)*q:=fun h=>by have:=t1 1 t h; rwa [Int.natCast_one,Int.one_mul] at this
  clear e1 e2 e3 t1 t2 hp
  obtain ⟨T,hT⟩:∃ T,(t:Int)*q=T:=⟨_,rfl⟩
  obtain ⟨K,hK⟩:∃ K,(k:Int)*q=K:=⟨_,rfl⟩
  obtain ⟨U,hU⟩:∃ U,(u:Int)*(2*K)=U:=⟨_,rfl⟩
  rw [hT] at c1 c2 c3 c4 c5 t0 b1 a1 a2 a3
  rw [hK] at c1 c2 c3 b1 a1 a2 a3 ⊢
  rw [hU] at a1 a2 a3
  have a3':cut=true->A≠U+T:=fun h h2=>by rw [a3.2 h2] at h; cases h
  cases cut
  ·have hA:=a3.1 rfl
   subst hA
   by_cases z0:t=0
   ·have:=c4 z0
    rw [if_pos ⟨z0,rfl⟩]
    exact Left.mk' hU (by omega) (by omega) (by constructor <;> intro h <;> omega) (by constructor <;> intro h <;> omega) (by constructor <;> intro h <;> omega) (by constructor <;> intro h <;> omega)
   ·have:=c5 (by omega)
    rw [if_neg (fun h=>z0 h.1)]
    by_cases z1:t<k
    ·have:=c1 z1
     rw [if_pos (by omega)]
     exact Left.mk' hU (by omega) (by omega) (by constructor <;> intro h <;> omega) (by constructor <;> intro h <;> omega) (by constructor <;> intro h <;> omega) (by constructor <;> intro h <;> omega)
    ·rw [if_neg (by omega)]
     by_cases z2:t=k
     ·have:=c2 z2
      rw [if_pos ⟨by omega,rfl⟩]
      exact Left.mk' hU (by omega) (by omega) (by constructor <;> intro h <;> omega) (by constructor <;> intro h <;> omega) (by constructor <;> intro h <;> omega) (by constructor <;> intro h <;> omega)
     ·have:=c3 (by omega)
      rw [if_neg (fun h=>z2 (by omega))]
      exact Left.mk' hU (by omega) (by omega) (by constructor <;> intro h <;> omega) (by constructor <;> intro h <;> omega) (by constructor <;> intro h <;> omega) (by constructor <;> intro h <;> omega)
  ·have hA:=a3' rfl
   rw [if_neg (fun h=>by cases h.2)]
   by_cases z1:t<k
   ·have:=c1 z1
    rw [if_pos (by omega)]
    exact Left.mk' hU (by omega) (by omega) (by constructor <;> intro h <;> omega) (by constructor <;> intro h <;> omega) (by constructor <;> intro h <;> omega) (by constructor <;> intro h <;> omega)
   ·rw [if_neg (by omega),if_neg (fun h=>by cases h.2)]
    have hkt:K<=T:=by
     by_cases z2:t=k
     ·have:=c2 z2; omega
     ·have:=c3 (by omega); omega
    exact Left.mk' hU (by omega) (by omega) (by constructor <;> intro h <;> omega) (by constructor <;> intro h <;> omega) (by constructor <;> intro h <;> omega) (by constructor <;> intro h <;> omega)
theorem rU_bits {size low:Int} {mag:Nat} {exp:Int} (hs:0<size) (h:mag<2^64) (h0:mag≠0):rU mag (rE size low mag exp-exp)<2^size.toNat∧(low<rE size low mag exp->2^(size.toNat-1)<=rU mag (rE size low mag exp-exp)):=by
 obtain ⟨b1,b2,b3,b4⟩:=bitLen_spec mag h h0
 obtain ⟨n,hn⟩:∃ n,Lib.bitLen mag=n:=⟨_,rfl⟩
 obtain ⟨z,rfl⟩:∃ z:Nat,size=z:=⟨size.toNat,by omega⟩
 unfold rE rU
 rw [hn] at b1 b2 b3 b4 ⊢
 rw [Int.toNat_natCast]
 obtain ⟨e,he⟩:∃ e,max (exp+(n:Int)-(z:Int)) low=e:=⟨_,rfl⟩
 have he1:exp+n-z<=e:=by omega
 have he2:low<e->e=exp+n-z:=by omega
 rw [he]
 by_cases hse:e-exp<=0
 ·rw [if_pos hse]
  obtain ⟨k,hk⟩:∃ k,(-(e-exp)).toNat=k:=⟨_,rfl⟩
  rw [hk]
  refine ⟨?_,fun hl=>?_⟩
  ·calc mag*2^k<2^n*2^k:=Nat.mul_lt_mul_of_pos_right b2 (Nat.two_pow_pos k)
    _=2^(n+k):=by rw [Nat.pow_add]
    _<=2^z:=Nat.pow_le_pow_right (by decide) (by omega)
  ·have:=he2 hl
   calc 2^(z-1)<=2^(n-1+k):=Nat.pow_le_pow_right (by decide) (by omega)
    _=2^(n-1)*2^k:=by rw [Nat.pow_add]
    _<=mag*2^k:=Nat.mul_le_mul_right _ b1
 ·rw [if_neg hse]
  obtain ⟨k,hk⟩:∃ k,(e-exp).toNat=k:=⟨_,rfl⟩
  rw [hk]
  refine ⟨?_,fun hl=>?_⟩
  ·rw [Nat.div_lt_iff_lt_mul (Nat.two_pow_pos k),<- Nat.pow_add]
   exact Nat.lt_of_lt_of_le b2 (Nat.pow_le_pow_right (by decide) (by omega))
  ·have:=he2 hl
   rw [Nat.le_div_iff_mul_le (Nat.two_pow_pos k),<- Nat.pow_add]
   exact Nat.le_trans (Nat.pow_le_pow_right (by decide) (by omega)) b1
theorem V_rung (f:Format) (a u:Nat) (h:u<2*f.binade) (h2:0<a->f.binade<=u):V f (a*f.binade+u)=u*2^a∧V f (a*f.binade+u+1)=(u+1)*2^a:=by
 have hB:=binade_pos f
 refine ⟨V_parts f a u (by by_cases ha:a=0 <;> omega),?_⟩
 by_cases hu:u+1<2*f.binade
 ·rw [Nat.add_assoc]
  exact V_parts f a (u+1) (by by_cases ha:a=0 <;> omega)
 ·have e:a*f.binade+u+1=(a+1)*f.binade+f.binade:=by rw [Nat.add_mul]; omega
  rw [e,V_parts f (a+1) f.binade (by omega),Nat.pow_succ,show u+1=f.binade*2 by omega,Nat.mul_assoc,Nat.mul_comm (2^a) 2]
theorem jzl_ge {mag:Int} (h0:0<mag) (h:mag<9223372036854775808) (k:Nat) (hk:2^k<=mag):(k:Int)+1<=(jz mag:Int)+jl mag:=by
 obtain ⟨m,ez,z63,eo⟩:=jz_spec h0 h
 have hj:=jo_le h0 h
 have sp:=bitLen_spec (jo mag).toNat (by omega) (by omega)
 have h1:(jo mag).toNat*2^jz mag<2^Lib.bitLen (jo mag).toNat*2^jz mag:=Nat.mul_lt_mul_of_pos_right sp.2.1 (Nat.two_pow_pos _)
 rw [<- Nat.pow_add] at h1
 have h2:(((jo mag).toNat*2^jz mag:Nat):Int)=mag:=by
  rw [Int.natCast_mul,Int.toNat_of_nonneg (by omega),eo,Int.mul_comm]
  simp only [Int.natCast_pow]
  exact ez.symm
 have h3:2^k<=(jo mag).toNat*2^jz mag:=by
  have:((2^k:Nat):Int)=2^k:=by simp
  omega
 have h4:2^k<2^(Lib.bitLen (jo mag).toNat+jz mag):=by omega
 have:=(Nat.pow_lt_pow_iff_right (by decide:1<2)).1 h4
 unfold jl
 omega
theorem pow2_nn (n:Nat):(0:Int)<=2^n:=Int.le_of_lt (two_pos n)
theorem join_rung (f:Format) (fr:Nat) (hfr:fr<=60) (hB:f.binade=2^fr) (top least:Int) (ht:2<=top) (u:Nat) (e:Int) (h0:0<u) (hu:u<=2^(fr+1)) (he:least<=e) (hn:least<e->2^fr<=u) :
  let rung:=(e-least).toNat*2^fr+u
  jk fr top least (u:Int) e=decide ((rung:Int)<top*2^fr)∧((rung:Int)<top*2^fr->jv fr top least (u:Int) e=rung):=by
 intro rung
 have hp60:2^(fr+1)<=2^61:=Nat.pow_le_pow_right (by decide) (by omega)
 have hu63:(u:Int)<9223372036854775808:=by
  have:(2:Nat)^61=2305843009213693952:=by decide
  omega
 have hu0:(0:Int)<(u:Int):=by omega
 have hP:0<2^fr:=Nat.two_pow_pos fr
 have hPi:((2^fr:Nat):Int)=2^fr:=by simp
 have hlo:=jl_le hu0 hu63
 have hJ:jgood fr top least (u:Int) e=decide ((rung:Int)<top*2^fr):=by
  obtain ⟨a,ha⟩:∃ a,(e-least).toNat=a:=⟨_,rfl⟩
  have hr:(rung:Int)=(a:Int)*2^fr+u:=by simp only [rung,ha]; push_cast; rfl
  rw [hr]
  by_cases hlt:u<2^(fr+1)
  ·by_cases hea:(a:Int)<=top-2
   ·have g:=jgood_small (fr:=(fr:Int)) (top:=top) (least:=least) (exp:=e) hu0 hu63 (by omega) (by rw [Int.toNat_natCast]; exact_mod_cast hlt) he (by omega)
    rw [g]
    have:(a:Int)*2^fr<=(top-2)*2^fr:=Int.mul_le_mul_of_nonneg_right hea (by omega)
    have e2:(top-2)*2^fr=top*2^fr-2*2^fr:=by rw [Int.sub_mul]
    have hu2:(u:Int)<2*2^fr:=by rw [Nat.pow_succ] at hlt; omega
    exact (decide_eq_true (by omega)).symm
   ·have hge:=hn (by omega)
    have g2:=jzl_ge hu0 hu63 fr (by rw [<- hPi]; omega)
    have g:jgood fr top least (u:Int) e=false:=by
     unfold jgood jab jsh jsp
     simp only [Bool.and_eq_false_iff,decide_eq_false_iff_not]
     omega
    rw [g]
    have:(top-1)*2^fr<=(a:Int)*2^fr:=Int.mul_le_mul_of_nonneg_right (by omega) (by omega)
    have e2:(top-1)*2^fr=top*2^fr-2^fr:=by rw [Int.sub_mul,Int.one_mul]
    exact (decide_eq_false (by omega)).symm
  ·have hue:u=2^(fr+1):=by omega
   have hpp:2^(fr+1)<2^(fr+2):=Nat.pow_lt_pow_right (by decide) (by omega)
   have g1:=jzl hu0 hu63 (fr+2) (by rw [hue]; exact_mod_cast hpp)
   have g2:=jzl_ge hu0 hu63 (fr+1) (by rw [hue]; simp)
   have hu2:(u:Int)=2*2^fr:=by rw [hue,Nat.pow_succ]; push_cast; omega
   have hjo:jl (u:Int)<=fr+1:=by
    obtain ⟨mm,ez,z63,eo⟩:=jz_spec hu0 hu63
    by_cases hz:jz (u:Int)=0
    ·exfalso
     rw [hz] at ez
     rw [hu2] at ez
     simp at ez
     omega
    ·omega
   by_cases hea:(a:Int)<=top-3
   ·have g:jgood fr top least (u:Int) e=true:=by
     unfold jgood jab jsh jsp
     simp only [Bool.and_eq_true,decide_eq_true_eq]
     omega
    rw [g]
    have:(a:Int)*2^fr<=(top-3)*2^fr:=Int.mul_le_mul_of_nonneg_right hea (by omega)
    have e2:(top-3)*2^fr=top*2^fr-3*2^fr:=by rw [Int.sub_mul]
    exact (decide_eq_true (by omega)).symm
   ·have g:jgood fr top least (u:Int) e=false:=by
     unfold jgood jab jsh jsp
     simp only [Bool.and_eq_false_iff,decide_eq_false_iff_not]
     omega
    rw [g]
    have:(top-2)*2^fr<=(a:Int)*2^fr:=Int.mul_le_mul_of_nonneg_right (by omega) (by omega)
    have e2:(top-2)*2^fr=top*2^fr-2*2^fr:=by rw [Int.sub_mul]
    exact (decide_eq_false (by omega)).symm
 refine ⟨?_,fun hlt=>?_⟩
 ·unfold jk
  rw [if_neg (by omega),if_neg (by omega)]
  exact hJ
 ·have hg:jgood fr top least (u:Int) e=true:=by rw [hJ]; exact decide_eq_true hlt
  have hv:=V_join f fr hB top least (u:Int) e hu0 hu63 hg he
  rw [Int.toNat_natCast] at hv
  have hj0:0<=jv fr top least (u:Int) e:=by
   unfold jv
   rw [if_neg (by omega),if_pos hg]
   have h1:=jo_le hu0 hu63
   have h2:0<=jab fr least (u:Int) e:=by unfold jab jsh; unfold jgood at hg; simp only [Bool.and_eq_true,decide_eq_true_eq] at hg; omega
   have h3:(0:Int)<=2^(fr:Int).toNat:=pow2_nn _
   have h4:(0:Int)<=2^(jsh fr least (u:Int) e).toNat:=pow2_nn _
   have:=Int.mul_nonneg h2 h3
   have:=Int.mul_nonneg (show 0<=jo (u:Int) by omega) h4
   omega
  have hV:V f rung=u*2^(e-least).toNat:=by
   show V f ((e-least).toNat*2^fr+u)=_
   rw [<- hB]
   by_cases hlt2:u<2^(fr+1)
   ·exact (V_rung f (e-least).toNat u (by rw [hB]; rw [Nat.pow_succ] at hlt2; omega) (fun h=>by rw [hB]; exact hn (by omega))).1
   ·have hue:u=2*f.binade-1+1:=by rw [hB]; rw [Nat.pow_succ] at hu hlt2; omega
    have hb:=binade_pos f
    have:=(V_rung f (e-least).toNat (2*f.binade-1) (by omega) (fun h=>by omega)).2
    rw [<- hue,Nat.add_assoc,<- hue] at this
    exact this
  have:=V_inj f (hv.trans hV.symm)
  omega
end Go.Proofs.YtjjihmnbdeeedaaGreatDoor.M
namespace Go.Proofs.YtjjihmnbdeeedaaGreatDoor
open Go Go.RowKit Go.Proofs.YtjjihmnbdeeedaaGreatDoor.M
structure Row (w:World) (ao:Option Addr) (n cap:Nat) (d:Nat->Int):Prop where
 le:n<=cap
 max:cap<=9223372036854775807
 nl:ao=none->cap=0
 spot:0<n->∃ b off,ao=some ⟨b,off,none⟩∧b<w.heap.size∧∀ i,i<n->w.cell? ⟨b,off+i,none⟩=some (.int .i64 (d i))
def Blk (w:World) (g N:Nat) (r:Nat->Int):Prop :=
 ∃ cur,w.heap[g]?=some (.cells cur 3 (0,0))∧cur.size=N∧∀ i,i<N->cur[i]?=some (.int .i64 (r i))
def vals (d:Nat->Int) (n:Nat):List Value:=(List.range n).map fun i=>.int .i64 (d i)
theorem vals_length (d:Nat->Int) (n:Nat):(vals d n).length=n:=by simp [vals]
theorem vals_get (d:Nat->Int) {n i:Nat} (h:i<n):(vals d n)[i]?=some (.int .i64 (d i)):=by simp [vals,h]
theorem vals_one (d:Nat->Int) (n:Nat):∀ u ∈ vals d n,u.oneCell'=true:=by
 intro u hu
 obtain ⟨_,_,rfl⟩:=List.mem_map.1 hu
 rfl
theorem vals_ext {xs:List Value} {d:Nat->Int} {n:Nat} (hl:xs.length=n) (h:∀ i,i<n->xs[i]?=some (.int .i64 (d i))):xs=vals d n:=by
 apply List.ext_getElem?
 intro i
 by_cases hi:i<n
 ·rw [h i hi,vals_get d hi]
 ·rw [List.getElem?_eq_none (by omega),List.getElem?_eq_none (by rw [vals_length]; omega)]
def Out (B:Nat) (w:World) (v:Value) (n:Nat) (d:Nat->Int):Prop:=w.ownsRow B 3 1 v n (vals d n)
theorem Row.stays {w w':World} {ao:Option Addr} {n cap:Nat} {d:Nat->Int} (h:Row w ao n cap d) {B:Nat} (hb:Below B w w') (hB:w.heap.size<=B):Row w' ao n cap d :=
  ⟨h.le,h.max,h.nl,fun hn=>by
    obtain ⟨b,off,rfl,hlt,hc⟩:=h.spot hn
    exact ⟨b,off,rfl,Nat.lt_of_lt_of_le hlt hb.size,fun i hi=>(hb.cell (p:=⟨b,off+i,none⟩) (Nat.lt_of_lt_of_le hlt hB)).trans (hc i hi)⟩⟩
theorem Row.keeps {w w':World} {ao:Option Addr} {n cap:Nat} {d:Nat->Int} (h:Row w ao n cap d) (hb:Below w.heap.size w w'):Row w' ao n cap d:=h.stays hb (Nat.le_refl _)
theorem Row.congr {w:World} {ao:Option Addr} {n cap:Nat} {d e:Nat->Int} (h:Row w ao n cap d) (he:∀ i,i<n->d i=e i):Row w ao n cap e :=
  ⟨h.le,h.max,h.nl,fun hn=>by
    obtain ⟨b,off,rfl,hlt,hc⟩:=h.spot hn
    exact ⟨b,off,rfl,hlt,fun i hi=>by rw [<- he i hi]; exact hc i hi⟩⟩
theorem Row.nil (w:World) (d:Nat->Int):Row w none 0 0 d:=⟨Nat.le_refl _,by decide,fun _=>rfl,fun h=>by omega⟩
theorem Row.alloc {w:World} {ao:Option Addr} {n cap:Nat} {d:Nat->Int} (h:Row w ao n cap d) (o:Obj):Row (w.alloc o) ao n cap d:=h.keeps ((Below.refl _ _).alloc (Nat.le_refl _) _)
theorem Blk.cell {w:World} {g N:Nat} {r:Nat->Int} (h:Blk w g N r) {i:Nat} (hi:i<N):w.cell? ⟨g,i,none⟩=some (.int .i64 (r i)):=by
 obtain ⟨cur,hg,hs,hc⟩:=h
 rw [cell_of_row w g i cur _ _ hg]; exact hc i hi
theorem Blk.frozen {w:World} {g N:Nat} {r:Nat->Int} (h:Blk w g N r) (i:Nat):w.frozen? ⟨g,i,none⟩=false:=by
 obtain ⟨cur,hg,hs,hc⟩:=h
 exact frozen_of_row w g i cur _ hg
theorem Blk.lt {w:World} {g N:Nat} {r:Nat->Int} (h:Blk w g N r):g<w.heap.size:=by
 obtain ⟨cur,hg,hs,hc⟩:=h
 exact (Array.getElem?_eq_some_iff.1 hg).1
theorem Blk.store {w:World} {g N:Nat} {r:Nat->Int} (h:Blk w g N r) (i:Nat) (x:Int):Blk (w.setCell ⟨g,i,none⟩ (.int .i64 x)) g N (upd r i x):=by
 obtain ⟨cur,hg,hs,hc⟩:=h
 refine ⟨cur.setIfInBounds i (.int .i64 x),heap_setCell_same w g i cur _ _ hg,by simpa using hs,fun j hj=>?_⟩
 by_cases hji:j=i
 ·subst hji; rw [upd_same,Array.getElem?_setIfInBounds_self_of_lt (by omega)]
 ·rw [upd_other r x hji,Array.getElem?_setIfInBounds_ne (by omega)]; exact hc j hj
theorem Blk.of_block {w w':World} {g N:Nat} {r:Nat->Int} (h:Blk w g N r) (hb:w'.heap[g]?=w.heap[g]?):Blk w' g N r:=by
 obtain ⟨cur,hg,hs,hc⟩:=h
 exact ⟨cur,hb.trans hg,hs,hc⟩
theorem Blk.stays {w w':World} {g N:Nat} {r:Nat->Int} (h:Blk w g N r) {B:Nat} (hb:Below B w w') (hB:g<B):Blk w' g N r:=h.of_block (hb.block g hB)
theorem Blk.keeps {w w':World} {g N:Nat} {r:Nat->Int} (h:Blk w g N r) (hb:Below w.heap.size w w'):Blk w' g N r:=h.stays hb h.lt
theorem Blk.apart {w:World} {g N:Nat} {r:Nat->Int} (h:Blk w g N r) {a:Addr} (ha:g≠a.block) (u:Value):Blk (w.setCell a u) g N r:=h.of_block (heap_setCell_other w a g u ha)
theorem Blk.alloc {w:World} {g N:Nat} {r:Nat->Int} (h:Blk w g N r) (o:Obj):Blk (w.alloc o) g N r:=h.of_block (Below.heap_alloc w o g h.lt)
theorem Blk.congr {w:World} {g N:Nat} {r s:Nat->Int} (h:Blk w g N r) (he:∀ i,i<N->r i=s i):Blk w g N s:=by
 obtain ⟨cur,hg,hs,hc⟩:=h
 exact ⟨cur,hg,hs,fun i hi=>by rw [hc i hi,he i hi]⟩
theorem Blk.row {w:World} {g N:Nat} {r:Nat->Int} (h:Blk w g N r) {off n cap:Nat} (hn:off+n<=N) (hc:n<=cap) (hm:cap<=9223372036854775807):Row w (some ⟨g,off,none⟩) n cap (fun i=>r (off+i)) :=
 ⟨hc,hm,(fun e=>by cases e),fun _=>⟨g,off,rfl,h.lt,fun i hi=>h.cell (by omega)⟩⟩
theorem Blk.row0 {w:World} {g N:Nat} {r:Nat->Int} (h:Blk w g N r) {n:Nat} (hn:n<=N) (hm:N<=9223372036854775807):Row w (some ⟨g,0,none⟩) n N r :=
 ⟨hn,hm,(fun e=>by cases e),fun _=>⟨g,0,rfl,h.lt,fun i hi=>by rw [Nat.zero_add]; exact h.cell (by omega)⟩⟩
theorem Blk.out {w:World} {g N:Nat} {r:Nat->Int} (h:Blk w g N r) {B n:Nat} (hB:B<=g) (hn:n<=N) (hm:N<=9223372036854775807):Out B w (.slice (some ⟨g,0,none⟩) n N) n r:=by
 obtain ⟨cur,hg,hs,hc⟩:=h
 refine ⟨by rw [vals_length]; omega,.inr ⟨g,N,cur,rfl,hB,hg,hn,by unfold maxLen; omega,by omega,?_⟩⟩
 apply vals_ext (by simp; omega)
 intro i hi
 rw [List.getElem?_take,if_pos (by omega),Array.getElem?_toList]
 exact hc i (by omega)
theorem Blk.made {w:World} {B g N:Nat} (h:w.ownsRow B 3 1 (.slice (some ⟨g,0,none⟩) N N) N (madeCells (Value.int .i64 0).cells (N*1)).toList):Blk w g N (fun _=>0):=by
 rcases h.2 with ⟨h',_⟩ | ⟨g',cap',cur,h',_,hg,_,_,hs,htake⟩
 ·simp at h'
 ·simp only [Value.slice.injEq,Option.some.injEq,Addr.mk.injEq,and_true,true_and] at h'
  obtain ⟨rfl,rfl⟩:=h'
  refine ⟨cur,hg,by omega,fun i hi=>?_⟩
  have e:cur.toList[i]?=(madeCells (Value.int .i64 0).cells (N*1)).toList[i]?:=by
   rw [<- htake,List.getElem?_take,if_pos (by omega)]
  rw [Array.getElem?_toList] at e
  rw [e]
  show (madeCells #[Value.int .i64 0] (N*1)).toList[i]?=_
  rw [Nat.mul_one,toList_madeCells_one]
  simp [hi]
theorem Blk.new (w:World) (xs:Array Value) (r:Nat->Int) (h:∀ i,i<xs.size->xs[i]?=some (.int .i64 (r i))):Blk (w.alloc (.cells xs 3)) w.heap.size xs.size r :=
 ⟨xs,heap_alloc_new w _,rfl,h⟩
theorem Out.row {B:Nat} {w:World} {v:Value} {n:Nat} {d:Nat->Int} (h:Out B w v n d):∃ ao cap,v=.slice ao n cap∧Row w ao n cap d:=by
 rcases h.2 with ⟨rfl,rfl⟩ | ⟨g,cap,cur,rfl,hb,hg,hn,hm,hs,ht⟩
 ·exact ⟨none,0,rfl,Row.nil _ _⟩
 ·refine ⟨_,cap,rfl,hn,by unfold maxLen at hm; exact hm,(fun e=>by cases e),fun _=>⟨g,0,rfl,(Array.getElem?_eq_some_iff.1 hg).1,fun i hi=>?_⟩⟩
  rw [Nat.zero_add,cell_of_row w g i cur _ _ hg]
  have e:(cur.toList.take (n*1))[i]?=(vals d n)[i]?:=by rw [ht]
  rw [List.getElem?_take,if_pos (by omega),vals_get d hi,Array.getElem?_toList] at e
  exact e
theorem Out.nil (B:Nat) (w:World) (d:Nat->Int):Out B w (.slice none 0 0) 0 d:=World.ownsRow_nil _ _ _ _
theorem Out.stays {B:Nat} {w w':World} {v:Value} {n:Nat} {d:Nat->Int} (h:Out B w v n d) (hb:Below w.heap.size w w'):Out B w' v n d:=by
 refine ⟨h.1,?_⟩
 rcases h.2 with hn | ⟨g,cap,cur,rfl,hbb,hg,rest⟩
 ·exact .inl hn
 ·exact .inr ⟨g,cap,cur,rfl,hbb,(hb.block g (Array.getElem?_eq_some_iff.1 hg).1).trans hg,rest⟩
theorem Out.lower {B B':Nat} {w:World} {v:Value} {n:Nat} {d:Nat->Int} (h:Out B w v n d) (hB:B'<=B):Out B' w v n d:=by
 refine ⟨h.1,?_⟩
 rcases h.2 with hn | ⟨g,cap,cur,rfl,hbb,rest⟩
 ·exact .inl hn
 ·exact .inr ⟨g,cap,cur,rfl,by omega,rest⟩
theorem Out.congr {B:Nat} {w:World} {v:Value} {n:Nat} {d e:Nat->Int} (h:Out B w v n d) (he:∀ i,i<n->d i=e i):Out B w v n e:=by
 unfold Out at h ⊢
 rwa [show vals e n=vals d n from (vals_ext (vals_length d n) fun i hi=>by rw [vals_get d hi,he i hi]).symm]
theorem bel_trans {a b c:World} (h:Below a.heap.size a b) (k:Below b.heap.size b c):Below a.heap.size a c:=h.trans (k.mono h.size)
theorem bel_refl (w:World):Below w.heap.size w w:=Below.refl _ _
theorem bDrewN {B:Nat} {a w:World} (h:Below B a w) (n:Nat):Below B a (w.drewN n):=⟨h.os,h.tape,h.output,h.size,h.block⟩
def cutV (ao:Option Addr) (t cap:Nat):Value:=if t=0 then .slice none 0 0 else .slice ao t cap
theorem Blk.cut {w:World} {g N:Nat} {r:Nat->Int} (h:Blk w g N r) {B t:Nat} (hB:B<=g) (ht:t<=N) (hm:N<=9223372036854775807):Out B w (cutV (some ⟨g,0,none⟩) t N) t r:=by
 unfold cutV
 split
 ·rename_i h0; subst h0; exact Out.nil _ _ _
 ·exact h.out hB ht hm
def Ans (w w':World) (V:Int) (v:Value):Prop:=∃ t d,Out w.heap.size w' v t d∧Nrm d t∧val d t=V∧Below w.heap.size w w'
theorem Ans.below {w w':World} {V:Int} {v:Value} (h:Ans w w' V v):Below w.heap.size w w':=h.choose_spec.choose_spec.2.2.2
theorem Ans.from {w0 w w':World} {V:Int} {v:Value} (h:Ans w w' V v) (hb:Below w0.heap.size w0 w):Ans w0 w' V v:=by
 obtain ⟨t,d,h1,h2,h3,h4⟩:=h
 exact ⟨t,d,h1.lower hb.size,h2,h3,bel_trans hb h4⟩
theorem Ans.stays {w w1 w2:World} {V:Int} {v:Value} (h:Ans w w1 V v) (hb:Below w1.heap.size w1 w2):Ans w w2 V v:=by
 obtain ⟨t,d,h1,h2,h3,h4⟩:=h
 exact ⟨t,d,h1.stays hb,h2,h3,bel_trans h4 hb⟩
theorem Ans.nil {w w':World} (hb:Below w.heap.size w w'):Ans w w' 0 (.slice none 0 0):=⟨0,fun _=>0,Out.nil _ _ _,⟨fun i hi=>by omega,.inl rfl⟩,rfl,hb⟩
def Fit (w w':World) (V:Int) (v:Value) (er:Int):Prop:=Below w.heap.size w w'∧((V<P 2000∧er=0∧Ans w w' V v)∨(P 2000<=V∧er=2∧v=.slice none 0 0))
theorem info_int:(Tryz.prog.info? 3).map (fun i=>(i.zero,i.size,i.bytes))=some (some (.int .i64 0),1,8):=by kernel_rfl
theorem grown_below {w w':World} (h:w.grownBy w' none):Below w.heap.size w w':=⟨h.os,h.tape,h.output,h.size,fun k hk=>h.block k hk (by simp)⟩
theorem wpList_mk {w:World} {ops:Array Oper} {rest:List Oper} {o:Oper} {a:Act} {Q:Exit->Act->World->Prop} (hg:o.guard=none) (l c:Operand) (hop:o.op=Op.makeSlice 38 l c)
  (L C:Int) (n:Nat) (hl:a.eval l=.int .i64 L) (hc:a.eval c=.int .i64 C) (hL:L=(n:Int)) (hC:C=(n:Int)) (hn:n<=1000000)
  (hK:∀ w',Blk w' w.heap.size n (fun _=>0)->Below w.heap.size w w'->wpList Tryz.prog ops Q rest (a.put o.dst (.slice (some ⟨w.heap.size,0,none⟩) n n)) w') :
  wpList Tryz.prog ops Q (o :: rest) a w:=by
 obtain ⟨i0,hi,hz0,hz1,hz2⟩:=info_parts info_int
 exact wpList_make_full w hg l c 38 hop w.heap.size 3 i0 (.int .i64 0) 1 Tryz.underlying38 hi hz0 hz1 .i64 .i64 L C n hl hc hL hC (by rw [hz2]; omega) (by unfold maxLen; omega) (Nat.le_refl _)
  fun w' h1 h2=>hK w' (Blk.made h1) (grown_below h2)
theorem row1 (w:World) (x:Int) {g:Nat} (hg:g=w.heap.size):Row (w.alloc (.cells #[.int .i64 x] 3)) (some ⟨g,0,none⟩) 1 1 (fun _=>x):=by
 subst hg
 exact (Blk.new w #[.int .i64 x] (fun _=>x) (fun i hi=>by simp at hi; subst hi; rfl)).row0 (Nat.le_refl _) (show 1<=9223372036854775807 by decide)
def d2 (x y:Int):Nat->Int:=fun i=>if i=0 then x else y
def cat (d:Nat->Int) (n:Nat) (e:Nat->Int):Nat->Int:=fun i=>if i<n then d i else e (i-n)
theorem vals_cat (d e:Nat->Int) (n m:Nat):vals d n ++ vals e m=vals (cat d n e) (n+m):=by
 apply vals_ext (by simp [vals_length])
 intro i hi
 by_cases h:i<n
 ·rw [List.getElem?_append_left (by rw [vals_length]; exact h),vals_get d h]; simp [cat,h]
 ·rw [List.getElem?_append_right (by rw [vals_length]; omega),vals_length,vals_get e (by omega)]; simp [cat,h]
theorem add_none (b off n:Nat):(⟨b,off,none⟩:Addr).add n=⟨b,off+n,none⟩:=by
 unfold Addr.add; split <;> simp_all
theorem wpList_app {w:World} {ops:Array Oper} {rest:List Oper} {o:Oper} {a:Act} {Q:Exit->Act->World->Prop} (hgd:o.guard=none) (s x:Operand)
  (ho:o.op=.call { callee:=.builtin .append,args:=#[s,x],argTypes:=#[38,38] }) (B:Nat) (v:Value) (n:Nat) (d:Nat->Int) (hs:a.eval s=v) (hO:Out B w v n d)
  (bo:Option Addr) (m cb:Nat) (e:Nat->Int) (hx:a.eval x=.slice bo m cb) (hR:Row w bo m cb e) (hlen:n+m<=1000000) (hB:B<=w.heap.size)
  (h:∀ v' w',Out B w' v' (n+m) (cat d n e)->w.grownBy w' v.ownBlock->wpList Tryz.prog ops Q rest (a.put o.dst v') w'):wpList Tryz.prog ops Q (o :: rest) a w:=by
 obtain ⟨i0,hi,hz0,hz1,hz2⟩:=info_parts info_int
 cases bo with
 | none=>
  have hc:=hR.nl rfl
  have hl:=hR.le
  subst hc
  obtain rfl:m=0:=by omega
  refine wpList_append_own_none hgd s x 38 ho B 3 i0 1 Tryz.underlying38 hi v n (vals d n) hs hO hx ?_
  refine h v w ?_ ⟨rfl,rfl,rfl,Nat.le_refl _,fun _ _ _=>rfl⟩
  exact Out.congr hO fun i hi=>by simp [cat]; omega
 | some ad=>
  refine wpList_append_own w hgd s x 38 ho B 3 i0 (.int .i64 0) 1 8 Tryz.underlying38 hi hz0 hz1 hz2 rfl (by decide) v n (vals d n) hs hO ad m cb (vals e m) hx (by rw [vals_length]; omega) ?_ (vals_one e m) (by unfold maxLen; omega) (by omega) hB ?_
  ·intro j u hu
   have hj:j<m:=by have:=(List.getElem?_eq_some_iff.1 hu).1; rwa [vals_length] at this
   obtain ⟨b,off,hb,_,hc⟩:=hR.spot (by omega)
   obtain rfl:=Option.some.inj hb
   rw [vals_get e hj] at hu
   rw [add_none,hc j hj]; exact hu
  ·intro v' w' h1 h2 _
   rw [vals_cat] at h1
   exact h v' w' h1 h2
theorem own_ge {B:Nat} {w:World} {v:Value} {n:Nat} {d:Nat->Int} (h:Out B w v n d):∀ k,v.ownBlock=some k->B<=k:=fun k hk=>(World.ownsRow.lt h k hk).1
def Num (w:World) (v:Value) (V:Int):Prop:=∃ ao n cap d,v=.slice ao n cap∧Row w ao n cap d∧Nrm d n∧val d n=V
theorem Ans.num {w w':World} {V:Int} {v:Value} (h:Ans w w' V v):Num w' v V:=by
 obtain ⟨t,d,h1,h2,h3,h4⟩:=h
 obtain ⟨ao,cap,rfl,hR⟩:=h1.row
 exact ⟨ao,t,cap,d,rfl,hR,h2,h3⟩
theorem Num.keeps {w w':World} {v:Value} {V:Int} (h:Num w v V) (hb:Below w.heap.size w w'):Num w' v V:=by
 obtain ⟨ao,n,cap,d,rfl,hR,h2⟩:=h
 exact ⟨ao,n,cap,d,rfl,hR.keeps hb,h2⟩
theorem Num.shape {w:World} {v:Value} {V:Int} (h:Num w v V):∃ ao n cap,v=.slice ao n cap:=by
 obtain ⟨ao,n,cap,d,e,_⟩:=h
 exact ⟨ao,n,cap,e⟩
theorem Num.alloc {w:World} {v:Value} {V:Int} (h:Num w v V) (o:Obj):Num (w.alloc o) v V:=h.keeps ((Below.refl _ _).alloc (Nat.le_refl _) _)
theorem Num.len {w:World} {ao:Option Addr} {n cap:Nat} {V:Int} (h:Num w (.slice ao n cap) V) {k:Nat} (hV:V<P k):n<=k:=by
 obtain ⟨ao',n',cap',d,e,hR,h2,h3⟩:=h
 simp only [Value.slice.injEq] at e
 obtain ⟨rfl,rfl,rfl⟩:=e
 by_cases hk:n<=k
 ·exact hk
 ·have a:=val_top h2.1 (by omega) h2.2
  have b:=P_le (show k<=n-1 by omega)
  omega
theorem Num.nonneg {w:World} {v:Value} {V:Int} (h:Num w v V):0<=V:=by
 obtain ⟨ao',n',cap',d,e,hR,h2,rfl⟩:=h
 exact val_nonneg h2.1
theorem Num.zero {w:World} {ao:Option Addr} {n cap:Nat} {V:Int} (h:Num w (.slice ao n cap) V):V=0 ↔ n=0:=by
 obtain ⟨ao',n',cap',d,e,hR,h2,rfl⟩:=h
 simp only [Value.slice.injEq] at e
 obtain ⟨rfl,rfl,rfl⟩:=e
 exact val_zero h2
theorem bel_alloc (w:World) (o:Obj):Below w.heap.size w (w.alloc o):=(Below.refl _ _).alloc (Nat.le_refl _) _
theorem bel_alloc2 (w:World) (o p:Obj):Below w.heap.size w ((w.alloc o).alloc p):=(bel_alloc w o).alloc (by simp) _
theorem blkC {w:World} {g:Nat} {xs:Array Value} {t:TypeId} (h:w.heap[g]?=some (.cells xs t (0,0))) (i:Nat) {v:Value} (hi:xs[i]?=some v):w.cell? ⟨g,i,none⟩=some v:=by
 rw [cell_of_row w g i xs _ _ h]; exact hi
theorem blkF {w:World} {g:Nat} {xs:Array Value} {t:TypeId} (h:w.heap[g]?=some (.cells xs t (0,0))) (i:Nat):w.frozen? ⟨g,i,none⟩=false:=by
 simp [World.frozen?,h]
theorem heap_a2 (w:World) (a b:Obj):((w.alloc a).alloc b).heap[w.heap.size]?=some a:=by
 show ((w.heap.push a).push b)[w.heap.size]?=some a
 simp [Array.getElem?_push]
theorem heap_b2 (w:World) (a b:Obj):((w.alloc a).alloc b).heap[w.heap.size+1]?=some b:=by
 show ((w.heap.push a).push b)[w.heap.size+1]?=some b
 rw [Array.getElem?_push,if_pos (by simp)]
theorem size2 (w:World) (a b:Obj):((w.alloc a).alloc b).heap.size=w.heap.size+2:=by
 show ((w.heap.push a).push b).size=_
 simp
theorem Out.set_below {B:Nat} {w:World} {v:Value} {n:Nat} {d:Nat->Int} (h:Out B w v n d) {a:Addr} (ha:a.block<B) (u:Value):Out B (w.setCell a u) v n d:=ownsRow_setCell_below h ha u
def DNum (w:World) (v:Value) (V:Int):Prop:=∃ ng s m e,v=.agg #[.bool ng,s,.int .i64 e]∧Dy V ng m e∧Num w s m
def DAns (w w':World) (V:Int) (v:Value):Prop:=∃ ng s m e,v=.agg #[.bool ng,s,.int .i64 e]∧Dy V ng m e∧Ans w w' m s
def zeroV:Value:=.agg #[.bool false,.slice none 0 0,.int .i64 0]
theorem DAns.below {w w':World} {V:Int} {v:Value} (h:DAns w w' V v):Below w.heap.size w w':=by
 obtain ⟨ng,s,m,e,_,_,h3⟩:=h
 exact h3.below
theorem DAns.num {w w':World} {V:Int} {v:Value} (h:DAns w w' V v):DNum w' v V:=by
 obtain ⟨ng,s,m,e,h1,h2,h3⟩:=h
 exact ⟨ng,s,m,e,h1,h2,h3.num⟩
theorem DAns.from {w0 w w':World} {V:Int} {v:Value} (h:DAns w w' V v) (hb:Below w0.heap.size w0 w):DAns w0 w' V v:=by
 obtain ⟨ng,s,m,e,h1,h2,h3⟩:=h
 exact ⟨ng,s,m,e,h1,h2,h3.from hb⟩
theorem DAns.stays {w w1 w2:World} {V:Int} {v:Value} (h:DAns w w1 V v) (hb:Below w1.heap.size w1 w2):DAns w w2 V v:=by
 obtain ⟨ng,s,m,e,h1,h2,h3⟩:=h
 exact ⟨ng,s,m,e,h1,h2,h3.stays hb⟩
theorem DAns.zero {w w':World} (hb:Below w.heap.size w w'):DAns w w' 0 zeroV:=⟨_,_,_,_,rfl,Dy.zero,Ans.nil hb⟩
theorem DNum.keeps {w w':World} {v:Value} {V:Int} (h:DNum w v V) (hb:Below w.heap.size w w'):DNum w' v V:=by
 obtain ⟨ng,s,m,e,h1,h2,h3⟩:=h
 exact ⟨ng,s,m,e,h1,h2,h3.keeps hb⟩
theorem DNum.zero (w:World):DNum w zeroV 0:=(DAns.zero (bel_refl w)).num
def DFit (w w':World) (V:Int) (v:Value) (er:Int):Prop:=Below w.heap.size w w'∧((Dok V∧er=0∧DAns w w' V v)∨(¬ Dok V∧er=2∧v=zeroV))
theorem if_nil (w:World):(binOp .eql 20 Value.nilIface Value.nilIface).run Tryz.prog w=.ok (.bool true) w:=by kernel_rfl
theorem if_not (w:World):(binOp .eql 20 (.iface 29 (.int .i64 2)) Value.nilIface).run Tryz.prog w=.ok (.bool false) w:=by kernel_rfl
theorem if_long (w:World):(binOp .eql 20 (.iface 29 (.int .i64 2)) (.iface 29 (.int .i64 2))).run Tryz.prog w=.ok (.bool true) w:=by kernel_rfl
theorem catch_panicking (p:Addr) (x:Value) (older:List PanicEntry) (w:World) (hc:w.cell? p=some x) (hz:w.frozen? p=false) :
  CallsD Tryz.prog 218 #[.pointer (some p)] (.panicking ({ v:=.iface 29 (.int .i64 2),recovered:=false } :: older)) w fun e u' w'=>
   e=.returned (.tuple #[])∧u'=.panicking ({ v:=.iface 29 (.int .i64 2),recovered:=true } :: older)∧w'=w.setCell p (.int .i64 2):=by
 have h1:=if_not
 have h2:=if_long
 refine callsD_of_wpS Tryz.func218 rfl fun c₀ cs hu=>?_
 apply wpS_seq
 apply wpS_region
 simp [wpOpsS,go_sem,recoverD,hu,Tryz.ntmps218,Exit.thenS]
 refine wpS_of_wp ?_
 go_wp2
 simp [bodyPostS,results,Tryz.results218]
theorem catch_idle (p:Addr) (w:World) :
  CallsD Tryz.prog 218 #[.pointer (some p)] .returning w fun e u' w'=>e=.returned (.tuple #[])∧u'=.returning∧w'=w:=by
 have h1:=if_nil
 refine callsD_of_wpS Tryz.func218 rfl fun c₀ cs hu=>?_
 apply wpS_seq
 apply wpS_region
 simp [wpOpsS,go_sem,recoverD,hu,Tryz.ntmps218,Exit.thenS]
 refine wpS_of_wp ?_
 go_wp2
 cases c₀
 simp_all [bodyPostS,results,Tryz.results218]
theorem told_no (F:Nat) (cap:Array Value) (w:World) (hE:∀ w,(callFunc F cap).run Tryz.prog w=.ok (.enter F cap) w) (hF:∀ W,Below w.heap.size w W->Calls Tryz.prog F cap W fun r W'=>r=.panicked [{ v:=.iface 29 (.int .i64 2),recovered:=false }]∧Below W.heap.size W W') :
  Calls Tryz.prog 163 #[.func (.func F) #[] cap] w fun r w'=>r=.returned (.tuple #[.agg #[.bool false,.slice none 0 0,.int .i64 0],.int .i64 2])∧Below w.heap.size w w':=by
 have hmf:∀ (fn:Fn) (first cap:Array Value) (w:World),(Instr.makeFunc fn first cap).run Tryz.prog w=.ok (.func fn first cap) w:=fun _ _ _ _=>rfl
 go_enter_defers Tryz.func163,Tryz.ntmps163
 go_wp2_with fail
 refine (hF _ (bel_alloc2 _ _ _)).mono ?_
 rintro r W' ⟨rfl,hb⟩
 have q1:=(hb.block (w.heap.size+1) (by rw [size2]; omega)).trans (heap_b2 _ _ _)
 have q0:=(hb.block w.heap.size (by rw [size2]; omega)).trans (heap_a2 _ _ _)
 have f0:=blkF q1 0
 have k0:=blkC q1 0 rfl
 go_wp2_with fail
 refine leaves_cons (f:=218) (args:=#[.pointer (some ⟨w.heap.size+1,0,none⟩)]) (by simp) (by simp [go_sem]) ?_
 refine (catch_panicking ⟨w.heap.size+1,0,none⟩ _ [] _ k0 f0).mono ?_
 rintro e u' w'' ⟨rfl,rfl,rfl⟩
 have c0:=blkC q0 0 rfl
 have c1:=blkC q0 1 rfl
 have c2:=blkC q0 2 rfl
 simp [Leaves,settle,results,Tryz.results163,go_sem,c0,c1,c2,k0]
 exact ((bel_alloc2 _ _ _).trans (hb.mono (bel_alloc2 _ _ _).size)).setCell (Nat.le_succ _) _
theorem dans_res {w W w3:World} {V:Int} {v:Value} (hv:DAns W w3 V v) (hb:Below w.heap.size w W) {g:Nat} (h0:w.heap.size<=g) (h1:g+1<W.heap.size) (a b c x:Value) :
  DAns w ((((w3.setCell ⟨g,0,none⟩ a).setCell ⟨g,1,none⟩ b).setCell ⟨g,2,none⟩ c).setCell ⟨g+1,0,none⟩ x) V v:=by
 obtain ⟨ng,s,m,e,h2,h3,t,d,hO,hN,hV,hB⟩:=hv
 refine ⟨ng,s,m,e,h2,h3,t,d,?_,hN,hV,?_⟩
 ·exact ((((hO.set_below (a:=⟨g,0,none⟩) (by show g<_; omega) a).set_below (a:=⟨g,1,none⟩) (by show g<_; omega) b).set_below (a:=⟨g,2,none⟩) (by show g<_; omega) c).set_below (a:=⟨g+1,0,none⟩) h1 x).lower hb.size
 ·exact ((((hb.trans (hB.mono hb.size)).setCell (p:=⟨g,0,none⟩) h0 a).setCell (p:=⟨g,1,none⟩) h0 b).setCell (p:=⟨g,2,none⟩) h0 c).setCell (p:=⟨g+1,0,none⟩) (Nat.le_succ_of_le h0) x
theorem told_yes (F:Nat) (cap:Array Value) (w:World) (V:Int) (hE:∀ w,(callFunc F cap).run Tryz.prog w=.ok (.enter F cap) w) (hF:∀ W,Below w.heap.size w W->Calls Tryz.prog F cap W fun r W'=>∃ v,r=.returned v∧DAns W W' V v) :
  Calls Tryz.prog 163 #[.func (.func F) #[] cap] w fun r w'=>∃ v,r=.returned (.tuple #[v,.int .i64 0])∧DAns w w' V v:=by
 have hmf:∀ (fn:Fn) (first cap:Array Value) (w:World),(Instr.makeFunc fn first cap).run Tryz.prog w=.ok (.func fn first cap) w:=fun _ _ _ _=>rfl
 go_enter_defers Tryz.func163,Tryz.ntmps163
 go_wp2_with fail
 refine (hF _ (bel_alloc2 _ _ _)).mono ?_
 rintro r W' ⟨v,rfl,hD⟩
 have hb:=hD.below
 obtain ⟨ng,s,m,e,rfl,hy,hA⟩:=id hD
 obtain ⟨so,sn,sc,rfl⟩:=hA.num.shape
 have q1:=(hb.block (w.heap.size+1) (by rw [size2]; omega)).trans (heap_b2 _ _ _)
 have q0:=(hb.block w.heap.size (by rw [size2]; omega)).trans (heap_a2 _ _ _)
 have f0:=blkF q1 0
 have k0:=blkC q1 0 rfl
 have c0:=blkC q0 0 rfl
 have c1:=blkC q0 1 rfl
 have c2:=blkC q0 2 rfl
 have z0:=blkF q0 0
 have z1:=blkF q0 1
 have z2:=blkF q0 2
 go_wp2_with fail
 refine leaves_cons (f:=218) (args:=#[.pointer (some ⟨w.heap.size+1,0,none⟩)]) (by simp) (by simp [go_sem]) ?_
 refine (catch_idle ⟨w.heap.size+1,0,none⟩ _).mono ?_
 rintro e u' w'' ⟨rfl,rfl,rfl⟩
 simp [Leaves,settle,results,Tryz.results163,go_sem,c0,c1,c2,k0]
 exact dans_res (g:=w.heap.size) hD (bel_alloc2 _ _ _) (Nat.le_refl _) (by rw [size2]; omega) _ _ _ _
theorem raise1 (ng odd:Bool) (left:Int) (w:World):Calls Tryz.prog 320 #[.bool ng,.bool odd,.int .i64 left] w fun e w'=>e=.returned (.bool (rUp 0 ng odd left))∧w'=w:=by
 unfold rUp
 rw [if_pos rfl]
 go_enter Tryz.func320,Tryz.ntmps320
 by_cases h3:left=3
 ·subst h3
  go_wp2
  go_ret
  exact ⟨by simp,rfl⟩
 ·by_cases h2:left=2
  ·subst h2
   go_wp2
   go_ret
   exact ⟨by simp,rfl⟩
  ·go_wp2
   go_ret
   exact ⟨by simp [h2,h3],rfl⟩
theorem raise2 (ng odd:Bool) (left:Int) (w:World):Calls Tryz.prog 321 #[.bool ng,.bool odd,.int .i64 left] w fun e w'=>e=.returned (.bool (rUp 1 ng odd left))∧w'=w:=by
 unfold rUp
 rw [if_neg (by decide),if_pos rfl]
 go_enter Tryz.func321,Tryz.ntmps321
 by_cases h0:left=0
 ·subst h0
  go_wp2
  go_ret
  exact ⟨by simp,rfl⟩
 ·go_wp2
  go_ret
  exact ⟨by simp [h0],rfl⟩
theorem raise3 (ng odd:Bool) (left:Int) (w:World):Calls Tryz.prog 322 #[.bool ng,.bool odd,.int .i64 left] w fun e w'=>e=.returned (.bool (rUp 2 ng odd left))∧w'=w:=by
 unfold rUp
 rw [if_neg (by decide),if_neg (by decide),if_pos rfl]
 go_enter Tryz.func322,Tryz.ntmps322
 by_cases h0:left=0
 ·subst h0
  go_wp2
  go_ret
  exact ⟨by simp,rfl⟩
 ·go_wp2
  go_ret
  exact ⟨by simp [h0],rfl⟩
theorem raise4 (ng odd:Bool) (left:Int) (w:World):Calls Tryz.prog 323 #[.bool ng,.bool odd,.int .i64 left] w fun e w'=>e=.returned (.bool (rUp 3 ng odd left))∧w'=w:=by
 unfold rUp
 rw [if_neg (by decide),if_neg (by decide),if_neg (by decide)]
 go_enter Tryz.func323,Tryz.ntmps323
 go_wp2
 go_ret
 exact ⟨rfl,rfl⟩
def wayF (way:Int):Nat:=if way=0 then 320 else if way=1 then 321 else if way=2 then 322 else 323
def wayV (way:Int):Value:=.agg #[.func (.func (wayF way)) #[] #[]]
theorem wayOf_any (way:Int) (w:World):Calls Tryz.prog 299 #[.int .i64 way] w fun e w'=>e=.returned (.tuple #[if 0<=way∧way<=3 then wayV way else .agg #[.nilFunc],.bool (decide (0<=way∧way<=3))])∧Below w.heap.size w w':=by
 have hmf:∀ (fn:Fn) (first cap:Array Value) (w:World),(Instr.makeFunc fn first cap).run Tryz.prog w=.ok (.func fn first cap) w:=fun _ _ _ _=>rfl
 have hst:∀ (p:Addr) (F:Nat) (m:Mode) (w:World),(store p (.func (.func F) #[] #[]) m).run Tryz.prog w=stored Tryz.prog w p (.func (.func F) #[] #[]) m:=fun p F m w=>run_store _ w p _ m rfl
 have hsn:∀ (p:Addr) (m:Mode) (w:World),(store p .nilFunc m).run Tryz.prog w=stored Tryz.prog w p .nilFunc m:=fun p m w=>run_store _ w p _ m rfl
 have hb2:=bel_alloc2 w (.cells #[.nilFunc] 282) (.cells #[.nilFunc,.nilFunc,.nilFunc,.nilFunc] 297)
 have q0:=heap_a2 w (.cells #[.nilFunc] 282) (.cells #[.nilFunc,.nilFunc,.nilFunc,.nilFunc] 297)
 have q1:=heap_b2 w (.cells #[.nilFunc] 282) (.cells #[.nilFunc,.nilFunc,.nilFunc,.nilFunc] 297)
 have x0:=blkC q1 0 rfl
 have x1:=blkC q1 1 rfl
 have x2:=blkC q1 2 rfl
 have x3:=blkC q1 3 rfl
 have z0:=blkF q1 0
 have z1:=blkF q1 1
 have z2:=blkF q1 2
 have z3:=blkF q1 3
 have y0:=blkC q0 0 rfl
 have y1:=blkF q0 0
 by_cases h0:way<0
 ·go_enter Tryz.func299,Tryz.ntmps299
  go_wp2
  refine bodyPost_ret (v:=.tuple #[.agg #[.nilFunc],.bool false]) (by simp [results,Tryz.results299,go_sem]) rfl ⟨?_,?_⟩
  ·rfl
  ·exact bel_alloc2 _ _ _
 by_cases h4:4<=way
 ·go_enter Tryz.func299,Tryz.ntmps299
  go_wp2
  refine bodyPost_ret (v:=.tuple #[.agg #[.nilFunc],.bool false]) (by simp [results,Tryz.results299,go_sem]) rfl ⟨?_,?_⟩
  ·rfl
  ·exact bel_alloc2 _ _ _
 rw [if_pos (by omega),show decide (0<=way∧way<=3)=true from decide_eq_true (by omega)]
 have hc:way=0∨way=1∨way=2∨way=3:=by omega
 rcases hc with rfl | rfl | rfl | rfl
 all_goals
  go_enter Tryz.func299,Tryz.ntmps299
  go_wp2
  refine bodyPost_ret (v:=.tuple #[wayV _,.bool true]) (by simp [results,Tryz.results299,go_sem,wayV,wayF]; first | done | rfl) rfl ⟨rfl,?_⟩
  exact bel_alloc2 _ _ _
end Go.Proofs.YtjjihmnbdeeedaaGreatDoor
