/- Parts of the proof. -/
import Derived.Test.YtcklaogdjpbagaaGreatDoorProg
import Derived.WalkKit
import Derived.Laws.MathBits
import Derived.Lib.TrailingZeros
import Ieee.Arith
import GoSem.Core.Float
import Derived.Lib.BitFns
set_option maxRecDepth 100000
set_option maxHeartbeats 8000000
theorem Go.Proofs.YtcklaogdjpbagaaGreatDoor.aGe {α : Type} {xs : Array α} {i : Nat} {a : α} (h : xs[i]? = some a) : ∃ h : i < xs.size, xs[i] = a := Array.getElem?_eq_some_iff.1 h
set_option linter.unusedVariables false
set_option linter.unusedSimpArgs false
namespace Go.Proofs.YtcklaogdjpbagaaGreatDoor.M
open Go Go.Proofs.Tryz
/-! signed 64-bit masks -/
theorem cJ (x:Int):(BitVec.ofInt 64 x).toNat=(x % 18446744073709551616).toNat:=by
 simp[BitVec.toNat_ofInt]
theorem rf (x y:Int):bits .and .i64 x y=IntKind.i64.wrap (((x % 18446744073709551616).toNat &&& (y % 18446744073709551616).toNat:Nat):Int):=by
 show IntKind.i64.wrap (((BitVec.ofInt 64 x &&& BitVec.ofInt 64 y).toNat:Nat):Int)=_
 rw[BitVec.toNat_and,cJ,cJ]
theorem sQ (x y:Int):bits .or .i64 x y=IntKind.i64.wrap (((x % 18446744073709551616).toNat ||| (y % 18446744073709551616).toNat:Nat):Int):=by
 show IntKind.i64.wrap (((BitVec.ofInt 64 x ||| BitVec.ofInt 64 y).toNat:Nat):Int)=_
 rw[BitVec.toNat_or,cJ,cJ]
theorem nY (x y:Int):bits .andNot .i64 x y=IntKind.i64.wrap (((x % 18446744073709551616).toNat &&& (18446744073709551615-(y % 18446744073709551616).toNat):Nat):Int):=by
 show IntKind.i64.wrap (((BitVec.ofInt 64 x &&& ~~~ BitVec.ofInt 64 y).toNat:Nat):Int)=_
 rw[BitVec.toNat_and,BitVec.toNat_not,cJ,cJ]
theorem a7 (n:Int):IntKind.i64.wrap n=(n+9223372036854775808) % 18446744073709551616-9223372036854775808:=by
 simp only[IntKind.wrap,IntKind.bits,IntKind.signed]
 simp
 split<;>omega
theorem d8 (x:Int) (k:Nat) (hk:k<63):bits .and .i64 x (2^k-1)=x % 2^k:=by
 have hp:(2:Nat)^k<2^63:=Nat.pow_lt_pow_right (by decide) hk
 have hp0:0<(2:Nat)^k:=Nat.two_pow_pos k
 have e2:((2:Int)^k-1)=((2^k-1:Nat):Int):=by
  rw[Int.ofNat_sub (by omega)];simp
 have e3:(((2:Int)^k-1) % 18446744073709551616).toNat=2^k-1:=by
  rw[e2];omega
 rw[rf,e3,Nat.and_two_pow_sub_one_eq_mod]
 have e4:(((x % 18446744073709551616).toNat % 2^k:Nat):Int)=x % 2^k:=by
  rw[Int.natCast_emod,Int.toNat_of_nonneg (Int.emod_nonneg _ (by decide))]
  rw[show((2^k:Nat):Int)=(2:Int)^k by simp]
  apply Int.emod_emod_of_dvd
  exact⟨2^(64-k),by rw[<- Int.pow_add,show k+(64-k)=64 by omega];decide⟩
 rw[e4]
 have h5:0<=x % 2^k:=Int.emod_nonneg _ (by have:(0:Int)<2^k:=Int.pow_pos (by decide);omega)
 have h6:x % 2^k<2^k:=Int.emod_lt_of_pos _ (Int.pow_pos (by decide))
 have h7:((2:Int)^k)<9223372036854775808:=by
  have:((2^k:Nat):Int)<((2^63:Nat):Int):=Int.ofNat_lt.2 hp
  simpa using this
 rw[a7];omega
theorem og (x:Int):bits .and .i64 x 2047=x % 2048:=d8 x 11 (by decide)
theorem pW (x:Int):bits .and .i64 x 4503599627370495=x % 4503599627370496:=d8 x 52 (by decide)
theorem lJ (x:Int) (h0:-9223372036854775808<=x) (h1:x<9223372036854775808):bits .andNot .i64 x (-9223372036854775808)=if x<0 then x+9223372036854775808 else x:=by
 rw[nY,show(18446744073709551615-((-9223372036854775808:Int) % 18446744073709551616).toNat)=2^63-1 from by decide,a7,Nat.and_two_pow_sub_one_eq_mod]
 split<;>omega
/-! the fields of a binary64's pattern -/
def bG (b:Int):Int:=b/4503599627370496 % 2048
def bT (b:Int):Int:=b % 4503599627370496
def aF (b:Int):Int:=if bG b=2047 then (if bT b=0 then 3 else 4) else if bG b=0 then (if bT b=0 then 0 else 1) else 2
def ay (b:Int):Bool:=!decide (bG b=2047)
def dw (b:Int):Bool:=ay b&&decide (b<0)
def bl (b:Int):Int:=if bG b=2047 then 0 else if bG b=0 then bT b else 4503599627370496+bT b
def bs (b:Int):Int:=if bG b=2047 then 0 else if bG b=0 then -1074 else bG b-1075
def AI:Int:=9221120237041090561
def neg (b:Int):Int:=if aF b=4 then 9221120237041090561 else if b<0 then b+9223372036854775808 else b-9223372036854775808
def wv (b:Int):Int:=if aF b=4 then 9221120237041090561 else if b<0 then b+9223372036854775808 else b
def kJ (b:Int):Int:=if aF b=4 then 9221120237041090561 else if aF b=0 then 0 else b
def next (b:Int):Int:=if aF b=4 then 9221120237041090561 else if b=9218868437227405312 then b else if b=-9223372036854775808 then 1 else if b<0 then b-1 else b+1
def ar (b:Int):Prop:=-9223372036854775808<=b∧b<9223372036854775808
theorem ig (b:Int):0<=bG b∧bG b<2048:=by unfold bG;omega
theorem gI (b:Int):0<=bT b∧bT b<4503599627370496:=by unfold bT;omega
theorem uN {b:Int}:aF b=4↔bG b=2047∧bT b≠0:=by
 unfold aF;repeat' split
 all_goals omega
theorem uO {b:Int} (h:¬ aF b=4):bG b≠2047∨bT b=0:=by
 rw[uN] at h;omega
theorem gi {b:Int} (h:ar b):ar (neg b):=by
 unfold ar neg at *;repeat' split
 all_goals omega
theorem Bf {b:Int} (h:ar b) (hc:¬ aF b=4):neg (neg b)=b:=by
 have hc':=uO hc
 have aT:¬ aF (if b<0 then b+9223372036854775808 else b-9223372036854775808)=4:=by
  rw[uN]
  unfold bG bT at *
  split<;>omega
 unfold ar at h
 unfold neg
 simp only[hc,if_false,aT]
 split<;>split<;>omega
def oh (f t most:Int):Int:=if f=most then (if t=0 then 3 else 4) else if 0<f then 2 else if 0<t then 1 else 0
theorem uP (b:Int):oh (bG b) (bT b) 2047=aF b:=by
 have:=ig b;have:=gI b
 unfold oh aF;repeat' split
 all_goals omega
theorem mT {b:Int} (h:aF b=0∨aF b=1):decide (b<0)=dw b∧bT b=bl b∧-1074=bs b∧true=ay b:=by
 unfold aF at h;unfold dw bl bs ay
 by_cases h1:bG b=2047<;>by_cases h2:bT b=0<;>by_cases h3:bG b=0<;>simp[h1,h2,h3] at h ⊢
theorem ri {b:Int} (h:aF b=2):decide (b<0)=dw b∧4503599627370496+bT b=bl b∧bG b-1075=bs b∧true=ay b:=by
 unfold aF at h;unfold dw bl bs ay
 by_cases h1:bG b=2047<;>by_cases h2:bT b=0<;>by_cases h3:bG b=0<;>simp[h1,h2,h3] at h ⊢
theorem sR {b:Int} (h0:¬ aF b=0) (h1:¬ aF b=1) (h2:¬ aF b=2):false=dw b∧0=bl b∧0=bs b∧false=ay b:=by
 unfold aF at h0 h1 h2;unfold dw bl bs ay
 by_cases k1:bG b=2047<;>by_cases k2:bT b=0<;>by_cases k3:bG b=0<;>simp[k1,k2,k3] at h0 h1 h2 ⊢
def wd (b:Int):Nat:=(b % 18446744073709551616).toNat
def P:Nat->Int|0=>1|n+1=>P n*1073741824
def val (d:Nat->Int):Nat->Int|0=>0|n+1=>val d n+d n*P n
def aZ (d:Nat->Int) (n:Nat):Prop:=∀ i,i<n->0<=d i∧d i<1073741824
def jZ (d:Nat->Int) (n:Nat):Prop:=n=0∨d (n-1)≠0
def bK (d:Nat->Int) (n:Nat):Prop:=aZ d n∧jZ d n
theorem d9 (n:Nat):P (n+1)=P n*1073741824:=rfl
theorem bH (n:Nat):0<P n:=by
 induction n with
 | zero=>decide
 | succ n ih=>rw[d9];omega
theorem jm (n m:Nat):P (n+m)=P n*P m:=by
 induction m with
 | zero=>show P n=P n*1;omega
 | succ m ih=>show P (n+m)*1073741824=P n*(P m*1073741824);rw[ih,Int.mul_assoc]
theorem fF {n m:Nat} (h:n<=m):P n<=P m:=by
 obtain⟨k,rfl⟩:=Nat.exists_eq_add_of_le h
 rw[jm]
 have:=bH n
 have:=bH k
 have:P n*1<=P n*P k:=Int.mul_le_mul_of_nonneg_left (by omega) (by omega)
 omega
theorem aJ (d:Nat->Int) (n:Nat):val d (n+1)=val d n+d n*P n:=rfl
theorem cV {d e:Nat->Int} {n:Nat} (h:∀ i,i<n->d i=e i):val d n=val e n:=by
 induction n with
 | zero=>rfl
 | succ n ih=>rw[aJ,aJ,ih (fun i hi=>h i (by omega)),h n (by omega)]
theorem aZ.le {d:Nat->Int} {n m:Nat} (h:aZ d n) (hm:m<=n):aZ d m:=fun i hi=>h i (by omega)
theorem aZ.congr {d e:Nat->Int} {n:Nat} (h:aZ d n) (he:∀ i,i<n->d i=e i):aZ e n:=fun i hi=>by rw[<- he i hi];exact h i hi
theorem aP {d:Nat->Int} {n:Nat} (h:aZ d n):0<=val d n:=by
 induction n with
 | zero=>exact Int.le_refl _
 | succ n ih=>
  rw[aJ]
  have:=ih (h.le (by omega))
  have:=Int.mul_nonneg (h n (by omega)).1 (Int.le_of_lt (bH n))
  omega
theorem bO {d:Nat->Int} {n:Nat} (h:aZ d n):val d n<P n:=by
 induction n with
 | zero=>show(0:Int)<1;decide
 | succ n ih=>
  rw[aJ,d9]
  have a:=ih (h.le (by omega))
  have b:d n*P n<=1073741823*P n:=Int.mul_le_mul_of_nonneg_right (by have:=(h n (by omega)).2;omega) (Int.le_of_lt (bH n))
  omega
theorem dF {d:Nat->Int} {n:Nat} (h:aZ d n) (hn:0<n) (ht:jZ d n):P (n-1)<=val d n:=by
 obtain⟨m,rfl⟩:∃ m,n=m+1:=⟨n-1,by omega⟩
 rw[aJ,Nat.add_sub_cancel]
 have a:=aP (h.le (Nat.le_succ m))
 have b:1<=d m:=by
  rcases ht with h0|h0
  ·omega
  ·rw[Nat.add_sub_cancel] at h0;have:=(h m (by omega)).1;omega
 have c:1*P m<=d m*P m:=Int.mul_le_mul_of_nonneg_right b (Int.le_of_lt (bH m))
 omega
theorem eJ {d:Nat->Int} {n:Nat} (h:bK d n) (hn:0<n):0<val d n:=by
 have:=dF h.1 hn h.2
 have:=bH (n-1)
 omega
theorem jn {d:Nat->Int} {n:Nat} (h:bK d n):val d n=0↔n=0:=by
 constructor
 ·intro h0
  by_cases hn:0<n
  ·have:=eJ h hn;omega
  ·omega
 ·rintro rfl;rfl
theorem qv {d e:Nat->Int} {n:Nat} (h:aZ d n) (k:aZ e n) (hv:val d n=val e n):∀ i,i<n->d i=e i:=by
 induction n with
 | zero=>intro i hi;omega
 | succ n ih=>
  rw[aJ,aJ] at hv
  have a:=bO (h.le (Nat.le_succ n))
  have b:=bO (k.le (Nat.le_succ n))
  have a0:=aP (h.le (Nat.le_succ n))
  have b0:=aP (k.le (Nat.le_succ n))
  have hp:=bH n
  have e1:d n=e n:=by
   have x1:(val d n+d n*P n)/P n=d n:=by
    rw[Int.add_mul_ediv_right _ _ (by omega),Int.ediv_eq_zero_of_lt a0 a];omega
   have x2:(val e n+e n*P n)/P n=e n:=by
    rw[Int.add_mul_ediv_right _ _ (by omega),Int.ediv_eq_zero_of_lt b0 b];omega
   rw[<- x1,<- x2,hv]
  rw[e1] at hv
  intro i hi
  by_cases hi':i=n
  ·rw[hi'];exact e1
  ·exact ih (h.le (Nat.le_succ n)) (k.le (Nat.le_succ n)) (by omega) i (by omega)
theorem j5 {d e:Nat->Int} {n m:Nat} (h:aZ d n) (k:bK e m) (hnm:n<m):val d n<val e m:=by
 have a:=bO h
 have b:=dF k.1 (by omega) k.2
 have c:=fF (show n<=m-1 by omega)
 omega
theorem wZ {d e:Nat->Int} {n m:Nat} (h:bK d n) (k:bK e m) (hv:val d n=val e m):n=m:=by
 by_cases h1:n<m
 ·have:=j5 h.1 k h1;omega
 by_cases h2:m<n
 ·have:=j5 k.1 h h2;omega
 omega
theorem rj {d e:Nat->Int} {n m:Nat} (h:bK d n) (k:aZ e m) (hv:val d n<=val e m):n<=m:=by
 by_cases h1:n<=m
 ·exact h1
 ·have:=j5 k h (by omega);omega
theorem dz (d:Nat->Int) (n m:Nat):val d (n+m)=val d n+P n*val (fun i=>d (n+i)) m:=by
 induction m with
 | zero=>show val d n=val d n+P n*0;omega
 | succ m ih=>
  show val d (n+m)+d (n+m)*P (n+m)=val d n+P n*(val (fun i=>d (n+i)) m+d (n+m)*P m)
  rw[ih,jm,Int.mul_add,Int.add_assoc]
  congr 2
  rw[<- Int.mul_assoc,Int.mul_comm (d (n+m)) (P n),Int.mul_assoc]
theorem dC {d:Nat->Int} {n m:Nat} (hm:m<=n) (h:∀ i,m<=i->i<n->d i=0):val d n=val d m:=by
 induction n with
 | zero=>rw[show m=0 by omega]
 | succ n ih=>
  by_cases he:m=n+1
  ·rw[he]
  ·rw[aJ,h n (by omega) (by omega),ih (by omega) (fun i a b=>h i a (by omega))];omega
def bP (d:Nat->Int) (i:Nat) (x:Int):Nat->Int:=fun j=>if j=i then x else d j
theorem bh (d:Nat->Int) (i:Nat) (x:Int):bP d i x i=x:=by simp[bP]
theorem aU (d:Nat->Int) {i j:Nat} (x:Int) (h:j≠i):bP d i x j=d j:=by simp[bP,h]
theorem fT (d:Nat->Int) {i n:Nat} (x:Int) (h:n<=i):val (bP d i x) n=val d n:=cV fun j hj=>aU d x (by omega)
theorem mA (d:Nat->Int) {i n:Nat} (x:Int) (h:i<n):val (bP d i x) n=val d n+(x-d i)*P i:=by
 induction n with
 | zero=>omega
 | succ n ih=>
  rw[aJ,aJ]
  by_cases hi:i=n
  ·subst hi;rw[bh,fT d x (Nat.le_refl _),Int.sub_mul];omega
  ·rw[aU d x (by omega),ih (by omega)];omega
theorem aZ.upd {d:Nat->Int} {n:Nat} (h:aZ d n) (i:Nat) {x:Int} (hx:0<=x∧x<1073741824):aZ (bP d i x) n:=fun j hj=>by
 by_cases hj':j=i
 ·rw[hj',bh];exact hx
 ·rw[aU d x hj'];exact h j hj
def bm (d:Nat->Int) (n:Nat):Nat->Int:=fun i=>if i<n then d i else 0
theorem cW (d:Nat->Int) {n i:Nat} (h:i<n):bm d n i=d i:=by simp[bm,h]
theorem eS (d:Nat->Int) {n i:Nat} (h:n<=i):bm d n i=0:=by simp[bm];omega
theorem qw {d:Nat->Int} {n:Nat} (h:aZ d n) (m:Nat):aZ (bm d n) m:=fun i hi=>by
 by_cases hi':i<n
 ·rw[cW d hi'];exact h i hi'
 ·rw[eS d (by omega)];omega
theorem hH (d:Nat->Int) {n m:Nat} (h:n<=m):val (bm d n) m=val d n:=by
 rw[dC h (fun i a _=>eS d a)]
 exact cV fun i hi=>cW d hi
theorem lK (V c x p:Int):V+(c+x) % 1073741824*p+(c+x)/1073741824*(p*1073741824)=V+c*p+x*p:=by
 have h:=Int.emod_add_mul_ediv (c+x) 1073741824
 have:(c+x)*p=((c+x) % 1073741824+1073741824*((c+x)/1073741824))*p:=by rw[h]
 rw[Int.add_mul,Int.add_mul] at this
 have e:1073741824*((c+x)/1073741824)*p=(c+x)/1073741824*(p*1073741824):=by
  rw[Int.mul_comm 1073741824,Int.mul_assoc,Int.mul_comm 1073741824 p]
 omega
theorem j6 (x:Int):bits .and .i64 x 1073741823=x % 1073741824:=d8 x 30 (by decide)
def cI (V:Int) (l:Nat):Prop:=∃ m:Int,V=(2*m+1)*2^l
theorem aB (k:Nat):(0:Int)<2^k:=Int.pow_pos (by decide)
theorem cP (n:Nat):P n=2^(30*n):=by
 induction n with
 | zero=>rfl
 | succ n ih=>rw[d9,ih,show 30*(n+1)=30*n+30 by omega,Int.pow_add];rfl
theorem j7 (k:Nat):(2:Int)^k=P (k/30)*2^(k % 30):=by
 rw[cP,<- Int.pow_add];congr 1;omega
theorem cF {j k:Nat} (h:j<=k):(2:Int)^j<=2^k:=by
 obtain⟨m,rfl⟩:=Nat.exists_eq_add_of_le h
 rw[Int.pow_add]
 have h1:=aB j
 have h2:=aB m
 have h3:(2:Int)^j*1<=2^j*2^m:=Int.mul_le_mul_of_nonneg_left (by omega) (by omega)
 omega
theorem sS (x m:Int) (k:Nat) (hx:0<=x) (hxk:x<2^k) (hm:0<=m) (hs:x+m*2^k<9223372036854775808):bits .or .i64 x (m*2^k)=x+m*2^k:=by
 have hp:=aB k
 have hy:0<=m*2^k:=Int.mul_nonneg hm (by omega)
 obtain⟨m',rfl⟩:=Int.eq_ofNat_of_zero_le hm
 obtain⟨x',rfl⟩:=Int.eq_ofNat_of_zero_le hx
 have e2:((m':Int)*2^k)=((m'*2^k:Nat):Int):=by simp
 rw[e2] at hs hy ⊢
 have hx':x'<2^k:=by
  have:((x':Nat):Int)<((2^k:Nat):Int):=by simpa using hxk
  exact Int.ofNat_lt.1 this
 have e3:x' ||| m'*2^k=m'*2^k+x':=by rw[Nat.or_comm,Nat.mul_comm m',Nat.two_pow_add_eq_or_of_lt hx' m']
 generalize m'*2^k=M at *
 rw[sQ,show(((x':Int)) % 18446744073709551616).toNat=x' by omega,show((M:Int) % 18446744073709551616).toNat=M by omega,e3,a7]
 omega
def low (s:Nat->Int) (u v:Int):Nat->Int:=fun i=>s i/u+s (i+1) % u*v
theorem qx {s:Nat->Int} {u v:Int} {n:Nat} (hu:0<u) (huv:u*v=1073741824) (h:aZ s (n+1)):aZ (low s u v) n:=by
 intro i hi
 have a:=h i (by omega)
 have hv:0<v:=by
  rcases Int.lt_or_le 0 v with h|h
  ·exact h
  ·have:=Int.mul_nonneg (show 0<=u by omega) (show 0 <= -v by omega);rw[Int.mul_neg] at this;omega
 have b0:0<=s (i+1) % u:=Int.emod_nonneg _ (by omega)
 have b1:s (i+1) % u<u:=Int.emod_lt_of_pos _ hu
 have c0:0<=s i/u:=Int.ediv_nonneg a.1 (by omega)
 have c1:s i/u<v:=(Int.ediv_lt_iff_lt_mul hu).2 (by rw[Int.mul_comm,huv];exact a.2)
 have d1:s (i+1) % u*v<=(u-1)*v:=Int.mul_le_mul_of_nonneg_right (by omega) (by omega)
 have d0:0<=s (i+1) % u*v:=Int.mul_nonneg b0 (by omega)
 rw[Int.sub_mul,huv] at d1
 unfold low
 omega
theorem w8 (s:Nat->Int) {u v:Int} (huv:u*v=1073741824) (n:Nat):val (low s u v) n*u=val s n-s 0 % u+s n % u*P n:=by
 induction n with
 | zero=>show(0:Int)*u=0-s 0 % u+s 0 % u*1;omega
 | succ n ih=>
  rw[aJ,aJ,d9]
  have e:s n/u*u=s n-s n % u:=by have:=Int.emod_add_ediv_mul (s n) u;omega
  unfold low at ih ⊢
  have e2:(val (fun i=>s i/u+s (i+1) % u*v) n+(s n/u+s (n+1) % u*v)*P n)*u=val (fun i=>s i/u+s (i+1) % u*v) n*u+(s n/u*u)*P n+s (n+1) % u*(u*v)*P n:=by grind
  rw[e2,ih,e,huv];grind
theorem sT {s:Nat->Int} {u v:Int} (hu:0<u) (huv:u*v=1073741824) {n:Nat} (h:s n=0):val (low s u v) n=val s n/u:=by
 have h1:=w8 s huv n
 rw[h,Int.zero_emod,Int.zero_mul,Int.add_zero] at h1
 have b0:0<=s 0 % u:=Int.emod_nonneg _ (by omega)
 have b1:s 0 % u<u:=Int.emod_lt_of_pos _ hu
 have:val s n=s 0 % u+val (low s u v) n*u:=by omega
 rw[this,Int.add_mul_ediv_right _ _ (by omega),Int.ediv_eq_zero_of_lt b0 b1];omega
theorem lk (d:Nat->Int) {w n:Nat} (h:w<=n) (hd:aZ d n):val (fun i=>d (w+i)) (n-w)=val d n/P w:=by
 have e:=dz d w (n-w)
 rw[show w+(n-w)=n by omega] at e
 rw[e,Int.add_mul_ediv_left _ _ (by have:=bH w;omega),Int.ediv_eq_zero_of_lt (aP (hd.le h)) (bO (hd.le h))];omega
theorem lL (d:Nat->Int) (w n:Nat) (h:∀ i,i<w->d i=0):val d (w+n)=P w*val (fun i=>d (w+i)) n:=by
 rw[dz,dC (Nat.zero_le w) (fun i _ b=>h i b)];show 0+_=_;omega
def LL:Nat:=4194304
def pw (e:Int):Int:=2^(e+4194304).toNat
def sg (b:Bool) (x:Int):Int:=if b then -x else x
theorem bX (e:Int):0<pw e:=aB _
theorem ec {e:Int} (h:-4194304<=e) (l:Nat):pw (e+l)=pw e*2^l:=by
 unfold pw
 rw[show(e+l+4194304).toNat=(e+4194304).toNat+l by omega,Int.pow_add]
theorem ii {e low:Int} (h:-4194304<=low) (h1:low<=e):pw e=2^(e-low).toNat*pw low:=by
 have:=ec h (e-low).toNat
 rw[show low+((e-low).toNat:Int)=e by omega] at this
 rw[this,Int.mul_comm]
theorem j8 {a b:Int} (ha:-2097152<=a) (hb:-2097152<=b):pw a*pw b=pw (a+b)*2^4194304:=by
 unfold pw
 rw[<- Int.pow_add,<- Int.pow_add,show(a+4194304).toNat+(b+4194304).toNat=(a+b+4194304).toNat+4194304 by omega]
theorem sW (a b:Bool) (x y:Int):sg a x*sg b y=sg (a != b) (x*y):=by
 cases a<;>cases b<;>simp[sg,Int.neg_mul,Int.mul_neg]
theorem gJ (b:Bool) (x:Int):sg b x=(if b then -1 else 1)*x:=by cases b<;>simp[sg]
theorem oi (b:Bool) (x:Int):sg (!b) x=-sg b x:=by cases b<;>simp[sg]
theorem dG (b:Bool):sg b 0=0:=by cases b<;>rfl
theorem gX {b:Bool} {x:Int} (h:sg b x=0):x=0:=by cases b<;>simp[sg] at h<;>exact h
structure Dy (V:Int) (ng:Bool) (m e:Int):Prop where
 val:V=sg ng m*pw e
 low:-4194304<=e
 form:(m=0∧ng=false∧e=0)∨(0<m∧m % 2=1)
def cK (V:Int):Prop:=∃ ng m e,Dy V ng m e∧m<P 2000∧-1048576<=e∧e<=1048576
theorem Dy.zero:Dy 0 false 0 0:=⟨by simp[sg],by decide,.inl ⟨rfl,rfl,rfl⟩⟩
theorem jq:cK 0:=⟨_,_,_,Dy.zero,bH _,by decide,by decide⟩
theorem Dy.eq_zero {V:Int} {ng:Bool} {m e:Int} (h:Dy V ng m e):V=0↔m=0:=by
 constructor
 ·intro h0
  have:=h.val
  rw[h0] at this
  rcases Int.mul_eq_zero.1 this.symm with h1|h1
  ·exact gX h1
  ·have:=bX e;omega
 ·intro h0
  rw[h.val,h0,dG,Int.zero_mul]
theorem Dy.nonneg {V:Int} {ng:Bool} {m e:Int} (h:Dy V ng m e):0<=m:=by rcases h.form with h|h<;>omega
theorem Dy.neg_iff {V:Int} {ng:Bool} {m e:Int} (h:Dy V ng m e):ng=true↔V<0:=by
 have hp:=bX e
 rcases h.form with⟨h1,h2,h3⟩|⟨h1,_⟩
 ·have:=h.eq_zero.2 h1;simp[h2];omega
 ·have hm:0<m*pw e:=Int.mul_pos h1 hp
  have:=h.val
  cases ng
  ·simp[sg] at this;simp;omega
  ·simp[sg,Int.neg_mul] at this;simp;omega
theorem qy {m m':Int} {a b:Nat} (h:m % 2=1) (h':m' % 2=1) (e:m*2^a=m'*2^b):¬ a<b:=by
 intro hlt
 obtain⟨d,rfl⟩:∃ d,b=a+1+d:=⟨b-a-1,by omega⟩
 rw[Int.pow_add,Int.pow_add] at e
 have e1:m*2^a=(m'*(2^d*2))*2^a:=by rw[e];grind
 have e2:=Int.eq_of_mul_eq_mul_right (Int.ne_of_gt (aB a)) e1
 rw[show m'*(2^d*2)=2*(m'*2^d) by grind] at e2
 omega
theorem Dy.unique {V:Int} {ng ng':Bool} {m m' e e':Int} (h:Dy V ng m e) (k:Dy V ng' m' e'):ng=ng'∧m=m'∧e=e':=by
 have hn:ng=ng':=by
  have a:=h.neg_iff
  have b:=k.neg_iff
  cases ng<;>cases ng'<;>simp_all<;>omega
 subst hn
 rcases h.form with⟨h1,h2,h3⟩|⟨h1,h2⟩
 ·have h0:=k.eq_zero.1 (h.eq_zero.2 h1)
  rcases k.form with⟨k1,k2,k3⟩|⟨k1,k2⟩
  ·exact⟨rfl,by omega,by omega⟩
  ·omega
 ·rcases k.form with⟨k1,k2,k3⟩|⟨k1,k2⟩
  ·have:=h.eq_zero.1 (k.eq_zero.2 k1);omega
  ·have e1:m*pw e=m'*pw e':=by
    have:=h.val.symm.trans k.val
    cases ng
    ·simpa [sg] using this
    ·simpa [sg,Int.neg_mul] using this
   have a1:=qy h2 k2 e1
   have a2:=qy k2 h2 e1.symm
   have l1:=h.low
   have l2:=k.low
   obtain rfl:e=e':=by omega
   exact⟨rfl,Int.eq_of_mul_eq_mul_right (Int.ne_of_gt (bX _)) e1,rfl⟩
theorem Dy.ok {V:Int} {ng:Bool} {m e:Int} (h:Dy V ng m e):cK V↔m<P 2000∧-1048576<=e∧e<=1048576:=by
 constructor
 ·rintro⟨ng',m',e',k,h3⟩
  obtain⟨_,rfl,rfl⟩:=h.unique k
  exact h3
 ·exact fun h3=>⟨_,_,_,h,h3⟩
theorem Dy.neg {V:Int} {ng:Bool} {m e:Int} (h:Dy V ng m e) (h0:0<m):Dy (-V) (!ng) m e :=
 ⟨by rw[oi,Int.neg_mul,<- h.val],h.low,by rcases h.form with⟨h1,_⟩|h1;(· omega);(· exact .inr h1)⟩
theorem sY {V:Int} {ng:Bool} {m e:Int} (h:Dy V ng m e):m*pw e=V.natAbs:=by
 have:=h.val
 have h0:=h.nonneg
 have:0<=m*pw e:=Int.mul_nonneg h0 (Int.le_of_lt (bX _))
 cases ng<;>simp[sg,Int.neg_mul] at *<;>omega
theorem Dy.abs {V:Int} {ng:Bool} {m e:Int} (h:Dy V ng m e):Dy V.natAbs false m e :=
 ⟨by rw[<- sY h];simp[sg],h.low,by rcases h.form with⟨h1,_,h3⟩|h1;(· exact .inl ⟨h1,rfl,h3⟩);(· exact .inr h1)⟩
theorem el {M:Int} {l:Nat} (h:cI M l) (h0:0<M):0<M/2^l∧(M/2^l) % 2=1∧M/2^l*2^l=M:=by
 obtain⟨k,hk⟩:=h
 have hp:=aB l
 have e:M/2^l=2*k+1:=by rw[hk];exact Int.mul_ediv_cancel _ (by omega)
 rw[e]
 refine⟨?_,by omega,hk.symm⟩
 by_cases h1:0<2*k+1
 ·exact h1
 ·have:(2*k+1)*2^l<=0:=Int.mul_nonpos_of_nonpos_of_nonneg (by omega) (by omega)
  omega
theorem Dy.of {M e:Int} {l:Nat} (ng:Bool) (h:cI M l) (h0:0<M) (he:-4194304<=e):Dy (sg ng M*pw e) ng (M/2^l) (e+l):=by
 obtain⟨a,b,c⟩:=el h h0
 refine⟨?_,by omega,.inr ⟨a,b⟩⟩
 rw[ec he,gJ,gJ]
 rw[show(if ng=true then (-1:Int) else 1)*(M/2^l)*(pw e*2^l)=(if ng=true then (-1:Int) else 1)*(M/2^l*2^l)*pw e by grind,c]
theorem Dy.sum {V V':Int} {low s s':Int} (h:V=s*pw low) (h':V'=s'*pw low):V+V'=(s+s')*pw low:=by rw[h,h',Int.add_mul]
theorem Dy.at {V:Int} {ng:Bool} {m e low:Int} (h:Dy V ng m e) (hl:-4194304<=low) (h1:low<=e):V=sg ng (m*2^(e-low).toNat)*pw low:=by
 rw[h.val,ii hl h1,gJ,gJ];grind
theorem j9 {x y:Int} (h:x*2^4194304=y*2^4194304):x=y:=Int.eq_of_mul_eq_mul_right (Int.ne_of_gt (aB _)) h
end Go.Proofs.YtcklaogdjpbagaaGreatDoor.M
namespace Go.Proofs.YtcklaogdjpbagaaGreatDoor.M
open Go Go.Proofs.Tryz Ieee
def V (f:Format) (r:Nat):Nat:=if r<f.binade then r else (f.binade+r % f.binade)*2^(r/f.binade-1)
theorem fc (f:Format):0<f.binade:=Nat.two_pow_pos _
theorem sZ (f:Format) (r:Nat):V f r<V f (r+1):=by
 have hB:=fc f
 unfold V
 generalize hBd:f.binade=B at *
 clear hBd
 by_cases h1:r+1<B
 ·rw[if_pos (by omega),if_pos h1];omega
 ·rw[if_neg h1]
  by_cases h2:r<B
  ·have:r+1=B:=by omega
   rw[if_pos h2,this,Nat.mod_self,Nat.div_self hB];simp;omega
  ·rw[if_neg h2]
   have hq:1<=r/B:=(Nat.one_le_div_iff hB).2 (by omega)
   have hd:=Nat.div_add_mod r B
   have hm:=Nat.mod_lt r hB
   have hp:0<2^(r/B-1):=Nat.two_pow_pos _
   by_cases h3:r % B+1<B
   ·have e1:(r+1) % B=r % B+1:=by
     rw[Nat.add_mod,Nat.mod_eq_of_lt (show 1<B by omega)];exact Nat.mod_eq_of_lt h3
    have e2:(r+1)/B=r/B:=by
     have:=Nat.div_add_mod (r+1) B
     rw[e1] at this
     have h4:B*((r+1)/B)=B*(r/B):=by omega
     exact Nat.eq_of_mul_eq_mul_left hB h4
    rw[e1,e2]
    exact Nat.mul_lt_mul_of_pos_right (by omega) hp
   ·have h4:r % B+1=B:=by omega
    have e0:r+1=B*(r/B+1):=by rw[Nat.mul_add,Nat.mul_one];omega
    have e1:(r+1) % B=0:=by rw[e0];exact Nat.mul_mod_right _ _
    have e2:(r+1)/B=r/B+1:=by rw[e0];exact Nat.mul_div_cancel_left _ hB
    rw[e1,e2]
    have e3:2^(r/B+1-1)=2*2^(r/B-1):=by
     rw[show r/B+1-1=(r/B-1)+1 by omega,Nat.pow_succ,Nat.mul_comm]
    rw[e3,Nat.add_zero,<- Nat.mul_assoc]
    exact Nat.mul_lt_mul_of_pos_right (by omega) hp
theorem gO (f:Format) {r s:Nat} (h:r<s):V f r<V f s:=by
 induction s with
 | zero=>omega
 | succ s ih=>
  rcases Nat.lt_or_ge r s with h1|h1
  ·exact Nat.lt_trans (ih h1) (sZ f s)
  ·have:r=s:=by omega
   subst this
   exact sZ f r
theorem jr (f:Format) (r s:Nat):V f r<V f s↔r<s:=by
 constructor
 ·intro h
  rcases Nat.lt_trichotomy r s with h1|h1|h1
  ·exact h1
  ·subst h1;omega
  ·have:=gO f h1;omega
 ·exact gO f
theorem ka (f:Format):V f 0=0:=by unfold V;rw[if_pos (fc f)]
theorem fy (f:Format) (x:Nat) (h:x % f.signWeight<f.infRung) :
  ∃ m u:Nat,f.read x=.number (x/f.signWeight % 2 == 1) m (f.leastPlace+u)∧m*2^u=V f (x % f.signWeight):=by
 unfold Format.read V
 dsimp only
 by_cases h1:x % f.signWeight<f.binade
 ·rw[if_pos h1,if_pos h1]
  exact⟨x % f.signWeight,0,by simp,by simp⟩
 ·rw[if_neg h1,if_pos h,if_neg h1]
  exact⟨_,_,rfl,rfl⟩
theorem js (f:Format) (hI:f.binade<=f.infRung) (x:Nat) (h:x % f.signWeight=f.infRung):f.read x=.infinity (x/f.signWeight % 2 == 1):=by
 unfold Format.read
 dsimp only
 rw[h,if_neg (by omega),if_neg (by omega),if_pos rfl]
theorem oj (f:Format) (hI:f.binade<=f.infRung) (x:Nat) (h:f.infRung<x % f.signWeight):∃ s t,f.read x=.nan s t:=by
 unfold Format.read
 dsimp only
 rw[if_neg (by omega),if_neg (by omega),if_neg (by omega)]
 exact⟨_,_,rfl⟩
theorem s7 (f:Format) (hI:f.binade<=f.infRung) (x y:Nat) (h:f.infRung<x % f.signWeight∨f.infRung<y % f.signWeight):f.order x y=none:=by
 unfold Format.order
 rcases h with h|h
 ·obtain⟨s,t,e⟩:=oj f hI x h
  rw[e];rfl
 ·obtain⟨s,t,e⟩:=oj f hI y h
  rw[e];cases f.read x<;>rfl
theorem nZ (x y k:Int) (hk:0<k):compare (x*k) (y*k)=compare x y:=by
 simp only[compare,compareOfLessAndEq]
 have h1:x*k<y*k↔x<y:=⟨fun h=>Int.lt_of_mul_lt_mul_right h (Int.le_of_lt hk),fun h=>Int.mul_lt_mul_of_pos_right h hk⟩
 have h2:x*k=y*k↔x=y:=⟨fun h=>Int.eq_of_mul_eq_mul_right (by omega) h,fun h=>by rw[h]⟩
 simp only[h1,h2]
theorem kb (s:Bool) (m u k:Nat):signed s m u*((2^k:Nat):Int)=signed s m (u+k):=by
 unfold signed
 have e:((m <<< u:Nat):Int)*((2^k:Nat):Int)=((m <<< (u+k):Nat):Int):=by
  rw[Nat.shiftLeft_eq,Nat.shiftLeft_eq,Nat.pow_add,<- Nat.mul_assoc]
  exact(Int.natCast_mul _ _).symm
 split
 ·rw[Int.neg_mul,e]
 ·exact e
def iP (neg:Bool) (r:Nat):Int:=if neg then -(r:Int) else r
theorem ol (s t:Bool) (m n:Nat) (l:Int) (u v:Nat) :
  (Datum.number s m (l+u)).order (Datum.number t n (l+v))=some (compare (signed s m u) (signed t n v)):=by
 unfold Datum.order
 dsimp only
 have hmin:min (l+(u:Int)) (l+(v:Int))=l+((min u v:Nat):Int):=by omega
 have a:(l+(u:Int)-(l+((min u v:Nat):Int))).toNat=u-min u v:=by omega
 have b:(l+(v:Int)-(l+((min u v:Nat):Int))).toNat=v-min u v:=by omega
 rw[hmin,a,b,<- nZ _ _ ((2^min u v:Nat):Int) (by exact_mod_cast Nat.two_pow_pos _),kb,kb,
  show u-min u v+min u v=u by omega,show v-min u v+min u v=v by omega]
theorem ll (s:Bool) (m u:Nat):signed s m u=if s then -((m*2^u:Nat):Int) else ((m*2^u:Nat):Int):=by
 unfold signed;rw[Nat.shiftLeft_eq]
theorem pZ (a b c d:Int) (h1:a<b↔c<d) (h2:b<a↔d<c):compare a b=compare c d:=by
 simp only[compare,compareOfLessAndEq]
 by_cases h:a<b
 ·rw[if_pos h,if_pos (h1.1 h)]
 ·rw[if_neg h,if_neg (fun k=>h (h1.2 k))]
  by_cases k:b<a
  ·rw[if_neg (by omega),if_neg (by have:=h2.1 k;omega)]
  ·rw[if_pos (by omega),if_pos (by have:=fun z=>k (h2.2 z);have:=fun z=>h (h1.2 z);omega)]
theorem om (f:Format) (x y:Nat) (hx:x % f.signWeight<f.infRung) (hy:y % f.signWeight<f.infRung) :
  f.order x y=some (compare (iP (x/f.signWeight % 2 == 1) (x % f.signWeight)) (iP (y/f.signWeight % 2 == 1) (y % f.signWeight))):=by
 obtain⟨m,u,e1,k1⟩:=fy f x hx
 obtain⟨n,v,e2,k2⟩:=fy f y hy
 unfold Format.order
 rw[e1,e2,ol,ll,ll,k1,k2]
 congr 1
 generalize x % f.signWeight=r
 generalize y % f.signWeight=q
 have a:=jr f r q
 have b:=jr f q r
 have a0:=jr f 0 r
 have b0:=jr f 0 q
 rw[ka] at a0 b0
 unfold iP
 cases (x/f.signWeight % 2 == 1)<;>cases (y/f.signWeight % 2 == 1)<;>simp only[if_true,if_false,Bool.false_eq_true]<;>apply pZ<;>omega
theorem dP {a b:Int} (h:a<b):compare a b=.lt:=by simp only[compare,compareOfLessAndEq];rw[if_pos h]
theorem dR {a b:Int} (h:b<a):compare a b=.gt:=by simp only[compare,compareOfLessAndEq];rw[if_neg (by omega),if_neg (by omega)]
theorem fU {a b:Int} (h:a=b):compare a b=.eq:=by simp only[compare,compareOfLessAndEq];rw[if_neg (by omega),if_pos h]
theorem s8 (f:Format) (hI:f.binade<=f.infRung) (x y:Nat) (hx:x % f.signWeight<=f.infRung) (hy:y % f.signWeight<=f.infRung) :
  f.order x y=some (compare (iP (x/f.signWeight % 2 == 1) (x % f.signWeight)) (iP (y/f.signWeight % 2 == 1) (y % f.signWeight))):=by
 have hB:=fc f
 rcases Nat.lt_or_ge (x % f.signWeight) f.infRung with h1|h1
 ·rcases Nat.lt_or_ge (y % f.signWeight) f.infRung with h2|h2
  ·exact om f x y h1 h2
  ·have e2:=js f hI y (by omega)
   obtain⟨m,u,e1,_⟩:=fy f x h1
   have h2':y % f.signWeight=f.infRung:=by omega
   unfold Format.order iP
   rw[e1,e2,h2']
   cases (x/f.signWeight % 2 == 1)<;>cases (y/f.signWeight % 2 == 1)<;>simp only[if_true,if_false,Bool.false_eq_true,Datum.order]
   ·rw[dP (by omega)]
   ·rw[dR (by omega)]
   ·rw[dP (by omega)]
   ·rw[dR (by omega)]
 ·have e1:=js f hI x (by omega)
  have h1':x % f.signWeight=f.infRung:=by omega
  rcases Nat.lt_or_ge (y % f.signWeight) f.infRung with h2|h2
  ·obtain⟨n,v,e2,_⟩:=fy f y h2
   unfold Format.order iP
   rw[e1,e2,h1']
   cases (x/f.signWeight % 2 == 1)<;>cases (y/f.signWeight % 2 == 1)<;>simp only[if_true,if_false,Bool.false_eq_true,Datum.order]
   ·rw[dR (by omega)]
   ·rw[dR (by omega)]
   ·rw[dP (by omega)]
   ·rw[dP (by omega)]
  ·have e2:=js f hI y (by omega)
   have h2':y % f.signWeight=f.infRung:=by omega
   unfold Format.order iP
   rw[e1,e2,h1',h2']
   cases (x/f.signWeight % 2 == 1)<;>cases (y/f.signWeight % 2 == 1)<;>simp only[if_true,if_false,Bool.false_eq_true,Datum.order]
   ·rw[fU rfl];rfl
   ·rw[dR (by omega)];rfl
   ·rw[dP (by omega)];rfl
   ·rw[fU rfl];rfl
def aT (b:Int):Int:=if b<0 then -(b+9223372036854775808) else b
theorem fe:Ieee.double.signWeight=9223372036854775808:=by decide
theorem jt:Ieee.double.infRung=9218868437227405312:=by decide
theorem ww:Ieee.double.binade<=Ieee.double.infRung:=by decide
theorem kK {b:Int} (h:ar b):((wd b % 9223372036854775808:Nat):Int)=if b<0 then b+9223372036854775808 else b:=by
 unfold ar at h;unfold wd;split<;>omega
theorem kd {b:Int} (h:ar b):(wd b/9223372036854775808 % 2 == 1)=decide (b<0):=by
 unfold ar at h;unfold wd
 rw[Bool.eq_iff_iff];simp only[beq_iff_eq,decide_eq_true_eq];omega
theorem iD {b:Int} (h:ar b):aF b=4↔9218868437227405312<wd b % 9223372036854775808:=by
 have:=kK h
 rw[uN];unfold ar at h;unfold bG bT
 split at this<;>omega
theorem oo {b:Int} (h:ar b):iP (wd b/9223372036854775808 % 2 == 1) (wd b % 9223372036854775808)=aT b:=by
 rw[kd h];unfold iP aT;rw[kK h]
 by_cases hb:b<0<;>simp[hb]
theorem iY {a b:Int} (ha:ar a) (hb:ar b) (h1:¬ aF a=4) (h2:¬ aF b=4):FloatKind.f64.format.order (wd a) (wd b)=some (compare (aT a) (aT b)):=by
 rw[iD ha] at h1;rw[iD hb] at h2
 have:=s8 Ieee.double ww (wd a) (wd b) (by rw[fe,jt];omega) (by rw[fe,jt];omega)
 rw[fe,oo ha,oo hb] at this
 exact this
theorem d6 {a b:Int} (ha:ar a) (hb:ar b) (h:aF a=4∨aF b=4):FloatKind.f64.format.order (wd a) (wd b)=none:=by
 refine s7 Ieee.double ww _ _ ?_
 rw[fe,jt]
 rcases h with h|h
 ·exact .inl ((iD ha).1 h)
 ·exact .inr ((iD hb).1 h)
def iQ (a b:Int):Bool:=!decide (aF a=4)&&(!decide (aF b=4)&&decide (aT a<aT b))
def eT (a b:Int):Bool:=!decide (aF a=4)&&(!decide (aF b=4)&&decide (aT a=aT b))
theorem rl {a b:Int} (ha:ar a) (hb:ar b):(FloatKind.f64.format.order (wd a) (wd b) == some .lt)=iQ a b:=by
 unfold iQ
 by_cases h1:aF a=4
 ·rw[d6 ha hb (.inl h1)];simp[h1]
 ·by_cases h2:aF b=4
  ·rw[d6 ha hb (.inr h2)];simp[h2]
  ·rw[iY ha hb h1 h2]
   simp only[h1,h2,decide_false,Bool.not_false,Bool.true_and]
   rcases Int.lt_trichotomy (aT a) (aT b) with h|h|h
   ·rw[dP h];simp[h]
   ·rw[fU h];simp[h]
   ·rw[dR h];simp;omega
theorem lM {a b:Int} (ha:ar a) (hb:ar b):(FloatKind.f64.format.order (wd a) (wd b) == some .eq)=eT a b:=by
 unfold eT
 by_cases h1:aF a=4
 ·rw[d6 ha hb (.inl h1)];simp[h1]
 ·by_cases h2:aF b=4
  ·rw[d6 ha hb (.inr h2)];simp[h2]
  ·rw[iY ha hb h1 h2]
   simp only[h1,h2,decide_false,Bool.not_false,Bool.true_and]
   rcases Int.lt_trichotomy (aT a) (aT b) with h|h|h
   ·rw[dP h];simp;omega
   ·rw[fU h];simp[h]
   ·rw[dR h];simp;omega
def place (b:Int):Int:=if b<0 then -(b+9223372036854775808)-1 else b
def rm (a b:Int):Int:=if aF a=4 then (if aF b=4 then 0 else 1) else if aF b=4 then -1 else if place a<place b then -1 else if place b<place a then 1 else 0
end Go.Proofs.YtcklaogdjpbagaaGreatDoor.M
namespace Go.Proofs.YtcklaogdjpbagaaGreatDoor.M
open Go Go.Proofs.Tryz
def jz (mag:Int):Nat:=Lib.ctz 64 mag.toNat
def jo (mag:Int):Int:=mag/2^jz mag
def jl (mag:Int):Int:=Lib.bitLen (jo mag).toNat
def gd (fr mag:Int):Int:=fr+1-jl mag
def cv (fr least mag exp:Int):Int:=min (gd fr mag) (exp+jz mag-least)
def gf (fr least mag exp:Int):Int:=exp+jz mag-cv fr least mag exp-least
def cw (fr top least mag exp:Int):Bool:=decide (0<=gd fr mag)&&(decide (least<=exp+jz mag)&&decide (gf fr least mag exp<=top-2))
def jk (fr top least mag exp:Int):Bool:=if mag<0 then false else if mag=0 then true else cw fr top least mag exp
def jv (fr top least mag exp:Int):Int:=if mag<=0 then 0 else if cw fr top least mag exp then gf fr least mag exp*2^fr.toNat+jo mag*2^(cv fr least mag exp).toNat else 0
theorem d7 (n:Nat) (h:n<2^64) (h0:n≠0):2^(Lib.bitLen n-1)<=n∧n<2^Lib.bitLen n∧1<=Lib.bitLen n∧Lib.bitLen n<=64:=by
 have hl:Lib.bitLen n<=64:=Lib.bitLen_le n 64 (by omega) h
 -- by halving
 have main:∀ f n:Nat,n<2^f->f<=64->n≠0->2^(Lib.bitLen n-1)<=n∧n<2^Lib.bitLen n∧1<=Lib.bitLen n:=by
  intro f
  induction f with
  | zero=>intro n h _ h0;simp at h;omega
  | succ f ih=>
   intro n h hf h0
   have h64:n<2^64:=Nat.lt_of_lt_of_le h (Nat.pow_le_pow_right (by decide) hf)
   have e:=Lib.bitLen_half n h0 h64
   by_cases h2:n/2=0
   ·have h1:n=1:=by omega
    subst h1
    have:Lib.bitLen 1=1:=by decide +kernel
    rw[this];decide
   ·obtain⟨a,b,c⟩:=ih (n/2) (by rw[Nat.pow_succ] at h;omega) (by omega) h2
    obtain⟨m,hm⟩:∃ m,Lib.bitLen (n/2)=m+1:=⟨Lib.bitLen (n/2)-1,by omega⟩
    rw[e,hm]
    rw[hm] at a b
    simp only[Nat.add_sub_cancel] at a
    refine⟨?_,?_,by omega⟩
    ·rw[show 1+(m+1)-1=m+1 by omega,Nat.pow_succ];omega
    ·rw[show 1+(m+1)=m+1+1 by omega,Nat.pow_succ];omega
 obtain⟨a,b,c⟩:=main 64 n h (by omega) h0
 exact⟨a,b,c,hl⟩
theorem s9 (n k:Nat) (h:n<2^64) (h0:n≠0):n<2^k↔Lib.bitLen n<=k:=by
 obtain⟨a,b,c,d⟩:=d7 n h h0
 constructor
 ·intro hk
  apply Nat.le_of_not_lt
  intro hlt
  have:2^k<=2^(Lib.bitLen n-1):=Nat.pow_le_pow_right (by decide) (by omega)
  omega
 ·intro hk
  exact Nat.lt_of_lt_of_le b (Nat.pow_le_pow_right (by decide) hk)
theorem ff {mag:Int} (h0:0<mag) (h:mag<9223372036854775808):∃ m:Nat,mag=2^jz mag*(2*m+1)∧jz mag<63∧jo mag=2*m+1:=by
 unfold jo jz
 obtain⟨n,rfl⟩:=Int.eq_ofNat_of_zero_le (Int.le_of_lt h0)
 have hn:n≠0:=by omega
 simp only[Int.toNat_natCast]
 obtain⟨m,hm,hk⟩:=Lib.ctzFrom_spec 64 n (by omega) (by omega)
 have e:Lib.ctz 64 n=Lib.ctzFrom 64 n:=by simp[Lib.ctz,hn]
 rw[e]
 have hp:0<2^Lib.ctzFrom 64 n:=Nat.two_pow_pos _
 have hz:Lib.ctzFrom 64 n<63:=by
  apply Nat.lt_of_not_le
  intro hle
  have:2^63<=2^Lib.ctzFrom 64 n:=Nat.pow_le_pow_right (by decide) hle
  have:2^Lib.ctzFrom 64 n<=n:=by
   rw(occs:=.pos [2]) [hm]
   exact Nat.le_mul_of_pos_right _ (by omega)
  omega
 have hm':(n:Int)=2^Lib.ctzFrom 64 n*(2*(m:Int)+1):=by
  have:((2^Lib.ctzFrom 64 n*(2*m+1):Nat):Int)=2^Lib.ctzFrom 64 n*(2*(m:Int)+1):=by
   rw[Int.natCast_mul];simp
  rw[<- this,<- hm]
 refine⟨m,hm',hz,?_⟩
 have hpi:(0:Int)<2^Lib.ctzFrom 64 n:=Int.pow_pos (by decide)
 rw(occs:=.pos [1]) [hm']
 exact Int.mul_ediv_cancel_left _ (by omega)
theorem ju {mag:Int} (h0:0<mag) (h:mag<9223372036854775808):1<=jo mag∧jo mag<=mag:=by
 obtain⟨m,a,b,c⟩:=ff h0 h
 have hp:(0:Int)<2^jz mag:=Int.pow_pos (by decide)
 have:(2*(m:Int)+1)*1<=(2*(m:Int)+1)*2^jz mag:=Int.mul_le_mul_of_nonneg_left (by omega) (by omega)
 rw[Int.mul_comm _ (2^jz mag),<- a] at this
 omega
theorem lN {mag:Int} (h0:0<mag) (h:mag<9223372036854775808):1<=jl mag∧jl mag<=63:=by
 obtain⟨a,b⟩:=ju h0 h
 have s:=d7 (jo mag).toNat (by omega) (by omega)
 unfold jl
 have:=(s9 (jo mag).toNat 63 (by omega) (by omega)).1 (by omega)
 omega
theorem iE {fr mag:Int} (h0:0<mag) (h:mag<9223372036854775808) (hf:0<=fr) (s:Nat) (hs:(s:Int)<=gd fr mag):1<=jo mag*2^s∧jo mag*2^s<2^(fr.toNat+1):=by
 obtain⟨a,b⟩:=ju h0 h
 have sp:=d7 (jo mag).toNat (by omega) (by omega)
 unfold gd jl at hs
 have hp:(0:Int)<2^s:=Int.pow_pos (by decide)
 constructor
 ·have:(1:Int)*1<=jo mag*2^s:=Int.mul_le_mul a (by omega) (by omega) (by omega)
  omega
 ·have h1:(jo mag).toNat*2^s<2^(Lib.bitLen (jo mag).toNat)*2^s:=Nat.mul_lt_mul_of_pos_right sp.2.1 (Nat.two_pow_pos _)
  rw[<- Nat.pow_add] at h1
  have h2:2^(Lib.bitLen (jo mag).toNat+s)<=2^(fr.toNat+1):=Nat.pow_le_pow_right (by decide) (by omega)
  have h3:(jo mag).toNat*2^s<2^(fr.toNat+1):=Nat.lt_of_lt_of_le h1 h2
  have h4:(((jo mag).toNat*2^s:Nat):Int)<((2^(fr.toNat+1):Nat):Int):=Int.ofNat_lt.2 h3
  rw[Int.natCast_mul,Int.toNat_of_nonneg (by omega)] at h4
  simpa using h4
theorem ta {mag exp:Int} (h0:0<mag) (h:mag<9223372036854775808) (hf:1025<exp):cw 52 2047 (-1074) mag exp=false:=by
 have:=lN h0 h
 unfold cw gf cv gd
 simp;intro _ _;omega
theorem zS {mag exp:Int} (hm:ar mag):0<=jv 52 2047 (-1074) mag exp∧jv 52 2047 (-1074) mag exp<9218868437227405312:=by
 unfold ar at hm
 unfold jv
 by_cases h0:mag<=0
 ·rw[if_pos h0];omega
 ·rw[if_neg h0]
  by_cases hk:cw 52 2047 (-1074) mag exp=true
  ·rw[if_pos hk]
   unfold cw at hk
   simp only[Bool.and_eq_true,decide_eq_true_eq] at hk
   have hl:=lN (mag:=mag) (by omega) hm.2
   have hs:0<=cv 52 (-1074) mag exp∧cv 52 (-1074) mag exp<=gd 52 mag:=by unfold cv;omega
   have hb:=iE (fr:=52) (mag:=mag) (by omega) hm.2 (by omega) (cv 52 (-1074) mag exp).toNat (by omega)
   have hb2:jo mag*2^(cv 52 (-1074) mag exp).toNat<9007199254740992:=hb.2
   have ha:0<=gf 52 (-1074) mag exp:=by unfold gf cv;omega
   -- a normal number's highest bit is counted into the field
   have e:(2:Int)^(52:Int).toNat=4503599627370496:=by decide
   rw[e]
   omega
  ·rw[if_neg hk];omega
theorem yx {mag:Int} (h0:0<mag) (h:mag<9223372036854775808) (k:Nat) (hk:k<jz mag):mag/2^k % 2=0∧mag/2^k/2=mag/2^(k+1)∧0<mag/2^k∧mag/2^k<9223372036854775808:=by
 obtain⟨m,a,b,c⟩:=ff h0 h
 have hp:(0:Int)<2^k:=Int.pow_pos (by decide)
 have e1:mag/2^k=2^(jz mag-k)*(2*m+1):=by
  rw(occs:=.pos [1]) [a]
  rw[show jz mag=k+(jz mag-k) by omega,Int.pow_add,Int.mul_assoc]
  rw[show k+(jz mag-k)-k=jz mag-k by omega]
  exact Int.mul_ediv_cancel_left _ (by omega)
 have e2:(2:Int)^(jz mag-k)=2*2^(jz mag-k-1):=by
  rw[show jz mag-k=(jz mag-k-1)+1 by omega,Int.pow_succ,Int.mul_comm]
  simp
 have hq:(0:Int)<2^(jz mag-k):=Int.pow_pos (by decide)
 refine⟨?_,?_,?_,?_⟩
 ·rw[e1,e2,Int.mul_assoc];exact Int.mul_emod_right _ _
 ·rw[Int.pow_succ,Int.ediv_ediv_of_nonneg (by omega)]
 ·rw[e1];exact Int.mul_pos hq (by omega)
 ·have:mag/2^k<=mag:=Int.ediv_le_self _ (by omega)
  omega
theorem ro {mag:Int} (h0:0<mag) (h:mag<9223372036854775808):jo mag % 2=1:=by
 obtain⟨m,a,b,c⟩:=ff h0 h
 omega
theorem kL {fr mag:Int} (h0:0<mag) (h:mag<9223372036854775808) (hf:0<=fr) (j:Nat):jo mag*2^j<2^fr.toNat↔(j:Int)<gd fr mag:=by
 obtain⟨a,b⟩:=ju h0 h
 have sp:=d7 (jo mag).toNat (by omega) (by omega)
 unfold gd jl
 have hc:((((jo mag).toNat*2^j:Nat)):Int)=jo mag*2^j:=by
  rw[Int.natCast_mul,Int.toNat_of_nonneg (by omega)];simp
 have hd:((2^fr.toNat:Nat):Int)=2^fr.toNat:=by simp
 rw[<- hc,<- hd,Int.ofNat_lt]
 constructor
 ·intro hlt
  have h1:2^(Lib.bitLen (jo mag).toNat-1)*2^j<=(jo mag).toNat*2^j:=Nat.mul_le_mul_right _ sp.1
  rw[<- Nat.pow_add] at h1
  have h2:2^(Lib.bitLen (jo mag).toNat-1+j)<2^fr.toNat:=by omega
  have:=(Nat.pow_lt_pow_iff_right (by decide:1<2)).1 h2
  omega
 ·intro hlt
  have h1:(jo mag).toNat*2^j<2^(Lib.bitLen (jo mag).toNat)*2^j:=Nat.mul_lt_mul_of_pos_right sp.2.1 (Nat.two_pow_pos _)
  rw[<- Nat.pow_add] at h1
  exact Nat.lt_of_lt_of_le h1 (Nat.pow_le_pow_right (by decide) (by omega))
def sk (fr low mag exp:Int):Bool:=decide (0<=gd fr mag)&&decide (low<=exp+jz mag)
def sm (fr low mag exp:Int):Int:=if sk fr low mag exp then jo mag*2^(cv fr low mag exp).toNat else 0
def se (fr low mag exp:Int):Int:=if sk fr low mag exp then exp+jz mag-cv fr low mag exp else 0
def jp (neg:Bool) (mag exp:Int):Int:=if jk 52 2047 (-1074) mag exp&&neg then jv 52 2047 (-1074) mag exp-9223372036854775808 else jv 52 2047 (-1074) mag exp
theorem rt {mag exp:Int} (h0:0<mag) (h:mag<9223372036854775808) (hf:exp < -2000):cw 52 2047 (-1074) mag exp=false:=by
 obtain⟨_,_,a,_⟩:=ff h0 h
 unfold cw;simp;intro _ _;omega
theorem oq (mag exp:Int):cw 52 2047 (-1074) mag exp=(sk 52 (-1074) mag exp&&decide (se 52 (-1074) mag exp<=971)):=by
 unfold cw se gf
 by_cases h:sk 52 (-1074) mag exp=true
 ·rw[if_pos h,h]
  unfold sk at h
  simp only[Bool.and_eq_true,decide_eq_true_eq] at h
  simp only[h.1,h.2,decide_true,Bool.true_and]
  congr 1;apply propext;omega
 ·have h':sk 52 (-1074) mag exp=false:=by simpa using h
  rw[h']
  unfold sk at h'
  simp only[Bool.false_and]
  simp only[Bool.and_eq_false_iff,decide_eq_false_iff_not] at h' ⊢
  omega
theorem zT {mag exp:Int} (h0:0<mag) (h:mag<9223372036854775808) (hk:sk 52 (-1074) mag exp=true) (he:se 52 (-1074) mag exp<=971) :
  1<=sm 52 (-1074) mag exp∧sm 52 (-1074) mag exp<9007199254740992∧-1074<=se 52 (-1074) mag exp ∧
  jv 52 2047 (-1074) mag exp=(if sm 52 (-1074) mag exp<4503599627370496 then sm 52 (-1074) mag exp else (se 52 (-1074) mag exp+1075)*4503599627370496+sm 52 (-1074) mag exp-4503599627370496):=by
 have hg:cw 52 2047 (-1074) mag exp=true:=by rw[oq,hk];simpa using he
 have hk':=hk
 unfold sk at hk'
 simp only[Bool.and_eq_true,decide_eq_true_eq] at hk'
 have hs:0<=cv 52 (-1074) mag exp∧cv 52 (-1074) mag exp<=gd 52 mag∧cv 52 (-1074) mag exp<=exp+jz mag+1074:=by unfold cv;omega
 have hb:=iE (fr:=52) h0 h (by omega) (cv 52 (-1074) mag exp).toNat (by omega)
 have hb2:jo mag*2^(cv 52 (-1074) mag exp).toNat<9007199254740992:=hb.2
 have hd:=kL (fr:=52) h0 h (by omega) (cv 52 (-1074) mag exp).toNat
 rw[show(2:Int)^(52:Int).toNat=4503599627370496 by decide] at hd
 have es:sm 52 (-1074) mag exp=jo mag*2^(cv 52 (-1074) mag exp).toNat:=by unfold sm;rw[if_pos hk]
 have ee:se 52 (-1074) mag exp=exp+jz mag-cv 52 (-1074) mag exp:=by unfold se;rw[if_pos hk]
 rw[es,ee]
 refine⟨hb.1,hb2,by omega,?_⟩
 unfold jv gf
 rw[if_neg (by omega),if_pos hg,show(2:Int)^(52:Int).toNat=4503599627370496 by decide]
 split
 ·rename_i hlt
  have:=hd.1 hlt
  have:cv 52 (-1074) mag exp=exp+jz mag+1074:=by unfold cv at *;omega
  omega
 ·omega
end Go.Proofs.YtcklaogdjpbagaaGreatDoor.M
namespace Go.Proofs.YtcklaogdjpbagaaGreatDoor.M
open Go Go.Proofs.Tryz Ieee
theorem fI (f:Format) (a n:Nat) (h:(a=0∧n<2*f.binade)∨(f.binade<=n∧n<2*f.binade)):V f (a*f.binade+n)=n*2^a:=by
 have hB:=fc f
 unfold V
 by_cases hn:n<f.binade
 ·have ha:a=0:=by omega
  subst ha
  rw[Nat.zero_mul,Nat.zero_add,if_pos hn];simp
 ·have hge:f.binade<=a*f.binade+n:=Nat.le_trans (by omega) (Nat.le_add_left _ _)
  rw[if_neg (by omega)]
  have e:a*f.binade+n=f.binade*(a+1)+(n-f.binade):=by
   rw[Nat.mul_add,Nat.mul_one,Nat.mul_comm];omega
  rw[e,Nat.mul_add_mod,Nat.mod_eq_of_lt (show n-f.binade<f.binade by omega),Nat.mul_add_div hB,Nat.div_eq_of_lt (show n-f.binade<f.binade by omega)]
  rw[show a+1+0-1=a by omega,show f.binade+(n-f.binade)=n by omega]
theorem zU (f:Format) {r s:Nat} (h:V f r=V f s):r=s:=by
 rcases Nat.lt_trichotomy r s with h1|h1|h1
 ·have:=gO f h1;omega
 ·exact h1
 ·have:=gO f h1;omega
theorem mU (z:Nat) (n:Int) (u:Nat) (m:Nat) (hn:0<=n) (h:z<=u) (hm:(m:Int)=n*2^z):n.toNat*2^u=m*2^(u-z):=by
 obtain⟨k,rfl⟩:=Int.eq_ofNat_of_zero_le hn
 have hm':m=k*2^z:=by
  have:((k*2^z:Nat):Int)=(k:Int)*2^z:=by rw[Int.natCast_mul];simp
  omega
 rw[hm',Int.toNat_natCast,Nat.mul_assoc,<- Nat.pow_add,show z+(u-z)=u by omega]
theorem yy (f:Format) (fr:Nat) (hB:f.binade=2^fr) (top least mag exp:Int) (h0:0<mag) (h:mag<9223372036854775808)
    (hg:cw fr top least mag exp=true) (he:least<=exp):V f (jv fr top least mag exp).toNat=mag.toNat*2^(exp-least).toNat:=by
  obtain⟨m,ez,z63,eo⟩:=ff h0 h
  have hg':=hg
  unfold cw at hg'
  simp only[Bool.and_eq_true,decide_eq_true_eq] at hg'
  have hs:0<=cv fr least mag exp∧cv fr least mag exp<=gd fr mag∧cv fr least mag exp<=exp+jz mag-least:=by unfold cv;omega
  have hb:=iE (fr:=fr) h0 h (by omega) (cv fr least mag exp).toNat (by omega)
  have hd:=kL (fr:=fr) h0 h (by omega) (cv fr least mag exp).toNat
  have ha:0<=gf fr least mag exp:=by unfold gf;omega
  obtain⟨n,hn⟩:=Int.eq_ofNat_of_zero_le (show 0<=jo mag*2^(cv fr least mag exp).toNat by omega)
  obtain⟨a,ha'⟩:=Int.eq_ofNat_of_zero_le ha
  rw[hn] at hb hd
  have hB1:((f.binade:Nat):Int)=2^fr:=by rw[hB];simp
  rw[Int.toNat_natCast,<- hB1] at hd
  have hb2:(n:Int)<2*(f.binade:Int):=by
    have:=hb.2
    rw[Int.toNat_natCast,Int.pow_succ,<- hB1] at this
    omega
  have ejv:(jv fr top least mag exp).toNat=a*f.binade+n:=by
    unfold jv
    rw[if_neg (by omega),if_pos hg,hn,ha',Int.toNat_natCast,<- hB1]
    have:((a:Int)*(f.binade:Int)+(n:Int))=((a*f.binade+n:Nat):Int):=by rw[Int.natCast_add,Int.natCast_mul]
    rw[this,Int.toNat_natCast]
  rw [ejv,fI f a n (by
    by_cases hn1:n<f.binade
    · left
      have:=hd.1 (by omega)
      have:gf fr least mag exp=0:=by unfold gf;unfold cv at *;omega
      omega
    · right; omega)]
  -- n*2^a=mag*2^(exp-least)
  have e1:mag.toNat*2^(exp-least).toNat=(jo mag).toNat*2^(jz mag+(exp-least).toNat):=by
    have hm:((mag.toNat:Nat):Int)=jo mag*2^jz mag:=by
      rw[Int.toNat_of_nonneg (by omega),eo,Int.mul_comm];exact ez
    rw[mU (jz mag) (jo mag) (jz mag+(exp-least).toNat) mag.toNat (by omega) (by omega) hm]
    congr 2;omega
  have e2:n*2^a=(jo mag).toNat*2^((cv fr least mag exp).toNat+a):=by
    rw[mU (cv fr least mag exp).toNat (jo mag) ((cv fr least mag exp).toNat+a) n (by omega) (by omega) (by rw[<- hn])]
    congr 2;omega
  rw[e1,e2]
  congr 2
  unfold gf at ha'
  omega
theorem AJ {mag:Int} (h0:0<mag) (h:mag<9223372036854775808) (k:Nat) (hk:mag<2^k):(jz mag:Int)+jl mag<=k:=by
 obtain⟨m,ez,z63,eo⟩:=ff h0 h
 have hj:=ju h0 h
 have sp:=d7 (jo mag).toNat (by omega) (by omega)
 have h1:2^(Lib.bitLen (jo mag).toNat-1)*2^jz mag<=(jo mag).toNat*2^jz mag:=Nat.mul_le_mul_right _ sp.1
 rw[<- Nat.pow_add] at h1
 have h2:(((jo mag).toNat*2^jz mag:Nat):Int)=mag:=by
  rw[Int.natCast_mul,Int.toNat_of_nonneg (by omega),eo,Int.mul_comm]
  simp only[Int.natCast_pow]
  exact ez.symm
 have h3:(jo mag).toNat*2^jz mag<2^k:=by
  have:((2^k:Nat):Int)=2^k:=by simp
  omega
 have h4:2^(Lib.bitLen (jo mag).toNat-1+jz mag)<2^k:=by omega
 have:=(Nat.pow_lt_pow_iff_right (by decide:1<2)).1 h4
 unfold jl
 omega
theorem p5 {fr top least mag exp:Int} (h0:0<mag) (h:mag<9223372036854775808) (hf:0<=fr) (hk:mag<2^(fr.toNat+1)) (he:least<=exp) (he2:exp<=top-2+least):cw fr top least mag exp=true:=by
 have hl:=AJ h0 h (fr.toNat+1) hk
 have:=lN h0 h
 unfold cw gf cv gd
 simp only[Bool.and_eq_true,decide_eq_true_eq]
 omega
/-! binary64 -/
def rg (b:Int):Int:=if b<0 then b+9223372036854775808 else b
theorem ew {b:Int} (h:ar b):0<=rg b∧rg b=bG b*4503599627370496+bT b:=by
 unfold ar at h;unfold rg bG bT;split<;>omega
theorem ot {b:Int} (h:ay b=true):bG b≠2047:=by simpa [ay] using h
theorem dB:Ieee.double.binade=2^52:=by decide
theorem yz {b:Int} (hb:ar b) (hp:ay b=true):V Ieee.double (rg b).toNat=(bl b).toNat*2^(bs b+1074).toNat:=by
 have hne:=ot hp
 obtain⟨r0,r1⟩:=ew hb
 have hf:=ig b
 have ht:=gI b
 by_cases h0:bG b=0
 ·have e:(rg b).toNat=0*Ieee.double.binade+(bT b).toNat:=by omega
  rw[e,fI _ _ _ (.inl ⟨rfl,by rw[dB];omega⟩)]
  simp[bl,bs,h0]
 ·have e:(rg b).toNat=(bG b-1).toNat*Ieee.double.binade+(4503599627370496+bT b).toNat:=by rw[dB];omega
  rw[e,fI _ _ _ (.inr (by rw[dB];omega))]
  unfold bl bs
  rw[if_neg hne,if_neg h0,if_neg hne,if_neg h0]
  congr 2;omega
/-! binary32 -/
end Go.Proofs.YtcklaogdjpbagaaGreatDoor.M
