/- Parts of the proof. -/
import Derived.WalkKit
import Derived.Laws.MathBits
import Derived.Lib.TrailingZeros
import Ieee.Arith
import GoSem.Core.Float
import Derived.Lib.BitFns
import Derived.Test.YtcklaogdjpbagaaGreatDoorProg
import Derived.OwnWalk
import Derived.Below
import Derived.Laws.OwnMore
import Derived.Laws.AppendOwnNone
import Derived.Deep.QuietTactic
import Derived.BigQuiet
import Derived.Tactics
import Derived.Tactics2
import Derived.Defers
import Derived.Recover
import Derived.Laws.Pointers
import Derived.WalkLawsBesides
import Derived.WideLaws
import Derived.Deep.RegionHeld3
import Derived.WalkSmall
import Derived.RowKit3
import Derived.Lib.Strings
import Derived.Lib.Slices
import Derived.Lib.Small
import Derived.Lib.Walk
import Derived.Laws.Bits64b
set_option maxRecDepth 100000
set_option maxHeartbeats 8000000
theorem Go.Proofs.YtcklaogdjpbagaaGreatDoor.aGe {α : Type} {xs : Array α} {i : Nat} {a : α} (h : xs[i]? = some a) : ∃ h : i < xs.size, xs[i] = a := Array.getElem?_eq_some_iff.1 h
set_option linter.unusedVariables false
set_option linter.unusedSimpArgs false
namespace Go.Proofs.YtcklaogdjpbagaaGreatDoor.M
open Go Go.Proofs.Tryz
/-! signed 64-bit masks -/
theorem dE (x:Int):(BitVec.ofInt 64 x).toNat=(x % 18446744073709551616).toNat:=by
 simp[BitVec.toNat_ofInt]
theorem ua (x y:Int):bits .and .i64 x y=IntKind.i64.wrap (((x % 18446744073709551616).toNat &&& (y % 18446744073709551616).toNat:Nat):Int):=by
 show IntKind.i64.wrap (((BitVec.ofInt 64 x &&& BitVec.ofInt 64 y).toNat:Nat):Int)=_
 rw[BitVec.toNat_and,dE,dE]
theorem ve (x y:Int):bits .or .i64 x y=IntKind.i64.wrap (((x % 18446744073709551616).toNat ||| (y % 18446744073709551616).toNat:Nat):Int):=by
 show IntKind.i64.wrap (((BitVec.ofInt 64 x ||| BitVec.ofInt 64 y).toNat:Nat):Int)=_
 rw[BitVec.toNat_or,dE,dE]
theorem pM (x y:Int):bits .andNot .i64 x y=IntKind.i64.wrap (((x % 18446744073709551616).toNat &&& (18446744073709551615-(y % 18446744073709551616).toNat):Nat):Int):=by
 show IntKind.i64.wrap (((BitVec.ofInt 64 x &&& ~~~ BitVec.ofInt 64 y).toNat:Nat):Int)=_
 rw[BitVec.toNat_and,BitVec.toNat_not,dE,dE]
theorem bs (n:Int):IntKind.i64.wrap n=(n+9223372036854775808) % 18446744073709551616-9223372036854775808:=by
 simp only[IntKind.wrap,IntKind.bits,IntKind.signed]
 simp
 split<;>omega
theorem eP (x:Int) (k:Nat) (hk:k<63):bits .and .i64 x (2^k-1)=x % 2^k:=by
 have hp:(2:Nat)^k<2^63:=Nat.pow_lt_pow_right (by decide) hk
 have hp0:0<(2:Nat)^k:=Nat.two_pow_pos k
 have e2:((2:Int)^k-1)=((2^k-1:Nat):Int):=by
  rw[Int.ofNat_sub (by omega)];simp
 have e3:(((2:Int)^k-1) % 18446744073709551616).toNat=2^k-1:=by
  rw[e2];omega
 rw[ua,e3,Nat.and_two_pow_sub_one_eq_mod]
 have e4:(((x % 18446744073709551616).toNat % 2^k:Nat):Int)=x % 2^k:=by
  rw[Int.natCast_emod,Int.toNat_of_nonneg (Int.emod_nonneg _ (by decide))]
  rw[show((2^k:Nat):Int)=(2:Int)^k by simp]
  apply Int.emod_emod_of_dvd
  exact⟨2^(64-k),by rw[<- Int.pow_add,show k+(64-k)=64 by omega];decide⟩
 rw[e4]
 have h5:0<=x % 2^k:=Int.emod_nonneg _ (by have:(0:Int)<2^k:=Int.pow_pos (by decide);omega)
 have h6:x % 2^k<2^k:=Int.emod_lt_of_pos _ (Int.pow_pos (by decide))
 have h7:((2:Int)^k)<9223372036854775808:=by
  have:((2^k:Nat):Int)<((2^63:Nat):Int):=Int.ofNat_lt.2 hp
  simpa using this
 rw[bs];omega
theorem qh (x:Int):bits .and .i64 x 2047=x % 2048:=eP x 11 (by decide)
theorem sD (x:Int):bits .and .i64 x 4503599627370495=x % 4503599627370496:=eP x 52 (by decide)
theorem mU (x:Int) (h0:-9223372036854775808<=x) (h1:x<9223372036854775808):bits .andNot .i64 x (-9223372036854775808)=if x<0 then x+9223372036854775808 else x:=by
 rw[pM,show(18446744073709551615-((-9223372036854775808:Int) % 18446744073709551616).toNat)=2^63-1 from by decide,bs,Nat.and_two_pow_sub_one_eq_mod]
 split<;>omega
/-! the fields of a binary64's pattern -/
def bZ (b:Int):Int:=b/4503599627370496 % 2048
def cx (b:Int):Int:=b % 4503599627370496
def aR (b:Int):Int:=if bZ b=2047 then (if cx b=0 then 3 else 4) else if bZ b=0 then (if cx b=0 then 0 else 1) else 2
def aF (b:Int):Bool:=!decide (bZ b=2047)
def dV (b:Int):Bool:=aF b&&decide (b<0)
def bL (b:Int):Int:=if bZ b=2047 then 0 else if bZ b=0 then cx b else 4503599627370496+cx b
def bM (b:Int):Int:=if bZ b=2047 then 0 else if bZ b=0 then -1074 else bZ b-1075
def neg (b:Int):Int:=if aR b=4 then 9221120237041090561 else if b<0 then b+9223372036854775808 else b-9223372036854775808
def lM (b:Int):Int:=if aR b=4 then 9221120237041090561 else if aR b=0 then 0 else b
def next (b:Int):Int:=if aR b=4 then 9221120237041090561 else if b=9218868437227405312 then b else if b=-9223372036854775808 then 1 else if b<0 then b-1 else b+1
def ax (b:Int):Prop:=-9223372036854775808<=b∧b<9223372036854775808
theorem iX (b:Int):0<=bZ b∧bZ b<2048:=by unfold bZ;omega
theorem iY (b:Int):0<=cx b∧cx b<4503599627370496:=by unfold cx;omega
theorem Dq {b:Int}:aR b=4↔bZ b=2047∧cx b≠0:=by
 unfold aR;repeat' split
 all_goals omega
theorem dD {b:Int} (h:ax b):ax (neg b):=by
 unfold ax neg at *;repeat' split
 all_goals omega
def qj (f t most:Int):Int:=if f=most then (if t=0 then 3 else 4) else if 0<f then 2 else if 0<t then 1 else 0
theorem xt (b:Int):qj (bZ b) (cx b) 2047=aR b:=by
 have:=iX b;have:=iY b
 unfold qj aR;repeat' split
 all_goals omega
theorem oG {b:Int} (h:aR b=0∨aR b=1):decide (b<0)=dV b∧cx b=bL b∧-1074=bM b∧true=aF b:=by
 unfold aR at h;unfold dV bL bM aF
 by_cases h1:bZ b=2047<;>by_cases h2:cx b=0<;>by_cases h3:bZ b=0<;>simp[h1,h2,h3] at h ⊢
theorem ub {b:Int} (h:aR b=2):decide (b<0)=dV b∧4503599627370496+cx b=bL b∧bZ b-1075=bM b∧true=aF b:=by
 unfold aR at h;unfold dV bL bM aF
 by_cases h1:bZ b=2047<;>by_cases h2:cx b=0<;>by_cases h3:bZ b=0<;>simp[h1,h2,h3] at h ⊢
theorem vf {b:Int} (h0:¬ aR b=0) (h1:¬ aR b=1) (h2:¬ aR b=2):false=dV b∧0=bL b∧0=bM b∧false=aF b:=by
 unfold aR at h0 h1 h2;unfold dV bL bM aF
 by_cases k1:bZ b=2047<;>by_cases k2:cx b=0<;>by_cases k3:bZ b=0<;>simp[k1,k2,k3] at h0 h1 h2 ⊢
def wd (b:Int):Nat:=(b % 18446744073709551616).toNat
def P:Nat->Int|0=>1|n+1=>P n*1073741824
def val (d:Nat->Int):Nat->Int|0=>0|n+1=>val d n+d n*P n
def bF (d:Nat->Int) (n:Nat):Prop:=∀ i,i<n->0<=d i∧d i<1073741824
def kT (d:Nat->Int) (n:Nat):Prop:=n=0∨d (n-1)≠0
def cf (d:Nat->Int) (n:Nat):Prop:=bF d n∧kT d n
theorem fZ (n:Nat):P (n+1)=P n*1073741824:=rfl
theorem cA (n:Nat):0<P n:=by
 induction n with
 | zero=>decide
 | succ n ih=>rw[fZ];omega
theorem lN (n m:Nat):P (n+m)=P n*P m:=by
 induction m with
 | zero=>show P n=P n*1;omega
 | succ m ih=>show P (n+m)*1073741824=P n*(P m*1073741824);rw[ih,Int.mul_assoc]
theorem iz {n m:Nat} (h:n<=m):P n<=P m:=by
 obtain⟨k,rfl⟩:=Nat.exists_eq_add_of_le h
 rw[lN]
 have:=cA n
 have:=cA k
 have:P n*1<=P n*P k:=Int.mul_le_mul_of_nonneg_left (by omega) (by omega)
 omega
theorem bc (d:Nat->Int) (n:Nat):val d (n+1)=val d n+d n*P n:=rfl
theorem dY {d e:Nat->Int} {n:Nat} (h:∀ i,i<n->d i=e i):val d n=val e n:=by
 induction n with
 | zero=>rfl
 | succ n ih=>rw[bc,bc,ih (fun i hi=>h i (by omega)),h n (by omega)]
theorem bF.le {d:Nat->Int} {n m:Nat} (h:bF d n) (hm:m<=n):bF d m:=fun i hi=>h i (by omega)
theorem bF.congr {d e:Nat->Int} {n:Nat} (h:bF d n) (he:∀ i,i<n->d i=e i):bF e n:=fun i hi=>by rw[<- he i hi];exact h i hi
theorem bz {d:Nat->Int} {n:Nat} (h:bF d n):0<=val d n:=by
 induction n with
 | zero=>exact Int.le_refl _
 | succ n ih=>
  rw[bc]
  have:=ih (h.le (by omega))
  have:=Int.mul_nonneg (h n (by omega)).1 (Int.le_of_lt (cA n))
  omega
theorem cV {d:Nat->Int} {n:Nat} (h:bF d n):val d n<P n:=by
 induction n with
 | zero=>show(0:Int)<1;decide
 | succ n ih=>
  rw[bc,fZ]
  have a:=ih (h.le (by omega))
  have b:d n*P n<=1073741823*P n:=Int.mul_le_mul_of_nonneg_right (by have:=(h n (by omega)).2;omega) (Int.le_of_lt (cA n))
  omega
theorem eR {d:Nat->Int} {n:Nat} (h:bF d n) (hn:0<n) (ht:kT d n):P (n-1)<=val d n:=by
 obtain⟨m,rfl⟩:∃ m,n=m+1:=⟨n-1,by omega⟩
 rw[bc,Nat.add_sub_cancel]
 have a:=bz (h.le (Nat.le_succ m))
 have b:1<=d m:=by
  rcases ht with h0|h0
  ·omega
  ·rw[Nat.add_sub_cancel] at h0;have:=(h m (by omega)).1;omega
 have c:1*P m<=d m*P m:=Int.mul_le_mul_of_nonneg_right b (Int.le_of_lt (cA m))
 omega
theorem ft {d:Nat->Int} {n:Nat} (h:cf d n) (hn:0<n):0<val d n:=by
 have:=eR h.1 hn h.2
 have:=cA (n-1)
 omega
theorem mp {d:Nat->Int} {n:Nat} (h:cf d n):val d n=0↔n=0:=by
 constructor
 ·intro h0
  by_cases hn:0<n
  ·have:=ft h hn;omega
  ·omega
 ·rintro rfl;rfl
theorem zJ {d e:Nat->Int} {n:Nat} (h:bF d n) (k:bF e n) (hv:val d n=val e n):∀ i,i<n->d i=e i:=by
 induction n with
 | zero=>intro i hi;omega
 | succ n ih=>
  rw[bc,bc] at hv
  have a:=cV (h.le (Nat.le_succ n))
  have b:=cV (k.le (Nat.le_succ n))
  have a0:=bz (h.le (Nat.le_succ n))
  have b0:=bz (k.le (Nat.le_succ n))
  have hp:=cA n
  have e1:d n=e n:=by
   have x1:(val d n+d n*P n)/P n=d n:=by
    rw[Int.add_mul_ediv_right _ _ (by omega),Int.ediv_eq_zero_of_lt a0 a];omega
   have x2:(val e n+e n*P n)/P n=e n:=by
    rw[Int.add_mul_ediv_right _ _ (by omega),Int.ediv_eq_zero_of_lt b0 b];omega
   rw[<- x1,<- x2,hv]
  rw[e1] at hv
  intro i hi
  by_cases hi':i=n
  ·rw[hi'];exact e1
  ·exact ih (h.le (Nat.le_succ n)) (k.le (Nat.le_succ n)) (by omega) i (by omega)
theorem kU {d e:Nat->Int} {n m:Nat} (h:bF d n) (k:cf e m) (hnm:n<m):val d n<val e m:=by
 have a:=cV h
 have b:=eR k.1 (by omega) k.2
 have c:=iz (show n<=m-1 by omega)
 omega
theorem zK {d e:Nat->Int} {n m:Nat} (h:cf d n) (k:cf e m) (hv:val d n=val e m):n=m:=by
 by_cases h1:n<m
 ·have:=kU h.1 k h1;omega
 by_cases h2:m<n
 ·have:=kU k.1 h h2;omega
 omega
theorem uc {d e:Nat->Int} {n m:Nat} (h:cf d n) (k:bF e m) (hv:val d n<=val e m):n<=m:=by
 by_cases h1:n<=m
 ·exact h1
 ·have:=kU k h (by omega);omega
theorem eW (d:Nat->Int) (n m:Nat):val d (n+m)=val d n+P n*val (fun i=>d (n+i)) m:=by
 induction m with
 | zero=>show val d n=val d n+P n*0;omega
 | succ m ih=>
  show val d (n+m)+d (n+m)*P (n+m)=val d n+P n*(val (fun i=>d (n+i)) m+d (n+m)*P m)
  rw[ih,lN,Int.mul_add,Int.add_assoc]
  congr 2
  rw[<- Int.mul_assoc,Int.mul_comm (d (n+m)) (P n),Int.mul_assoc]
theorem eY {d:Nat->Int} {n m:Nat} (hm:m<=n) (h:∀ i,m<=i->i<n->d i=0):val d n=val d m:=by
 induction n with
 | zero=>rw[show m=0 by omega]
 | succ n ih=>
  by_cases he:m=n+1
  ·rw[he]
  ·rw[bc,h n (by omega) (by omega),ih (by omega) (fun i a b=>h i a (by omega))];omega
def cW (d:Nat->Int) (i:Nat) (x:Int):Nat->Int:=fun j=>if j=i then x else d j
theorem ck (d:Nat->Int) (i:Nat) (x:Int):cW d i x i=x:=by simp[cW]
theorem bD (d:Nat->Int) {i j:Nat} (x:Int) (h:j≠i):cW d i x j=d j:=by simp[cW,h]
theorem gG (d:Nat->Int) {i n:Nat} (x:Int) (h:n<=i):val (cW d i x) n=val d n:=dY fun j hj=>bD d x (by omega)
theorem tg (d:Nat->Int) {i n:Nat} (x:Int) (h:i<n):val (cW d i x) n=val d n+(x-d i)*P i:=by
 induction n with
 | zero=>omega
 | succ n ih=>
  rw[bc,bc]
  by_cases hi:i=n
  ·subst hi;rw[ck,gG d x (Nat.le_refl _),Int.sub_mul];omega
  ·rw[bD d x (by omega),ih (by omega)];omega
theorem bF.upd {d:Nat->Int} {n:Nat} (h:bF d n) (i:Nat) {x:Int} (hx:0<=x∧x<1073741824):bF (cW d i x) n:=fun j hj=>by
 by_cases hj':j=i
 ·rw[hj',ck];exact hx
 ·rw[bD d x hj'];exact h j hj
def bI (d:Nat->Int) (n:Nat):Nat->Int:=fun i=>if i<n then d i else 0
theorem dK (d:Nat->Int) {n i:Nat} (h:i<n):bI d n i=d i:=by simp[bI,h]
theorem fF (d:Nat->Int) {n i:Nat} (h:n<=i):bI d n i=0:=by simp[bI];omega
theorem ti {d:Nat->Int} {n:Nat} (h:bF d n) (m:Nat):bF (bI d n) m:=fun i hi=>by
 by_cases hi':i<n
 ·rw[dK d hi'];exact h i hi'
 ·rw[fF d (by omega)];omega
theorem iN (d:Nat->Int) {n m:Nat} (h:n<=m):val (bI d n) m=val d n:=by
 rw[eY h (fun i a _=>fF d a)]
 exact dY fun i hi=>dK d hi
theorem mV (V c x p:Int):V+(c+x) % 1073741824*p+(c+x)/1073741824*(p*1073741824)=V+c*p+x*p:=by
 have h:=Int.emod_add_mul_ediv (c+x) 1073741824
 have:(c+x)*p=((c+x) % 1073741824+1073741824*((c+x)/1073741824))*p:=by rw[h]
 rw[Int.add_mul,Int.add_mul] at this
 have e:1073741824*((c+x)/1073741824)*p=(c+x)/1073741824*(p*1073741824):=by
  rw[Int.mul_comm 1073741824,Int.mul_assoc,Int.mul_comm 1073741824 p]
 omega
theorem kV (x:Int):bits .and .i64 x 1073741823=x % 1073741824:=eP x 30 (by decide)
def dz (V:Int) (l:Nat):Prop:=∃ m:Int,V=(2*m+1)*2^l
theorem aJ (k:Nat):(0:Int)<2^k:=Int.pow_pos (by decide)
theorem dG (n:Nat):P n=2^(30*n):=by
 induction n with
 | zero=>rfl
 | succ n ih=>rw[fZ,ih,show 30*(n+1)=30*n+30 by omega,Int.pow_add];rfl
theorem kW (k:Nat):(2:Int)^k=P (k/30)*2^(k % 30):=by
 rw[dG,<- Int.pow_add];congr 1;omega
theorem dp {j k:Nat} (h:j<=k):(2:Int)^j<=2^k:=by
 obtain⟨m,rfl⟩:=Nat.exists_eq_add_of_le h
 rw[Int.pow_add]
 have h1:=aJ j
 have h2:=aJ m
 have h3:(2:Int)^j*1<=2^j*2^m:=Int.mul_le_mul_of_nonneg_left (by omega) (by omega)
 omega
theorem vg (x m:Int) (k:Nat) (hx:0<=x) (hxk:x<2^k) (hm:0<=m) (hs:x+m*2^k<9223372036854775808):bits .or .i64 x (m*2^k)=x+m*2^k:=by
 have hp:=aJ k
 have hy:0<=m*2^k:=Int.mul_nonneg hm (by omega)
 obtain⟨m',rfl⟩:=Int.eq_ofNat_of_zero_le hm
 obtain⟨x',rfl⟩:=Int.eq_ofNat_of_zero_le hx
 have e2:((m':Int)*2^k)=((m'*2^k:Nat):Int):=by simp
 rw[e2] at hs hy ⊢
 have hx':x'<2^k:=by
  have:((x':Nat):Int)<((2^k:Nat):Int):=by simpa using hxk
  exact Int.ofNat_lt.1 this
 have e3:x' ||| m'*2^k=m'*2^k+x':=by rw[Nat.or_comm,Nat.mul_comm m',Nat.two_pow_add_eq_or_of_lt hx' m']
 generalize m'*2^k=M at *
 rw[ve,show(((x':Int)) % 18446744073709551616).toNat=x' by omega,show((M:Int) % 18446744073709551616).toNat=M by omega,e3,bs]
 omega
def low (s:Nat->Int) (u v:Int):Nat->Int:=fun i=>s i/u+s (i+1) % u*v
theorem tj {s:Nat->Int} {u v:Int} {n:Nat} (hu:0<u) (huv:u*v=1073741824) (h:bF s (n+1)):bF (low s u v) n:=by
 intro i hi
 have a:=h i (by omega)
 have hv:0<v:=by
  rcases Int.lt_or_le 0 v with h|h
  ·exact h
  ·have:=Int.mul_nonneg (show 0<=u by omega) (show 0 <= -v by omega);rw[Int.mul_neg] at this;omega
 have b0:0<=s (i+1) % u:=Int.emod_nonneg _ (by omega)
 have b1:s (i+1) % u<u:=Int.emod_lt_of_pos _ hu
 have c0:0<=s i/u:=Int.ediv_nonneg a.1 (by omega)
 have c1:s i/u<v:=(Int.ediv_lt_iff_lt_mul hu).2 (by rw[Int.mul_comm,huv];exact a.2)
 have d1:s (i+1) % u*v<=(u-1)*v:=Int.mul_le_mul_of_nonneg_right (by omega) (by omega)
 have d0:0<=s (i+1) % u*v:=Int.mul_nonneg b0 (by omega)
 rw[Int.sub_mul,huv] at d1
 unfold low
 omega
theorem zL (s:Nat->Int) {u v:Int} (huv:u*v=1073741824) (n:Nat):val (low s u v) n*u=val s n-s 0 % u+s n % u*P n:=by
 induction n with
 | zero=>show(0:Int)*u=0-s 0 % u+s 0 % u*1;omega
 | succ n ih=>
  rw[bc,bc,fZ]
  have e:s n/u*u=s n-s n % u:=by have:=Int.emod_add_ediv_mul (s n) u;omega
  unfold low at ih ⊢
  have e2:(val (fun i=>s i/u+s (i+1) % u*v) n+(s n/u+s (n+1) % u*v)*P n)*u=val (fun i=>s i/u+s (i+1) % u*v) n*u+(s n/u*u)*P n+s (n+1) % u*(u*v)*P n:=by grind
  rw[e2,ih,e,huv];grind
theorem vh {s:Nat->Int} {u v:Int} (hu:0<u) (huv:u*v=1073741824) {n:Nat} (h:s n=0):val (low s u v) n=val s n/u:=by
 have h1:=zL s huv n
 rw[h,Int.zero_emod,Int.zero_mul,Int.add_zero] at h1
 have b0:0<=s 0 % u:=Int.emod_nonneg _ (by omega)
 have b1:s 0 % u<u:=Int.emod_lt_of_pos _ hu
 have:val s n=s 0 % u+val (low s u v) n*u:=by omega
 rw[this,Int.add_mul_ediv_right _ _ (by omega),Int.ediv_eq_zero_of_lt b0 b1];omega
theorem mq (d:Nat->Int) {w n:Nat} (h:w<=n) (hd:bF d n):val (fun i=>d (w+i)) (n-w)=val d n/P w:=by
 have e:=eW d w (n-w)
 rw[show w+(n-w)=n by omega] at e
 rw[e,Int.add_mul_ediv_left _ _ (by have:=cA w;omega),Int.ediv_eq_zero_of_lt (bz (hd.le h)) (cV (hd.le h))];omega
theorem mW (d:Nat->Int) (w n:Nat) (h:∀ i,i<w->d i=0):val d (w+n)=P w*val (fun i=>d (w+i)) n:=by
 rw[eW,eY (Nat.zero_le w) (fun i _ b=>h i b)];show 0+_=_;omega
def LL:Nat:=4194304
def pw (e:Int):Int:=2^(e+4194304).toNat
def sg (b:Bool) (x:Int):Int:=if b then -x else x
theorem ct (e:Int):0<pw e:=aJ _
theorem ew {e:Int} (h:-4194304<=e) (l:Nat):pw (e+l)=pw e*2^l:=by
 unfold pw
 rw[show(e+l+4194304).toNat=(e+4194304).toNat+l by omega,Int.pow_add]
theorem iZ {e low:Int} (h:-4194304<=low) (h1:low<=e):pw e=2^(e-low).toNat*pw low:=by
 have:=ew h (e-low).toNat
 rw[show low+((e-low).toNat:Int)=e by omega] at this
 rw[this,Int.mul_comm]
theorem jO {a b:Int} (ha:-2097152<=a) (hb:-2097152<=b):pw a*pw b=pw (a+b)*2^4194304:=by
 unfold pw
 rw[<- Int.pow_add,<- Int.pow_add,show(a+4194304).toNat+(b+4194304).toNat=(a+b+4194304).toNat+4194304 by omega]
theorem vi (a b:Bool) (x y:Int):sg a x*sg b y=sg (a != b) (x*y):=by
 cases a<;>cases b<;>simp[sg,Int.neg_mul,Int.mul_neg]
theorem il (b:Bool) (x:Int):sg b x=(if b then -1 else 1)*x:=by cases b<;>simp[sg]
theorem qk (b:Bool) (x:Int):sg (!b) x=-sg b x:=by cases b<;>simp[sg]
theorem ed (b:Bool):sg b 0=0:=by cases b<;>rfl
theorem iF {b:Bool} {x:Int} (h:sg b x=0):x=0:=by cases b<;>simp[sg] at h<;>exact h
structure Dy (V:Int) (ng:Bool) (m e:Int):Prop where
 val:V=sg ng m*pw e
 low:-4194304<=e
 form:(m=0∧ng=false∧e=0)∨(0<m∧m % 2=1)
def cY (V:Int):Prop:=∃ ng m e,Dy V ng m e∧m<P 2000∧-1048576<=e∧e<=1048576
theorem Dy.zero:Dy 0 false 0 0:=⟨by simp[sg],by decide,.inl ⟨rfl,rfl,rfl⟩⟩
theorem ke:cY 0:=⟨_,_,_,Dy.zero,cA _,by decide,by decide⟩
theorem Dy.eq_zero {V:Int} {ng:Bool} {m e:Int} (h:Dy V ng m e):V=0↔m=0:=by
 constructor
 ·intro h0
  have:=h.val
  rw[h0] at this
  rcases Int.mul_eq_zero.1 this.symm with h1|h1
  ·exact iF h1
  ·have:=ct e;omega
 ·intro h0
  rw[h.val,h0,ed,Int.zero_mul]
theorem Dy.nonneg {V:Int} {ng:Bool} {m e:Int} (h:Dy V ng m e):0<=m:=by rcases h.form with h|h<;>omega
theorem Dy.neg_iff {V:Int} {ng:Bool} {m e:Int} (h:Dy V ng m e):ng=true↔V<0:=by
 have hp:=ct e
 rcases h.form with⟨h1,h2,h3⟩|⟨h1,_⟩
 ·have:=h.eq_zero.2 h1;simp[h2];omega
 ·have hm:0<m*pw e:=Int.mul_pos h1 hp
  have:=h.val
  cases ng
  ·simp[sg] at this;simp;omega
  ·simp[sg,Int.neg_mul] at this;simp;omega
theorem tk {m m':Int} {a b:Nat} (h:m % 2=1) (h':m' % 2=1) (e:m*2^a=m'*2^b):¬ a<b:=by
 intro hlt
 obtain⟨d,rfl⟩:∃ d,b=a+1+d:=⟨b-a-1,by omega⟩
 rw[Int.pow_add,Int.pow_add] at e
 have e1:m*2^a=(m'*(2^d*2))*2^a:=by rw[e];grind
 have e2:=Int.eq_of_mul_eq_mul_right (Int.ne_of_gt (aJ a)) e1
 rw[show m'*(2^d*2)=2*(m'*2^d) by grind] at e2
 omega
theorem Dy.unique {V:Int} {ng ng':Bool} {m m' e e':Int} (h:Dy V ng m e) (k:Dy V ng' m' e'):ng=ng'∧m=m'∧e=e':=by
 have hn:ng=ng':=by
  have a:=h.neg_iff
  have b:=k.neg_iff
  cases ng<;>cases ng'<;>simp_all<;>omega
 subst hn
 rcases h.form with⟨h1,h2,h3⟩|⟨h1,h2⟩
 ·have h0:=k.eq_zero.1 (h.eq_zero.2 h1)
  rcases k.form with⟨k1,k2,k3⟩|⟨k1,k2⟩
  ·exact⟨rfl,by omega,by omega⟩
  ·omega
 ·rcases k.form with⟨k1,k2,k3⟩|⟨k1,k2⟩
  ·have:=h.eq_zero.1 (k.eq_zero.2 k1);omega
  ·have e1:m*pw e=m'*pw e':=by
    have:=h.val.symm.trans k.val
    cases ng
    ·simpa [sg] using this
    ·simpa [sg,Int.neg_mul] using this
   have a1:=tk h2 k2 e1
   have a2:=tk k2 h2 e1.symm
   have l1:=h.low
   have l2:=k.low
   obtain rfl:e=e':=by omega
   exact⟨rfl,Int.eq_of_mul_eq_mul_right (Int.ne_of_gt (ct _)) e1,rfl⟩
theorem Dy.ok {V:Int} {ng:Bool} {m e:Int} (h:Dy V ng m e):cY V↔m<P 2000∧-1048576<=e∧e<=1048576:=by
 constructor
 ·rintro⟨ng',m',e',k,h3⟩
  obtain⟨_,rfl,rfl⟩:=h.unique k
  exact h3
 ·exact fun h3=>⟨_,_,_,h,h3⟩
theorem Dy.neg {V:Int} {ng:Bool} {m e:Int} (h:Dy V ng m e) (h0:0<m):Dy (-V) (!ng) m e :=
 ⟨by rw[qk,Int.neg_mul,<- h.val],h.low,by rcases h.form with⟨h1,_⟩|h1;(· omega);(· exact .inr h1)⟩
theorem AU {V:Int} {ng:Bool} {m e:Int} (h:Dy V ng m e):m*pw e=V.natAbs:=by
 have:=h.val
 have h0:=h.nonneg
 have:0<=m*pw e:=Int.mul_nonneg h0 (Int.le_of_lt (ct _))
 cases ng<;>simp[sg,Int.neg_mul] at *<;>omega
theorem eZ {M:Int} {l:Nat} (h:dz M l) (h0:0<M):0<M/2^l∧(M/2^l) % 2=1∧M/2^l*2^l=M:=by
 obtain⟨k,hk⟩:=h
 have hp:=aJ l
 have e:M/2^l=2*k+1:=by rw[hk];exact Int.mul_ediv_cancel _ (by omega)
 rw[e]
 refine⟨?_,by omega,hk.symm⟩
 by_cases h1:0<2*k+1
 ·exact h1
 ·have:(2*k+1)*2^l<=0:=Int.mul_nonpos_of_nonpos_of_nonneg (by omega) (by omega)
  omega
theorem Dy.of {M e:Int} {l:Nat} (ng:Bool) (h:dz M l) (h0:0<M) (he:-4194304<=e):Dy (sg ng M*pw e) ng (M/2^l) (e+l):=by
 obtain⟨a,b,c⟩:=eZ h h0
 refine⟨?_,by omega,.inr ⟨a,b⟩⟩
 rw[ew he,il,il]
 rw[show(if ng=true then (-1:Int) else 1)*(M/2^l)*(pw e*2^l)=(if ng=true then (-1:Int) else 1)*(M/2^l*2^l)*pw e by grind,c]
theorem Dy.at {V:Int} {ng:Bool} {m e low:Int} (h:Dy V ng m e) (hl:-4194304<=low) (h1:low<=e):V=sg ng (m*2^(e-low).toNat)*pw low:=by
 rw[h.val,iZ hl h1,il,il];grind
theorem vj {x y:Int} (h:x*2^4194304=y*2^4194304):x=y:=Int.eq_of_mul_eq_mul_right (Int.ne_of_gt (aJ _)) h
end Go.Proofs.YtcklaogdjpbagaaGreatDoor.M
namespace Go.Proofs.YtcklaogdjpbagaaGreatDoor.M
open Go Go.Proofs.Tryz Ieee
def V (f:Format) (r:Nat):Nat:=if r<f.binade then r else (f.binade+r % f.binade)*2^(r/f.binade-1)
theorem fO (f:Format):0<f.binade:=Nat.two_pow_pos _
theorem vk (f:Format) (r:Nat):V f r<V f (r+1):=by
 have hB:=fO f
 unfold V
 generalize hBd:f.binade=B at *
 clear hBd
 by_cases h1:r+1<B
 ·rw[if_pos (by omega),if_pos h1];omega
 ·rw[if_neg h1]
  by_cases h2:r<B
  ·have:r+1=B:=by omega
   rw[if_pos h2,this,Nat.mod_self,Nat.div_self hB];simp;omega
  ·rw[if_neg h2]
   have hq:1<=r/B:=(Nat.one_le_div_iff hB).2 (by omega)
   have hd:=Nat.div_add_mod r B
   have hm:=Nat.mod_lt r hB
   have hp:0<2^(r/B-1):=Nat.two_pow_pos _
   by_cases h3:r % B+1<B
   ·have e1:(r+1) % B=r % B+1:=by
     rw[Nat.add_mod,Nat.mod_eq_of_lt (show 1<B by omega)];exact Nat.mod_eq_of_lt h3
    have e2:(r+1)/B=r/B:=by
     have:=Nat.div_add_mod (r+1) B
     rw[e1] at this
     have h4:B*((r+1)/B)=B*(r/B):=by omega
     exact Nat.eq_of_mul_eq_mul_left hB h4
    rw[e1,e2]
    exact Nat.mul_lt_mul_of_pos_right (by omega) hp
   ·have h4:r % B+1=B:=by omega
    have e0:r+1=B*(r/B+1):=by rw[Nat.mul_add,Nat.mul_one];omega
    have e1:(r+1) % B=0:=by rw[e0];exact Nat.mul_mod_right _ _
    have e2:(r+1)/B=r/B+1:=by rw[e0];exact Nat.mul_div_cancel_left _ hB
    rw[e1,e2]
    have e3:2^(r/B+1-1)=2*2^(r/B-1):=by
     rw[show r/B+1-1=(r/B-1)+1 by omega,Nat.pow_succ,Nat.mul_comm]
    rw[e3,Nat.add_zero,<- Nat.mul_assoc]
    exact Nat.mul_lt_mul_of_pos_right (by omega) hp
theorem iA (f:Format) {r s:Nat} (h:r<s):V f r<V f s:=by
 induction s with
 | zero=>omega
 | succ s ih=>
  rcases Nat.lt_or_ge r s with h1|h1
  ·exact Nat.lt_trans (ih h1) (vk f s)
  ·have:r=s:=by omega
   subst this
   exact vk f r
theorem kf (f:Format) (r s:Nat):V f r<V f s↔r<s:=by
 constructor
 ·intro h
  rcases Nat.lt_trichotomy r s with h1|h1|h1
  ·exact h1
  ·subst h1;omega
  ·have:=iA f h1;omega
 ·exact iA f
theorem kX (f:Format):V f 0=0:=by unfold V;rw[if_pos (fO f)]
theorem ga (f:Format) (x:Nat) (h:x % f.signWeight<f.infRung) :
  ∃ m u:Nat,f.read x=.number (x/f.signWeight % 2 == 1) m (f.leastPlace+u)∧m*2^u=V f (x % f.signWeight):=by
 unfold Format.read V
 dsimp only
 by_cases h1:x % f.signWeight<f.binade
 ·rw[if_pos h1,if_pos h1]
  exact⟨x % f.signWeight,0,by simp,by simp⟩
 ·rw[if_neg h1,if_pos h,if_neg h1]
  exact⟨_,_,rfl,rfl⟩
theorem kg (f:Format) (hI:f.binade<=f.infRung) (x:Nat) (h:x % f.signWeight=f.infRung):f.read x=.infinity (x/f.signWeight % 2 == 1):=by
 unfold Format.read
 dsimp only
 rw[h,if_neg (by omega),if_neg (by omega),if_pos rfl]
theorem ql (f:Format) (hI:f.binade<=f.infRung) (x:Nat) (h:f.infRung<x % f.signWeight):∃ s t,f.read x=.nan s t:=by
 unfold Format.read
 dsimp only
 rw[if_neg (by omega),if_neg (by omega),if_neg (by omega)]
 exact⟨_,_,rfl⟩
theorem vl (f:Format) (hI:f.binade<=f.infRung) (x y:Nat) (h:f.infRung<x % f.signWeight∨f.infRung<y % f.signWeight):f.order x y=none:=by
 unfold Format.order
 rcases h with h|h
 ·obtain⟨s,t,e⟩:=ql f hI x h
  rw[e];rfl
 ·obtain⟨s,t,e⟩:=ql f hI y h
  rw[e];cases f.read x<;>rfl
theorem pN (x y k:Int) (hk:0<k):compare (x*k) (y*k)=compare x y:=by
 simp only[compare,compareOfLessAndEq]
 have h1:x*k<y*k↔x<y:=⟨fun h=>Int.lt_of_mul_lt_mul_right h (Int.le_of_lt hk),fun h=>Int.mul_lt_mul_of_pos_right h hk⟩
 have h2:x*k=y*k↔x=y:=⟨fun h=>Int.eq_of_mul_eq_mul_right (by omega) h,fun h=>by rw[h]⟩
 simp only[h1,h2]
theorem kY (s:Bool) (m u k:Nat):signed s m u*((2^k:Nat):Int)=signed s m (u+k):=by
 unfold signed
 have e:((m <<< u:Nat):Int)*((2^k:Nat):Int)=((m <<< (u+k):Nat):Int):=by
  rw[Nat.shiftLeft_eq,Nat.shiftLeft_eq,Nat.pow_add,<- Nat.mul_assoc]
  exact(Int.natCast_mul _ _).symm
 split
 ·rw[Int.neg_mul,e]
 ·exact e
def jI (neg:Bool) (r:Nat):Int:=if neg then -(r:Int) else r
theorem qm (s t:Bool) (m n:Nat) (l:Int) (u v:Nat) :
  (Datum.number s m (l+u)).order (Datum.number t n (l+v))=some (compare (signed s m u) (signed t n v)):=by
 unfold Datum.order
 dsimp only
 have hmin:min (l+(u:Int)) (l+(v:Int))=l+((min u v:Nat):Int):=by omega
 have a:(l+(u:Int)-(l+((min u v:Nat):Int))).toNat=u-min u v:=by omega
 have b:(l+(v:Int)-(l+((min u v:Nat):Int))).toNat=v-min u v:=by omega
 rw[hmin,a,b,<- pN _ _ ((2^min u v:Nat):Int) (by exact_mod_cast Nat.two_pow_pos _),kY,kY,
  show u-min u v+min u v=u by omega,show v-min u v+min u v=v by omega]
theorem mr (s:Bool) (m u:Nat):signed s m u=if s then -((m*2^u:Nat):Int) else ((m*2^u:Nat):Int):=by
 unfold signed;rw[Nat.shiftLeft_eq]
theorem sE (a b c d:Int) (h1:a<b↔c<d) (h2:b<a↔d<c):compare a b=compare c d:=by
 simp only[compare,compareOfLessAndEq]
 by_cases h:a<b
 ·rw[if_pos h,if_pos (h1.1 h)]
 ·rw[if_neg h,if_neg (fun k=>h (h1.2 k))]
  by_cases k:b<a
  ·rw[if_neg (by omega),if_neg (by have:=h2.1 k;omega)]
  ·rw[if_pos (by omega),if_pos (by have:=fun z=>k (h2.2 z);have:=fun z=>h (h1.2 z);omega)]
theorem qp (f:Format) (x y:Nat) (hx:x % f.signWeight<f.infRung) (hy:y % f.signWeight<f.infRung) :
  f.order x y=some (compare (jI (x/f.signWeight % 2 == 1) (x % f.signWeight)) (jI (y/f.signWeight % 2 == 1) (y % f.signWeight))):=by
 obtain⟨m,u,e1,k1⟩:=ga f x hx
 obtain⟨n,v,e2,k2⟩:=ga f y hy
 unfold Format.order
 rw[e1,e2,qm,mr,mr,k1,k2]
 congr 1
 generalize x % f.signWeight=r
 generalize y % f.signWeight=q
 have a:=kf f r q
 have b:=kf f q r
 have a0:=kf f 0 r
 have b0:=kf f 0 q
 rw[kX] at a0 b0
 unfold jI
 cases (x/f.signWeight % 2 == 1)<;>cases (y/f.signWeight % 2 == 1)<;>simp only[if_true,if_false,Bool.false_eq_true]<;>apply sE<;>omega
theorem ey {a b:Int} (h:a<b):compare a b=.lt:=by simp only[compare,compareOfLessAndEq];rw[if_pos h]
theorem eA {a b:Int} (h:b<a):compare a b=.gt:=by simp only[compare,compareOfLessAndEq];rw[if_neg (by omega),if_neg (by omega)]
theorem gH {a b:Int} (h:a=b):compare a b=.eq:=by simp only[compare,compareOfLessAndEq];rw[if_neg (by omega),if_pos h]
theorem vm (f:Format) (hI:f.binade<=f.infRung) (x y:Nat) (hx:x % f.signWeight<=f.infRung) (hy:y % f.signWeight<=f.infRung) :
  f.order x y=some (compare (jI (x/f.signWeight % 2 == 1) (x % f.signWeight)) (jI (y/f.signWeight % 2 == 1) (y % f.signWeight))):=by
 have hB:=fO f
 rcases Nat.lt_or_ge (x % f.signWeight) f.infRung with h1|h1
 ·rcases Nat.lt_or_ge (y % f.signWeight) f.infRung with h2|h2
  ·exact qp f x y h1 h2
  ·have e2:=kg f hI y (by omega)
   obtain⟨m,u,e1,_⟩:=ga f x h1
   have h2':y % f.signWeight=f.infRung:=by omega
   unfold Format.order jI
   rw[e1,e2,h2']
   cases (x/f.signWeight % 2 == 1)<;>cases (y/f.signWeight % 2 == 1)<;>simp only[if_true,if_false,Bool.false_eq_true,Datum.order]
   ·rw[ey (by omega)]
   ·rw[eA (by omega)]
   ·rw[ey (by omega)]
   ·rw[eA (by omega)]
 ·have e1:=kg f hI x (by omega)
  have h1':x % f.signWeight=f.infRung:=by omega
  rcases Nat.lt_or_ge (y % f.signWeight) f.infRung with h2|h2
  ·obtain⟨n,v,e2,_⟩:=ga f y h2
   unfold Format.order jI
   rw[e1,e2,h1']
   cases (x/f.signWeight % 2 == 1)<;>cases (y/f.signWeight % 2 == 1)<;>simp only[if_true,if_false,Bool.false_eq_true,Datum.order]
   ·rw[eA (by omega)]
   ·rw[eA (by omega)]
   ·rw[ey (by omega)]
   ·rw[ey (by omega)]
  ·have e2:=kg f hI y (by omega)
   have h2':y % f.signWeight=f.infRung:=by omega
   unfold Format.order jI
   rw[e1,e2,h1',h2']
   cases (x/f.signWeight % 2 == 1)<;>cases (y/f.signWeight % 2 == 1)<;>simp only[if_true,if_false,Bool.false_eq_true,Datum.order]
   ·rw[gH rfl];rfl
   ·rw[eA (by omega)];rfl
   ·rw[ey (by omega)];rfl
   ·rw[gH rfl];rfl
def bl (b:Int):Int:=if b<0 then -(b+9223372036854775808) else b
theorem fP:Ieee.double.signWeight=9223372036854775808:=by decide
theorem kh:Ieee.double.infRung=9218868437227405312:=by decide
theorem yZ:Ieee.double.binade<=Ieee.double.infRung:=by decide
theorem lO {b:Int} (h:ax b):((wd b % 9223372036854775808:Nat):Int)=if b<0 then b+9223372036854775808 else b:=by
 unfold ax at h;unfold wd;split<;>omega
theorem kZ {b:Int} (h:ax b):(wd b/9223372036854775808 % 2 == 1)=decide (b<0):=by
 unfold ax at h;unfold wd
 rw[Bool.eq_iff_iff];simp only[beq_iff_eq,decide_eq_true_eq];omega
theorem jw {b:Int} (h:ax b):aR b=4↔9218868437227405312<wd b % 9223372036854775808:=by
 have:=lO h
 rw[Dq];unfold ax at h;unfold bZ cx
 split at this<;>omega
theorem qq {b:Int} (h:ax b):jI (wd b/9223372036854775808 % 2 == 1) (wd b % 9223372036854775808)=bl b:=by
 rw[kZ h];unfold jI bl;rw[lO h]
 by_cases hb:b<0<;>simp[hb]
theorem jP {a b:Int} (ha:ax a) (hb:ax b) (h1:¬ aR a=4) (h2:¬ aR b=4):FloatKind.f64.format.order (wd a) (wd b)=some (compare (bl a) (bl b)):=by
 rw[jw ha] at h1;rw[jw hb] at h2
 have:=vm Ieee.double yZ (wd a) (wd b) (by rw[fP,kh];omega) (by rw[fP,kh];omega)
 rw[fP,qq ha,qq hb] at this
 exact this
theorem eM {a b:Int} (ha:ax a) (hb:ax b) (h:aR a=4∨aR b=4):FloatKind.f64.format.order (wd a) (wd b)=none:=by
 refine vl Ieee.double yZ _ _ ?_
 rw[fP,kh]
 rcases h with h|h
 ·exact .inl ((jw ha).1 h)
 ·exact .inr ((jw hb).1 h)
def lc (a b:Int):Bool:=!decide (aR a=4)&&(!decide (aR b=4)&&decide (bl a<bl b))
def gh (a b:Int):Bool:=!decide (aR a=4)&&(!decide (aR b=4)&&decide (bl a=bl b))
theorem ud {a b:Int} (ha:ax a) (hb:ax b):(FloatKind.f64.format.order (wd a) (wd b) == some .lt)=lc a b:=by
 unfold lc
 by_cases h1:aR a=4
 ·rw[eM ha hb (.inl h1)];simp[h1]
 ·by_cases h2:aR b=4
  ·rw[eM ha hb (.inr h2)];simp[h2]
  ·rw[jP ha hb h1 h2]
   simp only[h1,h2,decide_false,Bool.not_false,Bool.true_and]
   rcases Int.lt_trichotomy (bl a) (bl b) with h|h|h
   ·rw[ey h];simp[h]
   ·rw[gH h];simp[h]
   ·rw[eA h];simp;omega
theorem mY {a b:Int} (ha:ax a) (hb:ax b):(FloatKind.f64.format.order (wd a) (wd b) == some .eq)=gh a b:=by
 unfold gh
 by_cases h1:aR a=4
 ·rw[eM ha hb (.inl h1)];simp[h1]
 ·by_cases h2:aR b=4
  ·rw[eM ha hb (.inr h2)];simp[h2]
  ·rw[jP ha hb h1 h2]
   simp only[h1,h2,decide_false,Bool.not_false,Bool.true_and]
   rcases Int.lt_trichotomy (bl a) (bl b) with h|h|h
   ·rw[ey h];simp;omega
   ·rw[gH h];simp[h]
   ·rw[eA h];simp;omega
def place (b:Int):Int:=if b<0 then -(b+9223372036854775808)-1 else b
def ue (a b:Int):Int:=if aR a=4 then (if aR b=4 then 0 else 1) else if aR b=4 then -1 else if place a<place b then -1 else if place b<place a then 1 else 0
end Go.Proofs.YtcklaogdjpbagaaGreatDoor.M
namespace Go.Proofs.YtcklaogdjpbagaaGreatDoor.M
open Go Go.Proofs.Tryz
def jz (mag:Int):Nat:=Lib.ctz 64 mag.toNat
def jo (mag:Int):Int:=mag/2^jz mag
def jl (mag:Int):Int:=Lib.bitLen (jo mag).toNat
def gQ (fr mag:Int):Int:=fr+1-jl mag
def cZ (fr least mag exp:Int):Int:=min (gQ fr mag) (exp+jz mag-least)
def gR (fr least mag exp:Int):Int:=exp+jz mag-cZ fr least mag exp-least
def dc (fr top least mag exp:Int):Bool:=decide (0<=gQ fr mag)&&(decide (least<=exp+jz mag)&&decide (gR fr least mag exp<=top-2))
def jk (fr top least mag exp:Int):Bool:=if mag<0 then false else if mag=0 then true else dc fr top least mag exp
def jv (fr top least mag exp:Int):Int:=if mag<=0 then 0 else if dc fr top least mag exp then gR fr least mag exp*2^fr.toNat+jo mag*2^(cZ fr least mag exp).toNat else 0
theorem eO (n:Nat) (h:n<2^64) (h0:n≠0):2^(Lib.bitLen n-1)<=n∧n<2^Lib.bitLen n∧1<=Lib.bitLen n∧Lib.bitLen n<=64:=by
 have hl:Lib.bitLen n<=64:=Lib.bitLen_le n 64 (by omega) h
 -- by halving
 have main:∀ f n:Nat,n<2^f->f<=64->n≠0->2^(Lib.bitLen n-1)<=n∧n<2^Lib.bitLen n∧1<=Lib.bitLen n:=by
  intro f
  induction f with
  | zero=>intro n h _ h0;simp at h;omega
  | succ f ih=>
   intro n h hf h0
   have h64:n<2^64:=Nat.lt_of_lt_of_le h (Nat.pow_le_pow_right (by decide) hf)
   have e:=Lib.bitLen_half n h0 h64
   by_cases h2:n/2=0
   ·have h1:n=1:=by omega
    subst h1
    have:Lib.bitLen 1=1:=by decide +kernel
    rw[this];decide
   ·obtain⟨a,b,c⟩:=ih (n/2) (by rw[Nat.pow_succ] at h;omega) (by omega) h2
    obtain⟨m,hm⟩:∃ m,Lib.bitLen (n/2)=m+1:=⟨Lib.bitLen (n/2)-1,by omega⟩
    rw[e,hm]
    rw[hm] at a b
    simp only[Nat.add_sub_cancel] at a
    refine⟨?_,?_,by omega⟩
    ·rw[show 1+(m+1)-1=m+1 by omega,Nat.pow_succ];omega
    ·rw[show 1+(m+1)=m+1+1 by omega,Nat.pow_succ];omega
 obtain⟨a,b,c⟩:=main 64 n h (by omega) h0
 exact⟨a,b,c,hl⟩
theorem vr (n k:Nat) (h:n<2^64) (h0:n≠0):n<2^k↔Lib.bitLen n<=k:=by
 obtain⟨a,b,c,d⟩:=eO n h h0
 constructor
 ·intro hk
  apply Nat.le_of_not_lt
  intro hlt
  have:2^k<=2^(Lib.bitLen n-1):=Nat.pow_le_pow_right (by decide) (by omega)
  omega
 ·intro hk
  exact Nat.lt_of_lt_of_le b (Nat.pow_le_pow_right (by decide) hk)
theorem fQ {mag:Int} (h0:0<mag) (h:mag<9223372036854775808):∃ m:Nat,mag=2^jz mag*(2*m+1)∧jz mag<63∧jo mag=2*m+1:=by
 unfold jo jz
 obtain⟨n,rfl⟩:=Int.eq_ofNat_of_zero_le (Int.le_of_lt h0)
 have hn:n≠0:=by omega
 simp only[Int.toNat_natCast]
 obtain⟨m,hm,hk⟩:=Lib.ctzFrom_spec 64 n (by omega) (by omega)
 have e:Lib.ctz 64 n=Lib.ctzFrom 64 n:=by simp[Lib.ctz,hn]
 rw[e]
 have hp:0<2^Lib.ctzFrom 64 n:=Nat.two_pow_pos _
 have hz:Lib.ctzFrom 64 n<63:=by
  apply Nat.lt_of_not_le
  intro hle
  have:2^63<=2^Lib.ctzFrom 64 n:=Nat.pow_le_pow_right (by decide) hle
  have:2^Lib.ctzFrom 64 n<=n:=by
   rw(occs:=.pos [2]) [hm]
   exact Nat.le_mul_of_pos_right _ (by omega)
  omega
 have hm':(n:Int)=2^Lib.ctzFrom 64 n*(2*(m:Int)+1):=by
  have:((2^Lib.ctzFrom 64 n*(2*m+1):Nat):Int)=2^Lib.ctzFrom 64 n*(2*(m:Int)+1):=by
   rw[Int.natCast_mul];simp
  rw[<- this,<- hm]
 refine⟨m,hm',hz,?_⟩
 have hpi:(0:Int)<2^Lib.ctzFrom 64 n:=Int.pow_pos (by decide)
 rw(occs:=.pos [1]) [hm']
 exact Int.mul_ediv_cancel_left _ (by omega)
theorem ki {mag:Int} (h0:0<mag) (h:mag<9223372036854775808):1<=jo mag∧jo mag<=mag:=by
 obtain⟨m,a,b,c⟩:=fQ h0 h
 have hp:(0:Int)<2^jz mag:=Int.pow_pos (by decide)
 have:(2*(m:Int)+1)*1<=(2*(m:Int)+1)*2^jz mag:=Int.mul_le_mul_of_nonneg_left (by omega) (by omega)
 rw[Int.mul_comm _ (2^jz mag),<- a] at this
 omega
theorem mZ {mag:Int} (h0:0<mag) (h:mag<9223372036854775808):1<=jl mag∧jl mag<=63:=by
 obtain⟨a,b⟩:=ki h0 h
 have s:=eO (jo mag).toNat (by omega) (by omega)
 unfold jl
 have:=(vr (jo mag).toNat 63 (by omega) (by omega)).1 (by omega)
 omega
theorem jx {fr mag:Int} (h0:0<mag) (h:mag<9223372036854775808) (hf:0<=fr) (s:Nat) (hs:(s:Int)<=gQ fr mag):1<=jo mag*2^s∧jo mag*2^s<2^(fr.toNat+1):=by
 obtain⟨a,b⟩:=ki h0 h
 have sp:=eO (jo mag).toNat (by omega) (by omega)
 unfold gQ jl at hs
 have hp:(0:Int)<2^s:=Int.pow_pos (by decide)
 constructor
 ·have:(1:Int)*1<=jo mag*2^s:=Int.mul_le_mul a (by omega) (by omega) (by omega)
  omega
 ·have h1:(jo mag).toNat*2^s<2^(Lib.bitLen (jo mag).toNat)*2^s:=Nat.mul_lt_mul_of_pos_right sp.2.1 (Nat.two_pow_pos _)
  rw[<- Nat.pow_add] at h1
  have h2:2^(Lib.bitLen (jo mag).toNat+s)<=2^(fr.toNat+1):=Nat.pow_le_pow_right (by decide) (by omega)
  have h3:(jo mag).toNat*2^s<2^(fr.toNat+1):=Nat.lt_of_lt_of_le h1 h2
  have h4:(((jo mag).toNat*2^s:Nat):Int)<((2^(fr.toNat+1):Nat):Int):=Int.ofNat_lt.2 h3
  rw[Int.natCast_mul,Int.toNat_of_nonneg (by omega)] at h4
  simpa using h4
theorem vt {mag exp:Int} (h0:0<mag) (h:mag<9223372036854775808) (hf:1025<exp):dc 52 2047 (-1074) mag exp=false:=by
 have:=mZ h0 h
 unfold dc gR cZ gQ
 simp;intro _ _;omega
theorem BZ {mag exp:Int} (hm:ax mag):0<=jv 52 2047 (-1074) mag exp∧jv 52 2047 (-1074) mag exp<9218868437227405312:=by
 unfold ax at hm
 unfold jv
 by_cases h0:mag<=0
 ·rw[if_pos h0];omega
 ·rw[if_neg h0]
  by_cases hk:dc 52 2047 (-1074) mag exp=true
  ·rw[if_pos hk]
   unfold dc at hk
   simp only[Bool.and_eq_true,decide_eq_true_eq] at hk
   have hl:=mZ (mag:=mag) (by omega) hm.2
   have hs:0<=cZ 52 (-1074) mag exp∧cZ 52 (-1074) mag exp<=gQ 52 mag:=by unfold cZ;omega
   have hb:=jx (fr:=52) (mag:=mag) (by omega) hm.2 (by omega) (cZ 52 (-1074) mag exp).toNat (by omega)
   have hb2:jo mag*2^(cZ 52 (-1074) mag exp).toNat<9007199254740992:=hb.2
   have ha:0<=gR 52 (-1074) mag exp:=by unfold gR cZ;omega
   -- a normal number's highest bit is counted into the field
   have e:(2:Int)^(52:Int).toNat=4503599627370496:=by decide
   rw[e]
   omega
  ·rw[if_neg hk];omega
theorem AV {mag:Int} (h0:0<mag) (h:mag<9223372036854775808) (k:Nat) (hk:k<jz mag):mag/2^k % 2=0∧mag/2^k/2=mag/2^(k+1)∧0<mag/2^k∧mag/2^k<9223372036854775808:=by
 obtain⟨m,a,b,c⟩:=fQ h0 h
 have hp:(0:Int)<2^k:=Int.pow_pos (by decide)
 have e1:mag/2^k=2^(jz mag-k)*(2*m+1):=by
  rw(occs:=.pos [1]) [a]
  rw[show jz mag=k+(jz mag-k) by omega,Int.pow_add,Int.mul_assoc]
  rw[show k+(jz mag-k)-k=jz mag-k by omega]
  exact Int.mul_ediv_cancel_left _ (by omega)
 have e2:(2:Int)^(jz mag-k)=2*2^(jz mag-k-1):=by
  rw[show jz mag-k=(jz mag-k-1)+1 by omega,Int.pow_succ,Int.mul_comm]
  simp
 have hq:(0:Int)<2^(jz mag-k):=Int.pow_pos (by decide)
 refine⟨?_,?_,?_,?_⟩
 ·rw[e1,e2,Int.mul_assoc];exact Int.mul_emod_right _ _
 ·rw[Int.pow_succ,Int.ediv_ediv_of_nonneg (by omega)]
 ·rw[e1];exact Int.mul_pos hq (by omega)
 ·have:mag/2^k<=mag:=Int.ediv_le_self _ (by omega)
  omega
theorem uf {mag:Int} (h0:0<mag) (h:mag<9223372036854775808):jo mag % 2=1:=by
 obtain⟨m,a,b,c⟩:=fQ h0 h
 omega
theorem lP {fr mag:Int} (h0:0<mag) (h:mag<9223372036854775808) (hf:0<=fr) (j:Nat):jo mag*2^j<2^fr.toNat↔(j:Int)<gQ fr mag:=by
 obtain⟨a,b⟩:=ki h0 h
 have sp:=eO (jo mag).toNat (by omega) (by omega)
 unfold gQ jl
 have hc:((((jo mag).toNat*2^j:Nat)):Int)=jo mag*2^j:=by
  rw[Int.natCast_mul,Int.toNat_of_nonneg (by omega)];simp
 have hd:((2^fr.toNat:Nat):Int)=2^fr.toNat:=by simp
 rw[<- hc,<- hd,Int.ofNat_lt]
 constructor
 ·intro hlt
  have h1:2^(Lib.bitLen (jo mag).toNat-1)*2^j<=(jo mag).toNat*2^j:=Nat.mul_le_mul_right _ sp.1
  rw[<- Nat.pow_add] at h1
  have h2:2^(Lib.bitLen (jo mag).toNat-1+j)<2^fr.toNat:=by omega
  have:=(Nat.pow_lt_pow_iff_right (by decide:1<2)).1 h2
  omega
 ·intro hlt
  have h1:(jo mag).toNat*2^j<2^(Lib.bitLen (jo mag).toNat)*2^j:=Nat.mul_lt_mul_of_pos_right sp.2.1 (Nat.two_pow_pos _)
  rw[<- Nat.pow_add] at h1
  exact Nat.lt_of_lt_of_le h1 (Nat.pow_le_pow_right (by decide) (by omega))
def sk (fr low mag exp:Int):Bool:=decide (0<=gQ fr mag)&&decide (low<=exp+jz mag)
def sm (fr low mag exp:Int):Int:=if sk fr low mag exp then jo mag*2^(cZ fr low mag exp).toNat else 0
def se (fr low mag exp:Int):Int:=if sk fr low mag exp then exp+jz mag-cZ fr low mag exp else 0
def jp (neg:Bool) (mag exp:Int):Int:=if jk 52 2047 (-1074) mag exp&&neg then jv 52 2047 (-1074) mag exp-9223372036854775808 else jv 52 2047 (-1074) mag exp
theorem ug {mag exp:Int} (h0:0<mag) (h:mag<9223372036854775808) (hf:exp < -2000):dc 52 2047 (-1074) mag exp=false:=by
 obtain⟨_,_,a,_⟩:=fQ h0 h
 unfold dc;simp;intro _ _;omega
theorem qt (mag exp:Int):dc 52 2047 (-1074) mag exp=(sk 52 (-1074) mag exp&&decide (se 52 (-1074) mag exp<=971)):=by
 unfold dc se gR
 by_cases h:sk 52 (-1074) mag exp=true
 ·rw[if_pos h,h]
  unfold sk at h
  simp only[Bool.and_eq_true,decide_eq_true_eq] at h
  simp only[h.1,h.2,decide_true,Bool.true_and]
  congr 1;apply propext;omega
 ·have h':sk 52 (-1074) mag exp=false:=by simpa using h
  rw[h']
  unfold sk at h'
  simp only[Bool.false_and]
  simp only[Bool.and_eq_false_iff,decide_eq_false_iff_not] at h' ⊢
  omega
theorem Ca {mag exp:Int} (h0:0<mag) (h:mag<9223372036854775808) (hk:sk 52 (-1074) mag exp=true) (he:se 52 (-1074) mag exp<=971) :
  1<=sm 52 (-1074) mag exp∧sm 52 (-1074) mag exp<9007199254740992∧-1074<=se 52 (-1074) mag exp ∧
  jv 52 2047 (-1074) mag exp=(if sm 52 (-1074) mag exp<4503599627370496 then sm 52 (-1074) mag exp else (se 52 (-1074) mag exp+1075)*4503599627370496+sm 52 (-1074) mag exp-4503599627370496):=by
 have hg:dc 52 2047 (-1074) mag exp=true:=by rw[qt,hk];simpa using he
 have hk':=hk
 unfold sk at hk'
 simp only[Bool.and_eq_true,decide_eq_true_eq] at hk'
 have hs:0<=cZ 52 (-1074) mag exp∧cZ 52 (-1074) mag exp<=gQ 52 mag∧cZ 52 (-1074) mag exp<=exp+jz mag+1074:=by unfold cZ;omega
 have hb:=jx (fr:=52) h0 h (by omega) (cZ 52 (-1074) mag exp).toNat (by omega)
 have hb2:jo mag*2^(cZ 52 (-1074) mag exp).toNat<9007199254740992:=hb.2
 have hd:=lP (fr:=52) h0 h (by omega) (cZ 52 (-1074) mag exp).toNat
 rw[show(2:Int)^(52:Int).toNat=4503599627370496 by decide] at hd
 have es:sm 52 (-1074) mag exp=jo mag*2^(cZ 52 (-1074) mag exp).toNat:=by unfold sm;rw[if_pos hk]
 have ee:se 52 (-1074) mag exp=exp+jz mag-cZ 52 (-1074) mag exp:=by unfold se;rw[if_pos hk]
 rw[es,ee]
 refine⟨hb.1,hb2,by omega,?_⟩
 unfold jv gR
 rw[if_neg (by omega),if_pos hg,show(2:Int)^(52:Int).toNat=4503599627370496 by decide]
 split
 ·rename_i hlt
  have:=hd.1 hlt
  have:cZ 52 (-1074) mag exp=exp+jz mag+1074:=by unfold cZ at *;omega
  omega
 ·omega
end Go.Proofs.YtcklaogdjpbagaaGreatDoor.M
namespace Go.Proofs.YtcklaogdjpbagaaGreatDoor.M
open Go Go.Proofs.Tryz Ieee
theorem gl (f:Format) (a n:Nat) (h:(a=0∧n<2*f.binade)∨(f.binade<=n∧n<2*f.binade)):V f (a*f.binade+n)=n*2^a:=by
 have hB:=fO f
 unfold V
 by_cases hn:n<f.binade
 ·have ha:a=0:=by omega
  subst ha
  rw[Nat.zero_mul,Nat.zero_add,if_pos hn];simp
 ·have hge:f.binade<=a*f.binade+n:=Nat.le_trans (by omega) (Nat.le_add_left _ _)
  rw[if_neg (by omega)]
  have e:a*f.binade+n=f.binade*(a+1)+(n-f.binade):=by
   rw[Nat.mul_add,Nat.mul_one,Nat.mul_comm];omega
  rw[e,Nat.mul_add_mod,Nat.mod_eq_of_lt (show n-f.binade<f.binade by omega),Nat.mul_add_div hB,Nat.div_eq_of_lt (show n-f.binade<f.binade by omega)]
  rw[show a+1+0-1=a by omega,show f.binade+(n-f.binade)=n by omega]
theorem Cb (f:Format) {r s:Nat} (h:V f r=V f s):r=s:=by
 rcases Nat.lt_trichotomy r s with h1|h1|h1
 ·have:=iA f h1;omega
 ·exact h1
 ·have:=iA f h1;omega
theorem oH (z:Nat) (n:Int) (u:Nat) (m:Nat) (hn:0<=n) (h:z<=u) (hm:(m:Int)=n*2^z):n.toNat*2^u=m*2^(u-z):=by
 obtain⟨k,rfl⟩:=Int.eq_ofNat_of_zero_le hn
 have hm':m=k*2^z:=by
  have:((k*2^z:Nat):Int)=(k:Int)*2^z:=by rw[Int.natCast_mul];simp
  omega
 rw[hm',Int.toNat_natCast,Nat.mul_assoc,<- Nat.pow_add,show z+(u-z)=u by omega]
theorem AW (f:Format) (fr:Nat) (hB:f.binade=2^fr) (top least mag exp:Int) (h0:0<mag) (h:mag<9223372036854775808)
    (hg:dc fr top least mag exp=true) (he:least<=exp):V f (jv fr top least mag exp).toNat=mag.toNat*2^(exp-least).toNat:=by
  obtain⟨m,ez,z63,eo⟩:=fQ h0 h
  have hg':=hg
  unfold dc at hg'
  simp only[Bool.and_eq_true,decide_eq_true_eq] at hg'
  have hs:0<=cZ fr least mag exp∧cZ fr least mag exp<=gQ fr mag∧cZ fr least mag exp<=exp+jz mag-least:=by unfold cZ;omega
  have hb:=jx (fr:=fr) h0 h (by omega) (cZ fr least mag exp).toNat (by omega)
  have hd:=lP (fr:=fr) h0 h (by omega) (cZ fr least mag exp).toNat
  have ha:0<=gR fr least mag exp:=by unfold gR;omega
  obtain⟨n,hn⟩:=Int.eq_ofNat_of_zero_le (show 0<=jo mag*2^(cZ fr least mag exp).toNat by omega)
  obtain⟨a,ha'⟩:=Int.eq_ofNat_of_zero_le ha
  rw[hn] at hb hd
  have hB1:((f.binade:Nat):Int)=2^fr:=by rw[hB];simp
  rw[Int.toNat_natCast,<- hB1] at hd
  have hb2:(n:Int)<2*(f.binade:Int):=by
    have:=hb.2
    rw[Int.toNat_natCast,Int.pow_succ,<- hB1] at this
    omega
  have ejv:(jv fr top least mag exp).toNat=a*f.binade+n:=by
    unfold jv
    rw[if_neg (by omega),if_pos hg,hn,ha',Int.toNat_natCast,<- hB1]
    have:((a:Int)*(f.binade:Int)+(n:Int))=((a*f.binade+n:Nat):Int):=by rw[Int.natCast_add,Int.natCast_mul]
    rw[this,Int.toNat_natCast]
  rw [ejv,gl f a n (by
    by_cases hn1:n<f.binade
    · left
      have:=hd.1 (by omega)
      have:gR fr least mag exp=0:=by unfold gR;unfold cZ at *;omega
      omega
    · right; omega)]
  -- n*2^a=mag*2^(exp-least)
  have e1:mag.toNat*2^(exp-least).toNat=(jo mag).toNat*2^(jz mag+(exp-least).toNat):=by
    have hm:((mag.toNat:Nat):Int)=jo mag*2^jz mag:=by
      rw[Int.toNat_of_nonneg (by omega),eo,Int.mul_comm];exact ez
    rw[oH (jz mag) (jo mag) (jz mag+(exp-least).toNat) mag.toNat (by omega) (by omega) hm]
    congr 2;omega
  have e2:n*2^a=(jo mag).toNat*2^((cZ fr least mag exp).toNat+a):=by
    rw[oH (cZ fr least mag exp).toNat (jo mag) ((cZ fr least mag exp).toNat+a) n (by omega) (by omega) (by rw[<- hn])]
    congr 2;omega
  rw[e1,e2]
  congr 2
  unfold gR at ha'
  omega
theorem Dl {mag:Int} (h0:0<mag) (h:mag<9223372036854775808) (k:Nat) (hk:mag<2^k):(jz mag:Int)+jl mag<=k:=by
 obtain⟨m,ez,z63,eo⟩:=fQ h0 h
 have hj:=ki h0 h
 have sp:=eO (jo mag).toNat (by omega) (by omega)
 have h1:2^(Lib.bitLen (jo mag).toNat-1)*2^jz mag<=(jo mag).toNat*2^jz mag:=Nat.mul_le_mul_right _ sp.1
 rw[<- Nat.pow_add] at h1
 have h2:(((jo mag).toNat*2^jz mag:Nat):Int)=mag:=by
  rw[Int.natCast_mul,Int.toNat_of_nonneg (by omega),eo,Int.mul_comm]
  simp only[Int.natCast_pow]
  exact ez.symm
 have h3:(jo mag).toNat*2^jz mag<2^k:=by
  have:((2^k:Nat):Int)=2^k:=by simp
  omega
 have h4:2^(Lib.bitLen (jo mag).toNat-1+jz mag)<2^k:=by omega
 have:=(Nat.pow_lt_pow_iff_right (by decide:1<2)).1 h4
 unfold jl
 omega
theorem sF {fr top least mag exp:Int} (h0:0<mag) (h:mag<9223372036854775808) (hf:0<=fr) (hk:mag<2^(fr.toNat+1)) (he:least<=exp) (he2:exp<=top-2+least):dc fr top least mag exp=true:=by
 have hl:=Dl h0 h (fr.toNat+1) hk
 have:=mZ h0 h
 unfold dc gR cZ gQ
 simp only[Bool.and_eq_true,decide_eq_true_eq]
 omega
/-! binary64 -/
def rg (b:Int):Int:=if b<0 then b+9223372036854775808 else b
theorem fh {b:Int} (h:ax b):0<=rg b∧rg b=bZ b*4503599627370496+cx b:=by
 unfold ax at h;unfold rg bZ cx;split<;>omega
theorem qu {b:Int} (h:aF b=true):bZ b≠2047:=by simpa [aF] using h
theorem dB:Ieee.double.binade=2^52:=by decide
theorem AX {b:Int} (hb:ax b) (hp:aF b=true):V Ieee.double (rg b).toNat=(bL b).toNat*2^(bM b+1074).toNat:=by
 have hne:=qu hp
 obtain⟨r0,r1⟩:=fh hb
 have hf:=iX b
 have ht:=iY b
 by_cases h0:bZ b=0
 ·have e:(rg b).toNat=0*Ieee.double.binade+(cx b).toNat:=by omega
  rw[e,gl _ _ _ (.inl ⟨rfl,by rw[dB];omega⟩)]
  simp[bL,bM,h0]
 ·have e:(rg b).toNat=(bZ b-1).toNat*Ieee.double.binade+(4503599627370496+cx b).toNat:=by rw[dB];omega
  rw[e,gl _ _ _ (.inr (by rw[dB];omega))]
  unfold bL bM
  rw[if_neg hne,if_neg h0,if_neg hne,if_neg h0]
  congr 2;omega
/-! binary32 -/
theorem sB:Ieee.single.binade=2^23:=by decide
def rU (mag:Nat) (sh:Int):Nat:=if sh<=0 then mag*2^(-sh).toNat else mag/2^sh.toNat
def rL (mag:Nat) (cut:Bool) (sh:Int):Int :=
 if sh<=0 then 0 else if mag % 2^sh.toNat=0∧cut=false then 0 else if 2*(mag % 2^sh.toNat)<2^sh.toNat then 1 else if 2*(mag % 2^sh.toNat)=2^sh.toNat∧cut=false then 2 else 3
def rE (size low:Int) (mag:Nat) (exp:Int):Int:=max (exp+(Lib.bitLen mag:Int)-size) low
def cI (way:Int) (neg odd:Bool) (left:Int):Bool :=
 if way=0 then decide (left=3)||(decide (left=2)&&odd) else if way=1 then decide (left≠0)&&neg else if way=2 then decide (left≠0)&&!neg else false
def ld (A:Int) (mag:Nat) (exp:Int) (cut:Bool):Prop:=(mag:Int)*pw exp<=A∧A<((mag:Int)+1)*pw exp∧(cut=false↔A=(mag:Int)*pw exp)
structure kj (A:Int) (u:Nat) (q:Int) (left:Int):Prop where
 lo:(u:Int)*q<=A
 hi:A<(u:Int)*q+q
 l0:left=0↔A=(u:Int)*q
 l1:left=1↔(u:Int)*q<A∧2*A<2*((u:Int)*q)+q
 l2:left=2↔2*A=2*((u:Int)*q)+q
 l3:left=3↔2*((u:Int)*q)+q<2*A
theorem kj.mk' {A U q left:Int} {u:Nat} (hU:(u:Int)*q=U) (lo:U<=A) (hi:A<U+q) (l0:left=0↔A=U) (l1:left=1↔U<A∧2*A<2*U+q) (l2:left=2↔2*A=2*U+q) (l3:left=3↔2*U+q<2*A):kj A u q left:=by
 subst hU
 exact⟨lo,hi,l0,l1,l2,l3⟩
theorem xu (n:Nat) (h:0<n):∃ k,2^n=2*k∧0<k:=⟨2^(n-1),by rw[<- Nat.pow_succ',Nat.succ_eq_add_one,Nat.sub_add_cancel h],Nat.two_pow_pos _⟩
theorem tl {A:Int} {mag:Nat} {exp e:Int} {cut:Bool} (h:ld A mag exp cut) (hc:cut=true->0<e-exp) (h0:-4194304<=e) (h1:-4194304<=exp):kj A (rU mag (e-exp)) (pw e) (rL mag cut (e-exp)):=by
 obtain⟨a1,a2,a3⟩:=h
 have hq:=ct exp
 have hqe:=ct e
 by_cases hs:e-exp<=0
 ·have hcf:cut=false:=by cases cut;rfl;have:=hc rfl;omega
  have hA:=a3.1 hcf
  unfold rU rL
  rw[if_pos hs,if_pos hs]
  have e1:((mag*2^(-(e-exp)).toNat:Nat):Int)*pw e=A:=by
   rw[hA,iZ (e:=exp) (low:=e) h0 (by omega),show(exp-e).toNat=(-(e-exp)).toNat by omega]
   push_cast
   rw[Int.mul_assoc]
  exact⟨by rw[e1];omega,by rw[e1];omega,by rw[e1];simp,by rw[e1];constructor<;>intro h<;>omega,by rw[e1];constructor<;>intro h<;>omega,by rw[e1];constructor<;>intro h<;>omega⟩
 ·have hp:pw e=2^(e-exp).toNat*pw exp:=iZ h1 (by omega)
  obtain⟨s,hsn⟩:∃ s,(e-exp).toNat=s:=⟨_,rfl⟩
  have hs0:0<s:=by omega
  unfold rU rL
  rw[if_neg hs,if_neg hs,hsn]
  rw[hsn] at hp
  obtain⟨k,hk,hk0⟩:=xu s hs0
  have hpn:(2:Int)^s=((2^s:Nat):Int):=by simp
  rw[hpn,hk] at hp
  rw[hk]
  have hdm:=Nat.div_add_mod mag (2*k)
  have hml:=Nat.mod_lt mag (show 0<2*k by omega)
  generalize mag/(2*k)=u at *
  generalize mag % (2*k)=t at *
  generalize hQ:pw exp=q at *
  have e1:(mag:Int)*q=(u:Int)*(((2*k:Nat):Int)*q)+(t:Int)*q:=by
   rw[<- hdm];push_cast;rw[Int.add_mul];congr 1;rw[Int.mul_comm (2*(k:Int)) u,Int.mul_assoc]
  have e2:((mag:Int)+1)*q=(mag:Int)*q+q:=by rw[Int.add_mul,Int.one_mul]
  rw[e2,e1] at a2
  rw[e1] at a1 a3
  rw[hp]
  have e3:((2*k:Nat):Int)*q=2*((k:Int)*q):=by push_cast;rw[Int.mul_assoc]
  have t1:∀ x y:Nat,x<=y->(x:Int)*q<=(y:Int)*q:=fun x y h=>Int.mul_le_mul_of_nonneg_right (by omega) (by omega)
  have t2:∀ x y:Nat,x<y->(x:Int)*q+q<=(y:Int)*q:=fun x y h=>by
   have:=t1 (x+1) y h
   push_cast at this
   rwa [Int.add_mul,Int.one_mul] at this
  have t0:0<=(t:Int)*q:=Int.mul_nonneg (by omega) (by omega)
  have b1:(t:Int)*q+q<=2*((k:Int)*q):=by rw[<- e3];exact t2 t (2*k) hml
  rw[e3] at a1 a2 a3 ⊢
  have c1:t<k->(t:Int)*q+q<=(k:Int)*q:=t2 t k
  have c2:t=k->(t:Int)*q=(k:Int)*q:=fun h=>by rw[h]
  have c3:k<t->(k:Int)*q+q<=(t:Int)*q:=t2 k t
  have c4:t=0->(t:Int)*q=0:=fun h=>by rw[h];simp
  have c5:0<t->q<=(t:Int)*q:=fun h=>by have:=t1 1 t h;rwa [Int.natCast_one,Int.one_mul] at this
  clear e1 e2 e3 t1 t2 hp
  obtain⟨T,hT⟩:∃ T,(t:Int)*q=T:=⟨_,rfl⟩
  obtain⟨K,hK⟩:∃ K,(k:Int)*q=K:=⟨_,rfl⟩
  obtain⟨U,hU⟩:∃ U,(u:Int)*(2*K)=U:=⟨_,rfl⟩
  rw[hT] at c1 c2 c3 c4 c5 t0 b1 a1 a2 a3
  rw[hK] at c1 c2 c3 b1 a1 a2 a3 ⊢
  rw[hU] at a1 a2 a3
  have a3':cut=true->A≠U+T:=fun h h2=>by rw[a3.2 h2] at h;cases h
  cases cut
  ·have hA:=a3.1 rfl
   subst hA
   by_cases z0:t=0
   ·have:=c4 z0
    rw[if_pos ⟨z0,rfl⟩]
    exact kj.mk' hU (by omega) (by omega) (by constructor<;>intro h<;>omega) (by constructor<;>intro h<;>omega) (by constructor<;>intro h<;>omega) (by constructor<;>intro h<;>omega)
   ·have:=c5 (by omega)
    rw[if_neg (fun h=>z0 h.1)]
    by_cases z1:t<k
    ·have:=c1 z1
     rw[if_pos (by omega)]
     exact kj.mk' hU (by omega) (by omega) (by constructor<;>intro h<;>omega) (by constructor<;>intro h<;>omega) (by constructor<;>intro h<;>omega) (by constructor<;>intro h<;>omega)
    ·rw[if_neg (by omega)]
     by_cases z2:t=k
     ·have:=c2 z2
      rw[if_pos ⟨by omega,rfl⟩]
      exact kj.mk' hU (by omega) (by omega) (by constructor<;>intro h<;>omega) (by constructor<;>intro h<;>omega) (by constructor<;>intro h<;>omega) (by constructor<;>intro h<;>omega)
     ·have:=c3 (by omega)
      rw[if_neg (fun h=>z2 (by omega))]
      exact kj.mk' hU (by omega) (by omega) (by constructor<;>intro h<;>omega) (by constructor<;>intro h<;>omega) (by constructor<;>intro h<;>omega) (by constructor<;>intro h<;>omega)
  ·have hA:=a3' rfl
   rw[if_neg (fun h=>by cases h.2)]
   by_cases z1:t<k
   ·have:=c1 z1
    rw[if_pos (by omega)]
    exact kj.mk' hU (by omega) (by omega) (by constructor<;>intro h<;>omega) (by constructor<;>intro h<;>omega) (by constructor<;>intro h<;>omega) (by constructor<;>intro h<;>omega)
   ·rw[if_neg (by omega),if_neg (fun h=>by cases h.2)]
    have hkt:K<=T:=by
     by_cases z2:t=k
     ·have:=c2 z2;omega
     ·have:=c3 (by omega);omega
    exact kj.mk' hU (by omega) (by omega) (by constructor<;>intro h<;>omega) (by constructor<;>intro h<;>omega) (by constructor<;>intro h<;>omega) (by constructor<;>intro h<;>omega)
theorem zM {size low:Int} {mag:Nat} {exp:Int} (hs:0<size) (h:mag<2^64) (h0:mag≠0):rU mag (rE size low mag exp-exp)<2^size.toNat∧(low<rE size low mag exp->2^(size.toNat-1)<=rU mag (rE size low mag exp-exp)):=by
 obtain⟨b1,b2,b3,b4⟩:=eO mag h h0
 obtain⟨n,hn⟩:∃ n,Lib.bitLen mag=n:=⟨_,rfl⟩
 obtain⟨z,rfl⟩:∃ z:Nat,size=z:=⟨size.toNat,by omega⟩
 unfold rE rU
 rw[hn] at b1 b2 b3 b4 ⊢
 rw[Int.toNat_natCast]
 obtain⟨e,he⟩:∃ e,max (exp+(n:Int)-(z:Int)) low=e:=⟨_,rfl⟩
 have he1:exp+n-z<=e:=by omega
 have he2:low<e->e=exp+n-z:=by omega
 rw[he]
 by_cases hse:e-exp<=0
 ·rw[if_pos hse]
  obtain⟨k,hk⟩:∃ k,(-(e-exp)).toNat=k:=⟨_,rfl⟩
  rw[hk]
  refine⟨?_,fun hl=>?_⟩
  ·calc mag*2^k<2^n*2^k:=Nat.mul_lt_mul_of_pos_right b2 (Nat.two_pow_pos k)
    _=2^(n+k):=by rw[Nat.pow_add]
    _<=2^z:=Nat.pow_le_pow_right (by decide) (by omega)
  ·have:=he2 hl
   calc 2^(z-1)<=2^(n-1+k):=Nat.pow_le_pow_right (by decide) (by omega)
    _=2^(n-1)*2^k:=by rw[Nat.pow_add]
    _<=mag*2^k:=Nat.mul_le_mul_right _ b1
 ·rw[if_neg hse]
  obtain⟨k,hk⟩:∃ k,(e-exp).toNat=k:=⟨_,rfl⟩
  rw[hk]
  refine⟨?_,fun hl=>?_⟩
  ·rw[Nat.div_lt_iff_lt_mul (Nat.two_pow_pos k),<- Nat.pow_add]
   exact Nat.lt_of_lt_of_le b2 (Nat.pow_le_pow_right (by decide) (by omega))
  ·have:=he2 hl
   rw[Nat.le_div_iff_mul_le (Nat.two_pow_pos k),<- Nat.pow_add]
   exact Nat.le_trans (Nat.pow_le_pow_right (by decide) (by omega)) b1
theorem lh (f:Format) (a u:Nat) (h:u<2*f.binade) (h2:0<a->f.binade<=u):V f (a*f.binade+u)=u*2^a∧V f (a*f.binade+u+1)=(u+1)*2^a:=by
 have hB:=fO f
 refine⟨gl f a u (by by_cases ha:a=0<;>omega),?_⟩
 by_cases hu:u+1<2*f.binade
 ·rw[Nat.add_assoc]
  exact gl f a (u+1) (by by_cases ha:a=0<;>omega)
 ·have e:a*f.binade+u+1=(a+1)*f.binade+f.binade:=by rw[Nat.add_mul];omega
  rw[e,gl f (a+1) f.binade (by omega),Nat.pow_succ,show u+1=f.binade*2 by omega,Nat.mul_assoc,Nat.mul_comm (2^a) 2]
theorem vu {mag:Int} (h0:0<mag) (h:mag<9223372036854775808) (k:Nat) (hk:2^k<=mag):(k:Int)+1<=(jz mag:Int)+jl mag:=by
 obtain⟨m,ez,z63,eo⟩:=fQ h0 h
 have hj:=ki h0 h
 have sp:=eO (jo mag).toNat (by omega) (by omega)
 have h1:(jo mag).toNat*2^jz mag<2^Lib.bitLen (jo mag).toNat*2^jz mag:=Nat.mul_lt_mul_of_pos_right sp.2.1 (Nat.two_pow_pos _)
 rw[<- Nat.pow_add] at h1
 have h2:(((jo mag).toNat*2^jz mag:Nat):Int)=mag:=by
  rw[Int.natCast_mul,Int.toNat_of_nonneg (by omega),eo,Int.mul_comm]
  simp only[Int.natCast_pow]
  exact ez.symm
 have h3:2^k<=(jo mag).toNat*2^jz mag:=by
  have:((2^k:Nat):Int)=2^k:=by simp
  omega
 have h4:2^k<2^(Lib.bitLen (jo mag).toNat+jz mag):=by omega
 have:=(Nat.pow_lt_pow_iff_right (by decide:1<2)).1 h4
 unfold jl
 omega
theorem tm (n:Nat):(0:Int)<=2^n:=Int.le_of_lt (aJ n)
theorem oI (f:Format) (fr:Nat) (hfr:fr<=60) (hB:f.binade=2^fr) (top least:Int) (ht:2<=top) (u:Nat) (e:Int) (h0:0<u) (hu:u<=2^(fr+1)) (he:least<=e) (hn:least<e->2^fr<=u) :
  let rung:=(e-least).toNat*2^fr+u
  jk fr top least (u:Int) e=decide ((rung:Int)<top*2^fr)∧((rung:Int)<top*2^fr->jv fr top least (u:Int) e=rung):=by
 intro rung
 have hp60:2^(fr+1)<=2^61:=Nat.pow_le_pow_right (by decide) (by omega)
 have hu63:(u:Int)<9223372036854775808:=by
  have:(2:Nat)^61=2305843009213693952:=by decide
  omega
 have hu0:(0:Int)<(u:Int):=by omega
 have hP:0<2^fr:=Nat.two_pow_pos fr
 have hPi:((2^fr:Nat):Int)=2^fr:=by simp
 have hlo:=mZ hu0 hu63
 have hJ:dc fr top least (u:Int) e=decide ((rung:Int)<top*2^fr):=by
  obtain⟨a,ha⟩:∃ a,(e-least).toNat=a:=⟨_,rfl⟩
  have hr:(rung:Int)=(a:Int)*2^fr+u:=by simp only[rung,ha];push_cast;rfl
  rw[hr]
  by_cases hlt:u<2^(fr+1)
  ·by_cases hea:(a:Int)<=top-2
   ·have g:=sF (fr:=(fr:Int)) (top:=top) (least:=least) (exp:=e) hu0 hu63 (by omega) (by rw[Int.toNat_natCast];exact_mod_cast hlt) he (by omega)
    rw[g]
    have:(a:Int)*2^fr<=(top-2)*2^fr:=Int.mul_le_mul_of_nonneg_right hea (by omega)
    have e2:(top-2)*2^fr=top*2^fr-2*2^fr:=by rw[Int.sub_mul]
    have hu2:(u:Int)<2*2^fr:=by rw[Nat.pow_succ] at hlt;omega
    exact(decide_eq_true (by omega)).symm
   ·have hge:=hn (by omega)
    have g2:=vu hu0 hu63 fr (by rw[<- hPi];omega)
    have g:dc fr top least (u:Int) e=false:=by
     unfold dc gR cZ gQ
     simp only[Bool.and_eq_false_iff,decide_eq_false_iff_not]
     omega
    rw[g]
    have:(top-1)*2^fr<=(a:Int)*2^fr:=Int.mul_le_mul_of_nonneg_right (by omega) (by omega)
    have e2:(top-1)*2^fr=top*2^fr-2^fr:=by rw[Int.sub_mul,Int.one_mul]
    exact(decide_eq_false (by omega)).symm
  ·have hue:u=2^(fr+1):=by omega
   have hpp:2^(fr+1)<2^(fr+2):=Nat.pow_lt_pow_right (by decide) (by omega)
   have g1:=Dl hu0 hu63 (fr+2) (by rw[hue];exact_mod_cast hpp)
   have g2:=vu hu0 hu63 (fr+1) (by rw[hue];simp)
   have hu2:(u:Int)=2*2^fr:=by rw[hue,Nat.pow_succ];push_cast;omega
   have hjo:jl (u:Int)<=fr+1:=by
    obtain⟨mm,ez,z63,eo⟩:=fQ hu0 hu63
    by_cases hz:jz (u:Int)=0
    ·exfalso
     rw[hz] at ez
     rw[hu2] at ez
     simp at ez
     omega
    ·omega
   by_cases hea:(a:Int)<=top-3
   ·have g:dc fr top least (u:Int) e=true:=by
     unfold dc gR cZ gQ
     simp only[Bool.and_eq_true,decide_eq_true_eq]
     omega
    rw[g]
    have:(a:Int)*2^fr<=(top-3)*2^fr:=Int.mul_le_mul_of_nonneg_right hea (by omega)
    have e2:(top-3)*2^fr=top*2^fr-3*2^fr:=by rw[Int.sub_mul]
    exact(decide_eq_true (by omega)).symm
   ·have g:dc fr top least (u:Int) e=false:=by
     unfold dc gR cZ gQ
     simp only[Bool.and_eq_false_iff,decide_eq_false_iff_not]
     omega
    rw[g]
    have:(top-2)*2^fr<=(a:Int)*2^fr:=Int.mul_le_mul_of_nonneg_right (by omega) (by omega)
    have e2:(top-2)*2^fr=top*2^fr-2*2^fr:=by rw[Int.sub_mul]
    exact(decide_eq_false (by omega)).symm
 refine⟨?_,fun hlt=>?_⟩
 ·unfold jk
  rw[if_neg (by omega),if_neg (by omega)]
  exact hJ
 ·have hg:dc fr top least (u:Int) e=true:=by rw[hJ];exact decide_eq_true hlt
  have hv:=AW f fr hB top least (u:Int) e hu0 hu63 hg he
  rw[Int.toNat_natCast] at hv
  have hj0:0<=jv fr top least (u:Int) e:=by
   unfold jv
   rw[if_neg (by omega),if_pos hg]
   have h1:=ki hu0 hu63
   have h2:0<=gR fr least (u:Int) e:=by unfold gR cZ;unfold dc at hg;simp only[Bool.and_eq_true,decide_eq_true_eq] at hg;omega
   have h3:(0:Int)<=2^(fr:Int).toNat:=tm _
   have h4:(0:Int)<=2^(cZ fr least (u:Int) e).toNat:=tm _
   have:=Int.mul_nonneg h2 h3
   have:=Int.mul_nonneg (show 0<=jo (u:Int) by omega) h4
   omega
  have hV:V f rung=u*2^(e-least).toNat:=by
   show V f ((e-least).toNat*2^fr+u)=_
   rw[<- hB]
   by_cases hlt2:u<2^(fr+1)
   ·exact(lh f (e-least).toNat u (by rw[hB];rw[Nat.pow_succ] at hlt2;omega) (fun h=>by rw[hB];exact hn (by omega))).1
   ·have hue:u=2*f.binade-1+1:=by rw[hB];rw[Nat.pow_succ] at hu hlt2;omega
    have hb:=fO f
    have:=(lh f (e-least).toNat (2*f.binade-1) (by omega) (fun h=>by omega)).2
    rw[<- hue,Nat.add_assoc,<- hue] at this
    exact this
  have:=Cb f (hv.trans hV.symm)
  omega
end Go.Proofs.YtcklaogdjpbagaaGreatDoor.M
namespace Go.Proofs.YtcklaogdjpbagaaGreatDoor
open Go Go.Proofs.Tryz Go.RowKit Go.Proofs.YtcklaogdjpbagaaGreatDoor.M
structure aS (w:World) (ao:Option Addr) (n cap:Nat) (d:Nat->Int):Prop where
 le:n<=cap
 max:cap<=9223372036854775807
 nl:ao=none->cap=0
 spot:0<n->∃ b off,ao=some ⟨b,off,none⟩∧b<w.heap.size∧∀ i,i<n->w.cell? ⟨b,off+i,none⟩=some (.int .i64 (d i))
def cF (w:World) (g N:Nat) (r:Nat->Int):Prop :=
 ∃ cur,w.heap[g]?=some (.cells cur 3 (0,0))∧cur.size=N∧∀ i,i<N->cur[i]?=some (.int .i64 (r i))
def fz (d:Nat->Int) (n:Nat):List Value:=(List.range n).map fun i=>.int .i64 (d i)
theorem dw (d:Nat->Int) (n:Nat):(fz d n).length=n:=by simp[fz]
theorem gi (d:Nat->Int) {n i:Nat} (h:i<n):(fz d n)[i]?=some (.int .i64 (d i)):=by simp[fz,h]
theorem xw (d:Nat->Int) (n:Nat):∀ u ∈ fz d n,u.oneCell'=true:=by
 intro u hu
 obtain⟨_,_,rfl⟩:=List.mem_map.1 hu
 rfl
theorem kl {xs:List Value} {d:Nat->Int} {n:Nat} (hl:xs.length=n) (h:∀ i,i<n->xs[i]?=some (.int .i64 (d i))):xs=fz d n:=by
 apply List.ext_getElem?
 intro i
 by_cases hi:i<n
 ·rw[h i hi,gi d hi]
 ·rw[List.getElem?_eq_none (by omega),List.getElem?_eq_none (by rw[dw];omega)]
def cy (B:Nat) (w:World) (v:Value) (n:Nat) (d:Nat->Int):Prop:=w.ownsRow B 3 1 v n (fz d n)
theorem aS.stays {w w':World} {ao:Option Addr} {n cap:Nat} {d:Nat->Int} (h:aS w ao n cap d) {B:Nat} (hb:Below B w w') (hB:w.heap.size<=B):aS w' ao n cap d :=
  ⟨h.le,h.max,h.nl,fun hn=>by
    obtain⟨b,off,rfl,hlt,hc⟩:=h.spot hn
    exact ⟨b,off,rfl,Nat.lt_of_lt_of_le hlt hb.size,fun i hi=>(hb.cell (p:=⟨b,off+i,none⟩) (Nat.lt_of_lt_of_le hlt hB)).trans (hc i hi)⟩⟩
theorem aS.keeps {w w':World} {ao:Option Addr} {n cap:Nat} {d:Nat->Int} (h:aS w ao n cap d) (hb:Below w.heap.size w w'):aS w' ao n cap d:=h.stays hb (Nat.le_refl _)
theorem aS.nil (w:World) (d:Nat->Int):aS w none 0 0 d:=⟨Nat.le_refl _,by decide,fun _=>rfl,fun h=>by omega⟩
theorem aS.alloc {w:World} {ao:Option Addr} {n cap:Nat} {d:Nat->Int} (h:aS w ao n cap d) (o:Obj):aS (w.alloc o) ao n cap d:=h.keeps ((Below.refl _ _).alloc (Nat.le_refl _) _)
theorem cF.cell {w:World} {g N:Nat} {r:Nat->Int} (h:cF w g N r) {i:Nat} (hi:i<N):w.cell? ⟨g,i,none⟩=some (.int .i64 (r i)):=by
 obtain⟨cur,hg,hs,hc⟩:=h
 rw[cell_of_row w g i cur _ _ hg];exact hc i hi
theorem cF.frozen {w:World} {g N:Nat} {r:Nat->Int} (h:cF w g N r) (i:Nat):w.frozen? ⟨g,i,none⟩=false:=by
 obtain⟨cur,hg,hs,hc⟩:=h
 exact frozen_of_row w g i cur _ hg
theorem cF.lt {w:World} {g N:Nat} {r:Nat->Int} (h:cF w g N r):g<w.heap.size:=by
 obtain⟨cur,hg,hs,hc⟩:=h
 exact(aGe hg).1
theorem cF.store {w:World} {g N:Nat} {r:Nat->Int} (h:cF w g N r) (i:Nat) (x:Int):cF (w.setCell ⟨g,i,none⟩ (.int .i64 x)) g N (cW r i x):=by
 obtain⟨cur,hg,hs,hc⟩:=h
 refine⟨cur.setIfInBounds i (.int .i64 x),heap_setCell_same w g i cur _ _ hg,by simpa using hs,fun j hj=>?_⟩
 by_cases hji:j=i
 ·subst hji;rw[ck,Array.getElem?_setIfInBounds_self_of_lt (by omega)]
 ·rw[bD r x hji,Array.getElem?_setIfInBounds_ne (by omega)];exact hc j hj
theorem cF.of_block {w w':World} {g N:Nat} {r:Nat->Int} (h:cF w g N r) (hb:w'.heap[g]?=w.heap[g]?):cF w' g N r:=by
 obtain⟨cur,hg,hs,hc⟩:=h
 exact⟨cur,hb.trans hg,hs,hc⟩
theorem cF.stays {w w':World} {g N:Nat} {r:Nat->Int} (h:cF w g N r) {B:Nat} (hb:Below B w w') (hB:g<B):cF w' g N r:=h.of_block (hb.block g hB)
theorem cF.keeps {w w':World} {g N:Nat} {r:Nat->Int} (h:cF w g N r) (hb:Below w.heap.size w w'):cF w' g N r:=h.stays hb h.lt
theorem cF.alloc {w:World} {g N:Nat} {r:Nat->Int} (h:cF w g N r) (o:Obj):cF (w.alloc o) g N r:=h.of_block (Below.heap_alloc w o g h.lt)
theorem cF.row0 {w:World} {g N:Nat} {r:Nat->Int} (h:cF w g N r) {n:Nat} (hn:n<=N) (hm:N<=9223372036854775807):aS w (some ⟨g,0,none⟩) n N r :=
 ⟨hn,hm,(fun e=>by cases e),fun _=>⟨g,0,rfl,h.lt,fun i hi=>by rw[Nat.zero_add];exact h.cell (by omega)⟩⟩
theorem cF.out {w:World} {g N:Nat} {r:Nat->Int} (h:cF w g N r) {B n:Nat} (hB:B<=g) (hn:n<=N) (hm:N<=9223372036854775807):cy B w (.slice (some ⟨g,0,none⟩) n N) n r:=by
 obtain⟨cur,hg,hs,hc⟩:=h
 refine⟨by rw[dw];omega,.inr ⟨g,N,cur,rfl,hB,hg,hn,by unfold maxLen;omega,by omega,?_⟩⟩
 apply kl (by simp;omega)
 intro i hi
 rw[List.getElem?_take,if_pos (by omega),Array.getElem?_toList]
 exact hc i (by omega)
theorem cF.made {w:World} {B g N:Nat} (h:w.ownsRow B 3 1 (.slice (some ⟨g,0,none⟩) N N) N (madeCells (Value.int .i64 0).cells (N*1)).toList):cF w g N (fun _=>0):=by
 rcases h.2 with⟨h',_⟩|⟨g',cap',cur,h',_,hg,_,_,hs,htake⟩
 ·simp at h'
 ·simp only[Value.slice.injEq,Option.some.injEq,Addr.mk.injEq,and_true,true_and] at h'
  obtain⟨rfl,rfl⟩:=h'
  refine⟨cur,hg,by omega,fun i hi=>?_⟩
  have e:cur.toList[i]?=(madeCells (Value.int .i64 0).cells (N*1)).toList[i]?:=by
   rw[<- htake,List.getElem?_take,if_pos (by omega)]
  rw[Array.getElem?_toList] at e
  rw[e]
  show(madeCells #[Value.int .i64 0] (N*1)).toList[i]?=_
  rw[Nat.mul_one,toList_madeCells_one]
  simp[hi]
theorem cF.new (w:World) (xs:Array Value) (r:Nat->Int) (h:∀ i,i<xs.size->xs[i]?=some (.int .i64 (r i))):cF (w.alloc (.cells xs 3)) w.heap.size xs.size r :=
 ⟨xs,heap_alloc_new w _,rfl,h⟩
theorem cy.row {B:Nat} {w:World} {v:Value} {n:Nat} {d:Nat->Int} (h:cy B w v n d):∃ ao cap,v=.slice ao n cap∧aS w ao n cap d:=by
 rcases h.2 with⟨rfl,rfl⟩|⟨g,cap,cur,rfl,hb,hg,hn,hm,hs,ht⟩
 ·exact⟨none,0,rfl,aS.nil _ _⟩
 ·refine⟨_,cap,rfl,hn,by unfold maxLen at hm;exact hm,(fun e=>by cases e),fun _=>⟨g,0,rfl,(aGe hg).1,fun i hi=>?_⟩⟩
  rw[Nat.zero_add,cell_of_row w g i cur _ _ hg]
  have e:(cur.toList.take (n*1))[i]?=(fz d n)[i]?:=by rw[ht]
  rw[List.getElem?_take,if_pos (by omega),gi d hi,Array.getElem?_toList] at e
  exact e
theorem cy.nil (B:Nat) (w:World) (d:Nat->Int):cy B w (.slice none 0 0) 0 d:=World.ownsRow_nil _ _ _ _
theorem cy.stays {B:Nat} {w w':World} {v:Value} {n:Nat} {d:Nat->Int} (h:cy B w v n d) (hb:Below w.heap.size w w'):cy B w' v n d:=by
 refine⟨h.1,?_⟩
 rcases h.2 with hn|⟨g,cap,cur,rfl,hbb,hg,rest⟩
 ·exact .inl hn
 ·exact .inr ⟨g,cap,cur,rfl,hbb,(hb.block g (aGe hg).1).trans hg,rest⟩
theorem cy.lower {B B':Nat} {w:World} {v:Value} {n:Nat} {d:Nat->Int} (h:cy B w v n d) (hB:B'<=B):cy B' w v n d:=by
 refine⟨h.1,?_⟩
 rcases h.2 with hn|⟨g,cap,cur,rfl,hbb,rest⟩
 ·exact .inl hn
 ·exact .inr ⟨g,cap,cur,rfl,by omega,rest⟩
theorem cy.congr {B:Nat} {w:World} {v:Value} {n:Nat} {d e:Nat->Int} (h:cy B w v n d) (he:∀ i,i<n->d i=e i):cy B w v n e:=by
 unfold cy at h ⊢
 rwa [show fz e n=fz d n from(kl (dw d n) fun i hi=>by rw[gi d hi,he i hi]).symm]
theorem ac {a b c:World} (h:Below a.heap.size a b) (k:Below b.heap.size b c):Below a.heap.size a c:=h.trans (k.mono h.size)
theorem al (w:World):Below w.heap.size w w:=Below.refl _ _
theorem aO {B:Nat} {a w:World} (h:Below B a w) (n:Nat):Below B a (w.drewN n):=⟨h.os,h.tape,h.output,h.size,h.block⟩
def km (ao:Option Addr) (t cap:Nat):Value:=if t=0 then .slice none 0 0 else .slice ao t cap
theorem cF.cut {w:World} {g N:Nat} {r:Nat->Int} (h:cF w g N r) {B t:Nat} (hB:B<=g) (ht:t<=N) (hm:N<=9223372036854775807):cy B w (km (some ⟨g,0,none⟩) t N) t r:=by
 unfold km
 split
 ·rename_i h0;subst h0;exact cy.nil _ _ _
 ·exact h.out hB ht hm
def cN (w w':World) (V:Int) (v:Value):Prop:=∃ t d,cy w.heap.size w' v t d∧cf d t∧val d t=V∧Below w.heap.size w w'
theorem cN.below {w w':World} {V:Int} {v:Value} (h:cN w w' V v):Below w.heap.size w w':=h.choose_spec.choose_spec.2.2.2
theorem cN.from {w0 w w':World} {V:Int} {v:Value} (h:cN w w' V v) (hb:Below w0.heap.size w0 w):cN w0 w' V v:=by
 obtain⟨t,d,h1,h2,h3,h4⟩:=h
 exact⟨t,d,h1.lower hb.size,h2,h3,ac hb h4⟩
theorem cN.stays {w w1 w2:World} {V:Int} {v:Value} (h:cN w w1 V v) (hb:Below w1.heap.size w1 w2):cN w w2 V v:=by
 obtain⟨t,d,h1,h2,h3,h4⟩:=h
 exact⟨t,d,h1.stays hb,h2,h3,ac h4 hb⟩
theorem cN.nil {w w':World} (hb:Below w.heap.size w w'):cN w w' 0 (.slice none 0 0):=⟨0,fun _=>0,cy.nil _ _ _,⟨fun i hi=>by omega,.inl rfl⟩,rfl,hb⟩
theorem qv:(prog.info? 3).map (fun i=>(i.zero,i.size,i.bytes))=some (some (.int .i64 0),1,8):=by kernel_rfl
theorem sG {w w':World} (h:w.grownBy w' none):Below w.heap.size w w':=⟨h.os,h.tape,h.output,h.size,fun k hk=>h.block k hk (by simp)⟩
theorem im {w:World} {ops:Array Oper} {rest:List Oper} {o:Oper} {a:Act} {Q:Exit->Act->World->Prop} (hg:o.guard=none) (l c:Operand) (hop:o.op=Op.makeSlice 31 l c)
  (L C:Int) (n:Nat) (hl:a.eval l=.int .i64 L) (hc:a.eval c=.int .i64 C) (hL:L=(n:Int)) (hC:C=(n:Int)) (hn:n<=1000000)
  (hK:∀ w',cF w' w.heap.size n (fun _=>0)->Below w.heap.size w w'->wpList prog ops Q rest (a.put o.dst (.slice (some ⟨w.heap.size,0,none⟩) n n)) w') :
  wpList prog ops Q (o :: rest) a w:=by
 obtain⟨i0,hi,hz0,hz1,hz2⟩:=info_parts qv
 exact wpList_make_full w hg l c 31 hop w.heap.size 3 i0 (.int .i64 0) 1 underlying31 hi hz0 hz1 .i64 .i64 L C n hl hc hL hC (by rw[hz2];omega) (by unfold maxLen;omega) (Nat.le_refl _)
  fun w' h1 h2=>hK w' (cF.made h1) (sG h2)
theorem gI (w:World) (x:Int) {g:Nat} (hg:g=w.heap.size):aS (w.alloc (.cells #[.int .i64 x] 3)) (some ⟨g,0,none⟩) 1 1 (fun _=>x):=by
 subst hg
 exact(cF.new w #[.int .i64 x] (fun _=>x) (fun i hi=>by simp at hi;subst hi;rfl)).row0 (Nat.le_refl _) (show 1<=9223372036854775807 by decide)
def kP (d:Nat->Int) (n:Nat) (e:Nat->Int):Nat->Int:=fun i=>if i<n then d i else e (i-n)
theorem xx (d e:Nat->Int) (n m:Nat):fz d n ++ fz e m=fz (kP d n e) (n+m):=by
 apply kl (by simp[dw])
 intro i hi
 by_cases h:i<n
 ·rw[List.getElem?_append_left (by rw[dw];exact h),gi d h];simp[kP,h]
 ·rw[List.getElem?_append_right (by rw[dw];omega),dw,gi e (by omega)];simp[kP,h]
theorem mt (b off n:Nat):(⟨b,off,none⟩:Addr).add n=⟨b,off+n,none⟩:=by
 unfold Addr.add;split<;>simp_all
theorem cB {w:World} {ops:Array Oper} {rest:List Oper} {o:Oper} {a:Act} {Q:Exit->Act->World->Prop} (hgd:o.guard=none) (s x:Operand)
  (ho:o.op=.call { callee:=.builtin .append,args:=#[s,x],argTypes:=#[31,31] }) (B:Nat) (v:Value) (n:Nat) (d:Nat->Int) (hs:a.eval s=v) (hO:cy B w v n d)
  (bo:Option Addr) (m cb:Nat) (e:Nat->Int) (hx:a.eval x=.slice bo m cb) (hR:aS w bo m cb e) (hlen:n+m<=1000000) (hB:B<=w.heap.size)
  (h:∀ v' w',cy B w' v' (n+m) (kP d n e)->w.grownBy w' v.ownBlock->wpList prog ops Q rest (a.put o.dst v') w'):wpList prog ops Q (o :: rest) a w:=by
 obtain⟨i0,hi,hz0,hz1,hz2⟩:=info_parts qv
 cases bo with
 | none=>
  have hc:=hR.nl rfl
  have hl:=hR.le
  subst hc
  obtain rfl:m=0:=by omega
  refine wpList_append_own_none hgd s x 31 ho B 3 i0 1 underlying31 hi v n (fz d n) hs hO hx ?_
  refine h v w ?_ ⟨rfl,rfl,rfl,Nat.le_refl _,fun _ _ _=>rfl⟩
  exact cy.congr hO fun i hi=>by simp[kP];omega
 | some ad=>
  refine wpList_append_own w hgd s x 31 ho B 3 i0 (.int .i64 0) 1 8 underlying31 hi hz0 hz1 hz2 rfl (by decide) v n (fz d n) hs hO ad m cb (fz e m) hx (by rw[dw];omega) ?_ (xw e m) (by unfold maxLen;omega) (by omega) hB ?_
  ·intro j u hu
   have hj:j<m:=by have:=(List.getElem?_eq_some_iff.1 hu).1;rwa [dw] at this
   obtain⟨b,off,hb,_,hc⟩:=hR.spot (by omega)
   obtain rfl:=Option.some.inj hb
   rw[gi e hj] at hu
   rw[mt,hc j hj];exact hu
  ·intro v' w' h1 h2 _
   rw[xx] at h1
   exact h v' w' h1 h2
theorem dS {B:Nat} {w:World} {v:Value} {n:Nat} {d:Nat->Int} (h:cy B w v n d):∀ k,v.ownBlock=some k->B<=k:=fun k hk=>(World.ownsRow.lt h k hk).1
def cr (w:World) (v:Value) (V:Int):Prop:=∃ ao n cap d,v=.slice ao n cap∧aS w ao n cap d∧cf d n∧val d n=V
theorem cN.num {w w':World} {V:Int} {v:Value} (h:cN w w' V v):cr w' v V:=by
 obtain⟨t,d,h1,h2,h3,h4⟩:=h
 obtain⟨ao,cap,rfl,hR⟩:=h1.row
 exact⟨ao,t,cap,d,rfl,hR,h2,h3⟩
theorem cr.keeps {w w':World} {v:Value} {V:Int} (h:cr w v V) (hb:Below w.heap.size w w'):cr w' v V:=by
 obtain⟨ao,n,cap,d,rfl,hR,h2⟩:=h
 exact⟨ao,n,cap,d,rfl,hR.keeps hb,h2⟩
theorem cr.shape {w:World} {v:Value} {V:Int} (h:cr w v V):∃ ao n cap,v=.slice ao n cap:=by
 obtain⟨ao,n,cap,d,e,_⟩:=h
 exact⟨ao,n,cap,e⟩
theorem cr.len {w:World} {ao:Option Addr} {n cap:Nat} {V:Int} (h:cr w (.slice ao n cap) V) {k:Nat} (hV:V<P k):n<=k:=by
 obtain⟨ao',n',cap',d,e,hR,h2,h3⟩:=h
 simp only[Value.slice.injEq] at e
 obtain⟨rfl,rfl,rfl⟩:=e
 by_cases hk:n<=k
 ·exact hk
 ·have a:=eR h2.1 (by omega) h2.2
  have b:=iz (show k<=n-1 by omega)
  omega
theorem ah (w:World) (o:Obj):Below w.heap.size w (w.alloc o):=(Below.refl _ _).alloc (Nat.le_refl _) _
theorem aL (w:World) (o p:Obj):Below w.heap.size w ((w.alloc o).alloc p):=(ah w o).alloc (by simp) _
theorem af {w:World} {g:Nat} {xs:Array Value} {t:TypeId} (h:w.heap[g]?=some (.cells xs t (0,0))) (i:Nat) {v:Value} (hi:xs[i]?=some v):w.cell? ⟨g,i,none⟩=some v:=by
 rw[cell_of_row w g i xs _ _ h];exact hi
theorem ar {w:World} {g:Nat} {xs:Array Value} {t:TypeId} (h:w.heap[g]?=some (.cells xs t (0,0))) (i:Nat):w.frozen? ⟨g,i,none⟩=false:=by
 simp[World.frozen?,h]
theorem bO (w:World) (a b:Obj):((w.alloc a).alloc b).heap[w.heap.size]?=some a:=by
 show((w.heap.push a).push b)[w.heap.size]?=some a
 simp[Array.getElem?_push]
theorem bH (w:World) (a b:Obj):((w.alloc a).alloc b).heap[w.heap.size+1]?=some b:=by
 show((w.heap.push a).push b)[w.heap.size+1]?=some b
 rw[Array.getElem?_push,if_pos (by simp)]
theorem fA (w:World) (a b:Obj):((w.alloc a).alloc b).heap.size=w.heap.size+2:=by
 show((w.heap.push a).push b).size=_
 simp
theorem cy.set_below {B:Nat} {w:World} {v:Value} {n:Nat} {d:Nat->Int} (h:cy B w v n d) {a:Addr} (ha:a.block<B) (u:Value):cy B (w.setCell a u) v n d:=ownsRow_setCell_below h ha u
def aM (w:World) (v:Value) (V:Int):Prop:=∃ ng s m e,v=.agg #[.bool ng,s,.int .i64 e]∧Dy V ng m e∧cr w s m
def aW (w w':World) (V:Int) (v:Value):Prop:=∃ ng s m e,v=.agg #[.bool ng,s,.int .i64 e]∧Dy V ng m e∧cN w w' m s
def eC:Value:=.agg #[.bool false,.slice none 0 0,.int .i64 0]
theorem aW.below {w w':World} {V:Int} {v:Value} (h:aW w w' V v):Below w.heap.size w w':=by
 obtain⟨ng,s,m,e,_,_,h3⟩:=h
 exact h3.below
theorem aW.num {w w':World} {V:Int} {v:Value} (h:aW w w' V v):aM w' v V:=by
 obtain⟨ng,s,m,e,h1,h2,h3⟩:=h
 exact⟨ng,s,m,e,h1,h2,h3.num⟩
theorem aW.from {w0 w w':World} {V:Int} {v:Value} (h:aW w w' V v) (hb:Below w0.heap.size w0 w):aW w0 w' V v:=by
 obtain⟨ng,s,m,e,h1,h2,h3⟩:=h
 exact⟨ng,s,m,e,h1,h2,h3.from hb⟩
theorem aW.stays {w w1 w2:World} {V:Int} {v:Value} (h:aW w w1 V v) (hb:Below w1.heap.size w1 w2):aW w w2 V v:=by
 obtain⟨ng,s,m,e,h1,h2,h3⟩:=h
 exact⟨ng,s,m,e,h1,h2,h3.stays hb⟩
theorem aW.zero {w w':World} (hb:Below w.heap.size w w'):aW w w' 0 eC:=⟨_,_,_,_,rfl,Dy.zero,cN.nil hb⟩
theorem aM.keeps {w w':World} {v:Value} {V:Int} (h:aM w v V) (hb:Below w.heap.size w w'):aM w' v V:=by
 obtain⟨ng,s,m,e,h1,h2,h3⟩:=h
 exact⟨ng,s,m,e,h1,h2,h3.keeps hb⟩
theorem aM.zero (w:World):aM w eC 0:=(aW.zero (al w)).num
def ja (w w':World) (V:Int) (v:Value) (er:Int):Prop:=Below w.heap.size w w'∧((cY V∧er=0∧aW w w' V v)∨(¬ cY V∧er=2∧v=eC))
theorem AY (w:World):(binOp .eql 20 Value.nilIface Value.nilIface).run prog w=.ok (.bool true) w:=by kernel_rfl
theorem AZ (w:World):(binOp .eql 20 (.iface 28 (.int .i64 2)) Value.nilIface).run prog w=.ok (.bool false) w:=by kernel_rfl
theorem zN (w:World):(binOp .eql 20 (.iface 28 (.int .i64 2)) (.iface 28 (.int .i64 2))).run prog w=.ok (.bool true) w:=by kernel_rfl
theorem nc (p:Addr) (x:Value) (older:List PanicEntry) (w:World) (hc:w.cell? p=some x) (hz:w.frozen? p=false) :
  CallsD prog 123 #[.pointer (some p)] (.panicking ({ v:=.iface 28 (.int .i64 2),recovered:=false } :: older)) w fun e u' w'=>
   e=.returned (.tuple #[])∧u'=.panicking ({ v:=.iface 28 (.int .i64 2),recovered:=true } :: older)∧w'=w.setCell p (.int .i64 2):=by
 have h1:=AZ
 have h2:=zN
 refine callsD_of_wpS func123 rfl fun c₀ cs hu=>?_
 apply wpS_seq
 apply wpS_region
 simp[wpOpsS,go_sem,recoverD,hu,ntmps123,Exit.thenS]
 refine wpS_of_wp ?_
 go_wp2
 simp[bodyPostS,results,results123]
theorem uh (p:Addr) (w:World) :
  CallsD prog 123 #[.pointer (some p)] .returning w fun e u' w'=>e=.returned (.tuple #[])∧u'=.returning∧w'=w:=by
 have h1:=AY
 refine callsD_of_wpS func123 rfl fun c₀ cs hu=>?_
 apply wpS_seq
 apply wpS_region
 simp[wpOpsS,go_sem,recoverD,hu,ntmps123,Exit.thenS]
 refine wpS_of_wp ?_
 go_wp2
 cases c₀
 simp_all[bodyPostS,results,results123]
theorem zO (F:Nat) (cap:Array Value) (w:World) (hE:∀ w,(callFunc F cap).run prog w=.ok (.enter F cap) w) (hF:∀ W,Below w.heap.size w W->Calls prog F cap W fun r W'=>r=.panicked [{ v:=.iface 28 (.int .i64 2),recovered:=false }]∧Below W.heap.size W W') :
  Calls prog 105 #[.func (.func F) #[] cap] w fun r w'=>r=.returned (.tuple #[.agg #[.bool false,.slice none 0 0,.int .i64 0],.int .i64 2])∧Below w.heap.size w w':=by
 have hmf:∀ (fn:Fn) (first cap:Array Value) (w:World),(Instr.makeFunc fn first cap).run prog w=.ok (.func fn first cap) w:=fun _ _ _ _=>rfl
 go_enter_defers func105,ntmps105
 go_wp2_with fail
 refine(hF _ (aL _ _ _)).mono ?_
 rintro r W' ⟨rfl,hb⟩
 have q1:=(hb.block (w.heap.size+1) (by rw[fA];omega)).trans (bH _ _ _)
 have q0:=(hb.block w.heap.size (by rw[fA];omega)).trans (bO _ _ _)
 have f0:=ar q1 0
 have k0:=af q1 0 rfl
 go_wp2_with fail
 refine leaves_cons (f:=123) (args:=#[.pointer (some ⟨w.heap.size+1,0,none⟩)]) (by simp) (by simp[go_sem]) ?_
 refine(nc ⟨w.heap.size+1,0,none⟩ _ [] _ k0 f0).mono ?_
 rintro e u' w'' ⟨rfl,rfl,rfl⟩
 have c0:=af q0 0 rfl
 have c1:=af q0 1 rfl
 have c2:=af q0 2 rfl
 simp[Leaves,settle,results,results105,go_sem,c0,c1,c2,k0]
 exact((aL _ _ _).trans (hb.mono (aL _ _ _).size)).setCell (Nat.le_succ _) _
theorem xy {w W w3:World} {V:Int} {v:Value} (hv:aW W w3 V v) (hb:Below w.heap.size w W) {g:Nat} (h0:w.heap.size<=g) (h1:g+1<W.heap.size) (a b c x:Value) :
  aW w ((((w3.setCell ⟨g,0,none⟩ a).setCell ⟨g,1,none⟩ b).setCell ⟨g,2,none⟩ c).setCell ⟨g+1,0,none⟩ x) V v:=by
 obtain⟨ng,s,m,e,h2,h3,t,d,hO,hN,hV,hB⟩:=hv
 refine⟨ng,s,m,e,h2,h3,t,d,?_,hN,hV,?_⟩
 ·exact((((hO.set_below (a:=⟨g,0,none⟩) (by show g<_;omega) a).set_below (a:=⟨g,1,none⟩) (by show g<_;omega) b).set_below (a:=⟨g,2,none⟩) (by show g<_;omega) c).set_below (a:=⟨g+1,0,none⟩) h1 x).lower hb.size
 ·exact((((hb.trans (hB.mono hb.size)).setCell (p:=⟨g,0,none⟩) h0 a).setCell (p:=⟨g,1,none⟩) h0 b).setCell (p:=⟨g,2,none⟩) h0 c).setCell (p:=⟨g+1,0,none⟩) (Nat.le_succ_of_le h0) x
theorem xz (F:Nat) (cap:Array Value) (w:World) (V:Int) (hE:∀ w,(callFunc F cap).run prog w=.ok (.enter F cap) w) (hF:∀ W,Below w.heap.size w W->Calls prog F cap W fun r W'=>∃ v,r=.returned v∧aW W W' V v) :
  Calls prog 105 #[.func (.func F) #[] cap] w fun r w'=>∃ v,r=.returned (.tuple #[v,.int .i64 0])∧aW w w' V v:=by
 have hmf:∀ (fn:Fn) (first cap:Array Value) (w:World),(Instr.makeFunc fn first cap).run prog w=.ok (.func fn first cap) w:=fun _ _ _ _=>rfl
 go_enter_defers func105,ntmps105
 go_wp2_with fail
 refine(hF _ (aL _ _ _)).mono ?_
 rintro r W' ⟨v,rfl,hD⟩
 have hb:=hD.below
 obtain⟨ng,s,m,e,rfl,hy,hA⟩:=id hD
 obtain⟨so,sn,sc,rfl⟩:=hA.num.shape
 have q1:=(hb.block (w.heap.size+1) (by rw[fA];omega)).trans (bH _ _ _)
 have q0:=(hb.block w.heap.size (by rw[fA];omega)).trans (bO _ _ _)
 have f0:=ar q1 0
 have k0:=af q1 0 rfl
 have c0:=af q0 0 rfl
 have c1:=af q0 1 rfl
 have c2:=af q0 2 rfl
 have z0:=ar q0 0
 have z1:=ar q0 1
 have z2:=ar q0 2
 go_wp2_with fail
 refine leaves_cons (f:=123) (args:=#[.pointer (some ⟨w.heap.size+1,0,none⟩)]) (by simp) (by simp[go_sem]) ?_
 refine(uh ⟨w.heap.size+1,0,none⟩ _).mono ?_
 rintro e u' w'' ⟨rfl,rfl,rfl⟩
 simp[Leaves,settle,results,results105,go_sem,c0,c1,c2,k0]
 exact xy (g:=w.heap.size) hD (aL _ _ _) (Nat.le_refl _) (by rw[fA];omega) _ _ _ _
structure Dr (w:World):Prop where
 a0:w.cell? ⟨1,0,none⟩=some (.int .i64 52)
 a1:w.cell? ⟨1,1,none⟩=some (.int .i64 2047)
 a2:w.cell? ⟨1,2,none⟩=some (.int .i64 (-1074))
 b0:True
 b1:True
 b2:True
structure Gr (W w':World):Prop where
 gr:Grown W w'
 be:Below W.heap.size W w'
theorem Gr.refl (W:World):Gr W W:=⟨Grown.refl _,Below.refl _ _⟩
theorem Gr.alloc {W w':World} (h:Gr W w') (c:Array Value) (t:TypeId):Gr W (w'.alloc (.cells c t)):=⟨h.gr.alloc c t,h.be.alloc h.be.size _⟩
theorem li {W w':World} (h:Gr W w') (n:Nat):Gr W (w'.drewN n):=⟨h.gr,⟨h.be.os,h.be.tape,h.be.output,h.be.size,h.be.block⟩⟩
theorem eD {k:IntKind} {a b:Int} (h:a=b):Ending.returned (.int k a)=.returned (.int k b):=by rw[h]
theorem cC {a b:Bool} (h:a=b):Ending.returned (.bool a)=.returned (.bool b):=by rw[h]
theorem zP {a a':Bool} {b b' c c':Int} (h:a=a') (k:b=b') (l:c=c'):Ending.returned (.tuple #[.bool a,.int .i64 b,.int .i64 c])=.returned (.tuple #[.bool a',.int .i64 b',.int .i64 c']):=by rw[h,k,l]
theorem iO {a a' b b':Int} {c c':Bool} (h:a=a') (k:b=b') (l:c=c'):Ending.returned (.tuple #[.int .i64 a,.int .i64 b,.bool c])=.returned (.tuple #[.int .i64 a',.int .i64 b',.bool c']):=by rw[h,k,l]
theorem kn {n n':Bool} {a a' b b':Int} {c c':Bool} (g:n=n') (h:a=a') (k:b=b') (l:c=c'):Ending.returned (.tuple #[.bool n,.int .i64 a,.int .i64 b,.bool c])=.returned (.tuple #[.bool n',.int .i64 a',.int .i64 b',.bool c']):=by rw[g,h,k,l]
theorem og (b:Int) (w:World) :
  Calls prog 144 #[.agg #[.int .i64 52,.int .i64 2047,.int .i64 (-1074)],.int .i64 b] w fun e w'=>e=.returned (.tuple #[.int .i64 (bZ b),.int .i64 (cx b)])∧∃ n,w'=(w.alloc (.cells #[.int .i64 52,.int .i64 2047,.int .i64 (-1074)] 160)).drewN n:=by
 have h1:bits .and .i64 (b/4503599627370496) 2047=bZ b:=qh _
 have h2:bits .and .i64 b 4503599627370495=cx b:=sD _
 go_enter func144,ntmps144
 go_wp2
 go_quiet (fail)
 go_wp2
 go_ret2
 exact⟨rfl,_,rfl⟩
theorem zQ (b:Int) (w:World) :
  Calls prog 122 #[.agg #[.int .i64 52,.int .i64 2047,.int .i64 (-1074)],.int .i64 b] w fun e w'=>e=.returned (.tuple #[.int .i64 (bL b),.int .i64 (bM b),.bool (aF b)])∧Gr w w':=by
 have hf:=iX b
 have hr:=iY b
 by_cases h1:bZ b=2047
 ·go_enter func122,ntmps122
  go_wp2_with (go_at_call 144;refine(og _ _).mono ?_;rintro e w1 ⟨rfl,n,rfl⟩)
  go_ret3
  exact⟨iO (by simp[bL,h1]) (by simp[bM,h1]) (by simp[aF,h1]),li (((Gr.refl _).alloc _ _).alloc _ _) _⟩
 ·by_cases h2:bZ b=0
  ·go_enter func122,ntmps122
   go_wp2_with (go_at_call 144;refine(og _ _).mono ?_;rintro e w1 ⟨rfl,n,rfl⟩)
   go_quiet (fail)
   go_wp2
   go_ret3
   exact⟨iO (by simp[bL,h1,h2]) (by simp[bM,h1,h2]) (by simp[aF,h1]),li (li (((Gr.refl _).alloc _ _).alloc _ _) _) _⟩
  ·go_enter func122,ntmps122
   go_wp2_with (go_at_call 144;refine(og _ _).mono ?_;rintro e w1 ⟨rfl,n,rfl⟩)
   go_quiet (fail)
   go_wp2
   go_ret3
   exact⟨iO (by simp[bL,h1,h2]) (by simp[bM,h1,h2];omega) (by simp[aF,h1]),li (li (((Gr.refl _).alloc _ _).alloc _ _) _) _⟩
theorem bf {a a':Int} {c c':Bool} (h:a=a') (l:c=c'):Ending.returned (.tuple #[.int .i64 a,.bool c])=.returned (.tuple #[.int .i64 a',.bool c']):=by rw[h,l]
def za (w:World):Prop:=∀ j,j<64->w.cell? ⟨3,j,none⟩=some (.int .u8 ((Lib.deBruijn64tab.getD j 0:Nat):Int))
theorem xA (x a:Nat) (hx:x<18446744073709551616) (hx0:x≠0) (hlow:x &&& (18446744073709551616-x)=a) :
  IntKind.u64.wrap (bits .and .u64 (x:Int) (IntKind.u64.wrap (-(x:Int)))*285870213051353865)/288230376151711744=((a*285870213051353865 % 18446744073709551616/288230376151711744:Nat):Int):=by
 have e1:IntKind.u64.wrap (-(x:Int))=((18446744073709551616-x:Nat):Int):=by rw[IntKind.wrap_u64];omega
 rw[e1,bits_and_u64_nat x _ hx (by omega),hlow,IntKind.wrap_u64]
 omega
theorem vv (x k idx:Nat) (w:World) (hx0:((x:Int) == 0)=false)
  (bl:IntKind.u64.wrap (bits .and .u64 (x:Int) (IntKind.u64.wrap (-(x:Int)))*285870213051353865)/288230376151711744=(idx:Int))
  (hi:idx<64) (hk:k<64) (hcell:w.cell? ⟨3,idx,none⟩=some (.int .u8 k)) :
  Calls prog 163 #[.int .u64 x] w fun e w'=>e=.returned (.int .i64 k)∧w'=w:=by
 go_enter func163,ntmps163
 go_wp2_with (simp only[bl])
 go_ret
 exact⟨rfl,rfl⟩
theorem ko (x:Nat) (hx:x<18446744073709551616) (h0:x≠0) (w:World) (hT:za w) :
  Calls prog 163 #[.int .u64 x] w fun e w'=>e=.returned (.int .i64 (Lib.ctz 64 x))∧w'=w:=by
 obtain⟨hlow,hk⟩:=Lib.lowest_bit 64 x h0 hx
 obtain⟨hi,htab⟩:=Lib.deBruijn64_at _ hk
 have hcell:=hT _ hi
 rw[htab] at hcell
 exact vv x _ _ w (by simp;omega) (xA x _ hx h0 hlow) hi hk hcell
structure zb (w:World):Prop where
 lays:Dr w
 tab:za w
end Go.Proofs.YtcklaogdjpbagaaGreatDoor
