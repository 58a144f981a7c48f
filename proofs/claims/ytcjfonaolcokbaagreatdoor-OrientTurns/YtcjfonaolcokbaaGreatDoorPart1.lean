/- Parts of the proof. -/
import Derived.WalkKit
import Derived.Laws.MathBits
import Derived.Lib.TrailingZeros
import Ieee.Arith
import GoSem.Core.Float
import Derived.Lib.BitFns
import Derived.Test.YtcjfonaolcokbaaGreatDoorProg
import Derived.OwnWalk
import Derived.Below
import Derived.Laws.OwnMore
import Derived.Laws.AppendOwnNone
import Derived.Deep.QuietTactic
import Derived.BigQuiet
import Derived.Tactics
import Derived.Tactics2
import Derived.Defers
import Derived.Recover
import Derived.Laws.Pointers
import Derived.WalkLawsBesides
import Derived.WideLaws
set_option maxRecDepth 100000
set_option maxHeartbeats 8000000
set_option linter.unusedVariables false
set_option linter.unusedSimpArgs false
namespace Go.Proofs.YtcjfonaolcokbaaGreatDoor.M
open Go
/-! signed 64-bit masks -/
theorem cK (x:Int):(BitVec.ofInt 64 x).toNat=(x % 18446744073709551616).toNat:=by
 simp [BitVec.toNat_ofInt]
theorem A6 (x y:Int):bits .and .i64 x y=IntKind.i64.wrap (((x % 18446744073709551616).toNat &&& (y % 18446744073709551616).toNat:Nat):Int):=by
 show IntKind.i64.wrap (((BitVec.ofInt 64 x &&& BitVec.ofInt 64 y).toNat:Nat):Int)=_
 rw [BitVec.toNat_and,cK,cK]
theorem vg (x y:Int):bits .or .i64 x y=IntKind.i64.wrap (((x % 18446744073709551616).toNat ||| (y % 18446744073709551616).toNat:Nat):Int):=by
 show IntKind.i64.wrap (((BitVec.ofInt 64 x ||| BitVec.ofInt 64 y).toNat:Nat):Int)=_
 rw [BitVec.toNat_or,cK,cK]
theorem Ba (x y:Int):bits .xor .i64 x y=IntKind.i64.wrap (((x % 18446744073709551616).toNat ^^^ (y % 18446744073709551616).toNat:Nat):Int):=by
 show IntKind.i64.wrap (((BitVec.ofInt 64 x ^^^ BitVec.ofInt 64 y).toNat:Nat):Int)=_
 rw [BitVec.toNat_xor,cK,cK]
theorem bH (n:Int):IntKind.i64.wrap n=(n+9223372036854775808) % 18446744073709551616-9223372036854775808:=by
 simp only [IntKind.wrap,IntKind.bits,IntKind.signed]
 simp
 split <;> omega
theorem iJ (x:Int) (k:Nat) (hk:k<63):bits .and .i64 x (2^k-1)=x % 2^k:=by
 have hp:(2:Nat)^k<2^63:=Nat.pow_lt_pow_right (by decide) hk
 have hp0:0<(2:Nat)^k:=Nat.two_pow_pos k
 have e2:((2:Int)^k-1)=((2^k-1:Nat):Int):=by
  rw [Int.ofNat_sub (by omega)]; simp
 have e3:(((2:Int)^k-1) % 18446744073709551616).toNat=2^k-1:=by
  rw [e2]; omega
 rw [A6,e3,Nat.and_two_pow_sub_one_eq_mod]
 have e4:(((x % 18446744073709551616).toNat % 2^k:Nat):Int)=x % 2^k:=by
  rw [Int.natCast_emod,Int.toNat_of_nonneg (Int.emod_nonneg _ (by decide))]
  rw [show ((2^k:Nat):Int)=(2:Int)^k by simp]
  apply Int.emod_emod_of_dvd
  exact ⟨2^(64-k),by rw [<- Int.pow_add,show k+(64-k)=64 by omega]; decide⟩
 rw [e4]
 have h5:0<=x % 2^k:=Int.emod_nonneg _ (by have:(0:Int)<2^k:=Int.pow_pos (by decide); omega)
 have h6:x % 2^k<2^k:=Int.emod_lt_of_pos _ (Int.pow_pos (by decide))
 have h7:((2:Int)^k)<9223372036854775808:=by
  have:((2^k:Nat):Int)<((2^63:Nat):Int):=Int.ofNat_lt.2 hp
  simpa using this
 rw [bH]; omega
theorem wI (x:Int):bits .and .i64 x 2047=x % 2048:=iJ x 11 (by decide)
theorem zk (x:Int):bits .and .i64 x 4503599627370495=x % 4503599627370496:=iJ x 52 (by decide)
theorem uo (k n:Nat) (h:n<2^k):2^k ^^^ n=2^k+n:=by
 apply Nat.eq_of_testBit_eq
 intro i
 rw [Nat.testBit_xor,Nat.testBit_two_pow]
 rcases Nat.lt_trichotomy i k with hi | hi | hi
 ·rw [Nat.testBit_two_pow_add_gt hi]
  simp [show ¬ k=i by omega]
 ·subst hi
  rw [Nat.testBit_two_pow_add_eq,Nat.testBit_lt_two_pow h]; simp
 ·have hk:2^(k+1)<=2^i:=Nat.pow_le_pow_right (by decide) hi
  rw [Nat.testBit_lt_two_pow (show n<2^i by rw [Nat.pow_succ] at hk; omega),Nat.testBit_lt_two_pow (show 2^k+n<2^i by rw [Nat.pow_succ] at hk; omega)]
  simp [show ¬ k=i by omega]
theorem wJ (k m:Nat) (h:m<2^k):(2^k+m) ^^^ 2^k=m:=by
 rw [<- uo k m h,Nat.xor_comm (2^k) m,Nat.xor_assoc,Nat.xor_self,Nat.xor_zero]
theorem wK (x:Int) (h0:-9223372036854775808<=x) (h1:x<9223372036854775808):bits .xor .i64 x (-9223372036854775808)=if x<0 then x+9223372036854775808 else x-9223372036854775808:=by
 rw [Ba,show ((-9223372036854775808:Int) % 18446744073709551616).toNat=2^63 from by decide,bH]
 split
 ·rw [show (x % 18446744073709551616).toNat=2^63+(x+9223372036854775808).toNat by omega,wJ 63 _ (by omega)]; omega
 ·rw [Nat.xor_comm,uo 63 _ (by omega)]; omega
theorem zo (x:Int) (h0:0<=x) (h1:x<9223372036854775808):bits .or .i64 x (-9223372036854775808)=x-9223372036854775808:=by
 rw [vg,show ((-9223372036854775808:Int) % 18446744073709551616).toNat=2^63 from by decide,bH,Nat.or_comm,nat_join 63 _ _ (by decide) (by omega)]
 omega
/-! the fields of a binary64's pattern -/
def bN (b:Int):Int:=b/4503599627370496 % 2048
def cf (b:Int):Int:=b % 4503599627370496
def aG (b:Int):Int:=if bN b=2047 then (if cf b=0 then 3 else 4) else if bN b=0 then (if cf b=0 then 0 else 1) else 2
def ak (b:Int):Bool:=!decide (bN b=2047)
def hH (b:Int):Bool:=ak b && decide (b<0)
def aK (b:Int):Int:=if bN b=2047 then 0 else if bN b=0 then cf b else 4503599627370496+cf b
def bi (b:Int):Int:=if bN b=2047 then 0 else if bN b=0 then -1074 else bN b-1075
def Ns:Int:=9221120237041090561
def neg (b:Int):Int:=if aG b=4 then 9221120237041090561 else if b<0 then b+9223372036854775808 else b-9223372036854775808
def OF (b:Int):Int:=if aG b=4 then 9221120237041090561 else if b<0 then b+9223372036854775808 else b
def aI (b:Int):Int:=if aG b=4 then 9221120237041090561 else if aG b=0 then 0 else b
def next (b:Int):Int:=if aG b=4 then 9221120237041090561 else if b=9218868437227405312 then b else if b=-9223372036854775808 then 1 else if b<0 then b-1 else b+1
def dg (b:Int):Int:=neg (next (neg b))
def aj (b:Int):Prop:=-9223372036854775808<=b∧b<9223372036854775808
theorem wL (b:Int):0<=bN b∧bN b<2048:=by unfold bN; omega
theorem pD (b:Int):0<=cf b∧cf b<4503599627370496:=by unfold cf; omega
theorem rO {b:Int}:aG b=4 ↔ bN b=2047∧cf b≠0:=by
 unfold aG; repeat' split
 all_goals omega
theorem jC {b:Int} (h:¬ aG b=4):bN b≠2047∨cf b=0:=by
 rw [rO] at h; omega
theorem i4 {b:Int} (h:aj b):aj (neg b):=by
 unfold aj neg at *; repeat' split
 all_goals omega
theorem rV {b:Int} (h:aj b):aj (next b):=by
 unfold aj next at *; repeat' split
 ·omega
 ·omega
 ·omega
 ·omega
 ·rename_i h1 h2 h3 h4
  have:=jC h1
  unfold bN cf at this
  omega
theorem Oi {b:Int} (h:aj b) (hc:¬ aG b=4):neg (neg b)=b:=by
 have hc':=jC hc
 have au:¬ aG (if b<0 then b+9223372036854775808 else b-9223372036854775808)=4:=by
  rw [rO]
  unfold bN cf at *
  split <;> omega
 unfold aj at h
 unfold neg
 simp only [hc,if_false,au]
 split <;> split <;> omega
def wd (b:Int):Nat:=(b % 18446744073709551616).toNat
def P:Nat->Int | 0=>1 | n+1=>P n*1073741824
def val (d:Nat->Int):Nat->Int | 0=>0 | n+1=>val d n+d n*P n
def bL (d:Nat->Int) (n:Nat):Prop:=∀ i,i<n->0<=d i∧d i<1073741824
def wM (d:Nat->Int) (n:Nat):Prop:=n=0∨d (n-1)≠0
def cT (d:Nat->Int) (n:Nat):Prop:=bL d n∧wM d n
theorem iK (n:Nat):P (n+1)=P n*1073741824:=rfl
theorem cw (n:Nat):0<P n:=by
 induction n with
 | zero=>decide
 | succ n ih=>rw [iK]; omega
theorem n8 (n m:Nat):P (n+m)=P n*P m:=by
 induction m with
 | zero=>show P n=P n*1; omega
 | succ m ih=>show P (n+m)*1073741824=P n*(P m*1073741824); rw [ih,Int.mul_assoc]
theorem lx {n m:Nat} (h:n<=m):P n<=P m:=by
 obtain ⟨k,rfl⟩:=Nat.exists_eq_add_of_le h
 rw [n8]
 have:=cw n
 have:=cw k
 have:P n*1<=P n*P k:=Int.mul_le_mul_of_nonneg_left (by omega) (by omega)
 omega
theorem br (d:Nat->Int) (n:Nat):val d (n+1)=val d n+d n*P n:=rfl
theorem jK {d e:Nat->Int} {n:Nat} (h:∀ i,i<n->d i=e i):val d n=val e n:=by
 induction n with
 | zero=>rfl
 | succ n ih=>rw [br,br,ih (fun i hi=>h i (by omega)),h n (by omega)]
theorem bL.le {d:Nat->Int} {n m:Nat} (h:bL d n) (hm:m<=n):bL d m:=fun i hi=>h i (by omega)
theorem bL.congr {d e:Nat->Int} {n:Nat} (h:bL d n) (he:∀ i,i<n->d i=e i):bL e n:=fun i hi=>by rw [<- he i hi]; exact h i hi
theorem bc {d:Nat->Int} {n:Nat} (h:bL d n):0<=val d n:=by
 induction n with
 | zero=>exact Int.le_refl _
 | succ n ih=>
  rw [br]
  have:=ih (h.le (by omega))
  have:=Int.mul_nonneg (h n (by omega)).1 (Int.le_of_lt (cw n))
  omega
theorem cM {d:Nat->Int} {n:Nat} (h:bL d n):val d n<P n:=by
 induction n with
 | zero=>show (0:Int)<1; decide
 | succ n ih=>
  rw [br,iK]
  have a:=ih (h.le (by omega))
  have b:d n*P n<=1073741823*P n:=Int.mul_le_mul_of_nonneg_right (by have:=(h n (by omega)).2; omega) (Int.le_of_lt (cw n))
  omega
theorem jL {d:Nat->Int} {n:Nat} (h:bL d n) (hn:0<n) (ht:wM d n):P (n-1)<=val d n:=by
 obtain ⟨m,rfl⟩:∃ m,n=m+1:=⟨n-1,by omega⟩
 rw [br,Nat.add_sub_cancel]
 have a:=bc (h.le (Nat.le_succ m))
 have b:1<=d m:=by
  rcases ht with h0 | h0
  ·omega
  ·rw [Nat.add_sub_cancel] at h0; have:=(h m (by omega)).1; omega
 have c:1*P m<=d m*P m:=Int.mul_le_mul_of_nonneg_right b (Int.le_of_lt (cw m))
 omega
theorem lS {d:Nat->Int} {n:Nat} (h:cT d n) (hn:0<n):0<val d n:=by
 have:=jL h.1 hn h.2
 have:=cw (n-1)
 omega
theorem n9 {d:Nat->Int} {n:Nat} (h:cT d n):val d n=0 ↔ n=0:=by
 constructor
 ·intro h0
  by_cases hn:0<n
  ·have:=lS h hn; omega
  ·omega
 ·rintro rfl; rfl
theorem zP {d e:Nat->Int} {n:Nat} (h:bL d n) (k:bL e n) (hv:val d n=val e n):∀ i,i<n->d i=e i:=by
 induction n with
 | zero=>intro i hi; omega
 | succ n ih=>
  rw [br,br] at hv
  have a:=cM (h.le (Nat.le_succ n))
  have b:=cM (k.le (Nat.le_succ n))
  have a0:=bc (h.le (Nat.le_succ n))
  have b0:=bc (k.le (Nat.le_succ n))
  have hp:=cw n
  have e1:d n=e n:=by
   have x1:(val d n+d n*P n)/P n=d n:=by
    rw [Int.add_mul_ediv_right _ _ (by omega),Int.ediv_eq_zero_of_lt a0 a]; omega
   have x2:(val e n+e n*P n)/P n=e n:=by
    rw [Int.add_mul_ediv_right _ _ (by omega),Int.ediv_eq_zero_of_lt b0 b]; omega
   rw [<- x1,<- x2,hv]
  rw [e1] at hv
  intro i hi
  by_cases hi':i=n
  ·rw [hi']; exact e1
  ·exact ih (h.le (Nat.le_succ n)) (k.le (Nat.le_succ n)) (by omega) i (by omega)
theorem Cn {d e:Nat->Int} {n m:Nat} (h:bL d n) (k:cT e m) (hnm:n<m):val d n<val e m:=by
 have a:=cM h
 have b:=jL k.1 (by omega) k.2
 have c:=lx (show n<=m-1 by omega)
 omega
theorem IS {d e:Nat->Int} {n m:Nat} (h:cT d n) (k:cT e m) (hv:val d n=val e m):n=m:=by
 by_cases h1:n<m
 ·have:=Cn h.1 k h1; omega
 by_cases h2:m<n
 ·have:=Cn k.1 h h2; omega
 omega
theorem gW (d:Nat->Int) (n m:Nat):val d (n+m)=val d n+P n*val (fun i=>d (n+i)) m:=by
 induction m with
 | zero=>show val d n=val d n+P n*0; omega
 | succ m ih=>
  show val d (n+m)+d (n+m)*P (n+m)=val d n+P n*(val (fun i=>d (n+i)) m+d (n+m)*P m)
  rw [ih,n8,Int.mul_add,Int.add_assoc]
  congr 2
  rw [<- Int.mul_assoc,Int.mul_comm (d (n+m)) (P n),Int.mul_assoc]
theorem gX {d:Nat->Int} {n m:Nat} (hm:m<=n) (h:∀ i,m<=i->i<n->d i=0):val d n=val d m:=by
 induction n with
 | zero=>rw [show m=0 by omega]
 | succ n ih=>
  by_cases he:m=n+1
  ·rw [he]
  ·rw [br,h n (by omega) (by omega),ih (by omega) (fun i a b=>h i a (by omega))]; omega
def b7 (d:Nat->Int) (i:Nat) (x:Int):Nat->Int:=fun j=>if j=i then x else d j
theorem bt (d:Nat->Int) (i:Nat) (x:Int):b7 d i x i=x:=by simp [b7]
theorem aV (d:Nat->Int) {i j:Nat} (x:Int) (h:j≠i):b7 d i x j=d j:=by simp [b7,h]
theorem lF (d:Nat->Int) {i n:Nat} (x:Int) (h:n<=i):val (b7 d i x) n=val d n:=jK fun j hj=>aV d x (by omega)
theorem uq (d:Nat->Int) {i n:Nat} (x:Int) (h:i<n):val (b7 d i x) n=val d n+(x-d i)*P i:=by
 induction n with
 | zero=>omega
 | succ n ih=>
  rw [br,br]
  by_cases hi:i=n
  ·subst hi; rw [bt,lF d x (Nat.le_refl _),Int.sub_mul]; omega
  ·rw [aV d x (by omega),ih (by omega)]; omega
theorem bL.upd {d:Nat->Int} {n:Nat} (h:bL d n) (i:Nat) {x:Int} (hx:0<=x∧x<1073741824):bL (b7 d i x) n:=fun j hj=>by
 by_cases hj':j=i
 ·rw [hj',bt]; exact hx
 ·rw [aV d x hj']; exact h j hj
def pE (d:Nat->Int) (n:Nat):Nat->Int:=fun i=>if i<n then d i else 0
theorem pF (d:Nat->Int) {n i:Nat} (h:i<n):pE d n i=d i:=by simp [pE,h]
theorem wN (d:Nat->Int) {n i:Nat} (h:n<=i):pE d n i=0:=by simp [pE]; omega
theorem IT {d:Nat->Int} {n:Nat} (h:bL d n) (m:Nat):bL (pE d n) m:=fun i hi=>by
 by_cases hi':i<n
 ·rw [pF d hi']; exact h i hi'
 ·rw [wN d (by omega)]; omega
theorem sZ (V c x p:Int):V+(c+x) % 1073741824*p+(c+x)/1073741824*(p*1073741824)=V+c*p+x*p:=by
 have h:=Int.emod_add_mul_ediv (c+x) 1073741824
 have:(c+x)*p=((c+x) % 1073741824+1073741824*((c+x)/1073741824))*p:=by rw [h]
 rw [Int.add_mul,Int.add_mul] at this
 have e:1073741824*((c+x)/1073741824)*p=(c+x)/1073741824*(p*1073741824):=by
  rw [Int.mul_comm 1073741824,Int.mul_assoc,Int.mul_comm 1073741824 p]
 omega
theorem pG (x:Int):bits .and .i64 x 1073741823=x % 1073741824:=iJ x 30 (by decide)
def ew (V:Int) (l:Nat):Prop:=∃ m:Int,V=(2*m+1)*2^l
theorem aO (k:Nat):(0:Int)<2^k:=Int.pow_pos (by decide)
theorem eC (n:Nat):P n=2^(30*n):=by
 induction n with
 | zero=>rfl
 | succ n ih=>rw [iK,ih,show 30*(n+1)=30*n+30 by omega,Int.pow_add]; rfl
theorem vi (k:Nat):(2:Int)^k=P (k/30)*2^(k % 30):=by
 rw [eC,<- Int.pow_add]; congr 1; omega
theorem ga {j k:Nat} (h:j<=k):(2:Int)^j<=2^k:=by
 obtain ⟨m,rfl⟩:=Nat.exists_eq_add_of_le h
 rw [Int.pow_add]
 have h1:=aO j
 have h2:=aO m
 have h3:(2:Int)^j*1<=2^j*2^m:=Int.mul_le_mul_of_nonneg_left (by omega) (by omega)
 omega
theorem wO (x m:Int) (k:Nat) (hx:0<=x) (hxk:x<2^k) (hm:0<=m) (hs:x+m*2^k<9223372036854775808):bits .or .i64 x (m*2^k)=x+m*2^k:=by
 have hp:=aO k
 have hy:0<=m*2^k:=Int.mul_nonneg hm (by omega)
 obtain ⟨m',rfl⟩:=Int.eq_ofNat_of_zero_le hm
 obtain ⟨x',rfl⟩:=Int.eq_ofNat_of_zero_le hx
 have e2:((m':Int)*2^k)=((m'*2^k:Nat):Int):=by simp
 rw [e2] at hs hy ⊢
 have hx':x'<2^k:=by
  have:((x':Nat):Int)<((2^k:Nat):Int):=by simpa using hxk
  exact Int.ofNat_lt.1 this
 have e3:x' ||| m'*2^k=m'*2^k+x':=by rw [Nat.or_comm,Nat.mul_comm m',Nat.two_pow_add_eq_or_of_lt hx' m']
 generalize m'*2^k=M at *
 rw [vg,show (((x':Int)) % 18446744073709551616).toNat=x' by omega,show ((M:Int) % 18446744073709551616).toNat=M by omega,e3,bH]
 omega
def low (s:Nat->Int) (u v:Int):Nat->Int:=fun i=>s i/u+s (i+1) % u*v
theorem IU {s:Nat->Int} {u v:Int} {n:Nat} (hu:0<u) (huv:u*v=1073741824) (h:bL s (n+1)):bL (low s u v) n:=by
 intro i hi
 have a:=h i (by omega)
 have hv:0<v:=by
  rcases Int.lt_or_le 0 v with h | h
  ·exact h
  ·have:=Int.mul_nonneg (show 0<=u by omega) (show 0 <= -v by omega); rw [Int.mul_neg] at this; omega
 have b0:0<=s (i+1) % u:=Int.emod_nonneg _ (by omega)
 have b1:s (i+1) % u<u:=Int.emod_lt_of_pos _ hu
 have c0:0<=s i/u:=Int.ediv_nonneg a.1 (by omega)
 have c1:s i/u<v:=(Int.ediv_lt_iff_lt_mul hu).2 (by rw [Int.mul_comm,huv]; exact a.2)
 have d1:s (i+1) % u*v<=(u-1)*v:=Int.mul_le_mul_of_nonneg_right (by omega) (by omega)
 have d0:0<=s (i+1) % u*v:=Int.mul_nonneg b0 (by omega)
 rw [Int.sub_mul,huv] at d1
 unfold low
 omega
theorem IV (s:Nat->Int) {u v:Int} (huv:u*v=1073741824) (n:Nat):val (low s u v) n*u=val s n-s 0 % u+s n % u*P n:=by
 induction n with
 | zero=>show (0:Int)*u=0-s 0 % u+s 0 % u*1; omega
 | succ n ih=>
  rw [br,br,iK]
  have e:s n/u*u=s n-s n % u:=by have:=Int.emod_add_ediv_mul (s n) u; omega
  unfold low at ih ⊢
  have e2:(val (fun i=>s i/u+s (i+1) % u*v) n+(s n/u+s (n+1) % u*v)*P n)*u=val (fun i=>s i/u+s (i+1) % u*v) n*u+(s n/u*u)*P n+s (n+1) % u*(u*v)*P n:=by grind
  rw [e2,ih,e,huv]; grind
theorem Kl {s:Nat->Int} {u v:Int} (hu:0<u) (huv:u*v=1073741824) {n:Nat} (h:s n=0):val (low s u v) n=val s n/u:=by
 have h1:=IV s huv n
 rw [h,Int.zero_emod,Int.zero_mul,Int.add_zero] at h1
 have b0:0<=s 0 % u:=Int.emod_nonneg _ (by omega)
 have b1:s 0 % u<u:=Int.emod_lt_of_pos _ hu
 have:val s n=s 0 % u+val (low s u v) n*u:=by omega
 rw [this,Int.add_mul_ediv_right _ _ (by omega),Int.ediv_eq_zero_of_lt b0 b1]; omega
theorem Fo (d:Nat->Int) {w n:Nat} (h:w<=n) (hd:bL d n):val (fun i=>d (w+i)) (n-w)=val d n/P w:=by
 have e:=gW d w (n-w)
 rw [show w+(n-w)=n by omega] at e
 rw [e,Int.add_mul_ediv_left _ _ (by have:=cw w; omega),Int.ediv_eq_zero_of_lt (bc (hd.le h)) (cM (hd.le h))]; omega
theorem Bb (d:Nat->Int) (w n:Nat) (h:∀ i,i<w->d i=0):val d (w+n)=P w*val (fun i=>d (w+i)) n:=by
 rw [gW,gX (Nat.zero_le w) (fun i _ b=>h i b)]; show 0+_=_; omega
def LL:Nat:=4194304
def pw (e:Int):Int:=2^(e+4194304).toNat
def sg (b:Bool) (x:Int):Int:=if b then -x else x
theorem bD (e:Int):0<pw e:=aO _
theorem ff {e:Int} (h:-4194304<=e) (l:Nat):pw (e+l)=pw e*2^l:=by
 unfold pw
 rw [show (e+l+4194304).toNat=(e+4194304).toNat+l by omega,Int.pow_add]
theorem nC {e low:Int} (h:-4194304<=low) (h1:low<=e):pw e=2^(e-low).toNat*pw low:=by
 have:=ff h (e-low).toNat
 rw [show low+((e-low).toNat:Int)=e by omega] at this
 rw [this,Int.mul_comm]
theorem j8 {a b:Int} (ha:-2097152<=a) (hb:-2097152<=b):pw a*pw b=pw (a+b)*2^4194304:=by
 unfold pw
 rw [<- Int.pow_add,<- Int.pow_add,show (a+4194304).toNat+(b+4194304).toNat=(a+b+4194304).toNat+4194304 by omega]
theorem Co (a b:Bool) (x y:Int):sg a x*sg b y=sg (a != b) (x*y):=by
 cases a <;> cases b <;> simp [sg,Int.neg_mul,Int.mul_neg]
theorem lg (b:Bool) (x:Int):sg b x=(if b then -1 else 1)*x:=by cases b <;> simp [sg]
theorem wP (b:Bool) (x:Int):sg (!b) x=-sg b x:=by cases b <;> simp [sg]
theorem dI (b:Bool):sg b 0=0:=by cases b <;> rfl
theorem oc {b:Bool} {x:Int} (h:sg b x=0):x=0:=by cases b <;> simp [sg] at h <;> exact h
structure Dy (V:Int) (ng:Bool) (m e:Int):Prop where
 val:V=sg ng m*pw e
 low:-4194304<=e
 form:(m=0∧ng=false∧e=0)∨(0<m∧m % 2=1)
def fi (V:Int):Prop:=∃ ng m e,Dy V ng m e∧m<P 2000∧-1048576<=e∧e<=1048576
theorem Dy.zero:Dy 0 false 0 0:=⟨by simp [sg],by decide,.inl ⟨rfl,rfl,rfl⟩⟩
theorem oe:fi 0:=⟨_,_,_,Dy.zero,cw _,by decide,by decide⟩
theorem Dy.eq_zero {V:Int} {ng:Bool} {m e:Int} (h:Dy V ng m e):V=0 ↔ m=0:=by
 constructor
 ·intro h0
  have:=h.val
  rw [h0] at this
  rcases Int.mul_eq_zero.1 this.symm with h1 | h1
  ·exact oc h1
  ·have:=bD e; omega
 ·intro h0
  rw [h.val,h0,dI,Int.zero_mul]
theorem Dy.nonneg {V:Int} {ng:Bool} {m e:Int} (h:Dy V ng m e):0<=m:=by rcases h.form with h | h <;> omega
theorem Dy.neg_iff {V:Int} {ng:Bool} {m e:Int} (h:Dy V ng m e):ng=true ↔ V<0:=by
 have hp:=bD e
 rcases h.form with ⟨h1,h2,h3⟩ | ⟨h1,_⟩
 ·have:=h.eq_zero.2 h1; simp [h2]; omega
 ·have hm:0<m*pw e:=Int.mul_pos h1 hp
  have:=h.val
  cases ng
  ·simp [sg] at this; simp; omega
  ·simp [sg,Int.neg_mul] at this; simp; omega
theorem zQ {m m':Int} {a b:Nat} (h:m % 2=1) (h':m' % 2=1) (e:m*2^a=m'*2^b):¬ a<b:=by
 intro hlt
 obtain ⟨d,rfl⟩:∃ d,b=a+1+d:=⟨b-a-1,by omega⟩
 rw [Int.pow_add,Int.pow_add] at e
 have e1:m*2^a=(m'*(2^d*2))*2^a:=by rw [e]; grind
 have e2:=Int.eq_of_mul_eq_mul_right (Int.ne_of_gt (aO a)) e1
 rw [show m'*(2^d*2)=2*(m'*2^d) by grind] at e2
 omega
theorem Dy.unique {V:Int} {ng ng':Bool} {m m' e e':Int} (h:Dy V ng m e) (k:Dy V ng' m' e'):ng=ng'∧m=m'∧e=e':=by
 have hn:ng=ng':=by
  have a:=h.neg_iff
  have b:=k.neg_iff
  cases ng <;> cases ng' <;> simp_all <;> omega
 subst hn
 rcases h.form with ⟨h1,h2,h3⟩ | ⟨h1,h2⟩
 ·have h0:=k.eq_zero.1 (h.eq_zero.2 h1)
  rcases k.form with ⟨k1,k2,k3⟩ | ⟨k1,k2⟩
  ·exact ⟨rfl,by omega,by omega⟩
  ·omega
 ·rcases k.form with ⟨k1,k2,k3⟩ | ⟨k1,k2⟩
  ·have:=h.eq_zero.1 (k.eq_zero.2 k1); omega
  ·have e1:m*pw e=m'*pw e':=by
    have:=h.val.symm.trans k.val
    cases ng
    ·simpa [sg] using this
    ·simpa [sg,Int.neg_mul] using this
   have a1:=zQ h2 k2 e1
   have a2:=zQ k2 h2 e1.symm
   have l1:=h.low
   have l2:=k.low
   obtain rfl:e=e':=by omega
   exact ⟨rfl,Int.eq_of_mul_eq_mul_right (Int.ne_of_gt (bD _)) e1,rfl⟩
theorem Dy.ok {V:Int} {ng:Bool} {m e:Int} (h:Dy V ng m e):fi V ↔ m<P 2000∧-1048576<=e∧e<=1048576:=by
 constructor
 ·rintro ⟨ng',m',e',k,h3⟩
  obtain ⟨_,rfl,rfl⟩:=h.unique k
  exact h3
 ·exact fun h3=>⟨_,_,_,h,h3⟩
theorem Dy.neg {V:Int} {ng:Bool} {m e:Int} (h:Dy V ng m e) (h0:0<m):Dy (-V) (!ng) m e :=
 ⟨by rw [wP,Int.neg_mul,<- h.val],h.low,by rcases h.form with ⟨h1,_⟩ | h1; (· omega); (· exact .inr h1)⟩
theorem Km {V:Int} {ng:Bool} {m e:Int} (h:Dy V ng m e):m*pw e=V.natAbs:=by
 have:=h.val
 have h0:=h.nonneg
 have:0<=m*pw e:=Int.mul_nonneg h0 (Int.le_of_lt (bD _))
 cases ng <;> simp [sg,Int.neg_mul] at * <;> omega
theorem Dy.abs {V:Int} {ng:Bool} {m e:Int} (h:Dy V ng m e):Dy V.natAbs false m e :=
 ⟨by rw [<- Km h]; simp [sg],h.low,by rcases h.form with ⟨h1,_,h3⟩ | h1; (· exact .inl ⟨h1,rfl,h3⟩); (· exact .inr h1)⟩
theorem iL {M:Int} {l:Nat} (h:ew M l) (h0:0<M):0<M/2^l∧(M/2^l) % 2=1∧M/2^l*2^l=M:=by
 obtain ⟨k,hk⟩:=h
 have hp:=aO l
 have e:M/2^l=2*k+1:=by rw [hk]; exact Int.mul_ediv_cancel _ (by omega)
 rw [e]
 refine ⟨?_,by omega,hk.symm⟩
 by_cases h1:0<2*k+1
 ·exact h1
 ·have:(2*k+1)*2^l<=0:=Int.mul_nonpos_of_nonpos_of_nonneg (by omega) (by omega)
  omega
theorem Dy.of {M e:Int} {l:Nat} (ng:Bool) (h:ew M l) (h0:0<M) (he:-4194304<=e):Dy (sg ng M*pw e) ng (M/2^l) (e+l):=by
 obtain ⟨a,b,c⟩:=iL h h0
 refine ⟨?_,by omega,.inr ⟨a,b⟩⟩
 rw [ff he,lg,lg]
 rw [show (if ng=true then (-1:Int) else 1)*(M/2^l)*(pw e*2^l)=(if ng=true then (-1:Int) else 1)*(M/2^l*2^l)*pw e by grind,c]
theorem Dy.sum {V V':Int} {low s s':Int} (h:V=s*pw low) (h':V'=s'*pw low):V+V'=(s+s')*pw low:=by rw [h,h',Int.add_mul]
theorem Dy.at {V:Int} {ng:Bool} {m e low:Int} (h:Dy V ng m e) (hl:-4194304<=low) (h1:low<=e):V=sg ng (m*2^(e-low).toNat)*pw low:=by
 rw [h.val,nC hl h1,lg,lg]; grind
theorem lh {x y:Int} (h:x*2^4194304=y*2^4194304):x=y:=Int.eq_of_mul_eq_mul_right (Int.ne_of_gt (aO _)) h
end Go.Proofs.YtcjfonaolcokbaaGreatDoor.M
namespace Go.Proofs.YtcjfonaolcokbaaGreatDoor.M
open Go Ieee
def V (f:Format) (r:Nat):Nat:=if r<f.binade then r else (f.binade+r % f.binade)*2^(r/f.binade-1)
theorem i5 (f:Format):0<f.binade:=Nat.two_pow_pos _
theorem Cp (f:Format) (r:Nat):V f r<V f (r+1):=by
 have hB:=i5 f
 unfold V
 generalize hBd:f.binade=B at *
 clear hBd
 by_cases h1:r+1<B
 ·rw [if_pos (by omega),if_pos h1]; omega
 ·rw [if_neg h1]
  by_cases h2:r<B
  ·have:r+1=B:=by omega
   rw [if_pos h2,this,Nat.mod_self,Nat.div_self hB]; simp; omega
  ·rw [if_neg h2]
   have hq:1<=r/B:=(Nat.one_le_div_iff hB).2 (by omega)
   have hd:=Nat.div_add_mod r B
   have hm:=Nat.mod_lt r hB
   have hp:0<2^(r/B-1):=Nat.two_pow_pos _
   by_cases h3:r % B+1<B
   ·have e1:(r+1) % B=r % B+1:=by
     rw [Nat.add_mod,Nat.mod_eq_of_lt (show 1<B by omega)]; exact Nat.mod_eq_of_lt h3
    have e2:(r+1)/B=r/B:=by
     have:=Nat.div_add_mod (r+1) B
     rw [e1] at this
     have h4:B*((r+1)/B)=B*(r/B):=by omega
     exact Nat.eq_of_mul_eq_mul_left hB h4
    rw [e1,e2]
    exact Nat.mul_lt_mul_of_pos_right (by omega) hp
   ·have h4:r % B+1=B:=by omega
    have e0:r+1=B*(r/B+1):=by rw [Nat.mul_add,Nat.mul_one]; omega
    have e1:(r+1) % B=0:=by rw [e0]; exact Nat.mul_mod_right _ _
    have e2:(r+1)/B=r/B+1:=by rw [e0]; exact Nat.mul_div_cancel_left _ hB
    rw [e1,e2]
    have e3:2^(r/B+1-1)=2*2^(r/B-1):=by
     rw [show r/B+1-1=(r/B-1)+1 by omega,Nat.pow_succ,Nat.mul_comm]
    rw [e3,Nat.add_zero,<- Nat.mul_assoc]
    exact Nat.mul_lt_mul_of_pos_right (by omega) hp
theorem j9 (f:Format) {r s:Nat} (h:r<s):V f r<V f s:=by
 induction s with
 | zero=>omega
 | succ s ih=>
  rcases Nat.lt_or_ge r s with h1 | h1
  ·exact Nat.lt_trans (ih h1) (Cp f s)
  ·have:r=s:=by omega
   subst this
   exact Cp f r
theorem og (f:Format) (r s:Nat):V f r<V f s ↔ r<s:=by
 constructor
 ·intro h
  rcases Nat.lt_trichotomy r s with h1 | h1 | h1
  ·exact h1
  ·subst h1; omega
  ·have:=j9 f h1; omega
 ·exact j9 f
theorem nD (f:Format):V f 0=0:=by unfold V; rw [if_pos (i5 f)]
theorem jr (f:Format) (x:Nat) (h:x % f.signWeight<f.infRung) :
  ∃ m u:Nat,f.read x=.number (x/f.signWeight % 2 == 1) m (f.leastPlace+u)∧m*2^u=V f (x % f.signWeight):=by
 unfold Format.read V
 dsimp only
 by_cases h1:x % f.signWeight<f.binade
 ·rw [if_pos h1,if_pos h1]
  exact ⟨x % f.signWeight,0,by simp,by simp⟩
 ·rw [if_neg h1,if_pos h,if_neg h1]
  exact ⟨_,_,rfl,rfl⟩
theorem oh (f:Format) (hI:f.binade<=f.infRung) (x:Nat) (h:x % f.signWeight=f.infRung):f.read x=.infinity (x/f.signWeight % 2 == 1):=by
 unfold Format.read
 dsimp only
 rw [h,if_neg (by omega),if_neg (by omega),if_pos rfl]
theorem wQ (f:Format) (hI:f.binade<=f.infRung) (x:Nat) (h:f.infRung<x % f.signWeight):∃ s t,f.read x=.nan s t:=by
 unfold Format.read
 dsimp only
 rw [if_neg (by omega),if_neg (by omega),if_neg (by omega)]
 exact ⟨_,_,rfl⟩
theorem vj (f:Format) (hI:f.binade<=f.infRung) (x y:Nat) (h:f.infRung<x % f.signWeight∨f.infRung<y % f.signWeight):f.order x y=none:=by
 unfold Format.order
 rcases h with h | h
 ·obtain ⟨s,t,e⟩:=wQ f hI x h
  rw [e]; rfl
 ·obtain ⟨s,t,e⟩:=wQ f hI y h
  rw [e]; cases f.read x <;> rfl
theorem wo (x y k:Int) (hk:0<k):compare (x*k) (y*k)=compare x y:=by
 simp only [compare,compareOfLessAndEq]
 have h1:x*k<y*k ↔ x<y:=⟨fun h=>Int.lt_of_mul_lt_mul_right h (Int.le_of_lt hk),fun h=>Int.mul_lt_mul_of_pos_right h hk⟩
 have h2:x*k=y*k ↔ x=y:=⟨fun h=>Int.eq_of_mul_eq_mul_right (by omega) h,fun h=>by rw [h]⟩
 simp only [h1,h2]
theorem pI (s:Bool) (m u k:Nat):signed s m u*((2^k:Nat):Int)=signed s m (u+k):=by
 unfold signed
 have e:((m <<< u:Nat):Int)*((2^k:Nat):Int)=((m <<< (u+k):Nat):Int):=by
  rw [Nat.shiftLeft_eq,Nat.shiftLeft_eq,Nat.pow_add,<- Nat.mul_assoc]
  exact (Int.natCast_mul _ _).symm
 split
 ·rw [Int.neg_mul,e]
 ·exact e
def m8 (neg:Bool) (r:Nat):Int:=if neg then -(r:Int) else r
theorem wR (s t:Bool) (m n:Nat) (l:Int) (u v:Nat) :
  (Datum.number s m (l+u)).order (Datum.number t n (l+v))=some (compare (signed s m u) (signed t n v)):=by
 unfold Datum.order
 dsimp only
 have hmin:min (l+(u:Int)) (l+(v:Int))=l+((min u v:Nat):Int):=by omega
 have a:(l+(u:Int)-(l+((min u v:Nat):Int))).toNat=u-min u v:=by omega
 have b:(l+(v:Int)-(l+((min u v:Nat):Int))).toNat=v-min u v:=by omega
 rw [hmin,a,b,<- wo _ _ ((2^min u v:Nat):Int) (by exact_mod_cast Nat.two_pow_pos _),pI,pI,
  show u-min u v+min u v=u by omega,show v-min u v+min u v=v by omega]
theorem rW (s:Bool) (m u:Nat):signed s m u=if s then -((m*2^u:Nat):Int) else ((m*2^u:Nat):Int):=by
 unfold signed; rw [Nat.shiftLeft_eq]
theorem zs (a b c d:Int) (h1:a<b ↔ c<d) (h2:b<a ↔ d<c):compare a b=compare c d:=by
 simp only [compare,compareOfLessAndEq]
 by_cases h:a<b
 ·rw [if_pos h,if_pos (h1.1 h)]
 ·rw [if_neg h,if_neg (fun k=>h (h1.2 k))]
  by_cases k:b<a
  ·rw [if_neg (by omega),if_neg (by have:=h2.1 k; omega)]
  ·rw [if_pos (by omega),if_pos (by have:=fun z=>k (h2.2 z); have:=fun z=>h (h1.2 z); omega)]
theorem wS (f:Format) (x y:Nat) (hx:x % f.signWeight<f.infRung) (hy:y % f.signWeight<f.infRung) :
  f.order x y=some (compare (m8 (x/f.signWeight % 2 == 1) (x % f.signWeight)) (m8 (y/f.signWeight % 2 == 1) (y % f.signWeight))):=by
 obtain ⟨m,u,e1,k1⟩:=jr f x hx
 obtain ⟨n,v,e2,k2⟩:=jr f y hy
 unfold Format.order
 rw [e1,e2,wR,rW,rW,k1,k2]
 congr 1
 generalize x % f.signWeight=r
 generalize y % f.signWeight=q
 have a:=og f r q
 have b:=og f q r
 have a0:=og f 0 r
 have b0:=og f 0 q
 rw [nD] at a0 b0
 unfold m8
 cases (x/f.signWeight % 2 == 1) <;> cases (y/f.signWeight % 2 == 1) <;> simp only [if_true,if_false,Bool.false_eq_true] <;> apply zs <;> omega
theorem gb {a b:Int} (h:a<b):compare a b=.lt:=by simp only [compare,compareOfLessAndEq]; rw [if_pos h]
theorem gc {a b:Int} (h:b<a):compare a b=.gt:=by simp only [compare,compareOfLessAndEq]; rw [if_neg (by omega),if_neg (by omega)]
theorem ke {a b:Int} (h:a=b):compare a b=.eq:=by simp only [compare,compareOfLessAndEq]; rw [if_neg (by omega),if_pos h]
theorem Cq (f:Format) (hI:f.binade<=f.infRung) (x y:Nat) (hx:x % f.signWeight<=f.infRung) (hy:y % f.signWeight<=f.infRung) :
  f.order x y=some (compare (m8 (x/f.signWeight % 2 == 1) (x % f.signWeight)) (m8 (y/f.signWeight % 2 == 1) (y % f.signWeight))):=by
 have hB:=i5 f
 rcases Nat.lt_or_ge (x % f.signWeight) f.infRung with h1 | h1
 ·rcases Nat.lt_or_ge (y % f.signWeight) f.infRung with h2 | h2
  ·exact wS f x y h1 h2
  ·have e2:=oh f hI y (by omega)
   obtain ⟨m,u,e1,_⟩:=jr f x h1
   have h2':y % f.signWeight=f.infRung:=by omega
   unfold Format.order m8
   rw [e1,e2,h2']
   cases (x/f.signWeight % 2 == 1) <;> cases (y/f.signWeight % 2 == 1) <;> simp only [if_true,if_false,Bool.false_eq_true,Datum.order]
   ·rw [gb (by omega)]
   ·rw [gc (by omega)]
   ·rw [gb (by omega)]
   ·rw [gc (by omega)]
 ·have e1:=oh f hI x (by omega)
  have h1':x % f.signWeight=f.infRung:=by omega
  rcases Nat.lt_or_ge (y % f.signWeight) f.infRung with h2 | h2
  ·obtain ⟨n,v,e2,_⟩:=jr f y h2
   unfold Format.order m8
   rw [e1,e2,h1']
   cases (x/f.signWeight % 2 == 1) <;> cases (y/f.signWeight % 2 == 1) <;> simp only [if_true,if_false,Bool.false_eq_true,Datum.order]
   ·rw [gc (by omega)]
   ·rw [gc (by omega)]
   ·rw [gb (by omega)]
   ·rw [gb (by omega)]
  ·have e2:=oh f hI y (by omega)
   have h2':y % f.signWeight=f.infRung:=by omega
   unfold Format.order m8
   rw [e1,e2,h1',h2']
   cases (x/f.signWeight % 2 == 1) <;> cases (y/f.signWeight % 2 == 1) <;> simp only [if_true,if_false,Bool.false_eq_true,Datum.order]
   ·rw [ke rfl]; rfl
   ·rw [gc (by omega)]; rfl
   ·rw [gb (by omega)]; rfl
   ·rw [ke rfl]; rfl
def au (b:Int):Int:=if b<0 then -(b+9223372036854775808) else b
theorem ie:Ieee.double.signWeight=9223372036854775808:=by decide
theorem mc:Ieee.double.infRung=9218868437227405312:=by decide
theorem Cr:Ieee.double.binade<=Ieee.double.infRung:=by decide
theorem nE {b:Int} (h:aj b):((wd b % 9223372036854775808:Nat):Int)=if b<0 then b+9223372036854775808 else b:=by
 unfold aj at h; unfold wd; split <;> omega
theorem pJ {b:Int} (h:aj b):(wd b/9223372036854775808 % 2 == 1)=decide (b<0):=by
 unfold aj at h; unfold wd
 rw [Bool.eq_iff_iff]; simp only [beq_iff_eq,decide_eq_true_eq]; omega
theorem jM {b:Int} (h:aj b):aG b=4 ↔ 9218868437227405312<wd b % 9223372036854775808:=by
 have:=nE h
 rw [rO]; unfold aj at h; unfold bN cf
 split at this <;> omega
theorem wT {b:Int} (h:aj b):m8 (wd b/9223372036854775808 % 2 == 1) (wd b % 9223372036854775808)=au b:=by
 rw [pJ h]; unfold m8 au; rw [nE h]
 by_cases hb:b<0 <;> simp [hb]
theorem nF {a b:Int} (ha:aj a) (hb:aj b) (h1:¬ aG a=4) (h2:¬ aG b=4):FloatKind.f64.format.order (wd a) (wd b)=some (compare (au a) (au b)):=by
 rw [jM ha] at h1; rw [jM hb] at h2
 have:=Cq Ieee.double Cr (wd a) (wd b) (by rw [ie,mc]; omega) (by rw [ie,mc]; omega)
 rw [ie,wT ha,wT hb] at this
 exact this
theorem fu {a b:Int} (ha:aj a) (hb:aj b) (h:aG a=4∨aG b=4):FloatKind.f64.format.order (wd a) (wd b)=none:=by
 refine vj Ieee.double Cr _ _ ?_
 rw [ie,mc]
 rcases h with h | h
 ·exact .inl ((jM ha).1 h)
 ·exact .inr ((jM hb).1 h)
def bE (a b:Int):Bool:=!decide (aG a=4) && (!decide (aG b=4) && decide (au a<au b))
def de (a b:Int):Bool:=!decide (aG a=4) && (!decide (aG b=4) && decide (au a=au b))
theorem Bc {a b:Int} (ha:aj a) (hb:aj b):(FloatKind.f64.format.order (wd a) (wd b) == some .lt)=bE a b:=by
 unfold bE
 by_cases h1:aG a=4
 ·rw [fu ha hb (.inl h1)]; simp [h1]
 ·by_cases h2:aG b=4
  ·rw [fu ha hb (.inr h2)]; simp [h2]
  ·rw [nF ha hb h1 h2]
   simp only [h1,h2,decide_false,Bool.not_false,Bool.true_and]
   rcases Int.lt_trichotomy (au a) (au b) with h | h | h
   ·rw [gb h]; simp [h]
   ·rw [ke h]; simp [h]
   ·rw [gc h]; simp; omega
theorem oi {a b:Int} (ha:aj a) (hb:aj b):(FloatKind.f64.format.order (wd a) (wd b) == some .eq)=de a b:=by
 unfold de
 by_cases h1:aG a=4
 ·rw [fu ha hb (.inl h1)]; simp [h1]
 ·by_cases h2:aG b=4
  ·rw [fu ha hb (.inr h2)]; simp [h2]
  ·rw [nF ha hb h1 h2]
   simp only [h1,h2,decide_false,Bool.not_false,Bool.true_and]
   rcases Int.lt_trichotomy (au a) (au b) with h | h | h
   ·rw [gb h]; simp; omega
   ·rw [ke h]; simp [h]
   ·rw [gc h]; simp; omega
def place (b:Int):Int:=if b<0 then -(b+9223372036854775808)-1 else b
theorem NE {b:Int} (h:aj b):aG b=0 ↔ b=0∨b=-9223372036854775808:=by
 unfold aj at h
 unfold aG bN cf; repeat' split
 all_goals omega
theorem Cs {b:Int} (h:aj b):aj (aI b):=by
 unfold aI; repeat' split
 ·unfold aj; omega
 ·unfold aj; omega
 ·exact h
end Go.Proofs.YtcjfonaolcokbaaGreatDoor.M
namespace Go.Proofs.YtcjfonaolcokbaaGreatDoor.M
open Go
def jz (mag:Int):Nat:=Lib.ctz 64 mag.toNat
def jo (mag:Int):Int:=mag/2^jz mag
def jl (mag:Int):Int:=Lib.bitLen (jo mag).toNat
def ki (fr mag:Int):Int:=fr+1-jl mag
def gd (fr least mag exp:Int):Int:=min (ki fr mag) (exp+jz mag-least)
def kj (fr least mag exp:Int):Int:=exp+jz mag-gd fr least mag exp-least
def cL (fr top least mag exp:Int):Bool:=decide (0<=ki fr mag) && (decide (least<=exp+jz mag) && decide (kj fr least mag exp<=top-2))
def jk (fr top least mag exp:Int):Bool:=if mag<0 then false else if mag=0 then true else cL fr top least mag exp
def jv (fr top least mag exp:Int):Int:=if mag<=0 then 0 else if cL fr top least mag exp then kj fr least mag exp*2^fr.toNat+jo mag*2^(gd fr least mag exp).toNat else 0
theorem gH (n:Nat) (h:n<2^64) (h0:n≠0):2^(Lib.bitLen n-1)<=n∧n<2^Lib.bitLen n∧1<=Lib.bitLen n∧Lib.bitLen n<=64:=by
 have hl:Lib.bitLen n<=64:=Lib.bitLen_le n 64 (by omega) h
 -- by halving
 have main:∀ f n:Nat,n<2^f->f<=64->n≠0->2^(Lib.bitLen n-1)<=n∧n<2^Lib.bitLen n∧1<=Lib.bitLen n:=by
  intro f
  induction f with
  | zero=>intro n h _ h0; simp at h; omega
  | succ f ih=>
   intro n h hf h0
   have h64:n<2^64:=Nat.lt_of_lt_of_le h (Nat.pow_le_pow_right (by decide) hf)
   have e:=Lib.bitLen_half n h0 h64
   by_cases h2:n/2=0
   ·have h1:n=1:=by omega
    subst h1
    have:Lib.bitLen 1=1:=by decide +kernel
    rw [this]; decide
   ·obtain ⟨a,b,c⟩:=ih (n/2) (by rw [Nat.pow_succ] at h; omega) (by omega) h2
    obtain ⟨m,hm⟩:∃ m,Lib.bitLen (n/2)=m+1:=⟨Lib.bitLen (n/2)-1,by omega⟩
    rw [e,hm]
    rw [hm] at a b
    simp only [Nat.add_sub_cancel] at a
    refine ⟨?_,?_,by omega⟩
    ·rw [show 1+(m+1)-1=m+1 by omega,Nat.pow_succ]; omega
    ·rw [show 1+(m+1)=m+1+1 by omega,Nat.pow_succ]; omega
 obtain ⟨a,b,c⟩:=main 64 n h (by omega) h0
 exact ⟨a,b,c,hl⟩
theorem Ct (n k:Nat) (h:n<2^64) (h0:n≠0):n<2^k ↔ Lib.bitLen n<=k:=by
 obtain ⟨a,b,c,d⟩:=gH n h h0
 constructor
 ·intro hk
  apply Nat.le_of_not_lt
  intro hlt
  have:2^k<=2^(Lib.bitLen n-1):=Nat.pow_le_pow_right (by decide) (by omega)
  omega
 ·intro hk
  exact Nat.lt_of_lt_of_le b (Nat.pow_le_pow_right (by decide) hk)
theorem fV {mag:Int} (h0:0<mag) (h:mag<9223372036854775808):∃ m:Nat,mag=2^jz mag*(2*m+1)∧jz mag<63∧jo mag=2*m+1:=by
 unfold jo jz
 obtain ⟨n,rfl⟩:=Int.eq_ofNat_of_zero_le (Int.le_of_lt h0)
 have hn:n≠0:=by omega
 simp only [Int.toNat_natCast]
 obtain ⟨m,hm,hk⟩:=Lib.ctzFrom_spec 64 n (by omega) (by omega)
 have e:Lib.ctz 64 n=Lib.ctzFrom 64 n:=by simp [Lib.ctz,hn]
 rw [e]
 have hp:0<2^Lib.ctzFrom 64 n:=Nat.two_pow_pos _
 have hz:Lib.ctzFrom 64 n<63:=by
  apply Nat.lt_of_not_le
  intro hle
  have:2^63<=2^Lib.ctzFrom 64 n:=Nat.pow_le_pow_right (by decide) hle
  have:2^Lib.ctzFrom 64 n<=n:=by
   rw (occs:=.pos [2]) [hm]
   exact Nat.le_mul_of_pos_right _ (by omega)
  omega
 have hm':(n:Int)=2^Lib.ctzFrom 64 n*(2*(m:Int)+1):=by
  have:((2^Lib.ctzFrom 64 n*(2*m+1):Nat):Int)=2^Lib.ctzFrom 64 n*(2*(m:Int)+1):=by
   rw [Int.natCast_mul]; simp
  rw [<- this,<- hm]
 refine ⟨m,hm',hz,?_⟩
 have hpi:(0:Int)<2^Lib.ctzFrom 64 n:=Int.pow_pos (by decide)
 rw (occs:=.pos [1]) [hm']
 exact Int.mul_ediv_cancel_left _ (by omega)
theorem oj {mag:Int} (h0:0<mag) (h:mag<9223372036854775808):1<=jo mag∧jo mag<=mag:=by
 obtain ⟨m,a,b,c⟩:=fV h0 h
 have hp:(0:Int)<2^jz mag:=Int.pow_pos (by decide)
 have:(2*(m:Int)+1)*1<=(2*(m:Int)+1)*2^jz mag:=Int.mul_le_mul_of_nonneg_left (by omega) (by omega)
 rw [Int.mul_comm _ (2^jz mag),<- a] at this
 omega
theorem s6 {mag:Int} (h0:0<mag) (h:mag<9223372036854775808):1<=jl mag∧jl mag<=63:=by
 obtain ⟨a,b⟩:=oj h0 h
 have s:=gH (jo mag).toNat (by omega) (by omega)
 unfold jl
 have:=(Ct (jo mag).toNat 63 (by omega) (by omega)).1 (by omega)
 omega
theorem pK {fr mag:Int} (h0:0<mag) (h:mag<9223372036854775808) (hf:0<=fr) (s:Nat) (hs:(s:Int)<=ki fr mag):1<=jo mag*2^s∧jo mag*2^s<2^(fr.toNat+1):=by
 obtain ⟨a,b⟩:=oj h0 h
 have sp:=gH (jo mag).toNat (by omega) (by omega)
 unfold ki jl at hs
 have hp:(0:Int)<2^s:=Int.pow_pos (by decide)
 constructor
 ·have:(1:Int)*1<=jo mag*2^s:=Int.mul_le_mul a (by omega) (by omega) (by omega)
  omega
 ·have h1:(jo mag).toNat*2^s<2^(Lib.bitLen (jo mag).toNat)*2^s:=Nat.mul_lt_mul_of_pos_right sp.2.1 (Nat.two_pow_pos _)
  rw [<- Nat.pow_add] at h1
  have h2:2^(Lib.bitLen (jo mag).toNat+s)<=2^(fr.toNat+1):=Nat.pow_le_pow_right (by decide) (by omega)
  have h3:(jo mag).toNat*2^s<2^(fr.toNat+1):=Nat.lt_of_lt_of_le h1 h2
  have h4:(((jo mag).toNat*2^s:Nat):Int)<((2^(fr.toNat+1):Nat):Int):=Int.ofNat_lt.2 h3
  rw [Int.natCast_mul,Int.toNat_of_nonneg (by omega)] at h4
  simpa using h4
theorem Cu {mag exp:Int} (h0:0<mag) (h:mag<9223372036854775808) (hf:1025<exp):cL 52 2047 (-1074) mag exp=false:=by
 have:=s6 h0 h
 unfold cL kj gd ki
 simp; intro _ _; omega
theorem Mc {mag exp:Int} (hm:aj mag):0<=jv 52 2047 (-1074) mag exp∧jv 52 2047 (-1074) mag exp<9218868437227405312:=by
 unfold aj at hm
 unfold jv
 by_cases h0:mag<=0
 ·rw [if_pos h0]; omega
 ·rw [if_neg h0]
  by_cases hk:cL 52 2047 (-1074) mag exp=true
  ·rw [if_pos hk]
   unfold cL at hk
   simp only [Bool.and_eq_true,decide_eq_true_eq] at hk
   have hl:=s6 (mag:=mag) (by omega) hm.2
   have hs:0<=gd 52 (-1074) mag exp∧gd 52 (-1074) mag exp<=ki 52 mag:=by unfold gd; omega
   have hb:=pK (fr:=52) (mag:=mag) (by omega) hm.2 (by omega) (gd 52 (-1074) mag exp).toNat (by omega)
   have hb2:jo mag*2^(gd 52 (-1074) mag exp).toNat<9007199254740992:=hb.2
   have ha:0<=kj 52 (-1074) mag exp:=by unfold kj gd; omega
   -- a normal number's highest bit is counted into the field
   have e:(2:Int)^(52:Int).toNat=4503599627370496:=by decide
   rw [e]
   omega
  ·rw [if_neg hk]; omega
theorem IW {fr mag:Int} (h0:0<mag) (h:mag<9223372036854775808) (hf:0<=fr) (j:Nat):jo mag*2^j<2^fr.toNat ↔ (j:Int)<ki fr mag:=by
 obtain ⟨a,b⟩:=oj h0 h
 have sp:=gH (jo mag).toNat (by omega) (by omega)
 unfold ki jl
 have hc:((((jo mag).toNat*2^j:Nat)):Int)=jo mag*2^j:=by
  rw [Int.natCast_mul,Int.toNat_of_nonneg (by omega)]; simp
 have hd:((2^fr.toNat:Nat):Int)=2^fr.toNat:=by simp
 rw [<- hc,<- hd,Int.ofNat_lt]
 constructor
 ·intro hlt
  have h1:2^(Lib.bitLen (jo mag).toNat-1)*2^j<=(jo mag).toNat*2^j:=Nat.mul_le_mul_right _ sp.1
  rw [<- Nat.pow_add] at h1
  have h2:2^(Lib.bitLen (jo mag).toNat-1+j)<2^fr.toNat:=by omega
  have:=(Nat.pow_lt_pow_iff_right (by decide:1<2)).1 h2
  omega
 ·intro hlt
  have h1:(jo mag).toNat*2^j<2^(Lib.bitLen (jo mag).toNat)*2^j:=Nat.mul_lt_mul_of_pos_right sp.2.1 (Nat.two_pow_pos _)
  rw [<- Nat.pow_add] at h1
  exact Nat.lt_of_lt_of_le h1 (Nat.pow_le_pow_right (by decide) (by omega))
def sk (fr low mag exp:Int):Bool:=decide (0<=ki fr mag) && decide (low<=exp+jz mag)
def se (fr low mag exp:Int):Int:=if sk fr low mag exp then exp+jz mag-gd fr low mag exp else 0
def jp (neg:Bool) (mag exp:Int):Int:=if jk 52 2047 (-1074) mag exp && neg then jv 52 2047 (-1074) mag exp-9223372036854775808 else jv 52 2047 (-1074) mag exp
end Go.Proofs.YtcjfonaolcokbaaGreatDoor.M
namespace Go.Proofs.YtcjfonaolcokbaaGreatDoor.M
open Go Ieee
theorem jN (f:Format) (a n:Nat) (h:(a=0∧n<2*f.binade)∨(f.binade<=n∧n<2*f.binade)):V f (a*f.binade+n)=n*2^a:=by
 have hB:=i5 f
 unfold V
 by_cases hn:n<f.binade
 ·have ha:a=0:=by omega
  subst ha
  rw [Nat.zero_mul,Nat.zero_add,if_pos hn]; simp
 ·have hge:f.binade<=a*f.binade+n:=Nat.le_trans (by omega) (Nat.le_add_left _ _)
  rw [if_neg (by omega)]
  have e:a*f.binade+n=f.binade*(a+1)+(n-f.binade):=by
   rw [Nat.mul_add,Nat.mul_one,Nat.mul_comm]; omega
  rw [e,Nat.mul_add_mod,Nat.mod_eq_of_lt (show n-f.binade<f.binade by omega),Nat.mul_add_div hB,Nat.div_eq_of_lt (show n-f.binade<f.binade by omega)]
  rw [show a+1+0-1=a by omega,show f.binade+(n-f.binade)=n by omega]
theorem Md (f:Format) {r s:Nat} (h:V f r=V f s):r=s:=by
 rcases Nat.lt_trichotomy r s with h1 | h1 | h1
 ·have:=j9 f h1; omega
 ·exact h1
 ·have:=j9 f h1; omega
theorem vk (z:Nat) (n:Int) (u:Nat) (m:Nat) (hn:0<=n) (h:z<=u) (hm:(m:Int)=n*2^z):n.toNat*2^u=m*2^(u-z):=by
 obtain ⟨k,rfl⟩:=Int.eq_ofNat_of_zero_le hn
 have hm':m=k*2^z:=by
  have:((k*2^z:Nat):Int)=(k:Int)*2^z:=by rw [Int.natCast_mul]; simp
  omega
 rw [hm',Int.toNat_natCast,Nat.mul_assoc,<- Nat.pow_add,show z+(u-z)=u by omega]
theorem Kn (f:Format) (fr:Nat) (hB:f.binade=2^fr) (top least mag exp:Int) (h0:0<mag) (h:mag<9223372036854775808)
    (hg:cL fr top least mag exp=true) (he:least<=exp):V f (jv fr top least mag exp).toNat=mag.toNat*2^(exp-least).toNat:=by
  obtain ⟨m,ez,z63,eo⟩:=fV h0 h
  have hg':=hg
  unfold cL at hg'
  simp only [Bool.and_eq_true,decide_eq_true_eq] at hg'
  have hs:0<=gd fr least mag exp∧gd fr least mag exp<=ki fr mag∧gd fr least mag exp<=exp+jz mag-least:=by unfold gd; omega
  have hb:=pK (fr:=fr) h0 h (by omega) (gd fr least mag exp).toNat (by omega)
  have hd:=IW (fr:=fr) h0 h (by omega) (gd fr least mag exp).toNat
  have ha:0<=kj fr least mag exp:=by unfold kj; omega
  obtain ⟨n,hn⟩:=Int.eq_ofNat_of_zero_le (show 0<=jo mag*2^(gd fr least mag exp).toNat by omega)
  obtain ⟨a,ha'⟩:=Int.eq_ofNat_of_zero_le ha
  rw [hn] at hb hd
  have hB1:((f.binade:Nat):Int)=2^fr:=by rw [hB]; simp
  rw [Int.toNat_natCast,<- hB1] at hd
  have hb2:(n:Int)<2*(f.binade:Int):=by
    have:=hb.2
    rw [Int.toNat_natCast,Int.pow_succ,<- hB1] at this
    omega
  have ejv:(jv fr top least mag exp).toNat=a*f.binade+n:=by
    unfold jv
    rw [if_neg (by omega),if_pos hg,hn,ha',Int.toNat_natCast,<- hB1]
    have:((a:Int)*(f.binade:Int)+(n:Int))=((a*f.binade+n:Nat):Int):=by rw [Int.natCast_add,Int.natCast_mul]
    rw [this,Int.toNat_natCast]
  rw [ejv,jN f a n (by
    by_cases hn1:n<f.binade
    · left
      have:=hd.1 (by omega)
      have:kj fr least mag exp=0:=by unfold kj; unfold gd at *; omega
      omega
    · right; omega)]
  -- n*2^a=mag*2^(exp-least)
  have e1:mag.toNat*2^(exp-least).toNat=(jo mag).toNat*2^(jz mag+(exp-least).toNat):=by
    have hm:((mag.toNat:Nat):Int)=jo mag*2^jz mag:=by
      rw [Int.toNat_of_nonneg (by omega),eo,Int.mul_comm]; exact ez
    rw [vk (jz mag) (jo mag) (jz mag+(exp-least).toNat) mag.toNat (by omega) (by omega) hm]
    congr 2; omega
  have e2:n*2^a=(jo mag).toNat*2^((gd fr least mag exp).toNat+a):=by
    rw [vk (gd fr least mag exp).toNat (jo mag) ((gd fr least mag exp).toNat+a) n (by omega) (by omega) (by rw [<- hn])]
    congr 2; omega
  rw [e1,e2]
  congr 2
  unfold kj at ha'
  omega
theorem Nt {mag:Int} (h0:0<mag) (h:mag<9223372036854775808) (k:Nat) (hk:mag<2^k):(jz mag:Int)+jl mag<=k:=by
 obtain ⟨m,ez,z63,eo⟩:=fV h0 h
 have hj:=oj h0 h
 have sp:=gH (jo mag).toNat (by omega) (by omega)
 have h1:2^(Lib.bitLen (jo mag).toNat-1)*2^jz mag<=(jo mag).toNat*2^jz mag:=Nat.mul_le_mul_right _ sp.1
 rw [<- Nat.pow_add] at h1
 have h2:(((jo mag).toNat*2^jz mag:Nat):Int)=mag:=by
  rw [Int.natCast_mul,Int.toNat_of_nonneg (by omega),eo,Int.mul_comm]
  simp only [Int.natCast_pow]
  exact ez.symm
 have h3:(jo mag).toNat*2^jz mag<2^k:=by
  have:((2^k:Nat):Int)=2^k:=by simp
  omega
 have h4:2^(Lib.bitLen (jo mag).toNat-1+jz mag)<2^k:=by omega
 have:=(Nat.pow_lt_pow_iff_right (by decide:1<2)).1 h4
 unfold jl
 omega
theorem zt {fr top least mag exp:Int} (h0:0<mag) (h:mag<9223372036854775808) (hf:0<=fr) (hk:mag<2^(fr.toNat+1)) (he:least<=exp) (he2:exp<=top-2+least):cL fr top least mag exp=true:=by
 have hl:=Nt h0 h (fr.toNat+1) hk
 have:=s6 h0 h
 unfold cL kj gd ki
 simp only [Bool.and_eq_true,decide_eq_true_eq]
 omega
/-! binary64 -/
def rg (b:Int):Int:=if b<0 then b+9223372036854775808 else b
theorem gI {b:Int} (h:aj b):0<=rg b∧rg b=bN b*4503599627370496+cf b:=by
 unfold aj at h; unfold rg bN cf; split <;> omega
theorem s7 {b:Int} (h:ak b=true):bN b≠2047:=by simpa [ak] using h
theorem dB:Ieee.double.binade=2^52:=by decide
theorem Ko {b:Int} (hb:aj b) (hp:ak b=true):V Ieee.double (rg b).toNat=(aK b).toNat*2^(bi b+1074).toNat:=by
 have hne:=s7 hp
 obtain ⟨r0,r1⟩:=gI hb
 have hf:=wL b
 have ht:=pD b
 by_cases h0:bN b=0
 ·have e:(rg b).toNat=0*Ieee.double.binade+(cf b).toNat:=by omega
  rw [e,jN _ _ _ (.inl ⟨rfl,by rw [dB]; omega⟩)]
  simp [aK,bi,h0]
 ·have e:(rg b).toNat=(bN b-1).toNat*Ieee.double.binade+(4503599627370496+cf b).toNat:=by rw [dB]; omega
  rw [e,jN _ _ _ (.inr (by rw [dB]; omega))]
  unfold aK bi
  rw [if_neg hne,if_neg h0,if_neg hne,if_neg h0]
  congr 2; omega
/-! binary32 -/
def rU (mag:Nat) (sh:Int):Nat:=if sh<=0 then mag*2^(-sh).toNat else mag/2^sh.toNat
def rL (mag:Nat) (cut:Bool) (sh:Int):Int :=
 if sh<=0 then 0 else if mag % 2^sh.toNat=0∧cut=false then 0 else if 2*(mag % 2^sh.toNat)<2^sh.toNat then 1 else if 2*(mag % 2^sh.toNat)=2^sh.toNat∧cut=false then 2 else 3
def rE (size low:Int) (mag:Nat) (exp:Int):Int:=max (exp+(Lib.bitLen mag:Int)-size) low
def bM (way:Int) (neg odd:Bool) (left:Int):Bool :=
 if way=0 then decide (left=3) || (decide (left=2) && odd) else if way=1 then decide (left≠0) && neg else if way=2 then decide (left≠0) && !neg else false
def Be (A:Int) (mag:Nat) (exp:Int) (cut:Bool):Prop:=(mag:Int)*pw exp<=A∧A<((mag:Int)+1)*pw exp∧(cut=false ↔ A=(mag:Int)*pw exp)
structure km (A:Int) (u:Nat) (q:Int) (left:Int):Prop where
 lo:(u:Int)*q<=A
 hi:A<(u:Int)*q+q
 l0:left=0 ↔ A=(u:Int)*q
 l1:left=1 ↔ (u:Int)*q<A∧2*A<2*((u:Int)*q)+q
 l2:left=2 ↔ 2*A=2*((u:Int)*q)+q
 l3:left=3 ↔ 2*((u:Int)*q)+q<2*A
theorem km.mk' {A U q left:Int} {u:Nat} (hU:(u:Int)*q=U) (lo:U<=A) (hi:A<U+q) (l0:left=0 ↔ A=U) (l1:left=1 ↔ U<A∧2*A<2*U+q) (l2:left=2 ↔ 2*A=2*U+q) (l3:left=3 ↔ 2*U+q<2*A):km A u q left:=by
 subst hU
 exact ⟨lo,hi,l0,l1,l2,l3⟩
theorem wV (n:Nat) (h:0<n):∃ k,2^n=2*k∧0<k:=⟨2^(n-1),by rw [<- Nat.pow_succ',Nat.succ_eq_add_one,Nat.sub_add_cancel h],Nat.two_pow_pos _⟩
theorem IX {A:Int} {mag:Nat} {exp e:Int} {cut:Bool} (h:Be A mag exp cut) (hc:cut=true->0<e-exp) (h0:-4194304<=e) (h1:-4194304<=exp):km A (rU mag (e-exp)) (pw e) (rL mag cut (e-exp)):=by
 obtain ⟨a1,a2,a3⟩:=h
 have hq:=bD exp
 have hqe:=bD e
 by_cases hs:e-exp<=0
 ·have hcf:cut=false:=by cases cut; rfl; have:=hc rfl; omega
  have hA:=a3.1 hcf
  unfold rU rL
  rw [if_pos hs,if_pos hs]
  have e1:((mag*2^(-(e-exp)).toNat:Nat):Int)*pw e=A:=by
   rw [hA,nC (e:=exp) (low:=e) h0 (by omega),show (exp-e).toNat=(-(e-exp)).toNat by omega]
   push_cast
   rw [Int.mul_assoc]
  exact ⟨by rw [e1]; omega,by rw [e1]; omega,by rw [e1]; simp,by rw [e1]; constructor <;> intro h <;> omega,by rw [e1]; constructor <;> intro h <;> omega,by rw [e1]; constructor <;> intro h <;> omega⟩
 ·have hp:pw e=2^(e-exp).toNat*pw exp:=nC h1 (by omega)
  obtain ⟨s,hsn⟩:∃ s,(e-exp).toNat=s:=⟨_,rfl⟩
  have hs0:0<s:=by omega
  unfold rU rL
  rw [if_neg hs,if_neg hs,hsn]
  rw [hsn] at hp
  obtain ⟨k,hk,hk0⟩:=wV s hs0
  have hpn:(2:Int)^s=((2^s:Nat):Int):=by simp
  rw [hpn,hk] at hp
  rw [hk]
  have hdm:=Nat.div_add_mod mag (2*k)
  have hml:=Nat.mod_lt mag (show 0<2*k by omega)
  generalize mag/(2*k)=u at *
  generalize mag % (2*k)=t at *
  generalize hQ:pw exp=q at *
  have e1:(mag:Int)*q=(u:Int)*(((2*k:Nat):Int)*q)+(t:Int)*q:=by
   rw [<- hdm]; push_cast; rw [Int.add_mul]; congr 1; rw [Int.mul_comm (2*(k:Int)) u,Int.mul_assoc]
  have e2:((mag:Int)+1)*q=(mag:Int)*q+q:=by rw [Int.add_mul,Int.one_mul]
  rw [e2,e1] at a2
  rw [e1] at a1 a3
  rw [hp]
  have e3:((2*k:Nat):Int)*q=2*((k:Int)*q):=by push_cast; rw [Int.mul_assoc]
  have t1:∀ x y:Nat,x<=y->(x:Int)*q<=(y:Int)*q:=fun x y h=>Int.mul_le_mul_of_nonneg_right (by omega) (by omega)
  have t2:∀ x y:Nat,x<y->(x:Int)*q+q<=(y:Int)*q:=fun x y h=>by
   have:=t1 (x+1) y h
   push_cast at this
   rwa [Int.add_mul,Int.one_mul] at this
  have t0:0<=(t:Int)*q:=Int.mul_nonneg (by omega) (by omega)
  have b1:(t:Int)*q+q<=2*((k:Int)*q):=by rw [<- e3]; exact t2 t (2*k) hml
  rw [e3] at a1 a2 a3 ⊢
  have c1:t<k->(t:Int)*q+q<=(k:Int)*q:=t2 t k
  have c2:t=k->(t:Int)*q=(k:Int)*q:=fun h=>by rw [h]
  have c3:k<t->(k:Int)*q+q<=(t:Int)*q:=t2 k t
  have c4:t=0->(t:Int)*q=0:=fun h=>by rw [h]; simp
  have c5:0<t->q<=(t:Int)*q:=fun h=>by have:=t1 1 t h; rwa [Int.natCast_one,Int.one_mul] at this
  clear e1 e2 e3 t1 t2 hp
  obtain ⟨T,hT⟩:∃ T,(t:Int)*q=T:=⟨_,rfl⟩
  obtain ⟨K,hK⟩:∃ K,(k:Int)*q=K:=⟨_,rfl⟩
  obtain ⟨U,hU⟩:∃ U,(u:Int)*(2*K)=U:=⟨_,rfl⟩
  rw [hT] at c1 c2 c3 c4 c5 t0 b1 a1 a2 a3
  rw [hK] at c1 c2 c3 b1 a1 a2 a3 ⊢
  rw [hU] at a1 a2 a3
  have a3':cut=true->A≠U+T:=fun h h2=>by rw [a3.2 h2] at h; cases h
  cases cut
  ·have hA:=a3.1 rfl
   subst hA
   by_cases z0:t=0
   ·have:=c4 z0
    rw [if_pos ⟨z0,rfl⟩]
    exact km.mk' hU (by omega) (by omega) (by constructor <;> intro h <;> omega) (by constructor <;> intro h <;> omega) (by constructor <;> intro h <;> omega) (by constructor <;> intro h <;> omega)
   ·have:=c5 (by omega)
    rw [if_neg (fun h=>z0 h.1)]
    by_cases z1:t<k
    ·have:=c1 z1
     rw [if_pos (by omega)]
     exact km.mk' hU (by omega) (by omega) (by constructor <;> intro h <;> omega) (by constructor <;> intro h <;> omega) (by constructor <;> intro h <;> omega) (by constructor <;> intro h <;> omega)
    ·rw [if_neg (by omega)]
     by_cases z2:t=k
     ·have:=c2 z2
      rw [if_pos ⟨by omega,rfl⟩]
      exact km.mk' hU (by omega) (by omega) (by constructor <;> intro h <;> omega) (by constructor <;> intro h <;> omega) (by constructor <;> intro h <;> omega) (by constructor <;> intro h <;> omega)
     ·have:=c3 (by omega)
      rw [if_neg (fun h=>z2 (by omega))]
      exact km.mk' hU (by omega) (by omega) (by constructor <;> intro h <;> omega) (by constructor <;> intro h <;> omega) (by constructor <;> intro h <;> omega) (by constructor <;> intro h <;> omega)
  ·have hA:=a3' rfl
   rw [if_neg (fun h=>by cases h.2)]
   by_cases z1:t<k
   ·have:=c1 z1
    rw [if_pos (by omega)]
    exact km.mk' hU (by omega) (by omega) (by constructor <;> intro h <;> omega) (by constructor <;> intro h <;> omega) (by constructor <;> intro h <;> omega) (by constructor <;> intro h <;> omega)
   ·rw [if_neg (by omega),if_neg (fun h=>by cases h.2)]
    have hkt:K<=T:=by
     by_cases z2:t=k
     ·have:=c2 z2; omega
     ·have:=c3 (by omega); omega
    exact km.mk' hU (by omega) (by omega) (by constructor <;> intro h <;> omega) (by constructor <;> intro h <;> omega) (by constructor <;> intro h <;> omega) (by constructor <;> intro h <;> omega)
theorem zR {size low:Int} {mag:Nat} {exp:Int} (hs:0<size) (h:mag<2^64) (h0:mag≠0):rU mag (rE size low mag exp-exp)<2^size.toNat∧(low<rE size low mag exp->2^(size.toNat-1)<=rU mag (rE size low mag exp-exp)):=by
 obtain ⟨b1,b2,b3,b4⟩:=gH mag h h0
 obtain ⟨n,hn⟩:∃ n,Lib.bitLen mag=n:=⟨_,rfl⟩
 obtain ⟨z,rfl⟩:∃ z:Nat,size=z:=⟨size.toNat,by omega⟩
 unfold rE rU
 rw [hn] at b1 b2 b3 b4 ⊢
 rw [Int.toNat_natCast]
 obtain ⟨e,he⟩:∃ e,max (exp+(n:Int)-(z:Int)) low=e:=⟨_,rfl⟩
 have he1:exp+n-z<=e:=by omega
 have he2:low<e->e=exp+n-z:=by omega
 rw [he]
 by_cases hse:e-exp<=0
 ·rw [if_pos hse]
  obtain ⟨k,hk⟩:∃ k,(-(e-exp)).toNat=k:=⟨_,rfl⟩
  rw [hk]
  refine ⟨?_,fun hl=>?_⟩
  ·calc mag*2^k<2^n*2^k:=Nat.mul_lt_mul_of_pos_right b2 (Nat.two_pow_pos k)
    _=2^(n+k):=by rw [Nat.pow_add]
    _<=2^z:=Nat.pow_le_pow_right (by decide) (by omega)
  ·have:=he2 hl
   calc 2^(z-1)<=2^(n-1+k):=Nat.pow_le_pow_right (by decide) (by omega)
    _=2^(n-1)*2^k:=by rw [Nat.pow_add]
    _<=mag*2^k:=Nat.mul_le_mul_right _ b1
 ·rw [if_neg hse]
  obtain ⟨k,hk⟩:∃ k,(e-exp).toNat=k:=⟨_,rfl⟩
  rw [hk]
  refine ⟨?_,fun hl=>?_⟩
  ·rw [Nat.div_lt_iff_lt_mul (Nat.two_pow_pos k),<- Nat.pow_add]
   exact Nat.lt_of_lt_of_le b2 (Nat.pow_le_pow_right (by decide) (by omega))
  ·have:=he2 hl
   rw [Nat.le_div_iff_mul_le (Nat.two_pow_pos k),<- Nat.pow_add]
   exact Nat.le_trans (Nat.pow_le_pow_right (by decide) (by omega)) b1
theorem pM (f:Format) (a u:Nat) (h:u<2*f.binade) (h2:0<a->f.binade<=u):V f (a*f.binade+u)=u*2^a∧V f (a*f.binade+u+1)=(u+1)*2^a:=by
 have hB:=i5 f
 refine ⟨jN f a u (by by_cases ha:a=0 <;> omega),?_⟩
 by_cases hu:u+1<2*f.binade
 ·rw [Nat.add_assoc]
  exact jN f a (u+1) (by by_cases ha:a=0 <;> omega)
 ·have e:a*f.binade+u+1=(a+1)*f.binade+f.binade:=by rw [Nat.add_mul]; omega
  rw [e,jN f (a+1) f.binade (by omega),Nat.pow_succ,show u+1=f.binade*2 by omega,Nat.mul_assoc,Nat.mul_comm (2^a) 2]
theorem Cv {mag:Int} (h0:0<mag) (h:mag<9223372036854775808) (k:Nat) (hk:2^k<=mag):(k:Int)+1<=(jz mag:Int)+jl mag:=by
 obtain ⟨m,ez,z63,eo⟩:=fV h0 h
 have hj:=oj h0 h
 have sp:=gH (jo mag).toNat (by omega) (by omega)
 have h1:(jo mag).toNat*2^jz mag<2^Lib.bitLen (jo mag).toNat*2^jz mag:=Nat.mul_lt_mul_of_pos_right sp.2.1 (Nat.two_pow_pos _)
 rw [<- Nat.pow_add] at h1
 have h2:(((jo mag).toNat*2^jz mag:Nat):Int)=mag:=by
  rw [Int.natCast_mul,Int.toNat_of_nonneg (by omega),eo,Int.mul_comm]
  simp only [Int.natCast_pow]
  exact ez.symm
 have h3:2^k<=(jo mag).toNat*2^jz mag:=by
  have:((2^k:Nat):Int)=2^k:=by simp
  omega
 have h4:2^k<2^(Lib.bitLen (jo mag).toNat+jz mag):=by omega
 have:=(Nat.pow_lt_pow_iff_right (by decide:1<2)).1 h4
 unfold jl
 omega
theorem zS (n:Nat):(0:Int)<=2^n:=Int.le_of_lt (aO n)
theorem Cw (f:Format) (fr:Nat) (hfr:fr<=60) (hB:f.binade=2^fr) (top least:Int) (ht:2<=top) (u:Nat) (e:Int) (h0:0<u) (hu:u<=2^(fr+1)) (he:least<=e) (hn:least<e->2^fr<=u) :
  let rung:=(e-least).toNat*2^fr+u
  jk fr top least (u:Int) e=decide ((rung:Int)<top*2^fr)∧((rung:Int)<top*2^fr->jv fr top least (u:Int) e=rung):=by
 intro rung
 have hp60:2^(fr+1)<=2^61:=Nat.pow_le_pow_right (by decide) (by omega)
 have hu63:(u:Int)<9223372036854775808:=by
  have:(2:Nat)^61=2305843009213693952:=by decide
  omega
 have hu0:(0:Int)<(u:Int):=by omega
 have hP:0<2^fr:=Nat.two_pow_pos fr
 have hPi:((2^fr:Nat):Int)=2^fr:=by simp
 have hlo:=s6 hu0 hu63
 have hJ:cL fr top least (u:Int) e=decide ((rung:Int)<top*2^fr):=by
  obtain ⟨a,ha⟩:∃ a,(e-least).toNat=a:=⟨_,rfl⟩
  have hr:(rung:Int)=(a:Int)*2^fr+u:=by simp only [rung,ha]; push_cast; rfl
  rw [hr]
  by_cases hlt:u<2^(fr+1)
  ·by_cases hea:(a:Int)<=top-2
   ·have g:=zt (fr:=(fr:Int)) (top:=top) (least:=least) (exp:=e) hu0 hu63 (by omega) (by rw [Int.toNat_natCast]; exact_mod_cast hlt) he (by omega)
    rw [g]
    have:(a:Int)*2^fr<=(top-2)*2^fr:=Int.mul_le_mul_of_nonneg_right hea (by omega)
    have e2:(top-2)*2^fr=top*2^fr-2*2^fr:=by rw [Int.sub_mul]
    have hu2:(u:Int)<2*2^fr:=by rw [Nat.pow_succ] at hlt; omega
    exact (decide_eq_true (by omega)).symm
   ·have hge:=hn (by omega)
    have g2:=Cv hu0 hu63 fr (by rw [<- hPi]; omega)
    have g:cL fr top least (u:Int) e=false:=by
     unfold cL kj gd ki
     simp only [Bool.and_eq_false_iff,decide_eq_false_iff_not]
     omega
    rw [g]
    have:(top-1)*2^fr<=(a:Int)*2^fr:=Int.mul_le_mul_of_nonneg_right (by omega) (by omega)
    have e2:(top-1)*2^fr=top*2^fr-2^fr:=by rw [Int.sub_mul,Int.one_mul]
    exact (decide_eq_false (by omega)).symm
  ·have hue:u=2^(fr+1):=by omega
   have hpp:2^(fr+1)<2^(fr+2):=Nat.pow_lt_pow_right (by decide) (by omega)
   have g1:=Nt hu0 hu63 (fr+2) (by rw [hue]; exact_mod_cast hpp)
   have g2:=Cv hu0 hu63 (fr+1) (by rw [hue]; simp)
   have hu2:(u:Int)=2*2^fr:=by rw [hue,Nat.pow_succ]; push_cast; omega
   have hjo:jl (u:Int)<=fr+1:=by
    obtain ⟨mm,ez,z63,eo⟩:=fV hu0 hu63
    by_cases hz:jz (u:Int)=0
    ·exfalso
     rw [hz] at ez
     rw [hu2] at ez
     simp at ez
     omega
    ·omega
   by_cases hea:(a:Int)<=top-3
   ·have g:cL fr top least (u:Int) e=true:=by
     unfold cL kj gd ki
     simp only [Bool.and_eq_true,decide_eq_true_eq]
     omega
    rw [g]
    have:(a:Int)*2^fr<=(top-3)*2^fr:=Int.mul_le_mul_of_nonneg_right hea (by omega)
    have e2:(top-3)*2^fr=top*2^fr-3*2^fr:=by rw [Int.sub_mul]
    exact (decide_eq_true (by omega)).symm
   ·have g:cL fr top least (u:Int) e=false:=by
     unfold cL kj gd ki
     simp only [Bool.and_eq_false_iff,decide_eq_false_iff_not]
     omega
    rw [g]
    have:(top-2)*2^fr<=(a:Int)*2^fr:=Int.mul_le_mul_of_nonneg_right (by omega) (by omega)
    have e2:(top-2)*2^fr=top*2^fr-2*2^fr:=by rw [Int.sub_mul]
    exact (decide_eq_false (by omega)).symm
 refine ⟨?_,fun hlt=>?_⟩
 ·unfold jk
  rw [if_neg (by omega),if_neg (by omega)]
  exact hJ
 ·have hg:cL fr top least (u:Int) e=true:=by rw [hJ]; exact decide_eq_true hlt
  have hv:=Kn f fr hB top least (u:Int) e hu0 hu63 hg he
  rw [Int.toNat_natCast] at hv
  have hj0:0<=jv fr top least (u:Int) e:=by
   unfold jv
   rw [if_neg (by omega),if_pos hg]
   have h1:=oj hu0 hu63
   have h2:0<=kj fr least (u:Int) e:=by unfold kj gd; unfold cL at hg; simp only [Bool.and_eq_true,decide_eq_true_eq] at hg; omega
   have h3:(0:Int)<=2^(fr:Int).toNat:=zS _
   have h4:(0:Int)<=2^(gd fr least (u:Int) e).toNat:=zS _
   have:=Int.mul_nonneg h2 h3
   have:=Int.mul_nonneg (show 0<=jo (u:Int) by omega) h4
   omega
  have hV:V f rung=u*2^(e-least).toNat:=by
   show V f ((e-least).toNat*2^fr+u)=_
   rw [<- hB]
   by_cases hlt2:u<2^(fr+1)
   ·exact (pM f (e-least).toNat u (by rw [hB]; rw [Nat.pow_succ] at hlt2; omega) (fun h=>by rw [hB]; exact hn (by omega))).1
   ·have hue:u=2*f.binade-1+1:=by rw [hB]; rw [Nat.pow_succ] at hu hlt2; omega
    have hb:=i5 f
    have:=(pM f (e-least).toNat (2*f.binade-1) (by omega) (fun h=>by omega)).2
    rw [<- hue,Nat.add_assoc,<- hue] at this
    exact this
  have:=Md f (hv.trans hV.symm)
  omega
end Go.Proofs.YtcjfonaolcokbaaGreatDoor.M
namespace Go.Proofs.YtcjfonaolcokbaaGreatDoor
open Go Go.RowKit Go.Proofs.YtcjfonaolcokbaaGreatDoor.M
structure aQ (w:World) (ao:Option Addr) (n cap:Nat) (d:Nat->Int):Prop where
 le:n<=cap
 max:cap<=9223372036854775807
 nl:ao=none->cap=0
 spot:0<n->∃ b off,ao=some ⟨b,off,none⟩∧b<w.heap.size∧∀ i,i<n->w.cell? ⟨b,off+i,none⟩=some (.int .i64 (d i))
def bO (w:World) (g N:Nat) (r:Nat->Int):Prop :=
 ∃ cur,w.heap[g]?=some (.cells cur 3 (0,0))∧cur.size=N∧∀ i,i<N->cur[i]?=some (.int .i64 (r i))
def eP (d:Nat->Int) (n:Nat):List Value:=(List.range n).map fun i=>.int .i64 (d i)
theorem bR (d:Nat->Int) (n:Nat):(eP d n).length=n:=by simp [eP]
theorem eW (d:Nat->Int) {n i:Nat} (h:i<n):(eP d n)[i]?=some (.int .i64 (d i)):=by simp [eP,h]
theorem rZ (d:Nat->Int) (n:Nat):∀ u ∈ eP d n,u.oneCell'=true:=by
 intro u hu
 obtain ⟨_,_,rfl⟩:=List.mem_map.1 hu
 rfl
theorem jD {xs:List Value} {d:Nat->Int} {n:Nat} (hl:xs.length=n) (h:∀ i,i<n->xs[i]?=some (.int .i64 (d i))):xs=eP d n:=by
 apply List.ext_getElem?
 intro i
 by_cases hi:i<n
 ·rw [h i hi,eW d hi]
 ·rw [List.getElem?_eq_none (by omega),List.getElem?_eq_none (by rw [bR]; omega)]
def aX (B:Nat) (w:World) (v:Value) (n:Nat) (d:Nat->Int):Prop:=w.ownsRow B 3 1 v n (eP d n)
theorem aQ.stays {w w':World} {ao:Option Addr} {n cap:Nat} {d:Nat->Int} (h:aQ w ao n cap d) {B:Nat} (hb:Below B w w') (hB:w.heap.size<=B):aQ w' ao n cap d :=
  ⟨h.le,h.max,h.nl,fun hn=>by
    obtain ⟨b,off,rfl,hlt,hc⟩:=h.spot hn
    exact ⟨b,off,rfl,Nat.lt_of_lt_of_le hlt hb.size,fun i hi=>(hb.cell (p:=⟨b,off+i,none⟩) (Nat.lt_of_lt_of_le hlt hB)).trans (hc i hi)⟩⟩
theorem aQ.keeps {w w':World} {ao:Option Addr} {n cap:Nat} {d:Nat->Int} (h:aQ w ao n cap d) (hb:Below w.heap.size w w'):aQ w' ao n cap d:=h.stays hb (Nat.le_refl _)
theorem aQ.congr {w:World} {ao:Option Addr} {n cap:Nat} {d e:Nat->Int} (h:aQ w ao n cap d) (he:∀ i,i<n->d i=e i):aQ w ao n cap e :=
  ⟨h.le,h.max,h.nl,fun hn=>by
    obtain ⟨b,off,rfl,hlt,hc⟩:=h.spot hn
    exact ⟨b,off,rfl,hlt,fun i hi=>by rw [<- he i hi]; exact hc i hi⟩⟩
theorem aQ.nil (w:World) (d:Nat->Int):aQ w none 0 0 d:=⟨Nat.le_refl _,by decide,fun _=>rfl,fun h=>by omega⟩
theorem aQ.alloc {w:World} {ao:Option Addr} {n cap:Nat} {d:Nat->Int} (h:aQ w ao n cap d) (o:Obj):aQ (w.alloc o) ao n cap d:=h.keeps ((Below.refl _ _).alloc (Nat.le_refl _) _)
theorem bO.cell {w:World} {g N:Nat} {r:Nat->Int} (h:bO w g N r) {i:Nat} (hi:i<N):w.cell? ⟨g,i,none⟩=some (.int .i64 (r i)):=by
 obtain ⟨cur,hg,hs,hc⟩:=h
 rw [cell_of_row w g i cur _ _ hg]; exact hc i hi
theorem bO.frozen {w:World} {g N:Nat} {r:Nat->Int} (h:bO w g N r) (i:Nat):w.frozen? ⟨g,i,none⟩=false:=by
 obtain ⟨cur,hg,hs,hc⟩:=h
 exact frozen_of_row w g i cur _ hg
theorem bO.lt {w:World} {g N:Nat} {r:Nat->Int} (h:bO w g N r):g<w.heap.size:=by
 obtain ⟨cur,hg,hs,hc⟩:=h
 exact (Array.getElem?_eq_some_iff.1 hg).1
theorem bO.store {w:World} {g N:Nat} {r:Nat->Int} (h:bO w g N r) (i:Nat) (x:Int):bO (w.setCell ⟨g,i,none⟩ (.int .i64 x)) g N (b7 r i x):=by
 obtain ⟨cur,hg,hs,hc⟩:=h
 refine ⟨cur.setIfInBounds i (.int .i64 x),heap_setCell_same w g i cur _ _ hg,by simpa using hs,fun j hj=>?_⟩
 by_cases hji:j=i
 ·subst hji; rw [bt,Array.getElem?_setIfInBounds_self_of_lt (by omega)]
 ·rw [aV r x hji,Array.getElem?_setIfInBounds_ne (by omega)]; exact hc j hj
theorem bO.of_block {w w':World} {g N:Nat} {r:Nat->Int} (h:bO w g N r) (hb:w'.heap[g]?=w.heap[g]?):bO w' g N r:=by
 obtain ⟨cur,hg,hs,hc⟩:=h
 exact ⟨cur,hb.trans hg,hs,hc⟩
theorem bO.stays {w w':World} {g N:Nat} {r:Nat->Int} (h:bO w g N r) {B:Nat} (hb:Below B w w') (hB:g<B):bO w' g N r:=h.of_block (hb.block g hB)
theorem bO.keeps {w w':World} {g N:Nat} {r:Nat->Int} (h:bO w g N r) (hb:Below w.heap.size w w'):bO w' g N r:=h.stays hb h.lt
theorem bO.apart {w:World} {g N:Nat} {r:Nat->Int} (h:bO w g N r) {a:Addr} (ha:g≠a.block) (u:Value):bO (w.setCell a u) g N r:=h.of_block (heap_setCell_other w a g u ha)
theorem bO.alloc {w:World} {g N:Nat} {r:Nat->Int} (h:bO w g N r) (o:Obj):bO (w.alloc o) g N r:=h.of_block (Below.heap_alloc w o g h.lt)
theorem bO.congr {w:World} {g N:Nat} {r s:Nat->Int} (h:bO w g N r) (he:∀ i,i<N->r i=s i):bO w g N s:=by
 obtain ⟨cur,hg,hs,hc⟩:=h
 exact ⟨cur,hg,hs,fun i hi=>by rw [hc i hi,he i hi]⟩
theorem bO.row {w:World} {g N:Nat} {r:Nat->Int} (h:bO w g N r) {off n cap:Nat} (hn:off+n<=N) (hc:n<=cap) (hm:cap<=9223372036854775807):aQ w (some ⟨g,off,none⟩) n cap (fun i=>r (off+i)) :=
 ⟨hc,hm,(fun e=>by cases e),fun _=>⟨g,off,rfl,h.lt,fun i hi=>h.cell (by omega)⟩⟩
theorem bO.row0 {w:World} {g N:Nat} {r:Nat->Int} (h:bO w g N r) {n:Nat} (hn:n<=N) (hm:N<=9223372036854775807):aQ w (some ⟨g,0,none⟩) n N r :=
 ⟨hn,hm,(fun e=>by cases e),fun _=>⟨g,0,rfl,h.lt,fun i hi=>by rw [Nat.zero_add]; exact h.cell (by omega)⟩⟩
theorem bO.out {w:World} {g N:Nat} {r:Nat->Int} (h:bO w g N r) {B n:Nat} (hB:B<=g) (hn:n<=N) (hm:N<=9223372036854775807):aX B w (.slice (some ⟨g,0,none⟩) n N) n r:=by
 obtain ⟨cur,hg,hs,hc⟩:=h
 refine ⟨by rw [bR]; omega,.inr ⟨g,N,cur,rfl,hB,hg,hn,by unfold maxLen; omega,by omega,?_⟩⟩
 apply jD (by simp; omega)
 intro i hi
 rw [List.getElem?_take,if_pos (by omega),Array.getElem?_toList]
 exact hc i (by omega)
theorem bO.made {w:World} {B g N:Nat} (h:w.ownsRow B 3 1 (.slice (some ⟨g,0,none⟩) N N) N (madeCells (Value.int .i64 0).cells (N*1)).toList):bO w g N (fun _=>0):=by
 rcases h.2 with ⟨h',_⟩ | ⟨g',cap',cur,h',_,hg,_,_,hs,htake⟩
 ·simp at h'
 ·simp only [Value.slice.injEq,Option.some.injEq,Addr.mk.injEq,and_true,true_and] at h'
  obtain ⟨rfl,rfl⟩:=h'
  refine ⟨cur,hg,by omega,fun i hi=>?_⟩
  have e:cur.toList[i]?=(madeCells (Value.int .i64 0).cells (N*1)).toList[i]?:=by
   rw [<- htake,List.getElem?_take,if_pos (by omega)]
  rw [Array.getElem?_toList] at e
  rw [e]
  show (madeCells #[Value.int .i64 0] (N*1)).toList[i]?=_
  rw [Nat.mul_one,toList_madeCells_one]
  simp [hi]
theorem bO.new (w:World) (xs:Array Value) (r:Nat->Int) (h:∀ i,i<xs.size->xs[i]?=some (.int .i64 (r i))):bO (w.alloc (.cells xs 3)) w.heap.size xs.size r :=
 ⟨xs,heap_alloc_new w _,rfl,h⟩
theorem aX.row {B:Nat} {w:World} {v:Value} {n:Nat} {d:Nat->Int} (h:aX B w v n d):∃ ao cap,v=.slice ao n cap∧aQ w ao n cap d:=by
 rcases h.2 with ⟨rfl,rfl⟩ | ⟨g,cap,cur,rfl,hb,hg,hn,hm,hs,ht⟩
 ·exact ⟨none,0,rfl,aQ.nil _ _⟩
 ·refine ⟨_,cap,rfl,hn,by unfold maxLen at hm; exact hm,(fun e=>by cases e),fun _=>⟨g,0,rfl,(Array.getElem?_eq_some_iff.1 hg).1,fun i hi=>?_⟩⟩
  rw [Nat.zero_add,cell_of_row w g i cur _ _ hg]
  have e:(cur.toList.take (n*1))[i]?=(eP d n)[i]?:=by rw [ht]
  rw [List.getElem?_take,if_pos (by omega),eW d hi,Array.getElem?_toList] at e
  exact e
theorem aX.nil (B:Nat) (w:World) (d:Nat->Int):aX B w (.slice none 0 0) 0 d:=World.ownsRow_nil _ _ _ _
theorem aX.stays {B:Nat} {w w':World} {v:Value} {n:Nat} {d:Nat->Int} (h:aX B w v n d) (hb:Below w.heap.size w w'):aX B w' v n d:=by
 refine ⟨h.1,?_⟩
 rcases h.2 with hn | ⟨g,cap,cur,rfl,hbb,hg,rest⟩
 ·exact .inl hn
 ·exact .inr ⟨g,cap,cur,rfl,hbb,(hb.block g (Array.getElem?_eq_some_iff.1 hg).1).trans hg,rest⟩
theorem aX.lower {B B':Nat} {w:World} {v:Value} {n:Nat} {d:Nat->Int} (h:aX B w v n d) (hB:B'<=B):aX B' w v n d:=by
 refine ⟨h.1,?_⟩
 rcases h.2 with hn | ⟨g,cap,cur,rfl,hbb,rest⟩
 ·exact .inl hn
 ·exact .inr ⟨g,cap,cur,rfl,by omega,rest⟩
theorem aX.congr {B:Nat} {w:World} {v:Value} {n:Nat} {d e:Nat->Int} (h:aX B w v n d) (he:∀ i,i<n->d i=e i):aX B w v n e:=by
 unfold aX at h ⊢
 rwa [show eP e n=eP d n from (jD (bR d n) fun i hi=>by rw [eW d hi,he i hi]).symm]
theorem aa {a b c:World} (h:Below a.heap.size a b) (k:Below b.heap.size b c):Below a.heap.size a c:=h.trans (k.mono h.size)
theorem aA (w:World):Below w.heap.size w w:=Below.refl _ _
theorem iu {B:Nat} {a w:World} (h:Below B a w) (n:Nat):Below B a (w.drewN n):=⟨h.os,h.tape,h.output,h.size,h.block⟩
def m9 (ao:Option Addr) (t cap:Nat):Value:=if t=0 then .slice none 0 0 else .slice ao t cap
theorem bO.cut {w:World} {g N:Nat} {r:Nat->Int} (h:bO w g N r) {B t:Nat} (hB:B<=g) (ht:t<=N) (hm:N<=9223372036854775807):aX B w (m9 (some ⟨g,0,none⟩) t N) t r:=by
 unfold m9
 split
 ·rename_i h0; subst h0; exact aX.nil _ _ _
 ·exact h.out hB ht hm
def dm (w w':World) (V:Int) (v:Value):Prop:=∃ t d,aX w.heap.size w' v t d∧cT d t∧val d t=V∧Below w.heap.size w w'
theorem dm.below {w w':World} {V:Int} {v:Value} (h:dm w w' V v):Below w.heap.size w w':=h.choose_spec.choose_spec.2.2.2
theorem dm.from {w0 w w':World} {V:Int} {v:Value} (h:dm w w' V v) (hb:Below w0.heap.size w0 w):dm w0 w' V v:=by
 obtain ⟨t,d,h1,h2,h3,h4⟩:=h
 exact ⟨t,d,h1.lower hb.size,h2,h3,aa hb h4⟩
theorem dm.stays {w w1 w2:World} {V:Int} {v:Value} (h:dm w w1 V v) (hb:Below w1.heap.size w1 w2):dm w w2 V v:=by
 obtain ⟨t,d,h1,h2,h3,h4⟩:=h
 exact ⟨t,d,h1.stays hb,h2,h3,aa h4 hb⟩
theorem dm.nil {w w':World} (hb:Below w.heap.size w w'):dm w w' 0 (.slice none 0 0):=⟨0,fun _=>0,aX.nil _ _ _,⟨fun i hi=>by omega,.inl rfl⟩,rfl,hb⟩
def Nu (w w':World) (V:Int) (v:Value) (er:Int):Prop:=Below w.heap.size w w'∧((V<P 2000∧er=0∧dm w w' V v)∨(P 2000<=V∧er=2∧v=.slice none 0 0))
theorem iM:(Tryz.prog.info? 3).map (fun i=>(i.zero,i.size,i.bytes))=some (some (.int .i64 0),1,8):=by kernel_rfl
theorem kV {w w':World} (h:w.grownBy w' none):Below w.heap.size w w':=⟨h.os,h.tape,h.output,h.size,fun k hk=>h.block k hk (by simp)⟩
theorem mI {w:World} {ops:Array Oper} {rest:List Oper} {o:Oper} {a:Act} {Q:Exit->Act->World->Prop} (hg:o.guard=none) (l c:Operand) (hop:o.op=Op.makeSlice 32 l c)
  (L C:Int) (n:Nat) (hl:a.eval l=.int .i64 L) (hc:a.eval c=.int .i64 C) (hL:L=(n:Int)) (hC:C=(n:Int)) (hn:n<=1000000)
  (hK:∀ w',bO w' w.heap.size n (fun _=>0)->Below w.heap.size w w'->wpList Tryz.prog ops Q rest (a.put o.dst (.slice (some ⟨w.heap.size,0,none⟩) n n)) w') :
  wpList Tryz.prog ops Q (o :: rest) a w:=by
 obtain ⟨i0,hi,hz0,hz1,hz2⟩:=info_parts iM
 exact wpList_make_full w hg l c 32 hop w.heap.size 3 i0 (.int .i64 0) 1 Tryz.underlying32 hi hz0 hz1 .i64 .i64 L C n hl hc hL hC (by rw [hz2]; omega) (by unfold maxLen; omega) (Nat.le_refl _)
  fun w' h1 h2=>hK w' (bO.made h1) (kV h2)
theorem r7 (w:World) (x:Int) {g:Nat} (hg:g=w.heap.size):aQ (w.alloc (.cells #[.int .i64 x] 3)) (some ⟨g,0,none⟩) 1 1 (fun _=>x):=by
 subst hg
 exact (bO.new w #[.int .i64 x] (fun _=>x) (fun i hi=>by simp at hi; subst hi; rfl)).row0 (Nat.le_refl _) (show 1<=9223372036854775807 by decide)
def d2 (x y:Int):Nat->Int:=fun i=>if i=0 then x else y
def kr (d:Nat->Int) (n:Nat) (e:Nat->Int):Nat->Int:=fun i=>if i<n then d i else e (i-n)
theorem wW (d e:Nat->Int) (n m:Nat):eP d n ++ eP e m=eP (kr d n e) (n+m):=by
 apply jD (by simp [bR])
 intro i hi
 by_cases h:i<n
 ·rw [List.getElem?_append_left (by rw [bR]; exact h),eW d h]; simp [kr,h]
 ·rw [List.getElem?_append_right (by rw [bR]; omega),bR,eW e (by omega)]; simp [kr,h]
theorem ol (b off n:Nat):(⟨b,off,none⟩:Addr).add n=⟨b,off+n,none⟩:=by
 unfold Addr.add; split <;> simp_all
theorem lG {w:World} {ops:Array Oper} {rest:List Oper} {o:Oper} {a:Act} {Q:Exit->Act->World->Prop} (hgd:o.guard=none) (s x:Operand)
  (ho:o.op=.call { callee:=.builtin .append,args:=#[s,x],argTypes:=#[32,32] }) (B:Nat) (v:Value) (n:Nat) (d:Nat->Int) (hs:a.eval s=v) (hO:aX B w v n d)
  (bo:Option Addr) (m cb:Nat) (e:Nat->Int) (hx:a.eval x=.slice bo m cb) (hR:aQ w bo m cb e) (hlen:n+m<=1000000) (hB:B<=w.heap.size)
  (h:∀ v' w',aX B w' v' (n+m) (kr d n e)->w.grownBy w' v.ownBlock->wpList Tryz.prog ops Q rest (a.put o.dst v') w'):wpList Tryz.prog ops Q (o :: rest) a w:=by
 obtain ⟨i0,hi,hz0,hz1,hz2⟩:=info_parts iM
 cases bo with
 | none=>
  have hc:=hR.nl rfl
  have hl:=hR.le
  subst hc
  obtain rfl:m=0:=by omega
  refine wpList_append_own_none hgd s x 32 ho B 3 i0 1 Tryz.underlying32 hi v n (eP d n) hs hO hx ?_
  refine h v w ?_ ⟨rfl,rfl,rfl,Nat.le_refl _,fun _ _ _=>rfl⟩
  exact aX.congr hO fun i hi=>by simp [kr]; omega
 | some ad=>
  refine wpList_append_own w hgd s x 32 ho B 3 i0 (.int .i64 0) 1 8 Tryz.underlying32 hi hz0 hz1 hz2 rfl (by decide) v n (eP d n) hs hO ad m cb (eP e m) hx (by rw [bR]; omega) ?_ (rZ e m) (by unfold maxLen; omega) (by omega) hB ?_
  ·intro j u hu
   have hj:j<m:=by have:=(List.getElem?_eq_some_iff.1 hu).1; rwa [bR] at this
   obtain ⟨b,off,hb,_,hc⟩:=hR.spot (by omega)
   obtain rfl:=Option.some.inj hb
   rw [eW e hj] at hu
   rw [ol,hc j hj]; exact hu
  ·intro v' w' h1 h2 _
   rw [wW] at h1
   exact h v' w' h1 h2
theorem wX {B:Nat} {w:World} {v:Value} {n:Nat} {d:Nat->Int} (h:aX B w v n d):∀ k,v.ownBlock=some k->B<=k:=fun k hk=>(World.ownsRow.lt h k hk).1
def iF (w:World) (v:Value) (V:Int):Prop:=∃ ao n cap d,v=.slice ao n cap∧aQ w ao n cap d∧cT d n∧val d n=V
theorem dm.num {w w':World} {V:Int} {v:Value} (h:dm w w' V v):iF w' v V:=by
 obtain ⟨t,d,h1,h2,h3,h4⟩:=h
 obtain ⟨ao,cap,rfl,hR⟩:=h1.row
 exact ⟨ao,t,cap,d,rfl,hR,h2,h3⟩
theorem iF.keeps {w w':World} {v:Value} {V:Int} (h:iF w v V) (hb:Below w.heap.size w w'):iF w' v V:=by
 obtain ⟨ao,n,cap,d,rfl,hR,h2⟩:=h
 exact ⟨ao,n,cap,d,rfl,hR.keeps hb,h2⟩
theorem iF.shape {w:World} {v:Value} {V:Int} (h:iF w v V):∃ ao n cap,v=.slice ao n cap:=by
 obtain ⟨ao,n,cap,d,e,_⟩:=h
 exact ⟨ao,n,cap,e⟩
theorem iF.alloc {w:World} {v:Value} {V:Int} (h:iF w v V) (o:Obj):iF (w.alloc o) v V:=h.keeps ((Below.refl _ _).alloc (Nat.le_refl _) _)
theorem iF.len {w:World} {ao:Option Addr} {n cap:Nat} {V:Int} (h:iF w (.slice ao n cap) V) {k:Nat} (hV:V<P k):n<=k:=by
 obtain ⟨ao',n',cap',d,e,hR,h2,h3⟩:=h
 simp only [Value.slice.injEq] at e
 obtain ⟨rfl,rfl,rfl⟩:=e
 by_cases hk:n<=k
 ·exact hk
 ·have a:=jL h2.1 (by omega) h2.2
  have b:=lx (show k<=n-1 by omega)
  omega
theorem iF.nonneg {w:World} {v:Value} {V:Int} (h:iF w v V):0<=V:=by
 obtain ⟨ao',n',cap',d,e,hR,h2,rfl⟩:=h
 exact bc h2.1
theorem iF.zero {w:World} {ao:Option Addr} {n cap:Nat} {V:Int} (h:iF w (.slice ao n cap) V):V=0 ↔ n=0:=by
 obtain ⟨ao',n',cap',d,e,hR,h2,rfl⟩:=h
 simp only [Value.slice.injEq] at e
 obtain ⟨rfl,rfl,rfl⟩:=e
 exact n9 h2
theorem ah (w:World) (o:Obj):Below w.heap.size w (w.alloc o):=(Below.refl _ _).alloc (Nat.le_refl _) _
theorem aP (w:World) (o p:Obj):Below w.heap.size w ((w.alloc o).alloc p):=(ah w o).alloc (by simp) _
theorem ac {w:World} {g:Nat} {xs:Array Value} {t:TypeId} (h:w.heap[g]?=some (.cells xs t (0,0))) (i:Nat) {v:Value} (hi:xs[i]?=some v):w.cell? ⟨g,i,none⟩=some v:=by
 rw [cell_of_row w g i xs _ _ h]; exact hi
theorem aw {w:World} {g:Nat} {xs:Array Value} {t:TypeId} (h:w.heap[g]?=some (.cells xs t (0,0))) (i:Nat):w.frozen? ⟨g,i,none⟩=false:=by
 simp [World.frozen?,h]
theorem dJ (w:World) (a b:Obj):((w.alloc a).alloc b).heap[w.heap.size]?=some a:=by
 show ((w.heap.push a).push b)[w.heap.size]?=some a
 simp [Array.getElem?_push]
theorem cR (w:World) (a b:Obj):((w.alloc a).alloc b).heap[w.heap.size+1]?=some b:=by
 show ((w.heap.push a).push b)[w.heap.size+1]?=some b
 rw [Array.getElem?_push,if_pos (by simp)]
theorem i6 (w:World) (a b:Obj):((w.alloc a).alloc b).heap.size=w.heap.size+2:=by
 show ((w.heap.push a).push b).size=_
 simp
theorem aX.set_below {B:Nat} {w:World} {v:Value} {n:Nat} {d:Nat->Int} (h:aX B w v n d) {a:Addr} (ha:a.block<B) (u:Value):aX B (w.setCell a u) v n d:=ownsRow_setCell_below h ha u
def df (w:World) (v:Value) (V:Int):Prop:=∃ ng s m e,v=.agg #[.bool ng,s,.int .i64 e]∧Dy V ng m e∧iF w s m
def bG (w w':World) (V:Int) (v:Value):Prop:=∃ ng s m e,v=.agg #[.bool ng,s,.int .i64 e]∧Dy V ng m e∧dm w w' m s
def fO:Value:=.agg #[.bool false,.slice none 0 0,.int .i64 0]
theorem bG.below {w w':World} {V:Int} {v:Value} (h:bG w w' V v):Below w.heap.size w w':=by
 obtain ⟨ng,s,m,e,_,_,h3⟩:=h
 exact h3.below
theorem bG.num {w w':World} {V:Int} {v:Value} (h:bG w w' V v):df w' v V:=by
 obtain ⟨ng,s,m,e,h1,h2,h3⟩:=h
 exact ⟨ng,s,m,e,h1,h2,h3.num⟩
theorem bG.from {w0 w w':World} {V:Int} {v:Value} (h:bG w w' V v) (hb:Below w0.heap.size w0 w):bG w0 w' V v:=by
 obtain ⟨ng,s,m,e,h1,h2,h3⟩:=h
 exact ⟨ng,s,m,e,h1,h2,h3.from hb⟩
theorem bG.stays {w w1 w2:World} {V:Int} {v:Value} (h:bG w w1 V v) (hb:Below w1.heap.size w1 w2):bG w w2 V v:=by
 obtain ⟨ng,s,m,e,h1,h2,h3⟩:=h
 exact ⟨ng,s,m,e,h1,h2,h3.stays hb⟩
theorem bG.zero {w w':World} (hb:Below w.heap.size w w'):bG w w' 0 fO:=⟨_,_,_,_,rfl,Dy.zero,dm.nil hb⟩
theorem df.keeps {w w':World} {v:Value} {V:Int} (h:df w v V) (hb:Below w.heap.size w w'):df w' v V:=by
 obtain ⟨ng,s,m,e,h1,h2,h3⟩:=h
 exact ⟨ng,s,m,e,h1,h2,h3.keeps hb⟩
theorem df.zero (w:World):df w fO 0:=(bG.zero (aA w)).num
def iN (w w':World) (V:Int) (v:Value) (er:Int):Prop:=Below w.heap.size w w'∧((fi V∧er=0∧bG w w' V v)∨(¬ fi V∧er=2∧v=fO))
theorem Kq (w:World):(binOp .eql 20 Value.nilIface Value.nilIface).run Tryz.prog w=.ok (.bool true) w:=by kernel_rfl
theorem Kr (w:World):(binOp .eql 20 (.iface 29 (.int .i64 2)) Value.nilIface).run Tryz.prog w=.ok (.bool false) w:=by kernel_rfl
theorem IY (w:World):(binOp .eql 20 (.iface 29 (.int .i64 2)) (.iface 29 (.int .i64 2))).run Tryz.prog w=.ok (.bool true) w:=by kernel_rfl
theorem s8 (p:Addr) (x:Value) (older:List PanicEntry) (w:World) (hc:w.cell? p=some x) (hz:w.frozen? p=false) :
  CallsD Tryz.prog 83 #[.pointer (some p)] (.panicking ({ v:=.iface 29 (.int .i64 2),recovered:=false } :: older)) w fun e u' w'=>
   e=.returned (.tuple #[])∧u'=.panicking ({ v:=.iface 29 (.int .i64 2),recovered:=true } :: older)∧w'=w.setCell p (.int .i64 2):=by
 have h1:=Kr
 have h2:=IY
 refine callsD_of_wpS Tryz.func83 rfl fun c₀ cs hu=>?_
 apply wpS_seq
 apply wpS_region
 simp [wpOpsS,go_sem,recoverD,hu,Tryz.ntmps83,Exit.thenS]
 refine wpS_of_wp ?_
 go_wp2
 simp [bodyPostS,results,Tryz.results83]
theorem Bf (p:Addr) (w:World) :
  CallsD Tryz.prog 83 #[.pointer (some p)] .returning w fun e u' w'=>e=.returned (.tuple #[])∧u'=.returning∧w'=w:=by
 have h1:=Kq
 refine callsD_of_wpS Tryz.func83 rfl fun c₀ cs hu=>?_
 apply wpS_seq
 apply wpS_region
 simp [wpOpsS,go_sem,recoverD,hu,Tryz.ntmps83,Exit.thenS]
 refine wpS_of_wp ?_
 go_wp2
 cases c₀
 simp_all [bodyPostS,results,Tryz.results83]
theorem IZ (F:Nat) (cap:Array Value) (w:World) (hE:∀ w,(callFunc F cap).run Tryz.prog w=.ok (.enter F cap) w) (hF:∀ W,Below w.heap.size w W->Calls Tryz.prog F cap W fun r W'=>r=.panicked [{ v:=.iface 29 (.int .i64 2),recovered:=false }]∧Below W.heap.size W W') :
  Calls Tryz.prog 58 #[.func (.func F) #[] cap] w fun r w'=>r=.returned (.tuple #[.agg #[.bool false,.slice none 0 0,.int .i64 0],.int .i64 2])∧Below w.heap.size w w':=by
 have hmf:∀ (fn:Fn) (first cap:Array Value) (w:World),(Instr.makeFunc fn first cap).run Tryz.prog w=.ok (.func fn first cap) w:=fun _ _ _ _=>rfl
 go_enter_defers Tryz.func58,Tryz.ntmps58
 go_wp2_with fail
 refine (hF _ (aP _ _ _)).mono ?_
 rintro r W' ⟨rfl,hb⟩
 have q1:=(hb.block (w.heap.size+1) (by rw [i6]; omega)).trans (cR _ _ _)
 have q0:=(hb.block w.heap.size (by rw [i6]; omega)).trans (dJ _ _ _)
 have f0:=aw q1 0
 have k0:=ac q1 0 rfl
 go_wp2_with fail
 refine leaves_cons (f:=83) (args:=#[.pointer (some ⟨w.heap.size+1,0,none⟩)]) (by simp) (by simp [go_sem]) ?_
 refine (s8 ⟨w.heap.size+1,0,none⟩ _ [] _ k0 f0).mono ?_
 rintro e u' w'' ⟨rfl,rfl,rfl⟩
 have c0:=ac q0 0 rfl
 have c1:=ac q0 1 rfl
 have c2:=ac q0 2 rfl
 simp [Leaves,settle,results,Tryz.results58,go_sem,c0,c1,c2,k0]
 exact ((aP _ _ _).trans (hb.mono (aP _ _ _).size)).setCell (Nat.le_succ _) _
theorem Fp {w W w3:World} {V:Int} {v:Value} (hv:bG W w3 V v) (hb:Below w.heap.size w W) {g:Nat} (h0:w.heap.size<=g) (h1:g+1<W.heap.size) (a b c x:Value) :
  bG w ((((w3.setCell ⟨g,0,none⟩ a).setCell ⟨g,1,none⟩ b).setCell ⟨g,2,none⟩ c).setCell ⟨g+1,0,none⟩ x) V v:=by
 obtain ⟨ng,s,m,e,h2,h3,t,d,hO,hN,hV,hB⟩:=hv
 refine ⟨ng,s,m,e,h2,h3,t,d,?_,hN,hV,?_⟩
 ·exact ((((hO.set_below (a:=⟨g,0,none⟩) (by show g<_; omega) a).set_below (a:=⟨g,1,none⟩) (by show g<_; omega) b).set_below (a:=⟨g,2,none⟩) (by show g<_; omega) c).set_below (a:=⟨g+1,0,none⟩) h1 x).lower hb.size
 ·exact ((((hb.trans (hB.mono hb.size)).setCell (p:=⟨g,0,none⟩) h0 a).setCell (p:=⟨g,1,none⟩) h0 b).setCell (p:=⟨g,2,none⟩) h0 c).setCell (p:=⟨g+1,0,none⟩) (Nat.le_succ_of_le h0) x
theorem Fq (F:Nat) (cap:Array Value) (w:World) (V:Int) (hE:∀ w,(callFunc F cap).run Tryz.prog w=.ok (.enter F cap) w) (hF:∀ W,Below w.heap.size w W->Calls Tryz.prog F cap W fun r W'=>∃ v,r=.returned v∧bG W W' V v) :
  Calls Tryz.prog 58 #[.func (.func F) #[] cap] w fun r w'=>∃ v,r=.returned (.tuple #[v,.int .i64 0])∧bG w w' V v:=by
 have hmf:∀ (fn:Fn) (first cap:Array Value) (w:World),(Instr.makeFunc fn first cap).run Tryz.prog w=.ok (.func fn first cap) w:=fun _ _ _ _=>rfl
 go_enter_defers Tryz.func58,Tryz.ntmps58
 go_wp2_with fail
 refine (hF _ (aP _ _ _)).mono ?_
 rintro r W' ⟨v,rfl,hD⟩
 have hb:=hD.below
 obtain ⟨ng,s,m,e,rfl,hy,hA⟩:=id hD
 obtain ⟨so,sn,sc,rfl⟩:=hA.num.shape
 have q1:=(hb.block (w.heap.size+1) (by rw [i6]; omega)).trans (cR _ _ _)
 have q0:=(hb.block w.heap.size (by rw [i6]; omega)).trans (dJ _ _ _)
 have f0:=aw q1 0
 have k0:=ac q1 0 rfl
 have c0:=ac q0 0 rfl
 have c1:=ac q0 1 rfl
 have c2:=ac q0 2 rfl
 have z0:=aw q0 0
 have z1:=aw q0 1
 have z2:=aw q0 2
 go_wp2_with fail
 refine leaves_cons (f:=83) (args:=#[.pointer (some ⟨w.heap.size+1,0,none⟩)]) (by simp) (by simp [go_sem]) ?_
 refine (Bf ⟨w.heap.size+1,0,none⟩ _).mono ?_
 rintro e u' w'' ⟨rfl,rfl,rfl⟩
 simp [Leaves,settle,results,Tryz.results58,go_sem,c0,c1,c2,k0]
 exact Fp (g:=w.heap.size) hD (aP _ _ _) (Nat.le_refl _) (by rw [i6]; omega) _ _ _ _
theorem Ks (ng odd:Bool) (left:Int) (w:World):Calls Tryz.prog 162 #[.bool ng,.bool odd,.int .i64 left] w fun e w'=>e=.returned (.bool (bM 0 ng odd left))∧w'=w:=by
 unfold bM
 rw [if_pos rfl]
 go_enter Tryz.func162,Tryz.ntmps162
 by_cases h3:left=3
 ·subst h3
  go_wp2
  go_ret
  exact ⟨by simp,rfl⟩
 ·by_cases h2:left=2
  ·subst h2
   go_wp2
   go_ret
   exact ⟨by simp,rfl⟩
  ·go_wp2
   go_ret
   exact ⟨by simp [h2,h3],rfl⟩
theorem Kt (ng odd:Bool) (left:Int) (w:World):Calls Tryz.prog 163 #[.bool ng,.bool odd,.int .i64 left] w fun e w'=>e=.returned (.bool (bM 1 ng odd left))∧w'=w:=by
 unfold bM
 rw [if_neg (by decide),if_pos rfl]
 go_enter Tryz.func163,Tryz.ntmps163
 by_cases h0:left=0
 ·subst h0
  go_wp2
  go_ret
  exact ⟨by simp,rfl⟩
 ·go_wp2
  go_ret
  exact ⟨by simp [h0],rfl⟩
theorem Ku (ng odd:Bool) (left:Int) (w:World):Calls Tryz.prog 164 #[.bool ng,.bool odd,.int .i64 left] w fun e w'=>e=.returned (.bool (bM 2 ng odd left))∧w'=w:=by
 unfold bM
 rw [if_neg (by decide),if_neg (by decide),if_pos rfl]
 go_enter Tryz.func164,Tryz.ntmps164
 by_cases h0:left=0
 ·subst h0
  go_wp2
  go_ret
  exact ⟨by simp,rfl⟩
 ·go_wp2
  go_ret
  exact ⟨by simp [h0],rfl⟩
theorem Kv (ng odd:Bool) (left:Int) (w:World):Calls Tryz.prog 165 #[.bool ng,.bool odd,.int .i64 left] w fun e w'=>e=.returned (.bool (bM 3 ng odd left))∧w'=w:=by
 unfold bM
 rw [if_neg (by decide),if_neg (by decide),if_neg (by decide)]
 go_enter Tryz.func165,Tryz.ntmps165
 go_wp2
 go_ret
 exact ⟨rfl,rfl⟩
def jn (way:Int):Nat:=if way=0 then 162 else if way=1 then 163 else if way=2 then 164 else 165
def jq (way:Int):Value:=.agg #[.func (.func (jn way)) #[] #[]]
theorem mJ (way:Int) (w:World):Calls Tryz.prog 149 #[.int .i64 way] w fun e w'=>e=.returned (.tuple #[if 0<=way∧way<=3 then jq way else .agg #[.nilFunc],.bool (decide (0<=way∧way<=3))])∧Below w.heap.size w w':=by
 have hmf:∀ (fn:Fn) (first cap:Array Value) (w:World),(Instr.makeFunc fn first cap).run Tryz.prog w=.ok (.func fn first cap) w:=fun _ _ _ _=>rfl
 have hst:∀ (p:Addr) (F:Nat) (m:Mode) (w:World),(store p (.func (.func F) #[] #[]) m).run Tryz.prog w=stored Tryz.prog w p (.func (.func F) #[] #[]) m:=fun p F m w=>run_store _ w p _ m rfl
 have hsn:∀ (p:Addr) (m:Mode) (w:World),(store p .nilFunc m).run Tryz.prog w=stored Tryz.prog w p .nilFunc m:=fun p m w=>run_store _ w p _ m rfl
 have hb2:=aP w (.cells #[.nilFunc] 166) (.cells #[.nilFunc,.nilFunc,.nilFunc,.nilFunc] 181)
 have q0:=dJ w (.cells #[.nilFunc] 166) (.cells #[.nilFunc,.nilFunc,.nilFunc,.nilFunc] 181)
 have q1:=cR w (.cells #[.nilFunc] 166) (.cells #[.nilFunc,.nilFunc,.nilFunc,.nilFunc] 181)
 have x0:=ac q1 0 rfl
 have x1:=ac q1 1 rfl
 have x2:=ac q1 2 rfl
 have x3:=ac q1 3 rfl
 have z0:=aw q1 0
 have z1:=aw q1 1
 have z2:=aw q1 2
 have z3:=aw q1 3
 have y0:=ac q0 0 rfl
 have y1:=aw q0 0
 by_cases h0:way<0
 ·go_enter Tryz.func149,Tryz.ntmps149
  go_wp2
  refine bodyPost_ret (v:=.tuple #[.agg #[.nilFunc],.bool false]) (by simp [results,Tryz.results149,go_sem]) rfl ⟨?_,?_⟩
  ·rfl
  ·exact aP _ _ _
 by_cases h4:4<=way
 ·go_enter Tryz.func149,Tryz.ntmps149
  go_wp2
  refine bodyPost_ret (v:=.tuple #[.agg #[.nilFunc],.bool false]) (by simp [results,Tryz.results149,go_sem]) rfl ⟨?_,?_⟩
  ·rfl
  ·exact aP _ _ _
 rw [if_pos (by omega),show decide (0<=way∧way<=3)=true from decide_eq_true (by omega)]
 have hc:way=0∨way=1∨way=2∨way=3:=by omega
 rcases hc with rfl | rfl | rfl | rfl
 all_goals
  go_enter Tryz.func149,Tryz.ntmps149
  go_wp2
  refine bodyPost_ret (v:=.tuple #[jq _,.bool true]) (by simp [results,Tryz.results149,go_sem,jq,jn]; first | done | rfl) rfl ⟨rfl,?_⟩
  exact aP _ _ _
end Go.Proofs.YtcjfonaolcokbaaGreatDoor
