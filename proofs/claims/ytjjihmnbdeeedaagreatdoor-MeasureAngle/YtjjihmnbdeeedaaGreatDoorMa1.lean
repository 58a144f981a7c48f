/- Parts of the proof. -/
import Derived.WalkKit
import Derived.Laws.MathBits
import Derived.Lib.TrailingZeros
import Ieee.Arith
import GoSem.Core.Float
import Derived.Lib.BitFns
import Derived.Test.YtjjihmnbdeeedaaGreatDoorProg
import Derived.RowKit3
import Derived.Below
import Derived.Deep.QuietTactic
import Derived.BigQuiet
import Derived.Laws.Externs
import Derived.Laws.Cover2
import Derived.OwnWalk
import Derived.Laws.OwnMore
import Derived.Laws.AppendOwnNone
set_option maxRecDepth 100000
set_option maxHeartbeats 8000000
abbrev Go.Proofs.YtjjihmnbdeeedaaGreatDoor.G6 (x : Int) : Go.Value := .int .i64 x
abbrev Go.Proofs.YtjjihmnbdeeedaaGreatDoor.G7 (x : Nat) : Go.Value := .float .f64 x
theorem Go.Proofs.YtjjihmnbdeeedaaGreatDoor.aGe {α : Type} {xs : Array α} {i : Nat} {a : α} (h : xs[i]? = some a) : ∃ h : i < xs.size, xs[i] = a := Array.getElem?_eq_some_iff.1 h
set_option linter.unusedVariables false
set_option linter.unusedSimpArgs false
namespace Go.Proofs.YtjjihmnbdeeedaaGreatDoor.M
open Go Go.Proofs.Tryz
/-! signed 64-bit masks -/
theorem cY (x:Int):(BitVec.ofInt 64 x).toNat=(x % 18446744073709551616).toNat:=by
 simp[BitVec.toNat_ofInt]
theorem Ec (x y:Int):bits .and .i64 x y=IntKind.i64.wrap (((x % 18446744073709551616).toNat &&& (y % 18446744073709551616).toNat:Nat):Int):=by
 show IntKind.i64.wrap (((BitVec.ofInt 64 x &&& BitVec.ofInt 64 y).toNat:Nat):Int)=_
 rw[BitVec.toNat_and,cY,cY]
theorem xt (x y:Int):bits .or .i64 x y=IntKind.i64.wrap (((x % 18446744073709551616).toNat ||| (y % 18446744073709551616).toNat:Nat):Int):=by
 show IntKind.i64.wrap (((BitVec.ofInt 64 x ||| BitVec.ofInt 64 y).toNat:Nat):Int)=_
 rw[BitVec.toNat_or,cY,cY]
theorem Ed (x y:Int):bits .xor .i64 x y=IntKind.i64.wrap (((x % 18446744073709551616).toNat ^^^ (y % 18446744073709551616).toNat:Nat):Int):=by
 show IntKind.i64.wrap (((BitVec.ofInt 64 x ^^^ BitVec.ofInt 64 y).toNat:Nat):Int)=_
 rw[BitVec.toNat_xor,cY,cY]
theorem yL (x y:Int):bits .andNot .i64 x y=IntKind.i64.wrap (((x % 18446744073709551616).toNat &&& (18446744073709551615-(y % 18446744073709551616).toNat):Nat):Int):=by
 show IntKind.i64.wrap (((BitVec.ofInt 64 x &&& ~~~ BitVec.ofInt 64 y).toNat:Nat):Int)=_
 rw[BitVec.toNat_and,BitVec.toNat_not,cY,cY]
theorem bK (n:Int):IntKind.i64.wrap n=(n+9223372036854775808) % 18446744073709551616-9223372036854775808:=by
 simp only[IntKind.wrap,IntKind.bits,IntKind.signed]
 simp
 split<;>omega
theorem iQ (x:Int) (k:Nat) (hk:k<63):bits .and .i64 x (2^k-1)=x % 2^k:=by
 have hp:(2:Nat)^k<2^63:=Nat.pow_lt_pow_right (by decide) hk
 have hp0:0<(2:Nat)^k:=Nat.two_pow_pos k
 have e2:((2:Int)^k-1)=((2^k-1:Nat):Int):=by
  rw[Int.ofNat_sub (by omega)];simp
 have e3:(((2:Int)^k-1) % 18446744073709551616).toNat=2^k-1:=by
  rw[e2];omega
 rw[Ec,e3,Nat.and_two_pow_sub_one_eq_mod]
 have e4:(((x % 18446744073709551616).toNat % 2^k:Nat):Int)=x % 2^k:=by
  rw[Int.natCast_emod,Int.toNat_of_nonneg (Int.emod_nonneg _ (by decide))]
  rw[show((2^k:Nat):Int)=(2:Int)^k by simp]
  apply Int.emod_emod_of_dvd
  exact⟨2^(64-k),by rw[<- Int.pow_add,show k+(64-k)=64 by omega];decide⟩
 rw[e4]
 have h5:0<=x % 2^k:=Int.emod_nonneg _ (by have:(0:Int)<2^k:=Int.pow_pos (by decide);omega)
 have h6:x % 2^k<2^k:=Int.emod_lt_of_pos _ (Int.pow_pos (by decide))
 have h7:((2:Int)^k)<9223372036854775808:=by
  have:((2^k:Nat):Int)<((2^63:Nat):Int):=Int.ofNat_lt.2 hp
  simpa using this
 rw[bK];omega
theorem ze (x:Int):bits .and .i64 x 2047=x % 2048:=iQ x 11 (by decide)
theorem BG (x:Int):bits .and .i64 x 4503599627370495=x % 4503599627370496:=iQ x 52 (by decide)
theorem wA (k n:Nat) (h:n<2^k):2^k ^^^ n=2^k+n:=by
 apply Nat.eq_of_testBit_eq
 intro i
 rw[Nat.testBit_xor,Nat.testBit_two_pow]
 rcases Nat.lt_trichotomy i k with hi|hi|hi
 ·rw[Nat.testBit_two_pow_add_gt hi]
  simp[show ¬ k=i by omega]
 ·subst hi
  rw[Nat.testBit_two_pow_add_eq,Nat.testBit_lt_two_pow h];simp
 ·have hk:2^(k+1)<=2^i:=Nat.pow_le_pow_right (by decide) hi
  rw[Nat.testBit_lt_two_pow (show n<2^i by rw[Nat.pow_succ] at hk;omega),Nat.testBit_lt_two_pow (show 2^k+n<2^i by rw[Nat.pow_succ] at hk;omega)]
  simp[show ¬ k=i by omega]
theorem zf (k m:Nat) (h:m<2^k):(2^k+m) ^^^ 2^k=m:=by
 rw[<- wA k m h,Nat.xor_comm (2^k) m,Nat.xor_assoc,Nat.xor_self,Nat.xor_zero]
theorem zg (x:Int) (h0:-9223372036854775808<=x) (h1:x<9223372036854775808):bits .xor .i64 x (-9223372036854775808)=if x<0 then x+9223372036854775808 else x-9223372036854775808:=by
 rw[Ed,show((-9223372036854775808:Int) % 18446744073709551616).toNat=2^63 from by decide,bK]
 split
 ·rw[show(x % 18446744073709551616).toNat=2^63+(x+9223372036854775808).toNat by omega,zf 63 _ (by omega)];omega
 ·rw[Nat.xor_comm,wA 63 _ (by omega)];omega
theorem ve (x:Int) (h0:-9223372036854775808<=x) (h1:x<9223372036854775808):bits .andNot .i64 x (-9223372036854775808)=if x<0 then x+9223372036854775808 else x:=by
 rw[yL,show(18446744073709551615-((-9223372036854775808:Int) % 18446744073709551616).toNat)=2^63-1 from by decide,bK,Nat.and_two_pow_sub_one_eq_mod]
 split<;>omega
theorem BH (x:Int) (h0:0<=x) (h1:x<9223372036854775808):bits .or .i64 x (-9223372036854775808)=x-9223372036854775808:=by
 rw[xt,show((-9223372036854775808:Int) % 18446744073709551616).toNat=2^63 from by decide,bK,Nat.or_comm,nat_join 63 _ _ (by decide) (by omega)]
 omega
/-! the fields of a binary64's pattern -/
def bQ (b:Int):Int:=b/4503599627370496 % 2048
def cA (b:Int):Int:=b % 4503599627370496
def aH (b:Int):Int:=if bQ b=2047 then (if cA b=0 then 3 else 4) else if bQ b=0 then (if cA b=0 then 0 else 1) else 2
def ak (b:Int):Bool:=!decide (bQ b=2047)
def dW (b:Int):Bool:=ak b&&decide (b<0)
def aN (b:Int):Int:=if bQ b=2047 then 0 else if bQ b=0 then cA b else 4503599627370496+cA b
def bh (b:Int):Int:=if bQ b=2047 then 0 else if bQ b=0 then -1074 else bQ b-1075
def neg (b:Int):Int:=if aH b=4 then 9221120237041090561 else if b<0 then b+9223372036854775808 else b-9223372036854775808
def aL (b:Int):Int:=if aH b=4 then 9221120237041090561 else if aH b=0 then 0 else b
def next (b:Int):Int:=if aH b=4 then 9221120237041090561 else if b=9218868437227405312 then b else if b=-9223372036854775808 then 1 else if b<0 then b-1 else b+1
def fm (b:Int):Int:=neg (next (neg b))
def ag (b:Int):Prop:=-9223372036854775808<=b∧b<9223372036854775808
theorem mJ (b:Int):0<=bQ b∧bQ b<2048:=by unfold bQ;omega
theorem lI (b:Int):0<=cA b∧cA b<4503599627370496:=by unfold cA;omega
theorem wB {b:Int}:aH b=4↔bQ b=2047∧cA b≠0:=by
 unfold aH;repeat' split
 all_goals omega
theorem mh {b:Int} (h:¬ aH b=4):bQ b≠2047∨cA b=0:=by
 rw[wB] at h;omega
theorem kt {b:Int} (h:ag b):ag (neg b):=by
 unfold ag neg at *;repeat' split
 all_goals omega
theorem um {b:Int} (h:ag b):ag (next b):=by
 unfold ag next at *;repeat' split
 ·omega
 ·omega
 ·omega
 ·omega
 ·rename_i h1 h2 h3 h4
  have:=mh h1
  unfold bQ cA at this
  omega
def zh (f t most:Int):Int:=if f=most then (if t=0 then 3 else 4) else if 0<f then 2 else if 0<t then 1 else 0
theorem IN (b:Int):zh (bQ b) (cA b) 2047=aH b:=by
 have:=mJ b;have:=lI b
 unfold zh aH;repeat' split
 all_goals omega
theorem xu {b:Int} (h:aH b=0∨aH b=1):decide (b<0)=dW b∧cA b=aN b∧-1074=bh b∧true=ak b:=by
 unfold aH at h;unfold dW aN bh ak
 by_cases h1:bQ b=2047<;>by_cases h2:cA b=0<;>by_cases h3:bQ b=0<;>simp[h1,h2,h3] at h ⊢
theorem Ee {b:Int} (h:aH b=2):decide (b<0)=dW b∧4503599627370496+cA b=aN b∧bQ b-1075=bh b∧true=ak b:=by
 unfold aH at h;unfold dW aN bh ak
 by_cases h1:bQ b=2047<;>by_cases h2:cA b=0<;>by_cases h3:bQ b=0<;>simp[h1,h2,h3] at h ⊢
theorem Fu {b:Int} (h0:¬ aH b=0) (h1:¬ aH b=1) (h2:¬ aH b=2):false=dW b∧0=aN b∧0=bh b∧false=ak b:=by
 unfold aH at h0 h1 h2;unfold dW aN bh ak
 by_cases k1:bQ b=2047<;>by_cases k2:cA b=0<;>by_cases k3:bQ b=0<;>simp[k1,k2,k3] at h0 h1 h2 ⊢
def wd (b:Int):Nat:=(b % 18446744073709551616).toNat
end Go.Proofs.YtjjihmnbdeeedaaGreatDoor.M
namespace Go.Proofs.YtjjihmnbdeeedaaGreatDoor.M
open Go Go.Proofs.Tryz Ieee
def V (f:Format) (r:Nat):Nat:=if r<f.binade then r else (f.binade+r % f.binade)*2^(r/f.binade-1)
theorem ku (f:Format):0<f.binade:=Nat.two_pow_pos _
theorem Fv (f:Format) (r:Nat):V f r<V f (r+1):=by
 have hB:=ku f
 unfold V
 generalize hBd:f.binade=B at *
 clear hBd
 by_cases h1:r+1<B
 ·rw[if_pos (by omega),if_pos h1];omega
 ·rw[if_neg h1]
  by_cases h2:r<B
  ·have:r+1=B:=by omega
   rw[if_pos h2,this,Nat.mod_self,Nat.div_self hB];simp;omega
  ·rw[if_neg h2]
   have hq:1<=r/B:=(Nat.one_le_div_iff hB).2 (by omega)
   have hd:=Nat.div_add_mod r B
   have hm:=Nat.mod_lt r hB
   have hp:0<2^(r/B-1):=Nat.two_pow_pos _
   by_cases h3:r % B+1<B
   ·have e1:(r+1) % B=r % B+1:=by
     rw[Nat.add_mod,Nat.mod_eq_of_lt (show 1<B by omega)];exact Nat.mod_eq_of_lt h3
    have e2:(r+1)/B=r/B:=by
     have:=Nat.div_add_mod (r+1) B
     rw[e1] at this
     have h4:B*((r+1)/B)=B*(r/B):=by omega
     exact Nat.eq_of_mul_eq_mul_left hB h4
    rw[e1,e2]
    exact Nat.mul_lt_mul_of_pos_right (by omega) hp
   ·have h4:r % B+1=B:=by omega
    have e0:r+1=B*(r/B+1):=by rw[Nat.mul_add,Nat.mul_one];omega
    have e1:(r+1) % B=0:=by rw[e0];exact Nat.mul_mod_right _ _
    have e2:(r+1)/B=r/B+1:=by rw[e0];exact Nat.mul_div_cancel_left _ hB
    rw[e1,e2]
    have e3:2^(r/B+1-1)=2*2^(r/B-1):=by
     rw[show r/B+1-1=(r/B-1)+1 by omega,Nat.pow_succ,Nat.mul_comm]
    rw[e3,Nat.add_zero,<- Nat.mul_assoc]
    exact Nat.mul_lt_mul_of_pos_right (by omega) hp
theorem oc (f:Format) {r s:Nat} (h:r<s):V f r<V f s:=by
 induction s with
 | zero=>omega
 | succ s ih=>
  rcases Nat.lt_or_ge r s with h1|h1
  ·exact Nat.lt_trans (ih h1) (Fv f s)
  ·have:r=s:=by omega
   subst this
   exact Fv f r
theorem qp (f:Format) (r s:Nat):V f r<V f s↔r<s:=by
 constructor
 ·intro h
  rcases Nat.lt_trichotomy r s with h1|h1|h1
  ·exact h1
  ·subst h1;omega
  ·have:=oc f h1;omega
 ·exact oc f
theorem pJ (f:Format):V f 0=0:=by unfold V;rw[if_pos (ku f)]
theorem kO (f:Format) (x:Nat) (h:x % f.signWeight<f.infRung) :
  ∃ m u:Nat,f.read x=.number (x/f.signWeight % 2 == 1) m (f.leastPlace+u)∧m*2^u=V f (x % f.signWeight):=by
 unfold Format.read V
 dsimp only
 by_cases h1:x % f.signWeight<f.binade
 ·rw[if_pos h1,if_pos h1]
  exact⟨x % f.signWeight,0,by simp,by simp⟩
 ·rw[if_neg h1,if_pos h,if_neg h1]
  exact⟨_,_,rfl,rfl⟩
theorem qq (f:Format) (hI:f.binade<=f.infRung) (x:Nat) (h:x % f.signWeight=f.infRung):f.read x=.infinity (x/f.signWeight % 2 == 1):=by
 unfold Format.read
 dsimp only
 rw[h,if_neg (by omega),if_neg (by omega),if_pos rfl]
theorem zi (f:Format) (hI:f.binade<=f.infRung) (x:Nat) (h:f.infRung<x % f.signWeight):∃ s t,f.read x=.nan s t:=by
 unfold Format.read
 dsimp only
 rw[if_neg (by omega),if_neg (by omega),if_neg (by omega)]
 exact⟨_,_,rfl⟩
theorem xw (f:Format) (hI:f.binade<=f.infRung) (x y:Nat) (h:f.infRung<x % f.signWeight∨f.infRung<y % f.signWeight):f.order x y=none:=by
 unfold Format.order
 rcases h with h|h
 ·obtain⟨s,t,e⟩:=zi f hI x h
  rw[e];rfl
 ·obtain⟨s,t,e⟩:=zi f hI y h
  rw[e];cases f.read x<;>rfl
theorem yM (x y k:Int) (hk:0<k):compare (x*k) (y*k)=compare x y:=by
 simp only[compare,compareOfLessAndEq]
 have h1:x*k<y*k↔x<y:=⟨fun h=>Int.lt_of_mul_lt_mul_right h (Int.le_of_lt hk),fun h=>Int.mul_lt_mul_of_pos_right h hk⟩
 have h2:x*k=y*k↔x=y:=⟨fun h=>Int.eq_of_mul_eq_mul_right (by omega) h,fun h=>by rw[h]⟩
 simp only[h1,h2]
theorem si (s:Bool) (m u k:Nat):signed s m u*((2^k:Nat):Int)=signed s m (u+k):=by
 unfold signed
 have e:((m <<< u:Nat):Int)*((2^k:Nat):Int)=((m <<< (u+k):Nat):Int):=by
  rw[Nat.shiftLeft_eq,Nat.shiftLeft_eq,Nat.pow_add,<- Nat.mul_assoc]
  exact(Int.natCast_mul _ _).symm
 split
 ·rw[Int.neg_mul,e]
 ·exact e
def pz (neg:Bool) (r:Nat):Int:=if neg then -(r:Int) else r
theorem zj (s t:Bool) (m n:Nat) (l:Int) (u v:Nat) :
  (Datum.number s m (l+u)).order (Datum.number t n (l+v))=some (compare (signed s m u) (signed t n v)):=by
 unfold Datum.order
 dsimp only
 have hmin:min (l+(u:Int)) (l+(v:Int))=l+((min u v:Nat):Int):=by omega
 have a:(l+(u:Int)-(l+((min u v:Nat):Int))).toNat=u-min u v:=by omega
 have b:(l+(v:Int)-(l+((min u v:Nat):Int))).toNat=v-min u v:=by omega
 rw[hmin,a,b,<- yM _ _ ((2^min u v:Nat):Int) (by exact_mod_cast Nat.two_pow_pos _),si,si,
  show u-min u v+min u v=u by omega,show v-min u v+min u v=v by omega]
theorem un (s:Bool) (m u:Nat):signed s m u=if s then -((m*2^u:Nat):Int) else ((m*2^u:Nat):Int):=by
 unfold signed;rw[Nat.shiftLeft_eq]
theorem BI (a b c d:Int) (h1:a<b↔c<d) (h2:b<a↔d<c):compare a b=compare c d:=by
 simp only[compare,compareOfLessAndEq]
 by_cases h:a<b
 ·rw[if_pos h,if_pos (h1.1 h)]
 ·rw[if_neg h,if_neg (fun k=>h (h1.2 k))]
  by_cases k:b<a
  ·rw[if_neg (by omega),if_neg (by have:=h2.1 k;omega)]
  ·rw[if_pos (by omega),if_pos (by have:=fun z=>k (h2.2 z);have:=fun z=>h (h1.2 z);omega)]
theorem zk (f:Format) (x y:Nat) (hx:x % f.signWeight<f.infRung) (hy:y % f.signWeight<f.infRung) :
  f.order x y=some (compare (pz (x/f.signWeight % 2 == 1) (x % f.signWeight)) (pz (y/f.signWeight % 2 == 1) (y % f.signWeight))):=by
 obtain⟨m,u,e1,k1⟩:=kO f x hx
 obtain⟨n,v,e2,k2⟩:=kO f y hy
 unfold Format.order
 rw[e1,e2,zj,un,un,k1,k2]
 congr 1
 generalize x % f.signWeight=r
 generalize y % f.signWeight=q
 have a:=qp f r q
 have b:=qp f q r
 have a0:=qp f 0 r
 have b0:=qp f 0 q
 rw[pJ] at a0 b0
 unfold pz
 cases (x/f.signWeight % 2 == 1)<;>cases (y/f.signWeight % 2 == 1)<;>simp only[if_true,if_false,Bool.false_eq_true]<;>apply BI<;>omega
theorem io {a b:Int} (h:a<b):compare a b=.lt:=by simp only[compare,compareOfLessAndEq];rw[if_pos h]
theorem iu {a b:Int} (h:b<a):compare a b=.gt:=by simp only[compare,compareOfLessAndEq];rw[if_neg (by omega),if_neg (by omega)]
theorem lJ {a b:Int} (h:a=b):compare a b=.eq:=by simp only[compare,compareOfLessAndEq];rw[if_neg (by omega),if_pos h]
theorem Fw (f:Format) (hI:f.binade<=f.infRung) (x y:Nat) (hx:x % f.signWeight<=f.infRung) (hy:y % f.signWeight<=f.infRung) :
  f.order x y=some (compare (pz (x/f.signWeight % 2 == 1) (x % f.signWeight)) (pz (y/f.signWeight % 2 == 1) (y % f.signWeight))):=by
 have hB:=ku f
 rcases Nat.lt_or_ge (x % f.signWeight) f.infRung with h1|h1
 ·rcases Nat.lt_or_ge (y % f.signWeight) f.infRung with h2|h2
  ·exact zk f x y h1 h2
  ·have e2:=qq f hI y (by omega)
   obtain⟨m,u,e1,_⟩:=kO f x h1
   have h2':y % f.signWeight=f.infRung:=by omega
   unfold Format.order pz
   rw[e1,e2,h2']
   cases (x/f.signWeight % 2 == 1)<;>cases (y/f.signWeight % 2 == 1)<;>simp only[if_true,if_false,Bool.false_eq_true,Datum.order]
   ·rw[io (by omega)]
   ·rw[iu (by omega)]
   ·rw[io (by omega)]
   ·rw[iu (by omega)]
 ·have e1:=qq f hI x (by omega)
  have h1':x % f.signWeight=f.infRung:=by omega
  rcases Nat.lt_or_ge (y % f.signWeight) f.infRung with h2|h2
  ·obtain⟨n,v,e2,_⟩:=kO f y h2
   unfold Format.order pz
   rw[e1,e2,h1']
   cases (x/f.signWeight % 2 == 1)<;>cases (y/f.signWeight % 2 == 1)<;>simp only[if_true,if_false,Bool.false_eq_true,Datum.order]
   ·rw[iu (by omega)]
   ·rw[iu (by omega)]
   ·rw[io (by omega)]
   ·rw[io (by omega)]
  ·have e2:=qq f hI y (by omega)
   have h2':y % f.signWeight=f.infRung:=by omega
   unfold Format.order pz
   rw[e1,e2,h1',h2']
   cases (x/f.signWeight % 2 == 1)<;>cases (y/f.signWeight % 2 == 1)<;>simp only[if_true,if_false,Bool.false_eq_true,Datum.order]
   ·rw[lJ rfl];rfl
   ·rw[iu (by omega)];rfl
   ·rw[io (by omega)];rfl
   ·rw[lJ rfl];rfl
def au (b:Int):Int:=if b<0 then -(b+9223372036854775808) else b
theorem js:Ieee.double.signWeight=9223372036854775808:=by decide
theorem oe:Ieee.double.infRung=9218868437227405312:=by decide
theorem Fy:Ieee.double.binade<=Ieee.double.infRung:=by decide
theorem pK {b:Int} (h:ag b):((wd b % 9223372036854775808:Nat):Int)=if b<0 then b+9223372036854775808 else b:=by
 unfold ag at h;unfold wd;split<;>omega
theorem sj {b:Int} (h:ag b):(wd b/9223372036854775808 % 2 == 1)=decide (b<0):=by
 unfold ag at h;unfold wd
 rw[Bool.eq_iff_iff];simp only[beq_iff_eq,decide_eq_true_eq];omega
theorem ln {b:Int} (h:ag b):aH b=4↔9218868437227405312<wd b % 9223372036854775808:=by
 have:=pK h
 rw[wB];unfold ag at h;unfold bQ cA
 split at this<;>omega
theorem zl {b:Int} (h:ag b):pz (wd b/9223372036854775808 % 2 == 1) (wd b % 9223372036854775808)=au b:=by
 rw[sj h];unfold pz au;rw[pK h]
 by_cases hb:b<0<;>simp[hb]
theorem pM {a b:Int} (ha:ag a) (hb:ag b) (h1:¬ aH a=4) (h2:¬ aH b=4):FloatKind.f64.format.order (wd a) (wd b)=some (compare (au a) (au b)):=by
 rw[ln ha] at h1;rw[ln hb] at h2
 have:=Fw Ieee.double Fy (wd a) (wd b) (by rw[js,oe];omega) (by rw[js,oe];omega)
 rw[js,zl ha,zl hb] at this
 exact this
theorem gH {a b:Int} (ha:ag a) (hb:ag b) (h:aH a=4∨aH b=4):FloatKind.f64.format.order (wd a) (wd b)=none:=by
 refine xw Ieee.double Fy _ _ ?_
 rw[js,oe]
 rcases h with h|h
 ·exact .inl ((ln ha).1 h)
 ·exact .inr ((ln hb).1 h)
def cm (a b:Int):Bool:=!decide (aH a=4)&&(!decide (aH b=4)&&decide (au a<au b))
def gT (a b:Int):Bool:=!decide (aH a=4)&&(!decide (aH b=4)&&decide (au a=au b))
theorem Ef {a b:Int} (ha:ag a) (hb:ag b):(FloatKind.f64.format.order (wd a) (wd b) == some .lt)=cm a b:=by
 unfold cm
 by_cases h1:aH a=4
 ·rw[gH ha hb (.inl h1)];simp[h1]
 ·by_cases h2:aH b=4
  ·rw[gH ha hb (.inr h2)];simp[h2]
  ·rw[pM ha hb h1 h2]
   simp only[h1,h2,decide_false,Bool.not_false,Bool.true_and]
   rcases Int.lt_trichotomy (au a) (au b) with h|h|h
   ·rw[io h];simp[h]
   ·rw[lJ h];simp[h]
   ·rw[iu h];simp;omega
theorem qr {a b:Int} (ha:ag a) (hb:ag b):(FloatKind.f64.format.order (wd a) (wd b) == some .eq)=gT a b:=by
 unfold gT
 by_cases h1:aH a=4
 ·rw[gH ha hb (.inl h1)];simp[h1]
 ·by_cases h2:aH b=4
  ·rw[gH ha hb (.inr h2)];simp[h2]
  ·rw[pM ha hb h1 h2]
   simp only[h1,h2,decide_false,Bool.not_false,Bool.true_and]
   rcases Int.lt_trichotomy (au a) (au b) with h|h|h
   ·rw[io h];simp;omega
   ·rw[lJ h];simp[h]
   ·rw[iu h];simp;omega
def place (b:Int):Int:=if b<0 then -(b+9223372036854775808)-1 else b
theorem Oe {b:Int} (h:ag b):aH b=0↔b=0∨b=-9223372036854775808:=by
 unfold ag at h
 unfold aH bQ cA;repeat' split
 all_goals omega
theorem Fz {b:Int} (h:ag b):ag (aL b):=by
 unfold aL;repeat' split
 ·unfold ag;omega
 ·unfold ag;omega
 ·exact h
end Go.Proofs.YtjjihmnbdeeedaaGreatDoor.M
namespace Go.Proofs.YtjjihmnbdeeedaaGreatDoor.M
open Go Go.Proofs.Tryz
def jz (mag:Int):Nat:=Lib.ctz 64 mag.toNat
def jo (mag:Int):Int:=mag/2^jz mag
def jl (mag:Int):Int:=Lib.bitLen (jo mag).toNat
def jU (fr mag:Int):Int:=fr+1-jl mag
def eg (fr least mag exp:Int):Int:=min (jU fr mag) (exp+jz mag-least)
def kP (fr least mag exp:Int):Int:=exp+jz mag-eg fr least mag exp-least
def cP (fr top least mag exp:Int):Bool:=decide (0<=jU fr mag)&&(decide (least<=exp+jz mag)&&decide (kP fr least mag exp<=top-2))
def jk (fr top least mag exp:Int):Bool:=if mag<0 then false else if mag=0 then true else cP fr top least mag exp
def jv (fr top least mag exp:Int):Int:=if mag<=0 then 0 else if cP fr top least mag exp then kP fr least mag exp*2^fr.toNat+jo mag*2^(eg fr least mag exp).toNat else 0
theorem iF (n:Nat) (h:n<2^64) (h0:n≠0):2^(Lib.bitLen n-1)<=n∧n<2^Lib.bitLen n∧1<=Lib.bitLen n∧Lib.bitLen n<=64:=by
 have hl:Lib.bitLen n<=64:=Lib.bitLen_le n 64 (by omega) h
 -- by halving
 have main:∀ f n:Nat,n<2^f->f<=64->n≠0->2^(Lib.bitLen n-1)<=n∧n<2^Lib.bitLen n∧1<=Lib.bitLen n:=by
  intro f
  induction f with
  | zero=>intro n h _ h0;simp at h;omega
  | succ f ih=>
   intro n h hf h0
   have h64:n<2^64:=Nat.lt_of_lt_of_le h (Nat.pow_le_pow_right (by decide) hf)
   have e:=Lib.bitLen_half n h0 h64
   by_cases h2:n/2=0
   ·have h1:n=1:=by omega
    subst h1
    have:Lib.bitLen 1=1:=by decide +kernel
    rw[this];decide
   ·obtain⟨a,b,c⟩:=ih (n/2) (by rw[Nat.pow_succ] at h;omega) (by omega) h2
    obtain⟨m,hm⟩:∃ m,Lib.bitLen (n/2)=m+1:=⟨Lib.bitLen (n/2)-1,by omega⟩
    rw[e,hm]
    rw[hm] at a b
    simp only[Nat.add_sub_cancel] at a
    refine⟨?_,?_,by omega⟩
    ·rw[show 1+(m+1)-1=m+1 by omega,Nat.pow_succ];omega
    ·rw[show 1+(m+1)=m+1+1 by omega,Nat.pow_succ];omega
 obtain⟨a,b,c⟩:=main 64 n h (by omega) h0
 exact⟨a,b,c,hl⟩
theorem FC (n k:Nat) (h:n<2^64) (h0:n≠0):n<2^k↔Lib.bitLen n<=k:=by
 obtain⟨a,b,c,d⟩:=iF n h h0
 constructor
 ·intro hk
  apply Nat.le_of_not_lt
  intro hlt
  have:2^k<=2^(Lib.bitLen n-1):=Nat.pow_le_pow_right (by decide) (by omega)
  omega
 ·intro hk
  exact Nat.lt_of_lt_of_le b (Nat.pow_le_pow_right (by decide) hk)
theorem fF {mag:Int} (h0:0<mag) (h:mag<9223372036854775808):∃ m:Nat,mag=2^jz mag*(2*m+1)∧jz mag<63∧jo mag=2*m+1:=by
 unfold jo jz
 obtain⟨n,rfl⟩:=Int.eq_ofNat_of_zero_le (Int.le_of_lt h0)
 have hn:n≠0:=by omega
 simp only[Int.toNat_natCast]
 obtain⟨m,hm,hk⟩:=Lib.ctzFrom_spec 64 n (by omega) (by omega)
 have e:Lib.ctz 64 n=Lib.ctzFrom 64 n:=by simp[Lib.ctz,hn]
 rw[e]
 have hp:0<2^Lib.ctzFrom 64 n:=Nat.two_pow_pos _
 have hz:Lib.ctzFrom 64 n<63:=by
  apply Nat.lt_of_not_le
  intro hle
  have:2^63<=2^Lib.ctzFrom 64 n:=Nat.pow_le_pow_right (by decide) hle
  have:2^Lib.ctzFrom 64 n<=n:=by
   rw(occs:=.pos [2]) [hm]
   exact Nat.le_mul_of_pos_right _ (by omega)
  omega
 have hm':(n:Int)=2^Lib.ctzFrom 64 n*(2*(m:Int)+1):=by
  have:((2^Lib.ctzFrom 64 n*(2*m+1):Nat):Int)=2^Lib.ctzFrom 64 n*(2*(m:Int)+1):=by
   rw[Int.natCast_mul];simp
  rw[<- this,<- hm]
 refine⟨m,hm',hz,?_⟩
 have hpi:(0:Int)<2^Lib.ctzFrom 64 n:=Int.pow_pos (by decide)
 rw(occs:=.pos [1]) [hm']
 exact Int.mul_ediv_cancel_left _ (by omega)
theorem oN {mag:Int} (h0:0<mag) (h:mag<9223372036854775808):1<=jo mag∧jo mag<=mag:=by
 obtain⟨m,a,b,c⟩:=fF h0 h
 have hp:(0:Int)<2^jz mag:=Int.pow_pos (by decide)
 have:(2*(m:Int)+1)*1<=(2*(m:Int)+1)*2^jz mag:=Int.mul_le_mul_of_nonneg_left (by omega) (by omega)
 rw[Int.mul_comm _ (2^jz mag),<- a] at this
 omega
theorem tt {mag:Int} (h0:0<mag) (h:mag<9223372036854775808):1<=jl mag∧jl mag<=63:=by
 obtain⟨a,b⟩:=oN h0 h
 have s:=iF (jo mag).toNat (by omega) (by omega)
 unfold jl
 have:=(FC (jo mag).toNat 63 (by omega) (by omega)).1 (by omega)
 omega
theorem mK {fr mag:Int} (h0:0<mag) (h:mag<9223372036854775808) (hf:0<=fr) (s:Nat) (hs:(s:Int)<=jU fr mag):1<=jo mag*2^s∧jo mag*2^s<2^(fr.toNat+1):=by
 obtain⟨a,b⟩:=oN h0 h
 have sp:=iF (jo mag).toNat (by omega) (by omega)
 unfold jU jl at hs
 have hp:(0:Int)<2^s:=Int.pow_pos (by decide)
 constructor
 ·have:(1:Int)*1<=jo mag*2^s:=Int.mul_le_mul a (by omega) (by omega) (by omega)
  omega
 ·have h1:(jo mag).toNat*2^s<2^(Lib.bitLen (jo mag).toNat)*2^s:=Nat.mul_lt_mul_of_pos_right sp.2.1 (Nat.two_pow_pos _)
  rw[<- Nat.pow_add] at h1
  have h2:2^(Lib.bitLen (jo mag).toNat+s)<=2^(fr.toNat+1):=Nat.pow_le_pow_right (by decide) (by omega)
  have h3:(jo mag).toNat*2^s<2^(fr.toNat+1):=Nat.lt_of_lt_of_le h1 h2
  have h4:(((jo mag).toNat*2^s:Nat):Int)<((2^(fr.toNat+1):Nat):Int):=Int.ofNat_lt.2 h3
  rw[Int.natCast_mul,Int.toNat_of_nonneg (by omega)] at h4
  simpa using h4
theorem xx {mag exp:Int} (h0:0<mag) (h:mag<9223372036854775808) (hf:1025<exp):cP 52 2047 (-1074) mag exp=false:=by
 have:=tt h0 h
 unfold cP kP eg jU
 simp;intro _ _;omega
theorem Lf {mag exp:Int} (hm:ag mag):0<=jv 52 2047 (-1074) mag exp∧jv 52 2047 (-1074) mag exp<9218868437227405312:=by
 unfold ag at hm
 unfold jv
 by_cases h0:mag<=0
 ·rw[if_pos h0];omega
 ·rw[if_neg h0]
  by_cases hk:cP 52 2047 (-1074) mag exp=true
  ·rw[if_pos hk]
   unfold cP at hk
   simp only[Bool.and_eq_true,decide_eq_true_eq] at hk
   have hl:=tt (mag:=mag) (by omega) hm.2
   have hs:0<=eg 52 (-1074) mag exp∧eg 52 (-1074) mag exp<=jU 52 mag:=by unfold eg;omega
   have hb:=mK (fr:=52) (mag:=mag) (by omega) hm.2 (by omega) (eg 52 (-1074) mag exp).toNat (by omega)
   have hb2:jo mag*2^(eg 52 (-1074) mag exp).toNat<9007199254740992:=hb.2
   have ha:0<=kP 52 (-1074) mag exp:=by unfold kP eg;omega
   -- a normal number's highest bit is counted into the field
   have e:(2:Int)^(52:Int).toNat=4503599627370496:=by decide
   rw[e]
   omega
  ·rw[if_neg hk];omega
theorem Og {mag:Int} (h0:0<mag) (h:mag<9223372036854775808) (k:Nat) (hk:k<jz mag):mag/2^k % 2=0∧mag/2^k/2=mag/2^(k+1)∧0<mag/2^k∧mag/2^k<9223372036854775808:=by
 obtain⟨m,a,b,c⟩:=fF h0 h
 have hp:(0:Int)<2^k:=Int.pow_pos (by decide)
 have e1:mag/2^k=2^(jz mag-k)*(2*m+1):=by
  rw(occs:=.pos [1]) [a]
  rw[show jz mag=k+(jz mag-k) by omega,Int.pow_add,Int.mul_assoc]
  rw[show k+(jz mag-k)-k=jz mag-k by omega]
  exact Int.mul_ediv_cancel_left _ (by omega)
 have e2:(2:Int)^(jz mag-k)=2*2^(jz mag-k-1):=by
  rw[show jz mag-k=(jz mag-k-1)+1 by omega,Int.pow_succ,Int.mul_comm]
  simp
 have hq:(0:Int)<2^(jz mag-k):=Int.pow_pos (by decide)
 refine⟨?_,?_,?_,?_⟩
 ·rw[e1,e2,Int.mul_assoc];exact Int.mul_emod_right _ _
 ·rw[Int.pow_succ,Int.ediv_ediv_of_nonneg (by omega)]
 ·rw[e1];exact Int.mul_pos hq (by omega)
 ·have:mag/2^k<=mag:=Int.ediv_le_self _ (by omega)
  omega
theorem Eg {mag:Int} (h0:0<mag) (h:mag<9223372036854775808):jo mag % 2=1:=by
 obtain⟨m,a,b,c⟩:=fF h0 h
 omega
theorem tu {fr mag:Int} (h0:0<mag) (h:mag<9223372036854775808) (hf:0<=fr) (j:Nat):jo mag*2^j<2^fr.toNat↔(j:Int)<jU fr mag:=by
 obtain⟨a,b⟩:=oN h0 h
 have sp:=iF (jo mag).toNat (by omega) (by omega)
 unfold jU jl
 have hc:((((jo mag).toNat*2^j:Nat)):Int)=jo mag*2^j:=by
  rw[Int.natCast_mul,Int.toNat_of_nonneg (by omega)];simp
 have hd:((2^fr.toNat:Nat):Int)=2^fr.toNat:=by simp
 rw[<- hc,<- hd,Int.ofNat_lt]
 constructor
 ·intro hlt
  have h1:2^(Lib.bitLen (jo mag).toNat-1)*2^j<=(jo mag).toNat*2^j:=Nat.mul_le_mul_right _ sp.1
  rw[<- Nat.pow_add] at h1
  have h2:2^(Lib.bitLen (jo mag).toNat-1+j)<2^fr.toNat:=by omega
  have:=(Nat.pow_lt_pow_iff_right (by decide:1<2)).1 h2
  omega
 ·intro hlt
  have h1:(jo mag).toNat*2^j<2^(Lib.bitLen (jo mag).toNat)*2^j:=Nat.mul_lt_mul_of_pos_right sp.2.1 (Nat.two_pow_pos _)
  rw[<- Nat.pow_add] at h1
  exact Nat.lt_of_lt_of_le h1 (Nat.pow_le_pow_right (by decide) (by omega))
def sk (fr low mag exp:Int):Bool:=decide (0<=jU fr mag)&&decide (low<=exp+jz mag)
def sm (fr low mag exp:Int):Int:=if sk fr low mag exp then jo mag*2^(eg fr low mag exp).toNat else 0
def se (fr low mag exp:Int):Int:=if sk fr low mag exp then exp+jz mag-eg fr low mag exp else 0
def jp (neg:Bool) (mag exp:Int):Int:=if jk 52 2047 (-1074) mag exp&&neg then jv 52 2047 (-1074) mag exp-9223372036854775808 else jv 52 2047 (-1074) mag exp
theorem Eh {mag exp:Int} (h0:0<mag) (h:mag<9223372036854775808) (hf:exp < -2000):cP 52 2047 (-1074) mag exp=false:=by
 obtain⟨_,_,a,_⟩:=fF h0 h
 unfold cP;simp;intro _ _;omega
theorem zm (mag exp:Int):cP 52 2047 (-1074) mag exp=(sk 52 (-1074) mag exp&&decide (se 52 (-1074) mag exp<=971)):=by
 unfold cP se kP
 by_cases h:sk 52 (-1074) mag exp=true
 ·rw[if_pos h,h]
  unfold sk at h
  simp only[Bool.and_eq_true,decide_eq_true_eq] at h
  simp only[h.1,h.2,decide_true,Bool.true_and]
  congr 1;apply propext;omega
 ·have h':sk 52 (-1074) mag exp=false:=by simpa using h
  rw[h']
  unfold sk at h'
  simp only[Bool.false_and]
  simp only[Bool.and_eq_false_iff,decide_eq_false_iff_not] at h' ⊢
  omega
theorem Qe {mag exp:Int} (h0:0<mag) (h:mag<9223372036854775808) (hk:sk 52 (-1074) mag exp=true) (he:se 52 (-1074) mag exp<=971) :
  1<=sm 52 (-1074) mag exp∧sm 52 (-1074) mag exp<9007199254740992∧-1074<=se 52 (-1074) mag exp ∧
  jv 52 2047 (-1074) mag exp=(if sm 52 (-1074) mag exp<4503599627370496 then sm 52 (-1074) mag exp else (se 52 (-1074) mag exp+1075)*4503599627370496+sm 52 (-1074) mag exp-4503599627370496):=by
 have hg:cP 52 2047 (-1074) mag exp=true:=by rw[zm,hk];simpa using he
 have hk':=hk
 unfold sk at hk'
 simp only[Bool.and_eq_true,decide_eq_true_eq] at hk'
 have hs:0<=eg 52 (-1074) mag exp∧eg 52 (-1074) mag exp<=jU 52 mag∧eg 52 (-1074) mag exp<=exp+jz mag+1074:=by unfold eg;omega
 have hb:=mK (fr:=52) h0 h (by omega) (eg 52 (-1074) mag exp).toNat (by omega)
 have hb2:jo mag*2^(eg 52 (-1074) mag exp).toNat<9007199254740992:=hb.2
 have hd:=tu (fr:=52) h0 h (by omega) (eg 52 (-1074) mag exp).toNat
 rw[show(2:Int)^(52:Int).toNat=4503599627370496 by decide] at hd
 have es:sm 52 (-1074) mag exp=jo mag*2^(eg 52 (-1074) mag exp).toNat:=by unfold sm;rw[if_pos hk]
 have ee:se 52 (-1074) mag exp=exp+jz mag-eg 52 (-1074) mag exp:=by unfold se;rw[if_pos hk]
 rw[es,ee]
 refine⟨hb.1,hb2,by omega,?_⟩
 unfold jv kP
 rw[if_neg (by omega),if_pos hg,show(2:Int)^(52:Int).toNat=4503599627370496 by decide]
 split
 ·rename_i hlt
  have:=hd.1 hlt
  have:eg 52 (-1074) mag exp=exp+jz mag+1074:=by unfold eg at *;omega
  omega
 ·omega
end Go.Proofs.YtjjihmnbdeeedaaGreatDoor.M
namespace Go.Proofs.YtjjihmnbdeeedaaGreatDoor.M
open Go Go.Proofs.Tryz Ieee
theorem lp (f:Format) (a n:Nat) (h:(a=0∧n<2*f.binade)∨(f.binade<=n∧n<2*f.binade)):V f (a*f.binade+n)=n*2^a:=by
 have hB:=ku f
 unfold V
 by_cases hn:n<f.binade
 ·have ha:a=0:=by omega
  subst ha
  rw[Nat.zero_mul,Nat.zero_add,if_pos hn];simp
 ·have hge:f.binade<=a*f.binade+n:=Nat.le_trans (by omega) (Nat.le_add_left _ _)
  rw[if_neg (by omega)]
  have e:a*f.binade+n=f.binade*(a+1)+(n-f.binade):=by
   rw[Nat.mul_add,Nat.mul_one,Nat.mul_comm];omega
  rw[e,Nat.mul_add_mod,Nat.mod_eq_of_lt (show n-f.binade<f.binade by omega),Nat.mul_add_div hB,Nat.div_eq_of_lt (show n-f.binade<f.binade by omega)]
  rw[show a+1+0-1=a by omega,show f.binade+(n-f.binade)=n by omega]
theorem Qf (f:Format) {r s:Nat} (h:V f r=V f s):r=s:=by
 rcases Nat.lt_trichotomy r s with h1|h1|h1
 ·have:=oc f h1;omega
 ·exact h1
 ·have:=oc f h1;omega
theorem xy (z:Nat) (n:Int) (u:Nat) (m:Nat) (hn:0<=n) (h:z<=u) (hm:(m:Int)=n*2^z):n.toNat*2^u=m*2^(u-z):=by
 obtain⟨k,rfl⟩:=Int.eq_ofNat_of_zero_le hn
 have hm':m=k*2^z:=by
  have:((k*2^z:Nat):Int)=(k:Int)*2^z:=by rw[Int.natCast_mul];simp
  omega
 rw[hm',Int.toNat_natCast,Nat.mul_assoc,<- Nat.pow_add,show z+(u-z)=u by omega]
theorem Oh (f:Format) (fr:Nat) (hB:f.binade=2^fr) (top least mag exp:Int) (h0:0<mag) (h:mag<9223372036854775808)
    (hg:cP fr top least mag exp=true) (he:least<=exp):V f (jv fr top least mag exp).toNat=mag.toNat*2^(exp-least).toNat:=by
  obtain⟨m,ez,z63,eo⟩:=fF h0 h
  have hg':=hg
  unfold cP at hg'
  simp only[Bool.and_eq_true,decide_eq_true_eq] at hg'
  have hs:0<=eg fr least mag exp∧eg fr least mag exp<=jU fr mag∧eg fr least mag exp<=exp+jz mag-least:=by unfold eg;omega
  have hb:=mK (fr:=fr) h0 h (by omega) (eg fr least mag exp).toNat (by omega)
  have hd:=tu (fr:=fr) h0 h (by omega) (eg fr least mag exp).toNat
  have ha:0<=kP fr least mag exp:=by unfold kP;omega
  obtain⟨n,hn⟩:=Int.eq_ofNat_of_zero_le (show 0<=jo mag*2^(eg fr least mag exp).toNat by omega)
  obtain⟨a,ha'⟩:=Int.eq_ofNat_of_zero_le ha
  rw[hn] at hb hd
  have hB1:((f.binade:Nat):Int)=2^fr:=by rw[hB];simp
  rw[Int.toNat_natCast,<- hB1] at hd
  have hb2:(n:Int)<2*(f.binade:Int):=by
    have:=hb.2
    rw[Int.toNat_natCast,Int.pow_succ,<- hB1] at this
    omega
  have ejv:(jv fr top least mag exp).toNat=a*f.binade+n:=by
    unfold jv
    rw[if_neg (by omega),if_pos hg,hn,ha',Int.toNat_natCast,<- hB1]
    have:((a:Int)*(f.binade:Int)+(n:Int))=((a*f.binade+n:Nat):Int):=by rw[Int.natCast_add,Int.natCast_mul]
    rw[this,Int.toNat_natCast]
  rw [ejv,lp f a n (by
    by_cases hn1:n<f.binade
    · left
      have:=hd.1 (by omega)
      have:kP fr least mag exp=0:=by unfold kP;unfold eg at *;omega
      omega
    · right; omega)]
  -- n*2^a=mag*2^(exp-least)
  have e1:mag.toNat*2^(exp-least).toNat=(jo mag).toNat*2^(jz mag+(exp-least).toNat):=by
    have hm:((mag.toNat:Nat):Int)=jo mag*2^jz mag:=by
      rw[Int.toNat_of_nonneg (by omega),eo,Int.mul_comm];exact ez
    rw[xy (jz mag) (jo mag) (jz mag+(exp-least).toNat) mag.toNat (by omega) (by omega) hm]
    congr 2;omega
  have e2:n*2^a=(jo mag).toNat*2^((eg fr least mag exp).toNat+a):=by
    rw[xy (eg fr least mag exp).toNat (jo mag) ((eg fr least mag exp).toNat+a) n (by omega) (by omega) (by rw[<- hn])]
    congr 2;omega
  rw[e1,e2]
  congr 2
  unfold kP at ha'
  omega
theorem Rw {mag:Int} (h0:0<mag) (h:mag<9223372036854775808) (k:Nat) (hk:mag<2^k):(jz mag:Int)+jl mag<=k:=by
 obtain⟨m,ez,z63,eo⟩:=fF h0 h
 have hj:=oN h0 h
 have sp:=iF (jo mag).toNat (by omega) (by omega)
 have h1:2^(Lib.bitLen (jo mag).toNat-1)*2^jz mag<=(jo mag).toNat*2^jz mag:=Nat.mul_le_mul_right _ sp.1
 rw[<- Nat.pow_add] at h1
 have h2:(((jo mag).toNat*2^jz mag:Nat):Int)=mag:=by
  rw[Int.natCast_mul,Int.toNat_of_nonneg (by omega),eo,Int.mul_comm]
  simp only[Int.natCast_pow]
  exact ez.symm
 have h3:(jo mag).toNat*2^jz mag<2^k:=by
  have:((2^k:Nat):Int)=2^k:=by simp
  omega
 have h4:2^(Lib.bitLen (jo mag).toNat-1+jz mag)<2^k:=by omega
 have:=(Nat.pow_lt_pow_iff_right (by decide:1<2)).1 h4
 unfold jl
 omega
theorem BJ {fr top least mag exp:Int} (h0:0<mag) (h:mag<9223372036854775808) (hf:0<=fr) (hk:mag<2^(fr.toNat+1)) (he:least<=exp) (he2:exp<=top-2+least):cP fr top least mag exp=true:=by
 have hl:=Rw h0 h (fr.toNat+1) hk
 have:=tt h0 h
 unfold cP kP eg jU
 simp only[Bool.and_eq_true,decide_eq_true_eq]
 omega
/-! binary64 -/
def rg (b:Int):Int:=if b<0 then b+9223372036854775808 else b
theorem gU {b:Int} (h:ag b):0<=rg b∧rg b=bQ b*4503599627370496+cA b:=by
 unfold ag at h;unfold rg bQ cA;split<;>omega
theorem vf {b:Int} (h:ak b=true):bQ b≠2047:=by simpa [ak] using h
theorem dB:Ieee.double.binade=2^52:=by decide
theorem Oi {b:Int} (hb:ag b) (hp:ak b=true):V Ieee.double (rg b).toNat=(aN b).toNat*2^(bh b+1074).toNat:=by
 have hne:=vf hp
 obtain⟨r0,r1⟩:=gU hb
 have hf:=mJ b
 have ht:=lI b
 by_cases h0:bQ b=0
 ·have e:(rg b).toNat=0*Ieee.double.binade+(cA b).toNat:=by omega
  rw[e,lp _ _ _ (.inl ⟨rfl,by rw[dB];omega⟩)]
  simp[aN,bh,h0]
 ·have e:(rg b).toNat=(bQ b-1).toNat*Ieee.double.binade+(4503599627370496+cA b).toNat:=by rw[dB];omega
  rw[e,lp _ _ _ (.inr (by rw[dB];omega))]
  unfold aN bh
  rw[if_neg hne,if_neg h0,if_neg hne,if_neg h0]
  congr 2;omega
/-! binary32 -/
theorem jN {b:Int} (h:ag b):ag (rg b)∧0<=rg b:=by unfold ag rg at *;split<;>omega
theorem oO {b:Int} (h:ag b):aH (rg b)=aH b:=by
 unfold ag at h;unfold aH rg bQ cA
 by_cases h0:b<0
 ·rw[if_pos h0,show(b+9223372036854775808)/4503599627370496 % 2048=b/4503599627370496 % 2048 from by omega,show(b+9223372036854775808) % 4503599627370496=b % 4503599627370496 from by omega]
 ·rw[if_neg h0]
theorem RF {b:Int} (h:ag b):wd b % 9223372036854775808=wd (rg b):=by unfold ag rg wd at *;split<;>omega
theorem lK {b:Int} (h:0<=b):au b=b:=by unfold au;rw[if_neg (by omega)]
theorem zn (b:Int):wd b<18446744073709551616:=by unfold wd;omega
theorem Qg {b:Int} (h:ag b):(bits .andNot .u64 (wd b) 9223372036854775808).toNat=wd (rg b):=by
 have e:=RF h
 have l:=zn b
 rw[<- e]
 show(IntKind.u64.wrap (((BitVec.ofInt 64 (wd b:Int) &&& ~~~ BitVec.ofInt 64 9223372036854775808).toNat:Nat):Int)).toNat=_
 rw[BitVec.toNat_and,BitVec.toNat_not,cY,cY,show(2^64-1-((9223372036854775808:Int) % 18446744073709551616).toNat)=2^63-1 from by decide,Nat.and_two_pow_sub_one_eq_mod,IntKind.wrap_u64]
 omega
theorem bW {b:Int} (h:ak b=true):¬ aH b=4:=by
 have:=vf h
 unfold aH;rw[if_neg this];split
 ·split<;>omega
 ·omega
theorem iG {a b:Int} (ha:ag a) (hb:ag b) (h1:¬ aH a=4) (h2:¬ aH b=4) (h:au a<au b):FloatKind.f64.format.order (wd a) (wd b)=some .lt:=by rw[pM ha hb h1 h2,io h]
theorem iH {a b:Int} (ha:ag a) (hb:ag b) (h1:¬ aH a=4) (h2:¬ aH b=4) (h:au b<au a):FloatKind.f64.format.order (wd a) (wd b)=some .gt:=by rw[pM ha hb h1 h2,iu h]
theorem ii {a b:Int} (ha:ag a) (hb:ag b) (h1:¬ aH a=4) (h2:¬ aH b=4) (h:au a=au b):FloatKind.f64.format.order (wd a) (wd b)=some .eq:=by rw[pM ha hb h1 h2,lJ h]
def dC (b:Int):Bool:=decide (rg b=0)||(decide (3931642474694443008<=rg b)&&decide (rg b<5282722362905591808))
theorem qt {b:Int} (h:ag b):dC b=(decide (rg b=0)||(decide (873<=bQ b)&&decide (bQ b<1173))):=by
 obtain⟨h0,h1⟩:=gU h
 have h2:0<=cA b∧cA b<4503599627370496:=by unfold cA;omega
 unfold dC
 congr 1
 congr 1
 ·apply decide_eq_decide.2;omega
 ·apply decide_eq_decide.2;omega
theorem lq {b:Int} (h:ag b):ak b=decide (rg b<=9218868437227405311):=by
 obtain⟨h0,h1⟩:=gU h
 have h2:0<=cA b∧cA b<4503599627370496:=by unfold cA;omega
 have h3:0<=bQ b∧bQ b<2048:=by unfold bQ;omega
 unfold ak
 by_cases e:bQ b=2047
 ·simp[e];omega
 ·simp[e];omega
end Go.Proofs.YtjjihmnbdeeedaaGreatDoor.M
namespace Go.Proofs.YtjjihmnbdeeedaaGreatDoor
open Go Go.Proofs.Tryz Go.RowKit Go.Proofs.YtjjihmnbdeeedaaGreatDoor.M
structure lL (w:World):Prop where
 a0:w.cell? ⟨1,0,none⟩=some (G6 52)
 a1:w.cell? ⟨1,1,none⟩=some (G6 2047)
 a2:w.cell? ⟨1,2,none⟩=some (G6 (-1074))
 b0:True
 b1:True
 b2:True
structure Gr (W w':World):Prop where
 gr:Grown W w'
 be:Below W.heap.size W w'
theorem Gr.refl (W:World):Gr W W:=⟨Grown.refl _,Below.refl _ _⟩
theorem Gr.alloc {W w':World} (h:Gr W w') (c:Array Value) (t:TypeId):Gr W (w'.alloc (.cells c t)):=⟨h.gr.alloc c t,h.be.alloc h.be.size _⟩
theorem jV {W w':World} (h:Gr W w') (n:Nat):Gr W (w'.drewN n):=⟨h.gr,⟨h.be.os,h.be.tape,h.be.output,h.be.size,h.be.block⟩⟩
theorem yV {a b:World} (h:Gr a b) {p:Addr} {v:Value} (hc:a.cell? p=some v):b.cell? p=some v:=by
 unfold World.cell? at hc ⊢
 have hlt:p.block<a.heap.size:=by
  by_cases hp:p.block<a.heap.size
  ·exact hp
  ·rw[Array.getElem?_eq_none (by omega)] at hc;simp at hc
 have k:=h.gr.1.2.2 p.block hlt
 cases ha:a.heap[p.block]? with
 | none=>rw[ha] at hc;simp at hc
 | some oa=>
  rw[ha] at hc k
  cases oa with
  | cells c t fr=>
   cases hb:b.heap[p.block]? with
   | none=>rw[hb] at k;simp at k
   | some ob=>
    rw[hb] at k
    cases ob with
    | cells c' t' fr'=>
     simp only at hc k ⊢
     obtain⟨_,_,_,kc⟩:=k
     rw[kc p.off (fun f=>f)]
     exact hc
    | _=>simp at k
  | _=>simp at hc
theorem lL.grown {w w':World} (h:lL w) (g:Gr w w'):lL w' :=
 ⟨yV g h.a0,yV g h.a1,yV g h.a2,trivial,trivial,trivial⟩
theorem ce {k:IntKind} {a b:Int} (h:a=b):Ending.returned (.int k a)=.returned (.int k b):=by rw[h]
theorem cX {a b:Bool} (h:a=b):Ending.returned (.bool a)=.returned (.bool b):=by rw[h]
theorem Md {a a':Bool} {b b' c c':Int} (h:a=a') (k:b=b') (l:c=c'):Ending.returned (.tuple #[.bool a,G6 b,G6 c])=.returned (.tuple #[.bool a',G6 b',G6 c']):=by rw[h,k,l]
theorem nI {a a' b b':Int} {c c':Bool} (h:a=a') (k:b=b') (l:c=c'):Ending.returned (.tuple #[G6 a,G6 b,.bool c])=.returned (.tuple #[G6 a',G6 b',.bool c']):=by rw[h,k,l]
theorem qu {n n':Bool} {a a' b b':Int} {c c':Bool} (g:n=n') (h:a=a') (k:b=b') (l:c=c'):Ending.returned (.tuple #[.bool n,G6 a,G6 b,.bool c])=.returned (.tuple #[.bool n',G6 a',G6 b',.bool c']):=by rw[g,h,k,l]
theorem tv (b:Int) (w:World) :
  Calls prog 292 #[.agg #[G6 52,G6 2047,G6 (-1074)],G6 b] w fun e w'=>e=.returned (.tuple #[G6 (bQ b),G6 (cA b)])∧∃ n,w'=(w.alloc (.cells #[G6 52,G6 2047,G6 (-1074)] 255)).drewN n:=by
 have h1:bits .and .i64 (b/4503599627370496) 2047=bQ b:=ze _
 have h2:bits .and .i64 b 4503599627370495=cA b:=BG _
 go_enter func292,ntmps292
 go_wp2
 go_quiet (fail)
 go_wp2
 go_ret2
 exact⟨rfl,_,rfl⟩
theorem Me (b:Int) (w:World) :
    Calls prog 306 #[.agg #[G6 52,G6 2047,G6 (-1074)],G6 b] w fun e w'=>e=.returned (G6 (aH b))∧Gr w w':=by
  by_cases h1:bQ b=2047<;>by_cases h2:cA b=0<;>by_cases h3:bQ b=0
  all_goals first
    | (exfalso;omega)
    | (go_enter func306,ntmps306
       go_wp2_with (go_at_call 292;refine(tv _ _).mono ?_;rintro e w1 ⟨rfl,n,rfl⟩)
       go_ret
       exact ⟨ce (by simp [aH,h1,h2,h3]),jV (((Gr.refl _).alloc _ _).alloc _ _) _⟩)
theorem Mf (b:Int) (w:World) :
  Calls prog 250 #[.agg #[G6 52,G6 2047,G6 (-1074)],G6 b] w fun e w'=>e=.returned (.tuple #[G6 (aN b),G6 (bh b),.bool (ak b)])∧Gr w w':=by
 have hf:=mJ b
 have hr:=lI b
 by_cases h1:bQ b=2047
 ·go_enter func250,ntmps250
  go_wp2_with (go_at_call 292;refine(tv _ _).mono ?_;rintro e w1 ⟨rfl,n,rfl⟩)
  go_ret3
  exact⟨nI (by simp[aN,h1]) (by simp[bh,h1]) (by simp[ak,h1]),jV (((Gr.refl _).alloc _ _).alloc _ _) _⟩
 ·by_cases h2:bQ b=0
  ·go_enter func250,ntmps250
   go_wp2_with (go_at_call 292;refine(tv _ _).mono ?_;rintro e w1 ⟨rfl,n,rfl⟩)
   go_quiet (fail)
   go_wp2
   go_ret3
   exact⟨nI (by simp[aN,h1,h2]) (by simp[bh,h1,h2]) (by simp[ak,h1]),jV (jV (((Gr.refl _).alloc _ _).alloc _ _) _) _⟩
  ·go_enter func250,ntmps250
   go_wp2_with (go_at_call 292;refine(tv _ _).mono ?_;rintro e w1 ⟨rfl,n,rfl⟩)
   go_quiet (fail)
   go_wp2
   go_ret3
   exact⟨nI (by simp[aN,h1,h2]) (by simp[bh,h1,h2];omega) (by simp[ak,h1]),jV (jV (((Gr.refl _).alloc _ _).alloc _ _) _) _⟩
theorem xz (b:Int) (w:World) (L:lL w) :
  Calls prog 265 #[G6 b] w fun e w'=>e=.returned (G6 (aH b))∧Gr w w':=by
 obtain⟨a0,a1,a2,b0,b1,b2⟩:=L
 go_enter func265,ntmps265
 go_wp2_with (go_at_call 306;refine(Me _ _).mono ?_;rintro e w1 ⟨rfl,hg⟩)
 go_ret
 exact⟨rfl,hg⟩
theorem Mg (b:Int) (w:World) (L:lL w) (hb:ag b) :
  Calls prog 215 #[G6 b] w fun e w'=>e=.returned (G6 (neg b))∧Gr w w':=by
 unfold ag at hb
 by_cases h:aH b=4
 all_goals
  go_enter func215,ntmps215
  go_wp2_with (go_at_call 265;refine(xz _ _ L).mono ?_;rintro e w1 ⟨rfl,hg⟩)
  go_ret
  exact⟨ce (by first|(simp[neg,h];done)|(rw[zg _ hb.1 hb.2];simp[neg,h])),hg⟩
theorem xA (b:Int) (w:World) (L:lL w) :
    Calls prog 246 #[G6 b] w fun e w'=>e=.returned (G6 (aL b))∧Gr w w':=by
  by_cases h:aH b=4<;>by_cases h0:aH b=0
  all_goals first
    | (exfalso;omega)
    | (go_enter func246,ntmps246
       go_wp2_with (go_at_call 265;refine(xz _ _ L).mono ?_;rintro e w1 ⟨rfl,hg⟩)
       go_ret
       exact ⟨ce (by simp [aL,h,h0]),hg⟩)
theorem gB (n:Int) (w:World):(callFunc 88 #[.int .u64 n]).run prog w=.ok (.value (G7 n.toNat)) w:=by
 rw[run_callFunc_extern func88 (by kernel_rfl) (by kernel_rfl) (by kernel_rfl) (e:=Extern.MathFloatBits.float64frombits) (by kernel_rfl)]
 rfl
theorem gI {k:FloatKind} {a b:Nat} (h:a=b):Ending.returned (.float k a)=.returned (.float k b):=by rw[h]
theorem bU (b:Int) (w:World) :
  Calls prog 58 #[G6 b] w fun e w'=>e=.returned (G7 (wd b))∧w'=w:=by
 have hd:=gB
 go_enter func58,ntmps58
 go_wp2
 go_ret
 exact⟨gI (by rw[IntKind.wrap_u64];rfl),rfl⟩
theorem aK {p:Prop} (h:p):Hid p:=h
theorem sr (b:Int) (w:World) (hb:ag b) :
  Calls prog 228 #[G6 b] w fun e w'=>e=.returned (.tuple #[.bool (decide (b<0)),G6 (bQ b),G6 (cA b)])∧w'=w:=by
 unfold ag at hb
 by_cases h:b<0
 all_goals
  go_enter func228,ntmps228
  go_wp2
  go_ret3
  exact⟨Md (by simp;try omega) (by unfold bQ;omega) (by unfold cA;omega),rfl⟩
theorem Oj (f t most:Int) (w:World) (hf:0<=f) (ht:0<=t) :
  Calls prog 229 #[G6 f,G6 t,G6 most] w fun e w'=>e=.returned (G6 (zh f t most))∧w'=w:=by
 by_cases h1:f=most
 ·subst h1
  by_cases h2:t=0
  all_goals
   go_enter func229,ntmps229
   go_wp2
   go_ret
   exact⟨ce (by simp[zh,h2]),rfl⟩
 ·by_cases h2:0<f<;>by_cases h3:0<t
  all_goals
   go_enter func229,ntmps229
   go_wp2
   go_ret
   exact⟨ce (by simp[zh,h1];omega),rfl⟩
theorem mi (b:Int) (w:World) (hb:ag b) :
    Calls prog 172 #[G6 b] w fun e w'=>e=.returned (G6 (aH b))∧w'=w:=by
  have hf:=mJ b
  have ht:=lI b
  go_enter func172,ntmps172
  go_wp2_with (first
    | (go_at_call 228;refine(sr _ _ hb).mono ?_;rintro e w1 ⟨rfl,rfl⟩)
    | (go_at_call 229; refine (Oj _ _ _ _ hf.1 ht.1).mono ?_; rintro e w1 ⟨rfl,rfl⟩))
  go_ret
  exact⟨ce (IN b),rfl⟩
theorem IO (b:Int) (w:World) (hb:ag b) :
    Calls prog 208 #[G6 b] w fun e w'=>e=.returned (.tuple #[.bool (dW b),G6 (aN b),G6 (bh b),.bool (ak b)])∧w'=w:=by
  have hf:=mJ b
  have ht:=lI b
  by_cases h0:aH b=0
  · have k:=aK (xu (.inl h0))
    go_enter func208,ntmps208
    go_wp2_with (first
      | (go_at_call 228;refine(sr _ _ hb).mono ?_;rintro e w1 ⟨rfl,rfl⟩)
      | (go_at_call 172; refine (mi _ _ hb).mono ?_; rintro e w1 ⟨rfl,rfl⟩))
    refine bodyPost_ret (v:=.tuple #[.bool (decide (b<0)),G6 (cA b),G6 (-1074),.bool true]) (by simp[results,results208,go_sem]) rfl ⟨qu k.out.1 k.out.2.1 k.out.2.2.1 k.out.2.2.2,rfl⟩
  · by_cases h1:aH b=1
    · have k:=aK (xu (.inr h1))
      go_enter func208,ntmps208
      go_wp2_with (first
        | (go_at_call 228;refine(sr _ _ hb).mono ?_;rintro e w1 ⟨rfl,rfl⟩)
        | (go_at_call 172; refine (mi _ _ hb).mono ?_; rintro e w1 ⟨rfl,rfl⟩))
      refine bodyPost_ret (v:=.tuple #[.bool (decide (b<0)),G6 (cA b),G6 (-1074),.bool true]) (by simp[results,results208,go_sem]) rfl ⟨qu k.out.1 k.out.2.1 k.out.2.2.1 k.out.2.2.2,rfl⟩
    · by_cases h2:aH b=2
      · have k:=aK (Ee h2)
        go_enter func208,ntmps208
        go_wp2_with (first
          | (go_at_call 228;refine(sr _ _ hb).mono ?_;rintro e w1 ⟨rfl,rfl⟩)
          | (go_at_call 172; refine (mi _ _ hb).mono ?_; rintro e w1 ⟨rfl,rfl⟩))
        refine bodyPost_ret (v:=.tuple #[.bool (decide (b<0)),G6 (4503599627370496+cA b),G6 (bQ b-1075),.bool true]) (by simp[results,results208,go_sem]) rfl ⟨qu k.out.1 k.out.2.1 k.out.2.2.1 k.out.2.2.2,rfl⟩
      · have k:=aK (Fu h0 h1 h2)
        go_enter func208,ntmps208
        go_wp2_with (first
          | (go_at_call 228;refine(sr _ _ hb).mono ?_;rintro e w1 ⟨rfl,rfl⟩)
          | (go_at_call 172; refine (mi _ _ hb).mono ?_; rintro e w1 ⟨rfl,rfl⟩))
        refine bodyPost_ret (v:=.tuple #[.bool false,G6 0,G6 0,.bool false]) (by simp[results,results208,go_sem]) rfl ⟨qu k.out.1 k.out.2.1 k.out.2.2.1 k.out.2.2.2,rfl⟩
def aY (b:Int):Int:=if aH b=4 then 9221120237041090561 else b
theorem IP {b:Int} (hb:ag b):(FloatKind.f64.format.order (wd b) (wd b) != some .eq)=decide (aH b=4):=by
 have:=qr hb hb
 unfold bne
 rw[this];unfold gT
 by_cases h:aH b=4<;>simp[h]
theorem jt (n:Nat) (w:World):(callFunc 89 #[G7 n]).run prog w=.ok (.value (.int .u64 n)) w:=by
 rw[run_callFunc_extern func89 (by kernel_rfl) (by kernel_rfl) (by kernel_rfl) (e:=Extern.MathFloatBits.float64bits) (by kernel_rfl)]
 rfl
theorem sw (b:Int) (w:World) (hb:ag b) :
  Calls prog 124 #[G7 (wd b)] w fun e w'=>e=.returned (G6 (aY b))∧w'=w:=by
 have hd:=jt
 have hn:=IP hb
 have hw:Hid (wrap64 (wd b:Int)=b):=by unfold Hid wrap64 wd;unfold ag at hb;omega
 by_cases h:aH b=4
 ·have hn':(FloatKind.f64.format.order (wd b) (wd b) != some .eq)=true:=by rw[hn];simp[h]
  clear hn
  go_enter func124,ntmps124
  go_wp2
  go_ret
  exact⟨ce (by simp[aY,h]),rfl⟩
 ·have hn':(FloatKind.f64.format.order (wd b) (wd b) != some .eq)=false:=by rw[hn];simp[h]
  clear hn
  go_enter func124,ntmps124
  go_wp2
  go_ret
  exact⟨ce (by rw[hw.out];simp[aY,h]),rfl⟩
end Go.Proofs.YtjjihmnbdeeedaaGreatDoor
namespace Go.Proofs.YtjjihmnbdeeedaaGreatDoor.M
open Go Go.Proofs.Tryz
def P:Nat->Int|0=>1|n+1=>P n*1073741824
def val (d:Nat->Int):Nat->Int|0=>0|n+1=>val d n+d n*P n
def bP (d:Nat->Int) (n:Nat):Prop:=∀ i,i<n->0<=d i∧d i<1073741824
def sA (d:Nat->Int) (n:Nat):Prop:=n=0∨d (n-1)≠0
def cT (d:Nat->Int) (n:Nat):Prop:=bP d n∧sA d n
theorem kQ (n:Nat):P (n+1)=P n*1073741824:=rfl
theorem dt (n:Nat):0<P n:=by
 induction n with
 | zero=>decide
 | succ n ih=>rw[kQ];omega
theorem qw (n m:Nat):P (n+m)=P n*P m:=by
 induction m with
 | zero=>show P n=P n*1;omega
 | succ m ih=>show P (n+m)*1073741824=P n*(P m*1073741824);rw[ih,Int.mul_assoc]
theorem nf {n m:Nat} (h:n<=m):P n<=P m:=by
 obtain⟨k,rfl⟩:=Nat.exists_eq_add_of_le h
 rw[qw]
 have:=dt n
 have:=dt k
 have:P n*1<=P n*P k:=Int.mul_le_mul_of_nonneg_left (by omega) (by omega)
 omega
theorem aZ (d:Nat->Int) (n:Nat):val d (n+1)=val d n+d n*P n:=rfl
theorem gJ {d e:Nat->Int} {n:Nat} (h:∀ i,i<n->d i=e i):val d n=val e n:=by
 induction n with
 | zero=>rfl
 | succ n ih=>rw[aZ,aZ,ih (fun i hi=>h i (by omega)),h n (by omega)]
theorem bP.le {d:Nat->Int} {n m:Nat} (h:bP d n) (hm:m<=n):bP d m:=fun i hi=>h i (by omega)
theorem bP.congr {d e:Nat->Int} {n:Nat} (h:bP d n) (he:∀ i,i<n->d i=e i):bP e n:=fun i hi=>by rw[<- he i hi];exact h i hi
theorem bL {d:Nat->Int} {n:Nat} (h:bP d n):0<=val d n:=by
 induction n with
 | zero=>exact Int.le_refl _
 | succ n ih=>
  rw[aZ]
  have:=ih (h.le (by omega))
  have:=Int.mul_nonneg (h n (by omega)).1 (Int.le_of_lt (dt n))
  omega
theorem dF {d:Nat->Int} {n:Nat} (h:bP d n):val d n<P n:=by
 induction n with
 | zero=>show(0:Int)<1;decide
 | succ n ih=>
  rw[aZ,kQ]
  have a:=ih (h.le (by omega))
  have b:d n*P n<=1073741823*P n:=Int.mul_le_mul_of_nonneg_right (by have:=(h n (by omega)).2;omega) (Int.le_of_lt (dt n))
  omega
theorem ik {d:Nat->Int} {n:Nat} (h:bP d n) (hn:0<n) (ht:sA d n):P (n-1)<=val d n:=by
 obtain⟨m,rfl⟩:∃ m,n=m+1:=⟨n-1,by omega⟩
 rw[aZ,Nat.add_sub_cancel]
 have a:=bL (h.le (Nat.le_succ m))
 have b:1<=d m:=by
  rcases ht with h0|h0
  ·omega
  ·rw[Nat.add_sub_cancel] at h0;have:=(h m (by omega)).1;omega
 have c:1*P m<=d m*P m:=Int.mul_le_mul_of_nonneg_right b (Int.le_of_lt (dt m))
 omega
theorem kv {d:Nat->Int} {n:Nat} (h:cT d n) (hn:0<n):0<val d n:=by
 have:=ik h.1 hn h.2
 have:=dt (n-1)
 omega
theorem uo {d:Nat->Int} {n:Nat} (h:cT d n):val d n=0↔n=0:=by
 constructor
 ·intro h0
  by_cases hn:0<n
  ·have:=kv h hn;omega
  ·omega
 ·rintro rfl;rfl
theorem Mh {d e:Nat->Int} {n:Nat} (h:bP d n) (k:bP e n) (hv:val d n=val e n):∀ i,i<n->d i=e i:=by
 induction n with
 | zero=>intro i hi;omega
 | succ n ih=>
  rw[aZ,aZ] at hv
  have a:=dF (h.le (Nat.le_succ n))
  have b:=dF (k.le (Nat.le_succ n))
  have a0:=bL (h.le (Nat.le_succ n))
  have b0:=bL (k.le (Nat.le_succ n))
  have hp:=dt n
  have e1:d n=e n:=by
   have x1:(val d n+d n*P n)/P n=d n:=by
    rw[Int.add_mul_ediv_right _ _ (by omega),Int.ediv_eq_zero_of_lt a0 a];omega
   have x2:(val e n+e n*P n)/P n=e n:=by
    rw[Int.add_mul_ediv_right _ _ (by omega),Int.ediv_eq_zero_of_lt b0 b];omega
   rw[<- x1,<- x2,hv]
  rw[e1] at hv
  intro i hi
  by_cases hi':i=n
  ·rw[hi'];exact e1
  ·exact ih (h.le (Nat.le_succ n)) (k.le (Nat.le_succ n)) (by omega) i (by omega)
theorem sB {d e:Nat->Int} {n m:Nat} (h:bP d n) (k:cT e m) (hnm:n<m):val d n<val e m:=by
 have a:=dF h
 have b:=ik k.1 (by omega) k.2
 have c:=nf (show n<=m-1 by omega)
 omega
theorem Mi {d e:Nat->Int} {n m:Nat} (h:cT d n) (k:cT e m) (hv:val d n=val e m):n=m:=by
 by_cases h1:n<m
 ·have:=sB h.1 k h1;omega
 by_cases h2:m<n
 ·have:=sB k.1 h h2;omega
 omega
theorem Ei {d e:Nat->Int} {n m:Nat} (h:cT d n) (k:bP e m) (hv:val d n<=val e m):n<=m:=by
 by_cases h1:n<=m
 ·exact h1
 ·have:=sB k h (by omega);omega
theorem iw (d:Nat->Int) (n m:Nat):val d (n+m)=val d n+P n*val (fun i=>d (n+i)) m:=by
 induction m with
 | zero=>show val d n=val d n+P n*0;omega
 | succ m ih=>
  show val d (n+m)+d (n+m)*P (n+m)=val d n+P n*(val (fun i=>d (n+i)) m+d (n+m)*P m)
  rw[ih,qw,Int.mul_add,Int.add_assoc]
  congr 2
  rw[<- Int.mul_assoc,Int.mul_comm (d (n+m)) (P n),Int.mul_assoc]
theorem ix {d:Nat->Int} {n m:Nat} (hm:m<=n) (h:∀ i,m<=i->i<n->d i=0):val d n=val d m:=by
 induction n with
 | zero=>rw[show m=0 by omega]
 | succ n ih=>
  by_cases he:m=n+1
  ·rw[he]
  ·rw[aZ,h n (by omega) (by omega),ih (by omega) (fun i a b=>h i a (by omega))];omega
def cr (d:Nat->Int) (i:Nat) (x:Int):Nat->Int:=fun j=>if j=i then x else d j
theorem bG (d:Nat->Int) (i:Nat) (x:Int):cr d i x i=x:=by simp[cr]
theorem bg (d:Nat->Int) {i j:Nat} (x:Int) (h:j≠i):cr d i x j=d j:=by simp[cr,h]
theorem lM (d:Nat->Int) {i n:Nat} (x:Int) (h:n<=i):val (cr d i x) n=val d n:=gJ fun j hj=>bg d x (by omega)
theorem Cn (d:Nat->Int) {i n:Nat} (x:Int) (h:i<n):val (cr d i x) n=val d n+(x-d i)*P i:=by
 induction n with
 | zero=>omega
 | succ n ih=>
  rw[aZ,aZ]
  by_cases hi:i=n
  ·subst hi;rw[bG,lM d x (Nat.le_refl _),Int.sub_mul];omega
  ·rw[bg d x (by omega),ih (by omega)];omega
theorem bP.upd {d:Nat->Int} {n:Nat} (h:bP d n) (i:Nat) {x:Int} (hx:0<=x∧x<1073741824):bP (cr d i x) n:=fun j hj=>by
 by_cases hj':j=i
 ·rw[hj',bG];exact hx
 ·rw[bg d x hj'];exact h j hj
def cd (d:Nat->Int) (n:Nat):Nat->Int:=fun i=>if i<n then d i else 0
theorem fY (d:Nat->Int) {n i:Nat} (h:i<n):cd d n i=d i:=by simp[cd,h]
theorem jW (d:Nat->Int) {n i:Nat} (h:n<=i):cd d n i=0:=by simp[cd];omega
theorem Co {d:Nat->Int} {n:Nat} (h:bP d n) (m:Nat):bP (cd d n) m:=fun i hi=>by
 by_cases hi':i<n
 ·rw[fY d hi'];exact h i hi'
 ·rw[jW d (by omega)];omega
theorem nJ (d:Nat->Int) {n m:Nat} (h:n<=m):val (cd d n) m=val d n:=by
 rw[ix h (fun i a _=>jW d a)]
 exact gJ fun i hi=>fY d hi
theorem vg (V c x p:Int):V+(c+x) % 1073741824*p+(c+x)/1073741824*(p*1073741824)=V+c*p+x*p:=by
 have h:=Int.emod_add_mul_ediv (c+x) 1073741824
 have:(c+x)*p=((c+x) % 1073741824+1073741824*((c+x)/1073741824))*p:=by rw[h]
 rw[Int.add_mul,Int.add_mul] at this
 have e:1073741824*((c+x)/1073741824)*p=(c+x)/1073741824*(p*1073741824):=by
  rw[Int.mul_comm 1073741824,Int.mul_assoc,Int.mul_comm 1073741824 p]
 omega
theorem sC (x:Int):bits .and .i64 x 1073741823=x % 1073741824:=iQ x 30 (by decide)
end Go.Proofs.YtjjihmnbdeeedaaGreatDoor.M
namespace Go.Proofs.YtjjihmnbdeeedaaGreatDoor
open Go Go.Proofs.Tryz Go.RowKit Go.Proofs.YtjjihmnbdeeedaaGreatDoor.M
structure aU (w:World) (ao:Option Addr) (n cap:Nat) (d:Nat->Int):Prop where
 le:n<=cap
 max:cap<=9223372036854775807
 nl:ao=none->cap=0
 spot:0<n->∃ b off,ao=some ⟨b,off,none⟩∧b<w.heap.size∧∀ i,i<n->w.cell? ⟨b,off+i,none⟩=some (G6 (d i))
def dG (w:World) (g N:Nat) (r:Nat->Int):Prop :=
 ∃ cur,w.heap[g]?=some (.cells cur 3 (0,0))∧cur.size=N∧∀ i,i<N->cur[i]?=some (G6 (r i))
def gV (d:Nat->Int) (n:Nat):List Value:=(List.range n).map fun i=>G6 (d i)
theorem cN (d:Nat->Int) (n:Nat):(gV d n).length=n:=by simp[gV]
theorem iI (d:Nat->Int) {n i:Nat} (h:i<n):(gV d n)[i]?=some (G6 (d i)):=by simp[gV,h]
theorem uq (d:Nat->Int) (n:Nat):∀ u ∈ gV d n,u.oneCell'=true:=by
 intro u hu
 obtain⟨_,_,rfl⟩:=List.mem_map.1 hu
 rfl
theorem mj {xs:List Value} {d:Nat->Int} {n:Nat} (hl:xs.length=n) (h:∀ i,i<n->xs[i]?=some (G6 (d i))):xs=gV d n:=by
 apply List.ext_getElem?
 intro i
 by_cases hi:i<n
 ·rw[h i hi,iI d hi]
 ·rw[List.getElem?_eq_none (by omega),List.getElem?_eq_none (by rw[cN];omega)]
def bI (B:Nat) (w:World) (v:Value) (n:Nat) (d:Nat->Int):Prop:=w.ownsRow B 3 1 v n (gV d n)
theorem aU.stays {w w':World} {ao:Option Addr} {n cap:Nat} {d:Nat->Int} (h:aU w ao n cap d) {B:Nat} (hb:Below B w w') (hB:w.heap.size<=B):aU w' ao n cap d :=
  ⟨h.le,h.max,h.nl,fun hn=>by
    obtain⟨b,off,rfl,hlt,hc⟩:=h.spot hn
    exact ⟨b,off,rfl,Nat.lt_of_lt_of_le hlt hb.size,fun i hi=>(hb.cell (p:=⟨b,off+i,none⟩) (Nat.lt_of_lt_of_le hlt hB)).trans (hc i hi)⟩⟩
theorem aU.keeps {w w':World} {ao:Option Addr} {n cap:Nat} {d:Nat->Int} (h:aU w ao n cap d) (hb:Below w.heap.size w w'):aU w' ao n cap d:=h.stays hb (Nat.le_refl _)
theorem aU.nil (w:World) (d:Nat->Int):aU w none 0 0 d:=⟨Nat.le_refl _,by decide,fun _=>rfl,fun h=>by omega⟩
theorem aU.alloc {w:World} {ao:Option Addr} {n cap:Nat} {d:Nat->Int} (h:aU w ao n cap d) (o:Obj):aU (w.alloc o) ao n cap d:=h.keeps ((Below.refl _ _).alloc (Nat.le_refl _) _)
theorem dG.cell {w:World} {g N:Nat} {r:Nat->Int} (h:dG w g N r) {i:Nat} (hi:i<N):w.cell? ⟨g,i,none⟩=some (G6 (r i)):=by
 obtain⟨cur,hg,hs,hc⟩:=h
 rw[cell_of_row w g i cur _ _ hg];exact hc i hi
theorem dG.frozen {w:World} {g N:Nat} {r:Nat->Int} (h:dG w g N r) (i:Nat):w.frozen? ⟨g,i,none⟩=false:=by
 obtain⟨cur,hg,hs,hc⟩:=h
 exact frozen_of_row w g i cur _ hg
theorem dG.lt {w:World} {g N:Nat} {r:Nat->Int} (h:dG w g N r):g<w.heap.size:=by
 obtain⟨cur,hg,hs,hc⟩:=h
 exact(aGe hg).1
theorem dG.store {w:World} {g N:Nat} {r:Nat->Int} (h:dG w g N r) (i:Nat) (x:Int):dG (w.setCell ⟨g,i,none⟩ (G6 x)) g N (cr r i x):=by
 obtain⟨cur,hg,hs,hc⟩:=h
 refine⟨cur.setIfInBounds i (G6 x),heap_setCell_same w g i cur _ _ hg,by simpa using hs,fun j hj=>?_⟩
 by_cases hji:j=i
 ·subst hji;rw[bG,Array.getElem?_setIfInBounds_self_of_lt (by omega)]
 ·rw[bg r x hji,Array.getElem?_setIfInBounds_ne (by omega)];exact hc j hj
theorem dG.of_block {w w':World} {g N:Nat} {r:Nat->Int} (h:dG w g N r) (hb:w'.heap[g]?=w.heap[g]?):dG w' g N r:=by
 obtain⟨cur,hg,hs,hc⟩:=h
 exact⟨cur,hb.trans hg,hs,hc⟩
theorem dG.stays {w w':World} {g N:Nat} {r:Nat->Int} (h:dG w g N r) {B:Nat} (hb:Below B w w') (hB:g<B):dG w' g N r:=h.of_block (hb.block g hB)
theorem dG.keeps {w w':World} {g N:Nat} {r:Nat->Int} (h:dG w g N r) (hb:Below w.heap.size w w'):dG w' g N r:=h.stays hb h.lt
theorem dG.alloc {w:World} {g N:Nat} {r:Nat->Int} (h:dG w g N r) (o:Obj):dG (w.alloc o) g N r:=h.of_block (Below.heap_alloc w o g h.lt)
theorem dG.row0 {w:World} {g N:Nat} {r:Nat->Int} (h:dG w g N r) {n:Nat} (hn:n<=N) (hm:N<=9223372036854775807):aU w (some ⟨g,0,none⟩) n N r :=
 ⟨hn,hm,(fun e=>by cases e),fun _=>⟨g,0,rfl,h.lt,fun i hi=>by rw[Nat.zero_add];exact h.cell (by omega)⟩⟩
theorem dG.out {w:World} {g N:Nat} {r:Nat->Int} (h:dG w g N r) {B n:Nat} (hB:B<=g) (hn:n<=N) (hm:N<=9223372036854775807):bI B w (.slice (some ⟨g,0,none⟩) n N) n r:=by
 obtain⟨cur,hg,hs,hc⟩:=h
 refine⟨by rw[cN];omega,.inr ⟨g,N,cur,rfl,hB,hg,hn,by unfold maxLen;omega,by omega,?_⟩⟩
 apply mj (by simp;omega)
 intro i hi
 rw[List.getElem?_take,if_pos (by omega),Array.getElem?_toList]
 exact hc i (by omega)
theorem dG.made {w:World} {B g N:Nat} (h:w.ownsRow B 3 1 (.slice (some ⟨g,0,none⟩) N N) N (madeCells (Value.int .i64 0).cells (N*1)).toList):dG w g N (fun _=>0):=by
 rcases h.2 with⟨h',_⟩|⟨g',cap',cur,h',_,hg,_,_,hs,htake⟩
 ·simp at h'
 ·simp only[Value.slice.injEq,Option.some.injEq,Addr.mk.injEq,and_true,true_and] at h'
  obtain⟨rfl,rfl⟩:=h'
  refine⟨cur,hg,by omega,fun i hi=>?_⟩
  have e:cur.toList[i]?=(madeCells (Value.int .i64 0).cells (N*1)).toList[i]?:=by
   rw[<- htake,List.getElem?_take,if_pos (by omega)]
  rw[Array.getElem?_toList] at e
  rw[e]
  show(madeCells #[Value.int .i64 0] (N*1)).toList[i]?=_
  rw[Nat.mul_one,toList_madeCells_one]
  simp[hi]
theorem dG.new (w:World) (xs:Array Value) (r:Nat->Int) (h:∀ i,i<xs.size->xs[i]?=some (G6 (r i))):dG (w.alloc (.cells xs 3)) w.heap.size xs.size r :=
 ⟨xs,heap_alloc_new w _,rfl,h⟩
theorem bI.row {B:Nat} {w:World} {v:Value} {n:Nat} {d:Nat->Int} (h:bI B w v n d):∃ ao cap,v=.slice ao n cap∧aU w ao n cap d:=by
 rcases h.2 with⟨rfl,rfl⟩|⟨g,cap,cur,rfl,hb,hg,hn,hm,hs,ht⟩
 ·exact⟨none,0,rfl,aU.nil _ _⟩
 ·refine⟨_,cap,rfl,hn,by unfold maxLen at hm;exact hm,(fun e=>by cases e),fun _=>⟨g,0,rfl,(aGe hg).1,fun i hi=>?_⟩⟩
  rw[Nat.zero_add,cell_of_row w g i cur _ _ hg]
  have e:(cur.toList.take (n*1))[i]?=(gV d n)[i]?:=by rw[ht]
  rw[List.getElem?_take,if_pos (by omega),iI d hi,Array.getElem?_toList] at e
  exact e
theorem bI.nil (B:Nat) (w:World) (d:Nat->Int):bI B w (.slice none 0 0) 0 d:=World.ownsRow_nil _ _ _ _
theorem bI.stays {B:Nat} {w w':World} {v:Value} {n:Nat} {d:Nat->Int} (h:bI B w v n d) (hb:Below w.heap.size w w'):bI B w' v n d:=by
 refine⟨h.1,?_⟩
 rcases h.2 with hn|⟨g,cap,cur,rfl,hbb,hg,rest⟩
 ·exact .inl hn
 ·exact .inr ⟨g,cap,cur,rfl,hbb,(hb.block g (aGe hg).1).trans hg,rest⟩
theorem bI.lower {B B':Nat} {w:World} {v:Value} {n:Nat} {d:Nat->Int} (h:bI B w v n d) (hB:B'<=B):bI B' w v n d:=by
 refine⟨h.1,?_⟩
 rcases h.2 with hn|⟨g,cap,cur,rfl,hbb,rest⟩
 ·exact .inl hn
 ·exact .inr ⟨g,cap,cur,rfl,by omega,rest⟩
theorem bI.congr {B:Nat} {w:World} {v:Value} {n:Nat} {d e:Nat->Int} (h:bI B w v n d) (he:∀ i,i<n->d i=e i):bI B w v n e:=by
 unfold bI at h ⊢
 rwa [show gV e n=gV d n from(mj (cN d n) fun i hi=>by rw[iI d hi,he i hi]).symm]
theorem ac {a b c:World} (h:Below a.heap.size a b) (k:Below b.heap.size b c):Below a.heap.size a c:=h.trans (k.mono h.size)
theorem ap (w:World):Below w.heap.size w w:=Below.refl _ _
theorem cV {B:Nat} {a w:World} (h:Below B a w) (n:Nat):Below B a (w.drewN n):=⟨h.os,h.tape,h.output,h.size,h.block⟩
def qy (ao:Option Addr) (t cap:Nat):Value:=if t=0 then .slice none 0 0 else .slice ao t cap
theorem dG.cut {w:World} {g N:Nat} {r:Nat->Int} (h:dG w g N r) {B t:Nat} (hB:B<=g) (ht:t<=N) (hm:N<=9223372036854775807):bI B w (qy (some ⟨g,0,none⟩) t N) t r:=by
 unfold qy
 split
 ·rename_i h0;subst h0;exact bI.nil _ _ _
 ·exact h.out hB ht hm
def dE (w w':World) (V:Int) (v:Value):Prop:=∃ t d,bI w.heap.size w' v t d∧cT d t∧val d t=V∧Below w.heap.size w w'
theorem dE.below {w w':World} {V:Int} {v:Value} (h:dE w w' V v):Below w.heap.size w w':=h.choose_spec.choose_spec.2.2.2
theorem dE.from {w0 w w':World} {V:Int} {v:Value} (h:dE w w' V v) (hb:Below w0.heap.size w0 w):dE w0 w' V v:=by
 obtain⟨t,d,h1,h2,h3,h4⟩:=h
 exact⟨t,d,h1.lower hb.size,h2,h3,ac hb h4⟩
theorem dE.stays {w w1 w2:World} {V:Int} {v:Value} (h:dE w w1 V v) (hb:Below w1.heap.size w1 w2):dE w w2 V v:=by
 obtain⟨t,d,h1,h2,h3,h4⟩:=h
 exact⟨t,d,h1.stays hb,h2,h3,ac h4 hb⟩
theorem dE.nil {w w':World} (hb:Below w.heap.size w w'):dE w w' 0 (.slice none 0 0):=⟨0,fun _=>0,bI.nil _ _ _,⟨fun i hi=>by omega,.inl rfl⟩,rfl,hb⟩
theorem jX:(prog.info? 3).map (fun i=>(i.zero,i.size,i.bytes))=some (some (G6 0),1,8):=by kernel_rfl
theorem pA {w w':World} (h:w.grownBy w' none):Below w.heap.size w w':=⟨h.os,h.tape,h.output,h.size,fun k hk=>h.block k hk (by simp)⟩
theorem lr {w:World} {ops:Array Oper} {rest:List Oper} {o:Oper} {a:Act} {Q:Exit->Act->World->Prop} (hg:o.guard=none) (l c:Operand) (hop:o.op=Op.makeSlice 38 l c)
  (L C:Int) (n:Nat) (hl:a.eval l=G6 L) (hc:a.eval c=G6 C) (hL:L=(n:Int)) (hC:C=(n:Int)) (hn:n<=1000000)
  (hK:∀ w',dG w' w.heap.size n (fun _=>0)->Below w.heap.size w w'->wpList prog ops Q rest (a.put o.dst (.slice (some ⟨w.heap.size,0,none⟩) n n)) w') :
  wpList prog ops Q (o :: rest) a w:=by
 obtain⟨i0,hi,hz0,hz1,hz2⟩:=info_parts jX
 exact wpList_make_full w hg l c 38 hop w.heap.size 3 i0 (G6 0) 1 underlying38 hi hz0 hz1 .i64 .i64 L C n hl hc hL hC (by rw[hz2];omega) (by unfold maxLen;omega) (Nat.le_refl _)
  fun w' h1 h2=>hK w' (dG.made h1) (pA h2)
theorem iR (w:World) (x:Int) {g:Nat} (hg:g=w.heap.size):aU (w.alloc (.cells #[G6 x] 3)) (some ⟨g,0,none⟩) 1 1 (fun _=>x):=by
 subst hg
 exact(dG.new w #[G6 x] (fun _=>x) (fun i hi=>by simp at hi;subst hi;rfl)).row0 (Nat.le_refl _) (show 1<=9223372036854775807 by decide)
def kS (d:Nat->Int) (n:Nat) (e:Nat->Int):Nat->Int:=fun i=>if i<n then d i else e (i-n)
theorem zo (d e:Nat->Int) (n m:Nat):gV d n ++ gV e m=gV (kS d n e) (n+m):=by
 apply mj (by simp[cN])
 intro i hi
 by_cases h:i<n
 ·rw[List.getElem?_append_left (by rw[cN];exact h),iI d h];simp[kS,h]
 ·rw[List.getElem?_append_right (by rw[cN];omega),cN,iI e (by omega)];simp[kS,h]
theorem qA (b off n:Nat):(⟨b,off,none⟩:Addr).add n=⟨b,off+n,none⟩:=by
 unfold Addr.add;split<;>simp_all
theorem cL {w:World} {ops:Array Oper} {rest:List Oper} {o:Oper} {a:Act} {Q:Exit->Act->World->Prop} (hgd:o.guard=none) (s x:Operand)
  (ho:o.op=.call { callee:=.builtin .append,args:=#[s,x],argTypes:=#[38,38] }) (B:Nat) (v:Value) (n:Nat) (d:Nat->Int) (hs:a.eval s=v) (hO:bI B w v n d)
  (bo:Option Addr) (m cb:Nat) (e:Nat->Int) (hx:a.eval x=.slice bo m cb) (hR:aU w bo m cb e) (hlen:n+m<=1000000) (hB:B<=w.heap.size)
  (h:∀ v' w',bI B w' v' (n+m) (kS d n e)->w.grownBy w' v.ownBlock->wpList prog ops Q rest (a.put o.dst v') w'):wpList prog ops Q (o :: rest) a w:=by
 obtain⟨i0,hi,hz0,hz1,hz2⟩:=info_parts jX
 cases bo with
 | none=>
  have hc:=hR.nl rfl
  have hl:=hR.le
  subst hc
  obtain rfl:m=0:=by omega
  refine wpList_append_own_none hgd s x 38 ho B 3 i0 1 underlying38 hi v n (gV d n) hs hO hx ?_
  refine h v w ?_ ⟨rfl,rfl,rfl,Nat.le_refl _,fun _ _ _=>rfl⟩
  exact bI.congr hO fun i hi=>by simp[kS];omega
 | some ad=>
  refine wpList_append_own w hgd s x 38 ho B 3 i0 (G6 0) 1 8 underlying38 hi hz0 hz1 hz2 rfl (by decide) v n (gV d n) hs hO ad m cb (gV e m) hx (by rw[cN];omega) ?_ (uq e m) (by unfold maxLen;omega) (by omega) hB ?_
  ·intro j u hu
   have hj:j<m:=by have:=(List.getElem?_eq_some_iff.1 hu).1;rwa [cN] at this
   obtain⟨b,off,hb,_,hc⟩:=hR.spot (by omega)
   obtain rfl:=Option.some.inj hb
   rw[iI e hj] at hu
   rw[qA,hc j hj];exact hu
  ·intro v' w' h1 h2 _
   rw[zo] at h1
   exact h v' w' h1 h2
theorem gy {B:Nat} {w:World} {v:Value} {n:Nat} {d:Nat->Int} (h:bI B w v n d):∀ k,v.ownBlock=some k->B<=k:=fun k hk=>(World.ownsRow.lt h k hk).1
def dU (w:World) (v:Value) (V:Int):Prop:=∃ ao n cap d,v=.slice ao n cap∧aU w ao n cap d∧cT d n∧val d n=V
theorem dE.num {w w':World} {V:Int} {v:Value} (h:dE w w' V v):dU w' v V:=by
 obtain⟨t,d,h1,h2,h3,h4⟩:=h
 obtain⟨ao,cap,rfl,hR⟩:=h1.row
 exact⟨ao,t,cap,d,rfl,hR,h2,h3⟩
theorem dU.keeps {w w':World} {v:Value} {V:Int} (h:dU w v V) (hb:Below w.heap.size w w'):dU w' v V:=by
 obtain⟨ao,n,cap,d,rfl,hR,h2⟩:=h
 exact⟨ao,n,cap,d,rfl,hR.keeps hb,h2⟩
theorem dU.shape {w:World} {v:Value} {V:Int} (h:dU w v V):∃ ao n cap,v=.slice ao n cap:=by
 obtain⟨ao,n,cap,d,e,_⟩:=h
 exact⟨ao,n,cap,e⟩
theorem dU.len {w:World} {ao:Option Addr} {n cap:Nat} {V:Int} (h:dU w (.slice ao n cap) V) {k:Nat} (hV:V<P k):n<=k:=by
 obtain⟨ao',n',cap',d,e,hR,h2,h3⟩:=h
 simp only[Value.slice.injEq] at e
 obtain⟨rfl,rfl,rfl⟩:=e
 by_cases hk:n<=k
 ·exact hk
 ·have a:=ik h2.1 (by omega) h2.2
  have b:=nf (show k<=n-1 by omega)
  omega
theorem af (w:World) (o:Obj):Below w.heap.size w (w.alloc o):=(Below.refl _ _).alloc (Nat.le_refl _) _
theorem aM (w:World) (o p:Obj):Below w.heap.size w ((w.alloc o).alloc p):=(af w o).alloc (by simp) _
end Go.Proofs.YtjjihmnbdeeedaaGreatDoor
namespace Go.Proofs.YtjjihmnbdeeedaaGreatDoor.M
open Go Go.Proofs.Tryz
def fs (V:Int) (l:Nat):Prop:=∃ m:Int,V=(2*m+1)*2^l
theorem aR (k:Nat):(0:Int)<2^k:=Int.pow_pos (by decide)
theorem ft (n:Nat):P n=2^(30*n):=by
 induction n with
 | zero=>rfl
 | succ n ih=>rw[kQ,ih,show 30*(n+1)=30*n+30 by omega,Int.pow_add];rfl
theorem oP (k:Nat):(2:Int)^k=P (k/30)*2^(k % 30):=by
 rw[ft,<- Int.pow_add];congr 1;omega
theorem eG {j k:Nat} (h:j<=k):(2:Int)^j<=2^k:=by
 obtain⟨m,rfl⟩:=Nat.exists_eq_add_of_le h
 rw[Int.pow_add]
 have h1:=aR j
 have h2:=aR m
 have h3:(2:Int)^j*1<=2^j*2^m:=Int.mul_le_mul_of_nonneg_left (by omega) (by omega)
 omega
theorem zr (x m:Int) (k:Nat) (hx:0<=x) (hxk:x<2^k) (hm:0<=m) (hs:x+m*2^k<9223372036854775808):bits .or .i64 x (m*2^k)=x+m*2^k:=by
 have hp:=aR k
 have hy:0<=m*2^k:=Int.mul_nonneg hm (by omega)
 obtain⟨m',rfl⟩:=Int.eq_ofNat_of_zero_le hm
 obtain⟨x',rfl⟩:=Int.eq_ofNat_of_zero_le hx
 have e2:((m':Int)*2^k)=((m'*2^k:Nat):Int):=by simp
 rw[e2] at hs hy ⊢
 have hx':x'<2^k:=by
  have:((x':Nat):Int)<((2^k:Nat):Int):=by simpa using hxk
  exact Int.ofNat_lt.1 this
 have e3:x' ||| m'*2^k=m'*2^k+x':=by rw[Nat.or_comm,Nat.mul_comm m',Nat.two_pow_add_eq_or_of_lt hx' m']
 generalize m'*2^k=M at *
 rw[xt,show(((x':Int)) % 18446744073709551616).toNat=x' by omega,show((M:Int) % 18446744073709551616).toNat=M by omega,e3,bK]
 omega
def low (s:Nat->Int) (u v:Int):Nat->Int:=fun i=>s i/u+s (i+1) % u*v
theorem Cp {s:Nat->Int} {u v:Int} {n:Nat} (hu:0<u) (huv:u*v=1073741824) (h:bP s (n+1)):bP (low s u v) n:=by
 intro i hi
 have a:=h i (by omega)
 have hv:0<v:=by
  rcases Int.lt_or_le 0 v with h|h
  ·exact h
  ·have:=Int.mul_nonneg (show 0<=u by omega) (show 0 <= -v by omega);rw[Int.mul_neg] at this;omega
 have b0:0<=s (i+1) % u:=Int.emod_nonneg _ (by omega)
 have b1:s (i+1) % u<u:=Int.emod_lt_of_pos _ hu
 have c0:0<=s i/u:=Int.ediv_nonneg a.1 (by omega)
 have c1:s i/u<v:=(Int.ediv_lt_iff_lt_mul hu).2 (by rw[Int.mul_comm,huv];exact a.2)
 have d1:s (i+1) % u*v<=(u-1)*v:=Int.mul_le_mul_of_nonneg_right (by omega) (by omega)
 have d0:0<=s (i+1) % u*v:=Int.mul_nonneg b0 (by omega)
 rw[Int.sub_mul,huv] at d1
 unfold low
 omega
theorem Mj (s:Nat->Int) {u v:Int} (huv:u*v=1073741824) (n:Nat):val (low s u v) n*u=val s n-s 0 % u+s n % u*P n:=by
 induction n with
 | zero=>show(0:Int)*u=0-s 0 % u+s 0 % u*1;omega
 | succ n ih=>
  rw[aZ,aZ,kQ]
  have e:s n/u*u=s n-s n % u:=by have:=Int.emod_add_ediv_mul (s n) u;omega
  unfold low at ih ⊢
  have e2:(val (fun i=>s i/u+s (i+1) % u*v) n+(s n/u+s (n+1) % u*v)*P n)*u=val (fun i=>s i/u+s (i+1) % u*v) n*u+(s n/u*u)*P n+s (n+1) % u*(u*v)*P n:=by grind
  rw[e2,ih,e,huv];grind
theorem FD {s:Nat->Int} {u v:Int} (hu:0<u) (huv:u*v=1073741824) {n:Nat} (h:s n=0):val (low s u v) n=val s n/u:=by
 have h1:=Mj s huv n
 rw[h,Int.zero_emod,Int.zero_mul,Int.add_zero] at h1
 have b0:0<=s 0 % u:=Int.emod_nonneg _ (by omega)
 have b1:s 0 % u<u:=Int.emod_lt_of_pos _ hu
 have:val s n=s 0 % u+val (low s u v) n*u:=by omega
 rw[this,Int.add_mul_ediv_right _ _ (by omega),Int.ediv_eq_zero_of_lt b0 b1];omega
theorem ur (d:Nat->Int) {w n:Nat} (h:w<=n) (hd:bP d n):val (fun i=>d (w+i)) (n-w)=val d n/P w:=by
 have e:=iw d w (n-w)
 rw[show w+(n-w)=n by omega] at e
 rw[e,Int.add_mul_ediv_left _ _ (by have:=dt w;omega),Int.ediv_eq_zero_of_lt (bL (hd.le h)) (dF (hd.le h))];omega
theorem vi (d:Nat->Int) (w n:Nat) (h:∀ i,i<w->d i=0):val d (w+n)=P w*val (fun i=>d (w+i)) n:=by
 rw[iw,ix (Nat.zero_le w) (fun i _ b=>h i b)];show 0+_=_;omega
theorem Cq {x y:Int} (hx:0<=x∧x<1073741824) (hy:0<=y∧y<1073741824):0<=x*y∧x*y<=1152921502459363329:=by
 refine⟨Int.mul_nonneg hx.1 hy.1,?_⟩
 have h1:x*y<=1073741823*y:=Int.mul_le_mul_of_nonneg_right (by omega) hy.1
 omega
theorem ut (n:Nat):bP (fun _=>0) n:=fun i _=>⟨Int.le_refl 0,show(0:Int)<1073741824 by decide⟩
theorem jH (x:Int):0<=x % 1073741824∧x % 1073741824<1073741824:=by omega
theorem gn {r:Nat->Int} {k:Nat} {c x V:Int} (h:val r k+c*P k=V):val (cr r k ((c+x) % 1073741824)) (k+1)+(c+x)/1073741824*P (k+1)=V+x*P k:=by
 rw[aZ,lM r _ (Nat.le_refl k),bG,kQ,vg,h]
theorem zt {r r0 b:Nat->Int} {i j:Nat} {c ai:Int} (h:val r (i+j)+c*P (i+j)=val r0 (i+j)+ai*val b j*P i) (hr:r (i+j)=r0 (i+j)) :
  val (cr r (i+j) ((c+(ai*b j+r (i+j))) % 1073741824)) (i+(j+1))+(c+(ai*b j+r (i+j)))/1073741824*P (i+(j+1))=val r0 (i+(j+1))+ai*val b (j+1)*P i:=by
 have e:=gn (x:=ai*b j+r (i+j)) h
 rw[<- Nat.add_assoc,e,aZ,aZ,qw,hr]
 grind
theorem Cr {r r0 b:Nat->Int} {i m:Nat} {c ai A:Int} (h:val r (i+m)+c*P (i+m)=val r0 (i+m)+ai*val b m*P i) (h0:val r0 (i+m)=A*val b m) :
  val (cr r (i+m) c) (i+1+m)=(A+ai*P i)*val b m:=by
 rw[show i+1+m=i+m+1 by omega,aZ,bG,lM r _ (Nat.le_refl _),h,h0]
 grind
theorem ju {d:Nat->Int} {n t:Nat} (hd:bP d n) (ht:t<=n) (htop:sA d t) (hz:∀ i,t<=i->i<n->d i=0):cT d t∧val d t=val d n :=
 ⟨⟨hd.le ht,htop⟩,(ix ht hz).symm⟩
theorem Cs {d e:Nat->Int} {n k:Nat} (hd:bP d n) (he:bP e n) (hk:k<n) (hs:∀ i,k<i->i<n->d i=e i) (hlt:d k<e k):val d n<val e n:=by
 have s1:=iw d (k+1) (n-(k+1))
 have s2:=iw e (k+1) (n-(k+1))
 rw[show k+1+(n-(k+1))=n by omega] at s1 s2
 have e1:val (fun i=>d (k+1+i)) (n-(k+1))=val (fun i=>e (k+1+i)) (n-(k+1)):=gJ fun i hi=>hs _ (by omega) (by omega)
 rw[s1,s2,e1,aZ,aZ]
 have a:=dF (hd.le (show k<=n by omega))
 have b:=bL (he.le (show k<=n by omega))
 have c:(d k+1)*P k<=e k*P k:=Int.mul_le_mul_of_nonneg_right (by omega) (Int.le_of_lt (dt k))
 rw[Int.add_mul] at c
 omega
def bH (a b:Int):Int:=if a<b then -1 else if b<a then 1 else 0
theorem gd {a b:Int} (h:a<b):bH a b=-1:=by simp[bH,h]
theorem gf {a b:Int} (h:b<a):bH a b=1:=by simp[bH,h];omega
theorem jE {a b:Int} (h:a=b):bH a b=0:=by simp[bH,h]
theorem IQ {a b c:Int} (h:a<=b) (hc:0<=c):a*c<=b*c:=Int.mul_le_mul_of_nonneg_right h hc
end Go.Proofs.YtjjihmnbdeeedaaGreatDoor.M
namespace Go.Proofs.YtjjihmnbdeeedaaGreatDoor
open Go Go.Proofs.Tryz Go.RowKit Go.Proofs.YtjjihmnbdeeedaaGreatDoor.M
structure Wr (g:Nat) (w w':World):Prop where
 os:w'.os=w.os
 tape:w'.tape=w.tape
 output:w'.output=w.output
 size:w.heap.size<=w'.heap.size
 block:∀ k,k<w.heap.size->k≠g->w'.heap[k]?=w.heap[k]?
theorem Wr.refl (g:Nat) (w:World):Wr g w w:=⟨rfl,rfl,rfl,Nat.le_refl _,fun _ _ _=>rfl⟩
theorem Wr.trans {g:Nat} {a b c:World} (h:Wr g a b) (k:Wr g b c):Wr g a c :=
 ⟨k.os.trans h.os,k.tape.trans h.tape,k.output.trans h.output,Nat.le_trans h.size k.size,fun i hi hg=>(k.block i (Nat.lt_of_lt_of_le hi h.size) hg).trans (h.block i hi hg)⟩
theorem Wr.setCell {g:Nat} {a w:World} (h:Wr g a w) (o:Nat) (u:Value):Wr g a (w.setCell ⟨g,o,none⟩ u) :=
 ⟨h.os,h.tape,h.output,by simp[World.setCell];exact h.size,fun k hk hg=>(Below.heap_setCell _ _ _ _ hg).trans (h.block k hk hg)⟩
theorem Lg {g:Nat} {a w:World} (h:Below a.heap.size a w):Wr g a w:=⟨h.os,h.tape,h.output,h.size,fun k hk _=>h.block k hk⟩
theorem Wr.below {B g:Nat} {a w w':World} (h:Wr g w w') (hb:Below B a w) (hB:B<=w.heap.size) (hg:B<=g):Below B a w' :=
 hb.trans ⟨h.os,h.tape,h.output,h.size,fun k hk=>h.block k (by omega) (by omega)⟩
theorem Wr.cell {g:Nat} {w w':World} (h:Wr g w w') {p:Addr} (hp:p.block<w.heap.size) (hg:p.block≠g):w'.cell? p=w.cell? p:=World.cell?_of_block (w:=w) (h.block p.block hp hg)
structure sD (g:Nat) (w:World) (ao:Option Addr) (n cap:Nat) (d:Nat->Int):Prop where
 le:n<=cap
 max:cap<=9223372036854775807
 spot:0<n->∃ b off,ao=some ⟨b,off,none⟩∧b<w.heap.size∧b≠g∧∀ i,i<n->w.cell? ⟨b,off+i,none⟩=some (G6 (d i))
theorem sD.keeps {g:Nat} {w w':World} {ao:Option Addr} {n cap:Nat} {d:Nat->Int} (h:sD g w ao n cap d) (hw:Wr g w w'):sD g w' ao n cap d :=
  ⟨h.le,h.max,fun hn=>by
    obtain⟨b,off,rfl,hlt,hg,hc⟩:=h.spot hn
    exact ⟨b,off,rfl,Nat.lt_of_lt_of_le hlt hw.size,hg,fun i hi=>(hw.cell (p:=⟨b,off+i,none⟩) hlt hg).trans (hc i hi)⟩⟩
theorem sD.of {g:Nat} {w:World} {ao:Option Addr} {n cap:Nat} {d:Nat->Int} (h:aU w ao n cap d) (hg:w.heap.size<=g):sD g w ao n cap d :=
  ⟨h.le,h.max,fun hn=>by
    obtain⟨b,off,rfl,hlt,hc⟩:=h.spot hn
    exact ⟨b,off,rfl,hlt,by omega,hc⟩⟩
end Go.Proofs.YtjjihmnbdeeedaaGreatDoor
namespace Go.Proofs.YtjjihmnbdeeedaaGreatDoor.M
open Go Go.Proofs.Tryz
def LL:Nat:=4194304
def pw (e:Int):Int:=2^(e+4194304).toNat
def sg (b:Bool) (x:Int):Int:=if b then -x else x
theorem bR (e:Int):0<pw e:=aR _
theorem gW {e:Int} (h:-4194304<=e) (l:Nat):pw (e+l)=pw e*2^l:=by
 unfold pw
 rw[show(e+l+4194304).toNat=(e+4194304).toNat+l by omega,Int.pow_add]
theorem og {e low:Int} (h:-4194304<=low) (h1:low<=e):pw e=2^(e-low).toNat*pw low:=by
 have:=gW h (e-low).toNat
 rw[show low+((e-low).toNat:Int)=e by omega] at this
 rw[this,Int.mul_comm]
theorem oh {a b:Int} (ha:-2097152<=a) (hb:-2097152<=b):pw a*pw b=pw (a+b)*2^4194304:=by
 unfold pw
 rw[<- Int.pow_add,<- Int.pow_add,show(a+4194304).toNat+(b+4194304).toNat=(a+b+4194304).toNat+4194304 by omega]
theorem FE (a b:Bool) (x y:Int):sg a x*sg b y=sg (a != b) (x*y):=by
 cases a<;>cases b<;>simp[sg,Int.neg_mul,Int.mul_neg]
theorem mL (b:Bool) (x:Int):sg b x=(if b then -1 else 1)*x:=by cases b<;>simp[sg]
theorem zu (b:Bool) (x:Int):sg (!b) x=-sg b x:=by cases b<;>simp[sg]
theorem gN (b:Bool):sg b 0=0:=by cases b<;>rfl
theorem qB {b:Bool} {x:Int} (h:sg b x=0):x=0:=by cases b<;>simp[sg] at h<;>exact h
structure Dy (V:Int) (ng:Bool) (m e:Int):Prop where
 val:V=sg ng m*pw e
 low:-4194304<=e
 form:(m=0∧ng=false∧e=0)∨(0<m∧m % 2=1)
def eR (V:Int):Prop:=∃ ng m e,Dy V ng m e∧m<P 2000∧-1048576<=e∧e<=1048576
theorem Dy.zero:Dy 0 false 0 0:=⟨by simp[sg],by decide,.inl ⟨rfl,rfl,rfl⟩⟩
theorem qC:eR 0:=⟨_,_,_,Dy.zero,dt _,by decide,by decide⟩
theorem Dy.eq_zero {V:Int} {ng:Bool} {m e:Int} (h:Dy V ng m e):V=0↔m=0:=by
 constructor
 ·intro h0
  have:=h.val
  rw[h0] at this
  rcases Int.mul_eq_zero.1 this.symm with h1|h1
  ·exact qB h1
  ·have:=bR e;omega
 ·intro h0
  rw[h.val,h0,gN,Int.zero_mul]
theorem Dy.nonneg {V:Int} {ng:Bool} {m e:Int} (h:Dy V ng m e):0<=m:=by rcases h.form with h|h<;>omega
theorem Dy.neg_iff {V:Int} {ng:Bool} {m e:Int} (h:Dy V ng m e):ng=true↔V<0:=by
 have hp:=bR e
 rcases h.form with⟨h1,h2,h3⟩|⟨h1,_⟩
 ·have:=h.eq_zero.2 h1;simp[h2];omega
 ·have hm:0<m*pw e:=Int.mul_pos h1 hp
  have:=h.val
  cases ng
  ·simp[sg] at this;simp;omega
  ·simp[sg,Int.neg_mul] at this;simp;omega
theorem Ct {m m':Int} {a b:Nat} (h:m % 2=1) (h':m' % 2=1) (e:m*2^a=m'*2^b):¬ a<b:=by
 intro hlt
 obtain⟨d,rfl⟩:∃ d,b=a+1+d:=⟨b-a-1,by omega⟩
 rw[Int.pow_add,Int.pow_add] at e
 have e1:m*2^a=(m'*(2^d*2))*2^a:=by rw[e];grind
 have e2:=Int.eq_of_mul_eq_mul_right (Int.ne_of_gt (aR a)) e1
 rw[show m'*(2^d*2)=2*(m'*2^d) by grind] at e2
 omega
theorem Dy.unique {V:Int} {ng ng':Bool} {m m' e e':Int} (h:Dy V ng m e) (k:Dy V ng' m' e'):ng=ng'∧m=m'∧e=e':=by
 have hn:ng=ng':=by
  have a:=h.neg_iff
  have b:=k.neg_iff
  cases ng<;>cases ng'<;>simp_all<;>omega
 subst hn
 rcases h.form with⟨h1,h2,h3⟩|⟨h1,h2⟩
 ·have h0:=k.eq_zero.1 (h.eq_zero.2 h1)
  rcases k.form with⟨k1,k2,k3⟩|⟨k1,k2⟩
  ·exact⟨rfl,by omega,by omega⟩
  ·omega
 ·rcases k.form with⟨k1,k2,k3⟩|⟨k1,k2⟩
  ·have:=h.eq_zero.1 (k.eq_zero.2 k1);omega
  ·have e1:m*pw e=m'*pw e':=by
    have:=h.val.symm.trans k.val
    cases ng
    ·simpa [sg] using this
    ·simpa [sg,Int.neg_mul] using this
   have a1:=Ct h2 k2 e1
   have a2:=Ct k2 h2 e1.symm
   have l1:=h.low
   have l2:=k.low
   obtain rfl:e=e':=by omega
   exact⟨rfl,Int.eq_of_mul_eq_mul_right (Int.ne_of_gt (bR _)) e1,rfl⟩
theorem Dy.ok {V:Int} {ng:Bool} {m e:Int} (h:Dy V ng m e):eR V↔m<P 2000∧-1048576<=e∧e<=1048576:=by
 constructor
 ·rintro⟨ng',m',e',k,h3⟩
  obtain⟨_,rfl,rfl⟩:=h.unique k
  exact h3
 ·exact fun h3=>⟨_,_,_,h,h3⟩
theorem Dy.neg {V:Int} {ng:Bool} {m e:Int} (h:Dy V ng m e) (h0:0<m):Dy (-V) (!ng) m e :=
 ⟨by rw[zu,Int.neg_mul,<- h.val],h.low,by rcases h.form with⟨h1,_⟩|h1;(· omega);(· exact .inr h1)⟩
theorem zv {V:Int} {ng:Bool} {m e:Int} (h:Dy V ng m e):m*pw e=V.natAbs:=by
 have:=h.val
 have h0:=h.nonneg
 have:0<=m*pw e:=Int.mul_nonneg h0 (Int.le_of_lt (bR _))
 cases ng<;>simp[sg,Int.neg_mul] at *<;>omega
theorem jf {M:Int} {l:Nat} (h:fs M l) (h0:0<M):0<M/2^l∧(M/2^l) % 2=1∧M/2^l*2^l=M:=by
 obtain⟨k,hk⟩:=h
 have hp:=aR l
 have e:M/2^l=2*k+1:=by rw[hk];exact Int.mul_ediv_cancel _ (by omega)
 rw[e]
 refine⟨?_,by omega,hk.symm⟩
 by_cases h1:0<2*k+1
 ·exact h1
 ·have:(2*k+1)*2^l<=0:=Int.mul_nonpos_of_nonpos_of_nonneg (by omega) (by omega)
  omega
theorem Dy.of {M e:Int} {l:Nat} (ng:Bool) (h:fs M l) (h0:0<M) (he:-4194304<=e):Dy (sg ng M*pw e) ng (M/2^l) (e+l):=by
 obtain⟨a,b,c⟩:=jf h h0
 refine⟨?_,by omega,.inr ⟨a,b⟩⟩
 rw[gW he,mL,mL]
 rw[show(if ng=true then (-1:Int) else 1)*(M/2^l)*(pw e*2^l)=(if ng=true then (-1:Int) else 1)*(M/2^l*2^l)*pw e by grind,c]
theorem Dy.at {V:Int} {ng:Bool} {m e low:Int} (h:Dy V ng m e) (hl:-4194304<=low) (h1:low<=e):V=sg ng (m*2^(e-low).toNat)*pw low:=by
 rw[h.val,og hl h1,mL,mL];grind
theorem mM {x y:Int} (h:x*2^4194304=y*2^4194304):x=y:=Int.eq_of_mul_eq_mul_right (Int.ne_of_gt (aR _)) h
end Go.Proofs.YtjjihmnbdeeedaaGreatDoor.M
