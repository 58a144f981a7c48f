/- Parts of the proof. -/
import Derived.Test.YtcklaogdjpbagaaGreatDoorSp2
import Derived.Test.YtcklaogdjpbagaaGreatDoorSp1
import Derived.Lib.BitFns
import Derived.Lib.ItoaNum
import Derived.Laws.Bits64b
import Derived.Deep.Cut
import Derived.BigRegion
import Derived.Lib.SliceRun
set_option maxRecDepth 100000
set_option maxHeartbeats 8000000
set_option linter.unusedVariables false
set_option linter.unusedSimpArgs false
namespace Go.Proofs.YtcklaogdjpbagaaGreatDoor
open Go Go.RowKit Go.Proofs.YtcklaogdjpbagaaGreatDoor.M
instance (d:Nat->Int) (n:Nat):Decidable (bv d n):=by unfold bv;infer_instance
instance (d:Nat->Int) (n:Nat):Decidable (lz d n):=by unfold lz;infer_instance
instance (d:Nat->Int) (n:Nat):Decidable (bZ d n):=by unfold bZ;infer_instance
def pk (d:Nat->Int) (n:Nat):Bool:=decide (n<=2000∧bZ d n)
theorem oI {d:Nat->Int} {n:Nat} (h:n<=2000) (k:bZ d n):pk d n=true:=by simp[pk,h,k]
theorem nJ {d:Nat->Int} {n:Nat} (h:¬ (n<=2000∧bZ d n)):pk d n=false:=by simp only[pk,h,decide_false]
theorem bD {a b:Bool} (h:a=b):Ending.returned (.bool a)=.returned (.bool b):=by rw[h]
theorem cx {k:IntKind} {a b:Int} (h:a=b):Ending.returned (.int k a)=.returned (.int k b):=by rw[h]
theorem qW {d:Nat->Int} {k:Nat} (h:bv d k) (h0:0<=d k) (h1:d k<1073741824):bv d (k+1):=fun i hi=>by
 by_cases e:i=k
 ·rw[e];exact⟨h0,h1⟩
 ·exact h i (by omega)
theorem wa (ao:Option Addr) (n cap:Nat) (d:Nat->Int) (w:World) (h:aM w ao n cap d) :
  Calls Tryz.prog 119 #[.slice ao n cap] w fun e w'=>e=.returned (.bool (pk d n))∧w'=w:=by
 have hl:=h.le
 have hm:=h.max
 by_cases h2k:n<=2000
 ·go_enter Tryz.func119,Tryz.ntmps119
  go_wp2
  go_loop [9] (fun i=>∃ k:Nat,k<=n∧i=.int .i64 k∧bv d k) (fun i=>n-(intOf i).toNat)
  case atStart=>exact⟨0,Nat.zero_le _,rfl,fun i hi=>absurd hi (by omega)⟩
  case round=>
   obtain⟨k,hk,rfl,hd⟩:=hrel
   by_cases hlt:k<n
   ·obtain⟨b,off,rfl,hb,hc⟩:=h.spot (by omega)
    have c:=hc k hlt
    by_cases h0:d k<0
    ·go_wp2
     go_ret
     exact⟨bD (nJ (fun ⟨_,q⟩=>by have:=(q.1 k hlt).1;omega)).symm,rfl⟩
    ·by_cases h1:1073741823<d k
     ·go_wp2
      go_ret
      exact⟨bD (nJ (fun ⟨_,q⟩=>by have:=(q.1 k hlt).2;omega)).symm,rfl⟩
     ·go_wp2
      go_round
      case rel=>exact⟨k+1,by omega,by go_num,qW hd (by omega) (by omega)⟩
      case measure=>simp[intOf];omega
   ·obtain rfl:k=n:=by omega
    by_cases h0:k=0
    ·subst h0
     go_wp2
     go_ret
     exact⟨bD (oI h2k ⟨hd,.inl rfl⟩).symm,rfl⟩
    ·obtain⟨b,off,rfl,hb,hc⟩:=h.spot (by omega)
     have c:=hc (k-1) (by omega)
     by_cases h1:d (k-1)=0
     ·go_wp2
      go_ret
      exact⟨bD ((show _=false by simp;omega).trans (nJ (fun ⟨_,q⟩=>by rcases q.2 with e|e<;>omega)).symm),rfl⟩
     ·go_wp2
      go_ret
      exact⟨bD ((show _=true by simp;omega).trans (oI h2k ⟨hd,.inr h1⟩).symm),rfl⟩
 ·go_enter Tryz.func119,Tryz.ntmps119
  go_wp2
  go_ret
  exact⟨bD (nJ (fun ⟨q,_⟩=>h2k q)).symm,rfl⟩
theorem jt (ao:Option Addr) (n cap:Nat) (d:Nat->Int) (w:World) (h:aM w ao n cap d) :
  Calls Tryz.prog 140 #[.slice ao n cap] w fun e w'=>∃ t:Nat,t<=n∧lz d t∧(∀ i,t<=i->i<n->d i=0)∧e=.returned (jZ ao t cap)∧w'=w:=by
 have hl:=h.le
 have hm:=h.max
 go_enter Tryz.func140,Tryz.ntmps140
 go_wp2
 go_loop [3] (fun i=>∃ k:Nat,k<=n∧i=.int .i64 k∧∀ i,k<=i->i<n->d i=0) (fun i=>(intOf i).toNat)
 case atStart=>exact⟨n,Nat.le_refl _,rfl,fun i a b=>by omega⟩
 case round=>
  obtain⟨k,hk,rfl,hz⟩:=hrel
  have HZ:Hid (∀ i,k<=i->i<n->d i=0):=hz
  clear hz
  by_cases h0:k=0
  ·subst h0
   go_wp2
   go_ret
   exact⟨0,by omega,.inl rfl,HZ.out,rfl,rfl⟩
  ·obtain⟨b,off,rfl,hb,hc⟩:=h.spot (by omega)
   have c:=hc (k-1) (by omega)
   by_cases h1:d (k-1)=0
   ·go_wp2
    go_round
    case rel=>exact⟨k-1,by omega,by go_num,fun i a b=>by by_cases e:i=k-1;(· rw[e];exact h1);(· exact HZ.out i (by omega) b)⟩
    case measure=>simp[intOf];omega
   ·go_wp2
    go_ret
    exact⟨k,hk,.inr h1,HZ.out,by unfold jZ;rw[if_neg h0];simp,rfl⟩
end Go.Proofs.YtcklaogdjpbagaaGreatDoor
namespace Go.Proofs.YtcklaogdjpbagaaGreatDoor.M
open Go
def aH (V:Int):Nat:=if V<=0 then 0 else Nat.log2 V.toNat+1
theorem pl:aH 0=0:=by decide
theorem ic (V:Int):V<2^aH V:=by
 unfold aH
 split
 ·show V<1;omega
 ·have h:=@Nat.lt_log2_self V.toNat
  have e:((V.toNat:Nat):Int)<((2^(Nat.log2 V.toNat+1):Nat):Int):=Int.ofNat_lt.2 h
  rw[Int.toNat_of_nonneg (by omega)] at e
  simpa using e
theorem ie {V:Int} (h:0<V):1<=aH V∧2^(aH V-1)<=V:=by
 unfold aH
 rw[if_neg (by omega)]
 refine⟨by omega,?_⟩
 have h1:=Nat.log2_self_le (n:=V.toNat) (by omega)
 have e:((2^Nat.log2 V.toNat:Nat):Int)<=((V.toNat:Nat):Int):=Int.ofNat_le.2 h1
 rw[Int.toNat_of_nonneg (by omega)] at e
 simpa using e
theorem eG {j k:Nat} (h:(2:Int)^j<2^k):j<k:=by
 rcases Nat.lt_or_ge j k with h1|h1
 ·exact h1
 ·have:=di h1;omega
theorem dc {V:Int} {k:Nat} (h:V<2^k):aH V<=k:=by
 by_cases h0:0<V
 ·obtain⟨h1,h2⟩:=ie h0
  have:=eG (show(2:Int)^(aH V-1)<2^k by omega)
  omega
 ·unfold aH;rw[if_pos (by omega)];omega
theorem oJ {V:Int} {k:Nat} (h:2^k<=V):k<aH V:=by
 have h1:=ic V
 exact eG (by omega)
theorem ki {V:Int} {k:Nat} (h1:2^k<=V) (h2:V<2^(k+1)):aH V=k+1:=by
 have a:=oJ h1
 have b:=dc h2
 omega
theorem wb {x:Int} (h0:0<=x) (h1:x<18446744073709551616):(Lib.bitLen x.toNat:Int)=aH x:=by
 by_cases hx:x=0
 ·subst hx;decide
 ·obtain⟨a,b,c⟩:=Lib.bitLenAux_bounds 64 x.toNat (by omega) (by omega)
  have e:aH x=Lib.bitLen x.toNat:=by
   have hb:Lib.bitLen x.toNat=Lib.bitLenAux 64 x.toNat:=rfl
   rw[<- hb] at a b c
   obtain⟨k,hk⟩:∃ k,Lib.bitLen x.toNat=k+1:=⟨Lib.bitLen x.toNat-1,by omega⟩
   rw[hk] at b c ⊢
   have b':((2^k:Nat):Int)<=((x.toNat:Nat):Int):=Int.ofNat_le.2 (by simpa using b)
   have c':((x.toNat:Nat):Int)<((2^(k+1):Nat):Int):=Int.ofNat_lt.2 c
   rw[Int.toNat_of_nonneg h0] at b' c'
   exact ki (by simpa using b') (by simpa using c')
  rw[e]
theorem mQ {d:Nat->Int} {n:Nat} (h:bZ d (n+1)):aH (val d (n+1))=30*n+aH (d n):=by
 have hd:=h.1 n (by omega)
 have ht:d n≠0:=by rcases h.2 with e|e;(· omega);(· simpa using e)
 have hp:0<d n:=by omega
 obtain⟨a,b⟩:=ie hp
 have c:=ic (d n)
 have v0:=bl (h.1.le (Nat.le_succ n))
 have v1:=ck (h.1.le (Nat.le_succ n))
 have pp:=bU n
 obtain⟨k,hk⟩:∃ k,aH (d n)=k+1:=⟨aH (d n)-1,by omega⟩
 rw[hk] at b c ⊢
 rw[show 30*n+(k+1)=(30*n+k)+1 by omega]
 have e1:(2:Int)^(30*n+k)=2^k*P n:=by rw[Int.pow_add,dC,Int.mul_comm]
 have e2:(2:Int)^(30*n+k+1)=2^(k+1)*P n:=by rw[show 30*n+k+1=30*n+(k+1) by omega,Int.pow_add,dC,Int.mul_comm]
 have f1:(2:Int)^k*P n<=d n*P n:=Int.mul_le_mul_of_nonneg_right (by simpa using b) (by omega)
 have f2:(d n+1)*P n<=2^(k+1)*P n:=Int.mul_le_mul_of_nonneg_right (by omega) (by omega)
 rw[Int.add_mul] at f2
 apply ki
 ·rw[e1,aU];omega
 ·rw[e2,aU];omega
end Go.Proofs.YtcklaogdjpbagaaGreatDoor.M
namespace Go.Proofs.YtcklaogdjpbagaaGreatDoor
open Go Go.RowKit Go.Proofs.YtcklaogdjpbagaaGreatDoor.M
theorem fh (x q:Int) (s:Nat) (h:q.toNat<Lib.len8tab.size) (hq0:0<=q) (hq:q<=255) (hs:s<=56) (hb:Lib.bitLen x.toNat=s+Lib.bitLen q.toNat) :
  wrap64 ((s:Int)+wrap64 ((Lib.len8tab[q.toNat]'h).toNat:Int))=(Lib.bitLen x.toNat:Int):=by
 have e:=Lib.len8_of q hq0 hq
 have l:=Lib.bitLen_le8' q hq0 hq
 unfold Lib.len8 at e
 rw[getElem?_pos Lib.len8tab q.toNat h] at e
 simp only[Option.getD_some] at e
 rw[e,hb]
 unfold wrap64
 omega
theorem uM (x:Int) (h:x.toNat<Lib.len8tab.size) (hq0:0<=x) (hq:x<=255) :
  wrap64 (wrap64 ((Lib.len8tab[x.toNat]'h).toNat:Int))=(Lib.bitLen x.toNat:Int):=by
 have:=fh x x 0 h hq0 hq (by omega) (by omega)
 simpa using this
theorem kK (x q:Int) (s:Nat) (h0:0<=x) (h1:x<=18446744073709551615) (hx:((2^s:Nat):Int)<=x) (e:q=x/((2^s:Nat):Int)):Lib.bitLen x.toNat=s+Lib.bitLen q.toNat:=by
 rw[Lib.bitLen_shift s x.toNat (by omega) (by omega),e]
 congr 2
 obtain⟨n,rfl⟩:=Int.eq_ofNat_of_zero_le h0
 rw[<- Int.natCast_ediv,Int.toNat_natCast,Int.toNat_natCast]
theorem Dp (x:Int) (w:World) (h0:0<=x) (h1:x<=18446744073709551615) :
  Calls Tryz.prog 167 #[.int .u64 x] w fun e w'=>e=.returned (.int .i64 (Lib.bitLen x.toNat))∧w'=w:=by
 have hs:Lib.len8tab.size=256:=by decide +kernel
 go_enter Tryz.func167,Tryz.ntmps167
 go_wp2
 all_goals go_ret
 ·exact⟨cx (fh x _ 56 _ (by omega) (by omega) (by omega) (kK x _ 56 h0 h1 (by omega) (by omega))),rfl⟩
 ·exact⟨cx (fh x _ 48 _ (by omega) (by omega) (by omega) (kK x _ 48 h0 h1 (by omega) (by omega))),rfl⟩
 ·exact⟨cx (fh x _ 40 _ (by omega) (by omega) (by omega) (kK x _ 40 h0 h1 (by omega) (by omega))),rfl⟩
 ·exact⟨cx (fh x _ 32 _ (by omega) (by omega) (by omega) (kK x _ 32 h0 h1 (by omega) (by omega))),rfl⟩
 ·exact⟨cx (fh x _ 24 _ (by omega) (by omega) (by omega) (kK x _ 24 h0 h1 (by omega) (by omega))),rfl⟩
 ·exact⟨cx (fh x _ 16 _ (by omega) (by omega) (by omega) (kK x _ 16 h0 h1 (by omega) (by omega))),rfl⟩
 ·exact⟨cx (fh x _ 8 _ (by omega) (by omega) (by omega) (kK x _ 8 h0 h1 (by omega) (by omega))),rfl⟩
 ·exact⟨cx (uM x _ (by omega) (by omega)),rfl⟩
theorem AD (x:Int) (w:World) (h0:0<=x) (h1:x<=18446744073709551615) :
  Calls Tryz.prog 164 #[.int .u64 x] w fun e w'=>e=.returned (.int .i64 (aH x))∧w'=w:=by
 go_enter Tryz.func164,Tryz.ntmps164
 go_wp2_with (go_at_call 167;refine(Dp _ _ (by omega) (by omega)).mono ?_;rintro e w' ⟨rfl,rfl⟩)
 go_ret
 exact⟨cx (wb h0 (by omega)),rfl⟩
theorem wc (x:Int) (w:World) (h0:0<=x) (h1:x<9223372036854775808) :
  Calls Tryz.prog 158 #[.int .i64 x] w fun e w'=>e=.returned (.int .i64 (aH x))∧w'=w:=by
 go_enter Tryz.func158,Tryz.ntmps158
 go_wp2_with (go_at_call 164;refine(AD _ _ (by omega) (by omega)).mono ?_;rintro e w' ⟨rfl,rfl⟩)
 go_ret
 exact⟨rfl,rfl⟩
theorem iO (ao:Option Addr) (n cap:Nat) (d:Nat->Int) (w:World) (h:aM w ao n cap d) (hd:bZ d n) (hn:n<=1000000) :
  Calls Tryz.prog 142 #[.slice ao n cap] w fun e w'=>e=.returned (.int .i64 (aH (val d n)))∧w'=w:=by
 have hl:=h.le
 have hm:=h.max
 by_cases h0:n=0
 ·subst h0
  go_enter Tryz.func142,Tryz.ntmps142
  go_wp2
  go_ret
  exact⟨rfl,rfl⟩
 ·obtain⟨k,rfl⟩:∃ k,n=k+1:=⟨n-1,by omega⟩
  obtain⟨b,off,rfl,hb,hc⟩:=h.spot (by omega)
  have c:=hc k (by omega)
  have dk:=hd.1 k (by omega)
  have hbl:aH (d k)<=30:=dc (by show d k<1073741824;exact dk.2)
  go_enter Tryz.func142,Tryz.ntmps142
  go_wp2_with (go_at_call 158;refine(wc _ _ (by omega) (by omega)).mono ?_;rintro e w' ⟨rfl,rfl⟩)
  go_ret
  exact⟨cx (by rw[mQ hd];omega),rfl⟩
end Go.Proofs.YtcklaogdjpbagaaGreatDoor
namespace Go.Proofs.YtcklaogdjpbagaaGreatDoor.M
open Go
theorem cT {a b c:Int} (h:a<=b) (hc:0<=c):a*c<=b*c:=Int.mul_le_mul_of_nonneg_right h hc
theorem fN {a b c:Int} (h:a<=b) (hc:0<=c):c*a<=c*b:=Int.mul_le_mul_of_nonneg_left h hc
theorem uN {U V p v1 v2 vl head u2 ul times left:Int} (hV:V=(v1*1073741824+v2)*p+vl) (hvl:vl<p) (hv2:v2<1073741824) (hU:U=(head*1073741824+u2)*p+ul) (hul:0<=ul) (hu2:0<=u2)
  (hp:0<p) (hh:head=times*v1+left) (ht:0<=times) (ht2:times<1073741824) (h:1073741824<=left):times*V<=U:=by
 have h0:v2*p<=1073741823*p:=cT (by omega) (by omega)
 have e0:(v1+1)*(1073741824*p)=v1*1073741824*p+1073741823*p+p:=by grind
 have e1:V=v1*1073741824*p+v2*p+vl:=by rw[hV];grind
 have h1:times*V<=times*((v1+1)*(1073741824*p)):=fN (by omega) ht
 have h2:(times*v1+times)*(1073741824*p)<=head*(1073741824*p):=cT (by omega) (by omega)
 have h3:0<=u2*p:=Int.mul_nonneg hu2 (by omega)
 have e2:U=head*(1073741824*p)+u2*p+ul:=by rw[hU];grind
 have e3:times*((v1+1)*(1073741824*p))=(times*v1+times)*(1073741824*p):=by grind
 omega
theorem tk {U V p v1 v2 vl head u2 ul times left:Int} (hV:V=(v1*1073741824+v2)*p+vl) (hvl0:0<=vl) (hvl:vl<p) (hv1:1<=v1) (hv2:0<=v2) (hU:U=(head*1073741824+u2)*p+ul) (hul:0<=ul)
  (hp:0<p) (hh:head=times*v1+left) (ht:0<=times) (ht2:times<1073741824) (h:times*v2<=left*1073741824+u2):(times-1)*V<=U:=by
 have h1:times*vl<=times*p:=fN (by omega) ht
 have h2:times*v2*p<=(left*1073741824+u2)*p:=cT h (by omega)
 have h3:times*p<=1073741824*p:=cT (by omega) (by omega)
 have h4:1*(1073741824*p)<=v1*(1073741824*p):=cT hv1 (by omega)
 have h5:0<=v2*p:=Int.mul_nonneg hv2 (by omega)
 have e0:V=v1*(1073741824*p)+v2*p+vl:=by rw[hV];grind
 have e1:(times-1)*V=times*v1*1073741824*p+times*v2*p+times*vl-V:=by rw[hV];grind
 have e2:U=times*v1*1073741824*p+(left*1073741824+u2)*p+ul:=by rw[hU,hh];grind
 omega
structure kL (x0 y0 x y fA fB nA nB sg:Int):Prop where
 sgn:sg=1∨sg=-1
 ex:x=sg*(fA*x0-fB*y0)
 ey:y=sg*(nB*y0-nA*x0)
 det:fA*nB-fB*nA=sg
 fA0:0<=fA
 fB0:0<=fB
 nA0:0<=nA
 nB1:1<=nB
theorem kL.start (x0 y0:Int):kL x0 y0 x0 y0 1 0 0 1 1:=⟨.inl rfl,by omega,by omega,by omega,by omega,by omega,by omega,by omega⟩
theorem kL.step {x0 y0 x y fA fB nA nB sg:Int} (h:kL x0 y0 x y fA fB nA nB sg) {q:Int} (hq:1<=q) :
  kL x0 y0 y (x-q*y) nA nB (fA+q*nA) (fB+q*nB) (-sg):=by
 have h1:=Int.mul_nonneg (show 0<=q by omega) h.nA0
 have h2:1*nB<=q*nB:=cT hq (by have:=h.nB1;omega)
 have hf:=h.fA0
 have hg:=h.fB0
 have hn:=h.nB1
 refine⟨by rcases h.sgn with e|e<;>omega,?_,?_,?_,h.nA0,by omega,by omega,by omega⟩
 ·rw[h.ey];grind
 ·rw[h.ey,h.ex];grind
 ·have:=h.det;grind
theorem kL.whole {x0 y0 x y fA fB nA nB sg S al be:Int} (h:kL x0 y0 x y fA fB nA nB sg) (hS:0<S) (ha0:0<=al) (ha:al<S) (hb0:0<=be) (hb:be<S)
  (hab:nA<=nB) (hfb:fA<=fB) (hy:nB<=y) (hx:nB+fB<=x-y) :
  0<sg*(nB*(y0*S+be)-nA*(x0*S+al))∧sg*(nB*(y0*S+be)-nA*(x0*S+al))<sg*(fA*(x0*S+al)-fB*(y0*S+be)):=by
 have hn:=h.nB1
 have hf:=h.fB0
 have k1:nB*be<=nB*(S-1):=fN (by omega) (by omega)
 have k2:nA*al<=nA*(S-1):=fN (by omega) h.nA0
 have k3:nA*(S-1)<=nB*(S-1):=cT hab (by omega)
 have k4:0<=nB*be:=Int.mul_nonneg (by omega) hb0
 have k5:0<=nA*al:=Int.mul_nonneg h.nA0 ha0
 have k6:nB*S<=y*S:=cT hy (by omega)
 have k7:(nB+fB)*S<=(x-y)*S:=cT hx (by omega)
 have m1:fB*be<=fB*(S-1):=fN (by omega) hf
 have m2:fA*al<=fA*(S-1):=fN (by omega) h.fA0
 have m3:fA*(S-1)<=fB*(S-1):=cT hfb (by omega)
 have m4:0<=fB*be:=Int.mul_nonneg hf hb0
 have m5:0<=fA*al:=Int.mul_nonneg h.fA0 ha0
 have ex:=h.ex
 have ey:=h.ey
 have e1:nB*(y0*S+be)-nA*(x0*S+al)=(nB*y0-nA*x0)*S+nB*be-nA*al:=by grind
 have e2:fA*(x0*S+al)-fB*(y0*S+be)=(fA*x0-fB*y0)*S+fA*al-fB*be:=by grind
 have e3:nB*(S-1)=nB*S-nB:=by grind
 have e4:fB*(S-1)=fB*S-fB:=by grind
 have e5:(nB+fB)*S=nB*S+fB*S:=by grind
 have e6:(x-y)*S=x*S-y*S:=by grind
 rw[e1,e2]
 rcases h.sgn with rfl|rfl
 ·have e7:(nB*y0-nA*x0)*S=y*S:=by rw[ey];grind
  have e8:(fA*x0-fB*y0)*S=x*S:=by rw[ex];grind
  constructor<;>omega
 ·have e7:(nB*y0-nA*x0)*S=- (y*S):=by rw[ey];grind
  have e8:(fA*x0-fB*y0)*S=- (x*S):=by rw[ex];grind
  constructor<;>omega
end Go.Proofs.YtcklaogdjpbagaaGreatDoor.M
namespace Go.Proofs.YtcklaogdjpbagaaGreatDoor
open Go Go.RowKit Go.Proofs.YtcklaogdjpbagaaGreatDoor.M
structure Wr (g:Nat) (w w':World):Prop where
 os:w'.os=w.os
 tape:w'.tape=w.tape
 output:w'.output=w.output
 size:w.heap.size<=w'.heap.size
 block:∀ k,k<w.heap.size->k≠g->w'.heap[k]?=w.heap[k]?
theorem Wr.refl (g:Nat) (w:World):Wr g w w:=⟨rfl,rfl,rfl,Nat.le_refl _,fun _ _ _=>rfl⟩
theorem Wr.trans {g:Nat} {a b c:World} (h:Wr g a b) (k:Wr g b c):Wr g a c :=
 ⟨k.os.trans h.os,k.tape.trans h.tape,k.output.trans h.output,Nat.le_trans h.size k.size,fun i hi hg=>(k.block i (Nat.lt_of_lt_of_le hi h.size) hg).trans (h.block i hi hg)⟩
theorem Wr.setCell {g:Nat} {a w:World} (h:Wr g a w) (o:Nat) (u:Value):Wr g a (w.setCell ⟨g,o,none⟩ u) :=
 ⟨h.os,h.tape,h.output,by simp[World.setCell];exact h.size,fun k hk hg=>(Below.heap_setCell _ _ _ _ hg).trans (h.block k hk hg)⟩
theorem Wr.drew {g:Nat} {a w:World} (h:Wr g a w):Wr g a w.drew:=⟨h.os,h.tape,h.output,h.size,h.block⟩
theorem Wr.drewN {g:Nat} {a w:World} (h:Wr g a w) (n:Nat):Wr g a (w.drewN n):=⟨h.os,h.tape,h.output,h.size,h.block⟩
theorem Below.wr {B g:Nat} {a w:World} (h:Below B a w) (hB:w.heap.size<=B):Wr g w w->Below B a w:=fun _=>h
theorem Dq {g:Nat} {a w:World} (h:Below a.heap.size a w):Wr g a w:=⟨h.os,h.tape,h.output,h.size,fun k hk _=>h.block k hk⟩
theorem Wr.below {B g:Nat} {a w w':World} (h:Wr g w w') (hb:Below B a w) (hB:B<=w.heap.size) (hg:B<=g):Below B a w' :=
 hb.trans ⟨h.os,h.tape,h.output,h.size,fun k hk=>h.block k (by omega) (by omega)⟩
theorem Wr.cell {g:Nat} {w w':World} (h:Wr g w w') {p:Addr} (hp:p.block<w.heap.size) (hg:p.block≠g):w'.cell? p=w.cell? p:=World.cell?_of_block (w:=w) (h.block p.block hp hg)
structure ju (g:Nat) (w:World) (ao:Option Addr) (n cap:Nat) (d:Nat->Int):Prop where
 le:n<=cap
 max:cap<=9223372036854775807
 spot:0<n->∃ b off,ao=some ⟨b,off,none⟩∧b<w.heap.size∧b≠g∧∀ i,i<n->w.cell? ⟨b,off+i,none⟩=some (.int .i64 (d i))
theorem ju.keeps {g:Nat} {w w':World} {ao:Option Addr} {n cap:Nat} {d:Nat->Int} (h:ju g w ao n cap d) (hw:Wr g w w'):ju g w' ao n cap d :=
  ⟨h.le,h.max,fun hn=>by
    obtain⟨b,off,rfl,hlt,hg,hc⟩:=h.spot hn
    exact ⟨b,off,rfl,Nat.lt_of_lt_of_le hlt hw.size,hg,fun i hi=>(hw.cell (p:=⟨b,off+i,none⟩) hlt hg).trans (hc i hi)⟩⟩
theorem ju.of {g:Nat} {w:World} {ao:Option Addr} {n cap:Nat} {d:Nat->Int} (h:aM w ao n cap d) (hg:w.heap.size<=g):ju g w ao n cap d :=
  ⟨h.le,h.max,fun hn=>by
    obtain⟨b,off,rfl,hlt,hc⟩:=h.spot hn
    exact ⟨b,off,rfl,hlt,by omega,hc⟩⟩
theorem bF.store {B:Nat} {w:World} {g n cap:Nat} {d:Nat->Int} (h:bF B w (.slice (some ⟨g,0,none⟩) n cap) n d) {i:Nat} (hi:i<n) (x:Int) :
  bF B (w.setCell ⟨g,i,none⟩ (.int .i64 x)) (.slice (some ⟨g,0,none⟩) n cap) n (cl d i x):=by
 have h1:=(World.ownsRow.stored h i (.int .i64 x)).1
 unfold bF
 have e:eT (cl d i x) n=(eT d n).set i (.int .i64 x):=by
  refine(ib (by simp[cF]) fun j hj=>?_).symm
  by_cases hji:j=i
  ·subst hji;rw[bG,List.getElem?_set_self (by rw[cF];exact hj)]
  ·rw[bm d x hji,List.getElem?_set_ne (by omega),fo d hj]
 rw[e];exact h1
theorem bF.spot {B:Nat} {w:World} {ao:Option Addr} {n cap:Nat} {d:Nat->Int} (h:bF B w (.slice ao n cap) n d) (hn:0<n):∃ g,ao=some ⟨g,0,none⟩∧B<=g∧g<w.heap.size:=by
 rcases h.2 with⟨_,h0⟩|⟨g,cap',cur,hv,hB,hg,_⟩
 ·omega
 ·simp only[Value.slice.injEq] at hv
  exact⟨g,hv.1,hB,(aGe hg).1⟩
theorem bF.cell {B:Nat} {w:World} {g n cap:Nat} {d:Nat->Int} (h:bF B w (.slice (some ⟨g,0,none⟩) n cap) n d) {i:Nat} (hi:i<n):w.cell? ⟨g,i,none⟩=some (.int .i64 (d i)):=by
 rw[World.ownsRow.cellAt h i (by omega),fo d hi]
theorem bF.frozen {B:Nat} {w:World} {g n cap:Nat} {d:Nat->Int} (h:bF B w (.slice (some ⟨g,0,none⟩) n cap) n d) (i:Nat):w.frozen? ⟨g,i,none⟩=false:=World.ownsRow.frozenAt h i
theorem pt (r:Nat->Int) (q k:Nat) (x:Int):(fun i=>cl r (q+k) x (q+i))=cl (fun i=>r (q+i)) k x:=by
 funext i
 unfold cl
 by_cases h:i=k
 ·simp[h]
 ·simp[h]
theorem oK {x:Int} {p:Nat} (hx:0<=x∧x<1073741824) (hp:p<=30):0<=x*2^p∧x*2^p<=1073741823*2^p∧(2:Int)^p<=1073741824:=by
 have h:=aJ p
 exact⟨Int.mul_nonneg hx.1 (by omega),Int.mul_le_mul_of_nonneg_right (by omega) (by omega),di hp⟩
structure kM (q p N n:Nat) (a r0:Nat->Int) (s:Int) (k:Nat) (c:Int) (r:Nat->Int):Prop where
 rest:∀ i,q+k<=i->r i=r0 i
 near:∀ i,0<=s*(r i-r0 i)∧s*(r i-r0 i)<1073741824
 sum:∃ T,val r N=val r0 N+s*(P q*T)∧T+c*P k=2^p*val a k
theorem kM.put {q p N n:Nat} {a r0:Nat->Int} {s:Int} {k:Nat} {c:Int} {r:Nat->Int} (h:kM q p N n a r0 s k c r) (hs:s*s=1) (hN:q+k<N) {m c':Int} (hm:0<=m∧m<1073741824) (e:m+c'*1073741824=c+a k*2^p) :
  kM q p N n a r0 s (k+1) c' (cl r (q+k) (r (q+k)+s*m)):=by
 refine⟨fun i hi=>by rw[bm r _ (by omega)];exact h.rest i (by omega),fun i=>?_,?_⟩
 ·by_cases hi:i=q+k
  ·subst hi
   rw[bG,h.rest _ (Nat.le_refl _),show s*(r0 (q+k)+s*m-r0 (q+k))=s*s*m by grind,hs]
   omega
  ·rw[bm r _ hi];exact h.near i
 ·obtain⟨T,e1,e2⟩:=h.sum
  refine⟨T+m*P k,?_,?_⟩
  ·rw[oG r _ hN,e1,kA];grind
  ·rw[aU,eR]
   have:c'*(P k*1073741824)=(c+a k*2^p-m)*P k:=by rw[show c+a k*2^p-m=c'*1073741824 by omega];grind
   rw[this,show T+m*P k+(c+a k*2^p-m)*P k=(T+c*P k)+a k*2^p*P k by grind,e2];grind
structure mu (N:Nat) (r0:Nat->Int) (s V:Int) (r:Nat->Int):Prop where
 near:∀ i,0<=s*(r i-r0 i)∧s*(r i-r0 i)<1073741824
 sum:val r N=val r0 N+s*V
theorem kM.done {q p N n:Nat} {a r0:Nat->Int} {s:Int} {c:Int} {r:Nat->Int} (h:kM q p N n a r0 s n c r) (hs:s*s=1) (hN:q+n<N) (hc:0<=c∧c<1073741824) :
  mu N r0 s (P q*(2^p*val a n)) (cl r (q+n) (r (q+n)+s*c)):=by
 refine⟨fun i=>?_,?_⟩
 ·by_cases hi:i=q+n
  ·subst hi
   rw[bG,h.rest _ (Nat.le_refl _),show s*(r0 (q+n)+s*c-r0 (q+n))=s*s*c by grind,hs]
   omega
  ·rw[bm r _ hi];exact h.near i
 ·obtain⟨T,e1,e2⟩:=h.sum
  rw[oG r _ hN,e1,kA,<- e2];grind
theorem we {s x y C:Int} (hs:s=1∨s=-1) (h:0<=s*(x-y)∧s*(x-y)<1073741824) (hy:-C<=y∧y<=C):-(C+1073741823)<=x∧x<=C+1073741823:=by
 rcases hs with rfl|rfl<;>omega
theorem tU {s m:Int} (hs:s=1∨s=-1) (hm:0<=m∧m<1073741824):-1073741823<=s*m∧s*m<=1073741823:=by
 rcases hs with rfl|rfl<;>omega
theorem BL {s:Int} (hs:s=1∨s=-1):s*s=1:=by rcases hs with rfl|rfl<;>rfl
theorem AE (g N:Nat) (r0:Nat->Int) (ao:Option Addr) (n ca q p:Nat) (a:Nat->Int) (w:World) (hB0:bO w g N r0) (ha:ju g w ao n ca a) (da:bv a n) (hn:n<=100000) (hqN:q+n+1<=N) (hNm:N<=1000000) (hp:p<30) (k:Int) (hk:k=30*q+p)
  (s:Int) (hs:s=1∨s=-1) (C:Int) (hC0:∀ i,i<N->-C<=r0 i∧r0 i<=C) (hC1:C<=4611686018427387904) :
  Calls Tryz.prog 125 #[.slice (some ⟨g,0,none⟩) N N,.slice ao n ca,.int .i64 k,.int .i64 s] w fun e w'=>e=.returned (.tuple #[])∧∃ r,bO w' g N r∧Wr g w w'∧mu N r0 s (P q*(2^p*val a n)) r:=by
 have hla:=ha.le
 have hma:=ha.max
 have e1:k/30=q:=by omega
 have e2:k % 30=p:=by omega
 have hk0:0<=k:=by omega
 have hk1:k<=40000000:=by omega
 clear hk
 have hu:=aJ p
 have hu2:(2:Int)^p<=2^29:=di (by omega)
 have HC:Hid (∀ i,i<N->-C<=r0 i∧r0 i<=C):=hC0
 have hss:=BL hs
 have HS:Hid (s=1∨s=-1):=hs
 clear hC0 hs
 go_enter Tryz.func125,Tryz.ntmps125
 go_wp2
 go_loopw [10,18] (fun c i wr=>∃ (k:Nat) (c':Int) (r:Nat->Int),k<=n∧i=.int .i64 k∧c=.int .i64 c'∧0<=c'∧c'<2^p∧bO wr g N r∧Hid (kM q p N n a r0 s k c' r)∧Wr g w wr) (fun _ i _=>n-(intOf i).toNat)
 case atStart=>exact⟨0,0,r0,Nat.zero_le _,rfl,rfl,by omega,hu,hB0,⟨fun _ _=>rfl,fun i=>by rw[Int.sub_self,Int.mul_zero];omega,0,by rw[Int.mul_zero,Int.mul_zero,Int.add_zero],by show(0:Int)+0*1=2^p*0;omega⟩,Wr.refl _ _⟩
 case round=>
  obtain⟨k,c,r,hk,rfl,rfl,hc0,hc1,hB,HI,hW⟩:=hrel
  have hcap:-4611686018427387904-1073741823<=r (q+k)∧r (q+k)<=4611686018427387904+1073741823:=by
   have h1:=HC.out (q+k) (by omega)
   have h2:=HI.out.rest (q+k) (Nat.le_refl _)
   rw[h2];omega
  by_cases hlt:k<n
  ·obtain⟨ba,fa,rfl,hba,hbg,hca⟩:=ha.spot (by omega)
   have c1:=(hW.cell (p:=⟨ba,fa+k,none⟩) hba hbg).trans (hca k hlt)
   have cg:=hB.cell (show q+k<N by omega)
   have fg:=hB.frozen (q+k)
   have dk:=da k hlt
   obtain⟨s0,s1,s2⟩:=oK dk (show p<=30 by omega)
   have hw:wrap64 (a k*2^p)=a k*2^p:=IntWalk.wrap64_in _ ⟨by omega,by omega⟩
   have hor:bits .or .i64 c (a k*2^p)=c+a k*2^p:=vO c (a k) p hc0 hc1 dk.1 (by omega)
   have h30:=lB (c+a k*2^p)
   have hm:=fC (c+a k*2^p)
   have hc2:(c+a k*2^p)/1073741824<2^p:=by omega
   have hc3:0<=(c+a k*2^p)/1073741824:=by omega
   obtain⟨m0,m1⟩:=tU HS.out hm
   have e4:(c+a k*2^p) % 1073741824+(c+a k*2^p)/1073741824*1073741824=c+a k*2^p:=by omega
   have HI2:Hid (kM q p N n a r0 s (k+1) ((c+a k*2^p)/1073741824) (cl r (q+k) (r (q+k)+s*((c+a k*2^p) % 1073741824)))):=HI.out.put hss (by omega) hm e4
   clear e4
   generalize hM:(c+a k*2^p) % 1073741824=M at *
   generalize hSM:s*M=SM at *
   go_wp2
   go_roundw
   case rel=>exact⟨k+1,_,_,by omega,by go_num,rfl,hc3,hc2,hB.store (q+k) _,HI2,hW.setCell _ _⟩
   case measure=>simp[intOf];omega
  ·obtain rfl:k=n:=by omega
   have cg:=hB.cell (show q+k<N by omega)
   have fg:=hB.frozen (q+k)
   have hc4:c<1073741824:=by omega
   obtain⟨m0,m1⟩:=tU HS.out ⟨hc0,hc4⟩
   have HD:Hid (mu N r0 s (P q*(2^p*val a k)) (cl r (q+k) (r (q+k)+s*c))):=HI.out.done hss (by omega) ⟨hc0,hc4⟩
   generalize hSM:s*c=SM at *
   go_wp2
   first|go_end0|refine bodyPost_ret (results_none rfl _ _ _) rfl ?_
   exact⟨rfl,_,hB.store (q+k) _,hW.setCell _ _,HD.out⟩
theorem mR {x y:Int} {p:Nat} (hx:0<=x∧x<1073741824) (hy:0<=y∧y<1073741824) (hp:p<30) :
  0<=x/2^p∧x/2^p<2^(30-p)∧y*2^(30-p) % 1073741824=y % 2^p*2^(30-p)∧0<=y % 2^p∧y % 2^p*2^(30-p)<1073741824:=by
 have hu:=aJ p
 have hv:=aJ (30-p)
 have huv:(2:Int)^p*2^(30-p)=1073741824:=by rw[<- Int.pow_add,show p+(30-p)=30 by omega];rfl
 have m0:=Int.emod_nonneg y (show(2:Int)^p≠0 by omega)
 have m1:=Int.emod_lt_of_pos y hu
 refine⟨Int.ediv_nonneg hx.1 (by omega),(Int.ediv_lt_iff_lt_mul hu).2 (by rw[Int.mul_comm,huv];exact hx.2),?_,m0,?_⟩
 ·rw[<- huv,Int.mul_comm y,Int.mul_comm (2^p:Int),Int.mul_emod_mul_of_pos _ _ hv,Int.mul_comm]
 ·have h1:(y % 2^p+1)*2^(30-p)<=2^p*2^(30-p):=Int.mul_le_mul_of_nonneg_right (by omega) (by omega)
  rw[huv,Int.add_mul] at h1
  omega
theorem qX {s:Nat->Int} {u v:Int} {k:Nat} (h:s (k+1)=0):low s u v k=s k/u:=by
 unfold low;rw[h,Int.zero_emod,Int.zero_mul,Int.add_zero]
theorem yi (ao:Option Addr) (n ca q p:Nat) (a:Nat->Int) (w:World) (ha:aM w ao n ca a) (da:bv a n) (hn:n<=100000) (hp:p<30) (k:Int) (hk:k=30*q+p) (hkm:k<9223372036854775808) :
    Calls Tryz.prog 143 #[.slice ao n ca,.int .i64 k] w fun e w'=>∃ v,e=.returned v∧cP w w' (val a n/P q/2^p) v:=by
  have hla:=ha.le
  have hma:=ha.max
  have e1:k/30=q:=by omega
  have e2:k % 30=p:=by omega
  have hk0:0<=k:=by omega
  have hqm:(q:Int)<9223372036854775808:=by omega
  clear hk
  have hu:=aJ p
  have huv:(2:Int)^p*2^(30-p)=1073741824:=by rw[<- Int.pow_add,show p+(30-p)=30 by omega];rfl
  have HU:Hid ((2:Int)^p*2^(30-p)=1073741824):=huv
  clear huv
  by_cases hqn:n<=q
  · have h0:val a n/P q/2^p=0:=by
      rw[Int.ediv_eq_zero_of_lt (bl da) (by have:=ck da;have:=gD hqn;omega)];exact Int.zero_ediv _
    have H0:Hid (val a n/P q/2^p=0):=h0
    clear h0
    go_enter Tryz.func143,Tryz.ntmps143
    go_wp2
    go_ret
    exact⟨_,rfl,by rw[H0.out];exact cP.nil (ak _)⟩
  · obtain⟨ba,fa,rfl,hba,hca⟩:=ha.spot (by omega)
    have sp:(((30:Int)-p).toNat)=30-p:=by omega
    obtain⟨N,hN⟩:∃ N,n=q+N:=⟨n-q,by omega⟩
    have HN:Hid (n=q+N):=hN
    have hn1:q+N<=n:=by omega
    have hn2:n<=q+N:=by omega
    have hN0:0<N:=by omega
    have hq1:q<=100000:=by omega
    have hk1:k<=4000000:=by omega
    clear hN hqn hqm hkm
    go_enter Tryz.func143,Tryz.ntmps143
    go_wp2_with (at_make;refine iF rfl _ _ rfl _ _ N rfl rfl (by omega) (by omega) (by omega) ?_;intro w1 hB1 hb1)
    go_loopw [24] (fun i wr=>∃ (k:Nat) (r:Nat->Int),k<=N∧i=.int .i64 k∧bO wr w.heap.size N r∧Hid (∀ i,i<k->r i=low (fun j=>bJ a n (q+j)) (2^p) (2^(30-p)) i)∧Below w.heap.size w wr) (fun i _=>N-(intOf i).toNat)
    case atStart=>exact⟨0,fun _=>0,Nat.zero_le _,rfl,hB1,fun i hi=>by omega,hb1⟩
    case round=>
      obtain⟨k,r,hk,rfl,hB,HV,hbw⟩:=hrel
      by_cases hlt:k<N
      · have c1:=(hbw.cell (p:=⟨ba,fa+(q+k),none⟩) hba).trans (hca (q+k) (by omega))
        have cg:=hB.cell hlt
        have fg:=hB.frozen k
        have hB2:=hB.store k (a (q+k)/2^p)
        by_cases hl2:q+k+1<n
        · have dx:=da (q+k) (by omega)
          have dy:=da (q+k+1) (by omega)
          obtain⟨s0,s1,s2,s3,s4⟩:=mR dx dy hp
          obtain⟨t0,t1,t2⟩:=oK dy (show 30-p<=30 by omega)
          have hw:wrap64 (a (q+k+1)*2^(30-p))=a (q+k+1)*2^(30-p):=IntWalk.wrap64_in _ ⟨by omega,by omega⟩
          have h30:bits .and .i64 (a (q+k+1)*2^(30-p)) 1073741823=a (q+k+1) % 2^p*2^(30-p):=(lB _).trans s2
          have hor:bits .or .i64 (a (q+k)/2^p) (a (q+k+1) % 2^p*2^(30-p))=a (q+k)/2^p+a (q+k+1) % 2^p*2^(30-p):=vO _ _ _ s0 s1 s3 (by have:(2:Int)^(30-p)<=2^30:=di (by omega);omega)
          have c2:=(hbw.cell (p:=⟨ba,fa+(q+k+1),none⟩) hba).trans (hca (q+k+1) (by omega))
          clear s2
          go_wp2
          go_region
          go_wp2
          go_roundw
          case rel=>exact ⟨k+1,cl (cl r k (a (q+k)/2^p)) k (a (q+k)/2^p+a (q+k+1) % 2^p*2^(30-p)),by omega,by go_num,(hB2.store k _).of_block rfl,fun i hi=>by
              by_cases e:i=k
              · rw[e,bG]
                show _=bJ a n (q+k)/2^p+bJ a n (q+(k+1)) % 2^p*2^(30-p)
                rw[dI a (by omega),dI a (by omega),Nat.add_assoc]
              · rw [bm _ _ e,bm r _ e]; exact HV.out i (by omega),((hbw.setCell (Nat.le_refl _) _).setCell (Nat.le_refl _) _).drew⟩
          case measure=>simp[intOf];omega
        · go_wp2
          go_roundw
          case rel=>exact ⟨k+1,cl r k (a (q+k)/2^p),by omega,by go_num,hB2,fun i hi=>by
              by_cases e:i=k
              · rw[e,bG,qX (s:=fun j=>bJ a n (q+j)) (fM a (by omega)),dI a (by omega)]
              · rw [bm r _ e]; exact HV.out i (by omega),hbw.setCell (Nat.le_refl _) _⟩
          case measure=>simp[intOf];omega
      · obtain rfl:k=N:=by omega
        go_wp2_with (go_at_call 140;refine(jt _ _ _ _ _ (hB.row0 (Nat.le_refl _) (by omega))).mono ?_;rintro e w3 ⟨t,ht,htop,hz,rfl,rfl⟩)
        go_ret
        have DS:bv (fun j=>bJ a n (q+j)) (k+1):=fun i hi=>tM da (q+k+1) (q+i) (by omega)
        have D2:bv r k:=(tN hu HU.out DS).congr fun i hi=>(HV.out i hi).symm
        obtain⟨hNr,hv⟩:=gc D2 ht htop hz
        refine⟨_,rfl,t,r,hB.cut (Nat.le_refl _) ht (by omega),hNr,?_,hbw⟩
        rw[hv,dH HV.out,vP (s:=fun j=>bJ a n (q+j)) hu HU.out (fM a (by omega))]
        have e3:=mO a (show q<=n by omega) da
        rw[<- e3,show n-q=k by omega]
        congr 1
        exact dH fun i hi=>dI a (by omega)
theorem wg (ao:Option Addr) (n ca k:Nat) (a:Nat->Int) (w:World) (ha:aM w ao n ca a) (da:bv a n) (hn:n<=100000) (hk:(k:Int)<9223372036854775808) :
  Calls Tryz.prog 143 #[.slice ao n ca,.int .i64 k] w fun e w'=>∃ v,e=.returned v∧cP w w' (val a n/2^k) v:=by
 refine(yi ao n ca (k/30) (k % 30) a w ha da hn (by omega) k (by omega) hk).mono ?_
 rintro e w' ⟨v,he,h⟩
 refine⟨v,he,?_⟩
 rw[lC k,<- Int.ediv_ediv_of_nonneg (Int.le_of_lt (bU _))]
 exact h
def iS (ng:Bool) (d:Nat->Int) (n:Nat) (e:Int):Bool:=decide ((n=0∧ng=false∧e=0)∨(0<n∧(n<=2000∧bZ d n)∧d 0 % 2=1∧-1048576<=e∧e<=1048576))
theorem AF (x:Int):bits .and .i64 x 1=x % 2:=eP x 1 (by decide)
theorem iY (ng:Bool) (ao:Option Addr) (n cap:Nat) (d:Nat->Int) (e:Int) (w:World) (h:aM w ao n cap d) :
  Calls Tryz.prog 100 #[.agg #[.bool ng,.slice ao n cap,.int .i64 e]] w fun r w'=>r=.returned (.bool (iS ng d n e))∧Below w.heap.size w w':=by
 have hl:=h.le
 have hm:=h.max
 by_cases h0:n=0
 ·subst h0
  have e0:iS ng d 0 e=(!ng&&(e == 0)):=by
   by_cases he:e=0<;>cases ng<;>simp[iS,he]
  cases ng
  ·go_enter Tryz.func100,Tryz.ntmps100
   go_wp2
   go_ret
   exact⟨bD (by rw[e0];rfl),ah _ _⟩
  ·go_enter Tryz.func100,Tryz.ntmps100
   go_wp2
   go_ret
   exact⟨bD (by rw[e0];rfl),ah _ _⟩
 ·obtain⟨b,off,rfl,hb,hc⟩:=h.spot (by omega)
  have c0:(w.alloc (.cells #[.bool ng,.slice (some ⟨b,off,none⟩) n cap,.int .i64 e] 33)).cell? ⟨b,off,none⟩=some (.int .i64 (d 0)):=((ah w _).cell (p:=⟨b,off,none⟩) hb).trans (hc 0 (by omega))
  have hA:=AF (d 0)
  have hn0:((n:Int) == 0)=false:=by simp;omega
  have hR:=h.alloc (.cells #[.bool ng,.slice (some ⟨b,off,none⟩) n cap,.int .i64 e] 33)
  by_cases h1:d 0 % 2=1
  ·by_cases h2:-1048576<=e
   ·by_cases h3:e<=1048576
    ·have e0:iS ng d n e=pk d n:=by simp[iS,pk,h0,h1,h2,h3];omega
     go_enter Tryz.func100,Tryz.ntmps100
     go_wp2_with (go_at_call 119;refine(wa _ _ _ _ _ hR).mono ?_;rintro r w1 ⟨rfl,rfl⟩)
     go_ret
     exact⟨bD e0.symm,ah _ _⟩
    ·have e0:iS ng d n e=false:=by simp[iS];omega
     go_enter Tryz.func100,Tryz.ntmps100
     go_wp2
     go_ret
     exact⟨bD (by first|rfl|rw[e0]),ah _ _⟩
   ·have e0:iS ng d n e=false:=by simp[iS];omega
    go_enter Tryz.func100,Tryz.ntmps100
    go_wp2
    go_ret
    exact⟨bD (by first|rfl|rw[e0]),ah _ _⟩
  ·have e0:iS ng d n e=false:=by simp[iS];omega
   go_enter Tryz.func100,Tryz.ntmps100
   go_wp2
   go_ret
   exact⟨bD (by first|rfl|rw[e0]),ah _ _⟩
def sgn (ng:Bool) (n:Nat):Int:=if n=0 then 0 else if ng then -1 else 1
theorem pz (ng:Bool) (ao:Option Addr) (n cap:Nat) (e:Int) (w:World) (hm:n<=9223372036854775807) :
  Calls Tryz.prog 101 #[.agg #[.bool ng,.slice ao n cap,.int .i64 e]] w fun r w'=>r=.returned (.int .i64 (sgn ng n))∧Below w.heap.size w w':=by
 by_cases h0:n=0
 ·subst h0
  go_enter Tryz.func101,Tryz.ntmps101
  go_wp2
  go_ret
  exact⟨rfl,ah _ _⟩
 ·have hn0:((n:Int) == 0)=false:=by simp;omega
  cases ng
  ·go_enter Tryz.func101,Tryz.ntmps101
   go_wp2
   go_ret
   exact⟨cx (by simp[sgn,h0]),ah _ _⟩
  ·go_enter Tryz.func101,Tryz.ntmps101
   go_wp2
   go_ret
   exact⟨cx (by simp[sgn,h0]),ah _ _⟩
theorem yj (ng:Bool) (ao:Option Addr) (n cap:Nat) (d:Nat->Int) (e:Int) (w:World) (h:aM w ao n cap d) (hd:bZ d n) (hn:n<=100000) (he0:-8388608<=e) (he1:e<=8388608) :
  Calls Tryz.prog 145 #[.agg #[.bool ng,.slice ao n cap,.int .i64 e]] w fun r w'=>r=.returned (.int .i64 (e+aH (val d n)))∧Below w.heap.size w w':=by
 have hR:=h.alloc (.cells #[.bool ng,.slice ao n cap,.int .i64 e] 33)
 have hb:aH (val d n)<=30*n:=dc (by rw[<- dC];exact ck hd.1)
 go_enter Tryz.func145,Tryz.ntmps145
 go_wp2
 go_quiet ((refine(iO _ _ _ _ _ (hR.keeps (aN (ak _) _)) hd (by omega)).mono ?_;rintro _ _ ⟨rfl,rfl⟩;exact⟨rfl,_,rfl⟩))
 go_wp2
 go_ret
 exact⟨rfl,aN (ah _ _) _⟩
structure aG where
 ng:Bool
 ao:Option Addr
 n:Nat
 cap:Nat
 d:Nat->Int
 e:Int
instance:Inhabited aG:=⟨⟨false,none,0,0,fun _=>0,0⟩⟩
def aG.v (r:aG):Value:=.agg #[.bool r.ng,.slice r.ao r.n r.cap,.int .i64 r.e]
structure pA (w:World) (b o:Nat) (r:aG):Prop where
 c0:w.cell? ⟨b,o,none⟩=some (.bool r.ng)
 c1:w.cell? ⟨b,o+1,none⟩=some (.slice r.ao r.n r.cap)
 c2:w.cell? ⟨b,o+2,none⟩=some (.int .i64 r.e)
 row:aM w r.ao r.n r.cap r.d
structure eW (w:World) (ao:Option Addr) (n cap:Nat) (r:Nat->aG):Prop where
 le:n<=cap
 max:cap<=9223372036854775807
 spot:0<n->∃ b off,ao=some ⟨b,off,none⟩∧b<w.heap.size∧∀ i,i<n->pA w b (off+i*3) (r i)
theorem pA.keeps {w w':World} {b o:Nat} {r:aG} (h:pA w b o r) (hb:Below w.heap.size w w') (hlt:b<w.heap.size):pA w' b o r :=
 ⟨(hb.cell (p:=⟨b,o,none⟩) hlt).trans h.c0,(hb.cell (p:=⟨b,o+1,none⟩) hlt).trans h.c1,(hb.cell (p:=⟨b,o+2,none⟩) hlt).trans h.c2,h.row.keeps hb⟩
theorem eW.keeps {w w':World} {ao:Option Addr} {n cap:Nat} {r:Nat->aG} (h:eW w ao n cap r) (hb:Below w.heap.size w w'):eW w' ao n cap r :=
  ⟨h.le,h.max,fun hn=>by
    obtain⟨b,off,rfl,hlt,hc⟩:=h.spot hn
    exact ⟨b,off,rfl,Nat.lt_of_lt_of_le hlt hb.size,fun i hi=>(hc i hi).keeps hb hlt⟩⟩
def dD (r:aG):Bool:=iS r.ng r.d r.n r.e
def kN (r:Nat->aG) (n:Nat):Bool:=decide (∀ i,i<n->dD (r i)=true)
theorem ka (ao:Option Addr) (n cap:Nat) (r:Nat->aG) (w:World) (h:eW w ao n cap r) :
    Calls Tryz.prog 104 #[.slice ao n cap] w fun x w'=>x=.returned (.bool (kN r n))∧Below w.heap.size w w':=by
  have hl:=h.le
  have hm:=h.max
  go_enter Tryz.func104,Tryz.ntmps104
  go_wp2_with fail
  go_loopw [7] (fun i wr=>∃ k:Nat,k<=n∧i=.int .i64 k∧Hid (∀ j,j<k->dD (r j)=true)∧Below w.heap.size w wr) (fun i _=>n-(intOf i).toNat)
  case atStart=>exact⟨0,Nat.zero_le _,rfl,fun j hj=>by omega,ak _⟩
  case round=>
    obtain⟨k,hk,rfl,HO,hbw⟩:=hrel
    by_cases hlt:k<n
    · obtain⟨b,off,rfl,hb,hc⟩:=h.spot (by omega)
      obtain⟨c0,c1,c2,hR⟩:=(hc k hlt).keeps hbw hb
      generalize hr:r k=x at *
      obtain⟨ng,xo,xn,xc,xd,xe⟩:=x
      simp only at c0 c1 c2 hR
      by_cases hok:iS ng xd xn xe=true
      · go_wp2_with (go_at_call 100;refine(iY ng xo xn xc xd xe _ (hR.alloc _)).mono ?_;rintro x w1 ⟨rfl,hb1⟩)
        go_roundw
        case rel=>exact ⟨k+1,by omega,by go_num,fun j hj=>by
            by_cases e:j=k
            · subst e;rw[hr];exact hok
            · exact HO.out j (by omega),hbw.trans ((ac (ah _ _) hb1).mono hbw.size)⟩
        case measure=>simp[intOf];omega
      · have hok':iS ng xd xn xe=false:=by simpa using hok
        go_wp2_with (go_at_call 100;refine(iY ng xo xn xc xd xe _ (hR.alloc _)).mono ?_;rintro x w1 ⟨rfl,hb1⟩)
        go_ret
        exact ⟨bD (by
          symm
          refine decide_eq_false fun hx=>?_
          have:=hx k hlt
          rw[hr] at this
          exact hok this),hbw.trans ((ac (ah _ _) hb1).mono hbw.size)⟩
    · obtain rfl:k=n:=by omega
      go_wp2
      go_ret
      exact⟨bD (decide_eq_true HO.out).symm,hbw⟩
theorem tl (ao bo:Option Addr) (n m ca cb:Nat) (a b:Nat->Int) (w:World) (ha:aM w ao n ca a) (hb:aM w bo m cb b) (da:bv a n) (db:bv b m) (hn:n<=100000) (hm:m<=100000) :
  Calls Tryz.prog 161 #[.slice ao n ca,.slice bo m cb] w fun e w'=>∃ v,e=.returned v∧cP w w' (val a n*val b m) v:=by
 have hla:=ha.le
 have hma:=ha.max
 have hlb:=hb.le
 have hmb:=hb.max
 go_enter Tryz.func161,Tryz.ntmps161
 go_wp2_with (at_make;refine iF rfl _ _ rfl _ _ (n+m) rfl rfl (by omega) (by omega) (by omega) ?_;intro w1 hB1 hb1)
 go_loopw [18] (fun i wr=>∃ (k:Nat) (r:Nat->Int),k<=n∧i=.int .i64 k∧bO wr w.heap.size (n+m) r∧bv r (n+m)∧Hid (∀ t,k+m<=t->r t=0)∧Hid (val r (k+m)=val a k*val b m)∧Below w.heap.size w wr) (fun i _=>n-(intOf i).toNat)
 case atStart=>exact⟨0,fun _=>0,Nat.zero_le _,rfl,hB1,kJ _,fun _ _=>rfl,by show _=_;rw[dZ (Nat.zero_le (0+m)) (fun _ _ _=>rfl)];show 0=0*val b m;omega,hb1⟩
 case round=>
  obtain⟨i,r0,hi,rfl,hB0,hD0,HZ0,HV0,hbw0⟩:=hrel
  by_cases hlt:i<n
  ·obtain⟨ba,fa,rfl,hba,hca⟩:=ha.spot (by omega)
   have dai:=da i hlt
   go_wp2
   go_loopw [8,30] (fun c j wr=>∃ (k:Nat) (q:Int) (r:Nat->Int),k<=m∧j=.int .i64 k∧c=.int .i64 q∧0<=q∧q<1073741824∧bO wr w.heap.size (n+m) r∧bv r (n+m)∧Hid (∀ t,i+k<=t->r t=r0 t)∧Hid (val r (i+k)+q*P (i+k)=val r0 (i+k)+a i*val b k*P i)∧Below w.heap.size w wr) (fun _ j _=>m-(intOf j).toNat)
   case atStart=>exact⟨0,0,r0,Nat.zero_le _,rfl,rfl,by omega,by omega,hB0,hD0,fun _ _=>rfl,by show _=_;show val r0 i+0*P i=val r0 i+a i*0*P i;grind,hbw0⟩
   case round=>
    obtain⟨k,q,r,hk,rfl,rfl,hq0,hq1,hB,hD,HS,HV,hbw⟩:=hrel
    have c1:=(hbw.cell (p:=⟨ba,fa+i,none⟩) hba).trans (hca i hlt)
    by_cases hkm:k<m
    ·obtain⟨bb,fb,rfl,hbb,hcb⟩:=hb.spot (by omega)
     have c2:=(hbw.cell (p:=⟨bb,fb+k,none⟩) hbb).trans (hcb k hkm)
     have c3:=hB.cell (show i+k<n+m by omega)
     have fg:=hB.frozen (i+k)
     have drk:=hD (i+k) (by omega)
     have hmul:=tR dai (db k hkm)
     have h30:=lB (q+(a i*b k+r (i+k)))
     go_wp2
     go_quiet (fail)
     go_wp2
     have hs:=qV (b:=b) (j:=k) HV.out (HS.out (i+k) (Nat.le_refl _))
     go_roundw
     case rel=>exact⟨k+1,_,cl r (i+k) ((q+(a i*b k+r (i+k))) % 1073741824),by omega,by go_num,rfl,by omega,by omega,hB.store (i+k) _,hD.upd _ (fC _),fun t ht=>by rw[bm r _ (by omega)];exact HS.out t (by omega),hs,(aN hbw _).setCell (Nat.le_refl _) _⟩
     case measure=>simp[intOf];omega
    ·obtain rfl:k=m:=by omega
     have c3:=hB.cell (show i+k<n+k by omega)
     have fg:=hB.frozen (i+k)
     go_wp2
     have hr:=tS HV.out HV0.out
     go_roundw
     case rel=>exact⟨i+1,cl r (i+k) q,by omega,by go_num,hB.store (i+k) _,hD.upd _ ⟨hq0,hq1⟩,fun t ht=>by rw[bm r _ (by omega),HS.out t (by omega)];exact HZ0.out t (by omega),by show _=_;rw[hr,aU],hbw.setCell (Nat.le_refl _) _⟩
     case measure=>simp[intOf];omega
  ·obtain rfl:i=n:=by omega
   go_wp2_with (go_at_call 140;refine(jt _ _ _ _ _ (hB0.row0 (Nat.le_refl _) (by omega))).mono ?_;rintro e w3 ⟨t,ht,htop,hz,rfl,rfl⟩)
   go_ret
   obtain⟨hN,hv⟩:=gc hD0 ht htop hz
   exact⟨_,rfl,t,r0,hB0.cut (Nat.le_refl _) ht (by omega),hN,by rw[hv,HV0.out],hbw0⟩
theorem tV {d e:Nat->Int} {n k:Nat} (hd:bv d n) (he:bv e n) (hk:k<n) (hs:∀ i,k<i->i<n->d i=e i) (hne:d k≠e k):aZ (d k) (e k)=aZ (val d n) (val e n):=by
 rcases Int.lt_or_gt_of_ne hne with h1|h1
 ·rw[dJ h1,dJ (tT hd he hk hs h1)]
 ·rw[dK h1,dK (tT he hd hk (fun i a b=>(hs i a b).symm) h1)]
def uO (ao:Option Addr) (t cap:Nat):Value:=if 2000<t then .slice none 0 0 else .slice ao t cap
def yk (t:Nat):Int:=if 2000<t then 2 else 0
theorem Ei.of {w w':World} {V:Int} {ao:Option Addr} {t cap:Nat} {d:Nat->Int} (h1:bF w.heap.size w' (.slice ao t cap) t d) (h2:bZ d t) (h3:val d t=V) (hb:Below w.heap.size w w'):Ei w w' V (uO ao t cap) (yk t):=by
 refine⟨hb,?_⟩
 by_cases h:2000<t
 ·refine .inr ⟨?_,by simp[yk,h],by simp[uO,h]⟩
  have a:=ef h2.1 (by omega) h2.2
  have b:=gD (show 2000<=t-1 by omega)
  omega
 ·refine .inl ⟨?_,by simp[yk,h],?_⟩
  ·have a:=ck h2.1
   have b:=gD (show t<=2000 by omega)
   omega
  ·rw[show uO ao t cap=.slice ao t cap by simp[uO,h]]
   exact⟨t,d,h1,h2,h3,hb⟩
structure pB (w:World) (ao bo:Option Addr) (n m ca cb:Nat) (a b:Nat->Int):Prop where
 ra:aM w ao n ca a
 rb:aM w bo m cb b
theorem pB.keeps {w w':World} {ao bo:Option Addr} {n m ca cb:Nat} {a b:Nat->Int} (h:pB w ao bo n m ca cb a b) (hb:Below w.heap.size w w'):pB w' ao bo n m ca cb a b:=⟨h.ra.keeps hb,h.rb.keeps hb⟩
instance (n:Nat) (a b:Nat->Int):Decidable (∀ i,i<n->a i=b i):=by infer_instance
theorem bQ.ok {d:Nat->Int} {n:Nat} (h:bZ d n) (hV:val d n<P 2000):pk d n=true:=by
 refine oI ?_ h
 by_cases hk:n<=2000
 ·exact hk
 ·have a:=ef h.1 (by omega) h.2
  have b:=gD (show 2000<=n-1 by omega)
  omega
def EK (w w':World) (v:Value) (n:Nat) (d:Nat->Int):Prop:=bF w.heap.size w' v n d∧Below w.heap.size w w'
theorem pC (w:World) (d:Nat->Int) {g:Nat} (hg:g=w.heap.size):bF w.heap.size (w.alloc (.cells #[] 3)) (.slice (some ⟨g,0,none⟩) 0 0) 0 d:=by
 subst hg
 exact⟨by simp[eT],.inr ⟨w.heap.size,0,#[],rfl,Nat.le_refl _,heap_alloc_new w _,Nat.le_refl _,by decide,rfl,rfl⟩⟩
theorem wh (ao:Option Addr) (n cap:Nat) (d:Nat->Int) (w:World) (h:aM w ao n cap d) (hn:n<=500000) :
  Calls Tryz.prog 156 #[.slice ao n cap] w fun e w'=>∃ v,e=.returned v∧EK w w' v n d:=by
 cases ao with
 | none=>
  have hc:=h.nl rfl
  have hl:=h.le
  subst hc
  obtain rfl:n=0:=by omega
  have hnil:=fun w':World=>Lib.run_eql_slice_nil (P:=Tryz.prog) w' 31 3 none 0 0 0 0 Tryz.underlying31
  go_enter Tryz.func156,Tryz.ntmps156
  go_wp2
  go_ret
  exact⟨_,rfl,bF.nil _ _ _,ak _⟩
 | some ad=>
  have hnil:=fun w':World=>Lib.run_eql_slice_nil (P:=Tryz.prog) w' 31 3 (some ad) n cap 0 0 Tryz.underlying31
  go_enter Tryz.func156,Tryz.ntmps156
  go_wp2_with (at_builtin;refine cy rfl _ _ rfl w.heap.size _ 0 d rfl (pC w d rfl) _ n cap d rfl (h.alloc _) (by omega) (by simp) ?_;intro v' w1 hO1 hg1)
  go_ret
  refine⟨_,rfl,?_,?_⟩
  ·rw[Nat.zero_add] at hO1
   exact hO1.congr fun i hi=>by simp[kh]
  ·exact(ah w _).grown hg1 (by simp) (dS (pC w d rfl))
theorem uP (V:Int) (w:World) (h0:0<=V) (h1:V<9223372036854775808) :
    Calls Tryz.prog 139 #[.int .i64 V] w fun e w'=>∃ v,e=.returned v∧cP w w' V v:=by
  have HM:Hid (V<9223372036854775808):=h1
  clear h1
  go_enter Tryz.func139,Tryz.ntmps139
  go_wp2
  go_loopw [0,3] (fun i v wr=>∃ (x:Int) (k:Nat) (r:Nat->Int),i=.int .i64 x∧0<=x∧k<=3∧bF w.heap.size wr v k r∧bv r k∧Hid (x*P k<=V)∧Hid (x=0->lz r k)∧Hid (val r k+x*P k=V)∧Below w.heap.size w wr) (fun i _ _=>(intOf i).toNat)
  case atStart=>exact⟨V,0,fun _=>0,rfl,h0,by omega,bF.nil _ _ _,fun i hi=>by omega,by show _<=_;show V*1<=V;omega,fun _=>.inl rfl,by show _=_;show 0+V*1=V;omega,ak _⟩
  case round=>
    obtain⟨x,k,r,rfl,hx,hk3,hO,hD,HB,HT,HV,hbw⟩:=hrel
    by_cases hp:0<x
    · have h30:=lB x
      have hk2:k<=2:=by
        by_cases e:k=3
        · subst e
          have a:=HB.out
          have b:=HM.out
          have c:P 3=1073741824*1073741824*1073741824:=by decide
          have d:1*P 3<=x*P 3:=Int.mul_le_mul_of_nonneg_right (by omega) (Int.le_of_lt (bU 3))
          omega
        · omega
      go_wp2_with (at_builtin;refine cy rfl _ _ rfl w.heap.size _ k r rfl (hO.stays (ah _ _)) _ 1 1 (fun _=>x % 1073741824) rfl (gT _ _ rfl) (by omega) (by have:=hbw.size;simp;omega) ?_;intro v' w1 hO1 hg1)
      have hb1:Below w.heap.size w w1:=(hbw.alloc hbw.size _).grown hg1 (by have:=hbw.size;simp;omega) (dS hO)
      have e1:∀ i,i<k+1->kh r k (fun _=>x % 1073741824) i=cl r k (x % 1073741824) i:=fun i hi=>by
        by_cases e:i<k
        · simp[kh,e,bm r _ (show i≠k by omega)]
        · obtain rfl:i=k:=by omega
          simp[kh,bG]
      have hs:=dP (c:=0) (x:=x) (show val r k+0*P k=val r k by omega)
      rw[Int.zero_add] at hs
      go_roundw
      case rel=>exact ⟨x/1073741824,k+1,cl r k (x % 1073741824),rfl,by omega,by omega,hO1.congr e1,qW ((hD.congr (fun i hi=>(bm r _ (by omega)).symm))) (by rw [bG]; omega) (by rw [bG]; omega),by
          show _<=_
          have a:=HB.out
          rw[eR,show x/1073741824*(P k*1073741824)=(x/1073741824*1073741824)*P k by grind]
          have b:(x/1073741824*1073741824)*P k<=x*P k:=Int.mul_le_mul_of_nonneg_right (by omega) (Int.le_of_lt (bU k))
          omega,fun e=>.inr (by rw [Nat.add_sub_cancel,bG]; omega),by show _=_; rw [hs]; exact HV.out,hb1⟩
      case measure=>simp[intOf];omega
    · obtain rfl:x=0:=by omega
      go_wp2
      go_ret
      exact⟨_,rfl,k,r,hO,⟨hD,HT.out (by first|rfl|trivial)⟩,by have:=HV.out;omega,hbw⟩
end Go.Proofs.YtcklaogdjpbagaaGreatDoor
