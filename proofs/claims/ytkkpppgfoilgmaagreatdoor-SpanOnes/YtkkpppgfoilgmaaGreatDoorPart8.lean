/- Parts of the proof. -/
import Derived.Test.YtkkpppgfoilgmaaGreatDoorPart6
import Derived.Test.YtkkpppgfoilgmaaGreatDoorPart7
import Derived.Test.YtkkpppgfoilgmaaGreatDoorPart5
import Derived.Test.YtkkpppgfoilgmaaGreatDoorPart1
import Derived.Laws.FloatArith
set_option maxRecDepth 100000
set_option maxHeartbeats 8000000
set_option linter.unusedVariables false
set_option linter.unusedSimpArgs false
namespace Go.Proofs.YtkkpppgfoilgmaaGreatDoor
open Go Go.Proofs.Tryz Go.Proofs.YtkkpppgfoilgmaaGreatDoor.M
def vS (r:Nat):Int:=(V Ieee.double r:Int)*pw (-1074)
theorem gh {r s:Nat} (h:r<s):vS r<vS s:=Int.mul_lt_mul_of_pos_right (by have:=iO Ieee.double h;omega) (bD _)
structure co (A:Int) (r0:Nat) (left:Int):Prop where
 lo:vS r0<=A
 hi:A<vS (r0+1)
 l0:left=0↔A=vS r0
 l1:left=1↔vS r0<A∧2*A<vS r0+vS (r0+1)
 l2:left=2↔2*A=vS r0+vS (r0+1)
 l3:left=3↔vS r0+vS (r0+1)<2*A
def aN (way:Int) (ng:Bool) (r0:Nat) (left:Int):Int:=if (r0:Int)<9218868437227405312 then (r0:Int)+(if aW way ng (decide (r0 % 2=1)) left then 1 else 0) else ce way ng
theorem ef {way:Int} {ng odd:Bool} (h:aW way ng odd 0=true):False:=by
 unfold aW at h
 split at h
 ·simp at h
 ·split at h
  ·simp at h
  ·split at h<;>simp at h
theorem mi {way:Int} {ng odd:Bool} {left:Int} (h:aW way ng odd left=true):aW way ng true 3=true:=by
 unfold aW at *
 split at h
 ·rename_i h1;rw[if_pos h1];rfl
 ·rename_i h1
  rw[if_neg h1]
  split at h
  ·rename_i h2;rw[if_pos h2];simp at h;simp[h.2]
  ·rename_i h2
   rw[if_neg h2]
   split at h
   ·rename_i h3;rw[if_pos h3];simp at h;simp[h.2]
   ·cases h
theorem kX {A:Int} {u a r0:Nat} {left:Int} (h:M.gd A u (2^a*pw (-1074)) left) (h1:V Ieee.double r0=u*2^a) (h2:V Ieee.double (r0+1)=(u+1)*2^a):co A r0 left:=by
 obtain⟨lo,hi,l0,l1,l2,l3⟩:=h
 have e1:vS r0=(u:Int)*(2^a*pw (-1074)):=by
  unfold vS
  rw[h1]
  push_cast
  rw[Int.mul_assoc]
 have e2:vS (r0+1)=(u:Int)*(2^a*pw (-1074))+2^a*pw (-1074):=by
  unfold vS
  rw[h2]
  push_cast
  rw[Int.add_mul,Int.add_mul,Int.one_mul,Int.mul_assoc]
 generalize (2:Int)^a*pw (-1074)=q at *
 generalize (u:Int)*q=U at *
 exact⟨by omega,by omega,by rw[e1];exact l0,by rw[e1,e2,l1];constructor<;>intro h<;>omega,by rw[e1,e2,l2];constructor<;>intro h<;>omega,by rw[e1,e2,l3];constructor<;>intro h<;>omega⟩
theorem pP {way:Int} {ng sd:Bool} {A:Int} {mag:Nat} {exp:Int} {cut:Bool} (hA:kO A mag exp cut) (hm:mag<2^64) (h0:mag≠0) (he:-4194304<=exp) (hc:cut=true->2^60<=mag) :
    ∃ (r0:Nat) (left:Int),co A r0 left∧fS way ng sd mag exp cut=(aw (ng&&(decide (0<aN way ng r0 left)||sd)) (aN way ng r0 left),decide (left≠0)||decide (9218868437227405312<=(r0:Int))):=by
  have e64:(2:Nat)^64=18446744073709551616:=by decide
  obtain⟨b1,b2,b3,b4⟩:=M.dE mag hm h0
  have hbits:=rA (size:=53) (low:=-1074) (exp:=exp) (by decide) hm h0
  have hE1:-1074<=rE 53 (-1074) mag exp:=by unfold rE;omega
  have hcs:cut=true->0<rE 53 (-1074) mag exp-exp:=fun h=>by
    have h1:=hc h
    have h2:60<Lib.bitLen mag:=by
      have:=(Nat.pow_lt_pow_iff_right (by decide:1<2)).1 (Nat.lt_of_le_of_lt h1 b2)
      exact this
    unfold rE
    omega
  have hL:=rz hA hcs (by omega) he
  obtain⟨E,hE⟩:∃ E,rE 53 (-1074) mag exp=E:=⟨_,rfl⟩
  have HR:fS way ng sd mag exp cut=(let E:=rE 53 (-1074) mag exp
    let u:=rU mag (E-exp)
    let left:=rL mag cut (E-exp)
    let U:=u+(if aW way ng (decide (u % 2=1)) left then 1 else 0)
    let neg:=ng&&(decide (0<U)||sd)
    if jk 52 2047 (-1074) U E then (jp neg U E,decide (left≠0)) else (aw neg (ce way neg),true)):=rfl
  simp only at HR
  rw[hE] at hbits hE1 hL HR
  obtain⟨u,hu⟩:∃ u,rU mag (E-exp)=u:=⟨_,rfl⟩
  obtain⟨left,hl⟩:∃ l,rL mag cut (E-exp)=l:=⟨_,rfl⟩
  rw[hu] at hbits hL HR
  rw[hl] at hL HR
  obtain⟨a,ha⟩:∃ a,(E - -1074).toNat=a:=⟨_,rfl⟩
  have e53:(2:Nat)^(53:Int).toNat=9007199254740992:=by decide
  have e52:(2:Nat)^((53:Int).toNat-1)=4503599627370496:=by decide
  rw[e53,e52] at hbits
  have eB:Ieee.double.binade=4503599627370496:=by decide
  have hV:=jw Ieee.double a u (by rw[eB];omega) (fun h=>by rw[eB];exact hbits.2 (by omega))
  rw[eB] at hV
  have hpw:pw E=2^a*pw (-1074):=by rw[iN (e:=E) (low:=-1074) (by decide) hE1,ha]
  rw[hpw] at hL
  refine⟨a*4503599627370496+u,left,kX hL hV.1 hV.2,?_⟩
  rw[HR]
  have hodd:decide ((a*4503599627370496+u) % 2=1)=decide (u % 2=1):=by congr 1;apply propext;omega
  unfold aN
  rw[hodd]
  obtain⟨R,hR⟩:∃ R,aW way ng (decide (u % 2=1)) left=R:=⟨_,rfl⟩
  rw[hR]
  obtain⟨U,hU⟩:∃ U,u+(if R=true then 1 else 0)=U:=⟨_,rfl⟩
  rw[hU]
  have hR1:R=true->left≠0:=fun h hz=>by rw[hz,h] at hR;exact ef hR
  have hR2:R=true->aW way ng true 3=true:=fun h=>mi (hR.trans h)
  have hUle:U<=9007199254740992:=by rw[<- hU];split<;>omega
  have hcast:((a*4503599627370496+u:Nat):Int)+(if R=true then 1 else 0)=((a*4503599627370496+U:Nat):Int):=by
    rw[<- hU]
    cases R<;>simp only[if_true,if_false,Bool.false_eq_true]<;>omega
  rw[hcast]
  by_cases hU0:U=0
  · have hu0:u=0:=by rw[<- hU] at hU0;omega
    have ha0:a=0:=by
      rcases Nat.eq_zero_or_pos a with h|h
      · exact h
      · have:=hbits.2 (by omega);omega
    subst hU0 hu0 ha0
    have hj:jk 52 2047 (-1074) ((0:Nat):Int) E=true:=rfl
    rw[hj]
    rw[if_pos rfl,if_pos (by decide)]
    have hd:decide (9218868437227405312<=((0*4503599627370496+0:Nat):Int))=false:=by decide
    rw[hd,Bool.or_false]
    cases ng<;>cases sd<;>rfl
  · have hjr:=nV Ieee.double 52 (by decide) dB 2047 (-1074) (by decide) U E (by omega) (by rw[show(2:Nat)^(52+1)=9007199254740992 by decide];exact hUle) hE1 (fun h=>by rw[show(2:Nat)^52=4503599627370496 by decide];have:=hbits.2 h;rw[<- hU];omega)
    simp only at hjr
    rw[ha,show(2:Nat)^52=4503599627370496 by decide,show(2047:Int)*2^52=9218868437227405312 by decide] at hjr
    obtain⟨j1,j2⟩:=hjr
    have hpos:decide (0<U)=true:=decide_eq_true (by omega)
    rw[show jk ((52:Nat):Int) 2047 (-1074) (U:Int) E=jk 52 2047 (-1074) (U:Int) E from rfl] at j1
    rw[j1,hpos,Bool.true_or,Bool.and_true]
    by_cases hf:((a*4503599627370496+U:Nat):Int)<9218868437227405312
    · have huU:u<=U:=by rw[<- hU];omega
      have hf0:((a*4503599627370496+u:Nat):Int)<9218868437227405312:=by omega
      rw[decide_eq_true hf,if_pos rfl,if_pos hf0,decide_eq_false (p:=9218868437227405312<=((a*4503599627370496+u:Nat):Int)) (by omega),Bool.or_false]
      have hd:decide (0<((a*4503599627370496+U:Nat):Int))=true:=decide_eq_true (by omega)
      rw[hd,Bool.true_or,Bool.and_true]
      congr 1
      have hjk:jk 52 2047 (-1074) (U:Int) E=true:=by rw[j1];exact decide_eq_true hf
      have hjv:=j2 hf
      rw[show jv ((52:Nat):Int) 2047 (-1074) (U:Int) E=jv 52 2047 (-1074) (U:Int) E from rfl] at hjv
      unfold jp aw
      rw[hjk,hjv,Bool.true_and]
    · rw[decide_eq_false hf,if_neg (by simp)]
      by_cases hf0:((a*4503599627370496+u:Nat):Int)<9218868437227405312
      · have hRt:R=true:=by
          cases R
          · exfalso;simp at hU;omega
          · rfl
        have hUe:((a*4503599627370496+U:Nat):Int)=9218868437227405312:=by rw[hRt] at hU;simp at hU;omega
        rw[if_pos hf0,hUe,decide_eq_true (hR1 hRt),Bool.true_or]
        congr 1
        have:ce way ng=9218868437227405312:=by unfold ce;rw[hR2 hRt,if_pos rfl]
        rw[this]
        simp
      · rw[if_neg hf0,decide_eq_true (p:=9218868437227405312<=((a*4503599627370496+u:Nat):Int)) (by omega),Bool.or_true]
        congr 1
        have hd:decide (0<ce way ng)=true:=by unfold ce;split<;>decide
        rw[hd,Bool.true_or,Bool.and_true]
end Go.Proofs.YtkkpppgfoilgmaaGreatDoor
namespace Go.Proofs.YtkkpppgfoilgmaaGreatDoor
open Go Go.Proofs.Tryz Go.RowKit Go.Proofs.YtkkpppgfoilgmaaGreatDoor.M
theorem pQ {M e:Int} (h:0<=M) (he:-4194304<=e) (k:Nat):kO (M*pw e) (M/2^k).toNat (e+k) (decide (M % 2^k≠0)):=by
 have hp:=aF k
 have hq:=bD e
 have h0:0<=M/2^k:=Int.ediv_nonneg h (by omega)
 have hm0:=Int.emod_nonneg M (show(2:Int)^k≠0 by omega)
 have hm1:=Int.emod_lt_of_pos M hp
 have hd:=Int.mul_ediv_add_emod M (2^k)
 unfold kO
 rw[Int.toNat_of_nonneg h0,dM he]
 generalize M/2^k=Q at *
 generalize M % 2^k=T at *
 generalize pw e=q at *
 generalize (2:Int)^k=D at *
 have e1:Q*(q*D)=(D*Q)*q:=by rw[Int.mul_comm q D,<- Int.mul_assoc,Int.mul_comm Q D]
 have e2:(Q+1)*(q*D)=(D*Q)*q+D*q:=by rw[Int.add_mul,e1,Int.one_mul,Int.mul_comm q D]
 have e3:M*q=(D*Q)*q+T*q:=by rw[<- hd,Int.add_mul]
 rw[e2,e1,e3]
 have t0:0<=T*q:=Int.mul_nonneg hm0 (by omega)
 have t1:T*q<D*q:=Int.mul_lt_mul_of_pos_right hm1 hq
 refine⟨by omega,by omega,?_⟩
 rw[decide_eq_false_iff_not]
 constructor
 ·intro h
  have:T=0:=by omega
  rw[this];simp
 ·intro h hT
  have:0<T*q:=Int.mul_pos (by omega) hq
  omega
theorem rR {way:Int} {x:aE} (ok:bV x=true) (h0:0<x.n) :
  ∃ (r0:Nat) (left:Int),co (val x.d x.n*pw x.e) r0 left∧fS way x.ng false (val x.d x.n/2^vK (val x.d x.n)).toNat (x.e+vK (val x.d x.n)) (decide (val x.d x.n % 2^vK (val x.d x.n)≠0))=(aw (x.ng&&(decide (0<aN way x.ng r0 left)||false)) (aN way x.ng r0 left),decide (left≠0)||decide (9218868437227405312<=(r0:Int))):=by
 obtain⟨na,hn,he0,he1⟩:=a8 ok
 have hv:=dK na h0
 have hsm:=iR (Int.le_of_lt hv)
 have hb:=fK hv
 have hp:=aF (vK (val x.d x.n))
 have hge:2^(aC (val x.d x.n)-1-vK (val x.d x.n))<=val x.d x.n/2^vK (val x.d x.n):=by
  rw[Int.le_ediv_iff_mul_le hp,<- Int.pow_add]
  by_cases hk:vK (val x.d x.n)<=aC (val x.d x.n)-1
  ·rw[show aC (val x.d x.n)-1-vK (val x.d x.n)+vK (val x.d x.n)=aC (val x.d x.n)-1 by omega]
   exact hb.2
  ·exfalso;unfold vK at hk;omega
 have hpos:=aF (aC (val x.d x.n)-1-vK (val x.d x.n))
 have e64:(2:Nat)^64=18446744073709551616:=by decide
 have e60:(2:Nat)^60=1152921504606846976:=by decide
 refine pP (pQ (Int.le_of_lt hv) (by omega) _) (by omega) (by omega) (by omega) (fun hc=>?_)
 have hk0:0<vK (val x.d x.n):=by
  rcases Nat.eq_zero_or_pos (vK (val x.d x.n)) with h|h
  ·rw[h,Int.pow_zero,Int.emod_one] at hc;simp at hc
  ·exact h
 have h61:aC (val x.d x.n)-1-vK (val x.d x.n)=61:=by unfold vK at hk0 ⊢;omega
 rw[h61] at hge
 have e61:(2:Int)^61=2305843009213693952:=by decide
 rw[e61] at hge
 omega
theorem gk {ng:Bool} {r:Int} (h0:0<=r) (h1:r<=9218868437227405312) (h:ng=true->0<r):au (aw ng r)∧rg (aw ng r)=r∧(aw ng r<0↔ng=true):=by
 unfold aw rg au
 cases ng
 ·simp only[Bool.false_eq_true,if_false]
  exact⟨by omega,by rw[if_neg (by omega)],by omega,fun h=>by cases h⟩
 ·simp only[if_true]
  exact⟨by have:=h rfl;omega,by have:=h rfl;rw[if_pos (by omega)];omega,fun _=>trivial,fun _=>by omega⟩
theorem iT {ng:Bool} {r:Int} (h0:0<=r) (h1:r<=9218868437227405312) (h:ng=true->0<r):aB (aw ng r)=decide (r<9218868437227405312):=by
 obtain⟨a,b,c⟩:=gk h0 h1 h
 have hp:=eN a
 rw[b] at hp
 have hf:0<=bF (aw ng r)∧bF (aw ng r)<4503599627370496:=by unfold bF;omega
 unfold aB
 by_cases hr:r<9218868437227405312
 ·rw[decide_eq_true hr]
  simp
  omega
 ·rw[decide_eq_false hr]
  simp
  omega
theorem dz {ng:Bool} {r:Nat} (h1:(r:Int)<9218868437227405312) (h:ng=true->0<r):aM (aw ng r)=sg ng (vS r):=by
 have hh:ng=true->(0:Int)<r:=fun q=>by have:=h q;omega
 obtain⟨a,b,c⟩:=gk (ng:=ng) (r:=(r:Int)) (by omega) (by omega) hh
 have hp:aB (aw ng r)=true:=by rw[iT (by omega) (by omega) hh];exact decide_eq_true h1
 have hV:=zY a hp
 rw[b,Int.toNat_natCast] at hV
 obtain⟨i0,i1,i2,i3⟩:=gH hp
 have hn:cl (aw ng r)=ng:=by
  unfold cl
  rw[hp,Bool.true_and]
  cases ng
  ·exact decide_eq_false (fun q=>by have:=c.1 q;cases this)
  ·exact decide_eq_true (c.2 rfl)
 unfold aM vS
 rw[hV,hn]
 have e:pw (bJ (aw ng r))=2^(bJ (aw ng r)+1074).toNat*pw (-1074):=by
  rw[iN (e:=bJ (aw ng r)) (low:=-1074) (by decide) i2]
  congr 2
 have e2:(((bl (aw ng r)).toNat*2^(bJ (aw ng r)+1074).toNat:Nat):Int)*pw (-1074)=bl (aw ng r)*pw (bJ (aw ng r)):=by
  push_cast
  rw[Int.toNat_of_nonneg i0,e,Int.mul_assoc]
 rw[e2]
 cases ng
 ·rfl
 ·show -bl _*_=-(bl _*_)
  rw[Int.neg_mul]
theorem co.unique {A:Int} {r s:Nat} {l k:Int} (h:co A r l) (g:co A s k):r=s∧l=k:=by
 have e:r=s:=by
  rcases Nat.lt_trichotomy r s with q|q|q
  ·exfalso
   have h1:=h.hi
   have h2:=g.lo
   rcases Nat.lt_or_eq_of_le (show r+1<=s from q) with q2|q2
   ·have:=gh q2;omega
   ·rw[q2] at h1;omega
  ·exact q
  ·exfalso
   have h1:=g.hi
   have h2:=h.lo
   rcases Nat.lt_or_eq_of_le (show s+1<=r from q) with q2|q2
   ·have:=gh q2;omega
   ·rw[q2] at h1;omega
 subst e
 refine⟨rfl,?_⟩
 have a0:=h.lo
 by_cases c0:A=vS r
 ·rw[h.l0.2 c0,g.l0.2 c0]
 ·by_cases c1:2*A<vS r+vS (r+1)
  ·rw[h.l1.2 ⟨by omega,c1⟩,g.l1.2 ⟨by omega,c1⟩]
  ·by_cases c2:2*A=vS r+vS (r+1)
   ·rw[h.l2.2 c2,g.l2.2 c2]
   ·rw[h.l3.2 (by omega),g.l3.2 (by omega)]
def fx (way:Int) (x:aE):Int × Bool:=fS way x.ng false (val x.d x.n/2^vK (val x.d x.n)).toNat (x.e+vK (val x.d x.n)) (decide (val x.d x.n % 2^vK (val x.d x.n)≠0))
theorem uv {x:aE} (ok:bV x=true) (h0:0<x.n):∃ (r0:Nat) (left:Int),co (val x.d x.n*pw x.e) r0 left∧∀ way,fx way x=(aw (x.ng&&decide (0<aN way x.ng r0 left)) (aN way x.ng r0 left),decide (left≠0)||decide (9218868437227405312<=(r0:Int))):=by
 obtain⟨r0,left,hR,_⟩:=rR (way:=0) ok h0
 refine⟨r0,left,hR,fun way=>?_⟩
 obtain⟨r1,l1,hR1,e1⟩:=rR (way:=way) ok h0
 obtain⟨rfl,rfl⟩:=hR.unique hR1
 unfold fx
 rw[e1,Bool.or_false]
theorem rS {x:aE} (ok:bV x=true) (h0:x.n=0) (way:Int):fx way x=(0,false):=by
  have hz:x.ng=false∧x.e=0:=by
    have:=of_decide_eq_true ok
    rcases this with⟨_,a,b⟩|⟨a,_⟩
    · exact⟨a,b⟩
    · omega
  have hv:val x.d x.n=0:=by rw[h0];rfl
  unfold fx
  rw[hv,hz.1,hz.2]
  have e:fS way false false ((0:Int)/2^vK 0).toNat (0+(vK 0:Int)) (decide ((0:Int) % 2^vK 0≠0))=fS way false false 0 0 false:=by
    rw[show vK 0=0 by decide]
    rfl
  rw[e]
  have HR:fS way false false 0 0 false=(let E:=rE 53 (-1074) 0 0
    let u:=rU 0 (E-0)
    let left:=rL 0 false (E-0)
    let U:=u+(if aW way false (decide (u % 2=1)) left then 1 else 0)
    let neg:=false&&(decide (0<U)||false)
    if jk 52 2047 (-1074) U E then (jp neg U E,decide (left≠0)) else (aw neg (ce way neg),true)):=rfl
  rw[HR]
  have hE:rE 53 (-1074) 0 0=-53:=by decide
  simp only[hE]
  have hu:rU 0 (-53-0)=0:=by decide
  have hl:rL 0 false (-53-0)=0:=by decide
  simp only[hu,hl]
  have hr:aW way false (decide (0 % 2=1)) 0=false:=by
    cases h:aW way false (decide (0 % 2=1)) 0
    · rfl
    · exact absurd h (fun q=>ef q)
  rw[hr]
  rfl
theorem dQ:vS 0=0:=by unfold vS;rw[jt];simp
theorem j3 {A:Int} {ng:Bool} {r:Nat} (h:(r:Int)<9218868437227405312):eX A (aw (ng&&decide ((0:Int)<r)) r)=bq A (sg ng (vS r)):=by
 by_cases h0:r=0
 ·subst h0
  have e:(ng&&decide ((0:Int)<((0:Nat):Int)))=false:=by simp
  rw[e,dQ]
  have hp:aB (aw false ((0:Nat):Int))=true:=by decide
  have hv:aM (aw false ((0:Nat):Int))=0:=by rw[dz (by decide) (fun q=>by cases q),dQ];rfl
  unfold eX
  rw[if_pos hp,hv]
  cases ng<;>rfl
 ·have e:(ng&&decide ((0:Int)<(r:Int)))=ng:=by rw[decide_eq_true (by omega),Bool.and_true]
  rw[e]
  have hp:aB (aw ng r)=true:=by rw[iT (by omega) (by omega) (fun _=>by omega)];exact decide_eq_true h
  unfold eX
  rw[if_pos hp,dz h (fun _=>by omega)]
theorem pR {A:Int} {ng:Bool}:eX A (aw (ng&&decide ((0:Int)<9218868437227405312)) 9218868437227405312)=if ng then 1 else -1:=by
 cases ng<;>rfl
theorem wp (ng odd:Bool) (left:Int):aW 1 ng odd left=(decide (left≠0)&&ng):=rfl
theorem Aw (ng odd:Bool) (left:Int):aW 2 ng odd left=(decide (left≠0)&&!ng):=rfl
theorem ws (ng odd:Bool) (left:Int):aW 3 ng odd left=false:=rfl
theorem rT {ng:Bool} {r0:Nat} {left:Int} (h:(r0:Int)<9218868437227405312) :
  aN 1 ng r0 left=(if left≠0∧ng=true then ((r0+1:Nat):Int) else (r0:Int))∧aN 2 ng r0 left=(if left≠0∧ng=false then ((r0+1:Nat):Int) else (r0:Int))∧aN 3 ng r0 left=(r0:Int)∧(aN 0 ng r0 left=(r0:Int)∨(left≠0∧aN 0 ng r0 left=((r0+1:Nat):Int))):=by
 unfold aN
 simp only[if_pos h]
 refine⟨?_,?_,?_,?_⟩
 ·rw[wp]
  by_cases h0:left=0
  ·subst h0;simp
  ·cases ng<;>simp[h0]
 ·rw[Aw]
  by_cases h0:left=0
  ·subst h0;simp
  ·cases ng<;>simp[h0]
 ·rw[ws]
  simp
 ·cases hu:aW 0 ng (decide (r0 % 2=1)) left
  ·left;simp
  ·right
   refine⟨fun hz=>?_,by simp⟩
   rw[hz] at hu
   exact ef hu
theorem rV {ng:Bool} {r0:Nat} {left:Int} (h:¬ (r0:Int)<9218868437227405312) :
  aN 1 ng r0 left=(if ng=true then 9218868437227405312 else 9218868437227405311)∧aN 2 ng r0 left=(if ng=true then 9218868437227405311 else 9218868437227405312)∧aN 3 ng r0 left=9218868437227405311∧aN 0 ng r0 left=9218868437227405312:=by
 unfold aN
 simp only[if_neg h]
 cases ng<;>decide
theorem eY {b:Int} (hb:au b):(aD b=4↔9218868437227405312<rg b)∧(aD b=0↔rg b=0):=by
 obtain⟨h0,h1⟩:=eN hb
 have hf:0<=bF b∧bF b<4503599627370496:=by unfold bF;omega
 have hg:0<=bk b∧bk b<2048:=by unfold bk;omega
 generalize rg b=r at *
 unfold aD
 generalize bk b=f at *
 generalize bF b=c at *
 constructor
 ·split
  ·split<;>constructor<;>intro h<;>omega
  ·split
   ·split<;>constructor<;>intro h<;>omega
   ·constructor<;>intro h<;>omega
 ·split
  ·split<;>constructor<;>intro h<;>omega
  ·split
   ·split<;>constructor<;>intro h<;>omega
   ·constructor<;>intro h<;>omega
theorem uw {r:Int} (h0:0<=r) (h1:r<9218868437227405312):aH (next (aw false r))=r+1:=by
 have e:aw false r=r:=rfl
 rw[e]
 have a1:au r:=by unfold au;omega
 have a2:au (r+1):=by unfold au;omega
 have g1:rg r=r:=by unfold rg;rw[if_neg (by omega)]
 have g2:rg (r+1)=r+1:=by unfold rg;rw[if_neg (by omega)]
 have c1:=eY a1
 have c2:=eY a2
 rw[g1] at c1
 rw[g2] at c2
 have n:next r=r+1:=by
  unfold next
  rw[if_neg (by rw[c1.1];omega),if_neg (by omega),if_neg (by omega),if_neg (by omega)]
 rw[n]
 unfold aH
 rw[if_neg (by rw[c2.1];omega),if_neg (by rw[c2.2];omega)]
theorem ux {r:Int} (h0:0<r) (h1:r<=9218868437227405312):aH (next (aw true r))=aw (decide (0<r-1)) (r-1):=by
 have e:aw true r=r-9223372036854775808:=rfl
 rw[e]
 have a1:au (r-9223372036854775808):=by unfold au;omega
 have a2:au (r-9223372036854775808-1):=by unfold au;omega
 have g1:rg (r-9223372036854775808)=r:=by unfold rg;rw[if_pos (by omega)];omega
 have g2:rg (r-9223372036854775808-1)=r-1:=by unfold rg;rw[if_pos (by omega)];omega
 have c1:=eY a1
 have c2:=eY a2
 rw[g1] at c1
 rw[g2] at c2
 have n:next (r-9223372036854775808)=r-9223372036854775808-1:=by
  unfold next
  rw[if_neg (by rw[c1.1];omega),if_neg (by omega),if_neg (by omega),if_pos (by omega)]
 rw[n]
 unfold aH
 rw[if_neg (by rw[c2.1];omega)]
 by_cases h:r-1=0
 ·rw[if_pos (c2.2.2 h),h]
  rfl
 ·rw[if_neg (by rw[c2.2];exact h),decide_eq_true (by omega)]
  unfold aw
  rw[if_pos rfl]
  omega
structure mG (V:Int) (ng:Bool) (f:Int->Int × Bool):Prop where
 o2:(f 2).2=(f 1).2
 o3:(f 3).2=(f 1).2
 o0:(f 0).2=(f 1).2
 lo:¬ eX V (f 1).1<0
 hi:¬ 0<eX V (f 2).1
 ex:(f 1).2=false->eX V (f 1).1=0∧(f 2).1=(f 1).1∧(f 3).1=(f 1).1∧(f 0).1=(f 1).1
 up:(f 1).2=true->eX V (f 1).1≠0∧aH (next (f 1).1)=(f 2).1∧((f 0).1=(f 1).1∨(f 0).1=(f 2).1)∧(ng=false->(f 3).1=(f 1).1)∧(ng=true->(f 3).1=(f 2).1)
theorem wt (a:Int):bq a a=0:=by unfold bq;rw[if_neg (by omega),if_neg (by omega)]
theorem mG.of {V:Int} {ng:Bool} {f:Int->Int × Bool} {o:Bool} {d u z n:Int} (f1:f 1=(aw (ng&&decide (0<d)) d,o)) (f2:f 2=(aw (ng&&decide (0<u)) u,o)) (f3:f 3=(aw (ng&&decide (0<z)) z,o)) (f0:f 0=(aw (ng&&decide (0<n)) n,o))
  (lo:¬ eX V (aw (ng&&decide (0<d)) d)<0) (hi:¬ 0<eX V (aw (ng&&decide (0<u)) u)) (ex:o=false->eX V (aw (ng&&decide (0<d)) d)=0∧u=d∧z=d∧n=d)
  (up:o=true->eX V (aw (ng&&decide (0<d)) d)≠0∧aH (next (aw (ng&&decide (0<d)) d))=aw (ng&&decide (0<u)) u∧(n=d∨n=u)∧(ng=false->z=d)∧(ng=true->z=u)):mG V ng f:=by
 refine⟨by rw[f1,f2],by rw[f1,f3],by rw[f1,f0],by rw[f1];exact lo,by rw[f2];exact hi,fun h=>?_,fun h=>?_⟩
 ·rw[f1] at h
  obtain⟨a,b,c,e⟩:=ex h
  rw[f1,f2,f3,f0,b,c,e]
  exact⟨a,rfl,rfl,rfl⟩
 ·rw[f1] at h
  obtain⟨a,b,c,e,g⟩:=up h
  rw[f1,f2,f3,f0]
  refine⟨a,b,?_,fun q=>by rw[e q],fun q=>by rw[g q]⟩
  rcases c with c|c
  ·left;rw[c]
  ·right;rw[c]
theorem BO {r:Nat} (h:(r:Int)<9218868437227405312) (g:¬ ((r+1:Nat):Int)<9218868437227405312):((r+1:Nat):Int)=9218868437227405312:=by omega
theorem xG (r:Nat):(0:Int)<((r+1:Nat):Int):=by omega
theorem Db {r:Nat} (h:(r:Int)<9218868437227405312):((r+1:Nat):Int)<=9218868437227405312:=by omega
theorem BP (r:Nat):((r+1:Nat):Int)-1=(r:Int):=by omega
theorem BQ (r:Nat):((r+1:Nat):Int)=(r:Int)+1:=by omega
theorem Dc {r k:Nat} (hk:(9218868437227405311:Int)=(k:Int)) (h:¬ (r:Int)<9218868437227405312):k<r:=by omega
theorem Dd:∃ k:Nat,(9218868437227405311:Int)=(k:Int):=⟨9218868437227405311,rfl⟩
theorem BR {k:Nat} (hk:(9218868437227405311:Int)=(k:Int)):(k:Int)<9218868437227405312∧(k:Int)+1=9218868437227405312∧(9218868437227405312:Int)-1=(k:Int):=by omega
theorem uy {ng:Bool} {A B:Int} (h:A<B):bq (sg ng A) (sg ng B)=if ng then 1 else -1:=by
 cases ng
 ·exact cF h
 ·exact cG (Int.neg_lt_neg h)
theorem n9 {ng:Bool} {A B:Int} (h:B<A):bq (sg ng A) (sg ng B)=if ng then -1 else 1:=by
 cases ng
 ·exact cG h
 ·exact cF (Int.neg_lt_neg h)
theorem iH (ng:Bool) (a b:Int):sg ng a*b=sg ng (a*b):=by
 unfold sg
 cases ng
 ·rfl
 ·exact Int.neg_mul a b
theorem fU {x:aE} (ok:bV x=true):mG x.V x.ng (fun way=>fx way x):=by
 by_cases h0:x.n=0
 ·have hz:x.ng=false:=by
   have:=of_decide_eq_true ok
   rcases this with⟨_,a,b⟩|⟨a,_⟩
   ·exact a
   ·omega
  have hv:x.V=0:=by
   have hv:val x.d x.n=0:=by rw[h0];rfl
   unfold aE.V
   rw[hv,dN,Int.zero_mul]
  have hp:eX x.V (aw (x.ng&&decide ((0:Int)<0)) 0)=0:=by
   have:=j3 (A:=x.V) (ng:=x.ng) (r:=0) (by decide)
   rw[dQ,hv,hz] at this
   rw[hv,hz]
   exact this
  have hz0:∀ way,fx way x=(aw (x.ng&&decide ((0:Int)<0)) 0,false):=fun way=>by
   rw[rS ok h0,hz]
   rfl
  exact mG.of (f:=fun way=>fx way x) (hz0 1) (hz0 2) (hz0 3) (hz0 0) (by rw[hp];decide) (by rw[hp];decide) (fun _=>⟨hp,rfl,rfl,rfl⟩) (fun h=>by cases h)
 ·obtain⟨r0,left,hR,hf⟩:=uv ok (by omega)
  obtain⟨A,hA⟩:∃ A,val x.d x.n*pw x.e=A:=⟨_,rfl⟩
  rw[hA] at hR
  have hV:x.V=sg x.ng A:=by
   unfold aE.V
   rw[<- hA]
   exact iH _ _ _
  clear hA
  have lo:=hR.lo
  have hi:=hR.hi
  have l0:=hR.l0
  rw[hV]
  by_cases hr:(r0:Int)<9218868437227405312
  ·obtain⟨t1,t2,t3,t0⟩:=rT (ng:=x.ng) (left:=left) hr
   have ho:(decide (left≠0)||decide (9218868437227405312<=(r0:Int)))=decide (left≠0):=by rw[decide_eq_false (p:=9218868437227405312<=(r0:Int)) (Int.not_le.2 hr),Bool.or_false]
   rw[ho] at hf
   have P0:=j3 (A:=sg x.ng A) (ng:=x.ng) hr
   by_cases hl:left=0
   ·have hAe:=l0.1 hl
    have e1:aN 1 x.ng r0 left=(r0:Int):=by rw[t1,if_neg (fun h=>h.1 hl)]
    have e2:aN 2 x.ng r0 left=(r0:Int):=by rw[t2,if_neg (fun h=>h.1 hl)]
    have e0:aN 0 x.ng r0 left=(r0:Int):=by rcases t0 with h|h;exact h;exact absurd hl h.1
    rw[hAe,wt] at P0
    refine mG.of (f:=fun way=>fx way x) (hf 1) (hf 2) (hf 3) (hf 0) ?_ ?_ ?_ ?_
    ·rw[e1,hAe,P0];decide
    ·rw[e2,hAe,P0];decide
    ·intro _;rw[e1,e2,t3,e0,hAe];exact⟨P0,rfl,rfl,rfl⟩
    ·intro h;exact absurd hl (of_decide_eq_true h)
   ·have hAl:vS r0<A:=by
     rcases Int.lt_or_eq_of_le lo with h|h
     ·exact h
     ·exact absurd (l0.2 h.symm) hl
    have P1:eX (sg x.ng A) (aw (x.ng&&decide ((0:Int)<((r0+1:Nat):Int))) ((r0+1:Nat):Int))=if x.ng then 1 else -1:=by
     by_cases h1:((r0+1:Nat):Int)<9218868437227405312
     ·rw[j3 h1]
      exact uy hi
     ·have e:=BO hr h1
      rw[e]
      exact pR
    have P0':eX (sg x.ng A) (aw (x.ng&&decide ((0:Int)<(r0:Int))) (r0:Int))=if x.ng then -1 else 1:=by
     rw[P0]
     exact n9 hAl
    clear hV
    generalize x.ng=ng at *
    cases ng
    ·have e1:aN 1 false r0 left=(r0:Int):=by rw[t1,if_neg (fun h=>by cases h.2)]
     have e2:aN 2 false r0 left=((r0+1:Nat):Int):=by rw[t2,if_pos ⟨hl,rfl⟩]
     refine mG.of (f:=fun way=>fx way x) (hf 1) (hf 2) (hf 3) (hf 0) ?_ ?_ ?_ ?_
     ·rw[e1,P0'];decide
     ·rw[e2,P1];decide
     ·intro h;exact absurd hl (by simpa using h)
     ·intro _
      rw[e1,e2,t3,P0']
      refine⟨by decide,?_,?_,(fun _=>rfl),(fun h=>by cases h)⟩
      ·rw[Bool.false_and,Bool.false_and,uw (Int.natCast_nonneg _) hr];exact(BQ r0).symm
      ·rcases t0 with h|h
       ·exact .inl h
       ·exact .inr h.2
    ·have e1:aN 1 true r0 left=((r0+1:Nat):Int):=by rw[t1,if_pos ⟨hl,rfl⟩]
     have e2:aN 2 true r0 left=(r0:Int):=by rw[t2,if_neg (fun h=>by cases h.2)]
     refine mG.of (f:=fun way=>fx way x) (hf 1) (hf 2) (hf 3) (hf 0) ?_ ?_ ?_ ?_
     ·rw[e1,P1];decide
     ·rw[e2,P0'];decide
     ·intro h;exact absurd hl (by simpa using h)
     ·intro _
      rw[e1,e2,t3,P1]
      refine⟨by decide,?_,?_,(fun h=>by cases h),fun _=>rfl⟩
      ·rw[Bool.true_and,Bool.true_and,decide_eq_true (p:=(0:Int)<((r0+1:Nat):Int)) (xG r0),ux (xG r0) (Db hr),BP]
      ·rcases t0 with h|h
       ·exact .inr h
       ·exact .inl h.2
  ·obtain⟨t1,t2,t3,t0⟩:=rV (ng:=x.ng) (left:=left) hr
   have ho:(decide (left≠0)||decide (9218868437227405312<=(r0:Int)))=true:=by rw[decide_eq_true (p:=9218868437227405312<=(r0:Int)) (Int.not_lt.1 hr),Bool.or_true]
   rw[ho] at hf
   obtain⟨k,hk⟩:=Dd
   obtain⟨hk1,hk2,hk3⟩:=BR hk
   have hAl:vS k<A:=Int.lt_of_lt_of_le (gh (Dc hk hr)) lo
   have P0:eX (sg x.ng A) (aw (x.ng&&decide ((0:Int)<(k:Int))) (k:Int))=if x.ng then -1 else 1:=by
    refine(j3 (A:=sg x.ng A) (ng:=x.ng) hk1).trans ?_
    exact n9 hAl
   rw[hk] at t1 t2 t3
   have P1:eX (sg x.ng A) (aw (x.ng&&decide ((0:Int)<9218868437227405312)) 9218868437227405312)=if x.ng then 1 else -1:=pR
   clear hV hR lo hi l0
   generalize x.ng=ng at *
   cases ng
   ·rw[if_neg (by decide)] at t1 t2
    refine mG.of (f:=fun way=>fx way x) (hf 1) (hf 2) (hf 3) (hf 0) ?_ ?_ ?_ ?_
    ·rw[t1,P0];decide
    ·rw[t2,P1];decide
    ·intro h;cases h
    ·intro _
     rw[t1,t2,t3,t0,P0]
     refine⟨by decide,?_,.inr rfl,(fun _=>rfl),(fun h=>by cases h)⟩
     rw[Bool.false_and,Bool.false_and]
     rw[uw (Int.natCast_nonneg _) hk1,hk2]
     rfl
   ·rw[if_pos rfl] at t1 t2
    refine mG.of (f:=fun way=>fx way x) (hf 1) (hf 2) (hf 3) (hf 0) ?_ ?_ ?_ ?_
    ·rw[t1,P1];decide
    ·rw[t2,P0];decide
    ·intro h;cases h
    ·intro _
     rw[t1,t2,t3,t0,P1]
     refine⟨by decide,?_,.inl rfl,(fun h=>by cases h),fun _=>rfl⟩
     rw[Bool.true_and,Bool.true_and]
     rw[decide_eq_true (p:=(0:Int)<9218868437227405312) (by decide),ux (by decide) (Int.le_refl _),hk3]
end Go.Proofs.YtkkpppgfoilgmaaGreatDoor
namespace Go.Proofs.YtkkpppgfoilgmaaGreatDoor
open Go Go.Proofs.Tryz Go.ChangeShapes Go.WideShapes Go.ChangeAt Go.RowKit Go.Proofs.YtkkpppgfoilgmaaGreatDoor.M
end Go.Proofs.YtkkpppgfoilgmaaGreatDoor
namespace Go.Proofs.YtkkpppgfoilgmaaGreatDoor
open Go Go.Proofs.Tryz Go.RowKit Go.Proofs.YtkkpppgfoilgmaaGreatDoor.M
theorem gg.no {w w':World} {V er:Int} {v:Value} (h:gg w w' V v er) (no:¬ b7 V):er=2∧v=de∧Below w.heap.size w w':=by
 rcases h.2 with⟨ok,_⟩|⟨_,h1,h2⟩
 ·exact absurd ok no
 ·exact⟨h1,h2,h.1⟩
theorem aX.open2 {w:World} {ng:Bool} {so:Option Addr} {sn sc:Nat} {e V:Int} (h:aX w (.agg #[.bool ng,.slice so sn sc,.int .i64 e]) V) (ok:b7 V):∃ d,aG w so sn sc d∧bV ⟨ng,so,sn,sc,d,e⟩=true∧(⟨ng,so,sn,sc,d,e⟩:aE).V=V:=by
 obtain⟨x,h1,h2,h3,h4⟩:=h.open ok
 obtain⟨xg,xo,xn,xc,xd,xe⟩:=x
 simp only[aE.v,Value.agg.injEq,Array.mk.injEq,List.cons.injEq,Value.bool.injEq,Value.int.injEq,Value.slice.injEq,and_true,true_and] at h1
 obtain⟨rfl,⟨rfl,rfl,rfl⟩,rfl⟩:=h1
 exact⟨xd,h2,h3,h4⟩
end Go.Proofs.YtkkpppgfoilgmaaGreatDoor
namespace Go.Proofs.YtkkpppgfoilgmaaGreatDoor
open Go Go.Proofs.Tryz Go.ChangeShapes Go.WideShapes Go.ChangeAt Go.RowKit Go.Proofs.YtkkpppgfoilgmaaGreatDoor.M
structure aA (w:World):Prop where
 lay:jX w
 tab:eF w
 env:kH w
theorem aA.keeps {w w':World} (h:aA w) (hb:Below w.heap.size w w'):aA w':=⟨h.lay.keeps hb,h.tab.keeps hb,h.env.keeps hb⟩
def rW (w:World) (x:Value) (f:Int->Int × Bool):Prop:=∀ (way:Int) (W:World),0<=way∧way<=3->Below w.heap.size w W->Calls prog 47 #[x,.int .i64 way] W fun e w'=>e=.returned (.tuple #[.int .i64 (f way).1,.bool (f way).2,.int .i64 0])∧Below W.heap.size W w'
theorem rW.keeps {w w':World} {x:Value} {f:Int->Int × Bool} (h:rW w x f) (hb:Below w.heap.size w w'):rW w' x f:=fun way W hw hB=>h way W hw (aa hb hB)
theorem rW.at {w:World} {x:Value} {f:Int->Int × Bool} (h:rW w x f) (way:Int) (hw:0<=way∧way<=3):Calls prog 47 #[x,.int .i64 way] w fun e w'=>e=.returned (.tuple #[.int .i64 (f way).1,.bool (f way).2,.int .i64 0])∧Below w.heap.size w w':=h way w hw (aq w)
theorem bT (way:Int) (ng:Bool) (r0:Nat) (left:Int):0<=aN way ng r0 left∧aN way ng r0 left<=9218868437227405312:=by
 unfold aN
 split
 ·split<;>omega
 ·unfold ce
  repeat' split
  all_goals decide
theorem yE {w:World} {ng:Bool} {so:Option Addr} {sn sc:Nat} {e V:Int} (h:aX w (.agg #[.bool ng,.slice so sn sc,.int .i64 e]) V) (ok:b7 V) (H:aA w) :
  ∃ x:aE,bV x=true∧x.V=V∧x.ng=ng∧rW w (.agg #[.bool ng,.slice so sn sc,.int .i64 e]) (fun way=>fx way x):=by
 obtain⟨d,hR,hok,hV⟩:=h.open2 ok
 exact⟨⟨ng,so,sn,sc,d,e⟩,hok,hV,rfl,fun way W hw hb=>BK way hw ⟨ng,so,sn,sc,d,e⟩ W (hR.keeps hb) hok (H.env.keeps hb) (H.tab.keeps hb)⟩
end Go.Proofs.YtkkpppgfoilgmaaGreatDoor
namespace Go.Proofs.YtkkpppgfoilgmaaGreatDoor
open Go Go.Proofs.Tryz Go.RowKit Go.Proofs.YtkkpppgfoilgmaaGreatDoor.M
def iU (V:Int) (ng:Bool) (f:Int->Int × Bool):Prop:=∃ (A:Int) (r0:Nat) (left:Int),V=sg ng A∧(ng=true->0<A)∧co A r0 left∧∀ way,f way=(aw (ng&&decide (0<aN way ng r0 left)) (aN way ng r0 left),decide (left≠0)||decide (9218868437227405312<=(r0:Int)))
theorem oL {a b:Int} (h0:a=0) (h1:a<b):(0:Int)<b∧(((0:Int)=0↔(0:Int)=a)∧((0:Int)=1↔a<0∧2*0<a+b)∧((0:Int)=2↔2*0=a+b)∧((0:Int)=3↔a+b<2*0)):=by
 subst h0
 exact⟨h1,by omega,by omega,by omega,by omega⟩
theorem kY:co 0 0 0:=by
 have h1:=gh (show 0<0+1 by decide)
 have h0:=dQ
 obtain⟨q,a,b,c,d⟩:=oL h0 h1
 exact⟨Int.le_of_eq h0,q,a,b,c,d⟩
theorem mj (way:Int):aN way false 0 0=0:=by
 unfold aN
 rw[if_pos (by decide)]
 cases h:aW way false (decide (0 % 2=1)) 0
 ·rfl
 ·exact(ef h).elim
theorem wu {x:aE} (ok:bV x=true) (h0:0<x.n):0<val x.d x.n*pw x.e:=by
 obtain⟨na,_⟩:=a8 ok
 exact Int.mul_pos (dK na h0) (bD _)
theorem BS {x:aE} (ok:bV x=true):iU x.V x.ng (fun way=>fx way x):=by
 by_cases h0:x.n=0
 ·have hz:x.ng=false:=by
   have:=of_decide_eq_true ok
   rcases this with⟨_,a,b⟩|⟨a,_⟩
   ·exact a
   ·omega
  have hv:x.V=0:=by
   have hv:val x.d x.n=0:=by rw[h0];rfl
   unfold aE.V
   rw[hv,dN,Int.zero_mul]
  refine⟨0,0,0,by rw[hv,hz];rfl,(fun h=>by rw[hz] at h;cases h),kY,fun way=>?_⟩
  rw[hz,mj]
  exact rS ok h0 way
 ·obtain⟨r0,left,hR,hf⟩:=uv ok (by omega)
  have hp:=wu ok (by omega)
  have hV:x.V=sg x.ng (val x.d x.n*pw x.e):=by
   unfold aE.V
   exact iH _ _ _
  exact⟨_,r0,left,hV,(fun _=>hp),hR,hf⟩
theorem lQ {a b:Int}:bq a b<0↔a<b:=by
 rcases Int.lt_trichotomy a b with h|h|h
 ·rw[cF h];exact⟨fun _=>h,fun _=>by decide⟩
 ·rw[eE h];exact⟨fun q=>absurd q (by decide),fun q=>by omega⟩
 ·rw[cG h];exact⟨fun q=>absurd q (by decide),fun q=>by omega⟩
theorem lR {a b:Int}:0<bq a b↔b<a:=by
 rcases Int.lt_trichotomy a b with h|h|h
 ·rw[cF h];exact⟨fun q=>absurd q (by decide),fun q=>by omega⟩
 ·rw[eE h];exact⟨fun q=>absurd q (by decide),fun q=>by omega⟩
 ·rw[cG h];exact⟨fun _=>h,fun _=>by decide⟩
theorem kZ {a b:Int}:bq a b=0↔a=b:=by
 rcases Int.lt_trichotomy a b with h|h|h
 ·rw[cF h];exact⟨fun q=>absurd q (by decide),fun q=>by omega⟩
 ·rw[eE h];exact⟨fun _=>h,fun _=>rfl⟩
 ·rw[cG h];exact⟨fun q=>absurd q (by decide),fun q=>by omega⟩
theorem wv {A a b left:Int} (l1:left=1↔a<A∧2*A<a+b) (l2:left=2↔2*A=a+b) (l3:left=3↔a+b<2*A) (lo:a<A) :
  (bq (A-a) (b-A)<0->left=1)∧(0<bq (A-a) (b-A)->left=3)∧(bq (A-a) (b-A)=0->left=2) :=
 ⟨fun h=>l1.2 ⟨lo,by have:=lQ.1 h;omega⟩,fun h=>l3.2 (by have:=lR.1 h;omega),fun h=>l2.2 (by have:=kZ.1 h;omega)⟩
theorem ww {A a b left:Int} (l1:left=1↔a<A∧2*A<a+b) (l2:left=2↔2*A=a+b) (l3:left=3↔a+b<2*A) (lo:a<A) :
  (bq (-A - -b) (-a - -A)<0->left=3)∧(0<bq (-A - -b) (-a - -A)->left=1)∧(bq (-A - -b) (-a - -A)=0->left=2) :=
 ⟨fun h=>l3.2 (by have:=lQ.1 h;omega),fun h=>l1.2 ⟨lo,by have:=lR.1 h;omega⟩,fun h=>l2.2 (by have:=kZ.1 h;omega)⟩
theorem uz {A a b left:Int} (l1:left=1↔a<A∧2*A<a+b) (l2:left=2↔2*A=a+b) (l3:left=3↔a+b<2*A) (lo:a<A) :
  (bq (sg false A-sg false a) (sg false b-sg false A)<0->left=1)∧(0<bq (sg false A-sg false a) (sg false b-sg false A)->left=3)∧(bq (sg false A-sg false a) (sg false b-sg false A)=0->left=2):=wv l1 l2 l3 lo
theorem uA {A a b left:Int} (l1:left=1↔a<A∧2*A<a+b) (l2:left=2↔2*A=a+b) (l3:left=3↔a+b<2*A) (lo:a<A) :
  (bq (sg true A-sg true b) (sg true a-sg true A)<0->left=3)∧(0<bq (sg true A-sg true b) (sg true a-sg true A)->left=1)∧(bq (sg true A-sg true b) (sg true a-sg true A)=0->left=2):=ww l1 l2 l3 lo
theorem uB {ng:Bool} {r0:Nat} (h:(r0:Int)<9218868437227405312):aN 0 ng r0 1=(r0:Int):=by
 unfold aN
 rw[if_pos h]
 simp[aW]
theorem uC {ng:Bool} {r0:Nat} (h:(r0:Int)<9218868437227405312):aN 0 ng r0 3=((r0+1:Nat):Int):=by
 unfold aN
 rw[if_pos h]
 simp[aW]
theorem uD {ng:Bool} {r0:Nat} (h:(r0:Int)<9218868437227405312):aN 0 ng r0 2 % 2=0:=by
 unfold aN
 rw[if_pos h]
 by_cases hp:r0 % 2=1
 ·simp[aW,hp];omega
 ·simp[aW,hp];omega
theorem oc {b:Bool} {r:Int} (h:r % 2=0):aw b r % 2=0:=by
 unfold aw
 cases b
 ·exact h
 ·show(r-9223372036854775808) % 2=0;omega
theorem jB {ng:Bool} {r:Int} (h:(ng&&decide (0<r))=true):0<r:=by
 cases ng
 ·cases h
 ·rw[Bool.true_and] at h;exact of_decide_eq_true h
theorem rZ {ng:Bool} {r:Int} (h0:0<=r) (h1:r<=9218868437227405312) (h:aB (aw (ng&&decide (0<r)) r)=true):r<9218868437227405312:=by
 rw[iT h0 h1 jB] at h
 exact of_decide_eq_true h
theorem k8 {ng:Bool} {r:Nat} (h:(r:Int)<9218868437227405312):aM (aw (ng&&decide ((0:Int)<(r:Int))) (r:Int))=sg ng (vS r):=by
 rw[dz h (fun q=>by have:=jB q;omega)]
 by_cases h0:r=0
 ·subst h0
  rw[dQ]
  simp[sg]
 ·have e:(ng&&decide ((0:Int)<(r:Int)))=ng:=by rw[decide_eq_true (by omega),Bool.and_true]
  rw[e]
structure uE (V:Int) (f:Int->Int × Bool):Prop where
 lo:bq (V-aM (f 1).1) (aM (f 2).1-V)<0->(f 0).1=(f 1).1
 hi:0<bq (V-aM (f 1).1) (aM (f 2).1-V)->(f 0).1=(f 2).1
 ev:bq (V-aM (f 1).1) (aM (f 2).1-V)=0->(f 0).1 % 2=0
theorem uE.of {V:Int} {f:Int->Int × Bool} {d u n p q:Int} {o:Bool} (f1:f 1=(d,o)) (f2:f 2=(u,o)) (f0:f 0=(n,o)) (hd:aM d=p) (hu:aM u=q)
  (lo:bq (V-p) (q-V)<0->n=d) (hi:0<bq (V-p) (q-V)->n=u) (ev:bq (V-p) (q-V)=0->n % 2=0):uE V f:=by
 subst hd hu
 exact⟨by rw[f1,f2,f0];exact lo,by rw[f1,f2,f0];exact hi,by rw[f1,f2,f0];exact ev⟩
theorem bc {V:Int} {ng:Bool} {f:Int->Int × Bool} (h:iU V ng f) (o:(f 0).2=true) (pd:aB (f 1).1=true) (pu:aB (f 2).1=true):uE V f:=by
 obtain⟨A,r0,left,hV,hA,hR,hf⟩:=h
 have f1:=hf 1
 have f2:=hf 2
 have f0:=hf 0
 rw[f1] at pd
 rw[f2] at pu
 rw[f0] at o
 have g1:=bT 1 ng r0 left
 have g2:=bT 2 ng r0 left
 have q1:=rZ g1.1 g1.2 pd
 have q2:=rZ g2.1 g2.2 pu
 clear pd pu hf g1 g2
 by_cases hr:(r0:Int)<9218868437227405312
 ·obtain⟨t1,t2,t3,t0⟩:=rT (ng:=ng) (left:=left) hr
  have hl:left≠0:=by
   have o':(decide (left≠0)||decide (9218868437227405312<=(r0:Int)))=true:=o
   rw[decide_eq_false (p:=9218868437227405312<=(r0:Int)) (Int.not_le.2 hr),Bool.or_false] at o'
   exact of_decide_eq_true o'
  have hAl:vS r0<A:=by
   rcases Int.lt_or_eq_of_le hR.lo with h|h
   ·exact h
   ·exact absurd (hR.l0.2 h.symm) hl
  have l1:=hR.l1
  have l2:=hR.l2
  have l3:=hR.l3
  clear hR t3 t0 hA
  have V0:=k8 (ng:=ng) hr
  cases ng
  ·have e1:aN 1 false r0 left=(r0:Int):=by rw[t1,if_neg (fun h=>by cases h.2)]
   have e2:aN 2 false r0 left=((r0+1:Nat):Int):=by rw[t2,if_pos ⟨hl,rfl⟩]
   rw[e1] at f1
   rw[e2] at f2 q2
   have V1:=k8 (ng:=false) q2
   obtain⟨n1,n2,n3⟩:=uz l1 l2 l3 hAl
   refine uE.of f1 f2 f0 V0 V1 ?_ ?_ ?_
   ·intro h
    rw[hV] at h
    have:=n1 h
    subst this
    rw[uB hr]
   ·intro h
    rw[hV] at h
    have:=n2 h
    subst this
    rw[uC hr]
   ·intro h
    rw[hV] at h
    have:=n3 h
    subst this
    exact oc (uD hr)
  ·have e1:aN 1 true r0 left=((r0+1:Nat):Int):=by rw[t1,if_pos ⟨hl,rfl⟩]
   have e2:aN 2 true r0 left=(r0:Int):=by rw[t2,if_neg (fun h=>by cases h.2)]
   rw[e1] at f1 q1
   rw[e2] at f2
   have V1:=k8 (ng:=true) q1
   obtain⟨n1,n2,n3⟩:=uA l1 l2 l3 hAl
   refine uE.of f1 f2 f0 V1 V0 ?_ ?_ ?_
   ·intro h
    rw[hV] at h
    have:=n1 h
    subst this
    rw[uC hr]
   ·intro h
    rw[hV] at h
    have:=n2 h
    subst this
    rw[uB hr]
   ·intro h
    rw[hV] at h
    have:=n3 h
    subst this
    exact oc (uD hr)
 ·exfalso
  obtain⟨t1,t2,t3,t0⟩:=rV (ng:=ng) (left:=left) hr
  rw[t1] at q1
  rw[t2] at q2
  clear f1 f2 f0 o hV hA hR
  cases ng
  ·rw[if_neg (by decide)] at q2;omega
  ·rw[if_pos rfl] at q1;omega
end Go.Proofs.YtkkpppgfoilgmaaGreatDoor
namespace Go.Proofs.YtkkpppgfoilgmaaGreatDoor.M
open Go Go.Proofs.Tryz
theorem pS {b:Int} (hb:au b) (h4:¬ aD b=4) (hi:¬ b=9218868437227405312):aj (next b)=aj b+1∧¬ aD (next b)=4∧place b<place (next b)∧¬ next b=-4503599627370496:=by
 have n:=fI h4
 unfold au at hb
 unfold next
 rw[if_neg h4,if_neg hi]
 by_cases h1:b=-9223372036854775808
 ·subst h1;rw[if_pos rfl];refine⟨by decide,by decide,by decide,by decide⟩
 ·rw[if_neg h1]
  by_cases h2:b<0
  ·rw[if_pos h2]
   refine⟨?_,?_,?_,?_⟩
   ·unfold aj;split<;>omega
   ·rw[lY];unfold bk bF at *;omega
   ·unfold place;split<;>omega
   ·unfold bk bF at n;omega
  ·rw[if_neg h2]
   refine⟨?_,?_,?_,?_⟩
   ·unfold aj;split<;>omega
   ·rw[lY];unfold bk bF at *;omega
   ·unfold place;split<;>omega
   ·unfold bk bF at n;omega
theorem nw {b:Int} (hb:au b) (h4:¬ aD b=4):aj (neg b)=- aj b∧¬ aD (neg b)=4:=by
 have n:=fI h4
 unfold au at hb
 unfold neg
 rw[if_neg h4]
 by_cases h2:b<0
 ·rw[if_pos h2]
  refine⟨?_,?_⟩
  ·unfold aj;split<;>omega
  ·rw[lY];unfold bk bF at *;omega
 ·rw[if_neg h2]
  refine⟨?_,?_⟩
  ·unfold aj;split<;>omega
  ·rw[lY];unfold bk bF at *;omega
theorem wA {b:Int} (hb:au b) (h4:¬ aD b=4) (hi:¬ b=-4503599627370496):aj (dJ b)=aj b-1∧¬ aD (dJ b)=4:=by
 obtain⟨a1,a2⟩:=nw hb h4
 have r1:=rt hb
 have hi':¬ neg b=9218868437227405312:=by
  unfold neg;rw[if_neg h4];unfold au at hb;split<;>omega
 obtain⟨c1,c2,_,_⟩:=pS r1 a2 hi'
 obtain⟨d1,d2⟩:=nw (vN r1) c2
 unfold dJ
 refine⟨by omega,d2⟩
theorem pT:next 9218868437227405312=9218868437227405312:=by decide
/-! the order of all -/
end Go.Proofs.YtkkpppgfoilgmaaGreatDoor.M
namespace Go.Proofs.YtkkpppgfoilgmaaGreatDoor.M
open Go Go.Proofs.Tryz Ieee
theorem wB (neg:Bool) (n:Nat):Toward.even.cut neg n 0=n:=by
 unfold Toward.cut
 have h1:n % 1=0:=Nat.mod_one n
 simp[h1]
theorem mH:Ieee.double.leastPlace=-1074:=by decide
end Go.Proofs.YtkkpppgfoilgmaaGreatDoor.M
namespace Go.Proofs.YtkkpppgfoilgmaaGreatDoor
open Go Go.Proofs.Tryz Go.RowKit Go.Proofs.YtkkpppgfoilgmaaGreatDoor.M Ieee
def nC (t D:Nat):Int:=if t=0 then 0 else if 2*t<D then 1 else if 2*t=D then 2 else 3
theorem pV {mag u t D:Nat} {q:Int} (hq:0<q) (hm:mag=u*D+t) (ht:t<D):M.gd ((mag:Int)*q) u ((D:Int)*q) (nC t D):=by
 have e:(mag:Int)*q=(u:Int)*((D:Int)*q)+(t:Int)*q:=by
  rw[hm];push_cast;rw[Int.add_mul,Int.mul_assoc]
 have k1:∀ a b:Nat,a<b->(a:Int)*q<(b:Int)*q:=fun a b h=>Int.mul_lt_mul_of_pos_right (by omega) hq
 have t0:0<=(t:Int)*q:=Int.mul_nonneg (by omega) (Int.le_of_lt hq)
 have t1:=k1 t D ht
 have e2:((2*t:Nat):Int)*q=2*((t:Int)*q):=by push_cast;rw[Int.mul_assoc]
 have z1:2*t<D->2*((t:Int)*q)<(D:Int)*q:=fun h=>by rw[<- e2];exact k1 _ _ h
 have z2:2*t=D->2*((t:Int)*q)=(D:Int)*q:=fun h=>by rw[<- e2,h]
 have z3:D<2*t->(D:Int)*q<2*((t:Int)*q):=fun h=>by rw[<- e2];exact k1 _ _ h
 have z4:0<t->0<(t:Int)*q:=fun h=>Int.mul_pos (by omega) hq
 have z5:t=0->(t:Int)*q=0:=fun h=>by rw[h];simp
 obtain⟨U,hU⟩:∃ U,(u:Int)*((D:Int)*q)=U:=⟨_,rfl⟩
 rw[e,hU]
 generalize (t:Int)*q=T at *
 generalize (D:Int)*q=R at *
 unfold nC
 by_cases c0:t=0
 ·rw[if_pos c0]
  have:=z5 c0
  exact M.gd.mk' hU (by omega) (by omega) (by constructor<;>intro h<;>omega) (by constructor<;>intro h<;>omega) (by constructor<;>intro h<;>omega) (by constructor<;>intro h<;>omega)
 ·have:=z4 (by omega)
  rw[if_neg c0]
  by_cases c1:2*t<D
  ·rw[if_pos c1]
   have:=z1 c1
   exact M.gd.mk' hU (by omega) (by omega) (by constructor<;>intro h<;>omega) (by constructor<;>intro h<;>omega) (by constructor<;>intro h<;>omega) (by constructor<;>intro h<;>omega)
  ·rw[if_neg c1]
   by_cases c2:2*t=D
   ·rw[if_pos c2]
    have:=z2 c2
    exact M.gd.mk' hU (by omega) (by omega) (by constructor<;>intro h<;>omega) (by constructor<;>intro h<;>omega) (by constructor<;>intro h<;>omega) (by constructor<;>intro h<;>omega)
   ·rw[if_neg c2]
    have:=z3 (by omega)
    exact M.gd.mk' hU (by omega) (by omega) (by constructor<;>intro h<;>omega) (by constructor<;>intro h<;>omega) (by constructor<;>intro h<;>omega) (by constructor<;>intro h<;>omega)
theorem Ax (neg odd:Bool) (t D:Nat) (ht:t<D):aW 0 neg odd (nC t D)=(decide (D<2*t)||(decide (D=2*t)&&odd)):=by
 unfold aW nC
 rw[if_pos rfl]
 by_cases c0:t=0
 ·rw[if_pos c0,decide_eq_false (p:=D<2*t) (by omega),decide_eq_false (p:=D=2*t) (by omega)]
  simp
 ·rw[if_neg c0]
  by_cases c1:2*t<D
  ·rw[if_pos c1,decide_eq_false (p:=D<2*t) (by omega),decide_eq_false (p:=D=2*t) (by omega)]
   simp
  ·rw[if_neg c1]
   by_cases c2:2*t=D
   ·rw[if_pos c2,decide_eq_false (p:=D<2*t) (by omega),decide_eq_true (p:=D=2*t) (by omega)]
    simp
   ·rw[if_neg c2,decide_eq_true (p:=D<2*t) (by omega)]
    simp
theorem wC (neg:Bool) (n d:Nat) (hn:n≠0):Toward.even.cut neg n d=n/2^d+(if aW 0 neg (decide (n/2^d % 2=1)) (nC (n % 2^d) (2^d)) then 1 else 0):=by
 have h2:n<2^(n.log2+1):=Nat.lt_log2_self
 have hD:=Nat.two_pow_pos d
 rw[Ax _ _ _ _ (Nat.mod_lt _ hD)]
 unfold Toward.cut
 dsimp only
 by_cases h:d<=n.log2+2
 ·rw[Nat.min_eq_left h,Nat.shiftLeft_eq,Nat.one_mul]
  congr 1
  have e1:(2^d == 2*(n % 2^d))=decide (2^d=2*(n % 2^d)):=rfl
  have e2:(n/2^d % 2 == 1)=decide (n/2^d % 2=1):=rfl
  rw[e1,e2]
  cases (decide (2^d<2*(n % 2^d))||decide (2^d=2*(n % 2^d))&&decide (n/2^d % 2=1))<;>rfl
 ·rw[Nat.min_eq_right (by omega),Nat.shiftLeft_eq,Nat.one_mul]
  have h3:2^(n.log2+2)=2*2^(n.log2+1):=by rw[Nat.pow_succ,Nat.mul_comm]
  have h4:2^(n.log2+2)<=2^d:=Nat.pow_le_pow_right (by decide) (by omega)
  have q1:n/2^(n.log2+2)=0:=Nat.div_eq_of_lt (by omega)
  have q2:n % 2^(n.log2+2)=n:=Nat.mod_eq_of_lt (by omega)
  have q3:n/2^d=0:=Nat.div_eq_of_lt (by omega)
  have q4:n % 2^d=n:=Nat.mod_eq_of_lt (by omega)
  rw[q1,q2,q3,q4,decide_eq_false (p:=2^d<2*n) (by omega),decide_eq_false (p:=2^d=2*n) (by omega),decide_eq_false (p:=2^(n.log2+2)<2*n) (by omega)]
  have e1:(2^(n.log2+2) == 2*n)=decide (2^(n.log2+2)=2*n):=rfl
  rw[e1,decide_eq_false (p:=2^(n.log2+2)=2*n) (by omega)]
  rfl
end Go.Proofs.YtkkpppgfoilgmaaGreatDoor
