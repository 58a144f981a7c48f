/- Parts of the proof. -/
import Derived.Test.YtkkpppgfoilgmaaGreatDoorPart8
import Derived.Test.YtkkpppgfoilgmaaGreatDoorPart1
import Derived.Test.YtkkpppgfoilgmaaGreatDoorPart6
import Derived.Laws.FloatArith
set_option maxRecDepth 100000
set_option maxHeartbeats 8000000
set_option linter.unusedVariables false
set_option linter.unusedSimpArgs false
namespace Go.Proofs.YtkkpppgfoilgmaaGreatDoor
open Go Go.Proofs.Tryz Go.RowKit Go.Proofs.YtkkpppgfoilgmaaGreatDoor.M Ieee
theorem mH:Ieee.double.leastPlace=-1074:=by decide
theorem BT:Ieee.double.fractionBits=52:=by decide
theorem iu:Ieee.double.binade=4503599627370496:=by decide
def j5 (mag:Nat) (place:Int):Int:=max (place+(mag.log2:Int)-52) (-1074)
theorem pW (neg:Bool) {mag:Nat} (place:Int) (h:mag≠0):Ieee.double.nearest neg mag place=Ieee.double.word neg (min ((j5 mag place+1074).toNat*4503599627370496+Toward.even.cut neg (mag*2^(place-j5 mag place).toNat) (j5 mag place-place).toNat) 9218868437227405312):=by
 unfold Format.nearest
 rw[if_neg h,mH,BT,iu,iP]
 dsimp only
 rw[Nat.shiftLeft_eq,show(j5 mag place+1074)=(j5 mag place - -1074) by omega]
 rfl
theorem Ay {r:Nat} {up:Bool} {neg:Bool} {left:Int} (hup:aW 0 neg (decide (r % 2=1)) left=up):((min (r+(if up=true then 1 else 0)) 9218868437227405312:Nat):Int)=aN 0 neg r left:=by
 unfold aN
 rw[hup]
 by_cases h:(r:Int)<9218868437227405312
 ·rw[if_pos h]
  cases up
  ·simp only[Bool.false_eq_true,if_false];omega
  ·simp only[if_true];omega
 ·rw[if_neg h]
  have hb:ce 0 neg=9218868437227405312:=by cases neg<;>rfl
  rw[hb]
  split<;>omega
theorem wD (a u:Nat):decide ((a*4503599627370496+u) % 2=1)=decide (u % 2=1):=by congr 1;apply propext;omega
theorem la (neg:Bool) {mag:Nat} {place:Int} (h:mag≠0) (hp:-4194304<=place) :
  ∃ (r0:Nat) (left:Int),co ((mag:Int)*pw place) r0 left∧Ieee.double.nearest neg mag place=Ieee.double.word neg (aN 0 neg r0 left).toNat:=by
 rw[pW neg place h]
 have h1:=Nat.log2_self_le h
 have h2:mag<2^(mag.log2+1):=Nat.lt_log2_self
 have hL:j5 mag place=max (place+(mag.log2:Int)-52) (-1074):=rfl
 obtain⟨l,hl⟩:∃ l,j5 mag place=l:=⟨_,rfl⟩
 rw[hl] at hL ⊢
 have hl0:-1074<=l:=by omega
 have hl1:place+(mag.log2:Int)-52<=l:=by omega
 have hl2:-1074<l->l=place+(mag.log2:Int)-52:=by omega
 obtain⟨a,ha⟩:∃ a:Nat,(l+1074).toNat=a:=⟨_,rfl⟩
 have hal:l=-1074+(a:Int):=by omega
 have e52:(2:Nat)^52=4503599627370496:=by decide
 have e53:(2:Nat)^53=9007199254740992:=by decide
 rw[ha]
 -- u units of 2^l and what is left
 have main:∃ (u:Nat) (left:Int),M.gd ((mag:Int)*pw place) u (pw l) left∧Toward.even.cut neg (mag*2^(place-l).toNat) (l-place).toNat=u+(if aW 0 neg (decide (u % 2=1)) left then 1 else 0)∧u<9007199254740992∧(0<a->4503599627370496<=u):=by
  by_cases hs:l<=place
  ·obtain⟨k,hk⟩:∃ k:Nat,(place-l).toNat=k:=⟨_,rfl⟩
   have hpl:place=l+(k:Int):=by omega
   rw[hk,show(l-place).toNat=0 by omega,wB]
   refine⟨mag*2^k,0,?_,?_,?_,?_⟩
   ·have e:(mag:Int)*pw place=((mag*2^k:Nat):Int)*pw l:=by
     rw[hpl,dM (by omega),Int.mul_comm (pw l)]
     push_cast
     rw[Int.mul_assoc]
    have:=pV (mag:=mag*2^k) (u:=mag*2^k) (t:=0) (D:=1) (bD l) (by omega) (by decide)
    rw[e]
    have e1:((1:Nat):Int)*pw l=pw l:=by rw[Int.natCast_one,Int.one_mul]
    rw[e1] at this
    exact this
   ·have:aW 0 neg (decide (mag*2^k % 2=1)) 0=false:=by
     cases hu:aW 0 neg (decide (mag*2^k % 2=1)) 0
     ·rfl
     ·exact(ef hu).elim
    rw[this]
    rfl
   ·have b1:mag*2^k<2^(mag.log2+1)*2^k:=Nat.mul_lt_mul_of_pos_right h2 (Nat.two_pow_pos _)
    rw[<- Nat.pow_add] at b1
    have b2:2^(mag.log2+1+k)<=2^53:=Nat.pow_le_pow_right (by decide) (by omega)
    omega
   ·intro h0
    have b1:2^mag.log2*2^k<=mag*2^k:=Nat.mul_le_mul_right _ h1
    rw[<- Nat.pow_add] at b1
    have b2:2^52<=2^(mag.log2+k):=Nat.pow_le_pow_right (by decide) (by have:=hl2 (by omega);omega)
    omega
  ·obtain⟨k,hk⟩:∃ k:Nat,(l-place).toNat=k:=⟨_,rfl⟩
   have hpl:l=place+(k:Int):=by omega
   rw[hk,show(place-l).toNat=0 by omega,Nat.pow_zero,Nat.mul_one,wC neg mag k h]
   have hD:=Nat.two_pow_pos k
   have hdm:=Nat.div_add_mod mag (2^k)
   have hml:=Nat.mod_lt mag hD
   refine⟨mag/2^k,nC (mag % 2^k) (2^k),?_,rfl,?_,?_⟩
   ·have:=pV (mag:=mag) (u:=mag/2^k) (t:=mag % 2^k) (D:=2^k) (bD place) (by rw[Nat.mul_comm];exact hdm.symm) hml
    have e:pw l=((2^k:Nat):Int)*pw place:=by
     rw[hpl,dM hp,Int.mul_comm]
     push_cast
     rfl
    rw[e]
    exact this
   ·rw[Nat.div_lt_iff_lt_mul hD,<- e53,<- Nat.pow_add]
    exact Nat.lt_of_lt_of_le h2 (Nat.pow_le_pow_right (by decide) (by omega))
   ·intro h0
    rw[Nat.le_div_iff_mul_le hD,<- e52,<- Nat.pow_add]
    exact Nat.le_trans (Nat.pow_le_pow_right (by decide) (by have:=hl2 (by omega);omega)) h1
 obtain⟨u,left,hLeft,hcut,hu1,hu2⟩:=main
 rw[hcut]
 have hV:=jw Ieee.double a u (by rw[iu];omega) (fun q=>by rw[iu];exact hu2 q)
 rw[iu] at hV
 have hpw:pw l=2^a*pw (-1074):=by rw[hal,dM (by decide),Int.mul_comm]
 rw[hpw] at hLeft
 refine⟨a*4503599627370496+u,left,kX hLeft hV.1 hV.2,?_⟩
 have hm:=Ay (r:=a*4503599627370496+u) (neg:=neg) (left:=left) rfl
 rw[wD] at hm
 rw[<- hm,Int.toNat_natCast,Nat.add_assoc]
end Go.Proofs.YtkkpppgfoilgmaaGreatDoor
namespace Go.Proofs.YtkkpppgfoilgmaaGreatDoor
open Go Go.Proofs.Tryz Go.RowKit Go.Proofs.YtkkpppgfoilgmaaGreatDoor.M
theorem nD {b:Int} (h:aB b=true):Bd 4000 (aM b):=by
 obtain⟨i0,i1,i2,i3⟩:=gH h
 have h30:(9007199254740992:Int)<=P 30:=by unfold P;decide
 exact Ar i0 (Int.lt_of_lt_of_le (by omega) h30) (by omega) (by omega)
theorem Bd.sub {B:Nat} {V W:Int} (h:Bd B V) (k:Bd B W) (hB:B<4194304):Bd (B+1) (V-W):=by
 rw[Int.sub_eq_add_neg]
 exact h.add k.neg hB
theorem xH {b:Int} {w:World} (h:aB b=true) (H:aA w):Calls prog 140 #[.int .i64 b] w fun r w'=>∃ v,r=.returned (.tuple #[v,.int .i64 0])∧aZ w w' (aM b) v:=by
 refine(rN b w H.lay H.tab).mono ?_
 rintro _ w' ⟨v,er,rfl,hb,(⟨_,rfl,hD⟩|⟨h',_⟩)⟩
 ·exact⟨v,rfl,hD⟩
 ·rw[h] at h';cases h'
theorem BU {b:Int} {w:World} (h:aB b=false) (H:aA w):Calls prog 140 #[.int .i64 b] w fun r w'=>r=.returned (.tuple #[.agg #[.bool false,.slice none 0 0,.int .i64 0],.int .i64 10])∧Below w.heap.size w w':=by
 refine(rN b w H.lay H.tab).mono ?_
 rintro _ w' ⟨v,er,rfl,hb,(⟨h',_⟩|⟨_,rfl,rfl⟩)⟩
 ·rw[h] at h';cases h'
 ·exact⟨rfl,hb⟩
theorem r6 {s:Bool} {r:Int} (h0:0<=r) (h1:r<=9218868437227405312) (h:s=true->0<r):aD (aw s r)≠4:=by
 obtain⟨a,b,_⟩:=gk h0 h1 h
 intro q
 have:=(eY a).1.1 q
 omega
theorem yF {s:Bool} {r:Int} (h0:0<=r) (h1:r<=9218868437227405312) (h:s=true->0<r):aj (aw s r)=sg s r:=by
 unfold aj aw sg
 cases s
 ·simp only[Bool.false_eq_true,if_false]
  rw[if_neg (by omega)]
 ·have:=h rfl
  simp only[if_true]
  rw[if_pos (by omega)]
  omega
theorem wE {a b:Int} (h:aj b<=aj a):bP a b=false:=by
 unfold bP
 rw[decide_eq_false (p:=aj a<aj b) (by omega),Bool.and_false,Bool.and_false]
theorem wF {way:Int} {ng odd:Bool} {A B a b l k:Int} (h0:l=0↔A=a) (h2:l=2↔2*A=a+b) (h3:l=3↔a+b<2*A) (g0:k=0↔B=a) (g2:k=2↔2*B=a+b) (g3:k=3↔a+b<2*B) (lo:a<=A) (AB:A<=B)
  (h:aW way ng odd l=true):aW way ng odd k=true:=by
 have nz:l≠0->k≠0:=fun q e=>by
  have e1:=g0.1 e
  exact q (h0.2 (by omega))
 unfold aW at *
 split at h
 ·rename_i e
  rw[if_pos e]
  simp only[Bool.or_eq_true,Bool.and_eq_true,decide_eq_true_eq] at *
  rcases h with h|⟨h,ho⟩
  ·left;exact g3.2 (by have:=h3.1 h;omega)
  ·have e2:=h2.1 h
   by_cases e3:2*B=a+b
   ·right;exact⟨g2.2 e3,ho⟩
   ·left;exact g3.2 (by omega)
 ·rename_i e
  rw[if_neg e]
  split at h
  ·rename_i e2
   rw[if_pos e2]
   simp only[Bool.and_eq_true,decide_eq_true_eq] at *
   exact⟨nz h.1,h.2⟩
  ·rename_i e2
   rw[if_neg e2]
   split at h
   ·rename_i e3
    rw[if_pos e3]
    simp only[Bool.and_eq_true,decide_eq_true_eq] at *
    exact⟨nz h.1,h.2⟩
   ·cases h
theorem yG {A B:Int} {r s:Nat} {l k:Int} (h:co A r l) (g:co B s k) (AB:A<=B):r<=s:=by
 rcases Nat.lt_or_ge s r with q|q
 ·exfalso
  have h1:=h.lo
  have g1:=g.hi
  have e:vS (s+1)<=vS r:=by
   rcases Nat.lt_or_eq_of_le (show s+1<=r from q) with q2|q2
   ·exact Int.le_of_lt (gh q2)
   ·rw[q2];exact Int.le_refl _
  exact absurd (Int.lt_of_lt_of_le g1 (Int.le_trans e (Int.le_trans h1 AB))) (Int.lt_irrefl _)
 ·exact q
theorem pZ {way:Int} {ng:Bool} {A B:Int} {r s:Nat} {l k:Int} (h:co A r l) (g:co B s k) (AB:A<=B):aN way ng r l<=aN way ng s k:=by
 have hrs:=yG h g AB
 rcases Nat.lt_or_eq_of_le hrs with q|q
 ·clear h g
  unfold aN
  by_cases hs:(s:Int)<9218868437227405312
  ·rw[if_pos hs,if_pos (by omega)]
   split<;>split<;>omega
  ·rw[if_neg hs]
   by_cases hr:(r:Int)<9218868437227405312
   ·rw[if_pos hr]
    unfold ce
    cases hu:aW way ng (decide (r % 2=1)) l
    ·simp only[Bool.false_eq_true,if_false]
     split<;>omega
    ·rw[if_pos rfl,if_pos (mi hu)]
     omega
   ·rw[if_neg hr]
    exact Int.le_refl _
 ·subst q
  have lo:=h.lo
  have h0:=h.l0
  have h2:=h.l2
  have h3:=h.l3
  have g0:=g.l0
  have g2:=g.l2
  have g3:=g.l3
  have hm:=fun odd=>@wF way ng odd A B (vS r) (vS (r+1)) l k h0 h2 h3 g0 g2 g3 lo AB
  clear h g lo h0 h2 h3 g0 g2 g3
  unfold aN
  by_cases hr:(r:Int)<9218868437227405312
  ·rw[if_pos hr,if_pos hr]
   cases hu:aW way ng (decide (r % 2=1)) l
   ·simp only[Bool.false_eq_true,if_false]
    split<;>omega
   ·rw[hm _ hu]
    exact Int.le_refl _
  ·rw[if_neg hr,if_neg hr]
   exact Int.le_refl _
theorem lb (r:Nat):0<=vS r:=by
 rcases Nat.eq_zero_or_pos r with h|h
 ·subst h;rw[dQ];exact Int.le_refl _
 ·have:=gh h
  rw[dQ] at this
  exact Int.le_of_lt this
theorem Az (ng:Bool) {r:Int} (h0:0<=r):sg (ng&&decide (0<r)) r=sg ng r:=by
 by_cases h:0<r
 ·rw[decide_eq_true h,Bool.and_true]
 ·obtain rfl:r=0:=by omega
  cases ng<;>rfl
theorem iU.key {V:Int} {ng:Bool} {f:Int->Int × Bool} {A:Int} {r0:Nat} {left:Int} {way:Int} (hf:f way=(aw (ng&&decide (0<aN way ng r0 left)) (aN way ng r0 left),decide (left≠0)||decide (9218868437227405312<=(r0:Int)))) :
  M.aj (f way).1=sg ng (aN way ng r0 left)∧aD (f way).1≠4∧au (f way).1:=by
 obtain⟨g1,g2⟩:=bT way ng r0 left
 rw[hf]
 exact⟨(yF g1 g2 jB).trans (Az ng g1),r6 g1 g2 jB,(gk g1 g2 jB).1⟩
theorem BV {ng mg:Bool} {A B r s:Int} (hA:0<=A) (hB:0<=B) (zB:mg=true->0<B) (r0:0<=r) (s0:0<=s) (h:sg ng A<=sg mg B) (up:ng=mg->A<=B->r<=s) (dn:ng=mg->B<=A->s<=r):sg ng r<=sg mg s:=by
 cases ng<;>cases mg
 ·exact up rfl h
 ·exfalso
  have h':A <= -B:=h
  have:=zB rfl
  omega
 ·show -r<=s
  omega
 ·have h':-A <= -B:=h
  have:=dn rfl (by omega)
  show -r <= -s
  omega
theorem r7 {V U:Int} {ng mg:Bool} {f g:Int->Int × Bool} (h:iU V ng f) (k:iU U mg g) (hVU:V<=U) (way:Int):bP (g way).1 (f way).1=false:=by
 obtain⟨A,r,l,eV,zA,RA,hf⟩:=h
 obtain⟨B,s,m,eU,zB,RB,hg⟩:=k
 have kf:=(iU.key (V:=V) (A:=A) (hf way)).1
 have kg:=(iU.key (V:=U) (A:=B) (hg way)).1
 have hA:0<=A:=Int.le_trans (lb r) RA.lo
 have hB:0<=B:=Int.le_trans (lb s) RB.lo
 refine wE ?_
 rw[kf,kg]
 rw[eV,eU] at hVU
 refine BV hA hB zB (bT way ng r l).1 (bT way mg s m).1 hVU (fun e AB=>?_) (fun e BA=>?_)
 ·subst e;exact pZ RA RB AB
 ·subst e;exact pZ RB RA BA
structure Da (U S d:Int) (o:Bool):Prop where
 rg:au d
 fin:aB d=true->aM d*S<=U∧(aM d*S=U↔o=false)
 nxt:aB (next d)=true->U<aM (next d)*S
 neg:aB d=false->d<0
theorem wG {r:Int} (h0:0<=r) (h1:r<9218868437227405312):next (aw false r)=aw false (r+1):=by
 have hc:=r6 (s:=false) (r:=r) h0 (by omega) (fun h=>by cases h)
 unfold next
 rw[if_neg hc]
 show(if r=9218868437227405312 then r else if r=-9223372036854775808 then 1 else if r<0 then r-1 else r+1)=r+1
 rw[if_neg (by omega),if_neg (by omega),if_neg (by omega)]
theorem yH:bl (-9223372036854775808)=0:=by decide
theorem ml {r:Nat} (h:(r:Int)<9218868437227405312):aM (aw true (r:Int))=sg true (vS r):=by
 by_cases h0:r=0
 ·subst h0
  rw[dQ]
  show aM (-9223372036854775808)=sg true 0
  unfold aM
  rw[yH,dN,dN,Int.zero_mul]
 ·exact dz h (fun _=>by omega)
theorem yI {r:Int} (h0:0<=r) (h1:r<=9218868437227405312) (h:aB (aw false r)=true):r<9218868437227405312:=by
 rw[iT h0 h1 (fun q=>by cases q)] at h
 exact of_decide_eq_true h
theorem Da.pos {S A:Int} {r:Nat} {o:Bool} (hr:(r:Int)<9218868437227405312) (lo:vS r*S<=A) (eq:vS r*S=A↔o=false) (hi:((r+1:Nat):Int)<9218868437227405312->A<vS (r+1)*S):Da A S (aw false (r:Int)) o:=by
 have hv:aM (aw false (r:Int))=vS r:=by
  have:=dz (ng:=false) hr (fun h=>by cases h)
  rw[this]
  unfold sg
  rw[if_neg (by decide)]
 have hnx:next (aw false (r:Int))=aw false ((r+1:Nat):Int):=by
  rw[wG (by omega) hr];rfl
 refine⟨(gk (by omega) (by omega) (fun h=>by cases h)).1,fun _=>?_,fun h=>?_,fun h=>?_⟩
 ·rw[hv];exact⟨lo,eq⟩
 ·rw[hnx] at h ⊢
  have h1:=yI (by omega) (by omega) h
  have:=dz (ng:=false) h1 (fun h=>by cases h)
  rw[this]
  unfold sg
  rw[if_neg (by decide)]
  exact hi h1
 ·exfalso
  rw[iT (by omega) (by omega) (fun h=>by cases h)] at h
  exact absurd hr (of_decide_eq_false h)
structure mI (X:Int) (r0:Nat) (left:Int):Prop where
 lo:vS r0*vS r0<=X
 hi:X<vS (r0+1)*vS (r0+1)
 l0:left=0↔X=vS r0*vS r0
theorem BW {a b:Int} (h0:0<=a) (h:a<=b):a*a<=b*b:=Int.mul_le_mul h h h0 (Int.le_trans h0 h)
theorem mI.unique {X:Int} {r s:Nat} {l k:Int} (h:mI X r l) (g:mI X s k):r=s:=by
 have aj:∀ {r s:Nat} {l k:Int},mI X r l->mI X s k->¬ r<s:=fun {r s l k} h g q=>by
  have e:vS (r+1)<=vS s:=by
   rcases Nat.lt_or_eq_of_le (show r+1<=s from q) with q2|q2
   ·exact Int.le_of_lt (gh q2)
   ·rw[q2];exact Int.le_refl _
  exact absurd (Int.lt_of_lt_of_le h.hi (Int.le_trans (BW (lb _) e) g.lo)) (Int.lt_irrefl _)
 rcases Nat.lt_trichotomy r s with q|q|q
 ·exact absurd q (aj h g)
 ·exact q
 ·exact absurd q (aj g h)
theorem Bd.sg {B:Nat} {V:Int} (g:Bool) (h:Bd B V):Bd B (M.sg g V):=by
 cases g
 ·exact h
 ·exact h.neg
theorem yJ {b:Int} (hb:au b) (hp:aB b=true):∃ (ng:Bool) (r:Nat),(r:Int)=rg b∧(r:Int)<9218868437227405312∧aM b=sg ng (vS r):=by
 obtain⟨r0,r1⟩:=eN hb
 have hlt:rg b<9218868437227405312:=by
  have hne:=mz hp
  have hf:0<=bF b∧bF b<4503599627370496:=by unfold bF;omega
  have hg:0<=bk b∧bk b<2048:=by unfold bk;omega
  omega
 obtain⟨r,hr⟩:∃ r:Nat,(r:Int)=rg b:=⟨(rg b).toNat,Int.toNat_of_nonneg r0⟩
 have hs:b=aw (decide (b<0)) (r:Int):=by
  rw[hr]
  unfold aw rg
  by_cases h:b<0
  ·rw[decide_eq_true h,if_pos rfl,if_pos h];omega
  ·rw[decide_eq_false h,if_neg (by decide),if_neg h]
 refine⟨decide (b<0),r,hr,by rw[hr];exact hlt,?_⟩
 rw[<- hr] at hlt
 cases hd:decide (b<0)
 ·rw[hd] at hs
  rw[hs]
  exact dz hlt (fun h=>by cases h)
 ·rw[hd] at hs
  rw[hs]
  exact ml hlt
end Go.Proofs.YtkkpppgfoilgmaaGreatDoor
namespace Go.Proofs.YtkkpppgfoilgmaaGreatDoor
open Go Go.Proofs.Tryz Go.RowKit Go.Proofs.YtkkpppgfoilgmaaGreatDoor.M Ieee
theorem iI {ng:Bool} {r:Int} (h0:0<=r) (h1:r<=9218868437227405312):Ieee.double.word ng r.toNat=wd (aw ng r):=by
 unfold Format.word wd aw
 rw[fj]
 cases ng
 ·rw[if_neg (by decide),if_neg (by decide)];omega
 ·rw[if_pos rfl,if_pos rfl];omega
theorem oT {b:Int} (hb:au b) (hp:aB b=true):0<=rg b∧rg b<9218868437227405312:=by
 obtain⟨_,r,hr,hlt,_⟩:=yJ hb hp
 omega
theorem fM {b:Int} (hb:au b) (hp:aB b=true):aM b=sg (decide (b<0)) (vS (rg b).toNat):=by
 obtain⟨h0,h1⟩:=oT hb hp
 obtain⟨r,hr⟩:∃ r:Nat,(r:Int)=rg b:=⟨(rg b).toNat,Int.toNat_of_nonneg h0⟩
 have hs:b=aw (decide (b<0)) (r:Int):=by
  rw[hr]
  unfold aw rg
  by_cases h:b<0
  ·rw[decide_eq_true h,if_pos rfl,if_pos h];omega
  ·rw[decide_eq_false h,if_neg (by decide),if_neg h]
 rw[<- hr] at h1 ⊢
 rw[Int.toNat_natCast]
 cases hd:decide (b<0)
 ·rw[hd] at hs
  rw[hs]
  exact dz h1 (fun h=>by cases h)
 ·rw[hd] at hs
  rw[hs]
  exact ml h1
theorem cK {b:Int} (hb:au b) (hp:aB b=true):∃ m u:Nat,Ieee.double.read (wd b)=.number (decide (b<0)) m (-1074+(u:Int))∧aM b=sg (decide (b<0)) ((m:Int)*pw (-1074+(u:Int))):=by
 obtain⟨h0,h1⟩:=oT hb hp
 have hw:((wd b % 9223372036854775808:Nat):Int)=rg b:=ju hb
 have hw2:wd b % 9223372036854775808=(rg b).toNat:=by omega
 obtain⟨m,u,h,hm⟩:=fy Ieee.double (wd b) (by rw[fj,iP];omega)
 rw[fj,mH,pj hb] at h
 rw[fj,hw2] at hm
 refine⟨m,u,h,?_⟩
 have e:vS (rg b).toNat=(m:Int)*pw (-1074+(u:Int)):=by
  unfold vS
  rw[<- hm,dM (by decide),Int.mul_comm (pw (-1074))]
  generalize pw (-1074)=q
  push_cast
  rw[Int.mul_assoc]
 rw[fM hb hp,e]
theorem oe (s:Bool) (m k:Nat) {i base:Int} (h:i=base+(k:Int)) (hb:-4194304<=base):signed s m k*pw base=sg s ((m:Int)*pw i):=by
 rw[l6,h,dM hb,Int.mul_comm (pw base),<- Int.mul_assoc]
 have e:((m*2^k:Nat):Int)=(m:Int)*2^k:=by push_cast;rfl
 rw[e]
 generalize (m:Int)*2^k=t
 unfold sg
 cases s
 ·rfl
 ·show -t*pw base=-(t*pw base)
  rw[Int.neg_mul]
theorem og {t q:Int} (hq:0<q):t*q=sg (decide (t<0)) ((t.natAbs:Int)*q):=by
 by_cases h:t<0
 ·rw[decide_eq_true h]
  show t*q=-((t.natAbs:Int)*q)
  rw[<- Int.neg_mul,show -(t.natAbs:Int)=t by omega]
 ·rw[decide_eq_false h]
  show t*q=(t.natAbs:Int)*q
  rw[show(t.natAbs:Int)=t by omega]
theorem lS {t q:Int} (hq:0<q):t<0↔t*q<0:=by
 constructor
 ·exact fun h=>Int.mul_neg_of_neg_of_pos h hq
 ·intro h
  rcases Int.lt_or_le t 0 with g|g
  ·exact g
  ·exact absurd h (Int.not_lt.2 (Int.mul_nonneg g (Int.le_of_lt hq)))
theorem lT {t q:Int} (hq:0<q):t=0↔t*q=0:=by
 constructor
 ·intro h;rw[h,Int.zero_mul]
 ·intro h
  rcases Int.mul_eq_zero.1 h with g|g
  ·exact g
  ·omega
theorem mJ {S t base:Int} (hb:-4194304<=base) (hS:t*pw base=S) (h0:S≠0) :
  ∃ (A:Int) (r0:Nat) (left:Int),S=sg (decide (S<0)) A∧co A r0 left∧Ieee.double.nearest (decide (t<0)) t.natAbs base=wd (aw (decide (S<0)) (aN 0 (decide (S<0)) r0 left)):=by
 have hq:=bD base
 have ht:t≠0:=fun h=>h0 (by rw[<- hS,h,Int.zero_mul])
 have hd:decide (t<0)=decide (S<0):=by rw[<- hS];congr 1;exact propext (lS hq)
 obtain⟨r0,left,hR,hE⟩:=la (decide (t<0)) (mag:=t.natAbs) (place:=base) (by omega) hb
 refine⟨_,r0,left,?_,hR,?_⟩
 ·rw[<- hd,<- hS];exact og hq
 ·rw[hE,hd]
  obtain⟨g1,g2⟩:=bT 0 (decide (S<0)) r0 left
  exact iI g1 g2
theorem ld {g h:Bool} {x y p q r Z:Int} (e:p*q=r*Z):sg (g != h) (x*y*r)*Z=sg g (x*p)*sg h (y*q):=by
 rw[tT,iH]
 congr 1
 rw[Int.mul_assoc (x*y),<- e,Int.mul_assoc x y,Int.mul_assoc x p]
 congr 1
 rw[<- Int.mul_assoc,<- Int.mul_assoc,Int.mul_comm y p]
theorem mK (g h:Bool):(g ^^ h)=(g != h):=by cases g<;>cases h<;>rfl
theorem De {a b:Int} (ha:au a) (hb:au b) (pa:aB a=true) (pb:aB b=true) :
  ∃ D:Int,0<=D∧sg (decide (a<0) != decide (b<0)) D*2^4194304=aM a*aM b ∧
   (D=0->Ieee.double.mul (wd a) (wd b)=some (wd (aw (decide (a<0) != decide (b<0)) 0))) ∧
   (D≠0->∃ (r0:Nat) (left:Int),co D r0 left∧Ieee.double.mul (wd a) (wd b)=some (wd (aw (decide (a<0) != decide (b<0)) (aN 0 (decide (a<0) != decide (b<0)) r0 left)))):=by
 obtain⟨m,u,h1,v1⟩:=cK ha pa
 obtain⟨n,v,h2,v2⟩:=cK hb pb
 have hmul:Ieee.double.mul (wd a) (wd b)=some (Ieee.double.nearest (decide (a<0) != decide (b<0)) (m*n) (-1074+(u:Int)+(-1074+(v:Int)))):=by
  unfold Format.mul
  rw[h1,h2]
  unfold Datum.product
  dsimp only
  rw[mK]
  rfl
 have hpm:=kK (a:=-1074+(u:Int)) (b:=-1074+(v:Int)) (by omega) (by omega)
 have hB:-4194304 <= -1074+(u:Int)+(-1074+(v:Int)):=by omega
 have hq:=bD (-1074+(u:Int)+(-1074+(v:Int)))
 have hC:=ld (g:=decide (a<0)) (h:=decide (b<0)) (x:=(m:Int)) (y:=(n:Int)) hpm
 rw[<- v1,<- v2] at hC
 generalize -1074+(u:Int)+(-1074+(v:Int))=base at *
 have hcast:((m*n:Nat):Int)=(m:Int)*(n:Int):=by push_cast;rfl
 refine⟨(m:Int)*(n:Int)*pw base,Int.mul_nonneg (by rw[<- hcast];omega) (Int.le_of_lt hq),hC,fun h=>?_,fun h=>?_⟩
 ·have h0:m*n=0:=by
   rcases Int.mul_eq_zero.1 h with g|g
   ·rw[<- hcast] at g;omega
   ·omega
  rw[hmul,h0]
  unfold Format.nearest
  rw[if_pos rfl]
  have:=iI (ng:=decide (a<0) != decide (b<0)) (r:=0) (by decide) (by decide)
  rw[<- this]
  rfl
 ·have h0:m*n≠0:=fun e=>h (by rw[<- hcast,e];simp)
  obtain⟨r0,left,hR,hE⟩:=la (decide (a<0) != decide (b<0)) (place:=base) h0 hB
  rw[hcast] at hR
  refine⟨r0,left,hR,?_⟩
  rw[hmul,hE]
  obtain⟨g1,g2⟩:=bT 0 (decide (a<0) != decide (b<0)) r0 left
  rw[iI g1 g2]
def p5 (z:Nat):Prop:=z<18446744073709551616∧9218868437227405312<z % 9223372036854775808
theorem r8 (x y t:Nat):p5 ((Question.nanBits .f64 x y).cut t):=by
 have h:(Question.nanBits .f64 x y).cut t=(t % 2)*2^63+0x7ff0000000000000+1+(t/2) % (2^52-1):=rfl
 have e63:(2:Nat)^63=9223372036854775808:=by decide
 have e52:(2:Nat)^52-1=4503599627370495:=by decide
 rw[h,e63,e52]
 have hc:=Nat.mod_lt (t/2) (show 0<4503599627370495 by decide)
 have hm:t % 2=0∨t % 2=1:=by omega
 generalize t/2 % 4503599627370495=c at *
 unfold p5
 rcases hm with h2|h2
 ·rw[h2];omega
 ·rw[h2];omega
theorem mL {P:Program} (op:BinOp) (ho:op=.add∨op=.sub∨op=.mul∨op=.quo) (t:TypeId) (x y:Nat) (w:World) :
  ∃ z w',(binOp op t (.float .f64 x) (.float .f64 y)).run P w=.ok (.float .f64 z) w'∧((floatBits op .f64 x y=some z∧w'=w)∨(floatBits op .f64 x y=none∧p5 z∧w'=w.drew)):=by
 cases h:floatBits op .f64 x y with
 | some r=>exact⟨r,w,run_float_arith w op t .f64 x y r h,.inl ⟨rfl,rfl⟩⟩
 | none=>
  refine⟨_,w.drew,?_,.inr ⟨rfl,r8 x y (w.tape w.drawn (.nanBits .f64 x y)),rfl⟩⟩
  unfold floatBits at h
  rcases ho with rfl|rfl|rfl|rfl<;>simp only at h<;>simp[binOp,Op.floatArith,h]<;>exact fun hf=>absurd (show false=true from hf) (by decide)
def FW (p:Int) (x:Nat):Prop:=(aD p≠4∧au p∧x=wd p)∨(p=9221120237041090561∧p5 x)
def lf (x:Nat):Int:=if x<9223372036854775808 then (x:Int) else (x:Int)-18446744073709551616
theorem yK {p:Int} (h:au p):lf (wd p)=p:=by
 unfold au at h
 unfold lf wd
 split<;>omega
def bf (S:Int):Int:=lf (Ieee.double.nearest (decide (S<0)) S.natAbs (-4194304))
theorem p6:pw (-4194304)=1:=by unfold pw;rfl
theorem eZ {ng:Bool} {r:Int} (h0:0<=r) (h1:r<=9218868437227405312):au (aw ng r)∧aD (aw ng r)≠4:=by
 have hr:au (aw ng r):=by unfold au aw;cases ng<;>simp<;>omega
 refine⟨hr,fun q=>?_⟩
 have:=(eY hr).1.1 q
 unfold rg aw at this
 cases ng
 ·simp only[Bool.false_eq_true,if_false] at this;split at this<;>omega
 ·simp only[if_true] at this;split at this<;>omega
theorem fo {S:Int} (h:S≠0):∃ (A:Int) (r0:Nat) (left:Int),S=sg (decide (S<0)) A∧co A r0 left∧bf S=aw (decide (S<0)) (aN 0 (decide (S<0)) r0 left):=by
 obtain⟨A,r0,left,h1,h2,h3⟩:=mJ (S:=S) (t:=S) (base:=-4194304) (by decide) (by rw[p6,Int.mul_one]) h
 refine⟨A,r0,left,h1,h2,?_⟩
 unfold bf
 rw[h3]
 obtain⟨g1,g2⟩:=bT 0 (decide (S<0)) r0 left
 exact yK (eZ g1 g2).1
theorem ie {g:Bool} {A B:Int} (h:sg g A=sg g B):A=B:=by
 cases g
 ·exact h
 ·exact Int.neg_inj.1 h
def bX (p q:Int):Int :=
 if aD p=4∨aD q=4 then 9221120237041090561
 else if rg p=9218868437227405312 then (if rg q=9218868437227405312∧decide (p<0)≠decide (q<0) then 9221120237041090561 else p)
 else if rg q=9218868437227405312 then q
 else if aM p+aM q=0 then aw (decide (p<0)&&decide (q<0)) 0 else bf (aM p+aM q)
theorem bm {p:Int} (hp:au p):aB p=true↔rg p<9218868437227405312:=by
 obtain⟨r0,r1⟩:=eN hp
 have hf:0<=bF p∧bF p<4503599627370496:=by unfold bF;omega
 have hg:0<=bk p∧bk p<2048:=by unfold bk;omega
 unfold aB
 simp
 omega
theorem dA {p:Int} (hp:au p) (h:rg p=9218868437227405312):Ieee.double.read (wd p)=.infinity (decide (p<0)):=by
 have hw:((wd p % 9223372036854775808:Nat):Int)=rg p:=ju hp
 have:=jK Ieee.double tX (wd p) (by rw[fj,iP];omega)
 rwa [fj,pj hp] at this
theorem qY {p:Int} (hp:au p) (h:rg p=9218868437227405312):Ieee.double.write (.infinity (decide (p<0)))=wd p:=by
 unfold Format.write
 dsimp only
 rw[iP]
 have:=iI (ng:=decide (p<0)) (r:=9218868437227405312) (by decide) (by decide)
 have e:aw (decide (p<0)) 9218868437227405312=p:=by
  unfold rg at h
  unfold aw
  by_cases h0:p<0
  ·rw[if_pos h0] at h;rw[decide_eq_true h0,if_pos rfl];omega
  ·rw[if_neg h0] at h;rw[decide_eq_false h0,if_neg (by decide)];omega
 rw[e] at this
 exact this
theorem uF:aD 9221120237041090561=4:=by decide
theorem FW.nan {x:Nat} (h:p5 x):FW 9221120237041090561 x:=.inr ⟨rfl,h⟩
theorem FW.pat {p:Int} (h:aD p≠4) (hp:au p):FW p (wd p):=.inl ⟨h,hp,rfl⟩
theorem FW.read_nan {p:Int} {x:Nat} (h:FW p x) (h4:aD p=4):∃ s t,Ieee.double.read x=.nan s t:=by
 rcases h with⟨h,_⟩|⟨_,h⟩
 ·exact absurd h4 h
 ·exact M.pf Ieee.double tX x (by rw[fj,iP];exact h.2)
theorem FW.of {p:Int} {x:Nat} (h:FW p x) (h4:aD p≠4):au p∧x=wd p∧0<=rg p∧rg p<=9218868437227405312:=by
 rcases h with⟨_,h1,h2⟩|⟨h,_⟩
 ·obtain⟨r0,_⟩:=eN h1
  refine⟨h1,h2,r0,?_⟩
  rcases Int.lt_or_le 9218868437227405312 (rg p) with g|g
  ·exact absurd ((eY h1).1.2 g) h4
  ·exact g
 ·rw[h] at h4;exact absurd uF h4
theorem e9 {S:Int} (h:S≠0):au (bf S)∧aD (bf S)≠4:=by
 obtain⟨A,r0,left,_,_,e⟩:=fo h
 rw[e]
 obtain⟨g1,g2⟩:=bT 0 (decide (S<0)) r0 left
 exact eZ g1 g2
def aU (p q:Int):Bool:=decide (p<0) != decide (q<0)
def df (p q:Int):Int:=sg (aU p q) (aM p*aM q/2^4194304)
def aL (p q:Int):Int :=
 if aD p=4∨aD q=4 then 9221120237041090561
 else if rg p=9218868437227405312∨rg q=9218868437227405312 then (if rg p=0∨rg q=0 then 9221120237041090561 else aw (aU p q) 9218868437227405312)
 else if df p q=0 then aw (aU p q) 0 else bf (sg (aU p q) (df p q))
theorem mo {g:Bool} {D Z C:Int} (hZ:0<Z) (h:sg g D*Z=C):sg g (C/Z)=D:=by
 rw[<- h,Int.mul_ediv_cancel _ (Int.ne_of_gt hZ)]
 cases g
 ·rfl
 ·exact Int.neg_neg D
theorem wH {g:Bool} {D:Int} {r0:Nat} {left:Int} (h0:0<D) (hR:co D r0 left):bf (sg g D)=aw g (aN 0 g r0 left):=by
 have hd:decide (sg g D<0)=g:=by
  cases g
  ·exact decide_eq_false (by show ¬ D<0;omega)
  ·exact decide_eq_true (by show -D<0;omega)
 have hn:sg g D≠0:=by
  cases g
  ·show D≠0;omega
  ·show -D≠0;omega
 obtain⟨A,s0,k,e1,e2,e3⟩:=fo hn
 rw[hd] at e1 e3
 have:=ie e1
 subst this
 obtain⟨h1,h2⟩:=hR.unique e2
 subst h1 h2
 exact e3
theorem wI {p q:Int} (hp:au p) (hq:au q) (pp:aB p=true) (pq:aB q=true):Ieee.double.mul (wd p) (wd q)=some (wd (if df p q=0 then aw (aU p q) 0 else bf (sg (aU p q) (df p q)))):=by
 obtain⟨D,d0,d1,d2,d3⟩:=De hp hq pp pq
 have hf:df p q=D:=mo (aF 4194304) d1
 rw[hf]
 by_cases h:D=0
 ·rw[if_pos h];exact d2 h
 ·rw[if_neg h]
  obtain⟨r0,left,hR,hE⟩:=d3 h
  rw[hE,wH (by omega) hR]
  rfl
theorem gm (g:Bool):Ieee.double.write (.infinity g)=wd (aw g 9218868437227405312):=by
 unfold Format.write
 dsimp only
 rw[iP]
 exact iI (ng:=g) (r:=9218868437227405312) (by decide) (by decide)
theorem j6 {q:Int} {m u:Nat} (hq:au q) (pq:aB q=true) (h:aM q=sg (decide (q<0)) ((m:Int)*pw (-1074+(u:Int)))):m=0↔rg q=0:=by
 have e:=fM hq pq
 rw[h] at e
 have e2:=ie e
 obtain⟨r0,r1⟩:=oT hq pq
 constructor
 ·intro hm
  rw[hm] at e2
  have e3:vS (rg q).toNat=0:=by rw[<- e2];simp
  rcases Nat.eq_zero_or_pos (rg q).toNat with g|g
  ·omega
  ·have:=gh g
   rw[dQ,e3] at this
   exact absurd this (Int.lt_irrefl _)
 ·intro hr
  rw[hr] at e2
  have e3:(m:Int)*pw (-1074+(u:Int))=0:=by rw[e2];exact dQ
  have:=(lT (bD (-1074+(u:Int)))).2 e3
  omega
theorem uG {p q:Int} {x y:Nat} (hx:FW p x) (hy:FW q y):(∃ z,Ieee.double.mul x y=some z∧FW (aL p q) z)∨(Ieee.double.mul x y=none∧aL p q=9221120237041090561):=by
 by_cases h4:aD p=4∨aD q=4
 ·right
  refine⟨?_,by unfold aL;rw[if_pos h4]⟩
  unfold Format.mul
  rcases h4 with h|h
  ·obtain⟨s,t,e⟩:=hx.read_nan h
   rw[e]
   rfl
  ·obtain⟨s,t,e⟩:=hy.read_nan h
   rw[e]
   cases Ieee.double.read x<;>rfl
 ·have h4p:aD p≠4:=fun h=>h4 (.inl h)
  have h4q:aD q≠4:=fun h=>h4 (.inr h)
  obtain⟨rp,rfl,p0,p1⟩:=hx.of h4p
  obtain⟨rq,rfl,q0,q1⟩:=hy.of h4q
  have hI:=eZ (ng:=aU p q) (r:=9218868437227405312) (by decide) (by decide)
  have hX:(decide (p<0) ^^ decide (q<0))=aU p q:=mK _ _
  have hX2:(decide (q<0) ^^ decide (p<0))=aU p q:=by rw[<- hX];cases decide (p<0)<;>cases decide (q<0)<;>rfl
  unfold aL
  rw[if_neg h4]
  by_cases ip:rg p=9218868437227405312
  ·rw[if_pos (.inl ip)]
   have ep:=dA rp ip
   by_cases iq:rg q=9218868437227405312
   ·left
    rw[if_neg (by omega)]
    refine⟨_,?_,FW.pat hI.2 hI.1⟩
    unfold Format.mul
    rw[ep,dA rq iq]
    show some (Ieee.double.write (.infinity (decide (p<0) ^^ decide (q<0))))=_
    rw[gm,hX]
   ·have pq:=(bm rq).2 (by omega)
    obtain⟨m,u,eq,vq⟩:=cK rq pq
    have hz:=j6 rq pq vq
    by_cases hm:m=0
    ·right
     refine⟨?_,by rw[if_pos (.inr (hz.1 hm))]⟩
     unfold Format.mul
     rw[ep,eq,hm]
     rfl
    ·left
     rw[if_neg (fun h=>by rcases h with h|h;omega;exact hm (hz.2 h))]
     refine⟨_,?_,FW.pat hI.2 hI.1⟩
     unfold Format.mul
     rw[ep,eq]
     unfold Datum.product
     dsimp only
     rw[if_neg hm]
     show some (Ieee.double.write (.infinity (decide (p<0) ^^ decide (q<0))))=_
     rw[gm,hX]
  ·have pp:=(bm rp).2 (by omega)
   by_cases iq:rg q=9218868437227405312
   ·rw[if_pos (.inr iq)]
    obtain⟨m,u,ep,vp⟩:=cK rp pp
    have hz:=j6 rp pp vp
    have eq:=dA rq iq
    by_cases hm:m=0
    ·right
     refine⟨?_,by rw[if_pos (.inl (hz.1 hm))]⟩
     unfold Format.mul
     rw[ep,eq,hm]
     rfl
    ·left
     rw[if_neg (fun h=>by rcases h with h|h;exact hm (hz.2 h);omega)]
     refine⟨_,?_,FW.pat hI.2 hI.1⟩
     unfold Format.mul
     rw[ep,eq]
     unfold Datum.product
     dsimp only
     rw[if_neg hm]
     show some (Ieee.double.write (.infinity (decide (q<0) ^^ decide (p<0))))=_
     rw[gm,hX2]
   ·left
    rw[if_neg (by omega)]
    refine⟨_,wI rp rq pp ((bm rq).2 (by omega)),?_⟩
    by_cases hS:df p q=0
    ·rw[if_pos hS]
     obtain⟨g1,g2⟩:=eZ (ng:=aU p q) (r:=0) (by decide) (by decide)
     exact FW.pat g2 g1
    ·rw[if_neg hS]
     have hn:sg (aU p q) (df p q)≠0:=by
      generalize df p q=D at *
      cases aU p q
      ·exact hS
      ·show -D≠0;omega
     exact FW.pat (e9 hn).2 (e9 hn).1
theorem oh {P:Program} (t:TypeId) {p q:Int} {x y:Nat} (hx:FW p x) (hy:FW q y) (w:World) :
  ∃ z w',(binOp .mul t (.float .f64 x) (.float .f64 y)).run P w=.ok (.float .f64 z) w'∧FW (aL p q) z∧(w'=w∨w'=w.drew):=by
 obtain⟨z,w',h,hz⟩:=mL (P:=P) .mul (.inr (.inr (.inl rfl))) t x y w
 refine⟨z,w',h,?_⟩
 have hf:floatBits .mul .f64 x y=Ieee.double.mul x y:=rfl
 rw[hf] at hz
 rcases uG hx hy with⟨z',e1,e2⟩|⟨e1,e2⟩
 ·rcases hz with⟨h1,h2⟩|⟨h1,_⟩
  ·rw[e1] at h1;cases h1;exact⟨e2,.inl h2⟩
  ·rw[e1] at h1;cases h1
 ·rcases hz with⟨h1,_⟩|⟨_,h2,h3⟩
  ·rw[e1] at h1;cases h1
  ·rw[e2];exact⟨FW.nan h2,.inr h3⟩
theorem r9 {a:Int} (ha:au a):FW (bs a) (wd a):=by
 unfold bs
 by_cases h:aD a=4
 ·rw[if_pos h]
  refine FW.nan ⟨?_,?_⟩
  ·unfold wd;omega
  ·exact(fQ ha).1 h
 ·rw[if_neg h]
  exact FW.pat h ha
theorem wJ {x:Nat} (h:x<18446744073709551616):au (lf x)∧wd (lf x)=x:=by
 unfold lf au wd
 split
 ·exact⟨by omega,by omega⟩
 ·exact⟨by omega,by omega⟩
theorem tl {p:Int} {x:Nat} (h:FW p x) (w:World):Calls prog 65 #[.float .f64 x] w fun e w'=>e=.returned (.int .i64 p)∧w'=w:=by
 rcases h with⟨h4,hp,rfl⟩|⟨rfl,hN⟩
 ·have:=kW p w hp
  have e:bs p=p:=by unfold bs;rw[if_neg h4]
  rwa [e] at this
 ·obtain⟨h1,h2⟩:=wJ hN.1
  have:=kW (lf x) w h1
  rw[h2] at this
  have e:bs (lf x)=9221120237041090561:=by
   unfold bs
   rw[if_pos ((fQ h1).2 (by rw[h2];exact hN.2))]
  rwa [e] at this
theorem p7 {b:Int} {m u:Nat} (hb:au b) (hp:aB b=true) (h:Ieee.double.read (wd b)=.number (decide (b<0)) m (-1074+(u:Int))):m<9007199254740992∧u<=2046:=by
 obtain⟨h0,h1⟩:=oT hb hp
 have hw:((wd b % 9223372036854775808:Nat):Int)=rg b:=ju hb
 unfold Format.read at h
 rw[fj,iu,iP,mH] at h
 dsimp only at h
 split at h
 ·rename_i h2
  simp only[Datum.number.injEq] at h
  obtain⟨_,h3,h4⟩:=h
  exact⟨by omega,by omega⟩
 ·rw[if_pos (by omega)] at h
  have hm:=Nat.mod_lt (wd b % 9223372036854775808) (show 0<4503599627370496 by decide)
  have hd:wd b % 9223372036854775808/4503599627370496<=2047:=by omega
  simp only[Datum.number.injEq] at h
  obtain⟨_,h3,h4⟩:=h
  exact⟨by omega,by omega⟩
theorem oN {S t base:Int} (hb:-4194304<=base) (hS:t*pw base=S) (h0:S≠0):Ieee.double.nearest (decide (t<0)) t.natAbs base=wd (bf S):=by
 obtain⟨A,r0,left,a1,a2,a3⟩:=mJ hb hS h0
 obtain⟨B,s0,k,b1,b2,b3⟩:=fo h0
 have hAB:=ie (a1.symm.trans b1)
 subst hAB
 obtain⟨h2,h3⟩:=a2.unique b2
 subst h2 h3
 rw[a3,b3]
def iW (p q r:Int):Int:=sg (aU p q) (df p q)+aM r
theorem wK {p q r:Int} (hp:au p) (hq:au q) (hr:au r) (pp:aB p=true) (pq:aB q=true) (pr:aB r=true) :
  Ieee.double.fma (wd p) (wd q) (wd r)=some (wd (if iW p q r=0 then aw (aU p q&&decide (r<0)) 0 else bf (iW p q r))):=by
 obtain⟨m,u,h1,v1⟩:=cK hp pp
 obtain⟨n,v,h2,v2⟩:=cK hq pq
 obtain⟨l,x,h3,v3⟩:=cK hr pr
 obtain⟨i,hi⟩:∃ i:Int,-1074+(u:Int)+(-1074+(v:Int))=i:=⟨_,rfl⟩
 obtain⟨j,hj⟩:∃ j:Int,-1074+(x:Int)=j:=⟨_,rfl⟩
 have hpm:=kK (a:=-1074+(u:Int)) (b:=-1074+(v:Int)) (by omega) (by omega)
 have hC:=ld (g:=decide (p<0)) (h:=decide (q<0)) (x:=(m:Int)) (y:=(n:Int)) hpm
 rw[<- v1,<- v2,hi] at hC
 have hcast:((m*n:Nat):Int)=(m:Int)*(n:Int):=by push_cast;rfl
 have hf:df p q=((m*n:Nat):Int)*pw i:=by rw[hcast];exact mo (aF 4194304) hC
 obtain⟨base,hbase⟩:∃ base,min i j=base:=⟨_,rfl⟩
 have hB:-4194304<=base:=by omega
 obtain⟨t,ht⟩:∃ t,signed (aU p q) (m*n) (i-base).toNat+signed (decide (r<0)) l (j-base).toNat=t:=⟨_,rfl⟩
 have hfma:Ieee.double.fma (wd p) (wd q) (wd r)=some (Ieee.double.nearest (if t=0 then aU p q&&decide (r<0) else decide (t<0)) t.natAbs base):=by
  unfold Format.fma
  rw[h1,h2,h3]
  unfold Datum.product
  dsimp only
  rw[hi,hj,mK]
  show Option.map Ieee.double.write (Datum.sum (.number (aU p q) (m*n) i) (.number (decide (r<0)) l j))=_
  unfold Datum.sum
  dsimp only
  rw[hbase,ht]
  rfl
 have s1:=oe (aU p q) (m*n) (i-base).toNat (i:=i) (base:=base) (by omega) hB
 have s2:=oe (decide (r<0)) l (j-base).toNat (i:=j) (base:=base) (by omega) hB
 rw[hj] at v3
 rw[<- hf] at s1
 rw[<- v3] at s2
 have hS:t*pw base=iW p q r:=by
  unfold iW
  rw[<- ht,Int.add_mul,s1,s2]
 rw[hfma]
 by_cases h:iW p q r=0
 ·have ht0:t=0:=(lT (bD base)).2 (hS.trans h)
  rw[if_pos h,ht0,if_pos rfl]
  unfold Format.nearest
  rw[if_pos (show Int.natAbs 0=0 from rfl)]
  have:=iI (ng:=aU p q&&decide (r<0)) (r:=0) (by decide) (by decide)
  rw[<- this]
  rfl
 ·have ht0:t≠0:=fun e=>h (by rw[<- hS,e,Int.zero_mul])
  rw[if_neg h,if_neg ht0,oN hB hS h]
def sf (way V p:Int):Prop:=∃ (A:Int) (r0:Nat) (left:Int),V=sg (decide (V<0)) A∧co A r0 left∧p=aw (decide (V<0)) (aN way (decide (V<0)) r0 left)
theorem sf.unique {way V p q:Int} (h:sf way V p) (k:sf way V q):p=q:=by
 obtain⟨A,r0,l,h1,h2,h3⟩:=h
 obtain⟨B,s0,m,k1,k2,k3⟩:=k
 have hAB:=ie (h1.symm.trans k1)
 subst hAB
 obtain⟨e1,e2⟩:=h2.unique k2
 subst e1 e2
 rw[h3,k3]
theorem yL {way:Int} {ng sd:Bool} {M e:Int} (hv:0<M) (he:-4194304<=e) :
  ∃ (r0:Nat) (left:Int),co (M*pw e) r0 left∧fS way ng sd (M/2^vK M).toNat (e+vK M) (decide (M % 2^vK M≠0))=(aw (ng&&(decide (0<aN way ng r0 left)||sd)) (aN way ng r0 left),decide (left≠0)||decide (9218868437227405312<=(r0:Int))):=by
 have hsm:=iR (Int.le_of_lt hv)
 have hb:=fK hv
 have hp:=aF (vK M)
 have hge:2^(aC M-1-vK M)<=M/2^vK M:=by
  rw[Int.le_ediv_iff_mul_le hp,<- Int.pow_add]
  by_cases hk:vK M<=aC M-1
  ·rw[show aC M-1-vK M+vK M=aC M-1 by omega]
   exact hb.2
  ·exfalso;unfold vK at hk;omega
 have hpos:=aF (aC M-1-vK M)
 have e64:(2:Nat)^64=18446744073709551616:=by decide
 have e60:(2:Nat)^60=1152921504606846976:=by decide
 refine pP (pQ (Int.le_of_lt hv) (by omega) _) (by omega) (by omega) (by omega) (fun hc=>?_)
 have hk0:0<vK M:=by
  rcases Nat.eq_zero_or_pos (vK M) with h|h
  ·rw[h,Int.pow_zero,Int.emod_one] at hc;simp at hc
  ·exact h
 have h61:aC M-1-vK M=61:=by unfold vK at hk0 ⊢;omega
 rw[h61] at hge
 have e61:(2:Int)^61=2305843009213693952:=by decide
 rw[e61] at hge
 omega
theorem lE {ng:Bool} {A:Int} (h:0<A):decide (sg ng A<0)=ng:=by
 cases ng
 ·exact decide_eq_false (by show ¬ A<0;omega)
 ·exact decide_eq_true (by show -A<0;omega)
theorem xI {way V:Int} {ng:Bool} {M e:Int} (hV:V=sg ng (M*pw e)) (hv:0<M) (he:-4194304<=e) :
  sf way V (fS way ng true (M/2^vK M).toNat (e+vK M) (decide (M % 2^vK M≠0))).1:=by
 obtain⟨r0,left,h1,h2⟩:=yL (way:=way) (ng:=ng) (sd:=true) hv he
 have hA:0<M*pw e:=Int.mul_pos hv (bD e)
 have hn:decide (V<0)=ng:=by rw[hV];exact lE hA
 refine⟨M*pw e,r0,left,by rw[hn];exact hV,h1,?_⟩
 rw[h2,hn]
 simp
def cq (way V:Int):Int:=(fS way (decide (V<0)) true ((V.natAbs:Int)/2^vK (V.natAbs:Int)).toNat (-4194304+vK (V.natAbs:Int)) (decide ((V.natAbs:Int) % 2^vK (V.natAbs:Int)≠0))).1
theorem p9 (way:Int) {V:Int} (h:V≠0):sf way V (cq way V):=by
 refine xI ?_ (by omega) (Int.le_refl _)
 rw[p6,Int.mul_one]
 by_cases hn:V<0
 ·rw[decide_eq_true hn];show V=-(V.natAbs:Int);omega
 ·rw[decide_eq_false hn];show V=(V.natAbs:Int);omega
theorem lh {way V p:Int} (h0:V≠0) (h:sf way V p):cq way V=p:=(p9 way h0).unique h
theorem wL {V:Int} (h:V≠0):cq 0 V=bf V:=by
 obtain⟨A,r0,left,h1,h2,h3⟩:=fo h
 exact lh h ⟨A,r0,left,h1,h2,h3⟩
theorem AC {way V:Int} {ng:Bool} {m e:Int} (hy:Dy V ng m e) (h0:V≠0) (he:-4194304<=e) :
  (fS way ng true (m/2^vK m).toNat (e+vK m) (decide (m % 2^vK m≠0))).1=cq way V:=by
 have hm:0<m:=by
  rcases hy.form with⟨f1,_⟩|⟨f1,_⟩
  ·exact absurd (hy.eq_zero.2 f1) h0
  ·exact f1
 refine(lh h0 (xI ?_ hm he)).symm
 rw[hy.val]
 cases ng
 ·rfl
 ·show -m*pw e=-(m*pw e);rw[Int.neg_mul]
theorem iJ (way:Int) {V:Int} (h:V≠0):au (cq way V)∧aD (cq way V)≠4:=by
 obtain⟨A,r0,left,_,_,h3⟩:=p9 way h
 rw[h3]
 have:=bT way (decide (V<0)) r0 left
 exact eZ this.1 this.2
theorem uH {p q:Int} (rp:au p) (rq:au q) (p0:0<=rg p) (p1:rg p<=9218868437227405312) (q0:0<=rg q) (q1:rg q<=9218868437227405312) (h:rg p=9218868437227405312∨rg q=9218868437227405312) :
  Datum.product (Ieee.double.read (wd p)) (Ieee.double.read (wd q))=if rg p=0∨rg q=0 then none else some (.infinity (aU p q)):=by
 have hX:(decide (p<0) ^^ decide (q<0))=aU p q:=mK _ _
 have hX2:(decide (q<0) ^^ decide (p<0))=aU p q:=by rw[<- hX];cases decide (p<0)<;>cases decide (q<0)<;>rfl
 by_cases ip:rg p=9218868437227405312
 ·have ep:=dA rp ip
  by_cases iq:rg q=9218868437227405312
  ·rw[if_neg (by omega),ep,dA rq iq,<- hX]
   rfl
  ·have pq:=(bm rq).2 (by omega)
   obtain⟨m,u,eq,vq⟩:=cK rq pq
   have hz:=j6 rq pq vq
   rw[ep,eq]
   unfold Datum.product
   dsimp only
   by_cases hm:m=0
   ·rw[if_pos hm,if_pos (.inr (hz.1 hm))]
   ·rw[if_neg hm,if_neg (fun h=>by rcases h with h|h;omega;exact hm (hz.2 h)),hX]
 ·have iq:rg q=9218868437227405312:=by omega
  have pp:=(bm rp).2 (by omega)
  obtain⟨m,u,ep,vp⟩:=cK rp pp
  have hz:=j6 rp pp vp
  have eq:=dA rq iq
  rw[ep,eq]
  unfold Datum.product
  dsimp only
  by_cases hm:m=0
  ·rw[if_pos hm,if_pos (.inl (hz.1 hm))]
  ·rw[if_neg hm,if_neg (fun h=>by rcases h with h|h;exact hm (hz.2 h);omega),hX2]
def cT (p q r:Int):Int :=
 if aD p=4∨aD q=4∨aD r=4 then 9221120237041090561
 else if rg p=9218868437227405312∨rg q=9218868437227405312 then
  if rg p=0∨rg q=0 then 9221120237041090561
  else if rg r=9218868437227405312∧¬ aU p q=decide (r<0) then 9221120237041090561 else aw (aU p q) 9218868437227405312
 else if rg r=9218868437227405312 then r
 else if iW p q r=0 then aw (aU p q&&decide (r<0)) 0 else bf (iW p q r)
theorem AD {p q r:Int} {x y z:Nat} (hx:FW p x) (hy:FW q y) (hz:FW r z):(∃ t,Ieee.double.fma x y z=some t∧FW (cT p q r) t)∨(Ieee.double.fma x y z=none∧cT p q r=9221120237041090561):=by
 by_cases h4:aD p=4∨aD q=4∨aD r=4
 ·right
  refine⟨?_,by unfold cT;rw[if_pos h4]⟩
  unfold Format.fma
  rcases h4 with h|h|h
  ·obtain⟨s,t,e⟩:=hx.read_nan h
   rw[e]
   rfl
  ·obtain⟨s,t,e⟩:=hy.read_nan h
   rw[e]
   cases Ieee.double.read x<;>rfl
  ·obtain⟨s,t,e⟩:=hz.read_nan h
   rw[e]
   cases Datum.product (Ieee.double.read x) (Ieee.double.read y) with
   | none=>rfl
   | some d=>cases d<;>rfl
 ·have h4p:aD p≠4:=fun h=>h4 (.inl h)
  have h4q:aD q≠4:=fun h=>h4 (.inr (.inl h))
  have h4r:aD r≠4:=fun h=>h4 (.inr (.inr h))
  obtain⟨rp,rfl,p0,p1⟩:=hx.of h4p
  obtain⟨rq,rfl,q0,q1⟩:=hy.of h4q
  obtain⟨rr,rfl,r0,r1⟩:=hz.of h4r
  have hI:=eZ (ng:=aU p q) (r:=9218868437227405312) (by decide) (by decide)
  unfold cT
  rw[if_neg h4]
  by_cases hi:rg p=9218868437227405312∨rg q=9218868437227405312
  ·rw[if_pos hi]
   have hP:=uH rp rq p0 p1 q0 q1 hi
   by_cases h0:rg p=0∨rg q=0
   ·right
    rw[if_pos h0] at hP ⊢
    refine⟨?_,rfl⟩
    unfold Format.fma
    rw[hP]
    rfl
   ·rw[if_neg h0] at hP ⊢
    by_cases ir:rg r=9218868437227405312
    ·have er:=dA rr ir
     by_cases hs:aU p q=decide (r<0)
     ·left
      rw[if_neg (fun h=>h.2 hs)]
      refine⟨_,?_,FW.pat hI.2 hI.1⟩
      unfold Format.fma
      rw[hP,er]
      show Option.map Ieee.double.write (Datum.sum (.infinity (aU p q)) (.infinity (decide (r<0))))=_
      unfold Datum.sum
      dsimp only
      rw[if_pos hs]
      show some (Ieee.double.write (.infinity (aU p q)))=_
      rw[gm]
     ·right
      rw[if_pos ⟨ir,hs⟩]
      refine⟨?_,rfl⟩
      unfold Format.fma
      rw[hP,er]
      show Option.map Ieee.double.write (Datum.sum (.infinity (aU p q)) (.infinity (decide (r<0))))=_
      unfold Datum.sum
      dsimp only
      rw[if_neg hs]
      rfl
    ·left
     obtain⟨l,v,er,_⟩:=cK rr ((bm rr).2 (by omega))
     rw[if_neg (fun h=>ir h.1)]
     refine⟨_,?_,FW.pat hI.2 hI.1⟩
     unfold Format.fma
     rw[hP,er]
     show some (Ieee.double.write (.infinity (aU p q)))=_
     rw[gm]
  ·rw[if_neg hi]
   have pp:=(bm rp).2 (by omega)
   have pq:=(bm rq).2 (by omega)
   by_cases ir:rg r=9218868437227405312
   ·left
    rw[if_pos ir]
    obtain⟨m,u,ep,_⟩:=cK rp pp
    obtain⟨n,v,eq,_⟩:=cK rq pq
    refine⟨wd r,?_,FW.pat h4r rr⟩
    unfold Format.fma
    rw[ep,eq,dA rr ir]
    show some (Ieee.double.write (.infinity (decide (r<0))))=_
    rw[qY rr ir]
   ·left
    rw[if_neg ir]
    refine⟨_,wK rp rq rr pp pq ((bm rr).2 (by omega)),?_⟩
    by_cases hS:iW p q r=0
    ·rw[if_pos hS]
     obtain⟨g1,g2⟩:=eZ (ng:=aU p q&&decide (r<0)) (r:=0) (by decide) (by decide)
     exact FW.pat g2 g1
    ·rw[if_neg hS]
     exact FW.pat (e9 hS).2 (e9 hS).1
end Go.Proofs.YtkkpppgfoilgmaaGreatDoor
