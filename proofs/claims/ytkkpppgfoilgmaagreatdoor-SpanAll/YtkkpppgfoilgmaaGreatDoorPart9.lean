/- Parts of the proof. -/
import Derived.Test.YtkkpppgfoilgmaaGreatDoorPart8
import Derived.Test.YtkkpppgfoilgmaaGreatDoorPart1
import Derived.Test.YtkkpppgfoilgmaaGreatDoorPart6
import Derived.Laws.FloatArith
set_option maxRecDepth 100000
set_option maxHeartbeats 8000000
set_option linter.unusedVariables false
set_option linter.unusedSimpArgs false
namespace Go.Proofs.YtkkpppgfoilgmaaGreatDoor
open Go Go.Proofs.Tryz Go.RowKit Go.Proofs.YtkkpppgfoilgmaaGreatDoor.M Ieee
theorem oF:Ieee.double.leastPlace=-1074:=by decide
theorem EZ:Ieee.double.fractionBits=52:=by decide
theorem jy:Ieee.double.binade=4503599627370496:=by decide
def lD (mag:Nat) (place:Int):Int:=max (place+(mag.log2:Int)-52) (-1074)
theorem sr (neg:Bool) {mag:Nat} (place:Int) (h:mag≠0):Ieee.double.nearest neg mag place=Ieee.double.word neg (min ((lD mag place+1074).toNat*4503599627370496+Toward.even.cut neg (mag*2^(place-lD mag place).toNat) (lD mag place-place).toNat) 9218868437227405312):=by
 unfold Format.nearest
 rw[if_neg h,oF,EZ,jy,jS]
 dsimp only
 rw[Nat.shiftLeft_eq,show(lD mag place+1074)=(lD mag place - -1074) by omega]
 rfl
theorem Dw {r:Nat} {up:Bool} {neg:Bool} {left:Int} (hup:bm 0 neg (decide (r % 2=1)) left=up):((min (r+(if up=true then 1 else 0)) 9218868437227405312:Nat):Int)=aX 0 neg r left:=by
 unfold aX
 rw[hup]
 by_cases h:(r:Int)<9218868437227405312
 ·rw[if_pos h]
  cases up
  ·simp only[Bool.false_eq_true,if_false];omega
  ·simp only[if_true];omega
 ·rw[if_neg h]
  have hb:cL 0 neg=9218868437227405312:=by cases neg<;>rfl
  rw[hb]
  split<;>omega
theorem yZ (a u:Nat):decide ((a*4503599627370496+u) % 2=1)=decide (u % 2=1):=by congr 1;apply propext;omega
theorem mq (neg:Bool) {mag:Nat} {place:Int} (h:mag≠0) (hp:-4194304<=place) :
  ∃ (r0:Nat) (left:Int),cZ ((mag:Int)*pw place) r0 left∧Ieee.double.nearest neg mag place=Ieee.double.word neg (aX 0 neg r0 left).toNat:=by
 rw[sr neg place h]
 have h1:=Nat.log2_self_le h
 have h2:mag<2^(mag.log2+1):=Nat.lt_log2_self
 have hL:lD mag place=max (place+(mag.log2:Int)-52) (-1074):=rfl
 obtain⟨l,hl⟩:∃ l,lD mag place=l:=⟨_,rfl⟩
 rw[hl] at hL ⊢
 have hl0:-1074<=l:=by omega
 have hl1:place+(mag.log2:Int)-52<=l:=by omega
 have hl2:-1074<l->l=place+(mag.log2:Int)-52:=by omega
 obtain⟨a,ha⟩:∃ a:Nat,(l+1074).toNat=a:=⟨_,rfl⟩
 have hal:l=-1074+(a:Int):=by omega
 have e52:(2:Nat)^52=4503599627370496:=by decide
 have e53:(2:Nat)^53=9007199254740992:=by decide
 rw[ha]
 -- u units of 2^l and what is left
 have main:∃ (u:Nat) (left:Int),M.iB ((mag:Int)*pw place) u (pw l) left∧Toward.even.cut neg (mag*2^(place-l).toNat) (l-place).toNat=u+(if bm 0 neg (decide (u % 2=1)) left then 1 else 0)∧u<9007199254740992∧(0<a->4503599627370496<=u):=by
  by_cases hs:l<=place
  ·obtain⟨k,hk⟩:∃ k:Nat,(place-l).toNat=k:=⟨_,rfl⟩
   have hpl:place=l+(k:Int):=by omega
   rw[hk,show(l-place).toNat=0 by omega,yX]
   refine⟨mag*2^k,0,?_,?_,?_,?_⟩
   ·have e:(mag:Int)*pw place=((mag*2^k:Nat):Int)*pw l:=by
     rw[hpl,fh (by omega),Int.mul_comm (pw l)]
     push_cast
     rw[Int.mul_assoc]
    have:=sj (mag:=mag*2^k) (u:=mag*2^k) (t:=0) (D:=1) (bT l) (by omega) (by decide)
    rw[e]
    have e1:((1:Nat):Int)*pw l=pw l:=by rw[Int.natCast_one,Int.one_mul]
    rw[e1] at this
    exact this
   ·have:bm 0 neg (decide (mag*2^k % 2=1)) 0=false:=by
     cases hu:bm 0 neg (decide (mag*2^k % 2=1)) 0
     ·rfl
     ·exact(fz hu).elim
    rw[this]
    rfl
   ·have b1:mag*2^k<2^(mag.log2+1)*2^k:=Nat.mul_lt_mul_of_pos_right h2 (Nat.two_pow_pos _)
    rw[<- Nat.pow_add] at b1
    have b2:2^(mag.log2+1+k)<=2^53:=Nat.pow_le_pow_right (by decide) (by omega)
    omega
   ·intro h0
    have b1:2^mag.log2*2^k<=mag*2^k:=Nat.mul_le_mul_right _ h1
    rw[<- Nat.pow_add] at b1
    have b2:2^52<=2^(mag.log2+k):=Nat.pow_le_pow_right (by decide) (by have:=hl2 (by omega);omega)
    omega
  ·obtain⟨k,hk⟩:∃ k:Nat,(l-place).toNat=k:=⟨_,rfl⟩
   have hpl:l=place+(k:Int):=by omega
   rw[hk,show(place-l).toNat=0 by omega,Nat.pow_zero,Nat.mul_one,yY neg mag k h]
   have hD:=Nat.two_pow_pos k
   have hdm:=Nat.div_add_mod mag (2^k)
   have hml:=Nat.mod_lt mag hD
   refine⟨mag/2^k,pA (mag % 2^k) (2^k),?_,rfl,?_,?_⟩
   ·have:=sj (mag:=mag) (u:=mag/2^k) (t:=mag % 2^k) (D:=2^k) (bT place) (by rw[Nat.mul_comm];exact hdm.symm) hml
    have e:pw l=((2^k:Nat):Int)*pw place:=by
     rw[hpl,fh hp,Int.mul_comm]
     push_cast
     rfl
    rw[e]
    exact this
   ·rw[Nat.div_lt_iff_lt_mul hD,<- e53,<- Nat.pow_add]
    exact Nat.lt_of_lt_of_le h2 (Nat.pow_le_pow_right (by decide) (by omega))
   ·intro h0
    rw[Nat.le_div_iff_mul_le hD,<- e52,<- Nat.pow_add]
    exact Nat.le_trans (Nat.pow_le_pow_right (by decide) (by have:=hl2 (by omega);omega)) h1
 obtain⟨u,left,hLeft,hcut,hu1,hu2⟩:=main
 rw[hcut]
 have hV:=kQ Ieee.double a u (by rw[jy];omega) (fun q=>by rw[jy];exact hu2 q)
 rw[jy] at hV
 have hpw:pw l=2^a*pw (-1074):=by rw[hal,fh (by decide),Int.mul_comm]
 rw[hpw] at hLeft
 refine⟨a*4503599627370496+u,left,mj hLeft hV.1 hV.2,?_⟩
 have hm:=Dw (r:=a*4503599627370496+u) (neg:=neg) (left:=left) rfl
 rw[yZ] at hm
 rw[<- hm,Int.toNat_natCast,Nat.add_assoc]
end Go.Proofs.YtkkpppgfoilgmaaGreatDoor
namespace Go.Proofs.YtkkpppgfoilgmaaGreatDoor
open Go Go.Proofs.Tryz Go.RowKit Go.Proofs.YtkkpppgfoilgmaaGreatDoor.M
theorem pB {b:Int} (h:aC b=true):Bd 4000 (aF b):=by
 obtain⟨i0,i1,i2,i3⟩:=iS h
 have h30:(9007199254740992:Int)<=P 30:=by unfold P;decide
 exact Dr i0 (Int.lt_of_lt_of_le (by omega) h30) (by omega) (by omega)
theorem Bd.sub {B:Nat} {V W:Int} (h:Bd B V) (k:Bd B W) (hB:B<4194304):Bd (B+1) (V-W):=by
 rw[Int.sub_eq_add_neg]
 exact h.add k.neg hB
theorem Ao {b:Int} {w:World} (h:aC b=true) (H:ax w):Calls prog 140 #[.int .i64 b] w fun r w'=>∃ v,r=.returned (.tuple #[v,.int .i64 0])∧bv w w' (aF b) v:=by
 refine(tW b w H.lay H.tab).mono ?_
 rintro _ w' ⟨v,er,rfl,hb,(⟨_,rfl,hD⟩|⟨h',_⟩)⟩
 ·exact⟨v,rfl,hD⟩
 ·rw[h] at h';cases h'
theorem E0 {b:Int} {w:World} (h:aC b=false) (H:ax w):Calls prog 140 #[.int .i64 b] w fun r w'=>r=.returned (.tuple #[.agg #[.bool false,.slice none 0 0,.int .i64 0],.int .i64 10])∧Below w.heap.size w w':=by
 refine(tW b w H.lay H.tab).mono ?_
 rintro _ w' ⟨v,er,rfl,hb,(⟨h',_⟩|⟨_,rfl,rfl⟩)⟩
 ·rw[h] at h';cases h'
 ·exact⟨rfl,hb⟩
theorem uc {s:Bool} {r:Int} (h0:0<=r) (h1:r<=9218868437227405312) (h:s=true->0<r):aE (ay s r)≠4:=by
 obtain⟨a,b,_⟩:=iF h0 h1 h
 intro q
 have:=(ew a).1.1 q
 omega
theorem Bq {s:Bool} {r:Int} (h0:0<=r) (h1:r<=9218868437227405312) (h:s=true->0<r):aw (ay s r)=sg s r:=by
 unfold aw ay sg
 cases s
 ·simp only[Bool.false_eq_true,if_false]
  rw[if_neg (by omega)]
 ·have:=h rfl
  simp only[if_true]
  rw[if_pos (by omega)]
  omega
theorem Dx {b:Int} (hb:au b) (h:aE b≠4):rg (neg b)=rg b∧aw (neg b)=-aw b:=by
 unfold au at hb
 unfold neg
 rw[if_neg h]
 unfold rg aw
 by_cases h0:b<0
 ·rw[if_pos h0,if_neg (by omega),if_pos h0,if_neg (by omega),if_pos h0];omega
 ·rw[if_neg h0,if_pos (by omega),if_neg h0,if_pos (by omega),if_neg h0];omega
theorem Br {b:Int} (hb:au b) (h:aE b≠4):aE (neg b)≠4:=by
 intro q
 have h1:=(ew (gp hb)).1.1 q
 rw[(Dx hb h).1] at h1
 exact h ((ew hb).1.2 h1)
theorem za {a b:Int} (h:aw b<=aw a):bI a b=false:=by
 unfold bI
 rw[decide_eq_false (p:=aw a<aw b) (by omega),Bool.and_false,Bool.and_false]
theorem zb {way:Int} {ng odd:Bool} {A B a b l k:Int} (h0:l=0↔A=a) (h2:l=2↔2*A=a+b) (h3:l=3↔a+b<2*A) (g0:k=0↔B=a) (g2:k=2↔2*B=a+b) (g3:k=3↔a+b<2*B) (lo:a<=A) (AB:A<=B)
  (h:bm way ng odd l=true):bm way ng odd k=true:=by
 have nz:l≠0->k≠0:=fun q e=>by
  have e1:=g0.1 e
  exact q (h0.2 (by omega))
 unfold bm at *
 split at h
 ·rename_i e
  rw[if_pos e]
  simp only[Bool.or_eq_true,Bool.and_eq_true,decide_eq_true_eq] at *
  rcases h with h|⟨h,ho⟩
  ·left;exact g3.2 (by have:=h3.1 h;omega)
  ·have e2:=h2.1 h
   by_cases e3:2*B=a+b
   ·right;exact⟨g2.2 e3,ho⟩
   ·left;exact g3.2 (by omega)
 ·rename_i e
  rw[if_neg e]
  split at h
  ·rename_i e2
   rw[if_pos e2]
   simp only[Bool.and_eq_true,decide_eq_true_eq] at *
   exact⟨nz h.1,h.2⟩
  ·rename_i e2
   rw[if_neg e2]
   split at h
   ·rename_i e3
    rw[if_pos e3]
    simp only[Bool.and_eq_true,decide_eq_true_eq] at *
    exact⟨nz h.1,h.2⟩
   ·cases h
theorem Bs {A B:Int} {r s:Nat} {l k:Int} (h:cZ A r l) (g:cZ B s k) (AB:A<=B):r<=s:=by
 rcases Nat.lt_or_ge s r with q|q
 ·exfalso
  have h1:=h.lo
  have g1:=g.hi
  have e:vS (s+1)<=vS r:=by
   rcases Nat.lt_or_eq_of_le (show s+1<=r from q) with q2|q2
   ·exact Int.le_of_lt (iE q2)
   ·rw[q2];exact Int.le_refl _
  exact absurd (Int.lt_of_lt_of_le g1 (Int.le_trans e (Int.le_trans h1 AB))) (Int.lt_irrefl _)
 ·exact q
theorem ss {way:Int} {ng:Bool} {A B:Int} {r s:Nat} {l k:Int} (h:cZ A r l) (g:cZ B s k) (AB:A<=B):aX way ng r l<=aX way ng s k:=by
 have hrs:=Bs h g AB
 rcases Nat.lt_or_eq_of_le hrs with q|q
 ·clear h g
  unfold aX
  by_cases hs:(s:Int)<9218868437227405312
  ·rw[if_pos hs,if_pos (by omega)]
   split<;>split<;>omega
  ·rw[if_neg hs]
   by_cases hr:(r:Int)<9218868437227405312
   ·rw[if_pos hr]
    unfold cL
    cases hu:bm way ng (decide (r % 2=1)) l
    ·simp only[Bool.false_eq_true,if_false]
     split<;>omega
    ·rw[if_pos rfl,if_pos (nU hu)]
     omega
   ·rw[if_neg hr]
    exact Int.le_refl _
 ·subst q
  have lo:=h.lo
  have h0:=h.l0
  have h2:=h.l2
  have h3:=h.l3
  have g0:=g.l0
  have g2:=g.l2
  have g3:=g.l3
  have hm:=fun odd=>@zb way ng odd A B (vS r) (vS (r+1)) l k h0 h2 h3 g0 g2 g3 lo AB
  clear h g lo h0 h2 h3 g0 g2 g3
  unfold aX
  by_cases hr:(r:Int)<9218868437227405312
  ·rw[if_pos hr,if_pos hr]
   cases hu:bm way ng (decide (r % 2=1)) l
   ·simp only[Bool.false_eq_true,if_false]
    split<;>omega
   ·rw[hm _ hu]
    exact Int.le_refl _
  ·rw[if_neg hr,if_neg hr]
   exact Int.le_refl _
theorem mr (r:Nat):0<=vS r:=by
 rcases Nat.eq_zero_or_pos r with h|h
 ·subst h;rw[fk];exact Int.le_refl _
 ·have:=iE h
  rw[fk] at this
  exact Int.le_of_lt this
theorem Dz (ng:Bool) {r:Int} (h0:0<=r):sg (ng&&decide (0<r)) r=sg ng r:=by
 by_cases h:0<r
 ·rw[decide_eq_true h,Bool.and_true]
 ·obtain rfl:r=0:=by omega
  cases ng<;>rfl
theorem j3.key {V:Int} {ng:Bool} {f:Int->Int × Bool} {A:Int} {r0:Nat} {left:Int} {way:Int} (hf:f way=(ay (ng&&decide (0<aX way ng r0 left)) (aX way ng r0 left),decide (left≠0)||decide (9218868437227405312<=(r0:Int)))) :
  M.aw (f way).1=sg ng (aX way ng r0 left)∧aE (f way).1≠4∧au (f way).1:=by
 obtain⟨g1,g2⟩:=cm way ng r0 left
 rw[hf]
 exact⟨(Bq g1 g2 kS).trans (Dz ng g1),uc g1 g2 kS,(iF g1 g2 kS).1⟩
theorem E8 {ng mg:Bool} {A B r s:Int} (hA:0<=A) (hB:0<=B) (zB:mg=true->0<B) (r0:0<=r) (s0:0<=s) (h:sg ng A<=sg mg B) (up:ng=mg->A<=B->r<=s) (dn:ng=mg->B<=A->s<=r):sg ng r<=sg mg s:=by
 cases ng<;>cases mg
 ·exact up rfl h
 ·exfalso
  have h':A <= -B:=h
  have:=zB rfl
  omega
 ·show -r<=s
  omega
 ·have h':-A <= -B:=h
  have:=dn rfl (by omega)
  show -r <= -s
  omega
theorem ud {V U:Int} {ng mg:Bool} {f g:Int->Int × Bool} (h:j3 V ng f) (k:j3 U mg g) (hVU:V<=U) (way:Int):bI (g way).1 (f way).1=false:=by
 obtain⟨A,r,l,eV,zA,RA,hf⟩:=h
 obtain⟨B,s,m,eU,zB,RB,hg⟩:=k
 have kf:=(j3.key (V:=V) (A:=A) (hf way)).1
 have kg:=(j3.key (V:=U) (A:=B) (hg way)).1
 have hA:0<=A:=Int.le_trans (mr r) RA.lo
 have hB:0<=B:=Int.le_trans (mr s) RB.lo
 refine za ?_
 rw[kf,kg]
 rw[eV,eU] at hVU
 refine E8 hA hB zB (cm way ng r l).1 (cm way mg s m).1 hVU (fun e AB=>?_) (fun e BA=>?_)
 ·subst e;exact ss RA RB AB
 ·subst e;exact ss RB RA BA
structure FL (U S d:Int) (o:Bool):Prop where
 rg:au d
 fin:aC d=true->aF d*S<=U∧(aF d*S=U↔o=false)
 nxt:aC (next d)=true->U<aF (next d)*S
 neg:aC d=false->d<0
theorem zc {r:Int} (h0:0<=r) (h1:r<9218868437227405312):next (ay false r)=ay false (r+1):=by
 have hc:=uc (s:=false) (r:=r) h0 (by omega) (fun h=>by cases h)
 unfold next
 rw[if_neg hc]
 show(if r=9218868437227405312 then r else if r=-9223372036854775808 then 1 else if r<0 then r-1 else r+1)=r+1
 rw[if_neg (by omega),if_neg (by omega),if_neg (by omega)]
theorem Bt:bO (-9223372036854775808)=0:=by decide
theorem nX {r:Nat} (h:(r:Int)<9218868437227405312):aF (ay true (r:Int))=sg true (vS r):=by
 by_cases h0:r=0
 ·subst h0
  rw[fk]
  show aF (-9223372036854775808)=sg true 0
  unfold aF
  rw[Bt,fi,fi,Int.zero_mul]
 ·exact eQ h (fun _=>by omega)
theorem Bu {r:Int} (h0:0<=r) (h1:r<=9218868437227405312) (h:aC (ay false r)=true):r<9218868437227405312:=by
 rw[jZ h0 h1 (fun q=>by cases q)] at h
 exact of_decide_eq_true h
theorem FL.pos {S A:Int} {r:Nat} {o:Bool} (hr:(r:Int)<9218868437227405312) (lo:vS r*S<=A) (eq:vS r*S=A↔o=false) (hi:((r+1:Nat):Int)<9218868437227405312->A<vS (r+1)*S):FL A S (ay false (r:Int)) o:=by
 have hv:aF (ay false (r:Int))=vS r:=by
  have:=eQ (ng:=false) hr (fun h=>by cases h)
  rw[this]
  unfold sg
  rw[if_neg (by decide)]
 have hnx:next (ay false (r:Int))=ay false ((r+1:Nat):Int):=by
  rw[zc (by omega) hr];rfl
 refine⟨(iF (by omega) (by omega) (fun h=>by cases h)).1,fun _=>?_,fun h=>?_,fun h=>?_⟩
 ·rw[hv];exact⟨lo,eq⟩
 ·rw[hnx] at h ⊢
  have h1:=Bu (by omega) (by omega) h
  have:=eQ (ng:=false) h1 (fun h=>by cases h)
  rw[this]
  unfold sg
  rw[if_neg (by decide)]
  exact hi h1
 ·exfalso
  rw[jZ (by omega) (by omega) (fun h=>by cases h)] at h
  exact absurd hr (of_decide_eq_false h)
structure oG (X:Int) (r0:Nat) (left:Int):Prop where
 lo:vS r0*vS r0<=X
 hi:X<vS (r0+1)*vS (r0+1)
 l0:left=0↔X=vS r0*vS r0
theorem E9 {a b:Int} (h0:0<=a) (h:a<=b):a*a<=b*b:=Int.mul_le_mul h h h0 (Int.le_trans h0 h)
theorem oG.unique {X:Int} {r s:Nat} {l k:Int} (h:oG X r l) (g:oG X s k):r=s:=by
 have aw:∀ {r s:Nat} {l k:Int},oG X r l->oG X s k->¬ r<s:=fun {r s l k} h g q=>by
  have e:vS (r+1)<=vS s:=by
   rcases Nat.lt_or_eq_of_le (show r+1<=s from q) with q2|q2
   ·exact Int.le_of_lt (iE q2)
   ·rw[q2];exact Int.le_refl _
  exact absurd (Int.lt_of_lt_of_le h.hi (Int.le_trans (E9 (mr _) e) g.lo)) (Int.lt_irrefl _)
 rcases Nat.lt_trichotomy r s with q|q|q
 ·exact absurd q (aw h g)
 ·exact q
 ·exact absurd q (aw g h)
theorem Bd.sg {B:Nat} {V:Int} (g:Bool) (h:Bd B V):Bd B (M.sg g V):=by
 cases g
 ·exact h
 ·exact h.neg
theorem Bv {b:Int} (hb:au b) (hp:aC b=true):∃ (ng:Bool) (r:Nat),(r:Int)=rg b∧(r:Int)<9218868437227405312∧aF b=sg ng (vS r):=by
 obtain⟨r0,r1⟩:=fY hb
 have hlt:rg b<9218868437227405312:=by
  have hne:=ol hp
  have hf:0<=bZ b∧bZ b<4503599627370496:=by unfold bZ;omega
  have hg:0<=bN b∧bN b<2048:=by unfold bN;omega
  omega
 obtain⟨r,hr⟩:∃ r:Nat,(r:Int)=rg b:=⟨(rg b).toNat,Int.toNat_of_nonneg r0⟩
 have hs:b=ay (decide (b<0)) (r:Int):=by
  rw[hr]
  unfold ay rg
  by_cases h:b<0
  ·rw[decide_eq_true h,if_pos rfl,if_pos h];omega
  ·rw[decide_eq_false h,if_neg (by decide),if_neg h]
 refine⟨decide (b<0),r,hr,by rw[hr];exact hlt,?_⟩
 rw[<- hr] at hlt
 cases hd:decide (b<0)
 ·rw[hd] at hs
  rw[hs]
  exact eQ hlt (fun h=>by cases h)
 ·rw[hd] at hs
  rw[hs]
  exact nX hlt
end Go.Proofs.YtkkpppgfoilgmaaGreatDoor
namespace Go.Proofs.YtkkpppgfoilgmaaGreatDoor
open Go Go.Proofs.Tryz Go.RowKit Go.Proofs.YtkkpppgfoilgmaaGreatDoor.M Ieee
theorem iT {ng:Bool} {r:Int} (h0:0<=r) (h1:r<=9218868437227405312):Ieee.double.word ng r.toNat=wd (ay ng r):=by
 unfold Format.word wd ay
 rw[ft]
 cases ng
 ·rw[if_neg (by decide),if_neg (by decide)];omega
 ·rw[if_pos rfl,if_pos rfl];omega
theorem qT {b:Int} (hb:au b) (hp:aC b=true):0<=rg b∧rg b<9218868437227405312:=by
 obtain⟨_,r,hr,hlt,_⟩:=Bv hb hp
 omega
theorem gY {b:Int} (hb:au b) (hp:aC b=true):aF b=sg (decide (b<0)) (vS (rg b).toNat):=by
 obtain⟨h0,h1⟩:=qT hb hp
 obtain⟨r,hr⟩:∃ r:Nat,(r:Int)=rg b:=⟨(rg b).toNat,Int.toNat_of_nonneg h0⟩
 have hs:b=ay (decide (b<0)) (r:Int):=by
  rw[hr]
  unfold ay rg
  by_cases h:b<0
  ·rw[decide_eq_true h,if_pos rfl,if_pos h];omega
  ·rw[decide_eq_false h,if_neg (by decide),if_neg h]
 rw[<- hr] at h1 ⊢
 rw[Int.toNat_natCast]
 cases hd:decide (b<0)
 ·rw[hd] at hs
  rw[hs]
  exact eQ h1 (fun h=>by cases h)
 ·rw[hd] at hs
  rw[hs]
  exact nX h1
theorem cG {b:Int} (hb:au b) (hp:aC b=true):∃ m u:Nat,Ieee.double.read (wd b)=.number (decide (b<0)) m (-1074+(u:Int))∧aF b=sg (decide (b<0)) ((m:Int)*pw (-1074+(u:Int))):=by
 obtain⟨h0,h1⟩:=qT hb hp
 have hw:((wd b % 9223372036854775808:Nat):Int)=rg b:=kP hb
 have hw2:wd b % 9223372036854775808=(rg b).toNat:=by omega
 obtain⟨m,u,h,hm⟩:=gO Ieee.double (wd b) (by rw[ft,jS];omega)
 rw[ft,oF,l8 hb] at h
 rw[ft,hw2] at hm
 refine⟨m,u,h,?_⟩
 have e:vS (rg b).toNat=(m:Int)*pw (-1074+(u:Int)):=by
  unfold vS
  rw[<- hm,fh (by decide),Int.mul_comm (pw (-1074))]
  generalize pw (-1074)=q
  push_cast
  rw[Int.mul_assoc]
 rw[gY hb hp,e]
theorem kz (s:Bool) (m k:Nat) {i base:Int} (h:i=base+(k:Int)) (hb:-4194304<=base):signed s m k*pw base=sg s ((m:Int)*pw i):=by
 rw[nK,h,fh hb,Int.mul_comm (pw base),<- Int.mul_assoc]
 have e:((m*2^k:Nat):Int)=(m:Int)*2^k:=by push_cast;rfl
 rw[e]
 generalize (m:Int)*2^k=t
 unfold sg
 cases s
 ·rfl
 ·show -t*pw base=-(t*pw base)
  rw[Int.neg_mul]
theorem qh {t q:Int} (hq:0<q):t*q=sg (decide (t<0)) ((t.natAbs:Int)*q):=by
 by_cases h:t<0
 ·rw[decide_eq_true h]
  show t*q=-((t.natAbs:Int)*q)
  rw[<- Int.neg_mul,show -(t.natAbs:Int)=t by omega]
 ·rw[decide_eq_false h]
  show t*q=(t.natAbs:Int)*q
  rw[show(t.natAbs:Int)=t by omega]
theorem ns {t q:Int} (hq:0<q):t<0↔t*q<0:=by
 constructor
 ·exact fun h=>Int.mul_neg_of_neg_of_pos h hq
 ·intro h
  rcases Int.lt_or_le t 0 with g|g
  ·exact g
  ·exact absurd h (Int.not_lt.2 (Int.mul_nonneg g (Int.le_of_lt hq)))
theorem kL {t q:Int} (hq:0<q):t=0↔t*q=0:=by
 constructor
 ·intro h;rw[h,Int.zero_mul]
 ·intro h
  rcases Int.mul_eq_zero.1 h with g|g
  ·exact g
  ·omega
theorem lE {S t base:Int} (hb:-4194304<=base) (hS:t*pw base=S) (h0:S≠0) :
  ∃ (A:Int) (r0:Nat) (left:Int),S=sg (decide (S<0)) A∧cZ A r0 left∧Ieee.double.nearest (decide (t<0)) t.natAbs base=wd (ay (decide (S<0)) (aX 0 (decide (S<0)) r0 left)):=by
 have hq:=bT base
 have ht:t≠0:=fun h=>h0 (by rw[<- hS,h,Int.zero_mul])
 have hd:decide (t<0)=decide (S<0):=by rw[<- hS];congr 1;exact propext (ns hq)
 obtain⟨r0,left,hR,hE⟩:=mq (decide (t<0)) (mag:=t.natAbs) (place:=base) (by omega) hb
 refine⟨_,r0,left,?_,hR,?_⟩
 ·rw[<- hd,<- hS];exact qh hq
 ·rw[hE,hd]
  obtain⟨g1,g2⟩:=cm 0 (decide (S<0)) r0 left
  exact iT g1 g2
theorem FP {a b:Int} (ha:au a) (hb:au b) (pa:aC a=true) (pb:aC b=true) :
  (aF a+aF b=0->Ieee.double.add (wd a) (wd b)=some (wd (ay (decide (a<0)&&decide (b<0)) 0))) ∧
  (aF a+aF b≠0->∃ (A:Int) (r0:Nat) (left:Int),aF a+aF b=sg (decide (aF a+aF b<0)) A∧cZ A r0 left∧Ieee.double.add (wd a) (wd b)=some (wd (ay (decide (aF a+aF b<0)) (aX 0 (decide (aF a+aF b<0)) r0 left)))):=by
 obtain⟨m,u,h1,v1⟩:=cG ha pa
 obtain⟨n,v,h2,v2⟩:=cG hb pb
 have hadd:Ieee.double.add (wd a) (wd b)=some (Ieee.double.nearest (if signed (decide (a<0)) m (u-min u v)+signed (decide (b<0)) n (v-min u v)=0 then decide (a<0)&&decide (b<0) else decide (signed (decide (a<0)) m (u-min u v)+signed (decide (b<0)) n (v-min u v)<0)) (signed (decide (a<0)) m (u-min u v)+signed (decide (b<0)) n (v-min u v)).natAbs (-1074+((min u v:Nat):Int))):=by
  unfold Format.add
  rw[h1,h2]
  unfold Datum.sum
  dsimp only
  have hmin:min (-1074+(u:Int)) (-1074+(v:Int))=-1074+((min u v:Nat):Int):=by omega
  have e1:(-1074+(u:Int)-(-1074+((min u v:Nat):Int))).toNat=u-min u v:=by omega
  have e2:(-1074+(v:Int)-(-1074+((min u v:Nat):Int))).toNat=v-min u v:=by omega
  rw[hmin,e1,e2]
  rfl
 have s1:=kz (decide (a<0)) m (u-min u v) (i:=-1074+(u:Int)) (base:=-1074+((min u v:Nat):Int)) (by omega) (by omega)
 have s2:=kz (decide (b<0)) n (v-min u v) (i:=-1074+(v:Int)) (base:=-1074+((min u v:Nat):Int)) (by omega) (by omega)
 rw[<- v1] at s1
 rw[<- v2] at s2
 have hB:-4194304 <= -1074+((min u v:Nat):Int):=by omega
 generalize -1074+((min u v:Nat):Int)=base at *
 have hq:=bT base
 have hS:(signed (decide (a<0)) m (u-min u v)+signed (decide (b<0)) n (v-min u v))*pw base=aF a+aF b:=by rw[Int.add_mul,s1,s2]
 generalize signed (decide (a<0)) m (u-min u v)+signed (decide (b<0)) n (v-min u v)=t at *
 clear s1 s2 v1 v2 h1 h2
 refine⟨fun h=>?_,fun h=>?_⟩
 ·have ht:t=0:=(kL hq).2 (hS.trans h)
  rw[hadd,ht,if_pos rfl]
  unfold Format.nearest
  rw[if_pos (show Int.natAbs 0=0 from rfl)]
  have:=iT (ng:=decide (a<0)&&decide (b<0)) (r:=0) (by decide) (by decide)
  rw[<- this]
  rfl
 ·have ht:t≠0:=fun e=>h (by rw[<- hS,e,Int.zero_mul])
  obtain⟨A,r0,left,q1,q2,q3⟩:=lE hB hS h
  refine⟨A,r0,left,q1,q2,?_⟩
  rw[hadd,if_neg ht,q3]
theorem ms {g h:Bool} {x y p q r Z:Int} (e:p*q=r*Z):sg (g != h) (x*y*r)*Z=sg g (x*p)*sg h (y*q):=by
 rw[wc,jK]
 congr 1
 rw[Int.mul_assoc (x*y),<- e,Int.mul_assoc x y,Int.mul_assoc x p]
 congr 1
 rw[<- Int.mul_assoc,<- Int.mul_assoc,Int.mul_comm y p]
theorem oH (g h:Bool):(g ^^ h)=(g != h):=by cases g<;>cases h<;>rfl
theorem FQ {a b:Int} (ha:au a) (hb:au b) (pa:aC a=true) (pb:aC b=true) :
  ∃ D:Int,0<=D∧sg (decide (a<0) != decide (b<0)) D*2^4194304=aF a*aF b ∧
   (D=0->Ieee.double.mul (wd a) (wd b)=some (wd (ay (decide (a<0) != decide (b<0)) 0))) ∧
   (D≠0->∃ (r0:Nat) (left:Int),cZ D r0 left∧Ieee.double.mul (wd a) (wd b)=some (wd (ay (decide (a<0) != decide (b<0)) (aX 0 (decide (a<0) != decide (b<0)) r0 left)))):=by
 obtain⟨m,u,h1,v1⟩:=cG ha pa
 obtain⟨n,v,h2,v2⟩:=cG hb pb
 have hmul:Ieee.double.mul (wd a) (wd b)=some (Ieee.double.nearest (decide (a<0) != decide (b<0)) (m*n) (-1074+(u:Int)+(-1074+(v:Int)))):=by
  unfold Format.mul
  rw[h1,h2]
  unfold Datum.product
  dsimp only
  rw[oH]
  rfl
 have hpm:=l5 (a:=-1074+(u:Int)) (b:=-1074+(v:Int)) (by omega) (by omega)
 have hB:-4194304 <= -1074+(u:Int)+(-1074+(v:Int)):=by omega
 have hq:=bT (-1074+(u:Int)+(-1074+(v:Int)))
 have hC:=ms (g:=decide (a<0)) (h:=decide (b<0)) (x:=(m:Int)) (y:=(n:Int)) hpm
 rw[<- v1,<- v2] at hC
 generalize -1074+(u:Int)+(-1074+(v:Int))=base at *
 have hcast:((m*n:Nat):Int)=(m:Int)*(n:Int):=by push_cast;rfl
 refine⟨(m:Int)*(n:Int)*pw base,Int.mul_nonneg (by rw[<- hcast];omega) (Int.le_of_lt hq),hC,fun h=>?_,fun h=>?_⟩
 ·have h0:m*n=0:=by
   rcases Int.mul_eq_zero.1 h with g|g
   ·rw[<- hcast] at g;omega
   ·omega
  rw[hmul,h0]
  unfold Format.nearest
  rw[if_pos rfl]
  have:=iT (ng:=decide (a<0) != decide (b<0)) (r:=0) (by decide) (by decide)
  rw[<- this]
  rfl
 ·have h0:m*n≠0:=fun e=>h (by rw[<- hcast,e];simp)
  obtain⟨r0,left,hR,hE⟩:=mq (decide (a<0) != decide (b<0)) (place:=base) h0 hB
  rw[hcast] at hR
  refine⟨r0,left,hR,?_⟩
  rw[hmul,hE]
  obtain⟨g1,g2⟩:=cm 0 (decide (a<0) != decide (b<0)) r0 left
  rw[iT g1 g2]
def st (z:Nat):Prop:=z<18446744073709551616∧9218868437227405312<z % 9223372036854775808
theorem ue (x y t:Nat):st ((Question.nanBits .f64 x y).cut t):=by
 have h:(Question.nanBits .f64 x y).cut t=(t % 2)*2^63+0x7ff0000000000000+1+(t/2) % (2^52-1):=rfl
 have e63:(2:Nat)^63=9223372036854775808:=by decide
 have e52:(2:Nat)^52-1=4503599627370495:=by decide
 rw[h,e63,e52]
 have hc:=Nat.mod_lt (t/2) (show 0<4503599627370495 by decide)
 have hm:t % 2=0∨t % 2=1:=by omega
 generalize t/2 % 4503599627370495=c at *
 unfold st
 rcases hm with h2|h2
 ·rw[h2];omega
 ·rw[h2];omega
theorem jF {P:Program} (op:BinOp) (ho:op=.add∨op=.sub∨op=.mul∨op=.quo) (t:TypeId) (x y:Nat) (w:World) :
  ∃ z w',(binOp op t (.float .f64 x) (.float .f64 y)).run P w=.ok (.float .f64 z) w'∧((floatBits op .f64 x y=some z∧w'=w)∨(floatBits op .f64 x y=none∧st z∧w'=w.drew)):=by
 cases h:floatBits op .f64 x y with
 | some r=>exact⟨r,w,run_float_arith w op t .f64 x y r h,.inl ⟨rfl,rfl⟩⟩
 | none=>
  refine⟨_,w.drew,?_,.inr ⟨rfl,ue x y (w.tape w.drawn (.nanBits .f64 x y)),rfl⟩⟩
  unfold floatBits at h
  rcases ho with rfl|rfl|rfl|rfl<;>simp only at h<;>simp[binOp,Op.floatArith,h]<;>exact fun hf=>absurd (show false=true from hf) (by decide)
def FW (p:Int) (x:Nat):Prop:=(aE p≠4∧au p∧x=wd p)∨(p=9221120237041090561∧st x)
def mt (x:Nat):Int:=if x<9223372036854775808 then (x:Int) else (x:Int)-18446744073709551616
theorem Bw {p:Int} (h:au p):mt (wd p)=p:=by
 unfold au at h
 unfold mt wd
 split<;>omega
def br (S:Int):Int:=mt (Ieee.double.nearest (decide (S<0)) S.natAbs (-4194304))
theorem su:pw (-4194304)=1:=by unfold pw;rfl
theorem fC {ng:Bool} {r:Int} (h0:0<=r) (h1:r<=9218868437227405312):au (ay ng r)∧aE (ay ng r)≠4:=by
 have hr:au (ay ng r):=by unfold au ay;cases ng<;>simp<;>omega
 refine⟨hr,fun q=>?_⟩
 have:=(ew hr).1.1 q
 unfold rg ay at this
 cases ng
 ·simp only[Bool.false_eq_true,if_false] at this;split at this<;>omega
 ·simp only[if_true] at this;split at this<;>omega
theorem fE {S:Int} (h:S≠0):∃ (A:Int) (r0:Nat) (left:Int),S=sg (decide (S<0)) A∧cZ A r0 left∧br S=ay (decide (S<0)) (aX 0 (decide (S<0)) r0 left):=by
 obtain⟨A,r0,left,h1,h2,h3⟩:=lE (S:=S) (t:=S) (base:=-4194304) (by decide) (by rw[su,Int.mul_one]) h
 refine⟨A,r0,left,h1,h2,?_⟩
 unfold br
 rw[h3]
 obtain⟨g1,g2⟩:=cm 0 (decide (S<0)) r0 left
 exact Bw (fC g1 g2).1
theorem iG {g:Bool} {A B:Int} (h:sg g A=sg g B):A=B:=by
 cases g
 ·exact h
 ·exact Int.neg_inj.1 h
def a8 (p q:Int):Int :=
 if aE p=4∨aE q=4 then 9221120237041090561
 else if rg p=9218868437227405312 then (if rg q=9218868437227405312∧decide (p<0)≠decide (q<0) then 9221120237041090561 else p)
 else if rg q=9218868437227405312 then q
 else if aF p+aF q=0 then ay (decide (p<0)&&decide (q<0)) 0 else br (aF p+aF q)
theorem bp {p:Int} (hp:au p):aC p=true↔rg p<9218868437227405312:=by
 obtain⟨r0,r1⟩:=fY hp
 have hf:0<=bZ p∧bZ p<4503599627370496:=by unfold bZ;omega
 have hg:0<=bN p∧bN p<2048:=by unfold bN;omega
 unfold aC
 simp
 omega
theorem zd {p q:Int} (hp:au p) (hq:au q) (pp:aC p=true) (pq:aC q=true):Ieee.double.add (wd p) (wd q)=some (wd (if aF p+aF q=0 then ay (decide (p<0)&&decide (q<0)) 0 else br (aF p+aF q))):=by
 obtain⟨h0,h1⟩:=FP hp hq pp pq
 by_cases hS:aF p+aF q=0
 ·rw[if_pos hS];exact h0 hS
 ·rw[if_neg hS]
  obtain⟨A,r0,left,a1,a2,a3⟩:=h1 hS
  obtain⟨B,s0,k,b1,b2,b3⟩:=fE hS
  have hAB:=iG (a1.symm.trans b1)
  subst hAB
  obtain⟨h2,h3⟩:=a2.unique b2
  subst h2 h3
  rw[a3,b3]
theorem de {p:Int} (hp:au p) (h:rg p=9218868437227405312):Ieee.double.read (wd p)=.infinity (decide (p<0)):=by
 have hw:((wd p % 9223372036854775808:Nat):Int)=rg p:=kP hp
 have:=lh Ieee.double wi (wd p) (by rw[ft,jS];omega)
 rwa [ft,l8 hp] at this
theorem i9 {p:Int} (hp:au p) (h:rg p=9218868437227405312):Ieee.double.write (.infinity (decide (p<0)))=wd p:=by
 unfold Format.write
 dsimp only
 rw[jS]
 have:=iT (ng:=decide (p<0)) (r:=9218868437227405312) (by decide) (by decide)
 have e:ay (decide (p<0)) 9218868437227405312=p:=by
  unfold rg at h
  unfold ay
  by_cases h0:p<0
  ·rw[if_pos h0] at h;rw[decide_eq_true h0,if_pos rfl];omega
  ·rw[if_neg h0] at h;rw[decide_eq_false h0,if_neg (by decide)];omega
 rw[e] at this
 exact this
theorem jj:aE 9221120237041090561=4:=by decide
theorem FW.nan {x:Nat} (h:st x):FW 9221120237041090561 x:=.inr ⟨rfl,h⟩
theorem FW.pat {p:Int} (h:aE p≠4) (hp:au p):FW p (wd p):=.inl ⟨h,hp,rfl⟩
theorem FW.read_nan {p:Int} {x:Nat} (h:FW p x) (h4:aE p=4):∃ s t,Ieee.double.read x=.nan s t:=by
 rcases h with⟨h,_⟩|⟨_,h⟩
 ·exact absurd h4 h
 ·exact M.rz Ieee.double wi x (by rw[ft,jS];exact h.2)
theorem FW.of {p:Int} {x:Nat} (h:FW p x) (h4:aE p≠4):au p∧x=wd p∧0<=rg p∧rg p<=9218868437227405312:=by
 rcases h with⟨_,h1,h2⟩|⟨h,_⟩
 ·obtain⟨r0,_⟩:=fY h1
  refine⟨h1,h2,r0,?_⟩
  rcases Int.lt_or_le 9218868437227405312 (rg p) with g|g
  ·exact absurd ((ew h1).1.2 g) h4
  ·exact g
 ·rw[h] at h4;exact absurd jj h4
theorem dZ {S:Int} (h:S≠0):au (br S)∧aE (br S)≠4:=by
 obtain⟨A,r0,left,_,_,e⟩:=fE h
 rw[e]
 obtain⟨g1,g2⟩:=cm 0 (decide (S<0)) r0 left
 exact fC g1 g2
theorem xa {p q:Int} {x y:Nat} (hx:FW p x) (hy:FW q y):(∃ z,Ieee.double.add x y=some z∧FW (a8 p q) z)∨(Ieee.double.add x y=none∧a8 p q=9221120237041090561):=by
 by_cases h4:aE p=4∨aE q=4
 ·right
  refine⟨?_,by unfold a8;rw[if_pos h4]⟩
  unfold Format.add
  rcases h4 with h|h
  ·obtain⟨s,t,e⟩:=hx.read_nan h
   rw[e]
   rfl
  ·obtain⟨s,t,e⟩:=hy.read_nan h
   rw[e]
   cases Ieee.double.read x<;>rfl
 ·have h4p:aE p≠4:=fun h=>h4 (.inl h)
  have h4q:aE q≠4:=fun h=>h4 (.inr h)
  obtain⟨rp,rfl,p0,p1⟩:=hx.of h4p
  obtain⟨rq,rfl,q0,q1⟩:=hy.of h4q
  unfold a8
  rw[if_neg h4]
  by_cases ip:rg p=9218868437227405312
  ·rw[if_pos ip]
   have ep:=de rp ip
   by_cases iq:rg q=9218868437227405312
   ·have eq:=de rq iq
    by_cases hs:decide (p<0)=decide (q<0)
    ·left
     refine⟨wd p,?_,?_⟩
     ·unfold Format.add
      rw[ep,eq]
      unfold Datum.sum
      dsimp only
      rw[if_pos hs]
      show some (Ieee.double.write (.infinity (decide (p<0))))=_
      rw[i9 rp ip]
     ·rw[if_neg (fun h=>h.2 hs)]
      exact FW.pat h4p rp
    ·right
     refine⟨?_,by rw[if_pos ⟨iq,hs⟩]⟩
     unfold Format.add
     rw[ep,eq]
     unfold Datum.sum
     dsimp only
     rw[if_neg hs]
     rfl
   ·left
    obtain⟨m,u,eq,_⟩:=cG rq ((bp rq).2 (by omega))
    refine⟨wd p,?_,?_⟩
    ·unfold Format.add
     rw[ep,eq]
     show some (Ieee.double.write (.infinity (decide (p<0))))=_
     rw[i9 rp ip]
    ·rw[if_neg (fun h=>iq h.1)]
     exact FW.pat h4p rp
  ·rw[if_neg ip]
   have pp:=(bp rp).2 (by omega)
   by_cases iq:rg q=9218868437227405312
   ·left
    rw[if_pos iq]
    have eq:=de rq iq
    obtain⟨m,u,ep,_⟩:=cG rp pp
    refine⟨wd q,?_,FW.pat h4q rq⟩
    unfold Format.add
    rw[ep,eq]
    show some (Ieee.double.write (.infinity (decide (q<0))))=_
    rw[i9 rq iq]
   ·left
    rw[if_neg iq]
    refine⟨_,zd rp rq pp ((bp rq).2 (by omega)),?_⟩
    by_cases hS:aF p+aF q=0
    ·rw[if_pos hS]
     obtain⟨g1,g2⟩:=fC (ng:=decide (p<0)&&decide (q<0)) (r:=0) (by decide) (by decide)
     exact FW.pat g2 g1
    ·rw[if_neg hS]
     exact FW.pat (dZ hS).2 (dZ hS).1
theorem xb {x y:Nat} (h1:x % Ieee.double.signWeight=y % Ieee.double.signWeight) (h2:(x/Ieee.double.signWeight % 2 == 1)=!(y/Ieee.double.signWeight % 2 == 1)):Ieee.double.read x=(Ieee.double.read y).opposite:=by
 unfold Format.read
 dsimp only
 rw[h1,h2]
 split
 ·rfl
 ·split
  ·rfl
  ·split
   ·rfl
   ·rfl
theorem ze {q:Int} (hq:au q) (h4:aE q≠4):Ieee.double.read (wd (neg q))=(Ieee.double.read (wd q)).opposite:=by
 have hn:neg q=if q<0 then q+9223372036854775808 else q-9223372036854775808:=by unfold neg;rw[if_neg h4]
 refine xb ?_ ?_
 ·rw[ft,hn]
  unfold au at hq
  unfold wd
  split<;>omega
 ·rw[ft,l8 (gp hq),l8 hq,hn]
  unfold au at hq
  by_cases h:q<0
  ·rw[if_pos h,decide_eq_false (p:=q+9223372036854775808<0) (by omega),decide_eq_true h];rfl
  ·rw[if_neg h,decide_eq_true (p:=q-9223372036854775808<0) (by omega),decide_eq_false h];rfl
theorem uf {q:Int} (h:aE q=4):neg q=9221120237041090561:=by unfold neg;rw[if_pos h]
theorem DA {p q:Int} {x y:Nat} (hx:FW p x) (hy:FW q y):(∃ z,Ieee.double.sub x y=some z∧FW (a8 p (neg q)) z)∨(Ieee.double.sub x y=none∧a8 p (neg q)=9221120237041090561):=by
 by_cases h4:aE q=4
 ·right
  refine⟨?_,by unfold a8;rw[uf h4,if_pos (.inr jj)]⟩
  obtain⟨s,t,e⟩:=hy.read_nan h4
  unfold Format.sub
  rw[e]
  cases Ieee.double.read x<;>rfl
 ·obtain⟨rq,rfl,_,_⟩:=hy.of h4
  have hs:Ieee.double.sub x (wd q)=Ieee.double.add x (wd (neg q)):=by
   unfold Format.sub Format.add
   rw[ze rq h4]
  rw[hs]
  exact xa hx (FW.pat (Br rq h4) (gp rq))
theorem qi {P:Program} (t:TypeId) {p q:Int} {x y:Nat} (hx:FW p x) (hy:FW q y) (w:World) :
  ∃ z w',(binOp .sub t (.float .f64 x) (.float .f64 y)).run P w=.ok (.float .f64 z) w'∧FW (a8 p (neg q)) z∧(w'=w∨w'=w.drew):=by
 obtain⟨z,w',h,hz⟩:=jF (P:=P) .sub (.inr (.inl rfl)) t x y w
 refine⟨z,w',h,?_⟩
 have hf:floatBits .sub .f64 x y=Ieee.double.sub x y:=rfl
 rw[hf] at hz
 rcases DA hx hy with⟨z',e1,e2⟩|⟨e1,e2⟩
 ·rcases hz with⟨h1,h2⟩|⟨h1,_⟩
  ·rw[e1] at h1;cases h1;exact⟨e2,.inl h2⟩
  ·rw[e1] at h1;cases h1
 ·rcases hz with⟨h1,_⟩|⟨_,h2,h3⟩
  ·rw[e1] at h1;cases h1
  ·rw[e2];exact⟨FW.nan h2,.inr h3⟩
def bg (p q:Int):Bool:=decide (p<0) != decide (q<0)
def eE (p q:Int):Int:=sg (bg p q) (aF p*aF q/2^4194304)
def aS (p q:Int):Int :=
 if aE p=4∨aE q=4 then 9221120237041090561
 else if rg p=9218868437227405312∨rg q=9218868437227405312 then (if rg p=0∨rg q=0 then 9221120237041090561 else ay (bg p q) 9218868437227405312)
 else if eE p q=0 then ay (bg p q) 0 else br (sg (bg p q) (eE p q))
theorem nY {g:Bool} {D Z C:Int} (hZ:0<Z) (h:sg g D*Z=C):sg g (C/Z)=D:=by
 rw[<- h,Int.mul_ediv_cancel _ (Int.ne_of_gt hZ)]
 cases g
 ·rfl
 ·exact Int.neg_neg D
theorem zf {g:Bool} {D:Int} {r0:Nat} {left:Int} (h0:0<D) (hR:cZ D r0 left):br (sg g D)=ay g (aX 0 g r0 left):=by
 have hd:decide (sg g D<0)=g:=by
  cases g
  ·exact decide_eq_false (by show ¬ D<0;omega)
  ·exact decide_eq_true (by show -D<0;omega)
 have hn:sg g D≠0:=by
  cases g
  ·show D≠0;omega
  ·show -D≠0;omega
 obtain⟨A,s0,k,e1,e2,e3⟩:=fE hn
 rw[hd] at e1 e3
 have:=iG e1
 subst this
 obtain⟨h1,h2⟩:=hR.unique e2
 subst h1 h2
 exact e3
theorem zg {p q:Int} (hp:au p) (hq:au q) (pp:aC p=true) (pq:aC q=true):Ieee.double.mul (wd p) (wd q)=some (wd (if eE p q=0 then ay (bg p q) 0 else br (sg (bg p q) (eE p q)))):=by
 obtain⟨D,d0,d1,d2,d3⟩:=FQ hp hq pp pq
 have hf:eE p q=D:=nY (aJ 4194304) d1
 rw[hf]
 by_cases h:D=0
 ·rw[if_pos h];exact d2 h
 ·rw[if_neg h]
  obtain⟨r0,left,hR,hE⟩:=d3 h
  rw[hE,zf (by omega) hR]
  rfl
theorem iH (g:Bool):Ieee.double.write (.infinity g)=wd (ay g 9218868437227405312):=by
 unfold Format.write
 dsimp only
 rw[jS]
 exact iT (ng:=g) (r:=9218868437227405312) (by decide) (by decide)
theorem lF {q:Int} {m u:Nat} (hq:au q) (pq:aC q=true) (h:aF q=sg (decide (q<0)) ((m:Int)*pw (-1074+(u:Int)))):m=0↔rg q=0:=by
 have e:=gY hq pq
 rw[h] at e
 have e2:=iG e
 obtain⟨r0,r1⟩:=qT hq pq
 constructor
 ·intro hm
  rw[hm] at e2
  have e3:vS (rg q).toNat=0:=by rw[<- e2];simp
  rcases Nat.eq_zero_or_pos (rg q).toNat with g|g
  ·omega
  ·have:=iE g
   rw[fk,e3] at this
   exact absurd this (Int.lt_irrefl _)
 ·intro hr
  rw[hr] at e2
  have e3:(m:Int)*pw (-1074+(u:Int))=0:=by rw[e2];exact fk
  have:=(kL (bT (-1074+(u:Int)))).2 e3
  omega
theorem xf {p q:Int} {x y:Nat} (hx:FW p x) (hy:FW q y):(∃ z,Ieee.double.mul x y=some z∧FW (aS p q) z)∨(Ieee.double.mul x y=none∧aS p q=9221120237041090561):=by
 by_cases h4:aE p=4∨aE q=4
 ·right
  refine⟨?_,by unfold aS;rw[if_pos h4]⟩
  unfold Format.mul
  rcases h4 with h|h
  ·obtain⟨s,t,e⟩:=hx.read_nan h
   rw[e]
   rfl
  ·obtain⟨s,t,e⟩:=hy.read_nan h
   rw[e]
   cases Ieee.double.read x<;>rfl
 ·have h4p:aE p≠4:=fun h=>h4 (.inl h)
  have h4q:aE q≠4:=fun h=>h4 (.inr h)
  obtain⟨rp,rfl,p0,p1⟩:=hx.of h4p
  obtain⟨rq,rfl,q0,q1⟩:=hy.of h4q
  have hI:=fC (ng:=bg p q) (r:=9218868437227405312) (by decide) (by decide)
  have hX:(decide (p<0) ^^ decide (q<0))=bg p q:=oH _ _
  have hX2:(decide (q<0) ^^ decide (p<0))=bg p q:=by rw[<- hX];cases decide (p<0)<;>cases decide (q<0)<;>rfl
  unfold aS
  rw[if_neg h4]
  by_cases ip:rg p=9218868437227405312
  ·rw[if_pos (.inl ip)]
   have ep:=de rp ip
   by_cases iq:rg q=9218868437227405312
   ·left
    rw[if_neg (by omega)]
    refine⟨_,?_,FW.pat hI.2 hI.1⟩
    unfold Format.mul
    rw[ep,de rq iq]
    show some (Ieee.double.write (.infinity (decide (p<0) ^^ decide (q<0))))=_
    rw[iH,hX]
   ·have pq:=(bp rq).2 (by omega)
    obtain⟨m,u,eq,vq⟩:=cG rq pq
    have hz:=lF rq pq vq
    by_cases hm:m=0
    ·right
     refine⟨?_,by rw[if_pos (.inr (hz.1 hm))]⟩
     unfold Format.mul
     rw[ep,eq,hm]
     rfl
    ·left
     rw[if_neg (fun h=>by rcases h with h|h;omega;exact hm (hz.2 h))]
     refine⟨_,?_,FW.pat hI.2 hI.1⟩
     unfold Format.mul
     rw[ep,eq]
     unfold Datum.product
     dsimp only
     rw[if_neg hm]
     show some (Ieee.double.write (.infinity (decide (p<0) ^^ decide (q<0))))=_
     rw[iH,hX]
  ·have pp:=(bp rp).2 (by omega)
   by_cases iq:rg q=9218868437227405312
   ·rw[if_pos (.inr iq)]
    obtain⟨m,u,ep,vp⟩:=cG rp pp
    have hz:=lF rp pp vp
    have eq:=de rq iq
    by_cases hm:m=0
    ·right
     refine⟨?_,by rw[if_pos (.inl (hz.1 hm))]⟩
     unfold Format.mul
     rw[ep,eq,hm]
     rfl
    ·left
     rw[if_neg (fun h=>by rcases h with h|h;exact hm (hz.2 h);omega)]
     refine⟨_,?_,FW.pat hI.2 hI.1⟩
     unfold Format.mul
     rw[ep,eq]
     unfold Datum.product
     dsimp only
     rw[if_neg hm]
     show some (Ieee.double.write (.infinity (decide (q<0) ^^ decide (p<0))))=_
     rw[iH,hX2]
   ·left
    rw[if_neg (by omega)]
    refine⟨_,zg rp rq pp ((bp rq).2 (by omega)),?_⟩
    by_cases hS:eE p q=0
    ·rw[if_pos hS]
     obtain⟨g1,g2⟩:=fC (ng:=bg p q) (r:=0) (by decide) (by decide)
     exact FW.pat g2 g1
    ·rw[if_neg hS]
     have hn:sg (bg p q) (eE p q)≠0:=by
      generalize eE p q=D at *
      cases bg p q
      ·exact hS
      ·show -D≠0;omega
     exact FW.pat (dZ hn).2 (dZ hn).1
theorem qj {P:Program} (t:TypeId) {p q:Int} {x y:Nat} (hx:FW p x) (hy:FW q y) (w:World) :
  ∃ z w',(binOp .mul t (.float .f64 x) (.float .f64 y)).run P w=.ok (.float .f64 z) w'∧FW (aS p q) z∧(w'=w∨w'=w.drew):=by
 obtain⟨z,w',h,hz⟩:=jF (P:=P) .mul (.inr (.inr (.inl rfl))) t x y w
 refine⟨z,w',h,?_⟩
 have hf:floatBits .mul .f64 x y=Ieee.double.mul x y:=rfl
 rw[hf] at hz
 rcases xf hx hy with⟨z',e1,e2⟩|⟨e1,e2⟩
 ·rcases hz with⟨h1,h2⟩|⟨h1,_⟩
  ·rw[e1] at h1;cases h1;exact⟨e2,.inl h2⟩
  ·rw[e1] at h1;cases h1
 ·rcases hz with⟨h1,_⟩|⟨_,h2,h3⟩
  ·rw[e1] at h1;cases h1
  ·rw[e2];exact⟨FW.nan h2,.inr h3⟩
theorem ug {a:Int} (ha:au a):FW (bQ a) (wd a):=by
 unfold bQ
 by_cases h:aE a=4
 ·rw[if_pos h]
  refine FW.nan ⟨?_,?_⟩
  ·unfold wd;omega
  ·exact(ig ha).1 h
 ·rw[if_neg h]
  exact FW.pat h ha
theorem zh {x:Nat} (h:x<18446744073709551616):au (mt x)∧wd (mt x)=x:=by
 unfold mt au wd
 split
 ·exact⟨by omega,by omega⟩
 ·exact⟨by omega,by omega⟩
theorem vk {p:Int} {x:Nat} (h:FW p x) (w:World):Calls prog 65 #[.float .f64 x] w fun e w'=>e=.returned (.int .i64 p)∧w'=w:=by
 rcases h with⟨h4,hp,rfl⟩|⟨rfl,hN⟩
 ·have:=mi p w hp
  have e:bQ p=p:=by unfold bQ;rw[if_neg h4]
  rwa [e] at this
 ·obtain⟨h1,h2⟩:=zh hN.1
  have:=mi (mt x) w h1
  rw[h2] at this
  have e:bQ (mt x)=9221120237041090561:=by
   unfold bQ
   rw[if_pos ((ig h1).2 (by rw[h2];exact hN.2))]
  rwa [e] at this
theorem sw {b:Int} {m u:Nat} (hb:au b) (hp:aC b=true) (h:Ieee.double.read (wd b)=.number (decide (b<0)) m (-1074+(u:Int))):m<9007199254740992∧u<=2046:=by
 obtain⟨h0,h1⟩:=qT hb hp
 have hw:((wd b % 9223372036854775808:Nat):Int)=rg b:=kP hb
 unfold Format.read at h
 rw[ft,jy,jS,oF] at h
 dsimp only at h
 split at h
 ·rename_i h2
  simp only[Datum.number.injEq] at h
  obtain⟨_,h3,h4⟩:=h
  exact⟨by omega,by omega⟩
 ·rw[if_pos (by omega)] at h
  have hm:=Nat.mod_lt (wd b % 9223372036854775808) (show 0<4503599627370496 by decide)
  have hd:wd b % 9223372036854775808/4503599627370496<=2047:=by omega
  simp only[Datum.number.injEq] at h
  obtain⟨_,h3,h4⟩:=h
  exact⟨by omega,by omega⟩
theorem qN {S t base:Int} (hb:-4194304<=base) (hS:t*pw base=S) (h0:S≠0):Ieee.double.nearest (decide (t<0)) t.natAbs base=wd (br S):=by
 obtain⟨A,r0,left,a1,a2,a3⟩:=lE hb hS h0
 obtain⟨B,s0,k,b1,b2,b3⟩:=fE h0
 have hAB:=iG (a1.symm.trans b1)
 subst hAB
 obtain⟨h2,h3⟩:=a2.unique b2
 subst h2 h3
 rw[a3,b3]
def j5 (p q r:Int):Int:=sg (bg p q) (eE p q)+aF r
theorem zi {p q r:Int} (hp:au p) (hq:au q) (hr:au r) (pp:aC p=true) (pq:aC q=true) (pr:aC r=true) :
  Ieee.double.fma (wd p) (wd q) (wd r)=some (wd (if j5 p q r=0 then ay (bg p q&&decide (r<0)) 0 else br (j5 p q r))):=by
 obtain⟨m,u,h1,v1⟩:=cG hp pp
 obtain⟨n,v,h2,v2⟩:=cG hq pq
 obtain⟨l,x,h3,v3⟩:=cG hr pr
 obtain⟨i,hi⟩:∃ i:Int,-1074+(u:Int)+(-1074+(v:Int))=i:=⟨_,rfl⟩
 obtain⟨j,hj⟩:∃ j:Int,-1074+(x:Int)=j:=⟨_,rfl⟩
 have hpm:=l5 (a:=-1074+(u:Int)) (b:=-1074+(v:Int)) (by omega) (by omega)
 have hC:=ms (g:=decide (p<0)) (h:=decide (q<0)) (x:=(m:Int)) (y:=(n:Int)) hpm
 rw[<- v1,<- v2,hi] at hC
 have hcast:((m*n:Nat):Int)=(m:Int)*(n:Int):=by push_cast;rfl
 have hf:eE p q=((m*n:Nat):Int)*pw i:=by rw[hcast];exact nY (aJ 4194304) hC
 obtain⟨base,hbase⟩:∃ base,min i j=base:=⟨_,rfl⟩
 have hB:-4194304<=base:=by omega
 obtain⟨t,ht⟩:∃ t,signed (bg p q) (m*n) (i-base).toNat+signed (decide (r<0)) l (j-base).toNat=t:=⟨_,rfl⟩
 have hfma:Ieee.double.fma (wd p) (wd q) (wd r)=some (Ieee.double.nearest (if t=0 then bg p q&&decide (r<0) else decide (t<0)) t.natAbs base):=by
  unfold Format.fma
  rw[h1,h2,h3]
  unfold Datum.product
  dsimp only
  rw[hi,hj,oH]
  show Option.map Ieee.double.write (Datum.sum (.number (bg p q) (m*n) i) (.number (decide (r<0)) l j))=_
  unfold Datum.sum
  dsimp only
  rw[hbase,ht]
  rfl
 have s1:=kz (bg p q) (m*n) (i-base).toNat (i:=i) (base:=base) (by omega) hB
 have s2:=kz (decide (r<0)) l (j-base).toNat (i:=j) (base:=base) (by omega) hB
 rw[hj] at v3
 rw[<- hf] at s1
 rw[<- v3] at s2
 have hS:t*pw base=j5 p q r:=by
  unfold j5
  rw[<- ht,Int.add_mul,s1,s2]
 rw[hfma]
 by_cases h:j5 p q r=0
 ·have ht0:t=0:=(kL (bT base)).2 (hS.trans h)
  rw[if_pos h,ht0,if_pos rfl]
  unfold Format.nearest
  rw[if_pos (show Int.natAbs 0=0 from rfl)]
  have:=iT (ng:=bg p q&&decide (r<0)) (r:=0) (by decide) (by decide)
  rw[<- this]
  rfl
 ·have ht0:t≠0:=fun e=>h (by rw[<- hS,e,Int.zero_mul])
  rw[if_neg h,if_neg ht0,qN hB hS h]
end Go.Proofs.YtkkpppgfoilgmaaGreatDoor
