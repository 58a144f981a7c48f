/- Parts of the proof. -/
import Derived.Test.YtcklaogdjpbagaaGreatDoorPart7
import Derived.Test.YtcklaogdjpbagaaGreatDoorPart5
import Derived.Test.YtcklaogdjpbagaaGreatDoorPart6
import Derived.Test.YtcklaogdjpbagaaGreatDoorPart1
import Derived.Laws.FloatArith
set_option maxRecDepth 100000
set_option maxHeartbeats 8000000
set_option linter.unusedVariables false
set_option linter.unusedSimpArgs false
namespace Go.Proofs.YtcklaogdjpbagaaGreatDoor
open Go Go.Proofs.Tryz Go.RowKit Go.Proofs.YtcklaogdjpbagaaGreatDoor.M
theorem fk:vS 0=0:=by unfold vS;rw[ka];simp
theorem jI {A:Int} {ng:Bool} {r:Nat} (h:(r:Int)<9218868437227405312):eX A (aC (ng&&decide ((0:Int)<r)) r)=aW A (sg ng (vS r)):=by
 by_cases h0:r=0
 ·subst h0
  have e:(ng&&decide ((0:Int)<((0:Nat):Int)))=false:=by simp
  rw[e,fk]
  have hp:ay (aC false ((0:Nat):Int))=true:=by decide
  have hv:au (aC false ((0:Nat):Int))=0:=by rw[eu (by decide) (fun q=>by cases q),fk];rfl
  unfold eX
  rw[if_pos hp,hv]
  cases ng<;>rfl
 ·have e:(ng&&decide ((0:Int)<(r:Int)))=ng:=by rw[decide_eq_true (by omega),Bool.and_true]
  rw[e]
  have hp:ay (aC ng r)=true:=by rw[ir (by omega) (by omega) (fun _=>by omega)];exact decide_eq_true h
  unfold eX
  rw[if_pos hp,eu h (fun _=>by omega)]
theorem oO {A:Int} {ng:Bool}:eX A (aC (ng&&decide ((0:Int)<9218868437227405312)) 9218868437227405312)=if ng then 1 else -1:=by
 cases ng<;>rfl
theorem vy (ng odd:Bool) (left:Int):cu 1 ng odd left=(decide (left≠0)&&ng):=rfl
theorem yN (ng odd:Bool) (left:Int):cu 2 ng odd left=(decide (left≠0)&&!ng):=rfl
theorem vz (ng odd:Bool) (left:Int):cu 3 ng odd left=false:=rfl
theorem qL {ng:Bool} {r0:Nat} {left:Int} (h:(r0:Int)<9218868437227405312) :
  bL 1 ng r0 left=(if left≠0∧ng=true then ((r0+1:Nat):Int) else (r0:Int))∧bL 2 ng r0 left=(if left≠0∧ng=false then ((r0+1:Nat):Int) else (r0:Int))∧bL 3 ng r0 left=(r0:Int)∧(bL 0 ng r0 left=(r0:Int)∨(left≠0∧bL 0 ng r0 left=((r0+1:Nat):Int))):=by
 unfold bL
 simp only[if_pos h]
 refine⟨?_,?_,?_,?_⟩
 ·rw[vy]
  by_cases h0:left=0
  ·subst h0;simp
  ·cases ng<;>simp[h0]
 ·rw[yN]
  by_cases h0:left=0
  ·subst h0;simp
  ·cases ng<;>simp[h0]
 ·rw[vz]
  simp
 ·cases hu:cu 0 ng (decide (r0 % 2=1)) left
  ·left;simp
  ·right
   refine⟨fun hz=>?_,by simp⟩
   rw[hz] at hu
   exact gA hu
theorem qM {ng:Bool} {r0:Nat} {left:Int} (h:¬ (r0:Int)<9218868437227405312) :
  bL 1 ng r0 left=(if ng=true then 9218868437227405312 else 9218868437227405311)∧bL 2 ng r0 left=(if ng=true then 9218868437227405311 else 9218868437227405312)∧bL 3 ng r0 left=9218868437227405311∧bL 0 ng r0 left=9218868437227405312:=by
 unfold bL
 simp only[if_neg h]
 cases ng<;>decide
theorem dp {b:Int} (hb:ar b):(aF b=4↔9218868437227405312<rg b)∧(aF b=0↔rg b=0):=by
 obtain⟨h0,h1⟩:=ew hb
 have hf:0<=bT b∧bT b<4503599627370496:=by unfold bT;omega
 have hg:0<=bG b∧bG b<2048:=by unfold bG;omega
 generalize rg b=r at *
 unfold aF
 generalize bG b=f at *
 generalize bT b=c at *
 constructor
 ·split
  ·split<;>constructor<;>intro h<;>omega
  ·split
   ·split<;>constructor<;>intro h<;>omega
   ·constructor<;>intro h<;>omega
 ·split
  ·split<;>constructor<;>intro h<;>omega
  ·split
   ·split<;>constructor<;>intro h<;>omega
   ·constructor<;>intro h<;>omega
theorem tE {r:Int} (h0:0<=r) (h1:r<9218868437227405312):kJ (next (aC false r))=r+1:=by
 have e:aC false r=r:=rfl
 rw[e]
 have a1:ar r:=by unfold ar;omega
 have a2:ar (r+1):=by unfold ar;omega
 have g1:rg r=r:=by unfold rg;rw[if_neg (by omega)]
 have g2:rg (r+1)=r+1:=by unfold rg;rw[if_neg (by omega)]
 have c1:=dp a1
 have c2:=dp a2
 rw[g1] at c1
 rw[g2] at c2
 have n:next r=r+1:=by
  unfold next
  rw[if_neg (by rw[c1.1];omega),if_neg (by omega),if_neg (by omega),if_neg (by omega)]
 rw[n]
 unfold kJ
 rw[if_neg (by rw[c2.1];omega),if_neg (by rw[c2.2];omega)]
theorem tF {r:Int} (h0:0<r) (h1:r<=9218868437227405312):kJ (next (aC true r))=aC (decide (0<r-1)) (r-1):=by
 have e:aC true r=r-9223372036854775808:=rfl
 rw[e]
 have a1:ar (r-9223372036854775808):=by unfold ar;omega
 have a2:ar (r-9223372036854775808-1):=by unfold ar;omega
 have g1:rg (r-9223372036854775808)=r:=by unfold rg;rw[if_pos (by omega)];omega
 have g2:rg (r-9223372036854775808-1)=r-1:=by unfold rg;rw[if_pos (by omega)];omega
 have c1:=dp a1
 have c2:=dp a2
 rw[g1] at c1
 rw[g2] at c2
 have n:next (r-9223372036854775808)=r-9223372036854775808-1:=by
  unfold next
  rw[if_neg (by rw[c1.1];omega),if_neg (by omega),if_neg (by omega),if_pos (by omega)]
 rw[n]
 unfold kJ
 rw[if_neg (by rw[c2.1];omega)]
 by_cases h:r-1=0
 ·rw[if_pos (c2.2.2 h),h]
  rfl
 ·rw[if_neg (by rw[c2.2];exact h),decide_eq_true (by omega)]
  unfold aC
  rw[if_pos rfl]
  omega
structure lV (V:Int) (ng:Bool) (f:Int->Int × Bool):Prop where
 o2:(f 2).2=(f 1).2
 o3:(f 3).2=(f 1).2
 o0:(f 0).2=(f 1).2
 lo:¬ eX V (f 1).1<0
 hi:¬ 0<eX V (f 2).1
 ex:(f 1).2=false->eX V (f 1).1=0∧(f 2).1=(f 1).1∧(f 3).1=(f 1).1∧(f 0).1=(f 1).1
 up:(f 1).2=true->eX V (f 1).1≠0∧kJ (next (f 1).1)=(f 2).1∧((f 0).1=(f 1).1∨(f 0).1=(f 2).1)∧(ng=false->(f 3).1=(f 1).1)∧(ng=true->(f 3).1=(f 2).1)
theorem vA (a:Int):aW a a=0:=by unfold aW;rw[if_neg (by omega),if_neg (by omega)]
theorem lV.of {V:Int} {ng:Bool} {f:Int->Int × Bool} {o:Bool} {d u z n:Int} (f1:f 1=(aC (ng&&decide (0<d)) d,o)) (f2:f 2=(aC (ng&&decide (0<u)) u,o)) (f3:f 3=(aC (ng&&decide (0<z)) z,o)) (f0:f 0=(aC (ng&&decide (0<n)) n,o))
  (lo:¬ eX V (aC (ng&&decide (0<d)) d)<0) (hi:¬ 0<eX V (aC (ng&&decide (0<u)) u)) (ex:o=false->eX V (aC (ng&&decide (0<d)) d)=0∧u=d∧z=d∧n=d)
  (up:o=true->eX V (aC (ng&&decide (0<d)) d)≠0∧kJ (next (aC (ng&&decide (0<d)) d))=aC (ng&&decide (0<u)) u∧(n=d∨n=u)∧(ng=false->z=d)∧(ng=true->z=u)):lV V ng f:=by
 refine⟨by rw[f1,f2],by rw[f1,f3],by rw[f1,f0],by rw[f1];exact lo,by rw[f2];exact hi,fun h=>?_,fun h=>?_⟩
 ·rw[f1] at h
  obtain⟨a,b,c,e⟩:=ex h
  rw[f1,f2,f3,f0,b,c,e]
  exact⟨a,rfl,rfl,rfl⟩
 ·rw[f1] at h
  obtain⟨a,b,c,e,g⟩:=up h
  rw[f1,f2,f3,f0]
  refine⟨a,b,?_,fun q=>by rw[e q],fun q=>by rw[g q]⟩
  rcases c with c|c
  ·left;rw[c]
  ·right;rw[c]
theorem Ad {r:Nat} (h:(r:Int)<9218868437227405312) (g:¬ ((r+1:Nat):Int)<9218868437227405312):((r+1:Nat):Int)=9218868437227405312:=by omega
theorem wC (r:Nat):(0:Int)<((r+1:Nat):Int):=by omega
theorem AT {r:Nat} (h:(r:Int)<9218868437227405312):((r+1:Nat):Int)<=9218868437227405312:=by omega
theorem Ae (r:Nat):((r+1:Nat):Int)-1=(r:Int):=by omega
theorem Af (r:Nat):((r+1:Nat):Int)=(r:Int)+1:=by omega
theorem AU {r k:Nat} (hk:(9218868437227405311:Int)=(k:Int)) (h:¬ (r:Int)<9218868437227405312):k<r:=by omega
theorem AV:∃ k:Nat,(9218868437227405311:Int)=(k:Int):=⟨9218868437227405311,rfl⟩
theorem Ag {k:Nat} (hk:(9218868437227405311:Int)=(k:Int)):(k:Int)<9218868437227405312∧(k:Int)+1=9218868437227405312∧(9218868437227405312:Int)-1=(k:Int):=by omega
theorem tG {ng:Bool} {A B:Int} (h:A<B):aW (sg ng A) (sg ng B)=if ng then 1 else -1:=by
 cases ng
 ·exact cX h
 ·exact cY (Int.neg_lt_neg h)
theorem nw {ng:Bool} {A B:Int} (h:B<A):aW (sg ng A) (sg ng B)=if ng then -1 else 1:=by
 cases ng
 ·exact cY h
 ·exact cX (Int.neg_lt_neg h)
theorem mG (ng:Bool) (a b:Int):sg ng a*b=sg ng (a*b):=by
 unfold sg
 cases ng
 ·rfl
 ·exact Int.neg_mul a b
theorem i6 {x:aA} (ok:cQ x=true):lV x.V x.ng (fun way=>jW way x):=by
 by_cases h0:x.n=0
 ·have hz:x.ng=false:=by
   have:=of_decide_eq_true ok
   rcases this with⟨_,a,b⟩|⟨a,_⟩
   ·exact a
   ·omega
  have hv:x.V=0:=by
   have hv:val x.d x.n=0:=by rw[h0];rfl
   unfold aA.V
   rw[hv,dG,Int.zero_mul]
  have hp:eX x.V (aC (x.ng&&decide ((0:Int)<0)) 0)=0:=by
   have:=jI (A:=x.V) (ng:=x.ng) (r:=0) (by decide)
   rw[fk,hv,hz] at this
   rw[hv,hz]
   exact this
  have hz0:∀ way,jW way x=(aC (x.ng&&decide ((0:Int)<0)) 0,false):=fun way=>by
   rw[xE ok h0,hz]
   rfl
  exact lV.of (f:=fun way=>jW way x) (hz0 1) (hz0 2) (hz0 3) (hz0 0) (by rw[hp];decide) (by rw[hp];decide) (fun _=>⟨hp,rfl,rfl,rfl⟩) (fun h=>by cases h)
 ·obtain⟨r0,left,hR,hf⟩:=yM ok (by omega)
  obtain⟨A,hA⟩:∃ A,val x.d x.n*pw x.e=A:=⟨_,rfl⟩
  rw[hA] at hR
  have hV:x.V=sg x.ng A:=by
   unfold aA.V
   rw[<- hA]
   exact mG _ _ _
  clear hA
  have lo:=hR.lo
  have hi:=hR.hi
  have l0:=hR.l0
  rw[hV]
  by_cases hr:(r0:Int)<9218868437227405312
  ·obtain⟨t1,t2,t3,t0⟩:=qL (ng:=x.ng) (left:=left) hr
   have ho:(decide (left≠0)||decide (9218868437227405312<=(r0:Int)))=decide (left≠0):=by rw[decide_eq_false (p:=9218868437227405312<=(r0:Int)) (Int.not_le.2 hr),Bool.or_false]
   rw[ho] at hf
   have P0:=jI (A:=sg x.ng A) (ng:=x.ng) hr
   by_cases hl:left=0
   ·have hAe:=l0.1 hl
    have e1:bL 1 x.ng r0 left=(r0:Int):=by rw[t1,if_neg (fun h=>h.1 hl)]
    have e2:bL 2 x.ng r0 left=(r0:Int):=by rw[t2,if_neg (fun h=>h.1 hl)]
    have e0:bL 0 x.ng r0 left=(r0:Int):=by rcases t0 with h|h;exact h;exact absurd hl h.1
    rw[hAe,vA] at P0
    refine lV.of (f:=fun way=>jW way x) (hf 1) (hf 2) (hf 3) (hf 0) ?_ ?_ ?_ ?_
    ·rw[e1,hAe,P0];decide
    ·rw[e2,hAe,P0];decide
    ·intro _;rw[e1,e2,t3,e0,hAe];exact⟨P0,rfl,rfl,rfl⟩
    ·intro h;exact absurd hl (of_decide_eq_true h)
   ·have hAl:vS r0<A:=by
     rcases Int.lt_or_eq_of_le lo with h|h
     ·exact h
     ·exact absurd (l0.2 h.symm) hl
    have P1:eX (sg x.ng A) (aC (x.ng&&decide ((0:Int)<((r0+1:Nat):Int))) ((r0+1:Nat):Int))=if x.ng then 1 else -1:=by
     by_cases h1:((r0+1:Nat):Int)<9218868437227405312
     ·rw[jI h1]
      exact tG hi
     ·have e:=Ad hr h1
      rw[e]
      exact oO
    have P0':eX (sg x.ng A) (aC (x.ng&&decide ((0:Int)<(r0:Int))) (r0:Int))=if x.ng then -1 else 1:=by
     rw[P0]
     exact nw hAl
    clear hV
    generalize x.ng=ng at *
    cases ng
    ·have e1:bL 1 false r0 left=(r0:Int):=by rw[t1,if_neg (fun h=>by cases h.2)]
     have e2:bL 2 false r0 left=((r0+1:Nat):Int):=by rw[t2,if_pos ⟨hl,rfl⟩]
     refine lV.of (f:=fun way=>jW way x) (hf 1) (hf 2) (hf 3) (hf 0) ?_ ?_ ?_ ?_
     ·rw[e1,P0'];decide
     ·rw[e2,P1];decide
     ·intro h;exact absurd hl (by simpa using h)
     ·intro _
      rw[e1,e2,t3,P0']
      refine⟨by decide,?_,?_,(fun _=>rfl),(fun h=>by cases h)⟩
      ·rw[Bool.false_and,Bool.false_and,tE (Int.natCast_nonneg _) hr];exact(Af r0).symm
      ·rcases t0 with h|h
       ·exact .inl h
       ·exact .inr h.2
    ·have e1:bL 1 true r0 left=((r0+1:Nat):Int):=by rw[t1,if_pos ⟨hl,rfl⟩]
     have e2:bL 2 true r0 left=(r0:Int):=by rw[t2,if_neg (fun h=>by cases h.2)]
     refine lV.of (f:=fun way=>jW way x) (hf 1) (hf 2) (hf 3) (hf 0) ?_ ?_ ?_ ?_
     ·rw[e1,P1];decide
     ·rw[e2,P0'];decide
     ·intro h;exact absurd hl (by simpa using h)
     ·intro _
      rw[e1,e2,t3,P1]
      refine⟨by decide,?_,?_,(fun h=>by cases h),fun _=>rfl⟩
      ·rw[Bool.true_and,Bool.true_and,decide_eq_true (p:=(0:Int)<((r0+1:Nat):Int)) (wC r0),tF (wC r0) (AT hr),Ae]
      ·rcases t0 with h|h
       ·exact .inr h
       ·exact .inl h.2
  ·obtain⟨t1,t2,t3,t0⟩:=qM (ng:=x.ng) (left:=left) hr
   have ho:(decide (left≠0)||decide (9218868437227405312<=(r0:Int)))=true:=by rw[decide_eq_true (p:=9218868437227405312<=(r0:Int)) (Int.not_lt.1 hr),Bool.or_true]
   rw[ho] at hf
   obtain⟨k,hk⟩:=AV
   obtain⟨hk1,hk2,hk3⟩:=Ag hk
   have hAl:vS k<A:=Int.lt_of_lt_of_le (kP (AU hk hr)) lo
   have P0:eX (sg x.ng A) (aC (x.ng&&decide ((0:Int)<(k:Int))) (k:Int))=if x.ng then -1 else 1:=by
    refine(jI (A:=sg x.ng A) (ng:=x.ng) hk1).trans ?_
    exact nw hAl
   rw[hk] at t1 t2 t3
   have P1:eX (sg x.ng A) (aC (x.ng&&decide ((0:Int)<9218868437227405312)) 9218868437227405312)=if x.ng then 1 else -1:=oO
   clear hV hR lo hi l0
   generalize x.ng=ng at *
   cases ng
   ·rw[if_neg (by decide)] at t1 t2
    refine lV.of (f:=fun way=>jW way x) (hf 1) (hf 2) (hf 3) (hf 0) ?_ ?_ ?_ ?_
    ·rw[t1,P0];decide
    ·rw[t2,P1];decide
    ·intro h;cases h
    ·intro _
     rw[t1,t2,t3,t0,P0]
     refine⟨by decide,?_,.inr rfl,(fun _=>rfl),(fun h=>by cases h)⟩
     rw[Bool.false_and,Bool.false_and]
     rw[tE (Int.natCast_nonneg _) hk1,hk2]
     rfl
   ·rw[if_pos rfl] at t1 t2
    refine lV.of (f:=fun way=>jW way x) (hf 1) (hf 2) (hf 3) (hf 0) ?_ ?_ ?_ ?_
    ·rw[t1,P1];decide
    ·rw[t2,P0];decide
    ·intro h;cases h
    ·intro _
     rw[t1,t2,t3,t0,P1]
     refine⟨by decide,?_,.inl rfl,(fun h=>by cases h),fun _=>rfl⟩
     rw[Bool.true_and,Bool.true_and]
     rw[decide_eq_true (p:=(0:Int)<9218868437227405312) (by decide),tF (by decide) (Int.le_refl _),hk3]
end Go.Proofs.YtcklaogdjpbagaaGreatDoor
namespace Go.Proofs.YtcklaogdjpbagaaGreatDoor
open Go Go.Proofs.Tryz Go.ChangeShapes Go.WideShapes Go.ChangeAt Go.RowKit Go.Proofs.YtcklaogdjpbagaaGreatDoor.M
end Go.Proofs.YtcklaogdjpbagaaGreatDoor
namespace Go.Proofs.YtcklaogdjpbagaaGreatDoor
open Go Go.Proofs.Tryz Go.RowKit Go.Proofs.YtcklaogdjpbagaaGreatDoor.M
theorem nC {r:Nat->aA} {n:Nat} (h:jD r n=true):∀ i,i<n->cQ (r i)=true:=of_decide_eq_true h
theorem fG.no {w w':World} {V er:Int} {v:Value} (h:fG w w' V v er) (no:¬ cK V):er=2∧v=dc∧Below w.heap.size w w':=by
 rcases h.2 with⟨ok,_⟩|⟨_,h1,h2⟩
 ·exact absurd ok no
 ·exact⟨h1,h2,h.1⟩
theorem aM.open2 {w:World} {ng:Bool} {so:Option Addr} {sn sc:Nat} {e V:Int} (h:aM w (.agg #[.bool ng,.slice so sn sc,.int .i64 e]) V) (ok:cK V):∃ d,aE w so sn sc d∧cQ ⟨ng,so,sn,sc,d,e⟩=true∧(⟨ng,so,sn,sc,d,e⟩:aA).V=V:=by
 obtain⟨x,h1,h2,h3,h4⟩:=h.open ok
 obtain⟨xg,xo,xn,xc,xd,xe⟩:=x
 simp only[aA.v,Value.agg.injEq,Array.mk.injEq,List.cons.injEq,Value.bool.injEq,Value.int.injEq,Value.slice.injEq,and_true,true_and] at h1
 obtain⟨rfl,⟨rfl,rfl,rfl⟩,rfl⟩:=h1
 exact⟨xd,h2,h3,h4⟩
end Go.Proofs.YtcklaogdjpbagaaGreatDoor
namespace Go.Proofs.YtcklaogdjpbagaaGreatDoor
open Go Go.Proofs.Tryz Go.ChangeShapes Go.WideShapes Go.ChangeAt Go.RowKit Go.Proofs.YtcklaogdjpbagaaGreatDoor.M
structure cD (w:World):Prop where
 lay:jH w
 tab:dU w
 env:ov w
theorem cD.keeps {w w':World} (h:cD w) (hb:Below w.heap.size w w'):cD w':=⟨h.lay.keeps hb,h.tab.keeps hb,h.env.keeps hb⟩
theorem dW (way:Int) (ng:Bool) (r0:Nat) (left:Int):0<=bL way ng r0 left∧bL way ng r0 left<=9218868437227405312:=by
 unfold bL
 split
 ·split<;>omega
 ·unfold fD
  repeat' split
  all_goals decide
end Go.Proofs.YtcklaogdjpbagaaGreatDoor
namespace Go.Proofs.YtcklaogdjpbagaaGreatDoor
open Go Go.Proofs.Tryz Go.RowKit Go.Proofs.YtcklaogdjpbagaaGreatDoor.M
def yO (V:Int) (ng:Bool) (f:Int->Int × Bool):Prop:=∃ (A:Int) (r0:Nat) (left:Int),V=sg ng A∧(ng=true->0<A)∧eg A r0 left∧∀ way,f way=(aC (ng&&decide (0<bL way ng r0 left)) (bL way ng r0 left),decide (left≠0)||decide (9218868437227405312<=(r0:Int)))
theorem k8 {a b:Int}:aW a b<0↔a<b:=by
 rcases Int.lt_trichotomy a b with h|h|h
 ·rw[cX h];exact⟨fun _=>h,fun _=>by decide⟩
 ·rw[eG h];exact⟨fun q=>absurd q (by decide),fun q=>by omega⟩
 ·rw[cY h];exact⟨fun q=>absurd q (by decide),fun q=>by omega⟩
theorem k9 {a b:Int}:0<aW a b↔b<a:=by
 rcases Int.lt_trichotomy a b with h|h|h
 ·rw[cX h];exact⟨fun q=>absurd q (by decide),fun q=>by omega⟩
 ·rw[eG h];exact⟨fun q=>absurd q (by decide),fun q=>by omega⟩
 ·rw[cY h];exact⟨fun _=>h,fun _=>by decide⟩
theorem kr {a b:Int}:aW a b=0↔a=b:=by
 rcases Int.lt_trichotomy a b with h|h|h
 ·rw[cX h];exact⟨fun q=>absurd q (by decide),fun q=>by omega⟩
 ·rw[eG h];exact⟨fun _=>h,fun _=>rfl⟩
 ·rw[cY h];exact⟨fun q=>absurd q (by decide),fun q=>by omega⟩
theorem vB {A a b left:Int} (l1:left=1↔a<A∧2*A<a+b) (l2:left=2↔2*A=a+b) (l3:left=3↔a+b<2*A) (lo:a<A) :
  (aW (A-a) (b-A)<0->left=1)∧(0<aW (A-a) (b-A)->left=3)∧(aW (A-a) (b-A)=0->left=2) :=
 ⟨fun h=>l1.2 ⟨lo,by have:=k8.1 h;omega⟩,fun h=>l3.2 (by have:=k9.1 h;omega),fun h=>l2.2 (by have:=kr.1 h;omega)⟩
theorem vC {A a b left:Int} (l1:left=1↔a<A∧2*A<a+b) (l2:left=2↔2*A=a+b) (l3:left=3↔a+b<2*A) (lo:a<A) :
  (aW (-A - -b) (-a - -A)<0->left=3)∧(0<aW (-A - -b) (-a - -A)->left=1)∧(aW (-A - -b) (-a - -A)=0->left=2) :=
 ⟨fun h=>l3.2 (by have:=k8.1 h;omega),fun h=>l1.2 ⟨lo,by have:=k9.1 h;omega⟩,fun h=>l2.2 (by have:=kr.1 h;omega)⟩
theorem tH {A a b left:Int} (l1:left=1↔a<A∧2*A<a+b) (l2:left=2↔2*A=a+b) (l3:left=3↔a+b<2*A) (lo:a<A) :
  (aW (sg false A-sg false a) (sg false b-sg false A)<0->left=1)∧(0<aW (sg false A-sg false a) (sg false b-sg false A)->left=3)∧(aW (sg false A-sg false a) (sg false b-sg false A)=0->left=2):=vB l1 l2 l3 lo
theorem tI {A a b left:Int} (l1:left=1↔a<A∧2*A<a+b) (l2:left=2↔2*A=a+b) (l3:left=3↔a+b<2*A) (lo:a<A) :
  (aW (sg true A-sg true b) (sg true a-sg true A)<0->left=3)∧(0<aW (sg true A-sg true b) (sg true a-sg true A)->left=1)∧(aW (sg true A-sg true b) (sg true a-sg true A)=0->left=2):=vC l1 l2 l3 lo
theorem tJ {ng:Bool} {r0:Nat} (h:(r0:Int)<9218868437227405312):bL 0 ng r0 1=(r0:Int):=by
 unfold bL
 rw[if_pos h]
 simp[cu]
theorem tK {ng:Bool} {r0:Nat} (h:(r0:Int)<9218868437227405312):bL 0 ng r0 3=((r0+1:Nat):Int):=by
 unfold bL
 rw[if_pos h]
 simp[cu]
theorem tL {ng:Bool} {r0:Nat} (h:(r0:Int)<9218868437227405312):bL 0 ng r0 2 % 2=0:=by
 unfold bL
 rw[if_pos h]
 by_cases hp:r0 % 2=1
 ·simp[cu,hp];omega
 ·simp[cu,hp];omega
theorem nE {b:Bool} {r:Int} (h:r % 2=0):aC b r % 2=0:=by
 unfold aC
 cases b
 ·exact h
 ·show(r-9223372036854775808) % 2=0;omega
theorem i7 {ng:Bool} {r:Int} (h:(ng&&decide (0<r))=true):0<r:=by
 cases ng
 ·cases h
 ·rw[Bool.true_and] at h;exact of_decide_eq_true h
theorem qN {ng:Bool} {r:Int} (h0:0<=r) (h1:r<=9218868437227405312) (h:ay (aC (ng&&decide (0<r)) r)=true):r<9218868437227405312:=by
 rw[ir h0 h1 i7] at h
 exact of_decide_eq_true h
theorem ks {ng:Bool} {r:Nat} (h:(r:Int)<9218868437227405312):au (aC (ng&&decide ((0:Int)<(r:Int))) (r:Int))=sg ng (vS r):=by
 rw[eu h (fun q=>by have:=i7 q;omega)]
 by_cases h0:r=0
 ·subst h0
  rw[fk]
  simp[sg]
 ·have e:(ng&&decide ((0:Int)<(r:Int)))=ng:=by rw[decide_eq_true (by omega),Bool.and_true]
  rw[e]
structure tM (V:Int) (f:Int->Int × Bool):Prop where
 lo:aW (V-au (f 1).1) (au (f 2).1-V)<0->(f 0).1=(f 1).1
 hi:0<aW (V-au (f 1).1) (au (f 2).1-V)->(f 0).1=(f 2).1
 ev:aW (V-au (f 1).1) (au (f 2).1-V)=0->(f 0).1 % 2=0
theorem tM.of {V:Int} {f:Int->Int × Bool} {d u n p q:Int} {o:Bool} (f1:f 1=(d,o)) (f2:f 2=(u,o)) (f0:f 0=(n,o)) (hd:au d=p) (hu:au u=q)
  (lo:aW (V-p) (q-V)<0->n=d) (hi:0<aW (V-p) (q-V)->n=u) (ev:aW (V-p) (q-V)=0->n % 2=0):tM V f:=by
 subst hd hu
 exact⟨by rw[f1,f2,f0];exact lo,by rw[f1,f2,f0];exact hi,by rw[f1,f2,f0];exact ev⟩
theorem bE {V:Int} {ng:Bool} {f:Int->Int × Bool} (h:yO V ng f) (o:(f 0).2=true) (pd:ay (f 1).1=true) (pu:ay (f 2).1=true):tM V f:=by
 obtain⟨A,r0,left,hV,hA,hR,hf⟩:=h
 have f1:=hf 1
 have f2:=hf 2
 have f0:=hf 0
 rw[f1] at pd
 rw[f2] at pu
 rw[f0] at o
 have g1:=dW 1 ng r0 left
 have g2:=dW 2 ng r0 left
 have q1:=qN g1.1 g1.2 pd
 have q2:=qN g2.1 g2.2 pu
 clear pd pu hf g1 g2
 by_cases hr:(r0:Int)<9218868437227405312
 ·obtain⟨t1,t2,t3,t0⟩:=qL (ng:=ng) (left:=left) hr
  have hl:left≠0:=by
   have o':(decide (left≠0)||decide (9218868437227405312<=(r0:Int)))=true:=o
   rw[decide_eq_false (p:=9218868437227405312<=(r0:Int)) (Int.not_le.2 hr),Bool.or_false] at o'
   exact of_decide_eq_true o'
  have hAl:vS r0<A:=by
   rcases Int.lt_or_eq_of_le hR.lo with h|h
   ·exact h
   ·exact absurd (hR.l0.2 h.symm) hl
  have l1:=hR.l1
  have l2:=hR.l2
  have l3:=hR.l3
  clear hR t3 t0 hA
  have V0:=ks (ng:=ng) hr
  cases ng
  ·have e1:bL 1 false r0 left=(r0:Int):=by rw[t1,if_neg (fun h=>by cases h.2)]
   have e2:bL 2 false r0 left=((r0+1:Nat):Int):=by rw[t2,if_pos ⟨hl,rfl⟩]
   rw[e1] at f1
   rw[e2] at f2 q2
   have V1:=ks (ng:=false) q2
   obtain⟨n1,n2,n3⟩:=tH l1 l2 l3 hAl
   refine tM.of f1 f2 f0 V0 V1 ?_ ?_ ?_
   ·intro h
    rw[hV] at h
    have:=n1 h
    subst this
    rw[tJ hr]
   ·intro h
    rw[hV] at h
    have:=n2 h
    subst this
    rw[tK hr]
   ·intro h
    rw[hV] at h
    have:=n3 h
    subst this
    exact nE (tL hr)
  ·have e1:bL 1 true r0 left=((r0+1:Nat):Int):=by rw[t1,if_pos ⟨hl,rfl⟩]
   have e2:bL 2 true r0 left=(r0:Int):=by rw[t2,if_neg (fun h=>by cases h.2)]
   rw[e1] at f1 q1
   rw[e2] at f2
   have V1:=ks (ng:=true) q1
   obtain⟨n1,n2,n3⟩:=tI l1 l2 l3 hAl
   refine tM.of f1 f2 f0 V1 V0 ?_ ?_ ?_
   ·intro h
    rw[hV] at h
    have:=n1 h
    subst this
    rw[tK hr]
   ·intro h
    rw[hV] at h
    have:=n2 h
    subst this
    rw[tJ hr]
   ·intro h
    rw[hV] at h
    have:=n3 h
    subst this
    exact nE (tL hr)
 ·exfalso
  obtain⟨t1,t2,t3,t0⟩:=qM (ng:=ng) (left:=left) hr
  rw[t1] at q1
  rw[t2] at q2
  clear f1 f2 f0 o hV hA hR
  cases ng
  ·rw[if_neg (by decide)] at q2;omega
  ·rw[if_pos rfl] at q1;omega
end Go.Proofs.YtcklaogdjpbagaaGreatDoor
namespace Go.Proofs.YtcklaogdjpbagaaGreatDoor.M
open Go Go.Proofs.Tryz
/-! the order of all -/
theorem qH (a b:Int):rm a b=- rm b a:=by
 unfold rm;repeat' split
 all_goals omega
end Go.Proofs.YtcklaogdjpbagaaGreatDoor.M
namespace Go.Proofs.YtcklaogdjpbagaaGreatDoor.M
open Go Go.Proofs.Tryz Ieee
theorem vD (neg:Bool) (n:Nat):Toward.even.cut neg n 0=n:=by
 unfold Toward.cut
 have h1:n % 1=0:=Nat.mod_one n
 simp[h1]
theorem oP:Ieee.double.leastPlace=-1074:=by decide
end Go.Proofs.YtcklaogdjpbagaaGreatDoor.M
namespace Go.Proofs.YtcklaogdjpbagaaGreatDoor
open Go Go.Proofs.Tryz Go.RowKit Go.Proofs.YtcklaogdjpbagaaGreatDoor.M Ieee
def mH (t D:Nat):Int:=if t=0 then 0 else if 2*t<D then 1 else if 2*t=D then 2 else 3
theorem oQ {mag u t D:Nat} {q:Int} (hq:0<q) (hm:mag=u*D+t) (ht:t<D):M.fV ((mag:Int)*q) u ((D:Int)*q) (mH t D):=by
 have e:(mag:Int)*q=(u:Int)*((D:Int)*q)+(t:Int)*q:=by
  rw[hm];push_cast;rw[Int.add_mul,Int.mul_assoc]
 have k1:∀ a b:Nat,a<b->(a:Int)*q<(b:Int)*q:=fun a b h=>Int.mul_lt_mul_of_pos_right (by omega) hq
 have t0:0<=(t:Int)*q:=Int.mul_nonneg (by omega) (Int.le_of_lt hq)
 have t1:=k1 t D ht
 have e2:((2*t:Nat):Int)*q=2*((t:Int)*q):=by push_cast;rw[Int.mul_assoc]
 have z1:2*t<D->2*((t:Int)*q)<(D:Int)*q:=fun h=>by rw[<- e2];exact k1 _ _ h
 have z2:2*t=D->2*((t:Int)*q)=(D:Int)*q:=fun h=>by rw[<- e2,h]
 have z3:D<2*t->(D:Int)*q<2*((t:Int)*q):=fun h=>by rw[<- e2];exact k1 _ _ h
 have z4:0<t->0<(t:Int)*q:=fun h=>Int.mul_pos (by omega) hq
 have z5:t=0->(t:Int)*q=0:=fun h=>by rw[h];simp
 obtain⟨U,hU⟩:∃ U,(u:Int)*((D:Int)*q)=U:=⟨_,rfl⟩
 rw[e,hU]
 generalize (t:Int)*q=T at *
 generalize (D:Int)*q=R at *
 unfold mH
 by_cases c0:t=0
 ·rw[if_pos c0]
  have:=z5 c0
  exact M.fV.mk' hU (by omega) (by omega) (by constructor<;>intro h<;>omega) (by constructor<;>intro h<;>omega) (by constructor<;>intro h<;>omega) (by constructor<;>intro h<;>omega)
 ·have:=z4 (by omega)
  rw[if_neg c0]
  by_cases c1:2*t<D
  ·rw[if_pos c1]
   have:=z1 c1
   exact M.fV.mk' hU (by omega) (by omega) (by constructor<;>intro h<;>omega) (by constructor<;>intro h<;>omega) (by constructor<;>intro h<;>omega) (by constructor<;>intro h<;>omega)
  ·rw[if_neg c1]
   by_cases c2:2*t=D
   ·rw[if_pos c2]
    have:=z2 c2
    exact M.fV.mk' hU (by omega) (by omega) (by constructor<;>intro h<;>omega) (by constructor<;>intro h<;>omega) (by constructor<;>intro h<;>omega) (by constructor<;>intro h<;>omega)
   ·rw[if_neg c2]
    have:=z3 (by omega)
    exact M.fV.mk' hU (by omega) (by omega) (by constructor<;>intro h<;>omega) (by constructor<;>intro h<;>omega) (by constructor<;>intro h<;>omega) (by constructor<;>intro h<;>omega)
theorem yP (neg odd:Bool) (t D:Nat) (ht:t<D):cu 0 neg odd (mH t D)=(decide (D<2*t)||(decide (D=2*t)&&odd)):=by
 unfold cu mH
 rw[if_pos rfl]
 by_cases c0:t=0
 ·rw[if_pos c0,decide_eq_false (p:=D<2*t) (by omega),decide_eq_false (p:=D=2*t) (by omega)]
  simp
 ·rw[if_neg c0]
  by_cases c1:2*t<D
  ·rw[if_pos c1,decide_eq_false (p:=D<2*t) (by omega),decide_eq_false (p:=D=2*t) (by omega)]
   simp
  ·rw[if_neg c1]
   by_cases c2:2*t=D
   ·rw[if_pos c2,decide_eq_false (p:=D<2*t) (by omega),decide_eq_true (p:=D=2*t) (by omega)]
    simp
   ·rw[if_neg c2,decide_eq_true (p:=D<2*t) (by omega)]
    simp
theorem vE (neg:Bool) (n d:Nat) (hn:n≠0):Toward.even.cut neg n d=n/2^d+(if cu 0 neg (decide (n/2^d % 2=1)) (mH (n % 2^d) (2^d)) then 1 else 0):=by
 have h2:n<2^(n.log2+1):=Nat.lt_log2_self
 have hD:=Nat.two_pow_pos d
 rw[yP _ _ _ _ (Nat.mod_lt _ hD)]
 unfold Toward.cut
 dsimp only
 by_cases h:d<=n.log2+2
 ·rw[Nat.min_eq_left h,Nat.shiftLeft_eq,Nat.one_mul]
  congr 1
  have e1:(2^d == 2*(n % 2^d))=decide (2^d=2*(n % 2^d)):=rfl
  have e2:(n/2^d % 2 == 1)=decide (n/2^d % 2=1):=rfl
  rw[e1,e2]
  cases (decide (2^d<2*(n % 2^d))||decide (2^d=2*(n % 2^d))&&decide (n/2^d % 2=1))<;>rfl
 ·rw[Nat.min_eq_right (by omega),Nat.shiftLeft_eq,Nat.one_mul]
  have h3:2^(n.log2+2)=2*2^(n.log2+1):=by rw[Nat.pow_succ,Nat.mul_comm]
  have h4:2^(n.log2+2)<=2^d:=Nat.pow_le_pow_right (by decide) (by omega)
  have q1:n/2^(n.log2+2)=0:=Nat.div_eq_of_lt (by omega)
  have q2:n % 2^(n.log2+2)=n:=Nat.mod_eq_of_lt (by omega)
  have q3:n/2^d=0:=Nat.div_eq_of_lt (by omega)
  have q4:n % 2^d=n:=Nat.mod_eq_of_lt (by omega)
  rw[q1,q2,q3,q4,decide_eq_false (p:=2^d<2*n) (by omega),decide_eq_false (p:=2^d=2*n) (by omega),decide_eq_false (p:=2^(n.log2+2)<2*n) (by omega)]
  have e1:(2^(n.log2+2) == 2*n)=decide (2^(n.log2+2)=2*n):=rfl
  rw[e1,decide_eq_false (p:=2^(n.log2+2)=2*n) (by omega)]
  rfl
theorem oP:Ieee.double.leastPlace=-1074:=by decide
theorem Ah:Ieee.double.fractionBits=52:=by decide
theorem kt:Ieee.double.binade=4503599627370496:=by decide
def jJ (mag:Nat) (place:Int):Int:=max (place+(mag.log2:Int)-52) (-1074)
theorem oR (neg:Bool) {mag:Nat} (place:Int) (h:mag≠0):Ieee.double.nearest neg mag place=Ieee.double.word neg (min ((jJ mag place+1074).toNat*4503599627370496+Toward.even.cut neg (mag*2^(place-jJ mag place).toNat) (jJ mag place-place).toNat) 9218868437227405312):=by
 unfold Format.nearest
 rw[if_neg h,oP,Ah,kt,jt]
 dsimp only
 rw[Nat.shiftLeft_eq,show(jJ mag place+1074)=(jJ mag place - -1074) by omega]
 rfl
theorem yQ {r:Nat} {up:Bool} {neg:Bool} {left:Int} (hup:cu 0 neg (decide (r % 2=1)) left=up):((min (r+(if up=true then 1 else 0)) 9218868437227405312:Nat):Int)=bL 0 neg r left:=by
 unfold bL
 rw[hup]
 by_cases h:(r:Int)<9218868437227405312
 ·rw[if_pos h]
  cases up
  ·simp only[Bool.false_eq_true,if_false];omega
  ·simp only[if_true];omega
 ·rw[if_neg h]
  have hb:fD 0 neg=9218868437227405312:=by cases neg<;>rfl
  rw[hb]
  split<;>omega
theorem vF (a u:Nat):decide ((a*4503599627370496+u) % 2=1)=decide (u % 2=1):=by congr 1;apply propext;omega
theorem ku (neg:Bool) {mag:Nat} {place:Int} (h:mag≠0) (hp:-4194304<=place) :
  ∃ (r0:Nat) (left:Int),eg ((mag:Int)*pw place) r0 left∧Ieee.double.nearest neg mag place=Ieee.double.word neg (bL 0 neg r0 left).toNat:=by
 rw[oR neg place h]
 have h1:=Nat.log2_self_le h
 have h2:mag<2^(mag.log2+1):=Nat.lt_log2_self
 have hL:jJ mag place=max (place+(mag.log2:Int)-52) (-1074):=rfl
 obtain⟨l,hl⟩:∃ l,jJ mag place=l:=⟨_,rfl⟩
 rw[hl] at hL ⊢
 have hl0:-1074<=l:=by omega
 have hl1:place+(mag.log2:Int)-52<=l:=by omega
 have hl2:-1074<l->l=place+(mag.log2:Int)-52:=by omega
 obtain⟨a,ha⟩:∃ a:Nat,(l+1074).toNat=a:=⟨_,rfl⟩
 have hal:l=-1074+(a:Int):=by omega
 have e52:(2:Nat)^52=4503599627370496:=by decide
 have e53:(2:Nat)^53=9007199254740992:=by decide
 rw[ha]
 -- u units of 2^l and what is left
 have main:∃ (u:Nat) (left:Int),M.fV ((mag:Int)*pw place) u (pw l) left∧Toward.even.cut neg (mag*2^(place-l).toNat) (l-place).toNat=u+(if cu 0 neg (decide (u % 2=1)) left then 1 else 0)∧u<9007199254740992∧(0<a->4503599627370496<=u):=by
  by_cases hs:l<=place
  ·obtain⟨k,hk⟩:∃ k:Nat,(place-l).toNat=k:=⟨_,rfl⟩
   have hpl:place=l+(k:Int):=by omega
   rw[hk,show(l-place).toNat=0 by omega,vD]
   refine⟨mag*2^k,0,?_,?_,?_,?_⟩
   ·have e:(mag:Int)*pw place=((mag*2^k:Nat):Int)*pw l:=by
     rw[hpl,ec (by omega),Int.mul_comm (pw l)]
     push_cast
     rw[Int.mul_assoc]
    have:=oQ (mag:=mag*2^k) (u:=mag*2^k) (t:=0) (D:=1) (bX l) (by omega) (by decide)
    rw[e]
    have e1:((1:Nat):Int)*pw l=pw l:=by rw[Int.natCast_one,Int.one_mul]
    rw[e1] at this
    exact this
   ·have:cu 0 neg (decide (mag*2^k % 2=1)) 0=false:=by
     cases hu:cu 0 neg (decide (mag*2^k % 2=1)) 0
     ·rfl
     ·exact(gA hu).elim
    rw[this]
    rfl
   ·have b1:mag*2^k<2^(mag.log2+1)*2^k:=Nat.mul_lt_mul_of_pos_right h2 (Nat.two_pow_pos _)
    rw[<- Nat.pow_add] at b1
    have b2:2^(mag.log2+1+k)<=2^53:=Nat.pow_le_pow_right (by decide) (by omega)
    omega
   ·intro h0
    have b1:2^mag.log2*2^k<=mag*2^k:=Nat.mul_le_mul_right _ h1
    rw[<- Nat.pow_add] at b1
    have b2:2^52<=2^(mag.log2+k):=Nat.pow_le_pow_right (by decide) (by have:=hl2 (by omega);omega)
    omega
  ·obtain⟨k,hk⟩:∃ k:Nat,(l-place).toNat=k:=⟨_,rfl⟩
   have hpl:l=place+(k:Int):=by omega
   rw[hk,show(place-l).toNat=0 by omega,Nat.pow_zero,Nat.mul_one,vE neg mag k h]
   have hD:=Nat.two_pow_pos k
   have hdm:=Nat.div_add_mod mag (2^k)
   have hml:=Nat.mod_lt mag hD
   refine⟨mag/2^k,mH (mag % 2^k) (2^k),?_,rfl,?_,?_⟩
   ·have:=oQ (mag:=mag) (u:=mag/2^k) (t:=mag % 2^k) (D:=2^k) (bX place) (by rw[Nat.mul_comm];exact hdm.symm) hml
    have e:pw l=((2^k:Nat):Int)*pw place:=by
     rw[hpl,ec hp,Int.mul_comm]
     push_cast
     rfl
    rw[e]
    exact this
   ·rw[Nat.div_lt_iff_lt_mul hD,<- e53,<- Nat.pow_add]
    exact Nat.lt_of_lt_of_le h2 (Nat.pow_le_pow_right (by decide) (by omega))
   ·intro h0
    rw[Nat.le_div_iff_mul_le hD,<- e52,<- Nat.pow_add]
    exact Nat.le_trans (Nat.pow_le_pow_right (by decide) (by have:=hl2 (by omega);omega)) h1
 obtain⟨u,left,hLeft,hcut,hu1,hu2⟩:=main
 rw[hcut]
 have hV:=kf Ieee.double a u (by rw[kt];omega) (fun q=>by rw[kt];exact hu2 q)
 rw[kt] at hV
 have hpw:pw l=2^a*pw (-1074):=by rw[hal,ec (by decide),Int.mul_comm]
 rw[hpw] at hLeft
 refine⟨a*4503599627370496+u,left,ko hLeft hV.1 hV.2,?_⟩
 have hm:=yQ (r:=a*4503599627370496+u) (neg:=neg) (left:=left) rfl
 rw[vF] at hm
 rw[<- hm,Int.toNat_natCast,Nat.add_assoc]
end Go.Proofs.YtcklaogdjpbagaaGreatDoor
namespace Go.Proofs.YtcklaogdjpbagaaGreatDoor
open Go Go.Proofs.Tryz Go.RowKit Go.Proofs.YtcklaogdjpbagaaGreatDoor.M
theorem i8 {b:Int} (h:ay b=true):Bd 4000 (au b):=by
 obtain⟨i0,i1,i2,i3⟩:=fi h
 have h30:(9007199254740992:Int)<=P 30:=by unfold P;decide
 exact yK i0 (Int.lt_of_lt_of_le (by omega) h30) (by omega) (by omega)
theorem Bd.sub {B:Nat} {V W:Int} (h:Bd B V) (k:Bd B W) (hB:B<4194304):Bd (B+1) (V-W):=by
 rw[Int.sub_eq_add_neg]
 exact h.add k.neg hB
theorem wD {b:Int} {w:World} (h:ay b=true) (H:cD w):Calls prog 78 #[.int .i64 b] w fun r w'=>∃ v,r=.returned (.tuple #[v,.int .i64 0])∧aR w w' (au b) v:=by
 refine(xu b w H.lay H.tab).mono ?_
 rintro _ w' ⟨v,er,rfl,hb,(⟨_,rfl,hD⟩|⟨h',_⟩)⟩
 ·exact⟨v,rfl,hD⟩
 ·rw[h] at h';cases h'
theorem qO {s:Bool} {r:Int} (h0:0<=r) (h1:r<=9218868437227405312) (h:s=true->0<r):aF (aC s r)≠4:=by
 obtain⟨a,b,_⟩:=fZ h0 h1 h
 intro q
 have:=(dp a).1.1 q
 omega
theorem xF {s:Bool} {r:Int} (h0:0<=r) (h1:r<=9218868437227405312) (h:s=true->0<r):aT (aC s r)=sg s r:=by
 unfold aT aC sg
 cases s
 ·simp only[Bool.false_eq_true,if_false]
  rw[if_neg (by omega)]
 ·have:=h rfl
  simp only[if_true]
  rw[if_pos (by omega)]
  omega
theorem yR {b:Int} (hb:ar b) (h:aF b≠4):rg (neg b)=rg b∧aT (neg b)=-aT b:=by
 unfold ar at hb
 unfold neg
 rw[if_neg h]
 unfold rg aT
 by_cases h0:b<0
 ·rw[if_pos h0,if_neg (by omega),if_pos h0,if_neg (by omega),if_pos h0];omega
 ·rw[if_neg h0,if_pos (by omega),if_neg h0,if_pos (by omega),if_neg h0];omega
theorem xG {b:Int} (hb:ar b) (h:aF b≠4):aF (neg b)≠4:=by
 intro q
 have h1:=(dp (gi hb)).1.1 q
 rw[(yR hb h).1] at h1
 exact h ((dp hb).1.2 h1)
theorem nF (r:Nat):0<=vS r:=by
 rcases Nat.eq_zero_or_pos r with h|h
 ·subst h;rw[fk];exact Int.le_refl _
 ·have:=kP h
  rw[fk] at this
  exact Int.le_of_lt this
theorem yT (ng:Bool) {r:Int} (h0:0<=r):sg (ng&&decide (0<r)) r=sg ng r:=by
 by_cases h:0<r
 ·rw[decide_eq_true h,Bool.and_true]
 ·obtain rfl:r=0:=by omega
  cases ng<;>rfl
theorem yO.key {V:Int} {ng:Bool} {f:Int->Int × Bool} {A:Int} {r0:Nat} {left:Int} {way:Int} (hf:f way=(aC (ng&&decide (0<bL way ng r0 left)) (bL way ng r0 left),decide (left≠0)||decide (9218868437227405312<=(r0:Int)))) :
  M.aT (f way).1=sg ng (bL way ng r0 left)∧aF (f way).1≠4∧ar (f way).1:=by
 obtain⟨g1,g2⟩:=dW way ng r0 left
 rw[hf]
 exact⟨(xF g1 g2 i7).trans (yT ng g1),qO g1 g2 i7,(fZ g1 g2 i7).1⟩
structure AM (U S d:Int) (o:Bool):Prop where
 rg:ar d
 fin:ay d=true->au d*S<=U∧(au d*S=U↔o=false)
 nxt:ay (next d)=true->U<au (next d)*S
 neg:ay d=false->d<0
theorem vG {r:Int} (h0:0<=r) (h1:r<9218868437227405312):next (aC false r)=aC false (r+1):=by
 have hc:=qO (s:=false) (r:=r) h0 (by omega) (fun h=>by cases h)
 unfold next
 rw[if_neg hc]
 show(if r=9218868437227405312 then r else if r=-9223372036854775808 then 1 else if r<0 then r-1 else r+1)=r+1
 rw[if_neg (by omega),if_neg (by omega),if_neg (by omega)]
theorem xH:bl (-9223372036854775808)=0:=by decide
theorem oS {r:Nat} (h:(r:Int)<9218868437227405312):au (aC true (r:Int))=sg true (vS r):=by
 by_cases h0:r=0
 ·subst h0
  rw[fk]
  show au (-9223372036854775808)=sg true 0
  unfold au
  rw[xH,dG,dG,Int.zero_mul]
 ·exact eu h (fun _=>by omega)
theorem xI {r:Int} (h0:0<=r) (h1:r<=9218868437227405312) (h:ay (aC false r)=true):r<9218868437227405312:=by
 rw[ir h0 h1 (fun q=>by cases q)] at h
 exact of_decide_eq_true h
theorem AM.pos {S A:Int} {r:Nat} {o:Bool} (hr:(r:Int)<9218868437227405312) (lo:vS r*S<=A) (eq:vS r*S=A↔o=false) (hi:((r+1:Nat):Int)<9218868437227405312->A<vS (r+1)*S):AM A S (aC false (r:Int)) o:=by
 have hv:au (aC false (r:Int))=vS r:=by
  have:=eu (ng:=false) hr (fun h=>by cases h)
  rw[this]
  unfold sg
  rw[if_neg (by decide)]
 have hnx:next (aC false (r:Int))=aC false ((r+1:Nat):Int):=by
  rw[vG (by omega) hr];rfl
 refine⟨(fZ (by omega) (by omega) (fun h=>by cases h)).1,fun _=>?_,fun h=>?_,fun h=>?_⟩
 ·rw[hv];exact⟨lo,eq⟩
 ·rw[hnx] at h ⊢
  have h1:=xI (by omega) (by omega) h
  have:=eu (ng:=false) h1 (fun h=>by cases h)
  rw[this]
  unfold sg
  rw[if_neg (by decide)]
  exact hi h1
 ·exfalso
  rw[ir (by omega) (by omega) (fun h=>by cases h)] at h
  exact absurd hr (of_decide_eq_false h)
structure lW (X:Int) (r0:Nat) (left:Int):Prop where
 lo:vS r0*vS r0<=X
 hi:X<vS (r0+1)*vS (r0+1)
 l0:left=0↔X=vS r0*vS r0
theorem Ai {a b:Int} (h0:0<=a) (h:a<=b):a*a<=b*b:=Int.mul_le_mul h h h0 (Int.le_trans h0 h)
theorem lW.unique {X:Int} {r s:Nat} {l k:Int} (h:lW X r l) (g:lW X s k):r=s:=by
 have aT:∀ {r s:Nat} {l k:Int},lW X r l->lW X s k->¬ r<s:=fun {r s l k} h g q=>by
  have e:vS (r+1)<=vS s:=by
   rcases Nat.lt_or_eq_of_le (show r+1<=s from q) with q2|q2
   ·exact Int.le_of_lt (kP q2)
   ·rw[q2];exact Int.le_refl _
  exact absurd (Int.lt_of_lt_of_le h.hi (Int.le_trans (Ai (nF _) e) g.lo)) (Int.lt_irrefl _)
 rcases Nat.lt_trichotomy r s with q|q|q
 ·exact absurd q (aT h g)
 ·exact q
 ·exact absurd q (aT g h)
theorem Bd.sg {B:Nat} {V:Int} (g:Bool) (h:Bd B V):Bd B (M.sg g V):=by
 cases g
 ·exact h
 ·exact h.neg
theorem xJ {b:Int} (hb:ar b) (hp:ay b=true):∃ (ng:Bool) (r:Nat),(r:Int)=rg b∧(r:Int)<9218868437227405312∧au b=sg ng (vS r):=by
 obtain⟨r0,r1⟩:=ew hb
 have hlt:rg b<9218868437227405312:=by
  have hne:=ot hp
  have hf:0<=bT b∧bT b<4503599627370496:=by unfold bT;omega
  have hg:0<=bG b∧bG b<2048:=by unfold bG;omega
  omega
 obtain⟨r,hr⟩:∃ r:Nat,(r:Int)=rg b:=⟨(rg b).toNat,Int.toNat_of_nonneg r0⟩
 have hs:b=aC (decide (b<0)) (r:Int):=by
  rw[hr]
  unfold aC rg
  by_cases h:b<0
  ·rw[decide_eq_true h,if_pos rfl,if_pos h];omega
  ·rw[decide_eq_false h,if_neg (by decide),if_neg h]
 refine⟨decide (b<0),r,hr,by rw[hr];exact hlt,?_⟩
 rw[<- hr] at hlt
 cases hd:decide (b<0)
 ·rw[hd] at hs
  rw[hs]
  exact eu hlt (fun h=>by cases h)
 ·rw[hd] at hs
  rw[hs]
  exact oS hlt
end Go.Proofs.YtcklaogdjpbagaaGreatDoor
namespace Go.Proofs.YtcklaogdjpbagaaGreatDoor
open Go Go.Proofs.Tryz Go.RowKit Go.Proofs.YtcklaogdjpbagaaGreatDoor.M Ieee
theorem ia {ng:Bool} {r:Int} (h0:0<=r) (h1:r<=9218868437227405312):Ieee.double.word ng r.toNat=wd (aC ng r):=by
 unfold Format.word wd aC
 rw[fe]
 cases ng
 ·rw[if_neg (by decide),if_neg (by decide)];omega
 ·rw[if_pos rfl,if_pos rfl];omega
theorem rR {b:Int} (hb:ar b) (hp:ay b=true):0<=rg b∧rg b<9218868437227405312:=by
 obtain⟨_,r,hr,hlt,_⟩:=xJ hb hp
 omega
theorem lz {b:Int} (hb:ar b) (hp:ay b=true):au b=sg (decide (b<0)) (vS (rg b).toNat):=by
 obtain⟨h0,h1⟩:=rR hb hp
 obtain⟨r,hr⟩:∃ r:Nat,(r:Int)=rg b:=⟨(rg b).toNat,Int.toNat_of_nonneg h0⟩
 have hs:b=aC (decide (b<0)) (r:Int):=by
  rw[hr]
  unfold aC rg
  by_cases h:b<0
  ·rw[decide_eq_true h,if_pos rfl,if_pos h];omega
  ·rw[decide_eq_false h,if_neg (by decide),if_neg h]
 rw[<- hr] at h1 ⊢
 rw[Int.toNat_natCast]
 cases hd:decide (b<0)
 ·rw[hd] at hs
  rw[hs]
  exact eu h1 (fun h=>by cases h)
 ·rw[hd] at hs
  rw[hs]
  exact oS h1
theorem fJ {b:Int} (hb:ar b) (hp:ay b=true):∃ m u:Nat,Ieee.double.read (wd b)=.number (decide (b<0)) m (-1074+(u:Int))∧au b=sg (decide (b<0)) ((m:Int)*pw (-1074+(u:Int))):=by
 obtain⟨h0,h1⟩:=rR hb hp
 have hw:((wd b % 9223372036854775808:Nat):Int)=rg b:=kK hb
 have hw2:wd b % 9223372036854775808=(rg b).toNat:=by omega
 obtain⟨m,u,h,hm⟩:=fy Ieee.double (wd b) (by rw[fe,jt];omega)
 rw[fe,oP,kd hb] at h
 rw[fe,hw2] at hm
 refine⟨m,u,h,?_⟩
 have e:vS (rg b).toNat=(m:Int)*pw (-1074+(u:Int)):=by
  unfold vS
  rw[<- hm,ec (by decide),Int.mul_comm (pw (-1074))]
  generalize pw (-1074)=q
  push_cast
  rw[Int.mul_assoc]
 rw[lz hb hp,e]
theorem nG (s:Bool) (m k:Nat) {i base:Int} (h:i=base+(k:Int)) (hb:-4194304<=base):signed s m k*pw base=sg s ((m:Int)*pw i):=by
 rw[ll,h,ec hb,Int.mul_comm (pw base),<- Int.mul_assoc]
 have e:((m*2^k:Nat):Int)=(m:Int)*2^k:=by push_cast;rfl
 rw[e]
 generalize (m:Int)*2^k=t
 unfold sg
 cases s
 ·rfl
 ·show -t*pw base=-(t*pw base)
  rw[Int.neg_mul]
theorem nH {t q:Int} (hq:0<q):t*q=sg (decide (t<0)) ((t.natAbs:Int)*q):=by
 by_cases h:t<0
 ·rw[decide_eq_true h]
  show t*q=-((t.natAbs:Int)*q)
  rw[<- Int.neg_mul,show -(t.natAbs:Int)=t by omega]
 ·rw[decide_eq_false h]
  show t*q=(t.natAbs:Int)*q
  rw[show(t.natAbs:Int)=t by omega]
theorem lc {t q:Int} (hq:0<q):t<0↔t*q<0:=by
 constructor
 ·exact fun h=>Int.mul_neg_of_neg_of_pos h hq
 ·intro h
  rcases Int.lt_or_le t 0 with g|g
  ·exact g
  ·exact absurd h (Int.not_lt.2 (Int.mul_nonneg g (Int.le_of_lt hq)))
theorem ld {t q:Int} (hq:0<q):t=0↔t*q=0:=by
 constructor
 ·intro h;rw[h,Int.zero_mul]
 ·intro h
  rcases Int.mul_eq_zero.1 h with g|g
  ·exact g
  ·omega
theorem lY {S t base:Int} (hb:-4194304<=base) (hS:t*pw base=S) (h0:S≠0) :
  ∃ (A:Int) (r0:Nat) (left:Int),S=sg (decide (S<0)) A∧eg A r0 left∧Ieee.double.nearest (decide (t<0)) t.natAbs base=wd (aC (decide (S<0)) (bL 0 (decide (S<0)) r0 left)):=by
 have hq:=bX base
 have ht:t≠0:=fun h=>h0 (by rw[<- hS,h,Int.zero_mul])
 have hd:decide (t<0)=decide (S<0):=by rw[<- hS];congr 1;exact propext (lc hq)
 obtain⟨r0,left,hR,hE⟩:=ku (decide (t<0)) (mag:=t.natAbs) (place:=base) (by omega) hb
 refine⟨_,r0,left,?_,hR,?_⟩
 ·rw[<- hd,<- hS];exact nH hq
 ·rw[hE,hd]
  obtain⟨g1,g2⟩:=dW 0 (decide (S<0)) r0 left
  exact ia g1 g2
theorem AW {a b:Int} (ha:ar a) (hb:ar b) (pa:ay a=true) (pb:ay b=true) :
  (au a+au b=0->Ieee.double.add (wd a) (wd b)=some (wd (aC (decide (a<0)&&decide (b<0)) 0))) ∧
  (au a+au b≠0->∃ (A:Int) (r0:Nat) (left:Int),au a+au b=sg (decide (au a+au b<0)) A∧eg A r0 left∧Ieee.double.add (wd a) (wd b)=some (wd (aC (decide (au a+au b<0)) (bL 0 (decide (au a+au b<0)) r0 left)))):=by
 obtain⟨m,u,h1,v1⟩:=fJ ha pa
 obtain⟨n,v,h2,v2⟩:=fJ hb pb
 have hadd:Ieee.double.add (wd a) (wd b)=some (Ieee.double.nearest (if signed (decide (a<0)) m (u-min u v)+signed (decide (b<0)) n (v-min u v)=0 then decide (a<0)&&decide (b<0) else decide (signed (decide (a<0)) m (u-min u v)+signed (decide (b<0)) n (v-min u v)<0)) (signed (decide (a<0)) m (u-min u v)+signed (decide (b<0)) n (v-min u v)).natAbs (-1074+((min u v:Nat):Int))):=by
  unfold Format.add
  rw[h1,h2]
  unfold Datum.sum
  dsimp only
  have hmin:min (-1074+(u:Int)) (-1074+(v:Int))=-1074+((min u v:Nat):Int):=by omega
  have e1:(-1074+(u:Int)-(-1074+((min u v:Nat):Int))).toNat=u-min u v:=by omega
  have e2:(-1074+(v:Int)-(-1074+((min u v:Nat):Int))).toNat=v-min u v:=by omega
  rw[hmin,e1,e2]
  rfl
 have s1:=nG (decide (a<0)) m (u-min u v) (i:=-1074+(u:Int)) (base:=-1074+((min u v:Nat):Int)) (by omega) (by omega)
 have s2:=nG (decide (b<0)) n (v-min u v) (i:=-1074+(v:Int)) (base:=-1074+((min u v:Nat):Int)) (by omega) (by omega)
 rw[<- v1] at s1
 rw[<- v2] at s2
 have hB:-4194304 <= -1074+((min u v:Nat):Int):=by omega
 generalize -1074+((min u v:Nat):Int)=base at *
 have hq:=bX base
 have hS:(signed (decide (a<0)) m (u-min u v)+signed (decide (b<0)) n (v-min u v))*pw base=au a+au b:=by rw[Int.add_mul,s1,s2]
 generalize signed (decide (a<0)) m (u-min u v)+signed (decide (b<0)) n (v-min u v)=t at *
 clear s1 s2 v1 v2 h1 h2
 refine⟨fun h=>?_,fun h=>?_⟩
 ·have ht:t=0:=(ld hq).2 (hS.trans h)
  rw[hadd,ht,if_pos rfl]
  unfold Format.nearest
  rw[if_pos (show Int.natAbs 0=0 from rfl)]
  have:=ia (ng:=decide (a<0)&&decide (b<0)) (r:=0) (by decide) (by decide)
  rw[<- this]
  rfl
 ·have ht:t≠0:=fun e=>h (by rw[<- hS,e,Int.zero_mul])
  obtain⟨A,r0,left,q1,q2,q3⟩:=lY hB hS h
  refine⟨A,r0,left,q1,q2,?_⟩
  rw[hadd,if_neg ht,q3]
end Go.Proofs.YtcklaogdjpbagaaGreatDoor
