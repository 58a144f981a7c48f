/- Parts of the proof. -/
import Derived.Test.YtcklaogdjpbagaaGreatDoorSp7
import Derived.Test.YtcklaogdjpbagaaGreatDoorSp5
import Derived.Test.YtcklaogdjpbagaaGreatDoorSp6
import Derived.Test.YtcklaogdjpbagaaGreatDoorSp1
import Derived.Laws.FloatArith
set_option maxRecDepth 100000
set_option maxHeartbeats 8000000
set_option linter.unusedVariables false
set_option linter.unusedSimpArgs false
namespace Go.Proofs.YtcklaogdjpbagaaGreatDoor
open Go Go.RowKit Go.Proofs.YtcklaogdjpbagaaGreatDoor.M
theorem dT {b:Int} (hb:ax b):(aL b=4↔9218868437227405312<rg b)∧(aL b=0↔rg b=0):=by
 obtain⟨h0,h1⟩:=fm hb
 have hf:0<=cn b∧cn b<4503599627370496:=by unfold cn;omega
 have hg:0<=bT b∧bT b<2048:=by unfold bT;omega
 generalize rg b=r at *
 unfold aL
 generalize bT b=f at *
 generalize cn b=c at *
 constructor
 ·split
  ·split<;>constructor<;>intro h<;>omega
  ·split
   ·split<;>constructor<;>intro h<;>omega
   ·constructor<;>intro h<;>omega
 ·split
  ·split<;>constructor<;>intro h<;>omega
  ·split
   ·split<;>constructor<;>intro h<;>omega
   ·constructor<;>intro h<;>omega
theorem wF {r:Int} (h0:0<=r) (h1:r<9218868437227405312):mq (next (aK false r))=r+1:=by
 have e:aK false r=r:=rfl
 rw[e]
 have a1:ax r:=by unfold ax;omega
 have a2:ax (r+1):=by unfold ax;omega
 have g1:rg r=r:=by unfold rg;rw[if_neg (by omega)]
 have g2:rg (r+1)=r+1:=by unfold rg;rw[if_neg (by omega)]
 have c1:=dT a1
 have c2:=dT a2
 rw[g1] at c1
 rw[g2] at c2
 have n:next r=r+1:=by
  unfold next
  rw[if_neg (by rw[c1.1];omega),if_neg (by omega),if_neg (by omega),if_neg (by omega)]
 rw[n]
 unfold mq
 rw[if_neg (by rw[c2.1];omega),if_neg (by rw[c2.2];omega)]
theorem wG {r:Int} (h0:0<r) (h1:r<=9218868437227405312):mq (next (aK true r))=aK (decide (0<r-1)) (r-1):=by
 have e:aK true r=r-9223372036854775808:=rfl
 rw[e]
 have a1:ax (r-9223372036854775808):=by unfold ax;omega
 have a2:ax (r-9223372036854775808-1):=by unfold ax;omega
 have g1:rg (r-9223372036854775808)=r:=by unfold rg;rw[if_pos (by omega)];omega
 have g2:rg (r-9223372036854775808-1)=r-1:=by unfold rg;rw[if_pos (by omega)];omega
 have c1:=dT a1
 have c2:=dT a2
 rw[g1] at c1
 rw[g2] at c2
 have n:next (r-9223372036854775808)=r-9223372036854775808-1:=by
  unfold next
  rw[if_neg (by rw[c1.1];omega),if_neg (by omega),if_neg (by omega),if_pos (by omega)]
 rw[n]
 unfold mq
 rw[if_neg (by rw[c2.1];omega)]
 by_cases h:r-1=0
 ·rw[if_pos (c2.2.2 h),h]
  rfl
 ·rw[if_neg (by rw[c2.2];exact h),decide_eq_true (by omega)]
  unfold aK
  rw[if_pos rfl]
  omega
structure nO (V:Int) (ng:Bool) (f:Int->Int × Bool):Prop where
 o2:(f 2).2=(f 1).2
 o3:(f 3).2=(f 1).2
 o0:(f 0).2=(f 1).2
 lo:¬ fP V (f 1).1<0
 hi:¬ 0<fP V (f 2).1
 ex:(f 1).2=false->fP V (f 1).1=0∧(f 2).1=(f 1).1∧(f 3).1=(f 1).1∧(f 0).1=(f 1).1
 up:(f 1).2=true->fP V (f 1).1≠0∧mq (next (f 1).1)=(f 2).1∧((f 0).1=(f 1).1∨(f 0).1=(f 2).1)∧(ng=false->(f 3).1=(f 1).1)∧(ng=true->(f 3).1=(f 2).1)
theorem yJ (a:Int):aZ a a=0:=by unfold aZ;rw[if_neg (by omega),if_neg (by omega)]
theorem nO.of {V:Int} {ng:Bool} {f:Int->Int × Bool} {o:Bool} {d u z n:Int} (f1:f 1=(aK (ng&&decide (0<d)) d,o)) (f2:f 2=(aK (ng&&decide (0<u)) u,o)) (f3:f 3=(aK (ng&&decide (0<z)) z,o)) (f0:f 0=(aK (ng&&decide (0<n)) n,o))
  (lo:¬ fP V (aK (ng&&decide (0<d)) d)<0) (hi:¬ 0<fP V (aK (ng&&decide (0<u)) u)) (ex:o=false->fP V (aK (ng&&decide (0<d)) d)=0∧u=d∧z=d∧n=d)
  (up:o=true->fP V (aK (ng&&decide (0<d)) d)≠0∧mq (next (aK (ng&&decide (0<d)) d))=aK (ng&&decide (0<u)) u∧(n=d∨n=u)∧(ng=false->z=d)∧(ng=true->z=u)):nO V ng f:=by
 refine⟨by rw[f1,f2],by rw[f1,f3],by rw[f1,f0],by rw[f1];exact lo,by rw[f2];exact hi,fun h=>?_,fun h=>?_⟩
 ·rw[f1] at h
  obtain⟨a,b,c,e⟩:=ex h
  rw[f1,f2,f3,f0,b,c,e]
  exact⟨a,rfl,rfl,rfl⟩
 ·rw[f1] at h
  obtain⟨a,b,c,e,g⟩:=up h
  rw[f1,f2,f3,f0]
  refine⟨a,b,?_,fun q=>by rw[e q],fun q=>by rw[g q]⟩
  rcases c with c|c
  ·left;rw[c]
  ·right;rw[c]
theorem DA {r:Nat} (h:(r:Int)<9218868437227405312) (g:¬ ((r+1:Nat):Int)<9218868437227405312):((r+1:Nat):Int)=9218868437227405312:=by omega
theorem zP (r:Nat):(0:Int)<((r+1:Nat):Int):=by omega
theorem Es {r:Nat} (h:(r:Int)<9218868437227405312):((r+1:Nat):Int)<=9218868437227405312:=by omega
theorem DB (r:Nat):((r+1:Nat):Int)-1=(r:Int):=by omega
theorem DC (r:Nat):((r+1:Nat):Int)=(r:Int)+1:=by omega
theorem Et {r k:Nat} (hk:(9218868437227405311:Int)=(k:Int)) (h:¬ (r:Int)<9218868437227405312):k<r:=by omega
theorem Eu:∃ k:Nat,(9218868437227405311:Int)=(k:Int):=⟨9218868437227405311,rfl⟩
theorem DE {k:Nat} (hk:(9218868437227405311:Int)=(k:Int)):(k:Int)<9218868437227405312∧(k:Int)+1=9218868437227405312∧(9218868437227405312:Int)-1=(k:Int):=by omega
theorem wH {ng:Bool} {A B:Int} (h:A<B):aZ (sg ng A) (sg ng B)=if ng then 1 else -1:=by
 cases ng
 ·exact dJ h
 ·exact dK (Int.neg_lt_neg h)
theorem pM {ng:Bool} {A B:Int} (h:B<A):aZ (sg ng A) (sg ng B)=if ng then -1 else 1:=by
 cases ng
 ·exact dK h
 ·exact dJ (Int.neg_lt_neg h)
theorem oM (ng:Bool) (a b:Int):sg ng a*b=sg ng (a*b):=by
 unfold sg
 cases ng
 ·rfl
 ·exact Int.neg_mul a b
theorem kj {x:aG} (ok:dD x=true):nO x.V x.ng (fun way=>lv way x):=by
 by_cases h0:x.n=0
 ·have hz:x.ng=false:=by
   have:=of_decide_eq_true ok
   rcases this with⟨_,a,b⟩|⟨a,_⟩
   ·exact a
   ·omega
  have hv:x.V=0:=by
   have hv:val x.d x.n=0:=by rw[h0];rfl
   unfold aG.V
   rw[hv,eg,Int.zero_mul]
  have hp:fP x.V (aK (x.ng&&decide ((0:Int)<0)) 0)=0:=by
   have:=kV (A:=x.V) (ng:=x.ng) (r:=0) (by decide)
   rw[gh,hv,hz] at this
   rw[hv,hz]
   exact this
  have hz0:∀ way,lv way x=(aK (x.ng&&decide ((0:Int)<0)) 0,false):=fun way=>by
   rw[AS ok h0,hz]
   rfl
  exact nO.of (f:=fun way=>lv way x) (hz0 1) (hz0 2) (hz0 3) (hz0 0) (by rw[hp];decide) (by rw[hp];decide) (fun _=>⟨hp,rfl,rfl,rfl⟩) (fun h=>by cases h)
 ·obtain⟨r0,left,hR,hf⟩:=BU ok (by omega)
  obtain⟨A,hA⟩:∃ A,val x.d x.n*pw x.e=A:=⟨_,rfl⟩
  rw[hA] at hR
  have hV:x.V=sg x.ng A:=by
   unfold aG.V
   rw[<- hA]
   exact oM _ _ _
  clear hA
  have lo:=hR.lo
  have hi:=hR.hi
  have l0:=hR.l0
  rw[hV]
  by_cases hr:(r0:Int)<9218868437227405312
  ·obtain⟨t1,t2,t3,t0⟩:=ua (ng:=x.ng) (left:=left) hr
   have ho:(decide (left≠0)||decide (9218868437227405312<=(r0:Int)))=decide (left≠0):=by rw[decide_eq_false (p:=9218868437227405312<=(r0:Int)) (Int.not_le.2 hr),Bool.or_false]
   rw[ho] at hf
   have P0:=kV (A:=sg x.ng A) (ng:=x.ng) hr
   by_cases hl:left=0
   ·have hAe:=l0.1 hl
    have e1:bR 1 x.ng r0 left=(r0:Int):=by rw[t1,if_neg (fun h=>h.1 hl)]
    have e2:bR 2 x.ng r0 left=(r0:Int):=by rw[t2,if_neg (fun h=>h.1 hl)]
    have e0:bR 0 x.ng r0 left=(r0:Int):=by rcases t0 with h|h;exact h;exact absurd hl h.1
    rw[hAe,yJ] at P0
    refine nO.of (f:=fun way=>lv way x) (hf 1) (hf 2) (hf 3) (hf 0) ?_ ?_ ?_ ?_
    ·rw[e1,hAe,P0];decide
    ·rw[e2,hAe,P0];decide
    ·intro _;rw[e1,e2,t3,e0,hAe];exact⟨P0,rfl,rfl,rfl⟩
    ·intro h;exact absurd hl (of_decide_eq_true h)
   ·have hAl:vS r0<A:=by
     rcases Int.lt_or_eq_of_le lo with h|h
     ·exact h
     ·exact absurd (l0.2 h.symm) hl
    have P1:fP (sg x.ng A) (aK (x.ng&&decide ((0:Int)<((r0+1:Nat):Int))) ((r0+1:Nat):Int))=if x.ng then 1 else -1:=by
     by_cases h1:((r0+1:Nat):Int)<9218868437227405312
     ·rw[kV h1]
      exact wH hi
     ·have e:=DA hr h1
      rw[e]
      exact ry
    have P0':fP (sg x.ng A) (aK (x.ng&&decide ((0:Int)<(r0:Int))) (r0:Int))=if x.ng then -1 else 1:=by
     rw[P0]
     exact pM hAl
    clear hV
    generalize x.ng=ng at *
    cases ng
    ·have e1:bR 1 false r0 left=(r0:Int):=by rw[t1,if_neg (fun h=>by cases h.2)]
     have e2:bR 2 false r0 left=((r0+1:Nat):Int):=by rw[t2,if_pos ⟨hl,rfl⟩]
     refine nO.of (f:=fun way=>lv way x) (hf 1) (hf 2) (hf 3) (hf 0) ?_ ?_ ?_ ?_
     ·rw[e1,P0'];decide
     ·rw[e2,P1];decide
     ·intro h;exact absurd hl (by simpa using h)
     ·intro _
      rw[e1,e2,t3,P0']
      refine⟨by decide,?_,?_,(fun _=>rfl),(fun h=>by cases h)⟩
      ·rw[Bool.false_and,Bool.false_and,wF (Int.natCast_nonneg _) hr];exact(DC r0).symm
      ·rcases t0 with h|h
       ·exact .inl h
       ·exact .inr h.2
    ·have e1:bR 1 true r0 left=((r0+1:Nat):Int):=by rw[t1,if_pos ⟨hl,rfl⟩]
     have e2:bR 2 true r0 left=(r0:Int):=by rw[t2,if_neg (fun h=>by cases h.2)]
     refine nO.of (f:=fun way=>lv way x) (hf 1) (hf 2) (hf 3) (hf 0) ?_ ?_ ?_ ?_
     ·rw[e1,P1];decide
     ·rw[e2,P0'];decide
     ·intro h;exact absurd hl (by simpa using h)
     ·intro _
      rw[e1,e2,t3,P1]
      refine⟨by decide,?_,?_,(fun h=>by cases h),fun _=>rfl⟩
      ·rw[Bool.true_and,Bool.true_and,decide_eq_true (p:=(0:Int)<((r0+1:Nat):Int)) (zP r0),wG (zP r0) (Es hr),DB]
      ·rcases t0 with h|h
       ·exact .inr h
       ·exact .inl h.2
  ·obtain⟨t1,t2,t3,t0⟩:=ub (ng:=x.ng) (left:=left) hr
   have ho:(decide (left≠0)||decide (9218868437227405312<=(r0:Int)))=true:=by rw[decide_eq_true (p:=9218868437227405312<=(r0:Int)) (Int.not_lt.1 hr),Bool.or_true]
   rw[ho] at hf
   obtain⟨k,hk⟩:=Eu
   obtain⟨hk1,hk2,hk3⟩:=DE hk
   have hAl:vS k<A:=Int.lt_of_lt_of_le (kU (Et hk hr)) lo
   have P0:fP (sg x.ng A) (aK (x.ng&&decide ((0:Int)<(k:Int))) (k:Int))=if x.ng then -1 else 1:=by
    refine(kV (A:=sg x.ng A) (ng:=x.ng) hk1).trans ?_
    exact pM hAl
   rw[hk] at t1 t2 t3
   have P1:fP (sg x.ng A) (aK (x.ng&&decide ((0:Int)<9218868437227405312)) 9218868437227405312)=if x.ng then 1 else -1:=ry
   clear hV hR lo hi l0
   generalize x.ng=ng at *
   cases ng
   ·rw[if_neg (by decide)] at t1 t2
    refine nO.of (f:=fun way=>lv way x) (hf 1) (hf 2) (hf 3) (hf 0) ?_ ?_ ?_ ?_
    ·rw[t1,P0];decide
    ·rw[t2,P1];decide
    ·intro h;cases h
    ·intro _
     rw[t1,t2,t3,t0,P0]
     refine⟨by decide,?_,.inr rfl,(fun _=>rfl),(fun h=>by cases h)⟩
     rw[Bool.false_and,Bool.false_and]
     rw[wF (Int.natCast_nonneg _) hk1,hk2]
     rfl
   ·rw[if_pos rfl] at t1 t2
    refine nO.of (f:=fun way=>lv way x) (hf 1) (hf 2) (hf 3) (hf 0) ?_ ?_ ?_ ?_
    ·rw[t1,P1];decide
    ·rw[t2,P0];decide
    ·intro h;cases h
    ·intro _
     rw[t1,t2,t3,t0,P1]
     refine⟨by decide,?_,.inl rfl,(fun h=>by cases h),fun _=>rfl⟩
     rw[Bool.true_and,Bool.true_and]
     rw[decide_eq_true (p:=(0:Int)<9218868437227405312) (by decide),wG (by decide) (Int.le_refl _),hk3]
end Go.Proofs.YtcklaogdjpbagaaGreatDoor
namespace Go.Proofs.YtcklaogdjpbagaaGreatDoor
open Go Go.ChangeShapes Go.WideShapes Go.ChangeAt Go.RowKit Go.Proofs.YtcklaogdjpbagaaGreatDoor.M
end Go.Proofs.YtcklaogdjpbagaaGreatDoor
namespace Go.Proofs.YtcklaogdjpbagaaGreatDoor
open Go Go.RowKit Go.Proofs.YtcklaogdjpbagaaGreatDoor.M
theorem pN {r:Nat->aG} {n:Nat} (h:kN r n=true):∀ i,i<n->dD (r i)=true:=of_decide_eq_true h
theorem gE.no {w w':World} {V er:Int} {v:Value} (h:gE w w' V v er) (no:¬ de V):er=2∧v=dN∧Below w.heap.size w w':=by
 rcases h.2 with⟨ok,_⟩|⟨_,h1,h2⟩
 ·exact absurd ok no
 ·exact⟨h1,h2,h.1⟩
theorem aR.open2 {w:World} {ng:Bool} {so:Option Addr} {sn sc:Nat} {e V:Int} (h:aR w (.agg #[.bool ng,.slice so sn sc,.int .i64 e]) V) (ok:de V):∃ d,aM w so sn sc d∧dD ⟨ng,so,sn,sc,d,e⟩=true∧(⟨ng,so,sn,sc,d,e⟩:aG).V=V:=by
 obtain⟨x,h1,h2,h3,h4⟩:=h.open ok
 obtain⟨xg,xo,xn,xc,xd,xe⟩:=x
 simp only[aG.v,Value.agg.injEq,Array.mk.injEq,List.cons.injEq,Value.bool.injEq,Value.int.injEq,Value.slice.injEq,and_true,true_and] at h1
 obtain⟨rfl,⟨rfl,rfl,rfl⟩,rfl⟩:=h1
 exact⟨xd,h2,h3,h4⟩
end Go.Proofs.YtcklaogdjpbagaaGreatDoor
namespace Go.Proofs.YtcklaogdjpbagaaGreatDoor
open Go Go.ChangeShapes Go.WideShapes Go.ChangeAt Go.RowKit Go.Proofs.YtcklaogdjpbagaaGreatDoor.M
structure cB (w:World):Prop where
 lay:kS w
 tab:ec w
 env:qU w
theorem cB.keeps {w w':World} (h:cB w) (hb:Below w.heap.size w w'):cB w':=⟨h.lay.keeps hb,h.tab.keeps hb,h.env.keeps hb⟩
theorem fj (way:Int) (ng:Bool) (r0:Nat) (left:Int):0<=bR way ng r0 left∧bR way ng r0 left<=9218868437227405312:=by
 unfold bR
 split
 ·split<;>omega
 ·unfold fK
  repeat' split
  all_goals decide
end Go.Proofs.YtcklaogdjpbagaaGreatDoor
namespace Go.Proofs.YtcklaogdjpbagaaGreatDoor
open Go Go.RowKit Go.Proofs.YtcklaogdjpbagaaGreatDoor.M
def BW (V:Int) (ng:Bool) (f:Int->Int × Bool):Prop:=∃ (A:Int) (r0:Nat) (left:Int),V=sg ng A∧(ng=true->0<A)∧dW A r0 left∧∀ way,f way=(aK (ng&&decide (0<bR way ng r0 left)) (bR way ng r0 left),decide (left≠0)||decide (9218868437227405312<=(r0:Int)))
theorem mI {a b:Int}:aZ a b<0↔a<b:=by
 rcases Int.lt_trichotomy a b with h|h|h
 ·rw[dJ h];exact⟨fun _=>h,fun _=>by decide⟩
 ·rw[fw h];exact⟨fun q=>absurd q (by decide),fun q=>by omega⟩
 ·rw[dK h];exact⟨fun q=>absurd q (by decide),fun q=>by omega⟩
theorem mJ {a b:Int}:0<aZ a b↔b<a:=by
 rcases Int.lt_trichotomy a b with h|h|h
 ·rw[dJ h];exact⟨fun q=>absurd q (by decide),fun q=>by omega⟩
 ·rw[fw h];exact⟨fun q=>absurd q (by decide),fun q=>by omega⟩
 ·rw[dK h];exact⟨fun _=>h,fun _=>by decide⟩
theorem lT {a b:Int}:aZ a b=0↔a=b:=by
 rcases Int.lt_trichotomy a b with h|h|h
 ·rw[dJ h];exact⟨fun q=>absurd q (by decide),fun q=>by omega⟩
 ·rw[fw h];exact⟨fun _=>h,fun _=>rfl⟩
 ·rw[dK h];exact⟨fun q=>absurd q (by decide),fun q=>by omega⟩
theorem yK {A a b left:Int} (l1:left=1↔a<A∧2*A<a+b) (l2:left=2↔2*A=a+b) (l3:left=3↔a+b<2*A) (lo:a<A) :
  (aZ (A-a) (b-A)<0->left=1)∧(0<aZ (A-a) (b-A)->left=3)∧(aZ (A-a) (b-A)=0->left=2) :=
 ⟨fun h=>l1.2 ⟨lo,by have:=mI.1 h;omega⟩,fun h=>l3.2 (by have:=mJ.1 h;omega),fun h=>l2.2 (by have:=lT.1 h;omega)⟩
theorem yL {A a b left:Int} (l1:left=1↔a<A∧2*A<a+b) (l2:left=2↔2*A=a+b) (l3:left=3↔a+b<2*A) (lo:a<A) :
  (aZ (-A - -b) (-a - -A)<0->left=3)∧(0<aZ (-A - -b) (-a - -A)->left=1)∧(aZ (-A - -b) (-a - -A)=0->left=2) :=
 ⟨fun h=>l3.2 (by have:=mI.1 h;omega),fun h=>l1.2 ⟨lo,by have:=mJ.1 h;omega⟩,fun h=>l2.2 (by have:=lT.1 h;omega)⟩
theorem wI {A a b left:Int} (l1:left=1↔a<A∧2*A<a+b) (l2:left=2↔2*A=a+b) (l3:left=3↔a+b<2*A) (lo:a<A) :
  (aZ (sg false A-sg false a) (sg false b-sg false A)<0->left=1)∧(0<aZ (sg false A-sg false a) (sg false b-sg false A)->left=3)∧(aZ (sg false A-sg false a) (sg false b-sg false A)=0->left=2):=yK l1 l2 l3 lo
theorem wJ {A a b left:Int} (l1:left=1↔a<A∧2*A<a+b) (l2:left=2↔2*A=a+b) (l3:left=3↔a+b<2*A) (lo:a<A) :
  (aZ (sg true A-sg true b) (sg true a-sg true A)<0->left=3)∧(0<aZ (sg true A-sg true b) (sg true a-sg true A)->left=1)∧(aZ (sg true A-sg true b) (sg true a-sg true A)=0->left=2):=yL l1 l2 l3 lo
theorem wK {ng:Bool} {r0:Nat} (h:(r0:Int)<9218868437227405312):bR 0 ng r0 1=(r0:Int):=by
 unfold bR
 rw[if_pos h]
 simp[cK]
theorem wL {ng:Bool} {r0:Nat} (h:(r0:Int)<9218868437227405312):bR 0 ng r0 3=((r0+1:Nat):Int):=by
 unfold bR
 rw[if_pos h]
 simp[cK]
theorem wM {ng:Bool} {r0:Nat} (h:(r0:Int)<9218868437227405312):bR 0 ng r0 2 % 2=0:=by
 unfold bR
 rw[if_pos h]
 by_cases hp:r0 % 2=1
 ·simp[cK,hp];omega
 ·simp[cK,hp];omega
theorem pO {b:Bool} {r:Int} (h:r % 2=0):aK b r % 2=0:=by
 unfold aK
 cases b
 ·exact h
 ·show(r-9223372036854775808) % 2=0;omega
theorem kl {ng:Bool} {r:Int} (h:(ng&&decide (0<r))=true):0<r:=by
 cases ng
 ·cases h
 ·rw[Bool.true_and] at h;exact of_decide_eq_true h
theorem uc {ng:Bool} {r:Int} (h0:0<=r) (h1:r<=9218868437227405312) (h:aF (aK (ng&&decide (0<r)) r)=true):r<9218868437227405312:=by
 rw[jA h0 h1 kl] at h
 exact of_decide_eq_true h
theorem lU {ng:Bool} {r:Nat} (h:(r:Int)<9218868437227405312):aq (aK (ng&&decide ((0:Int)<(r:Int))) (r:Int))=sg ng (vS r):=by
 rw[fi h (fun q=>by have:=kl q;omega)]
 by_cases h0:r=0
 ·subst h0
  rw[gh]
  simp[sg]
 ·have e:(ng&&decide ((0:Int)<(r:Int)))=ng:=by rw[decide_eq_true (by omega),Bool.and_true]
  rw[e]
structure wN (V:Int) (f:Int->Int × Bool):Prop where
 lo:aZ (V-aq (f 1).1) (aq (f 2).1-V)<0->(f 0).1=(f 1).1
 hi:0<aZ (V-aq (f 1).1) (aq (f 2).1-V)->(f 0).1=(f 2).1
 ev:aZ (V-aq (f 1).1) (aq (f 2).1-V)=0->(f 0).1 % 2=0
theorem wN.of {V:Int} {f:Int->Int × Bool} {d u n p q:Int} {o:Bool} (f1:f 1=(d,o)) (f2:f 2=(u,o)) (f0:f 0=(n,o)) (hd:aq d=p) (hu:aq u=q)
  (lo:aZ (V-p) (q-V)<0->n=d) (hi:0<aZ (V-p) (q-V)->n=u) (ev:aZ (V-p) (q-V)=0->n % 2=0):wN V f:=by
 subst hd hu
 exact⟨by rw[f1,f2,f0];exact lo,by rw[f1,f2,f0];exact hi,by rw[f1,f2,f0];exact ev⟩
theorem bS {V:Int} {ng:Bool} {f:Int->Int × Bool} (h:BW V ng f) (o:(f 0).2=true) (pd:aF (f 1).1=true) (pu:aF (f 2).1=true):wN V f:=by
 obtain⟨A,r0,left,hV,hA,hR,hf⟩:=h
 have f1:=hf 1
 have f2:=hf 2
 have f0:=hf 0
 rw[f1] at pd
 rw[f2] at pu
 rw[f0] at o
 have g1:=fj 1 ng r0 left
 have g2:=fj 2 ng r0 left
 have q1:=uc g1.1 g1.2 pd
 have q2:=uc g2.1 g2.2 pu
 clear pd pu hf g1 g2
 by_cases hr:(r0:Int)<9218868437227405312
 ·obtain⟨t1,t2,t3,t0⟩:=ua (ng:=ng) (left:=left) hr
  have hl:left≠0:=by
   have o':(decide (left≠0)||decide (9218868437227405312<=(r0:Int)))=true:=o
   rw[decide_eq_false (p:=9218868437227405312<=(r0:Int)) (Int.not_le.2 hr),Bool.or_false] at o'
   exact of_decide_eq_true o'
  have hAl:vS r0<A:=by
   rcases Int.lt_or_eq_of_le hR.lo with h|h
   ·exact h
   ·exact absurd (hR.l0.2 h.symm) hl
  have l1:=hR.l1
  have l2:=hR.l2
  have l3:=hR.l3
  clear hR t3 t0 hA
  have V0:=lU (ng:=ng) hr
  cases ng
  ·have e1:bR 1 false r0 left=(r0:Int):=by rw[t1,if_neg (fun h=>by cases h.2)]
   have e2:bR 2 false r0 left=((r0+1:Nat):Int):=by rw[t2,if_pos ⟨hl,rfl⟩]
   rw[e1] at f1
   rw[e2] at f2 q2
   have V1:=lU (ng:=false) q2
   obtain⟨n1,n2,n3⟩:=wI l1 l2 l3 hAl
   refine wN.of f1 f2 f0 V0 V1 ?_ ?_ ?_
   ·intro h
    rw[hV] at h
    have:=n1 h
    subst this
    rw[wK hr]
   ·intro h
    rw[hV] at h
    have:=n2 h
    subst this
    rw[wL hr]
   ·intro h
    rw[hV] at h
    have:=n3 h
    subst this
    exact pO (wM hr)
  ·have e1:bR 1 true r0 left=((r0+1:Nat):Int):=by rw[t1,if_pos ⟨hl,rfl⟩]
   have e2:bR 2 true r0 left=(r0:Int):=by rw[t2,if_neg (fun h=>by cases h.2)]
   rw[e1] at f1 q1
   rw[e2] at f2
   have V1:=lU (ng:=true) q1
   obtain⟨n1,n2,n3⟩:=wJ l1 l2 l3 hAl
   refine wN.of f1 f2 f0 V1 V0 ?_ ?_ ?_
   ·intro h
    rw[hV] at h
    have:=n1 h
    subst this
    rw[wL hr]
   ·intro h
    rw[hV] at h
    have:=n2 h
    subst this
    rw[wK hr]
   ·intro h
    rw[hV] at h
    have:=n3 h
    subst this
    exact pO (wM hr)
 ·exfalso
  obtain⟨t1,t2,t3,t0⟩:=ub (ng:=ng) (left:=left) hr
  rw[t1] at q1
  rw[t2] at q2
  clear f1 f2 f0 o hV hA hR
  cases ng
  ·rw[if_neg (by decide)] at q2;omega
  ·rw[if_pos rfl] at q1;omega
end Go.Proofs.YtcklaogdjpbagaaGreatDoor
namespace Go.Proofs.YtcklaogdjpbagaaGreatDoor.M
open Go
/-! the order of all -/
theorem tX (a b:Int):uG a b=- uG b a:=by
 unfold uG;repeat' split
 all_goals omega
end Go.Proofs.YtcklaogdjpbagaaGreatDoor.M
namespace Go.Proofs.YtcklaogdjpbagaaGreatDoor.M
open Go Ieee
theorem yM (neg:Bool) (n:Nat):Toward.even.cut neg n 0=n:=by
 unfold Toward.cut
 have h1:n % 1=0:=Nat.mod_one n
 simp[h1]
theorem rz:Ieee.double.leastPlace=-1074:=by decide
end Go.Proofs.YtcklaogdjpbagaaGreatDoor.M
namespace Go.Proofs.YtcklaogdjpbagaaGreatDoor
open Go Go.RowKit Go.Proofs.YtcklaogdjpbagaaGreatDoor.M Ieee
def oN (t D:Nat):Int:=if t=0 then 0 else if 2*t<D then 1 else if 2*t=D then 2 else 3
theorem rA {mag u t D:Nat} {q:Int} (hq:0<q) (hm:mag=u*D+t) (ht:t<D):M.gS ((mag:Int)*q) u ((D:Int)*q) (oN t D):=by
 have e:(mag:Int)*q=(u:Int)*((D:Int)*q)+(t:Int)*q:=by
  rw[hm];push_cast;rw[Int.add_mul,Int.mul_assoc]
 have k1:∀ a b:Nat,a<b->(a:Int)*q<(b:Int)*q:=fun a b h=>Int.mul_lt_mul_of_pos_right (by omega) hq
 have t0:0<=(t:Int)*q:=Int.mul_nonneg (by omega) (Int.le_of_lt hq)
 have t1:=k1 t D ht
 have e2:((2*t:Nat):Int)*q=2*((t:Int)*q):=by push_cast;rw[Int.mul_assoc]
 have z1:2*t<D->2*((t:Int)*q)<(D:Int)*q:=fun h=>by rw[<- e2];exact k1 _ _ h
 have z2:2*t=D->2*((t:Int)*q)=(D:Int)*q:=fun h=>by rw[<- e2,h]
 have z3:D<2*t->(D:Int)*q<2*((t:Int)*q):=fun h=>by rw[<- e2];exact k1 _ _ h
 have z4:0<t->0<(t:Int)*q:=fun h=>Int.mul_pos (by omega) hq
 have z5:t=0->(t:Int)*q=0:=fun h=>by rw[h];simp
 obtain⟨U,hU⟩:∃ U,(u:Int)*((D:Int)*q)=U:=⟨_,rfl⟩
 rw[e,hU]
 generalize (t:Int)*q=T at *
 generalize (D:Int)*q=R at *
 unfold oN
 by_cases c0:t=0
 ·rw[if_pos c0]
  have:=z5 c0
  exact M.gS.mk' hU (by omega) (by omega) (by constructor<;>intro h<;>omega) (by constructor<;>intro h<;>omega) (by constructor<;>intro h<;>omega) (by constructor<;>intro h<;>omega)
 ·have:=z4 (by omega)
  rw[if_neg c0]
  by_cases c1:2*t<D
  ·rw[if_pos c1]
   have:=z1 c1
   exact M.gS.mk' hU (by omega) (by omega) (by constructor<;>intro h<;>omega) (by constructor<;>intro h<;>omega) (by constructor<;>intro h<;>omega) (by constructor<;>intro h<;>omega)
  ·rw[if_neg c1]
   by_cases c2:2*t=D
   ·rw[if_pos c2]
    have:=z2 c2
    exact M.gS.mk' hU (by omega) (by omega) (by constructor<;>intro h<;>omega) (by constructor<;>intro h<;>omega) (by constructor<;>intro h<;>omega) (by constructor<;>intro h<;>omega)
   ·rw[if_neg c2]
    have:=z3 (by omega)
    exact M.gS.mk' hU (by omega) (by omega) (by constructor<;>intro h<;>omega) (by constructor<;>intro h<;>omega) (by constructor<;>intro h<;>omega) (by constructor<;>intro h<;>omega)
theorem BX (neg odd:Bool) (t D:Nat) (ht:t<D):cK 0 neg odd (oN t D)=(decide (D<2*t)||(decide (D=2*t)&&odd)):=by
 unfold cK oN
 rw[if_pos rfl]
 by_cases c0:t=0
 ·rw[if_pos c0,decide_eq_false (p:=D<2*t) (by omega),decide_eq_false (p:=D=2*t) (by omega)]
  simp
 ·rw[if_neg c0]
  by_cases c1:2*t<D
  ·rw[if_pos c1,decide_eq_false (p:=D<2*t) (by omega),decide_eq_false (p:=D=2*t) (by omega)]
   simp
  ·rw[if_neg c1]
   by_cases c2:2*t=D
   ·rw[if_pos c2,decide_eq_false (p:=D<2*t) (by omega),decide_eq_true (p:=D=2*t) (by omega)]
    simp
   ·rw[if_neg c2,decide_eq_true (p:=D<2*t) (by omega)]
    simp
theorem yN (neg:Bool) (n d:Nat) (hn:n≠0):Toward.even.cut neg n d=n/2^d+(if cK 0 neg (decide (n/2^d % 2=1)) (oN (n % 2^d) (2^d)) then 1 else 0):=by
 have h2:n<2^(n.log2+1):=Nat.lt_log2_self
 have hD:=Nat.two_pow_pos d
 rw[BX _ _ _ _ (Nat.mod_lt _ hD)]
 unfold Toward.cut
 dsimp only
 by_cases h:d<=n.log2+2
 ·rw[Nat.min_eq_left h,Nat.shiftLeft_eq,Nat.one_mul]
  congr 1
  have e1:(2^d == 2*(n % 2^d))=decide (2^d=2*(n % 2^d)):=rfl
  have e2:(n/2^d % 2 == 1)=decide (n/2^d % 2=1):=rfl
  rw[e1,e2]
  cases (decide (2^d<2*(n % 2^d))||decide (2^d=2*(n % 2^d))&&decide (n/2^d % 2=1))<;>rfl
 ·rw[Nat.min_eq_right (by omega),Nat.shiftLeft_eq,Nat.one_mul]
  have h3:2^(n.log2+2)=2*2^(n.log2+1):=by rw[Nat.pow_succ,Nat.mul_comm]
  have h4:2^(n.log2+2)<=2^d:=Nat.pow_le_pow_right (by decide) (by omega)
  have q1:n/2^(n.log2+2)=0:=Nat.div_eq_of_lt (by omega)
  have q2:n % 2^(n.log2+2)=n:=Nat.mod_eq_of_lt (by omega)
  have q3:n/2^d=0:=Nat.div_eq_of_lt (by omega)
  have q4:n % 2^d=n:=Nat.mod_eq_of_lt (by omega)
  rw[q1,q2,q3,q4,decide_eq_false (p:=2^d<2*n) (by omega),decide_eq_false (p:=2^d=2*n) (by omega),decide_eq_false (p:=2^(n.log2+2)<2*n) (by omega)]
  have e1:(2^(n.log2+2) == 2*n)=decide (2^(n.log2+2)=2*n):=rfl
  rw[e1,decide_eq_false (p:=2^(n.log2+2)=2*n) (by omega)]
  rfl
theorem rz:Ieee.double.leastPlace=-1074:=by decide
theorem DF:Ieee.double.fractionBits=52:=by decide
theorem lV:Ieee.double.binade=4503599627370496:=by decide
def kW (mag:Nat) (place:Int):Int:=max (place+(mag.log2:Int)-52) (-1074)
theorem rB (neg:Bool) {mag:Nat} (place:Int) (h:mag≠0):Ieee.double.nearest neg mag place=Ieee.double.word neg (min ((kW mag place+1074).toNat*4503599627370496+Toward.even.cut neg (mag*2^(place-kW mag place).toNat) (kW mag place-place).toNat) 9218868437227405312):=by
 unfold Format.nearest
 rw[if_neg h,rz,DF,lV,kF]
 dsimp only
 rw[Nat.shiftLeft_eq,show(kW mag place+1074)=(kW mag place - -1074) by omega]
 rfl
theorem BY {r:Nat} {up:Bool} {neg:Bool} {left:Int} (hup:cK 0 neg (decide (r % 2=1)) left=up):((min (r+(if up=true then 1 else 0)) 9218868437227405312:Nat):Int)=bR 0 neg r left:=by
 unfold bR
 rw[hup]
 by_cases h:(r:Int)<9218868437227405312
 ·rw[if_pos h]
  cases up
  ·simp only[Bool.false_eq_true,if_false];omega
  ·simp only[if_true];omega
 ·rw[if_neg h]
  have hb:fK 0 neg=9218868437227405312:=by cases neg<;>rfl
  rw[hb]
  split<;>omega
theorem yO (a u:Nat):decide ((a*4503599627370496+u) % 2=1)=decide (u % 2=1):=by congr 1;apply propext;omega
theorem lW (neg:Bool) {mag:Nat} {place:Int} (h:mag≠0) (hp:-4194304<=place) :
  ∃ (r0:Nat) (left:Int),dW ((mag:Int)*pw place) r0 left∧Ieee.double.nearest neg mag place=Ieee.double.word neg (bR 0 neg r0 left).toNat:=by
 rw[rB neg place h]
 have h1:=Nat.log2_self_le h
 have h2:mag<2^(mag.log2+1):=Nat.lt_log2_self
 have hL:kW mag place=max (place+(mag.log2:Int)-52) (-1074):=rfl
 obtain⟨l,hl⟩:∃ l,kW mag place=l:=⟨_,rfl⟩
 rw[hl] at hL ⊢
 have hl0:-1074<=l:=by omega
 have hl1:place+(mag.log2:Int)-52<=l:=by omega
 have hl2:-1074<l->l=place+(mag.log2:Int)-52:=by omega
 obtain⟨a,ha⟩:∃ a:Nat,(l+1074).toNat=a:=⟨_,rfl⟩
 have hal:l=-1074+(a:Int):=by omega
 have e52:(2:Nat)^52=4503599627370496:=by decide
 have e53:(2:Nat)^53=9007199254740992:=by decide
 rw[ha]
 -- u units of 2^l and what is left
 have main:∃ (u:Nat) (left:Int),M.gS ((mag:Int)*pw place) u (pw l) left∧Toward.even.cut neg (mag*2^(place-l).toNat) (l-place).toNat=u+(if cK 0 neg (decide (u % 2=1)) left then 1 else 0)∧u<9007199254740992∧(0<a->4503599627370496<=u):=by
  by_cases hs:l<=place
  ·obtain⟨k,hk⟩:∃ k:Nat,(place-l).toNat=k:=⟨_,rfl⟩
   have hpl:place=l+(k:Int):=by omega
   rw[hk,show(l-place).toNat=0 by omega,yM]
   refine⟨mag*2^k,0,?_,?_,?_,?_⟩
   ·have e:(mag:Int)*pw place=((mag*2^k:Nat):Int)*pw l:=by
     rw[hpl,eS (by omega),Int.mul_comm (pw l)]
     push_cast
     rw[Int.mul_assoc]
    have:=rA (mag:=mag*2^k) (u:=mag*2^k) (t:=0) (D:=1) (cv l) (by omega) (by decide)
    rw[e]
    have e1:((1:Nat):Int)*pw l=pw l:=by rw[Int.natCast_one,Int.one_mul]
    rw[e1] at this
    exact this
   ·have:cK 0 neg (decide (mag*2^k % 2=1)) 0=false:=by
     cases hu:cK 0 neg (decide (mag*2^k % 2=1)) 0
     ·rfl
     ·exact(il hu).elim
    rw[this]
    rfl
   ·have b1:mag*2^k<2^(mag.log2+1)*2^k:=Nat.mul_lt_mul_of_pos_right h2 (Nat.two_pow_pos _)
    rw[<- Nat.pow_add] at b1
    have b2:2^(mag.log2+1+k)<=2^53:=Nat.pow_le_pow_right (by decide) (by omega)
    omega
   ·intro h0
    have b1:2^mag.log2*2^k<=mag*2^k:=Nat.mul_le_mul_right _ h1
    rw[<- Nat.pow_add] at b1
    have b2:2^52<=2^(mag.log2+k):=Nat.pow_le_pow_right (by decide) (by have:=hl2 (by omega);omega)
    omega
  ·obtain⟨k,hk⟩:∃ k:Nat,(l-place).toNat=k:=⟨_,rfl⟩
   have hpl:l=place+(k:Int):=by omega
   rw[hk,show(place-l).toNat=0 by omega,Nat.pow_zero,Nat.mul_one,yN neg mag k h]
   have hD:=Nat.two_pow_pos k
   have hdm:=Nat.div_add_mod mag (2^k)
   have hml:=Nat.mod_lt mag hD
   refine⟨mag/2^k,oN (mag % 2^k) (2^k),?_,rfl,?_,?_⟩
   ·have:=rA (mag:=mag) (u:=mag/2^k) (t:=mag % 2^k) (D:=2^k) (cv place) (by rw[Nat.mul_comm];exact hdm.symm) hml
    have e:pw l=((2^k:Nat):Int)*pw place:=by
     rw[hpl,eS hp,Int.mul_comm]
     push_cast
     rfl
    rw[e]
    exact this
   ·rw[Nat.div_lt_iff_lt_mul hD,<- e53,<- Nat.pow_add]
    exact Nat.lt_of_lt_of_le h2 (Nat.pow_le_pow_right (by decide) (by omega))
   ·intro h0
    rw[Nat.le_div_iff_mul_le hD,<- e52,<- Nat.pow_add]
    exact Nat.le_trans (Nat.pow_le_pow_right (by decide) (by have:=hl2 (by omega);omega)) h1
 obtain⟨u,left,hLeft,hcut,hu1,hu2⟩:=main
 rw[hcut]
 have hV:=lJ Ieee.double a u (by rw[lV];omega) (fun q=>by rw[lV];exact hu2 q)
 rw[lV] at hV
 have hpw:pw l=2^a*pw (-1074):=by rw[hal,eS (by decide),Int.mul_comm]
 rw[hpw] at hLeft
 refine⟨a*4503599627370496+u,left,lS hLeft hV.1 hV.2,?_⟩
 have hm:=BY (r:=a*4503599627370496+u) (neg:=neg) (left:=left) rfl
 rw[yO] at hm
 rw[<- hm,Int.toNat_natCast,Nat.add_assoc]
end Go.Proofs.YtcklaogdjpbagaaGreatDoor
namespace Go.Proofs.YtcklaogdjpbagaaGreatDoor
open Go Go.RowKit Go.Proofs.YtcklaogdjpbagaaGreatDoor.M
theorem km {b:Int} (h:aF b=true):Bd 4000 (aq b):=by
 obtain⟨i0,i1,i2,i3⟩:=gd h
 have h30:(9007199254740992:Int)<=P 30:=by unfold P;decide
 exact BS i0 (Int.lt_of_lt_of_le (by omega) h30) (by omega) (by omega)
theorem Bd.sub {B:Nat} {V W:Int} (h:Bd B V) (k:Bd B W) (hB:B<4194304):Bd (B+1) (V-W):=by
 rw[Int.sub_eq_add_neg]
 exact h.add k.neg hB
theorem zQ {b:Int} {w:World} (h:aF b=true) (H:cB w):Calls Tryz.prog 78 #[.int .i64 b] w fun r w'=>∃ v,r=.returned (.tuple #[v,.int .i64 0])∧aX w w' (aq b) v:=by
 refine(AJ b w H.lay H.tab).mono ?_
 rintro _ w' ⟨v,er,rfl,hb,(⟨_,rfl,hD⟩|⟨h',_⟩)⟩
 ·exact⟨v,rfl,hD⟩
 ·rw[h] at h';cases h'
theorem ud {s:Bool} {r:Int} (h0:0<=r) (h1:r<=9218868437227405312) (h:s=true->0<r):aL (aK s r)≠4:=by
 obtain⟨a,b,_⟩:=gX h0 h1 h
 intro q
 have:=(dT a).1.1 q
 omega
theorem AT {s:Bool} {r:Int} (h0:0<=r) (h1:r<=9218868437227405312) (h:s=true->0<r):bk (aK s r)=sg s r:=by
 unfold bk aK sg
 cases s
 ·simp only[Bool.false_eq_true,if_false]
  rw[if_neg (by omega)]
 ·have:=h rfl
  simp only[if_true]
  rw[if_pos (by omega)]
  omega
theorem BZ {b:Int} (hb:ax b) (h:aL b≠4):rg (neg b)=rg b∧bk (neg b)=-bk b:=by
 unfold ax at hb
 unfold neg
 rw[if_neg h]
 unfold rg bk
 by_cases h0:b<0
 ·rw[if_pos h0,if_neg (by omega),if_pos h0,if_neg (by omega),if_pos h0];omega
 ·rw[if_neg h0,if_pos (by omega),if_neg h0,if_pos (by omega),if_neg h0];omega
theorem AU {b:Int} (hb:ax b) (h:aL b≠4):aL (neg b)≠4:=by
 intro q
 have h1:=(dT (eu hb)).1.1 q
 rw[(BZ hb h).1] at h1
 exact h ((dT hb).1.2 h1)
theorem yP {way:Int} {ng odd:Bool} {A B a b l k:Int} (h0:l=0↔A=a) (h2:l=2↔2*A=a+b) (h3:l=3↔a+b<2*A) (g0:k=0↔B=a) (g2:k=2↔2*B=a+b) (g3:k=3↔a+b<2*B) (lo:a<=A) (AB:A<=B)
  (h:cK way ng odd l=true):cK way ng odd k=true:=by
 have nz:l≠0->k≠0:=fun q e=>by
  have e1:=g0.1 e
  exact q (h0.2 (by omega))
 unfold cK at *
 split at h
 ·rename_i e
  rw[if_pos e]
  simp only[Bool.or_eq_true,Bool.and_eq_true,decide_eq_true_eq] at *
  rcases h with h|⟨h,ho⟩
  ·left;exact g3.2 (by have:=h3.1 h;omega)
  ·have e2:=h2.1 h
   by_cases e3:2*B=a+b
   ·right;exact⟨g2.2 e3,ho⟩
   ·left;exact g3.2 (by omega)
 ·rename_i e
  rw[if_neg e]
  split at h
  ·rename_i e2
   rw[if_pos e2]
   simp only[Bool.and_eq_true,decide_eq_true_eq] at *
   exact⟨nz h.1,h.2⟩
  ·rename_i e2
   rw[if_neg e2]
   split at h
   ·rename_i e3
    rw[if_pos e3]
    simp only[Bool.and_eq_true,decide_eq_true_eq] at *
    exact⟨nz h.1,h.2⟩
   ·cases h
theorem AV {A B:Int} {r s:Nat} {l k:Int} (h:dW A r l) (g:dW B s k) (AB:A<=B):r<=s:=by
 rcases Nat.lt_or_ge s r with q|q
 ·exfalso
  have h1:=h.lo
  have g1:=g.hi
  have e:vS (s+1)<=vS r:=by
   rcases Nat.lt_or_eq_of_le (show s+1<=r from q) with q2|q2
   ·exact Int.le_of_lt (kU q2)
   ·rw[q2];exact Int.le_refl _
  exact absurd (Int.lt_of_lt_of_le g1 (Int.le_trans e (Int.le_trans h1 AB))) (Int.lt_irrefl _)
 ·exact q
theorem yQ {way:Int} {ng:Bool} {A B:Int} {r s:Nat} {l k:Int} (h:dW A r l) (g:dW B s k) (AB:A<=B):bR way ng r l<=bR way ng s k:=by
 have hrs:=AV h g AB
 rcases Nat.lt_or_eq_of_le hrs with q|q
 ·clear h g
  unfold bR
  by_cases hs:(s:Int)<9218868437227405312
  ·rw[if_pos hs,if_pos (by omega)]
   split<;>split<;>omega
  ·rw[if_neg hs]
   by_cases hr:(r:Int)<9218868437227405312
   ·rw[if_pos hr]
    unfold fK
    cases hu:cK way ng (decide (r % 2=1)) l
    ·simp only[Bool.false_eq_true,if_false]
     split<;>omega
    ·rw[if_pos rfl,if_pos (mZ hu)]
     omega
   ·rw[if_neg hr]
    exact Int.le_refl _
 ·subst q
  have lo:=h.lo
  have h0:=h.l0
  have h2:=h.l2
  have h3:=h.l3
  have g0:=g.l0
  have g2:=g.l2
  have g3:=g.l3
  have hm:=fun odd=>@yP way ng odd A B (vS r) (vS (r+1)) l k h0 h2 h3 g0 g2 g3 lo AB
  clear h g lo h0 h2 h3 g0 g2 g3
  unfold bR
  by_cases hr:(r:Int)<9218868437227405312
  ·rw[if_pos hr,if_pos hr]
   cases hu:cK way ng (decide (r % 2=1)) l
   ·simp only[Bool.false_eq_true,if_false]
    split<;>omega
   ·rw[hm _ hu]
    exact Int.le_refl _
  ·rw[if_neg hr,if_neg hr]
   exact Int.le_refl _
theorem wO (r:Nat):0<=vS r:=by
 rcases Nat.eq_zero_or_pos r with h|h
 ·subst h;rw[gh];exact Int.le_refl _
 ·have:=kU h
  rw[gh] at this
  exact Int.le_of_lt this
theorem Ca (ng:Bool) {r:Int} (h0:0<=r):sg (ng&&decide (0<r)) r=sg ng r:=by
 by_cases h:0<r
 ·rw[decide_eq_true h,Bool.and_true]
 ·obtain rfl:r=0:=by omega
  cases ng<;>rfl
theorem BW.key {V:Int} {ng:Bool} {f:Int->Int × Bool} {A:Int} {r0:Nat} {left:Int} {way:Int} (hf:f way=(aK (ng&&decide (0<bR way ng r0 left)) (bR way ng r0 left),decide (left≠0)||decide (9218868437227405312<=(r0:Int)))) :
  M.bk (f way).1=sg ng (bR way ng r0 left)∧aL (f way).1≠4∧ax (f way).1:=by
 obtain⟨g1,g2⟩:=fj way ng r0 left
 rw[hf]
 exact⟨(AT g1 g2 kl).trans (Ca ng g1),ud g1 g2 kl,(gX g1 g2 kl).1⟩
structure Ek (U S d:Int) (o:Bool):Prop where
 rg:ax d
 fin:aF d=true->aq d*S<=U∧(aq d*S=U↔o=false)
 nxt:aF (next d)=true->U<aq (next d)*S
 neg:aF d=false->d<0
theorem yR {r:Int} (h0:0<=r) (h1:r<9218868437227405312):next (aK false r)=aK false (r+1):=by
 have hc:=ud (s:=false) (r:=r) h0 (by omega) (fun h=>by cases h)
 unfold next
 rw[if_neg hc]
 show(if r=9218868437227405312 then r else if r=-9223372036854775808 then 1 else if r<0 then r-1 else r+1)=r+1
 rw[if_neg (by omega),if_neg (by omega),if_neg (by omega)]
theorem AW:bI (-9223372036854775808)=0:=by decide
theorem rC {r:Nat} (h:(r:Int)<9218868437227405312):aq (aK true (r:Int))=sg true (vS r):=by
 by_cases h0:r=0
 ·subst h0
  rw[gh]
  show aq (-9223372036854775808)=sg true 0
  unfold aq
  rw[AW,eg,eg,Int.zero_mul]
 ·exact fi h (fun _=>by omega)
theorem AX {r:Int} (h0:0<=r) (h1:r<=9218868437227405312) (h:aF (aK false r)=true):r<9218868437227405312:=by
 rw[jA h0 h1 (fun q=>by cases q)] at h
 exact of_decide_eq_true h
theorem Ek.pos {S A:Int} {r:Nat} {o:Bool} (hr:(r:Int)<9218868437227405312) (lo:vS r*S<=A) (eq:vS r*S=A↔o=false) (hi:((r+1:Nat):Int)<9218868437227405312->A<vS (r+1)*S):Ek A S (aK false (r:Int)) o:=by
 have hv:aq (aK false (r:Int))=vS r:=by
  have:=fi (ng:=false) hr (fun h=>by cases h)
  rw[this]
  unfold sg
  rw[if_neg (by decide)]
 have hnx:next (aK false (r:Int))=aK false ((r+1:Nat):Int):=by
  rw[yR (by omega) hr];rfl
 refine⟨(gX (by omega) (by omega) (fun h=>by cases h)).1,fun _=>?_,fun h=>?_,fun h=>?_⟩
 ·rw[hv];exact⟨lo,eq⟩
 ·rw[hnx] at h ⊢
  have h1:=AX (by omega) (by omega) h
  have:=fi (ng:=false) h1 (fun h=>by cases h)
  rw[this]
  unfold sg
  rw[if_neg (by decide)]
  exact hi h1
 ·exfalso
  rw[jA (by omega) (by omega) (fun h=>by cases h)] at h
  exact absurd hr (of_decide_eq_false h)
structure nP (X:Int) (r0:Nat) (left:Int):Prop where
 lo:vS r0*vS r0<=X
 hi:X<vS (r0+1)*vS (r0+1)
 l0:left=0↔X=vS r0*vS r0
theorem DG {a b:Int} (h0:0<=a) (h:a<=b):a*a<=b*b:=Int.mul_le_mul h h h0 (Int.le_trans h0 h)
theorem nP.unique {X:Int} {r s:Nat} {l k:Int} (h:nP X r l) (g:nP X s k):r=s:=by
 have bk:∀ {r s:Nat} {l k:Int},nP X r l->nP X s k->¬ r<s:=fun {r s l k} h g q=>by
  have e:vS (r+1)<=vS s:=by
   rcases Nat.lt_or_eq_of_le (show r+1<=s from q) with q2|q2
   ·exact Int.le_of_lt (kU q2)
   ·rw[q2];exact Int.le_refl _
  exact absurd (Int.lt_of_lt_of_le h.hi (Int.le_trans (DG (wO _) e) g.lo)) (Int.lt_irrefl _)
 rcases Nat.lt_trichotomy r s with q|q|q
 ·exact absurd q (bk h g)
 ·exact q
 ·exact absurd q (bk g h)
theorem Bd.sg {B:Nat} {V:Int} (g:Bool) (h:Bd B V):Bd B (M.sg g V):=by
 cases g
 ·exact h
 ·exact h.neg
theorem AY {b:Int} (hb:ax b) (hp:aF b=true):∃ (ng:Bool) (r:Nat),(r:Int)=rg b∧(r:Int)<9218868437227405312∧aq b=sg ng (vS r):=by
 obtain⟨r0,r1⟩:=fm hb
 have hlt:rg b<9218868437227405312:=by
  have hne:=qS hp
  have hf:0<=cn b∧cn b<4503599627370496:=by unfold cn;omega
  have hg:0<=bT b∧bT b<2048:=by unfold bT;omega
  omega
 obtain⟨r,hr⟩:∃ r:Nat,(r:Int)=rg b:=⟨(rg b).toNat,Int.toNat_of_nonneg r0⟩
 have hs:b=aK (decide (b<0)) (r:Int):=by
  rw[hr]
  unfold aK rg
  by_cases h:b<0
  ·rw[decide_eq_true h,if_pos rfl,if_pos h];omega
  ·rw[decide_eq_false h,if_neg (by decide),if_neg h]
 refine⟨decide (b<0),r,hr,by rw[hr];exact hlt,?_⟩
 rw[<- hr] at hlt
 cases hd:decide (b<0)
 ·rw[hd] at hs
  rw[hs]
  exact fi hlt (fun h=>by cases h)
 ·rw[hd] at hs
  rw[hs]
  exact rC hlt
end Go.Proofs.YtcklaogdjpbagaaGreatDoor
namespace Go.Proofs.YtcklaogdjpbagaaGreatDoor
open Go Go.RowKit Go.Proofs.YtcklaogdjpbagaaGreatDoor.M Ieee
theorem jh {ng:Bool} {r:Int} (h0:0<=r) (h1:r<=9218868437227405312):Ieee.double.word ng r.toNat=wd (aK ng r):=by
 unfold Format.word wd aK
 rw[ga]
 cases ng
 ·rw[if_neg (by decide),if_neg (by decide)];omega
 ·rw[if_pos rfl,if_pos rfl];omega
theorem va {b:Int} (hb:ax b) (hp:aF b=true):0<=rg b∧rg b<9218868437227405312:=by
 obtain⟨_,r,hr,hlt,_⟩:=AY hb hp
 omega
theorem nc {b:Int} (hb:ax b) (hp:aF b=true):aq b=sg (decide (b<0)) (vS (rg b).toNat):=by
 obtain⟨h0,h1⟩:=va hb hp
 obtain⟨r,hr⟩:∃ r:Nat,(r:Int)=rg b:=⟨(rg b).toNat,Int.toNat_of_nonneg h0⟩
 have hs:b=aK (decide (b<0)) (r:Int):=by
  rw[hr]
  unfold aK rg
  by_cases h:b<0
  ·rw[decide_eq_true h,if_pos rfl,if_pos h];omega
  ·rw[decide_eq_false h,if_neg (by decide),if_neg h]
 rw[<- hr] at h1 ⊢
 rw[Int.toNat_natCast]
 cases hd:decide (b<0)
 ·rw[hd] at hs
  rw[hs]
  exact fi h1 (fun h=>by cases h)
 ·rw[hd] at hs
  rw[hs]
  exact rC h1
theorem gI {b:Int} (hb:ax b) (hp:aF b=true):∃ m u:Nat,Ieee.double.read (wd b)=.number (decide (b<0)) m (-1074+(u:Int))∧aq b=sg (decide (b<0)) ((m:Int)*pw (-1074+(u:Int))):=by
 obtain⟨h0,h1⟩:=va hb hp
 have hw:((wd b % 9223372036854775808:Nat):Int)=rg b:=mr hb
 have hw2:wd b % 9223372036854775808=(rg b).toNat:=by omega
 obtain⟨m,u,h,hm⟩:=gu Ieee.double (wd b) (by rw[ga,kF];omega)
 rw[ga,rz,lH hb] at h
 rw[ga,hw2] at hm
 refine⟨m,u,h,?_⟩
 have e:vS (rg b).toNat=(m:Int)*pw (-1074+(u:Int)):=by
  unfold vS
  rw[<- hm,eS (by decide),Int.mul_comm (pw (-1074))]
  generalize pw (-1074)=q
  push_cast
  rw[Int.mul_assoc]
 rw[nc hb hp,e]
theorem pP (s:Bool) (m k:Nat) {i base:Int} (h:i=base+(k:Int)) (hb:-4194304<=base):signed s m k*pw base=sg s ((m:Int)*pw i):=by
 rw[mP,h,eS hb,Int.mul_comm (pw base),<- Int.mul_assoc]
 have e:((m*2^k:Nat):Int)=(m:Int)*2^k:=by push_cast;rfl
 rw[e]
 generalize (m:Int)*2^k=t
 unfold sg
 cases s
 ·rfl
 ·show -t*pw base=-(t*pw base)
  rw[Int.neg_mul]
theorem pQ {t q:Int} (hq:0<q):t*q=sg (decide (t<0)) ((t.natAbs:Int)*q):=by
 by_cases h:t<0
 ·rw[decide_eq_true h]
  show t*q=-((t.natAbs:Int)*q)
  rw[<- Int.neg_mul,show -(t.natAbs:Int)=t by omega]
 ·rw[decide_eq_false h]
  show t*q=(t.natAbs:Int)*q
  rw[show(t.natAbs:Int)=t by omega]
theorem mK {t q:Int} (hq:0<q):t<0↔t*q<0:=by
 constructor
 ·exact fun h=>Int.mul_neg_of_neg_of_pos h hq
 ·intro h
  rcases Int.lt_or_le t 0 with g|g
  ·exact g
  ·exact absurd h (Int.not_lt.2 (Int.mul_nonneg g (Int.le_of_lt hq)))
theorem mL {t q:Int} (hq:0<q):t=0↔t*q=0:=by
 constructor
 ·intro h;rw[h,Int.zero_mul]
 ·intro h
  rcases Int.mul_eq_zero.1 h with g|g
  ·exact g
  ·omega
theorem nQ {S t base:Int} (hb:-4194304<=base) (hS:t*pw base=S) (h0:S≠0) :
  ∃ (A:Int) (r0:Nat) (left:Int),S=sg (decide (S<0)) A∧dW A r0 left∧Ieee.double.nearest (decide (t<0)) t.natAbs base=wd (aK (decide (S<0)) (bR 0 (decide (S<0)) r0 left)):=by
 have hq:=cv base
 have ht:t≠0:=fun h=>h0 (by rw[<- hS,h,Int.zero_mul])
 have hd:decide (t<0)=decide (S<0):=by rw[<- hS];congr 1;exact propext (mK hq)
 obtain⟨r0,left,hR,hE⟩:=lW (decide (t<0)) (mag:=t.natAbs) (place:=base) (by omega) hb
 refine⟨_,r0,left,?_,hR,?_⟩
 ·rw[<- hd,<- hS];exact pQ hq
 ·rw[hE,hd]
  obtain⟨g1,g2⟩:=fj 0 (decide (S<0)) r0 left
  exact jh g1 g2
theorem Ev {a b:Int} (ha:ax a) (hb:ax b) (pa:aF a=true) (pb:aF b=true) :
  (aq a+aq b=0->Ieee.double.add (wd a) (wd b)=some (wd (aK (decide (a<0)&&decide (b<0)) 0))) ∧
  (aq a+aq b≠0->∃ (A:Int) (r0:Nat) (left:Int),aq a+aq b=sg (decide (aq a+aq b<0)) A∧dW A r0 left∧Ieee.double.add (wd a) (wd b)=some (wd (aK (decide (aq a+aq b<0)) (bR 0 (decide (aq a+aq b<0)) r0 left)))):=by
 obtain⟨m,u,h1,v1⟩:=gI ha pa
 obtain⟨n,v,h2,v2⟩:=gI hb pb
 have hadd:Ieee.double.add (wd a) (wd b)=some (Ieee.double.nearest (if signed (decide (a<0)) m (u-min u v)+signed (decide (b<0)) n (v-min u v)=0 then decide (a<0)&&decide (b<0) else decide (signed (decide (a<0)) m (u-min u v)+signed (decide (b<0)) n (v-min u v)<0)) (signed (decide (a<0)) m (u-min u v)+signed (decide (b<0)) n (v-min u v)).natAbs (-1074+((min u v:Nat):Int))):=by
  unfold Format.add
  rw[h1,h2]
  unfold Datum.sum
  dsimp only
  have hmin:min (-1074+(u:Int)) (-1074+(v:Int))=-1074+((min u v:Nat):Int):=by omega
  have e1:(-1074+(u:Int)-(-1074+((min u v:Nat):Int))).toNat=u-min u v:=by omega
  have e2:(-1074+(v:Int)-(-1074+((min u v:Nat):Int))).toNat=v-min u v:=by omega
  rw[hmin,e1,e2]
  rfl
 have s1:=pP (decide (a<0)) m (u-min u v) (i:=-1074+(u:Int)) (base:=-1074+((min u v:Nat):Int)) (by omega) (by omega)
 have s2:=pP (decide (b<0)) n (v-min u v) (i:=-1074+(v:Int)) (base:=-1074+((min u v:Nat):Int)) (by omega) (by omega)
 rw[<- v1] at s1
 rw[<- v2] at s2
 have hB:-4194304 <= -1074+((min u v:Nat):Int):=by omega
 generalize -1074+((min u v:Nat):Int)=base at *
 have hq:=cv base
 have hS:(signed (decide (a<0)) m (u-min u v)+signed (decide (b<0)) n (v-min u v))*pw base=aq a+aq b:=by rw[Int.add_mul,s1,s2]
 generalize signed (decide (a<0)) m (u-min u v)+signed (decide (b<0)) n (v-min u v)=t at *
 clear s1 s2 v1 v2 h1 h2
 refine⟨fun h=>?_,fun h=>?_⟩
 ·have ht:t=0:=(mL hq).2 (hS.trans h)
  rw[hadd,ht,if_pos rfl]
  unfold Format.nearest
  rw[if_pos (show Int.natAbs 0=0 from rfl)]
  have:=jh (ng:=decide (a<0)&&decide (b<0)) (r:=0) (by decide) (by decide)
  rw[<- this]
  rfl
 ·have ht:t≠0:=fun e=>h (by rw[<- hS,e,Int.zero_mul])
  obtain⟨A,r0,left,q1,q2,q3⟩:=nQ hB hS h
  refine⟨A,r0,left,q1,q2,?_⟩
  rw[hadd,if_neg ht,q3]
end Go.Proofs.YtcklaogdjpbagaaGreatDoor
