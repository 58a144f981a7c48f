/- Parts of the proof. -/
import Derived.Test.YtkkpppgfoilgmaaGreatDoorPart11
import Derived.Test.YtkkpppgfoilgmaaGreatDoorPart8
import Derived.Test.YtkkpppgfoilgmaaGreatDoorPart9
import Derived.Laws.Externs
import Derived.Test.YtkkpppgfoilgmaaGreatDoorPart7
import Derived.Laws.MakeOwn
import Derived.Test.YtkkpppgfoilgmaaGreatDoorPart6
set_option maxRecDepth 100000
set_option maxHeartbeats 8000000
set_option linter.unusedVariables false
set_option linter.unusedSimpArgs false
namespace Go.Proofs.YtkkpppgfoilgmaaGreatDoor
open Go Go.Proofs.Tryz Go.RowKit Go.Proofs.YtkkpppgfoilgmaaGreatDoor.M
def dT (p q:Int):Int:=if rg p=0∨rg q=0 then 0 else if rg p=9218868437227405312∨rg q=9218868437227405312 then aw (aU p q) 9218868437227405312 else cq 1 (bL p q)
def eJ (p q:Int):Int:=if rg p=0∨rg q=0 then 0 else if rg p=9218868437227405312∨rg q=9218868437227405312 then aw (aU p q) 9218868437227405312 else cq 2 (bL p q)
theorem fH {p:Int} (h:nn p):0<=rg p∧rg p<=9218868437227405312:=by
 have:=(FW.pat h.2 h.1).of h.2
 exact this.2.2
theorem cy {p:Int} (h:nn p) (hf:rg p≠9218868437227405312):aB p=true:=(bm h.1).2 (by have:=fH h;omega)
theorem sl {p:Int} (h:au p) (hp:aB p=true) (h0:rg p≠0):aM p≠0:=fun e=>by
 have hv:=dR h hp
 have hi:iV p=0:=by
  rcases Int.mul_eq_zero.1 (hv.symm.trans e) with q|q
  ·exact q
  ·have:=bD (-1074);omega
 have h5:=(eN h).1
 unfold iV at hi
 have hV:(V Ieee.double (rg p).toNat:Int)=0:=by
  cases hd:decide (p<0)<;>rw[hd] at hi
  ·exact hi
  ·have:-(V Ieee.double (rg p).toNat:Int)=0:=hi
   omega
 rcases Nat.eq_zero_or_pos (rg p).toNat with q|q
 ·omega
 ·have:=iO Ieee.double q
  omega
theorem mQ {p q:Int} (rp:au p) (rq:au q) (hp:aB p=true) (hq:aB q=true) (p0:rg p≠0) (q0:rg q≠0):bL p q≠0:=fun e=>by
 obtain⟨_,_,_,_,hC⟩:=ig rp rq hp hq
 rw[e,Int.zero_mul] at hC
 rcases Int.mul_eq_zero.1 hC.symm with h|h
 ·exact sl rp hp p0 h
 ·exact sl rq hq q0 h
theorem oq {p q:Int} (rp:au p) (rq:au q) (hp:aB p=true) (hq:aB q=true) (h:bL p q≠0):aL p q=bf (bL p q):=by
 have h1:=(bm rp).1 hp
 have h2:=(bm rq).1 hq
 have hz:df p q≠0:=fun e=>h (by unfold bL;rw[e];cases aU p q<;>rfl)
 have n4:¬ (aD p=4∨aD q=4):=fun k=>by rcases k with k|k;exact cx rp hp k;exact cx rq hq k
 have i2:¬ (rg p=9218868437227405312∨rg q=9218868437227405312):=by omega
 unfold aL
 rw[if_neg n4,if_neg i2,if_neg hz]
 rfl
theorem xb {l:Int} (h:aD l≠4):(bP l 0=true↔aj l<0)∧(bP 0 l=true↔0<aj l):=by
 have c0:¬ aD 0=4:=by decide
 have k0:aj 0=0:=by decide
 unfold bP
 rw[k0]
 simp[h,c0]
theorem AQ {p q:Int} (rp:au p) (rq:au q) (hp:aB p=true) (hq:aB q=true) (p0:rg p≠0) (q0:rg q≠0) (hd:283726776524341248<=rg (aL p q)) :
  jj (aL p q) (cT p q (neg (aL p q)))=cq 1 (bL p q)∧jn (aL p q) (cT p q (neg (aL p q)))=cq 2 (bL p q):=by
 have hV:=mQ rp rq hp hq p0 q0
 have hN:=oq rp rq hp hq hV
 rw[hN] at hd ⊢
 obtain⟨rn,cn⟩:=e9 hV
 cases hf:aB (bf (bL p q))
 ·have hi:=yQ hV hf
  have hm:∀ r,au r->rg r=9218868437227405312->aD r≠4->cT p q r=r:=fun r hr h1 h4=>by
   have h5:=(bm rp).1 hp
   have h6:=(bm rq).1 hq
   have n4:¬ (aD p=4∨aD q=4∨aD r=4):=fun k=>by rcases k with k|k|k;exact cx rp hp k;exact cx rq hq k;exact h4 k
   have i2:¬ (rg p=9218868437227405312∨rg q=9218868437227405312):=by omega
   unfold cT
   rw[if_neg n4,if_neg i2,if_pos h1]
  rcases Int.lt_or_gt_of_ne hV with hn|hn
  ·obtain⟨e0,e1,e2⟩:=hi.2 hn
   rw[e0,e1,e2,show neg (-4503599627370496)=9218868437227405312 by decide,hm _ (by unfold au;omega) (by decide) (by decide)]
   exact⟨by decide,by decide⟩
  ·obtain⟨e0,e1,e2⟩:=hi.1 hn
   rw[e0,e1,e2,show neg 9218868437227405312=-4503599627370496 by decide,hm _ (by unfold au;omega) (by decide) (by decide)]
   exact⟨by decide,by decide⟩
 ·obtain⟨d1,d2,d3⟩:=yP hV hf
  have e0:=wL hV
  have hr:=(bm rn).1 hf
  obtain⟨S,hS,hF,hb⟩:=uQ (way:=0) rp rq hp hq hV (by rw[e0];exact hd) (.inr ⟨rfl,by rw[e0];exact hr⟩)
  rw[e0] at hS
  generalize bf (bL p q)=n at *
  obtain⟨rm,pm,im⟩:=jd rn hf
  have hfS:iW p q (neg n)=bL p q-aM n:=by
   rw[yS,wZ rn hf]
   omega
  by_cases h0:bL p q-aM n=0
  ·have hl:cT p q (neg n)=aw (aU p q&&decide (neg n<0)) 0:=wW rp rq rm hp hq pm (hfS.trans h0)
   have h1:bP (cT p q (neg n)) 0=false:=by rw[hl];cases (aU p q&&decide (neg n<0))<;>decide
   have h2:bP 0 (cT p q (neg n))=false:=by rw[hl];cases (aU p q&&decide (neg n<0))<;>decide
   unfold jj jn
   rw[h1,h2]
   have:=d3 (by omega)
   exact⟨this.1,this.2⟩
  ·have hS0:S≠0:=fun e=>h0 (by rw[hS,e,Int.zero_mul])
   obtain⟨g1,g2,g3⟩:=tw hF hS0 hb
   have hl:cT p q (neg n)=bf (S*pw (-1074)):=by
    have h5:=(bm rp).1 hp
    have h6:=(bm rq).1 hq
    have h7:=(bm rm).1 pm
    have n4:¬ (aD p=4∨aD q=4∨aD (neg n)=4):=fun k=>by rcases k with k|k|k;exact cx rp hp k;exact cx rq hq k;exact cx rm pm k
    have i2:¬ (rg p=9218868437227405312∨rg q=9218868437227405312):=by omega
    have i3:¬ rg (neg n)=9218868437227405312:=by omega
    unfold cT
    rw[if_neg n4,if_neg i2,if_neg i3,hfS,if_neg h0,hS]
   rw[hl]
   generalize bf (S*pw (-1074))=l at *
   obtain⟨k1,k2⟩:=uT g1
   rw[g3] at k1 k2
   obtain⟨l1,l2⟩:=xb (cx g1 g2)
   have hq2:=bD (-1074)
   unfold jj jn
   rcases Int.lt_or_gt_of_ne hS0 with hn|hn
   ·have hD:bL p q-aM n<0:=by rw[hS];exact Int.mul_neg_of_neg_of_pos hn hq2
    rw[l1.2 (k1.1 hn)]
    clear hS hq2
    have:=d1 (by omega)
    exact⟨this.1,this.2⟩
   ·have hD:0<bL p q-aM n:=by rw[hS];exact Int.mul_pos hn hq2
    have hno:bP l 0=false:=by
     cases h:bP l 0
     ·rfl
     ·have:=k1.2 (l1.1 h);omega
    rw[hno,l2.2 (k2.1 hn)]
    clear hS hq2
    have:=d2 (by omega)
    exact⟨this.1,this.2⟩
theorem yW {p q:Int} (hp:nn p) (hq:nn q) (p0:rg p≠0) (q0:rg q≠0) (hi:rg p=9218868437227405312∨rg q=9218868437227405312) :
  aL p q=aw (aU p q) 9218868437227405312∧cT p q (neg (aL p q))=9221120237041090561:=by
 have n4:¬ (aD p=4∨aD q=4):=fun k=>by rcases k with k|k;exact hp.2 k;exact hq.2 k
 have i2:¬ (rg p=0∨rg q=0):=by omega
 have e:aL p q=aw (aU p q) 9218868437227405312:=by
  unfold aL
  rw[if_neg n4,if_pos hi,if_neg i2]
 refine⟨e,?_⟩
 rw[e]
 have hneg:neg (aw (aU p q) 9218868437227405312)=aw (!aU p q) 9218868437227405312:=by cases aU p q<;>decide
 rw[hneg]
 have c4:¬ aD (aw (!aU p q) 9218868437227405312)=4:=by cases aU p q<;>decide
 have r4:rg (aw (!aU p q) 9218868437227405312)=9218868437227405312:=by cases aU p q<;>decide
 have s4:decide (aw (!aU p q) 9218868437227405312<0)=!aU p q:=by cases aU p q<;>decide
 have n5:¬ (aD p=4∨aD q=4∨aD (aw (!aU p q) 9218868437227405312)=4):=fun k=>by rcases k with k|k|k;exact hp.2 k;exact hq.2 k;exact c4 k
 have n6:rg (aw (!aU p q) 9218868437227405312)=9218868437227405312∧¬ aU p q=decide (aw (!aU p q) 9218868437227405312<0):=⟨r4,by rw[s4];cases aU p q<;>decide⟩
 unfold cT
 rw[if_neg n5,if_pos hi,if_neg i2,if_pos n6]
def dZ (V:Int):Int:=if V=0 then 0 else aH (cq 1 V)
def d6 (V:Int):Int:=if V=0 then 0 else aH (cq 2 V)
theorem mR {g:Bool} {r:Int} (h0:0<=r) (h1:r<=9218868437227405312):aH (aw g r)=aw (g&&decide (0<r)) r:=by
 obtain⟨a,b,c⟩:=cV (ng:=g) h0 h1
 obtain⟨d1,d2⟩:=eY a
 rw[b] at d1 d2
 unfold aH
 have n4:¬ aD (aw g r)=4:=fun q=>by have:=d1.1 q;omega
 rw[if_neg n4]
 by_cases hr:r=0
 ·rw[if_pos (d2.2 hr),hr]
  cases g<;>decide
 ·rw[if_neg (fun q=>hr (d2.1 q)),decide_eq_true (show 0<r by omega),Bool.and_true]
theorem mS {V:Int} (h0:V≠0):∃ (g:Bool) (A:Int) (r0:Nat) (left:Int),V=sg g A∧0<A∧co A r0 left∧dZ V=aw (g&&decide (0<aN 1 g r0 left)) (aN 1 g r0 left)∧d6 V=aw (g&&decide (0<aN 2 g r0 left)) (aN 2 g r0 left):=by
 obtain⟨g,A,r0,left,e,hA,hR,_,e1,e2⟩:=lk h0
 have r1:=bT 1 g r0 left
 have r2:=bT 2 g r0 left
 refine⟨g,A,r0,left,e,hA,hR,?_,?_⟩
 ·unfold dZ;rw[if_neg h0,e1,mR r1.1 r1.2]
 ·unfold d6;rw[if_neg h0,e2,mR r2.1 r2.2]
theorem kj {V:Int} {ng:Bool} {f:Int->Int × Bool} (h:iU V ng f):(f 1).1=dZ V∧(f 2).1=d6 V:=by
 obtain⟨A,r0,left,e,hng,hR,hf⟩:=h
 rw[hf 1,hf 2]
 by_cases h0:V=0
 ·have hA:A=0:=by
   rw[h0] at e
   cases ng
   ·exact e.symm
   ·have:(0:Int)=-A:=e
    omega
  have hn:ng=false:=by
   cases ng
   ·rfl
   ·have:=hng rfl;omega
  subst hn
  rw[hA] at hR
  obtain⟨u1,u2⟩:=hR.unique kY
  subst u1 u2
  unfold dZ d6
  rw[if_pos h0,if_pos h0]
  have t1:=mj 1
  have t2:=mj 2
  refine⟨?_,?_⟩
  ·simp only[t1];rfl
  ·simp only[t2];rfl
 ·obtain⟨g,B,s0,l,e',hB,hR',c1,c2⟩:=mS h0
  have hA:0<A:=by
   have hA0:0<=A:=by
    have:=hR.lo
    have hv:0<=vS r0:=Int.mul_nonneg (by omega) (Int.le_of_lt (bD _))
    omega
   have:A≠0:=fun q=>h0 (by rw[e,q];cases ng<;>rfl)
   omega
  have s1:decide (V<0)=ng:=by rw[e];exact lE hA
  have s2:decide (V<0)=g:=by rw[e'];exact lE hB
  have hg:ng=g:=s1.symm.trans s2
  subst hg
  have hAB:=ie (e.symm.trans e')
  subst hAB
  obtain⟨u1,u2⟩:=hR.unique hR'
  subst u1 u2
  exact⟨c1.symm,c2.symm⟩
theorem AR {p q:Int} (rp:au p) (rq:au q) (hp:aB p=true) (hq:aB q=true):aH (dT p q)=dZ (bL p q)∧aH (eJ p q)=d6 (bL p q):=by
 have h1:=(bm rp).1 hp
 have h2:=(bm rq).1 hq
 have i2:¬ (rg p=9218868437227405312∨rg q=9218868437227405312):=by omega
 by_cases h0:rg p=0∨rg q=0
 ·have hz:bL p q=0:=by
   obtain⟨_,_,_,_,hC⟩:=ig rp rq hp hq
   have:aM p*aM q=0:=by
    rcases h0 with h|h
    ·have:aM p=0:=by rw[dR rp hp];unfold iV;rw[h];cases decide (p<0)<;>exact Int.zero_mul _
     rw[this,Int.zero_mul]
    ·have:aM q=0:=by rw[dR rq hq];unfold iV;rw[h];cases decide (q<0)<;>exact Int.zero_mul _
     rw[this,Int.mul_zero]
   rw[this] at hC
   rcases Int.mul_eq_zero.1 hC with k|k
   ·exact k
   ·exact absurd k (Int.ne_of_gt (aF 4194304))
  unfold dT eJ dZ d6
  rw[if_pos h0,if_pos h0,if_pos hz,if_pos hz]
  exact⟨by decide,by decide⟩
 ·have hz:=mQ rp rq hp hq (fun k=>h0 (.inl k)) (fun k=>h0 (.inr k))
  unfold dT eJ dZ d6
  rw[if_neg h0,if_neg h0,if_neg i2,if_neg i2,if_neg hz,if_neg hz]
  exact⟨rfl,rfl⟩
theorem yX (r:Nat):co (vS r) r 0:=by
 have h:=gh (show r<r+1 by omega)
 refine⟨Int.le_refl _,h,⟨fun _=>rfl,fun _=>rfl⟩,⟨fun q=>by omega,fun q=>by omega⟩,⟨fun q=>by omega,fun q=>by omega⟩,⟨fun q=>by omega,fun q=>by omega⟩⟩
theorem uV (way:Int) (g:Bool) {r:Nat} (h:(r:Int)<9218868437227405312):aN way g r 0=(r:Int):=by
 rw[fs way h,(mO (decide (r % 2=1)) 0).2.2.2.2 way g rfl]
 simp
theorem Dj {g:Bool} {r:Nat} (h:(r:Int)<9218868437227405312) (h0:0<r):dZ (sg g (vS r))=aw g (r:Int)∧d6 (sg g (vS r))=aw g (r:Int):=by
 have hp:0<vS r:=by
  have:=gh h0
  have hz:vS 0=0:=by unfold vS;rw[jt];exact Int.zero_mul _
  omega
 have hn:sg g (vS r)≠0:=fun q=>by
  generalize vS r=y at *
  cases g
  ·rw[ke] at q;omega
  ·rw[j9] at q;omega
 obtain⟨g',A,r0,left,e,hA,hR,c1,c2⟩:=mS hn
 have s1:decide (sg g (vS r)<0)=g:=lE hp
 have s2:decide (sg g (vS r)<0)=g':=by rw[e];exact lE hA
 have hg:g=g':=s1.symm.trans s2
 subst hg
 have hAB:=ie e
 rw[<- hAB] at hR
 obtain⟨u1,u2⟩:=hR.unique (yX r)
 subst u1 u2
 rw[c1,c2,uV 1 g h,uV 2 g h,decide_eq_true (show(0:Int)<(r0:Int) by omega),Bool.and_true]
 exact⟨rfl,rfl⟩
end Go.Proofs.YtkkpppgfoilgmaaGreatDoor
namespace Go.Proofs.YtkkpppgfoilgmaaGreatDoor
open Go Go.Proofs.Tryz Go.RowKit Go.Proofs.YtkkpppgfoilgmaaGreatDoor.M Ieee
theorem yY (x y z:Nat):∃ a b,Extern.MathFMA.fma #[.float .f64 x,.float .f64 y,.float .f64 z]=Option.casesOn (motive:=fun _=>Sem Value) (FloatKind.f64.format.fma x y z) (do pure (.float .f64 (<- choose (.nanBits .f64 a b)))) (fun r=>pure (.float .f64 r)):=by
  cases h1:Extern.MathFMA.isNaN x with
  | true=>exact ⟨x,y,by
      have:Extern.MathFMA.fma #[.float .f64 x,.float .f64 y,.float .f64 z]=Option.casesOn (motive:=fun _=>Sem Value) (FloatKind.f64.format.fma x y z) (match (if Extern.MathFMA.isNaN x then (x,y) else if Extern.MathFMA.isNaN y then (y,z) else (z,z)) with|(a,b)=>do pure (.float .f64 (<- choose (.nanBits .f64 a b)))) (fun r=>pure (.float .f64 r)):=by kernel_rfl
      rw [this,h1]; rfl⟩
  | false=>
    cases h2:Extern.MathFMA.isNaN y with
    | true=>exact ⟨y,z,by
        have:Extern.MathFMA.fma #[.float .f64 x,.float .f64 y,.float .f64 z]=Option.casesOn (motive:=fun _=>Sem Value) (FloatKind.f64.format.fma x y z) (match (if Extern.MathFMA.isNaN x then (x,y) else if Extern.MathFMA.isNaN y then (y,z) else (z,z)) with|(a,b)=>do pure (.float .f64 (<- choose (.nanBits .f64 a b)))) (fun r=>pure (.float .f64 r)):=by kernel_rfl
        rw [this,h1,h2]; rfl⟩
    | false=>exact ⟨z,z,by
        have:Extern.MathFMA.fma #[.float .f64 x,.float .f64 y,.float .f64 z]=Option.casesOn (motive:=fun _=>Sem Value) (FloatKind.f64.format.fma x y z) (match (if Extern.MathFMA.isNaN x then (x,y) else if Extern.MathFMA.isNaN y then (y,z) else (z,z)) with|(a,b)=>do pure (.float .f64 (<- choose (.nanBits .f64 a b)))) (fun r=>pure (.float .f64 r)):=by kernel_rfl
        rw [this,h1,h2]; rfl⟩
theorem xf {p q r:Int} {x y z:Nat} (hx:FW p x) (hy:FW q y) (hz:FW r z) (w:World) :
  ∃ t w',(callFunc 86 #[.float .f64 x,.float .f64 y,.float .f64 z]).run prog w=.ok (.value (.float .f64 t)) w'∧FW (cT p q r) t∧(w'=w∨w'=w.drew):=by
 rw[run_callFunc_extern func86 (by kernel_rfl) (by kernel_rfl) (by kernel_rfl) (e:=Extern.MathFMA.fma) (by kernel_rfl)]
 obtain⟨a,b,hab⟩:=yY x y z
 rw[hab]
 rcases AD hx hy hz with⟨t,e1,e2⟩|⟨e1,e2⟩
 ·refine⟨t,w,?_,e2,.inl rfl⟩
  have e1':FloatKind.f64.format.fma x y z=some t:=e1
  rw[e1']
  simp
 ·have e1':FloatKind.f64.format.fma x y z=none:=e1
  rw[e1']
  refine⟨(Question.nanBits .f64 a b).cut (w.tape w.drawn (.nanBits .f64 a b)),w.drew,?_,?_,.inr rfl⟩
  ·simp
   exact fun hf=>absurd (show false=true from hf) (by decide)
  ·rw[e2]
   exact FW.nan (r8 a b (w.tape w.drawn (.nanBits .f64 a b)))
end Go.Proofs.YtkkpppgfoilgmaaGreatDoor
namespace Go.Proofs.YtkkpppgfoilgmaaGreatDoor
open Go Go.Proofs.Tryz Go.RowKit Go.Proofs.YtkkpppgfoilgmaaGreatDoor.M
def iX (w:World) (g N k:Nat) (q:Nat->aE):Prop :=
 ∃ cur:Array Value,w.heap[g]?=some (.cells cur 26 (0,0))∧cur.size=N*3∧∀ i,i<k->(cur[i*3]?=some (.bool (q i).ng)∧cur[i*3+1]?=some (.slice (q i).ao (q i).n (q i).cap)∧cur[i*3+2]?=some (.int .i64 (q i).e))∧aG w (q i).ao (q i).n (q i).cap (q i).d
theorem xh:∃ i,prog.info? 26=some i∧i.zero=some (.agg #[.bool false,.slice none 0 0,.int .i64 0])∧i.size=3∧i.bytes=40:=by
 have h:(prog.info? 26).map (fun i=>(i.zero,i.size,i.bytes))=some (some (.agg #[.bool false,.slice none 0 0,.int .i64 0]),3,40):=by kernel_rfl
 obtain⟨i,hi,hzz⟩:=Option.map_eq_some_iff.1 h
 simp only[Prod.mk.injEq] at hzz
 exact⟨i,hi,hzz⟩
theorem ot (n:Nat) (hn:n<=100000) (w:World) :
  (Instr.makeSlice 121 (.int .i64 (n:Int)) (.int .i64 (n:Int))).run prog w=.ok (.slice (some ⟨w.heap.size,0,none⟩) n n) (w.alloc (.cells (madeCells #[.bool false,.slice none 0 0,.int .i64 0] (n*3)) 26)):=by
 obtain⟨i,hi,hz,hs,hb⟩:=xh
 have:=run_make (P:=prog) w 121 26 i _ underlying121 hi hz .i64 .i64 n n (by omega) (Int.le_refl _) (by rw[hb];omega) (by omega)
 simp only[Int.toNat_natCast,hs] at this
 exact this
def mq (q:Nat->aE) (k:Nat) (x:aE):Nat->aE:=fun j=>if j=k then x else q j
theorem ii (q:Nat->aE) (k:Nat) (x:aE):mq q k x k=x:=by simp[mq]
theorem gu (q:Nat->aE) {k j:Nat} (x:aE) (h:j≠k):mq q k x j=q j:=by simp[mq,h]
theorem DI (W:World) (g o0 o1 o2:Nat) (x y z:Value):Wr g W (((W.setCell ⟨g,o0,none⟩ x).setCell ⟨g,o1,none⟩ y).setCell ⟨g,o2,none⟩ z):=(((Wr.refl g W).setCell o0 x).setCell o1 y).setCell o2 z
theorem aG.wrN {w w':World} {g:Nat} {ao:Option Addr} {n cap:Nat} {d:Nat->Int} (h:aG w ao n cap d) (hw:Wr g w w') {cur:Array Value} {z:Nat × Nat} (hg:w.heap[g]?=some (.cells cur 26 z)) (ht:∀ b off,ao=some ⟨b,off,none⟩->0<n->b≠g):aG w' ao n cap d :=
  ⟨h.le,h.max,h.nl,fun hn=>by
    obtain⟨b,off,rfl,hlt,hc⟩:=h.spot hn
    exact ⟨b,off,rfl,Nat.lt_of_lt_of_le hlt hw.size,fun i hi=>(hw.cell (p:=⟨b,off+i,none⟩) hlt (ht b off rfl hn)).trans (hc i hi)⟩⟩
theorem bO.open {w w':World} {V:Int} {so:Option Addr} {sn sc:Nat} (h:bO w w' V (.slice so sn sc)):∃ d,aG w' so sn sc d∧bt d sn∧val d sn=V∧∀ b off,so=some ⟨b,off,none⟩->w.heap.size<=b:=by
 obtain⟨t,d,hO,hN,hV,_⟩:=h
 have hge:=c7 hO
 obtain⟨so',sc',e,hR⟩:=hO.row
 simp only[Value.slice.injEq] at e
 obtain⟨rfl,rfl,rfl⟩:=e
 exact⟨d,hR,hN,hV,fun b off hb=>hge b (by rw[hb];rfl)⟩
theorem je {w0 w:World} {g o0 o1 o2:Nat} (h:Below w0.heap.size w0 w) (hg:w0.heap.size<=g) (x y z:Value):Below w0.heap.size w0 (((w.setCell ⟨g,o0,none⟩ x).setCell ⟨g,o1,none⟩ y).setCell ⟨g,o2,none⟩ z):=((h.setCell (p:=⟨g,o0,none⟩) hg x).setCell (p:=⟨g,o1,none⟩) hg y).setCell (p:=⟨g,o2,none⟩) hg z
theorem xi {cur:Array Value} {k:Nat} {x y z:Value} (h:k*3+2<cur.size) (i:Nat) :
  let c:=((cur.setIfInBounds (k*3) x).setIfInBounds (k*3+1) y).setIfInBounds (k*3+2) z
  (i=k->c[i*3]?=some x∧c[i*3+1]?=some y∧c[i*3+2]?=some z)∧(i≠k->c[i*3]?=cur[i*3]?∧c[i*3+1]?=cur[i*3+1]?∧c[i*3+2]?=cur[i*3+2]?):=by
 intro c
 refine⟨fun e=>?_,fun e=>?_⟩
 ·subst e
  refine⟨?_,?_,?_⟩
  ·show(((cur.setIfInBounds (i*3) x).setIfInBounds (i*3+1) y).setIfInBounds (i*3+2) z)[i*3]?=some x
   rw[Array.getElem?_setIfInBounds_ne (by omega),Array.getElem?_setIfInBounds_ne (by omega),Array.getElem?_setIfInBounds_self_of_lt (by omega)]
  ·show(((cur.setIfInBounds (i*3) x).setIfInBounds (i*3+1) y).setIfInBounds (i*3+2) z)[i*3+1]?=some y
   rw[Array.getElem?_setIfInBounds_ne (by omega),Array.getElem?_setIfInBounds_self_of_lt (by simp;omega)]
  ·show(((cur.setIfInBounds (i*3) x).setIfInBounds (i*3+1) y).setIfInBounds (i*3+2) z)[i*3+2]?=some z
   rw[Array.getElem?_setIfInBounds_self_of_lt (by simp;omega)]
 ·refine⟨?_,?_,?_⟩
  all_goals
   show(((cur.setIfInBounds (k*3) x).setIfInBounds (k*3+1) y).setIfInBounds (k*3+2) z)[_]?=_
   rw[Array.getElem?_setIfInBounds_ne (by omega),Array.getElem?_setIfInBounds_ne (by omega),Array.getElem?_setIfInBounds_ne (by omega)]
theorem iX.step {wr w3:World} {g N k:Nat} {q:Nat->aE} (h:iX wr g N k q) (hb:Below wr.heap.size wr w3) (x:aE) (hx:aG w3 x.ao x.n x.cap x.d) (hk:k<N) (hg:∀ i b' off,i<k->(q i).ao=some ⟨b',off,none⟩->0<(q i).n->g<b') (hg2:∀ b' off,x.ao=some ⟨b',off,none⟩->0<x.n->g<b') :
  iX (((w3.setCell ⟨g,k*3,none⟩ (.bool x.ng)).setCell ⟨g,k*3+1,none⟩ (.slice x.ao x.n x.cap)).setCell ⟨g,k*3+2,none⟩ (.int .i64 x.e)) g N (k+1) (mq q k x):=by
 obtain⟨cur,hcur,hsz,hc⟩:=h
 have q0:=(hb.block g (aGe hcur).1).trans hcur
 have q1:=gG (gG (gG q0 (k*3) (.bool x.ng)) (k*3+1) (.slice x.ao x.n x.cap)) (k*3+2) (.int .i64 x.e)
 have hw:=DI w3 g (k*3) (k*3+1) (k*3+2) (.bool x.ng) (.slice x.ao x.n x.cap) (.int .i64 x.e)
 refine⟨_,q1,by simp[hsz],fun i hi=>?_⟩
 have hs:=xi (cur:=cur) (k:=k) (x:=.bool x.ng) (y:=.slice x.ao x.n x.cap) (z:=.int .i64 x.e) (by omega) i
 by_cases e:i=k
 ·subst e
  rw[ii]
  exact⟨hs.1 rfl,hx.wrN hw q0 fun b' off he hn=>by have:=hg2 b' off he hn;omega⟩
 ·rw[gu q x e]
  obtain⟨s0,s1,s2⟩:=hs.2 e
  obtain⟨⟨c0,c1,c2⟩,hR⟩:=hc i (by omega)
  refine⟨⟨s0.trans c0,s1.trans c1,s2.trans c2⟩,(hR.keeps hb).wrN hw q0 fun b' off he hn=>?_⟩
  have:=hg i b' off (by omega) he hn
  omega
theorem iX.nums {w:World} {g N:Nat} {q:Nat->aE} (h:iX w g N N q) (hN:N<=100000):eS w (some ⟨g,0,none⟩) N N q:=by
 obtain⟨cur,hcur,hsz,hc⟩:=h
 refine⟨Nat.le_refl _,by omega,fun _=>⟨g,0,rfl,(aGe hcur).1,fun i hi=>?_⟩⟩
 obtain⟨⟨c0,c1,c2⟩,hR⟩:=hc i hi
 rw[Nat.zero_add]
 exact⟨ab hcur _ c0,ab hcur _ c1,ab hcur _ c2,hR⟩
theorem uW (F G:Nat) (oo:Option Addr) (n cap:Nat) (d V:Nat->Int) (w:World) (hR:aG w oo n cap d) (hn:n<=100000)
  (hEF:∀ (cap:Array Value) (w:World),(callFunc F cap).run prog w=.ok (.enter F cap) w)
  (C:∀ i,i<n->∀ W,Below w.heap.size w W->Calls prog F #[.int .i64 (d i)] W fun r w'=>∃ v,r=.returned (.tuple #[v,.int .i64 0])∧aZ W w' (V i) v) :
  Calls prog 141 #[.agg #[.func (.func F) #[] #[],.func (.func G) #[] #[]],.slice oo n cap] w fun x w'=>∃ g q,x=.returned (.tuple #[.slice (some ⟨g,0,none⟩) n n,.bool true])∧w.heap.size<=g∧eS w' (some ⟨g,0,none⟩) n n q∧Below w.heap.size w w'∧∀ i,i<n->bt (q i).d (q i).n∧Dy (V i) (q i).ng (val (q i).d (q i).n) (q i).e:=by
 have hle:=hR.le
 have hma:=hR.max
 have hmake:=ot n hn
 have hst:∀ (p:Addr) (F:Nat) (m:Mode) (w:World),(store p (.func (.func F) #[] #[]) m).run prog w=stored prog w p (.func (.func F) #[] #[]) m:=fun p F m w=>run_store _ w p _ m rfl
 have ha1:=ae w (.cells #[.func (.func F) #[] #[],.func (.func G) #[] #[]] 157)
 have q1:=heap_alloc_new w (.cells #[.func (.func F) #[] #[],.func (.func G) #[] #[]] 157)
 have k0:=ab q1 0 rfl
 have k1:=ab q1 1 rfl
 go_enter func141,ntmps141
 go_wp2_with fail
 have hb0:=ax w (.cells #[.func (.func F) #[] #[],.func (.func G) #[] #[]] 157) (.cells (madeCells #[.bool false,.slice none 0 0,.int .i64 0] (n*3)) 26)
 have g1:=bh w (.cells #[.func (.func F) #[] #[],.func (.func G) #[] #[]] 157) (.cells (madeCells #[.bool false,.slice none 0 0,.int .i64 0] (n*3)) 26)
 have g0:=bv w (.cells #[.func (.func F) #[] #[],.func (.func G) #[] #[]] 157) (.cells (madeCells #[.bool false,.slice none 0 0,.int .i64 0] (n*3)) 26)
 have HB0:Hid (iX ((w.alloc (.cells #[.func (.func F) #[] #[],.func (.func G) #[] #[]] 157)).alloc (.cells (madeCells #[.bool false,.slice none 0 0,.int .i64 0] (n*3)) 26)) (w.heap.size+1) n 0 (fun _=>⟨false,none,0,0,fun _=>0,0⟩)):=⟨_,g1,by rw[size_madeCells],fun i hi=>by omega⟩
 clear g1 hmake q1 k0 k1 ha1
 generalize (w.alloc (.cells #[.func (.func F) #[] #[],.func (.func G) #[] #[]] 157)).alloc (.cells (madeCells #[.bool false,.slice none 0 0,.int .i64 0] (n*3)) 26)=wx at hb0 HB0 g0 ⊢
 go_loopw [16] (fun iv wr=>∃ (k:Nat) (q:Nat->aE),k<=n∧iv=.int .i64 k∧Hid (iX wr (w.heap.size+1) n k q)∧Hid (∀ i,i<k->bt (q i).d (q i).n∧Dy (V i) (q i).ng (val (q i).d (q i).n) (q i).e)∧Hid (∀ i b' off,i<k->(q i).ao=some ⟨b',off,none⟩->0<(q i).n->w.heap.size+1<b')∧Hid (wr.heap[w.heap.size]?=some (.cells #[.func (.func F) #[] #[],.func (.func G) #[] #[]] 157 (0,0)))∧Below w.heap.size w wr) (fun iv _=>n-(intOf iv).toNat)
 case atStart=>exact⟨0,_,Nat.zero_le _,rfl,HB0,fun i hi=>by omega,fun i b' off hi=>by omega,g0,hb0⟩
 case round=>
  obtain⟨k,q,hk,rfl,HQ,HF,HG,HK,hbw⟩:=hrel
  clear HB0 hb0 g0
  by_cases hlt:k<n
  ·obtain⟨ba,oa,rfl,hba,hca⟩:=hR.spot (by omega)
   have c0:=(hbw.cell (p:=⟨ba,oa+k,none⟩) hba).trans (hca k hlt)
   have CF:=C k hlt
   have kf:=ab HK.out 0 rfl
   obtain⟨cur,hcur,hsz,hcells⟩:=HQ.out
   have e0:k*3<cur.size:=by omega
   have e1:k*3+1<cur.size:=by omega
   have e2:k*3+2<cur.size:=by omega
   obtain⟨v0,hv0⟩:∃ v,cur[k*3]?=some v:=⟨_,Array.getElem?_eq_getElem e0⟩
   obtain⟨v1,hv1⟩:∃ v,cur[k*3+1]?=some v:=⟨_,Array.getElem?_eq_getElem e1⟩
   obtain⟨v2,hv2⟩:∃ v,cur[k*3+2]?=some v:=⟨_,Array.getElem?_eq_getElem e2⟩
   have HV:Hid (cur[k*3]?=some v0∧cur[k*3+1]?=some v1∧cur[k*3+2]?=some v2):=⟨hv0,hv1,hv2⟩
   have HCUR:Hid (wr.heap[w.heap.size+1]?=some (.cells cur 26 (0,0))):=hcur
   have hgs:w.heap.size+1<wr.heap.size:=(aGe hcur).1
   clear hcells hv0 hv1 hv2 hcur hsz e0 e1 e2 hca C
   have i0:(0:Int)<=(k:Int):=by omega
   have i1:(k:Int)<(n:Int):=by omega
   generalize d k=x at *
   go_wp2_with fail
   refine(CF _ hbw).mono ?_
   rintro _ w3 ⟨v,rfl,hD⟩
   have hb3:=hD.below
   have HD:Hid (aZ wr w3 (V k) v):=hD
   obtain⟨g,s0,m0,e,rfl,_,hA0⟩:=id hD
   obtain⟨so,sn,sc,rfl⟩:=hA0.num.shape
   clear hD CF hA0
   have hb4:=aa hb3 (ae w3 (.cells #[.bool g,.slice so sn sc,.int .i64 e] 26))
   have q0:=(hb4.block (w.heap.size+1) hgs).trans HCUR.out
   have HK4:Hid ((w3.alloc (.cells #[.bool g,.slice so sn sc,.int .i64 e] 26)).heap[w.heap.size]?=some (.cells #[.func (.func F) #[] #[],.func (.func G) #[] #[]] 157 (0,0))):=(hb4.block _ (aGe HK.out).1).trans HK.out
   have qx:=a9 w3 (.cells #[.bool g,.slice so sn sc,.int .i64 e] 26)
   have t0:=ab qx 0 rfl
   have t1:=ab qx 1 rfl
   have t2:=ab qx 2 rfl
   have x0:=ab q0 (k*3) HV.out.1
   have x1:=ab q0 (k*3+1) HV.out.2.1
   have x2:=ab q0 (k*3+2) HV.out.2.2
   have f0:=ak q0 (k*3)
   have f1:=ak q0 (k*3+1)
   have f2:=ak q0 (k*3+2)
   have hn1:w.heap.size+1≠w.heap.size:=by omega
   clear q0 qx kf
   go_wp2
   all_goals
    go_roundw
    case rel=>
     obtain⟨ng,s,m,e',h1,hyy,hA⟩:=HD.out
     simp only[Value.agg.injEq,Array.mk.injEq,List.cons.injEq,Value.bool.injEq,Value.int.injEq,true_and,and_true] at h1
     obtain⟨rfl,rfl,rfl⟩:=h1
     obtain⟨dd,hRd,hNd,hVd,hgd⟩:=hA.open
     have hgs2:∀ b' off,so=some ⟨b',off,none⟩->0<sn->w.heap.size+1<b':=fun b' off he _=>by
      have h9:=hgd b' off he
      omega
     refine⟨k+1,mq q k ⟨g,so,sn,sc,dd,e⟩,by omega,by go_num,iX.step (x:=⟨g,so,sn,sc,dd,e⟩) HQ.out hb4 (hRd.keeps (ae _ _)) hlt HG.out hgs2,fun i hi=>?_,fun i b' off hi he hn'=>?_,?_,je (aa hbw hb4) (by omega) _ _ _⟩
     ·by_cases ei:i=k
      ·subst ei
       rw[ii]
       exact⟨hNd,by rw[hVd];exact hyy⟩
      ·rw[gu _ _ ei]
       exact HF.out i (by omega)
     ·by_cases ei:i=k
      ·subst ei
       rw[ii] at he hn'
       exact hgs2 b' off he hn'
      ·rw[gu _ _ ei] at he hn'
       exact HG.out i b' off (by omega) he hn'
     ·show _=_
      rw[heap_setCell_other _ ⟨w.heap.size+1,_,none⟩ w.heap.size _ (Ne.symm hn1),heap_setCell_other _ ⟨w.heap.size+1,_,none⟩ w.heap.size _ (Ne.symm hn1),heap_setCell_other _ ⟨w.heap.size+1,_,none⟩ w.heap.size _ (Ne.symm hn1)]
      exact HK4.out
    case measure=>simp[intOf];omega
  ·obtain rfl:k=n:=by omega
   go_wp2
   all_goals refine bodyPost_ret (v:=.tuple #[.slice (some ⟨w.heap.size+1,0,none⟩) k k,.bool true]) (by simp[results,results141,go_sem]) rfl ⟨_,q,rfl,by omega,HQ.out.nums hn,hbw,HF.out⟩
theorem uX (F G:Nat) (oo:Option Addr) (n cap:Nat) (d V:Nat->Int) (w:World) (hR:aG w oo n cap d) (hn:n<=100000) (K:Nat) (hK:K<n)
  (hEF:∀ (cap:Array Value) (w:World),(callFunc F cap).run prog w=.ok (.enter F cap) w)
  (C:∀ i,i<K->∀ W,Below w.heap.size w W->Calls prog F #[.int .i64 (d i)] W fun r w'=>∃ v,r=.returned (.tuple #[v,.int .i64 0])∧aZ W w' (V i) v)
  (CN:∀ W,Below w.heap.size w W->Calls prog F #[.int .i64 (d K)] W fun r w'=>r=.returned (.tuple #[.agg #[.bool false,.slice none 0 0,.int .i64 0],.int .i64 10])∧Below W.heap.size W w') :
  Calls prog 141 #[.agg #[.func (.func F) #[] #[],.func (.func G) #[] #[]],.slice oo n cap] w fun x w'=>x=.returned (.tuple #[.slice none 0 0,.bool false])∧Below w.heap.size w w':=by
 have hle:=hR.le
 have hma:=hR.max
 have hmake:=ot n hn
 have hst:∀ (p:Addr) (F:Nat) (m:Mode) (w:World),(store p (.func (.func F) #[] #[]) m).run prog w=stored prog w p (.func (.func F) #[] #[]) m:=fun p F m w=>run_store _ w p _ m rfl
 have ha1:=ae w (.cells #[.func (.func F) #[] #[],.func (.func G) #[] #[]] 157)
 have q1:=heap_alloc_new w (.cells #[.func (.func F) #[] #[],.func (.func G) #[] #[]] 157)
 have k0:=ab q1 0 rfl
 have k1:=ab q1 1 rfl
 go_enter func141,ntmps141
 go_wp2_with fail
 have hb0:=ax w (.cells #[.func (.func F) #[] #[],.func (.func G) #[] #[]] 157) (.cells (madeCells #[.bool false,.slice none 0 0,.int .i64 0] (n*3)) 26)
 have g1:=bh w (.cells #[.func (.func F) #[] #[],.func (.func G) #[] #[]] 157) (.cells (madeCells #[.bool false,.slice none 0 0,.int .i64 0] (n*3)) 26)
 have g0:=bv w (.cells #[.func (.func F) #[] #[],.func (.func G) #[] #[]] 157) (.cells (madeCells #[.bool false,.slice none 0 0,.int .i64 0] (n*3)) 26)
 have HB0:Hid (iX ((w.alloc (.cells #[.func (.func F) #[] #[],.func (.func G) #[] #[]] 157)).alloc (.cells (madeCells #[.bool false,.slice none 0 0,.int .i64 0] (n*3)) 26)) (w.heap.size+1) n 0 (fun _=>⟨false,none,0,0,fun _=>0,0⟩)):=⟨_,g1,by rw[size_madeCells],fun i hi=>by omega⟩
 clear g1 hmake q1 k0 k1 ha1
 generalize (w.alloc (.cells #[.func (.func F) #[] #[],.func (.func G) #[] #[]] 157)).alloc (.cells (madeCells #[.bool false,.slice none 0 0,.int .i64 0] (n*3)) 26)=wx at hb0 HB0 g0 ⊢
 go_loopw [16] (fun iv wr=>∃ (k:Nat) (q:Nat->aE),k<=K∧iv=.int .i64 k∧Hid (iX wr (w.heap.size+1) n k q)∧Hid (∀ i,i<k->bt (q i).d (q i).n∧Dy (V i) (q i).ng (val (q i).d (q i).n) (q i).e)∧Hid (∀ i b' off,i<k->(q i).ao=some ⟨b',off,none⟩->0<(q i).n->w.heap.size+1<b')∧Hid (wr.heap[w.heap.size]?=some (.cells #[.func (.func F) #[] #[],.func (.func G) #[] #[]] 157 (0,0)))∧Below w.heap.size w wr) (fun iv _=>n-(intOf iv).toNat)
 case atStart=>exact⟨0,_,Nat.zero_le _,rfl,HB0,fun i hi=>by omega,fun i b' off hi=>by omega,g0,hb0⟩
 case round=>
  obtain⟨k,q,hk,rfl,HQ,HF,HG,HK,hbw⟩:=hrel
  clear HB0 hb0 g0
  have hlt:k<n:=by omega
  by_cases hltK:k<K
  ·obtain⟨ba,oa,rfl,hba,hca⟩:=hR.spot (by omega)
   have c0:=(hbw.cell (p:=⟨ba,oa+k,none⟩) hba).trans (hca k hlt)
   have CF:=C k hltK
   have kf:=ab HK.out 0 rfl
   obtain⟨cur,hcur,hsz,hcells⟩:=HQ.out
   have e0:k*3<cur.size:=by omega
   have e1:k*3+1<cur.size:=by omega
   have e2:k*3+2<cur.size:=by omega
   obtain⟨v0,hv0⟩:∃ v,cur[k*3]?=some v:=⟨_,Array.getElem?_eq_getElem e0⟩
   obtain⟨v1,hv1⟩:∃ v,cur[k*3+1]?=some v:=⟨_,Array.getElem?_eq_getElem e1⟩
   obtain⟨v2,hv2⟩:∃ v,cur[k*3+2]?=some v:=⟨_,Array.getElem?_eq_getElem e2⟩
   have HV:Hid (cur[k*3]?=some v0∧cur[k*3+1]?=some v1∧cur[k*3+2]?=some v2):=⟨hv0,hv1,hv2⟩
   have HCUR:Hid (wr.heap[w.heap.size+1]?=some (.cells cur 26 (0,0))):=hcur
   have hgs:w.heap.size+1<wr.heap.size:=(aGe hcur).1
   clear hcells hv0 hv1 hv2 hcur hsz e0 e1 e2 hca C
   have i0:(0:Int)<=(k:Int):=by omega
   have i1:(k:Int)<(n:Int):=by omega
   generalize d k=x at *
   go_wp2_with fail
   refine(CF _ hbw).mono ?_
   rintro _ w3 ⟨v,rfl,hD⟩
   have hb3:=hD.below
   have HD:Hid (aZ wr w3 (V k) v):=hD
   obtain⟨g,s0,m0,e,rfl,_,hA0⟩:=id hD
   obtain⟨so,sn,sc,rfl⟩:=hA0.num.shape
   clear hD CF hA0
   have hb4:=aa hb3 (ae w3 (.cells #[.bool g,.slice so sn sc,.int .i64 e] 26))
   have q0:=(hb4.block (w.heap.size+1) hgs).trans HCUR.out
   have HK4:Hid ((w3.alloc (.cells #[.bool g,.slice so sn sc,.int .i64 e] 26)).heap[w.heap.size]?=some (.cells #[.func (.func F) #[] #[],.func (.func G) #[] #[]] 157 (0,0))):=(hb4.block _ (aGe HK.out).1).trans HK.out
   have qx:=a9 w3 (.cells #[.bool g,.slice so sn sc,.int .i64 e] 26)
   have t0:=ab qx 0 rfl
   have t1:=ab qx 1 rfl
   have t2:=ab qx 2 rfl
   have x0:=ab q0 (k*3) HV.out.1
   have x1:=ab q0 (k*3+1) HV.out.2.1
   have x2:=ab q0 (k*3+2) HV.out.2.2
   have f0:=ak q0 (k*3)
   have f1:=ak q0 (k*3+1)
   have f2:=ak q0 (k*3+2)
   have hn1:w.heap.size+1≠w.heap.size:=by omega
   clear q0 qx kf
   go_wp2
   all_goals
    go_roundw
    case rel=>
     obtain⟨ng,s,m,e',h1,hyy,hA⟩:=HD.out
     simp only[Value.agg.injEq,Array.mk.injEq,List.cons.injEq,Value.bool.injEq,Value.int.injEq,true_and,and_true] at h1
     obtain⟨rfl,rfl,rfl⟩:=h1
     obtain⟨dd,hRd,hNd,hVd,hgd⟩:=hA.open
     have hgs2:∀ b' off,so=some ⟨b',off,none⟩->0<sn->w.heap.size+1<b':=fun b' off he _=>by
      have h9:=hgd b' off he
      omega
     refine⟨k+1,mq q k ⟨g,so,sn,sc,dd,e⟩,by omega,by go_num,iX.step (x:=⟨g,so,sn,sc,dd,e⟩) HQ.out hb4 (hRd.keeps (ae _ _)) hlt HG.out hgs2,fun i hi=>?_,fun i b' off hi he hn'=>?_,?_,je (aa hbw hb4) (by omega) _ _ _⟩
     ·by_cases ei:i=k
      ·subst ei
       rw[ii]
       exact⟨hNd,by rw[hVd];exact hyy⟩
      ·rw[gu _ _ ei]
       exact HF.out i (by omega)
     ·by_cases ei:i=k
      ·subst ei
       rw[ii] at he hn'
       exact hgs2 b' off he hn'
      ·rw[gu _ _ ei] at he hn'
       exact HG.out i b' off (by omega) he hn'
     ·show _=_
      rw[heap_setCell_other _ ⟨w.heap.size+1,_,none⟩ w.heap.size _ (Ne.symm hn1),heap_setCell_other _ ⟨w.heap.size+1,_,none⟩ w.heap.size _ (Ne.symm hn1),heap_setCell_other _ ⟨w.heap.size+1,_,none⟩ w.heap.size _ (Ne.symm hn1)]
      exact HK4.out
    case measure=>simp[intOf];omega
  ·obtain rfl:k=K:=by omega
   obtain⟨ba,oa,rfl,hba,hca⟩:=hR.spot (by omega)
   have c0:=(hbw.cell (p:=⟨ba,oa+k,none⟩) hba).trans (hca k hlt)
   have kf:=ab HK.out 0 rfl
   clear hca C
   have i0:(0:Int)<=(k:Int):=by omega
   have i1:(k:Int)<(n:Int):=by omega
   generalize d k=x at *
   go_wp2_with fail
   refine(CN _ hbw).mono ?_
   rintro _ w3 ⟨rfl,hb3⟩
   go_wp2
   all_goals refine bodyPost_ret (v:=.tuple #[.slice none 0 0,.bool false]) (by simp[results,results141,go_sem]) rfl ⟨rfl,aa hbw (aa hb3 (ae _ _))⟩
def xM (ng:Bool) (m e:Int) (sd:Bool):Value:=cv ng (m/2^vK m).toNat (e+vK m) (decide (m % 2^vK m≠0)) sd
theorem uY {w:World} {v:Value} {V:Int} {ng:Bool} {m e:Int} (hx:aX w v V) (ok:b7 V) (hy:Dy V ng m e) (hT:eF w) :
  Calls prog 93 #[v] w fun r w'=>r=.returned (xM ng m e false)∧Below w.heap.size w w':=by
 obtain⟨x,rfl,hR,hok,rfl⟩:=hx.open ok
 obtain⟨na,hn,he0,he1⟩:=a8 hok
 obtain⟨rfl,rfl,rfl⟩:=(fC hok).1.unique hy
 exact lP _ _ _ _ _ _ _ hR na hn ⟨he0,he1⟩ hT
def ou (er:Int) (mag:Nat) (sd:Bool) (b near:Int):Int:=if er≠0∨(mag=0∧sd=false) then near else b
theorem tB (way:Int) (hw:1<=way∧way<=3) (near:Int) (F G Rf:Nat) (rc:Array Value) (oo:Option Addr) (n cap:Nat) (w:World) (V:Nat->Int) (ng:Bool) (mag:Nat) (exp:Int) (cut sd:Bool) (er b:Int) (o:Bool)
  (hEG:∀ (cap:Array Value) (w:World),(callFunc G cap).run prog w=.ok (.enter G cap) w)
  (hER:∀ (cap:Array Value) (w:World),(callFunc Rf cap).run prog w=.ok (.enter Rf cap) w)
  (CV:∀ W,Below w.heap.size w W->Calls prog 141 #[.agg #[.func (.func F) #[] #[],.func (.func G) #[] #[]],.slice oo n cap] W fun x w'=>∃ g q,x=.returned (.tuple #[.slice (some ⟨g,0,none⟩) n n,.bool true])∧W.heap.size<=g∧eS w' (some ⟨g,0,none⟩) n n q∧Below W.heap.size W w'∧∀ i,i<n->bt (q i).d (q i).n∧Dy (V i) (q i).ng (val (q i).d (q i).n) (q i).e)
  (CR:∀ W g q,Below w.heap.size w W->eS W (some ⟨g,0,none⟩) n n q->(∀ i,i<n->bt (q i).d (q i).n∧Dy (V i) (q i).ng (val (q i).d (q i).n) (q i).e)->Calls prog Rf (#[.slice (some ⟨g,0,none⟩) n n] ++ rc) W fun e w'=>e=.returned (.tuple #[cv ng mag exp cut sd,.int .i64 er])∧Below W.heap.size W w')
  (CT:∀ W,Below w.heap.size w W->Calls prog G #[cv ng mag exp cut true,eP way] W fun e w'=>e=.returned (.tuple #[.int .i64 b,.bool o])∧Below W.heap.size W w') :
  Calls prog 125 #[.agg #[.func (.func F) #[] #[],.func (.func G) #[] #[]],.int .i64 near,.int .i64 way,.func (.func Rf) #[] rc,.slice oo n cap] w fun e w'=>e=.returned (.tuple #[.int .i64 (ou er mag sd b near),.int .i64 0])∧Below w.heap.size w w':=by
 have hst:∀ (p:Addr) (F:Nat) (m:Mode) (w:World),(store p (.func (.func F) #[] #[]) m).run prog w=stored prog w p (.func (.func F) #[] #[]) m:=fun p F m w=>run_store _ w p _ m rfl
 have hw0:0<=way∧way<=3:=by omega
 have hne:way≠0:=by omega
 unfold cv eP at *
 have CW:=fun W=>gY way W
 rw[if_pos hw0,decide_eq_true hw0] at CW
 unfold eP at CW
 generalize eO way=K at *
 have HV:Hid _:=CV
 have HR:Hid _:=CR
 have HT:Hid _:=CT
 clear CV CR CT
 have hb1:=ae w (.cells #[.func (.func F) #[] #[],.func (.func G) #[] #[]] 157)
 have q1:=heap_alloc_new w (.cells #[.func (.func F) #[] #[],.func (.func G) #[] #[]] 157)
 go_enter func125,ntmps125
 go_wp2_with fail
 generalize w.alloc (.cells #[.func (.func F) #[] #[],.func (.func G) #[] #[]] 157)=x0 at hb1 q1 ⊢
 refine(CW _).mono ?_
 rintro _ w2 ⟨rfl,hb2⟩
 have q2:=heap_alloc_new w2 (.cells #[.nilFunc] 124)
 have y0:=ab q2 0 rfl
 have y1:=ak q2 0
 have p1:=(hb2.block _ (aGe q1).1).trans q1
 have hb3:=ae w2 (.cells #[.func (.func K) #[] #[]] 124)
 have p2:=(hb3.block _ (aGe p1).1).trans p1
 have q3:=heap_alloc_new w2 (.cells #[.func (.func K) #[] #[]] 124)
 have c0:=ab p2 0 rfl
 have c1:=ab p2 1 rfl
 have hbx:=aa (aa hb1 hb2) hb3
 clear CW q1 p1
 go_wp2_with fail
 generalize w2.alloc (.cells #[.func (.func K) #[] #[]] 124)=x3 at hb3 p2 q3 c0 c1 hbx ⊢
 refine(HV.out _ hbx).mono ?_
 rintro _ w4 ⟨g,q,rfl,hg,hN,hb4,hf⟩
 have hb5:=aa hbx hb4
 have p2:=(hb4.block _ (aGe p2).1).trans p2
 have q3:=(hb4.block _ (aGe q3).1).trans q3
 clear c0 c1 y0 y1 q2
 go_wp2_with fail
 refine(HR.out _ g q hb5 hN hf).mono ?_
 rintro _ w6 ⟨rfl,hb6⟩
 have hb7:=aa hb5 hb6
 have p2:=(hb6.block _ (aGe p2).1).trans p2
 have q3:=(hb6.block _ (aGe q3).1).trans q3
 clear HV HR hN hf
 have hb8:=ae w6 (.cells #[.bool ng,.int .u64 mag,.int .i64 exp,.bool cut,.bool sd] 104)
 have q8:=heap_alloc_new w6 (.cells #[.bool ng,.int .u64 mag,.int .i64 exp,.bool cut,.bool sd] 104)
 have x1':=ab q8 1 rfl
 have x4':=ab q8 4 rfl
 have z4':=ak q8 4
 have hb9:=aa hb7 hb8
 have hbX:=ae w6 (.cells #[.bool ng,.int .u64 mag,.int .i64 exp,.bool cut,.bool true] 104)
 have qX:=heap_alloc_new w6 (.cells #[.bool ng,.int .u64 mag,.int .i64 exp,.bool cut,.bool true] 104)
 have pX:=(hbX.block _ (aGe p2).1).trans p2
 have rX:=(hbX.block _ (aGe q3).1).trans q3
 have u1:=ab pX 1 rfl
 have u2:=ab rX 0 rfl
 have v0:=ab qX 0 rfl
 have v1:=ab qX 1 rfl
 have v2:=ab qX 2 rfl
 have v3:=ab qX 3 rfl
 have v4:=ab qX 4 rfl
 have hbY:=aa hb7 hbX
 clear q8 qX pX rX p2 q3 hb8 hbX
 by_cases he:er=0
 ·subst he
  by_cases hm:mag=0
  ·subst hm
   cases sd
   ·go_wp2
    all_goals refine bodyPost_ret (v:=.tuple #[.int .i64 near,.int .i64 0]) (by simp[results,results125,go_sem]) rfl ⟨by simp[ou],hb9⟩
   ·have e0:((0:Nat):Int)=0:=rfl
    have HT:=HT.out
    simp only[e0] at HT hbY u1 u2 v0 v1 v2 v3 v4
    go_wp2_with fail
    refine(HT _ hbY).mono ?_
    rintro _ w10 ⟨rfl,hb10⟩
    go_wp2
    all_goals refine bodyPost_ret (v:=.tuple #[.int .i64 b,.int .i64 0]) (by simp[results,results125,go_sem]) rfl ⟨by simp[ou],aa hbY hb10⟩
  ·have hm':¬ ((mag:Int)=0):=by omega
   go_wp2_with fail
   refine(HT.out _ hbY).mono ?_
   rintro _ w10 ⟨rfl,hb10⟩
   go_wp2
   all_goals refine bodyPost_ret (v:=.tuple #[.int .i64 b,.int .i64 0]) (by simp[results,results125,go_sem]) rfl ⟨by simp[ou,hm],aa hbY hb10⟩
 ·go_wp2
  all_goals refine bodyPost_ret (v:=.tuple #[.int .i64 near,.int .i64 0]) (by simp[results,results125,go_sem]) rfl ⟨by simp[ou,he],hb9⟩
theorem q5 (way:Int) (hw:1<=way∧way<=3) (near:Int) (F G Rf:Nat) (rc:Array Value) (oo:Option Addr) (n cap:Nat) (w:World)
  (CV:∀ W,Below w.heap.size w W->Calls prog 141 #[.agg #[.func (.func F) #[] #[],.func (.func G) #[] #[]],.slice oo n cap] W fun x w'=>x=.returned (.tuple #[.slice none 0 0,.bool false])∧Below W.heap.size W w') :
  Calls prog 125 #[.agg #[.func (.func F) #[] #[],.func (.func G) #[] #[]],.int .i64 near,.int .i64 way,.func (.func Rf) #[] rc,.slice oo n cap] w fun e w'=>e=.returned (.tuple #[.int .i64 near,.int .i64 0])∧Below w.heap.size w w':=by
 have hst:∀ (p:Addr) (F:Nat) (m:Mode) (w:World),(store p (.func (.func F) #[] #[]) m).run prog w=stored prog w p (.func (.func F) #[] #[]) m:=fun p F m w=>run_store _ w p _ m rfl
 have hw0:0<=way∧way<=3:=by omega
 have hne:way≠0:=by omega
 have CW:=fun W=>gY way W
 rw[if_pos hw0,decide_eq_true hw0] at CW
 unfold eP at CW
 generalize eO way=K at *
 have HV:Hid _:=CV
 clear CV
 have hb1:=ae w (.cells #[.func (.func F) #[] #[],.func (.func G) #[] #[]] 157)
 have q1:=heap_alloc_new w (.cells #[.func (.func F) #[] #[],.func (.func G) #[] #[]] 157)
 go_enter func125,ntmps125
 go_wp2_with fail
 generalize w.alloc (.cells #[.func (.func F) #[] #[],.func (.func G) #[] #[]] 157)=x0 at hb1 q1 ⊢
 refine(CW _).mono ?_
 rintro _ w2 ⟨rfl,hb2⟩
 have q2:=heap_alloc_new w2 (.cells #[.nilFunc] 124)
 have y0:=ab q2 0 rfl
 have y1:=ak q2 0
 have p1:=(hb2.block _ (aGe q1).1).trans q1
 have hb3:=ae w2 (.cells #[.func (.func K) #[] #[]] 124)
 have p2:=(hb3.block _ (aGe p1).1).trans p1
 have c0:=ab p2 0 rfl
 have c1:=ab p2 1 rfl
 have hbx:=aa (aa hb1 hb2) hb3
 clear CW q1 p1
 go_wp2_with fail
 refine(HV.out _ hbx).mono ?_
 rintro _ w4 ⟨rfl,hb4⟩
 go_wp2
 all_goals refine bodyPost_ret (v:=.tuple #[.int .i64 near,.int .i64 0]) (by simp[results,results125,go_sem]) rfl ⟨rfl,aa hbx hb4⟩
theorem eS.at {w:World} {g n:Nat} {q:Nat->aE} (h:eS w (some ⟨g,0,none⟩) n n q) (i:Nat) (hi:i<n):ue w g (i*3) (q i):=by
 obtain⟨b,off,he,hlt,hc⟩:=h.spot (by omega)
 cases he
 have:=hc i hi
 rwa [Nat.zero_add] at this
theorem uZ {w:World} {g n:Nat} {q:Nat->aE} {V:Nat->Int} (h:eS w (some ⟨g,0,none⟩) n n q) (hf:∀ i,i<n->bt (q i).d (q i).n∧Dy (V i) (q i).ng (val (q i).d (q i).n) (q i).e) (i:Nat) (hi:i<n):aX w (q i).v (V i) :=
 ⟨_,_,_,_,rfl,(hf i hi).2,_,_,_,_,rfl,(h.at i hi).row,(hf i hi).1,rfl⟩
theorem tC {C D A B:Int} (h:C*2^4194304=A*B) (k:D*2^4194304=A*B):C=D:=Int.eq_of_mul_eq_mul_right (Int.ne_of_gt (aF 4194304)) (h.trans k.symm)
theorem AS {W w':World} {g:Nat} {a b c d e f:Value} (h:W.cell? ⟨g,0,none⟩=some a∧W.cell? ⟨g,1,none⟩=some b∧W.cell? ⟨g,2,none⟩=some c∧W.cell? ⟨g,3,none⟩=some d∧W.cell? ⟨g,4,none⟩=some e∧W.cell? ⟨g,5,none⟩=some f) (hb:Below W.heap.size W w') :
  w'.cell? ⟨g,0,none⟩=some a∧w'.cell? ⟨g,1,none⟩=some b∧w'.cell? ⟨g,2,none⟩=some c∧w'.cell? ⟨g,3,none⟩=some d∧w'.cell? ⟨g,4,none⟩=some e∧w'.cell? ⟨g,5,none⟩=some f :=
 ⟨az h.1 hb,az h.2.1 hb,az h.2.2.1 hb,az h.2.2.2.1 hb,az h.2.2.2.2.1 hb,az h.2.2.2.2.2 hb⟩
theorem u6 (g:Nat) (w:World) (q:Nat->aE) (A B C:Int) (ng:Bool) (m e:Int) (hN:eS w (some ⟨g,0,none⟩) 2 2 q) (h0:aX w (q 0).v A) (h1:aX w (q 1).v B) (oA:b7 A) (oB:b7 B) (hC:C*2^4194304=A*B) (oC:b7 C) (hy:Dy C ng m e) (hT:eF w) :
  Calls prog 126 #[.slice (some ⟨g,0,none⟩) 2 2] w fun r w'=>r=.returned (.tuple #[xM ng m e false,.int .i64 0])∧Below w.heap.size w w':=by
 have CM:Hid (∀ W,Below w.heap.size w W->Calls prog 142 #[(q 0).v,(q 1).v] W fun r w'=>∃ v,r=.returned (.tuple #[v,.int .i64 0])∧aZ W w' C v):=fun W hb=>by
  refine(BM (h0.keeps hb) (h1.keeps hb) oA oB (hT.keeps hb)).mono ?_
  rintro r w' ⟨v,er,C',rfl,hC',hF⟩
  obtain rfl:=tC hC' hC
  obtain⟨rfl,hA⟩:=hF.yes oC
  exact⟨v,rfl,hA⟩
 have CV:Hid (∀ W v,Below w.heap.size w W->aX W v C->Calls prog 93 #[v] W fun r w'=>r=.returned (xM ng m e false)∧Below W.heap.size W w'):=fun W v hb hv=>uY hv oC hy (hT.keeps hb)
 obtain⟨c0,c1,c2,_⟩:=hN.at 0 (by decide)
 obtain⟨c3,c4,c5,_⟩:=hN.at 1 (by decide)
 unfold xM cv aE.v at *
 generalize (m/2^vK m).toNat=Q at CV ⊢
 generalize e+vK m=E at CV ⊢
 generalize decide (m % 2^vK m≠0)=R at CV ⊢
 clear h0 h1 hN oA oB hC oC hy hT
 generalize q 0=x at *
 generalize q 1=y at *
 obtain⟨x_g,x_o,x_n,x_c,x_d,x_e⟩:=x
 obtain⟨y_g,y_o,y_n,y_c,y_d,y_e⟩:=y
 simp only[Nat.zero_mul,Nat.zero_add,Nat.one_mul] at c0 c1 c2 c3 c4 c5 CM
 have q0:=heap_alloc_new w (.cells #[.bool false,.int .u64 0,.int .i64 0,.bool false,.bool false] 104)
 have hb1:=ae w (.cells #[.bool false,.int .u64 0,.int .i64 0,.bool false,.bool false] 104)
 have d0:=az c0 hb1
 have d1:=az c1 hb1
 have d2:=az c2 hb1
 have d3:=az c3 hb1
 have d4:=az c4 hb1
 have d5:=az c5 hb1
 clear c0 c1 c2 c3 c4 c5
 go_enter func126,ntmps126
 go_wp2_with fail
 generalize w.alloc (.cells #[.bool false,.int .u64 0,.int .i64 0,.bool false,.bool false] 104)=x1 at q0 hb1 d0 d1 d2 d3 d4 d5 ⊢
 have KK:∀ W,Below x1.heap.size x1 W->W.cell? ⟨g,0,none⟩=some (.bool x_g)∧W.cell? ⟨g,1,none⟩=some (.slice x_o x_n x_c)∧W.cell? ⟨g,2,none⟩=some (.int .i64 x_e)∧W.cell? ⟨g,3,none⟩=some (.bool y_g)∧W.cell? ⟨g,4,none⟩=some (.slice y_o y_n y_c)∧W.cell? ⟨g,5,none⟩=some (.int .i64 y_e):=fun W hb=>AS (W:=x1) ⟨d0,d1,d2,d3,d4,d5⟩ hb
 clear d0 d1 d2 d3 d4 d5
 have i0:(0:Int)<2:=by decide
 have i1:(1:Int)<2:=by decide
 have hx0:=(aq x1).drew
 have hx1:=(ae x1 (.cells #[.bool false,.slice none 0 0,.int .i64 0] 26)).drew
 go_region_held3 (fun W=>W.cell? ⟨g,0,none⟩=some (.bool x_g)∧W.cell? ⟨g,1,none⟩=some (.slice x_o x_n x_c)∧W.cell? ⟨g,2,none⟩=some (.int .i64 x_e)∧W.cell? ⟨g,3,none⟩=some (.bool y_g)∧W.cell? ⟨g,4,none⟩=some (.slice y_o y_n y_c)∧W.cell? ⟨g,5,none⟩=some (.int .i64 y_e))
  (first|assumption|exact KK _ hx0|exact KK _ hx1|exact KK _ hw3|exact KK _ (aa hw3 (ae _ _))|exact KK _ (je hw3 (Nat.le_refl _) _ _ _)|fail)
  ((go_at_call 142;refine(CM.out _ (by first|exact hb1.drew|exact aa hb1 hx1)).mono ?_;rintro _ w3 ⟨v,rfl,hD⟩;obtain⟨n_g,n_o,n_n,n_c,n_e,rfl⟩:=mF hD;have hw3:Below x1.heap.size x1 w3:=(by first|exact aa hx0 hD.below|exact aa hx1 hD.below);first|(have qz:w3.heap[x1.heap.size]?=some (.cells #[.bool false,.slice none 0 0,.int .i64 0] 26 (0,0)):=(hD.below.block _ (by first|exact(aGe (a9 x1 (.cells #[.bool false,.slice none 0 0,.int .i64 0] 26))).1)).trans (a9 x1 (.cells #[.bool false,.slice none 0 0,.int .i64 0] 26));have cz0:=ab qz 0 rfl;have cz1:=ab qz 1 rfl;have cz2:=ab qz 2 rfl;have zz0:=ak qz 0;have zz1:=ak qz 1;have zz2:=ak qz 2)|skip))
 ·have hb4:=ae w3 (.cells #[.bool n_g,.slice n_o n_n n_c,.int .i64 n_e] 26)
  have qn:=a9 w3 (.cells #[.bool n_g,.slice n_o n_n n_c,.int .i64 n_e] 26)
  have hw4:=aa hw3 hb4
  have q4:=(hw4.block _ (aGe q0).1).trans q0
  have hD4:=hD.num.keeps hb4
  have hb5:=aa hb1 hw4
  have c0:=ab qn 0 rfl
  have c1:=ab qn 1 rfl
  have c2:=ab qn 2 rfl
  go_wp2_with fail
  refine(CV.out _ _ hb5 hD4).mono ?_
  rintro _ w6 ⟨rfl,hb6⟩
  have p1:=(hb6.block _ (aGe q4).1).trans q4
  have hbw:=aa hb5 hb6
  have x0:=ab p1 0 rfl
  have x1':=ab p1 1 rfl
  have x2:=ab p1 2 rfl
  have x3:=ab p1 3 rfl
  have x4:=ab p1 4 rfl
  have z0:=ak p1 0
  have z1:=ak p1 1
  have z2:=ak p1 2
  have z3:=ak p1 3
  have z4:=ak p1 4
  go_wp2
  all_goals refine bodyPost_ret (v:=.tuple #[.agg #[.bool ng,.int .u64 Q,.int .i64 E,.bool R,.bool false],.int .i64 0]) (by simp[results,results126,go_sem,x0,x1',x2,x3,x4]) rfl ⟨rfl,?_⟩
  all_goals exact(xE w6 w.heap.size _ _ _ _ _).below hbw hbw.size (Nat.le_refl _)
 ·have hw4:=je (o0:=0) (o1:=1) (o2:=2) hw3 (Nat.le_refl _) (.bool n_g) (.slice n_o n_n n_c) (.int .i64 n_e)
  have qn:=gG (gG (gG qz 0 (.bool n_g)) 1 (.slice n_o n_n n_c)) 2 (.int .i64 n_e)
  have q4:=(hw4.block _ (aGe q0).1).trans q0
  have hD4:=(b8 hD hx1 (Nat.le_refl _) (aGe (a9 x1 (.cells #[.bool false,.slice none 0 0,.int .i64 0] 26))).1 (.bool n_g) (.slice n_o n_n n_c) (.int .i64 n_e)).num
  have hb5:=aa hb1 hw4
  clear cz0 cz1 cz2 zz0 zz1 zz2 qz
  have c0:=ab qn 0 rfl
  have c1:=ab qn 1 rfl
  have c2:=ab qn 2 rfl
  go_wp2_with fail
  refine(CV.out _ _ hb5 hD4).mono ?_
  rintro _ w6 ⟨rfl,hb6⟩
  have p1:=(hb6.block _ (aGe q4).1).trans q4
  have hbw:=aa hb5 hb6
  have x0:=ab p1 0 rfl
  have x1':=ab p1 1 rfl
  have x2:=ab p1 2 rfl
  have x3:=ab p1 3 rfl
  have x4:=ab p1 4 rfl
  have z0:=ak p1 0
  have z1:=ak p1 1
  have z2:=ak p1 2
  have z3:=ak p1 3
  have z4:=ak p1 4
  go_wp2
  all_goals refine bodyPost_ret (v:=.tuple #[.agg #[.bool ng,.int .u64 Q,.int .i64 E,.bool R,.bool false],.int .i64 0]) (by simp[results,results126,go_sem,x0,x1',x2,x3,x4]) rfl ⟨rfl,?_⟩
  all_goals exact(xE w6 w.heap.size _ _ _ _ _).below hbw hbw.size (Nat.le_refl _)
end Go.Proofs.YtkkpppgfoilgmaaGreatDoor
