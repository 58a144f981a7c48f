/- Parts of the proof. -/
import Derived.Test.YtkkpppgfoilgmaaGreatDoorPart11
import Derived.Test.YtkkpppgfoilgmaaGreatDoorPart8
import Derived.Test.YtkkpppgfoilgmaaGreatDoorPart9
import Derived.Test.YtkkpppgfoilgmaaGreatDoorPart10
import Derived.Laws.Externs
import Derived.Test.YtkkpppgfoilgmaaGreatDoorPart7
import Derived.Laws.MakeOwn
import Derived.Test.YtkkpppgfoilgmaaGreatDoorPart6
set_option maxRecDepth 100000
set_option maxHeartbeats 8000000
set_option linter.unusedVariables false
set_option linter.unusedSimpArgs false
namespace Go.Proofs.YtkkpppgfoilgmaaGreatDoor
open Go Go.Proofs.Tryz Go.RowKit Go.Proofs.YtkkpppgfoilgmaaGreatDoor.M
theorem At {p q:Int} (h:rg p<=rg q) (hp:0<=rg p):(iV p).natAbs<=(iV q).natAbs:=by
 have a:=oQ p
 have b:=oQ q
 have c:=pE (show(rg p).toNat<=(rg q).toNat by omega)
 omega
theorem zF {p q:Int} (hp:au p) (hq:au q) (pp:aC p=true) (pq:aC q=true) (hf:aC (bt p q)=true):aC (cK p q)=true∧iV (bt p q)+iV (cK p q)=iV p+iV q:=by
 by_cases h:rg p<rg q
 ·have ex:dl p q=q:=if_pos h
  have ey:fT p q=p:=if_pos h
  unfold cK bt at *
  rw[ex,ey] at hf ⊢
  obtain⟨a,b⟩:=xx hq hp pq pp hf (At (by omega) (j6 hp).2)
  exact⟨a,by unfold fL at b;omega⟩
 ·have ex:dl p q=p:=if_neg h
  have ey:fT p q=q:=if_neg h
  unfold cK bt at *
  rw[ex,ey] at hf ⊢
  obtain⟨a,b⟩:=xx hp hq pp pq hf (At (by omega) (j6 hq).2)
  exact⟨a,by unfold fL at b;omega⟩
theorem lL {r:Nat}:(V Ieee.double r:Int)=0↔r=0:=by
 constructor
 ·intro h
  by_cases h0:r=0
  ·exact h0
  ·have:=jR Ieee.double (show 0<r by omega)
   rw[kO] at this
   omega
 ·rintro rfl
  rw[kO]
  rfl
theorem sM {p:Int} (hp:au p):(iV p<0↔aw p<0)∧(0<iV p↔0<aw p):=by
 have hz:=@lL (rg p).toNat
 have hr:=j6 hp
 unfold au at hp
 have hv:(0:Int)<=(V Ieee.double (rg p).toNat:Int):=by omega
 by_cases h:p<0
 ·have e1:iV p=-(V Ieee.double (rg p).toNat:Int):=by unfold iV sg;simp[h]
  have e2:aw p=-(rg p):=by unfold aw rg;rw[if_pos h,if_pos h]
  rw[e1,e2]
  constructor<;>constructor<;>intro g<;>omega
 ·have e1:iV p=(V Ieee.double (rg p).toNat:Int):=by unfold iV sg;simp[h]
  have e2:aw p=rg p:=by unfold aw rg;rw[if_neg h,if_neg h]
  rw[e1,e2]
  constructor<;>constructor<;>intro g<;>omega
theorem pH {p q:Int} (hp:au p) (hq:au q) (h:aw p<aw q):iV p<iV q:=by
 have rp:=j6 hp
 have rq:=j6 hq
 have ep:iV p=if p<0 then -(V Ieee.double (rg p).toNat:Int) else (V Ieee.double (rg p).toNat:Int):=by unfold iV sg;by_cases g:p<0<;>simp[g]
 have eq':iV q=if q<0 then -(V Ieee.double (rg q).toNat:Int) else (V Ieee.double (rg q).toNat:Int):=by unfold iV sg;by_cases g:q<0<;>simp[g]
 have kp:aw p=if p<0 then -(rg p) else rg p:=by unfold aw rg;by_cases g:p<0<;>simp[g]
 have kq:aw q=if q<0 then -(rg q) else rg q:=by unfold aw rg;by_cases g:q<0<;>simp[g]
 have zp:=@lL (rg p).toNat
 have zq:=@lL (rg q).toNat
 have m1:rg p<rg q->(V Ieee.double (rg p).toNat:Int)<V Ieee.double (rg q).toNat:=fun g=>by
  have:=jR Ieee.double (show(rg p).toNat<(rg q).toNat by omega)
  omega
 have m2:rg q<rg p->(V Ieee.double (rg q).toNat:Int)<V Ieee.double (rg p).toNat:=fun g=>by
  have:=jR Ieee.double (show(rg q).toNat<(rg p).toNat by omega)
  omega
 rw[kp,kq] at h
 rw[ep,eq']
 have hA0:(0:Int)<=(V Ieee.double (rg p).toNat:Int):=by omega
 have hB0:(0:Int)<=(V Ieee.double (rg q).toNat:Int):=by omega
 clear ep eq' kp kq
 generalize (V Ieee.double (rg p).toNat:Int)=A at *
 generalize (V Ieee.double (rg q).toNat:Int)=B at *
 by_cases a:p<0<;>by_cases b:q<0<;>simp only[a,b,if_true,if_false] at h ⊢<;>omega
theorem BH {n S:Int} (hn:nn n) (hi:¬ n=-4503599627370496) (hp:au (c9 n)) (h:Nr S (iV n)) (g:S<iV n):iV (c9 n)<=S:=by
 obtain⟨k1,_⟩:=sf hn.1 hn.2 hi
 have m:=pH hp hn.1 (by omega)
 have:=h.2 (iV (c9 n)) (fU _)
 omega
theorem BI {n S:Int} (hn:nn n) (hi:¬ n=9218868437227405312) (hp:au (next n)) (h:Nr S (iV n)) (g:iV n<S):S<=iV (next n):=by
 obtain⟨k1,_,_,_⟩:=nW hn.1 hn.2 hi
 have m:=pH hn.1 hp (by omega)
 have:=h.2 (iV (next n)) (fU _)
 omega
theorem xy {p:Int} (h:au p):au (c9 p):=by unfold c9;exact gp (nH (gp h))
theorem xz {p q:Int} (hp:au p) (hq:au q) (pp:aC p=true) (pq:aC q=true) (hf:aC (bt p q)=true) (hn:nn (bt p q)) :
  iV (c6 (bt p q) (cK p q))<=iV p+iV q∧iV p+iV q<=iV (c7 (bt p q) (cK p q))∧((iV (bt p q)=iV p+iV q∧c6 (bt p q) (cK p q)=bt p q∧c7 (bt p q) (cK p q)=bt p q)∨(iV p+iV q<iV (bt p q)∧c6 (bt p q) (cK p q)=c9 (bt p q)∧c7 (bt p q) (cK p q)=bt p q)∨(iV (bt p q)<iV p+iV q∧c6 (bt p q) (cK p q)=bt p q∧c7 (bt p q) (cK p q)=next (bt p q))):=by
 obtain⟨pl,he⟩:=zF hp hq pp pq hf
 have hNr:Nr (iV p+iV q) (iV (bt p q)):=by
  by_cases h:rg p<rg q
  ·have ex:dl p q=q:=if_pos h
   have ey:fT p q=p:=if_pos h
   unfold bt at hf ⊢
   rw[ex,ey] at hf ⊢
   have:=(fO hq hp pq pp).nr hf
   rwa [Int.add_comm] at this
  ·have ex:dl p q=p:=if_neg h
   have ey:fT p q=q:=if_neg h
   unfold bt at hf ⊢
   rw[ex,ey] at hf ⊢
   exact(fO hp hq pp pq).nr hf
 have i1:¬ bt p q=-4503599627370496:=fun e=>by rw[e] at hf;revert hf;decide
 have i2:¬ bt p q=9218868437227405312:=fun e=>by rw[e] at hf;revert hf;decide
 have rl:au (cK p q):=by
  unfold cK
  have a1:au (dl p q):=by unfold dl;split<;>assumption
  have a2:au (fT p q):=by unfold fT;split<;>assumption
  exact cP a2 (gp (cP hn.1 (gp a1)))
 obtain⟨kl1,kl2⟩:=sM rl
 have c0:¬ aE 0=4:=by decide
 have k0:aw 0=0:=by decide
 have cl:=vr pl
 have l1:bI (cK p q) 0=decide (aw (cK p q)<0):=by unfold bI;simp[cl,c0,k0]
 have l2:bI 0 (cK p q)=decide (0<aw (cK p q)):=by unfold bI;simp[cl,c0,k0]
 unfold c6 c7
 rw[l1,l2]
 generalize bt p q=n at *
 generalize cK p q=l at *
 by_cases a:aw l<0
 ·have al:iV l<0:=kl1.2 a
  simp only[a,decide_true,if_true]
  exact⟨BH hn i1 (xy hn.1) hNr (by omega),by omega,.inr (.inl ⟨by omega,by trivial,by trivial⟩)⟩
 ·by_cases b:0<aw l
  ·have bl:0<iV l:=kl2.2 b
   simp only[a,b,decide_true,decide_false,if_true,if_false,Bool.false_eq_true]
   exact⟨by omega,BI hn i2 (nH hn.1) hNr (by omega),.inr (.inr ⟨by omega,by trivial,by trivial⟩)⟩
  ·have z1:¬ iV l<0:=fun h=>a (kl1.1 h)
   have z2:¬ 0<iV l:=fun h=>b (kl2.1 h)
   simp only[a,b,decide_false,if_false,Bool.false_eq_true]
   exact⟨by omega,by omega,.inl ⟨by omega,by trivial,by trivial⟩⟩
theorem kV {p:Int} (h:nn p):rg (neg p)=rg p∧(decide (neg p<0)≠decide (p<0)):=by
 have hr:=h.1
 unfold au at hr
 unfold neg
 rw[if_neg h.2]
 unfold rg
 by_cases g:p<0
 ·rw[if_pos g,if_neg (by omega)]
  refine⟨by rw[if_pos g],?_⟩
  rw[decide_eq_false (by omega),decide_eq_true g]
  decide
 ·rw[if_neg g,if_pos (by omega)]
  refine⟨by rw[if_neg g];omega,?_⟩
  rw[decide_eq_true (by omega),decide_eq_false g]
  decide
theorem zG (p:Int):a8 p 9221120237041090561=9221120237041090561:=by
 unfold a8
 rw[if_pos (.inr jj)]
theorem Au {p q:Int} (hp:nn p) (hq:nn q):nn (dl p q)∧nn (fT p q)∧(dl p q=p∧fT p q=q∨dl p q=q∧fT p q=p)∧rg (fT p q)<=rg (dl p q):=by
 unfold dl fT
 by_cases h:rg p<rg q
 ·rw[if_pos h,if_pos h];exact⟨hq,hp,.inr ⟨rfl,rfl⟩,by omega⟩
 ·rw[if_neg h,if_neg h];exact⟨hp,hq,.inl ⟨rfl,rfl⟩,by omega⟩
theorem mB {p q:Int} (hp:nn p) (hq:nn q) (h:rg (dl p q)=9218868437227405312) (hno:¬ (rg p=9218868437227405312∧rg q=9218868437227405312∧decide (p<0)≠decide (q<0))) :
  bt p q=dl p q∧c6 (bt p q) (cK p q)=dl p q∧c7 (bt p q) (cK p q)=dl p q:=by
 obtain⟨nx,ny,hxy,_⟩:=Au hp hq
 have hno':¬ (rg (fT p q)=9218868437227405312∧decide (dl p q<0)≠decide (fT p q<0)):=by
  rintro⟨a,b⟩
  rcases hxy with⟨e1,e2⟩|⟨e1,e2⟩
  ·rw[e1] at h b;rw[e2] at a b;exact hno ⟨h,a,b⟩
  ·rw[e1] at h b;rw[e2] at a b;exact hno ⟨a,h,fun c=>b c.symm⟩
 have e1:bt p q=dl p q:=by
  unfold bt a8
  rw[if_neg (by rintro(c|c);exact nx.2 c;exact ny.2 c),if_pos h,if_neg hno']
 have e2:cK p q=9221120237041090561:=by
  unfold cK
  rw[e1]
  obtain⟨g1,g2⟩:=kV nx
  obtain⟨n1,_⟩:=cu nx
  have:a8 (dl p q) (neg (dl p q))=9221120237041090561:=by
   unfold a8
   rw[if_neg (by rintro(c|c);exact nx.2 c;exact n1.2 c),if_pos h,if_pos ⟨by rw[g1];exact h,fun c=>g2 c.symm⟩]
  rw[this,uf jj]
  exact zG _
 have l1:bI 9221120237041090561 0=false:=by decide
 have l2:bI 0 9221120237041090561=false:=by decide
 rw[e1,e2]
 unfold c6 c7
 rw[l1,l2]
 exact⟨rfl,rfl,rfl⟩
theorem BJ {p q:Int} (hp:nn p) (hq:nn q) (pp:¬ rg p=9218868437227405312) (pq:¬ rg q=9218868437227405312) (hn:nn (bt p q)) (h:rg (bt p q)=9218868437227405312) :
  (0<aw (bt p q)->c6 (bt p q) (cK p q)=c9 (bt p q)∧c7 (bt p q) (cK p q)=bt p q)∧(aw (bt p q)<0->c6 (bt p q) (cK p q)=bt p q∧c7 (bt p q) (cK p q)=next (bt p q)):=by
 obtain⟨nx,ny,hxy,_⟩:=Au hp hq
 have fx:¬ rg (dl p q)=9218868437227405312:=by rcases hxy with⟨e1,_⟩|⟨e1,_⟩<;>rw[e1]<;>assumption
 have fy:¬ rg (fT p q)=9218868437227405312:=by rcases hxy with⟨_,e1⟩|⟨_,e1⟩<;>rw[e1]<;>assumption
 obtain⟨n1,_⟩:=cu nx
 obtain⟨m1,k1⟩:=cu hn
 have e1:a8 (bt p q) (neg (dl p q))=bt p q:=by
  unfold a8
  rw[if_neg (by rintro(c|c);exact hn.2 c;exact n1.2 c),if_pos h,if_neg (by rintro⟨c,_⟩;rw[(kV nx).1] at c;exact fx c)]
 have e2:cK p q=neg (bt p q):=by
  unfold cK
  rw[e1]
  unfold a8
  rw[if_neg (by rintro(c|c);exact ny.2 c;exact m1.2 c),if_neg fy,if_pos (by rw[(kV hn).1];exact h)]
 have c0:¬ aE 0=4:=by decide
 have k0:aw 0=0:=by decide
 have l1:bI (cK p q) 0=decide (0<aw (bt p q)):=by
  rw[e2];unfold bI
  simp only[m1.2,c0,k0,k1,decide_false,Bool.not_false,Bool.true_and]
  exact decide_eq_decide.2 (by omega)
 have l2:bI 0 (cK p q)=decide (aw (bt p q)<0):=by
  rw[e2];unfold bI
  simp only[m1.2,c0,k0,k1,decide_false,Bool.not_false,Bool.true_and]
  exact decide_eq_decide.2 (by omega)
 unfold c6 c7
 rw[l1,l2]
 refine⟨fun g=>?_,fun g=>?_⟩
 ·rw[decide_eq_true g];exact⟨rfl,rfl⟩
 ·rw[decide_eq_false (by omega),decide_eq_true g];exact⟨rfl,rfl⟩
def cz (p q:Int):Int:=if rg p=0∨rg q=0 then 0 else if rg p=9218868437227405312∨rg q=9218868437227405312 then ay (bg p q) 9218868437227405312 else df 1 (b9 p q)
def cQ (p q:Int):Int:=if rg p=0∨rg q=0 then 0 else if rg p=9218868437227405312∨rg q=9218868437227405312 then ay (bg p q) 9218868437227405312 else df 2 (b9 p q)
theorem fd {p:Int} (h:nn p):0<=rg p∧rg p<=9218868437227405312:=by
 have:=(FW.pat h.2 h.1).of h.2
 exact this.2.2
theorem cX {p:Int} (h:nn p) (hf:rg p≠9218868437227405312):aC p=true:=(bp h.1).2 (by have:=fd h;omega)
theorem um {p:Int} (h:au p) (hp:aC p=true) (h0:rg p≠0):aF p≠0:=fun e=>by
 have hv:=dJ h hp
 have hi:iV p=0:=by
  rcases Int.mul_eq_zero.1 (hv.symm.trans e) with q|q
  ·exact q
  ·have:=bT (-1074);omega
 have h5:=(fY h).1
 unfold iV at hi
 have hV:(V Ieee.double (rg p).toNat:Int)=0:=by
  cases hd:decide (p<0)<;>rw[hd] at hi
  ·exact hi
  ·have:-(V Ieee.double (rg p).toNat:Int)=0:=hi
   omega
 rcases Nat.eq_zero_or_pos (rg p).toNat with q|q
 ·omega
 ·have:=jR Ieee.double q
  omega
theorem oR {p q:Int} (rp:au p) (rq:au q) (hp:aC p=true) (hq:aC q=true) (p0:rg p≠0) (q0:rg q≠0):b9 p q≠0:=fun e=>by
 obtain⟨_,_,_,_,hC⟩:=jn rp rq hp hq
 rw[e,Int.zero_mul] at hC
 rcases Int.mul_eq_zero.1 hC.symm with h|h
 ·exact um rp hp p0 h
 ·exact um rq hq q0 h
theorem qp {p q:Int} (rp:au p) (rq:au q) (hp:aC p=true) (hq:aC q=true) (h:b9 p q≠0):aS p q=br (b9 p q):=by
 have h1:=(bp rp).1 hp
 have h2:=(bp rq).1 hq
 have hz:eE p q≠0:=fun e=>h (by unfold b9;rw[e];cases bg p q<;>rfl)
 have n4:¬ (aE p=4∨aE q=4):=fun k=>by rcases k with k|k;exact cN rp hp k;exact cN rq hq k
 have i2:¬ (rg p=9218868437227405312∨rg q=9218868437227405312):=by omega
 unfold aS
 rw[if_neg n4,if_neg i2,if_neg hz]
 rfl
theorem zH {l:Int} (h:aE l≠4):(bI l 0=true↔aw l<0)∧(bI 0 l=true↔0<aw l):=by
 have c0:¬ aE 0=4:=by decide
 have k0:aw 0=0:=by decide
 unfold bI
 rw[k0]
 simp[h,c0]
theorem DO {p q:Int} (rp:au p) (rq:au q) (hp:aC p=true) (hq:aC q=true) (p0:rg p≠0) (q0:rg q≠0) (hd:283726776524341248<=rg (aS p q)) :
  c6 (aS p q) (dU p q (neg (aS p q)))=df 1 (b9 p q)∧c7 (aS p q) (dU p q (neg (aS p q)))=df 2 (b9 p q):=by
 have hV:=oR rp rq hp hq p0 q0
 have hN:=qp rp rq hp hq hV
 rw[hN] at hd ⊢
 obtain⟨rn,cn⟩:=dZ hV
 cases hf:aC (br (b9 p q))
 ·have hi:=uk hV hf
  have hm:∀ r,au r->rg r=9218868437227405312->aE r≠4->dU p q r=r:=fun r hr h1 h4=>by
   have h5:=(bp rp).1 hp
   have h6:=(bp rq).1 hq
   have n4:¬ (aE p=4∨aE q=4∨aE r=4):=fun k=>by rcases k with k|k|k;exact cN rp hp k;exact cN rq hq k;exact h4 k
   have i2:¬ (rg p=9218868437227405312∨rg q=9218868437227405312):=by omega
   unfold dU
   rw[if_neg n4,if_neg i2,if_pos h1]
  rcases Int.lt_or_gt_of_ne hV with hn|hn
  ·obtain⟨e0,e1,e2⟩:=hi.2 hn
   rw[e0,e1,e2,show neg (-4503599627370496)=9218868437227405312 by decide,hm _ (by unfold au;omega) (by decide) (by decide)]
   exact⟨by decide,by decide⟩
  ·obtain⟨e0,e1,e2⟩:=hi.1 hn
   rw[e0,e1,e2,show neg 9218868437227405312=-4503599627370496 by decide,hm _ (by unfold au;omega) (by decide) (by decide)]
   exact⟨by decide,by decide⟩
 ·obtain⟨d1,d2,d3⟩:=uj hV hf
  have e0:=zj hV
  have hr:=(bp rn).1 hf
  obtain⟨S,hS,hF,hb⟩:=xr (way:=0) rp rq hp hq hV (by rw[e0];exact hd) (.inr ⟨rfl,by rw[e0];exact hr⟩)
  rw[e0] at hS
  generalize br (b9 p q)=n at *
  obtain⟨rm,pm,im⟩:=kD rn hf
  have hfS:j5 p q (neg n)=b9 p q-aF n:=by
   rw[BD,zz rn hf]
   omega
  by_cases h0:b9 p q-aF n=0
  ·have hl:dU p q (neg n)=ay (bg p q&&decide (neg n<0)) 0:=zv rp rq rm hp hq pm (hfS.trans h0)
   have h1:bI (dU p q (neg n)) 0=false:=by rw[hl];cases (bg p q&&decide (neg n<0))<;>decide
   have h2:bI 0 (dU p q (neg n))=false:=by rw[hl];cases (bg p q&&decide (neg n<0))<;>decide
   unfold c6 c7
   rw[h1,h2]
   have:=d3 (by omega)
   exact⟨this.1,this.2⟩
  ·have hS0:S≠0:=fun e=>h0 (by rw[hS,e,Int.zero_mul])
   obtain⟨g1,g2,g3⟩:=vw hF hS0 hb
   have hl:dU p q (neg n)=br (S*pw (-1074)):=by
    have h5:=(bp rp).1 hp
    have h6:=(bp rq).1 hq
    have h7:=(bp rm).1 pm
    have n4:¬ (aE p=4∨aE q=4∨aE (neg n)=4):=fun k=>by rcases k with k|k|k;exact cN rp hp k;exact cN rq hq k;exact cN rm pm k
    have i2:¬ (rg p=9218868437227405312∨rg q=9218868437227405312):=by omega
    have i3:¬ rg (neg n)=9218868437227405312:=by omega
    unfold dU
    rw[if_neg n4,if_neg i2,if_neg i3,hfS,if_neg h0,hS]
   rw[hl]
   generalize br (S*pw (-1074))=l at *
   obtain⟨k1,k2⟩:=sM g1
   rw[g3] at k1 k2
   obtain⟨l1,l2⟩:=zH (cN g1 g2)
   have hq2:=bT (-1074)
   unfold c6 c7
   rcases Int.lt_or_gt_of_ne hS0 with hn|hn
   ·have hD:b9 p q-aF n<0:=by rw[hS];exact Int.mul_neg_of_neg_of_pos hn hq2
    rw[l1.2 (k1.1 hn)]
    clear hS hq2
    have:=d1 (by omega)
    exact⟨this.1,this.2⟩
   ·have hD:0<b9 p q-aF n:=by rw[hS];exact Int.mul_pos hn hq2
    have hno:bI l 0=false:=by
     cases h:bI l 0
     ·rfl
     ·have:=k1.2 (l1.1 h);omega
    rw[hno,l2.2 (k2.1 hn)]
    clear hS hq2
    have:=d2 (by omega)
    exact⟨this.1,this.2⟩
theorem BK {p q:Int} (hp:nn p) (hq:nn q) (p0:rg p≠0) (q0:rg q≠0) (hi:rg p=9218868437227405312∨rg q=9218868437227405312) :
  aS p q=ay (bg p q) 9218868437227405312∧dU p q (neg (aS p q))=9221120237041090561:=by
 have n4:¬ (aE p=4∨aE q=4):=fun k=>by rcases k with k|k;exact hp.2 k;exact hq.2 k
 have i2:¬ (rg p=0∨rg q=0):=by omega
 have e:aS p q=ay (bg p q) 9218868437227405312:=by
  unfold aS
  rw[if_neg n4,if_pos hi,if_neg i2]
 refine⟨e,?_⟩
 rw[e]
 have hneg:neg (ay (bg p q) 9218868437227405312)=ay (!bg p q) 9218868437227405312:=by cases bg p q<;>decide
 rw[hneg]
 have c4:¬ aE (ay (!bg p q) 9218868437227405312)=4:=by cases bg p q<;>decide
 have r4:rg (ay (!bg p q) 9218868437227405312)=9218868437227405312:=by cases bg p q<;>decide
 have s4:decide (ay (!bg p q) 9218868437227405312<0)=!bg p q:=by cases bg p q<;>decide
 have n5:¬ (aE p=4∨aE q=4∨aE (ay (!bg p q) 9218868437227405312)=4):=fun k=>by rcases k with k|k|k;exact hp.2 k;exact hq.2 k;exact c4 k
 have n6:rg (ay (!bg p q) 9218868437227405312)=9218868437227405312∧¬ bg p q=decide (ay (!bg p q) 9218868437227405312<0):=⟨r4,by rw[s4];cases bg p q<;>decide⟩
 unfold dU
 rw[if_neg n5,if_pos hi,if_neg i2,if_pos n6]
def eR (V:Int):Int:=if V=0 then 0 else az (df 1 V)
def eS (V:Int):Int:=if V=0 then 0 else az (df 2 V)
theorem oS {g:Bool} {r:Int} (h0:0<=r) (h1:r<=9218868437227405312):az (ay g r)=ay (g&&decide (0<r)) r:=by
 obtain⟨a,b,c⟩:=dV (ng:=g) h0 h1
 obtain⟨d1,d2⟩:=ew a
 rw[b] at d1 d2
 unfold az
 have n4:¬ aE (ay g r)=4:=fun q=>by have:=d1.1 q;omega
 rw[if_neg n4]
 by_cases hr:r=0
 ·rw[if_pos (d2.2 hr),hr]
  cases g<;>decide
 ·rw[if_neg (fun q=>hr (d2.1 q)),decide_eq_true (show 0<r by omega),Bool.and_true]
theorem oT {V:Int} (h0:V≠0):∃ (g:Bool) (A:Int) (r0:Nat) (left:Int),V=sg g A∧0<A∧cZ A r0 left∧eR V=ay (g&&decide (0<aX 1 g r0 left)) (aX 1 g r0 left)∧eS V=ay (g&&decide (0<aX 2 g r0 left)) (aX 2 g r0 left):=by
 obtain⟨g,A,r0,left,e,hA,hR,_,e1,e2⟩:=mz h0
 have r1:=cm 1 g r0 left
 have r2:=cm 2 g r0 left
 refine⟨g,A,r0,left,e,hA,hR,?_,?_⟩
 ·unfold eR;rw[if_neg h0,e1,oS r1.1 r1.2]
 ·unfold eS;rw[if_neg h0,e2,oS r2.1 r2.2]
theorem lM {V:Int} {ng:Bool} {f:Int->Int × Bool} (h:j3 V ng f):(f 1).1=eR V∧(f 2).1=eS V:=by
 obtain⟨A,r0,left,e,hng,hR,hf⟩:=h
 rw[hf 1,hf 2]
 by_cases h0:V=0
 ·have hA:A=0:=by
   rw[h0] at e
   cases ng
   ·exact e.symm
   ·have:(0:Int)=-A:=e
    omega
  have hn:ng=false:=by
   cases ng
   ·rfl
   ·have:=hng rfl;omega
  subst hn
  rw[hA] at hR
  obtain⟨u1,u2⟩:=hR.unique ml
  subst u1 u2
  unfold eR eS
  rw[if_pos h0,if_pos h0]
  have t1:=nV 1
  have t2:=nV 2
  refine⟨?_,?_⟩
  ·simp only[t1];rfl
  ·simp only[t2];rfl
 ·obtain⟨g,B,s0,l,e',hB,hR',c1,c2⟩:=oT h0
  have hA:0<A:=by
   have hA0:0<=A:=by
    have:=hR.lo
    have hv:0<=vS r0:=Int.mul_nonneg (by omega) (Int.le_of_lt (bT _))
    omega
   have:A≠0:=fun q=>h0 (by rw[e,q];cases ng<;>rfl)
   omega
  have s1:decide (V<0)=ng:=by rw[e];exact mT hA
  have s2:decide (V<0)=g:=by rw[e'];exact mT hB
  have hg:ng=g:=s1.symm.trans s2
  subst hg
  have hAB:=iG (e.symm.trans e')
  subst hAB
  obtain⟨u1,u2⟩:=hR.unique hR'
  subst u1 u2
  exact⟨c1.symm,c2.symm⟩
theorem DP {p q:Int} (rp:au p) (rq:au q) (hp:aC p=true) (hq:aC q=true):az (cz p q)=eR (b9 p q)∧az (cQ p q)=eS (b9 p q):=by
 have h1:=(bp rp).1 hp
 have h2:=(bp rq).1 hq
 have i2:¬ (rg p=9218868437227405312∨rg q=9218868437227405312):=by omega
 by_cases h0:rg p=0∨rg q=0
 ·have hz:b9 p q=0:=by
   obtain⟨_,_,_,_,hC⟩:=jn rp rq hp hq
   have:aF p*aF q=0:=by
    rcases h0 with h|h
    ·have:aF p=0:=by rw[dJ rp hp];unfold iV;rw[h];cases decide (p<0)<;>exact Int.zero_mul _
     rw[this,Int.zero_mul]
    ·have:aF q=0:=by rw[dJ rq hq];unfold iV;rw[h];cases decide (q<0)<;>exact Int.zero_mul _
     rw[this,Int.mul_zero]
   rw[this] at hC
   rcases Int.mul_eq_zero.1 hC with k|k
   ·exact k
   ·exact absurd k (Int.ne_of_gt (aJ 4194304))
  unfold cz cQ eR eS
  rw[if_pos h0,if_pos h0,if_pos hz,if_pos hz]
  exact⟨by decide,by decide⟩
 ·have hz:=oR rp rq hp hq (fun k=>h0 (.inl k)) (fun k=>h0 (.inr k))
  unfold cz cQ eR eS
  rw[if_neg h0,if_neg h0,if_neg i2,if_neg i2,if_neg hz,if_neg hz]
  exact⟨rfl,rfl⟩
theorem zI {p q:Int} (rp:au p) (rq:au q) (hp:aC p=true) (hq:aC q=true):bt p q=if aF p+aF q=0 then ay (decide (dl p q<0)&&decide (fT p q<0)) 0 else br (aF p+aF q):=by
 unfold bt dl fT
 by_cases h:rg p<rg q
 ·rw[if_pos h,if_pos h,sK rq rp hq hp,Int.add_comm]
 ·rw[if_neg h,if_neg h,sK rp rq hp hq]
theorem Fh {p q:Int} (rp:au p) (rq:au q) (hp:aC p=true) (hq:aC q=true):nn (bt p q)∧az (c6 (bt p q) (cK p q))=eR (aF p+aF q)∧az (c7 (bt p q) (cK p q))=eS (aF p+aF q):=by
 have hN:=zI rp rq hp hq
 have hVi:aF p+aF q=(iV p+iV q)*pw (-1074):=by rw[dJ rp hp,dJ rq hq,Int.add_mul]
 have hq0:=bT (-1074)
 by_cases h0:aF p+aF q=0
 ·rw[if_pos h0] at hN
  have hnn:nn (bt p q):=by rw[hN];exact iu (by decide) (by decide)
  have hz:iV p+iV q=0:=by
   rcases Int.mul_eq_zero.1 (hVi.symm.trans h0) with k|k
   ·exact k
   ·omega
  have hpok:aC (bt p q)=true:=by rw[hN];cases (decide (dl p q<0)&&decide (fT p q<0))<;>decide
  have hi0:iV (bt p q)=0:=by rw[hN];cases (decide (dl p q<0)&&decide (fT p q<0))<;>decide
  obtain⟨_,_,hc⟩:=xz rp rq hp hq hpok hnn
  rw[hi0,hz] at hc
  refine⟨hnn,?_⟩
  rcases hc with⟨_,b1,b2⟩|⟨k,_⟩|⟨k,_⟩
  ·rw[b1,b2]
   unfold eR eS
   rw[if_pos h0,if_pos h0,hN]
   exact⟨by cases (decide (dl p q<0)&&decide (fT p q<0))<;>decide,by cases (decide (dl p q<0)&&decide (fT p q<0))<;>decide⟩
  ·omega
  ·omega
 ·rw[if_neg h0] at hN
  obtain⟨g1,g2⟩:=dZ h0
  have hnn:nn (bt p q):=by rw[hN];exact⟨g1,g2⟩
  refine⟨hnn,?_⟩
  unfold eR eS
  rw[if_neg h0,if_neg h0]
  cases hf:aC (br (aF p+aF q))
  ·have hi:=uk h0 hf
   have hr:rg (bt p q)=9218868437227405312:=by
    rw[hN]
    have k1:=fd (show nn (br (aF p+aF q)) from⟨g1,g2⟩)
    rcases Int.lt_or_le (rg (br (aF p+aF q))) 9218868437227405312 with k|k
    ·rw[(bp g1).2 k] at hf;cases hf
    ·omega
   have h1:=(bp rp).1 hp
   have h2:=(bp rq).1 hq
   obtain⟨o1,o2⟩:=BJ ⟨rp,cN rp hp⟩ ⟨rq,cN rq hq⟩ (by omega) (by omega) hnn hr
   rcases Int.lt_or_gt_of_ne h0 with k|k
   ·obtain⟨e0,e1,e2⟩:=hi.2 k
    obtain⟨b1,b2⟩:=o2 (by rw[hN,e0];decide)
    rw[b1,b2,hN,e0,e1,e2]
    exact⟨by decide,by decide⟩
   ·obtain⟨e0,e1,e2⟩:=hi.1 k
    obtain⟨b1,b2⟩:=o1 (by rw[hN,e0];decide)
    rw[b1,b2,hN,e0,e1,e2]
    exact⟨by decide,by decide⟩
  ·obtain⟨d1,d2,d3⟩:=uj h0 hf
   rw[<- hN] at d1 d2 d3 hf
   obtain⟨_,_,hc⟩:=xz rp rq hp hq hf hnn
   have hvn:=dJ hnn.1 hf
   rw[hvn,hVi] at d1 d2 d3
   rw[hVi]
   generalize pw (-1074)=w at *
   rcases hc with⟨k,b1,b2⟩|⟨k,b1,b2⟩|⟨k,b1,b2⟩
   ·rw[b1,b2]
    obtain⟨f1,f2⟩:=d3 (by rw[k])
    rw[<- f1,<- f2]
    exact⟨rfl,rfl⟩
   ·rw[b1,b2]
    obtain⟨f1,f2⟩:=d1 (Int.mul_lt_mul_of_pos_right k hq0)
    rw[<- f1,<- f2]
    exact⟨rfl,rfl⟩
   ·rw[b1,b2]
    obtain⟨f1,f2⟩:=d2 (Int.mul_lt_mul_of_pos_right k hq0)
    rw[<- f1,<- f2]
    exact⟨rfl,rfl⟩
theorem BL (r:Nat):cZ (vS r) r 0:=by
 have h:=iE (show r<r+1 by omega)
 refine⟨Int.le_refl _,h,⟨fun _=>rfl,fun _=>rfl⟩,⟨fun q=>by omega,fun q=>by omega⟩,⟨fun q=>by omega,fun q=>by omega⟩,⟨fun q=>by omega,fun q=>by omega⟩⟩
theorem xA (way:Int) (g:Bool) {r:Nat} (h:(r:Int)<9218868437227405312):aX way g r 0=(r:Int):=by
 rw[gD way h,(oN (decide (r % 2=1)) 0).2.2.2.2 way g rfl]
 simp
theorem FV {g:Bool} {r:Nat} (h:(r:Int)<9218868437227405312) (h0:0<r):eR (sg g (vS r))=ay g (r:Int)∧eS (sg g (vS r))=ay g (r:Int):=by
 have hp:0<vS r:=by
  have:=iE h0
  have hz:vS 0=0:=by unfold vS;rw[kO];exact Int.zero_mul _
  omega
 have hn:sg g (vS r)≠0:=fun q=>by
  generalize vS r=y at *
  cases g
  ·rw[lJ] at q;omega
  ·rw[lI] at q;omega
 obtain⟨g',A,r0,left,e,hA,hR,c1,c2⟩:=oT hn
 have s1:decide (sg g (vS r)<0)=g:=mT hp
 have s2:decide (sg g (vS r)<0)=g':=by rw[e];exact mT hA
 have hg:g=g':=s1.symm.trans s2
 subst hg
 have hAB:=iG e
 rw[<- hAB] at hR
 obtain⟨u1,u2⟩:=hR.unique (BL r)
 subst u1 u2
 rw[c1,c2,xA 1 g h,xA 2 g h,decide_eq_true (show(0:Int)<(r0:Int) by omega),Bool.and_true]
 exact⟨rfl,rfl⟩
end Go.Proofs.YtkkpppgfoilgmaaGreatDoor
namespace Go.Proofs.YtkkpppgfoilgmaaGreatDoor
open Go Go.Proofs.Tryz Go.RowKit Go.Proofs.YtkkpppgfoilgmaaGreatDoor.M Ieee
theorem BM (x y z:Nat):∃ a b,Extern.MathFMA.fma #[.float .f64 x,.float .f64 y,.float .f64 z]=Option.casesOn (motive:=fun _=>Sem Value) (FloatKind.f64.format.fma x y z) (do pure (.float .f64 (<- choose (.nanBits .f64 a b)))) (fun r=>pure (.float .f64 r)):=by
  cases h1:Extern.MathFMA.isNaN x with
  | true=>exact ⟨x,y,by
      have:Extern.MathFMA.fma #[.float .f64 x,.float .f64 y,.float .f64 z]=Option.casesOn (motive:=fun _=>Sem Value) (FloatKind.f64.format.fma x y z) (match (if Extern.MathFMA.isNaN x then (x,y) else if Extern.MathFMA.isNaN y then (y,z) else (z,z)) with|(a,b)=>do pure (.float .f64 (<- choose (.nanBits .f64 a b)))) (fun r=>pure (.float .f64 r)):=by kernel_rfl
      rw [this,h1]; rfl⟩
  | false=>
    cases h2:Extern.MathFMA.isNaN y with
    | true=>exact ⟨y,z,by
        have:Extern.MathFMA.fma #[.float .f64 x,.float .f64 y,.float .f64 z]=Option.casesOn (motive:=fun _=>Sem Value) (FloatKind.f64.format.fma x y z) (match (if Extern.MathFMA.isNaN x then (x,y) else if Extern.MathFMA.isNaN y then (y,z) else (z,z)) with|(a,b)=>do pure (.float .f64 (<- choose (.nanBits .f64 a b)))) (fun r=>pure (.float .f64 r)):=by kernel_rfl
        rw [this,h1,h2]; rfl⟩
    | false=>exact ⟨z,z,by
        have:Extern.MathFMA.fma #[.float .f64 x,.float .f64 y,.float .f64 z]=Option.casesOn (motive:=fun _=>Sem Value) (FloatKind.f64.format.fma x y z) (match (if Extern.MathFMA.isNaN x then (x,y) else if Extern.MathFMA.isNaN y then (y,z) else (z,z)) with|(a,b)=>do pure (.float .f64 (<- choose (.nanBits .f64 a b)))) (fun r=>pure (.float .f64 r)):=by kernel_rfl
        rw [this,h1,h2]; rfl⟩
theorem zJ {p q r:Int} {x y z:Nat} (hx:FW p x) (hy:FW q y) (hz:FW r z) (w:World) :
  ∃ t w',(callFunc 86 #[.float .f64 x,.float .f64 y,.float .f64 z]).run prog w=.ok (.value (.float .f64 t)) w'∧FW (dU p q r) t∧(w'=w∨w'=w.drew):=by
 rw[run_callFunc_extern func86 (by kernel_rfl) (by kernel_rfl) (by kernel_rfl) (e:=Extern.MathFMA.fma) (by kernel_rfl)]
 obtain⟨a,b,hab⟩:=BM x y z
 rw[hab]
 rcases DC hx hy hz with⟨t,e1,e2⟩|⟨e1,e2⟩
 ·refine⟨t,w,?_,e2,.inl rfl⟩
  have e1':FloatKind.f64.format.fma x y z=some t:=e1
  rw[e1']
  simp
 ·have e1':FloatKind.f64.format.fma x y z=none:=e1
  rw[e1']
  refine⟨(Question.nanBits .f64 a b).cut (w.tape w.drawn (.nanBits .f64 a b)),w.drew,?_,?_,.inr rfl⟩
  ·simp
   exact fun hf=>absurd (show false=true from hf) (by decide)
  ·rw[e2]
   exact FW.nan (ue a b (w.tape w.drawn (.nanBits .f64 a b)))
end Go.Proofs.YtkkpppgfoilgmaaGreatDoor
namespace Go.Proofs.YtkkpppgfoilgmaaGreatDoor
open Go Go.Proofs.Tryz Go.RowKit Go.Proofs.YtkkpppgfoilgmaaGreatDoor.M
def j7 (w:World) (g N k:Nat) (q:Nat->aI):Prop :=
 ∃ cur:Array Value,w.heap[g]?=some (.cells cur 26 (0,0))∧cur.size=N*3∧∀ i,i<k->(cur[i*3]?=some (.bool (q i).ng)∧cur[i*3+1]?=some (.slice (q i).ao (q i).n (q i).cap)∧cur[i*3+2]?=some (.int .i64 (q i).e))∧aL w (q i).ao (q i).n (q i).cap (q i).d
theorem zK:∃ i,prog.info? 26=some i∧i.zero=some (.agg #[.bool false,.slice none 0 0,.int .i64 0])∧i.size=3∧i.bytes=40:=by
 have h:(prog.info? 26).map (fun i=>(i.zero,i.size,i.bytes))=some (some (.agg #[.bool false,.slice none 0 0,.int .i64 0]),3,40):=by kernel_rfl
 obtain⟨i,hi,hzz⟩:=Option.map_eq_some_iff.1 h
 simp only[Prod.mk.injEq] at hzz
 exact⟨i,hi,hzz⟩
theorem qq (n:Nat) (hn:n<=100000) (w:World) :
  (Instr.makeSlice 121 (.int .i64 (n:Int)) (.int .i64 (n:Int))).run prog w=.ok (.slice (some ⟨w.heap.size,0,none⟩) n n) (w.alloc (.cells (madeCells #[.bool false,.slice none 0 0,.int .i64 0] (n*3)) 26)):=by
 obtain⟨i,hi,hz,hs,hb⟩:=zK
 have:=run_make (P:=prog) w 121 26 i _ underlying121 hi hz .i64 .i64 n n (by omega) (Int.le_refl _) (by rw[hb];omega) (by omega)
 simp only[Int.toNat_natCast,hs] at this
 exact this
def n7 (q:Nat->aI) (k:Nat) (x:aI):Nat->aI:=fun j=>if j=k then x else q j
theorem jq (q:Nat->aI) (k:Nat) (x:aI):n7 q k x k=x:=by simp[n7]
theorem iI (q:Nat->aI) {k j:Nat} (x:aI) (h:j≠k):n7 q k x j=q j:=by simp[n7,h]
theorem Gl (W:World) (g o0 o1 o2:Nat) (x y z:Value):Wr g W (((W.setCell ⟨g,o0,none⟩ x).setCell ⟨g,o1,none⟩ y).setCell ⟨g,o2,none⟩ z):=(((Wr.refl g W).setCell o0 x).setCell o1 y).setCell o2 z
theorem aL.wrN {w w':World} {g:Nat} {ao:Option Addr} {n cap:Nat} {d:Nat->Int} (h:aL w ao n cap d) (hw:Wr g w w') {cur:Array Value} {z:Nat × Nat} (hg:w.heap[g]?=some (.cells cur 26 z)) (ht:∀ b off,ao=some ⟨b,off,none⟩->0<n->b≠g):aL w' ao n cap d :=
  ⟨h.le,h.max,h.nl,fun hn=>by
    obtain⟨b,off,rfl,hlt,hc⟩:=h.spot hn
    exact ⟨b,off,rfl,Nat.lt_of_lt_of_le hlt hw.size,fun i hi=>(hw.cell (p:=⟨b,off+i,none⟩) hlt (ht b off rfl hn)).trans (hc i hi)⟩⟩
theorem cd.open {w w':World} {V:Int} {so:Option Addr} {sn sc:Nat} (h:cd w w' V (.slice so sn sc)):∃ d,aL w' so sn sc d∧bV d sn∧val d sn=V∧∀ b off,so=some ⟨b,off,none⟩->w.heap.size<=b:=by
 obtain⟨t,d,hO,hN,hV,_⟩:=h
 have hge:=ef hO
 obtain⟨so',sc',e,hR⟩:=hO.row
 simp only[Value.slice.injEq] at e
 obtain⟨rfl,rfl,rfl⟩:=e
 exact⟨d,hR,hN,hV,fun b off hb=>hge b (by rw[hb];rfl)⟩
theorem kE {w0 w:World} {g o0 o1 o2:Nat} (h:Below w0.heap.size w0 w) (hg:w0.heap.size<=g) (x y z:Value):Below w0.heap.size w0 (((w.setCell ⟨g,o0,none⟩ x).setCell ⟨g,o1,none⟩ y).setCell ⟨g,o2,none⟩ z):=((h.setCell (p:=⟨g,o0,none⟩) hg x).setCell (p:=⟨g,o1,none⟩) hg y).setCell (p:=⟨g,o2,none⟩) hg z
theorem zL {cur:Array Value} {k:Nat} {x y z:Value} (h:k*3+2<cur.size) (i:Nat) :
  let c:=((cur.setIfInBounds (k*3) x).setIfInBounds (k*3+1) y).setIfInBounds (k*3+2) z
  (i=k->c[i*3]?=some x∧c[i*3+1]?=some y∧c[i*3+2]?=some z)∧(i≠k->c[i*3]?=cur[i*3]?∧c[i*3+1]?=cur[i*3+1]?∧c[i*3+2]?=cur[i*3+2]?):=by
 intro c
 refine⟨fun e=>?_,fun e=>?_⟩
 ·subst e
  refine⟨?_,?_,?_⟩
  ·show(((cur.setIfInBounds (i*3) x).setIfInBounds (i*3+1) y).setIfInBounds (i*3+2) z)[i*3]?=some x
   rw[Array.getElem?_setIfInBounds_ne (by omega),Array.getElem?_setIfInBounds_ne (by omega),Array.getElem?_setIfInBounds_self_of_lt (by omega)]
  ·show(((cur.setIfInBounds (i*3) x).setIfInBounds (i*3+1) y).setIfInBounds (i*3+2) z)[i*3+1]?=some y
   rw[Array.getElem?_setIfInBounds_ne (by omega),Array.getElem?_setIfInBounds_self_of_lt (by simp;omega)]
  ·show(((cur.setIfInBounds (i*3) x).setIfInBounds (i*3+1) y).setIfInBounds (i*3+2) z)[i*3+2]?=some z
   rw[Array.getElem?_setIfInBounds_self_of_lt (by simp;omega)]
 ·refine⟨?_,?_,?_⟩
  all_goals
   show(((cur.setIfInBounds (k*3) x).setIfInBounds (k*3+1) y).setIfInBounds (k*3+2) z)[_]?=_
   rw[Array.getElem?_setIfInBounds_ne (by omega),Array.getElem?_setIfInBounds_ne (by omega),Array.getElem?_setIfInBounds_ne (by omega)]
theorem j7.step {wr w3:World} {g N k:Nat} {q:Nat->aI} (h:j7 wr g N k q) (hb:Below wr.heap.size wr w3) (x:aI) (hx:aL w3 x.ao x.n x.cap x.d) (hk:k<N) (hg:∀ i b' off,i<k->(q i).ao=some ⟨b',off,none⟩->0<(q i).n->g<b') (hg2:∀ b' off,x.ao=some ⟨b',off,none⟩->0<x.n->g<b') :
  j7 (((w3.setCell ⟨g,k*3,none⟩ (.bool x.ng)).setCell ⟨g,k*3+1,none⟩ (.slice x.ao x.n x.cap)).setCell ⟨g,k*3+2,none⟩ (.int .i64 x.e)) g N (k+1) (n7 q k x):=by
 obtain⟨cur,hcur,hsz,hc⟩:=h
 have q0:=(hb.block g (aGe hcur).1).trans hcur
 have q1:=iR (iR (iR q0 (k*3) (.bool x.ng)) (k*3+1) (.slice x.ao x.n x.cap)) (k*3+2) (.int .i64 x.e)
 have hw:=Gl w3 g (k*3) (k*3+1) (k*3+2) (.bool x.ng) (.slice x.ao x.n x.cap) (.int .i64 x.e)
 refine⟨_,q1,by simp[hsz],fun i hi=>?_⟩
 have hs:=zL (cur:=cur) (k:=k) (x:=.bool x.ng) (y:=.slice x.ao x.n x.cap) (z:=.int .i64 x.e) (by omega) i
 by_cases e:i=k
 ·subst e
  rw[jq]
  exact⟨hs.1 rfl,hx.wrN hw q0 fun b' off he hn=>by have:=hg2 b' off he hn;omega⟩
 ·rw[iI q x e]
  obtain⟨s0,s1,s2⟩:=hs.2 e
  obtain⟨⟨c0,c1,c2⟩,hR⟩:=hc i (by omega)
  refine⟨⟨s0.trans c0,s1.trans c1,s2.trans c2⟩,(hR.keeps hb).wrN hw q0 fun b' off he hn=>?_⟩
  have:=hg i b' off (by omega) he hn
  omega
theorem j7.nums {w:World} {g N:Nat} {q:Nat->aI} (h:j7 w g N N q) (hN:N<=100000):gf w (some ⟨g,0,none⟩) N N q:=by
 obtain⟨cur,hcur,hsz,hc⟩:=h
 refine⟨Nat.le_refl _,by omega,fun _=>⟨g,0,rfl,(aGe hcur).1,fun i hi=>?_⟩⟩
 obtain⟨⟨c0,c1,c2⟩,hR⟩:=hc i hi
 rw[Nat.zero_add]
 exact⟨aa hcur _ c0,aa hcur _ c1,aa hcur _ c2,hR⟩
theorem xB (F G:Nat) (oo:Option Addr) (n cap:Nat) (d V:Nat->Int) (w:World) (hR:aL w oo n cap d) (hn:n<=100000)
  (hEF:∀ (cap:Array Value) (w:World),(callFunc F cap).run prog w=.ok (.enter F cap) w)
  (C:∀ i,i<n->∀ W,Below w.heap.size w W->Calls prog F #[.int .i64 (d i)] W fun r w'=>∃ v,r=.returned (.tuple #[v,.int .i64 0])∧bv W w' (V i) v) :
  Calls prog 141 #[.agg #[.func (.func F) #[] #[],.func (.func G) #[] #[]],.slice oo n cap] w fun x w'=>∃ g q,x=.returned (.tuple #[.slice (some ⟨g,0,none⟩) n n,.bool true])∧w.heap.size<=g∧gf w' (some ⟨g,0,none⟩) n n q∧Below w.heap.size w w'∧∀ i,i<n->bV (q i).d (q i).n∧Dy (V i) (q i).ng (val (q i).d (q i).n) (q i).e:=by
 have hle:=hR.le
 have hma:=hR.max
 have hmake:=qq n hn
 have hst:∀ (p:Addr) (F:Nat) (m:Mode) (w:World),(store p (.func (.func F) #[] #[]) m).run prog w=stored prog w p (.func (.func F) #[] #[]) m:=fun p F m w=>run_store _ w p _ m rfl
 have ha1:=ae w (.cells #[.func (.func F) #[] #[],.func (.func G) #[] #[]] 157)
 have q1:=heap_alloc_new w (.cells #[.func (.func F) #[] #[],.func (.func G) #[] #[]] 157)
 have k0:=aa q1 0 rfl
 have k1:=aa q1 1 rfl
 go_enter func141,ntmps141
 go_wp2_with fail
 have hb0:=ar w (.cells #[.func (.func F) #[] #[],.func (.func G) #[] #[]] 157) (.cells (madeCells #[.bool false,.slice none 0 0,.int .i64 0] (n*3)) 26)
 have g1:=aR w (.cells #[.func (.func F) #[] #[],.func (.func G) #[] #[]] 157) (.cells (madeCells #[.bool false,.slice none 0 0,.int .i64 0] (n*3)) 26)
 have g0:=aU w (.cells #[.func (.func F) #[] #[],.func (.func G) #[] #[]] 157) (.cells (madeCells #[.bool false,.slice none 0 0,.int .i64 0] (n*3)) 26)
 have HB0:Hid (j7 ((w.alloc (.cells #[.func (.func F) #[] #[],.func (.func G) #[] #[]] 157)).alloc (.cells (madeCells #[.bool false,.slice none 0 0,.int .i64 0] (n*3)) 26)) (w.heap.size+1) n 0 (fun _=>⟨false,none,0,0,fun _=>0,0⟩)):=⟨_,g1,by rw[size_madeCells],fun i hi=>by omega⟩
 clear g1 hmake q1 k0 k1 ha1
 generalize (w.alloc (.cells #[.func (.func F) #[] #[],.func (.func G) #[] #[]] 157)).alloc (.cells (madeCells #[.bool false,.slice none 0 0,.int .i64 0] (n*3)) 26)=wx at hb0 HB0 g0 ⊢
 go_loopw [16] (fun iv wr=>∃ (k:Nat) (q:Nat->aI),k<=n∧iv=.int .i64 k∧Hid (j7 wr (w.heap.size+1) n k q)∧Hid (∀ i,i<k->bV (q i).d (q i).n∧Dy (V i) (q i).ng (val (q i).d (q i).n) (q i).e)∧Hid (∀ i b' off,i<k->(q i).ao=some ⟨b',off,none⟩->0<(q i).n->w.heap.size+1<b')∧Hid (wr.heap[w.heap.size]?=some (.cells #[.func (.func F) #[] #[],.func (.func G) #[] #[]] 157 (0,0)))∧Below w.heap.size w wr) (fun iv _=>n-(intOf iv).toNat)
 case atStart=>exact⟨0,_,Nat.zero_le _,rfl,HB0,fun i hi=>by omega,fun i b' off hi=>by omega,g0,hb0⟩
 case round=>
  obtain⟨k,q,hk,rfl,HQ,HF,HG,HK,hbw⟩:=hrel
  clear HB0 hb0 g0
  by_cases hlt:k<n
  ·obtain⟨ba,oa,rfl,hba,hca⟩:=hR.spot (by omega)
   have c0:=(hbw.cell (p:=⟨ba,oa+k,none⟩) hba).trans (hca k hlt)
   have CF:=C k hlt
   have kf:=aa HK.out 0 rfl
   obtain⟨cur,hcur,hsz,hcells⟩:=HQ.out
   have e0:k*3<cur.size:=by omega
   have e1:k*3+1<cur.size:=by omega
   have e2:k*3+2<cur.size:=by omega
   obtain⟨v0,hv0⟩:∃ v,cur[k*3]?=some v:=⟨_,Array.getElem?_eq_getElem e0⟩
   obtain⟨v1,hv1⟩:∃ v,cur[k*3+1]?=some v:=⟨_,Array.getElem?_eq_getElem e1⟩
   obtain⟨v2,hv2⟩:∃ v,cur[k*3+2]?=some v:=⟨_,Array.getElem?_eq_getElem e2⟩
   have HV:Hid (cur[k*3]?=some v0∧cur[k*3+1]?=some v1∧cur[k*3+2]?=some v2):=⟨hv0,hv1,hv2⟩
   have HCUR:Hid (wr.heap[w.heap.size+1]?=some (.cells cur 26 (0,0))):=hcur
   have hgs:w.heap.size+1<wr.heap.size:=(aGe hcur).1
   clear hcells hv0 hv1 hv2 hcur hsz e0 e1 e2 hca C
   have i0:(0:Int)<=(k:Int):=by omega
   have i1:(k:Int)<(n:Int):=by omega
   generalize d k=x at *
   go_wp2_with fail
   refine(CF _ hbw).mono ?_
   rintro _ w3 ⟨v,rfl,hD⟩
   have hb3:=hD.below
   have HD:Hid (bv wr w3 (V k) v):=hD
   obtain⟨g,s0,m0,e,rfl,_,hA0⟩:=id hD
   obtain⟨so,sn,sc,rfl⟩:=hA0.num.shape
   clear hD CF hA0
   have hb4:=ab hb3 (ae w3 (.cells #[.bool g,.slice so sn sc,.int .i64 e] 26))
   have q0:=(hb4.block (w.heap.size+1) hgs).trans HCUR.out
   have HK4:Hid ((w3.alloc (.cells #[.bool g,.slice so sn sc,.int .i64 e] 26)).heap[w.heap.size]?=some (.cells #[.func (.func F) #[] #[],.func (.func G) #[] #[]] 157 (0,0))):=(hb4.block _ (aGe HK.out).1).trans HK.out
   have qx:=aB w3 (.cells #[.bool g,.slice so sn sc,.int .i64 e] 26)
   have t0:=aa qx 0 rfl
   have t1:=aa qx 1 rfl
   have t2:=aa qx 2 rfl
   have x0:=aa q0 (k*3) HV.out.1
   have x1:=aa q0 (k*3+1) HV.out.2.1
   have x2:=aa q0 (k*3+2) HV.out.2.2
   have f0:=af q0 (k*3)
   have f1:=af q0 (k*3+1)
   have f2:=af q0 (k*3+2)
   have hn1:w.heap.size+1≠w.heap.size:=by omega
   clear q0 qx kf
   go_wp2
   all_goals
    go_roundw
    case rel=>
     obtain⟨ng,s,m,e',h1,hyy,hA⟩:=HD.out
     simp only[Value.agg.injEq,Array.mk.injEq,List.cons.injEq,Value.bool.injEq,Value.int.injEq,true_and,and_true] at h1
     obtain⟨rfl,rfl,rfl⟩:=h1
     obtain⟨dd,hRd,hNd,hVd,hgd⟩:=hA.open
     have hgs2:∀ b' off,so=some ⟨b',off,none⟩->0<sn->w.heap.size+1<b':=fun b' off he _=>by
      have h9:=hgd b' off he
      omega
     refine⟨k+1,n7 q k ⟨g,so,sn,sc,dd,e⟩,by omega,by go_num,j7.step (x:=⟨g,so,sn,sc,dd,e⟩) HQ.out hb4 (hRd.keeps (ae _ _)) hlt HG.out hgs2,fun i hi=>?_,fun i b' off hi he hn'=>?_,?_,kE (ab hbw hb4) (by omega) _ _ _⟩
     ·by_cases ei:i=k
      ·subst ei
       rw[jq]
       exact⟨hNd,by rw[hVd];exact hyy⟩
      ·rw[iI _ _ ei]
       exact HF.out i (by omega)
     ·by_cases ei:i=k
      ·subst ei
       rw[jq] at he hn'
       exact hgs2 b' off he hn'
      ·rw[iI _ _ ei] at he hn'
       exact HG.out i b' off (by omega) he hn'
     ·show _=_
      rw[heap_setCell_other _ ⟨w.heap.size+1,_,none⟩ w.heap.size _ (Ne.symm hn1),heap_setCell_other _ ⟨w.heap.size+1,_,none⟩ w.heap.size _ (Ne.symm hn1),heap_setCell_other _ ⟨w.heap.size+1,_,none⟩ w.heap.size _ (Ne.symm hn1)]
      exact HK4.out
    case measure=>simp[intOf];omega
  ·obtain rfl:k=n:=by omega
   go_wp2
   all_goals refine bodyPost_ret (v:=.tuple #[.slice (some ⟨w.heap.size+1,0,none⟩) k k,.bool true]) (by simp[results,results141,go_sem]) rfl ⟨_,q,rfl,by omega,HQ.out.nums hn,hbw,HF.out⟩
theorem xC (F G:Nat) (oo:Option Addr) (n cap:Nat) (d V:Nat->Int) (w:World) (hR:aL w oo n cap d) (hn:n<=100000) (K:Nat) (hK:K<n)
  (hEF:∀ (cap:Array Value) (w:World),(callFunc F cap).run prog w=.ok (.enter F cap) w)
  (C:∀ i,i<K->∀ W,Below w.heap.size w W->Calls prog F #[.int .i64 (d i)] W fun r w'=>∃ v,r=.returned (.tuple #[v,.int .i64 0])∧bv W w' (V i) v)
  (CN:∀ W,Below w.heap.size w W->Calls prog F #[.int .i64 (d K)] W fun r w'=>r=.returned (.tuple #[.agg #[.bool false,.slice none 0 0,.int .i64 0],.int .i64 10])∧Below W.heap.size W w') :
  Calls prog 141 #[.agg #[.func (.func F) #[] #[],.func (.func G) #[] #[]],.slice oo n cap] w fun x w'=>x=.returned (.tuple #[.slice none 0 0,.bool false])∧Below w.heap.size w w':=by
 have hle:=hR.le
 have hma:=hR.max
 have hmake:=qq n hn
 have hst:∀ (p:Addr) (F:Nat) (m:Mode) (w:World),(store p (.func (.func F) #[] #[]) m).run prog w=stored prog w p (.func (.func F) #[] #[]) m:=fun p F m w=>run_store _ w p _ m rfl
 have ha1:=ae w (.cells #[.func (.func F) #[] #[],.func (.func G) #[] #[]] 157)
 have q1:=heap_alloc_new w (.cells #[.func (.func F) #[] #[],.func (.func G) #[] #[]] 157)
 have k0:=aa q1 0 rfl
 have k1:=aa q1 1 rfl
 go_enter func141,ntmps141
 go_wp2_with fail
 have hb0:=ar w (.cells #[.func (.func F) #[] #[],.func (.func G) #[] #[]] 157) (.cells (madeCells #[.bool false,.slice none 0 0,.int .i64 0] (n*3)) 26)
 have g1:=aR w (.cells #[.func (.func F) #[] #[],.func (.func G) #[] #[]] 157) (.cells (madeCells #[.bool false,.slice none 0 0,.int .i64 0] (n*3)) 26)
 have g0:=aU w (.cells #[.func (.func F) #[] #[],.func (.func G) #[] #[]] 157) (.cells (madeCells #[.bool false,.slice none 0 0,.int .i64 0] (n*3)) 26)
 have HB0:Hid (j7 ((w.alloc (.cells #[.func (.func F) #[] #[],.func (.func G) #[] #[]] 157)).alloc (.cells (madeCells #[.bool false,.slice none 0 0,.int .i64 0] (n*3)) 26)) (w.heap.size+1) n 0 (fun _=>⟨false,none,0,0,fun _=>0,0⟩)):=⟨_,g1,by rw[size_madeCells],fun i hi=>by omega⟩
 clear g1 hmake q1 k0 k1 ha1
 generalize (w.alloc (.cells #[.func (.func F) #[] #[],.func (.func G) #[] #[]] 157)).alloc (.cells (madeCells #[.bool false,.slice none 0 0,.int .i64 0] (n*3)) 26)=wx at hb0 HB0 g0 ⊢
 go_loopw [16] (fun iv wr=>∃ (k:Nat) (q:Nat->aI),k<=K∧iv=.int .i64 k∧Hid (j7 wr (w.heap.size+1) n k q)∧Hid (∀ i,i<k->bV (q i).d (q i).n∧Dy (V i) (q i).ng (val (q i).d (q i).n) (q i).e)∧Hid (∀ i b' off,i<k->(q i).ao=some ⟨b',off,none⟩->0<(q i).n->w.heap.size+1<b')∧Hid (wr.heap[w.heap.size]?=some (.cells #[.func (.func F) #[] #[],.func (.func G) #[] #[]] 157 (0,0)))∧Below w.heap.size w wr) (fun iv _=>n-(intOf iv).toNat)
 case atStart=>exact⟨0,_,Nat.zero_le _,rfl,HB0,fun i hi=>by omega,fun i b' off hi=>by omega,g0,hb0⟩
 case round=>
  obtain⟨k,q,hk,rfl,HQ,HF,HG,HK,hbw⟩:=hrel
  clear HB0 hb0 g0
  have hlt:k<n:=by omega
  by_cases hltK:k<K
  ·obtain⟨ba,oa,rfl,hba,hca⟩:=hR.spot (by omega)
   have c0:=(hbw.cell (p:=⟨ba,oa+k,none⟩) hba).trans (hca k hlt)
   have CF:=C k hltK
   have kf:=aa HK.out 0 rfl
   obtain⟨cur,hcur,hsz,hcells⟩:=HQ.out
   have e0:k*3<cur.size:=by omega
   have e1:k*3+1<cur.size:=by omega
   have e2:k*3+2<cur.size:=by omega
   obtain⟨v0,hv0⟩:∃ v,cur[k*3]?=some v:=⟨_,Array.getElem?_eq_getElem e0⟩
   obtain⟨v1,hv1⟩:∃ v,cur[k*3+1]?=some v:=⟨_,Array.getElem?_eq_getElem e1⟩
   obtain⟨v2,hv2⟩:∃ v,cur[k*3+2]?=some v:=⟨_,Array.getElem?_eq_getElem e2⟩
   have HV:Hid (cur[k*3]?=some v0∧cur[k*3+1]?=some v1∧cur[k*3+2]?=some v2):=⟨hv0,hv1,hv2⟩
   have HCUR:Hid (wr.heap[w.heap.size+1]?=some (.cells cur 26 (0,0))):=hcur
   have hgs:w.heap.size+1<wr.heap.size:=(aGe hcur).1
   clear hcells hv0 hv1 hv2 hcur hsz e0 e1 e2 hca C
   have i0:(0:Int)<=(k:Int):=by omega
   have i1:(k:Int)<(n:Int):=by omega
   generalize d k=x at *
   go_wp2_with fail
   refine(CF _ hbw).mono ?_
   rintro _ w3 ⟨v,rfl,hD⟩
   have hb3:=hD.below
   have HD:Hid (bv wr w3 (V k) v):=hD
   obtain⟨g,s0,m0,e,rfl,_,hA0⟩:=id hD
   obtain⟨so,sn,sc,rfl⟩:=hA0.num.shape
   clear hD CF hA0
   have hb4:=ab hb3 (ae w3 (.cells #[.bool g,.slice so sn sc,.int .i64 e] 26))
   have q0:=(hb4.block (w.heap.size+1) hgs).trans HCUR.out
   have HK4:Hid ((w3.alloc (.cells #[.bool g,.slice so sn sc,.int .i64 e] 26)).heap[w.heap.size]?=some (.cells #[.func (.func F) #[] #[],.func (.func G) #[] #[]] 157 (0,0))):=(hb4.block _ (aGe HK.out).1).trans HK.out
   have qx:=aB w3 (.cells #[.bool g,.slice so sn sc,.int .i64 e] 26)
   have t0:=aa qx 0 rfl
   have t1:=aa qx 1 rfl
   have t2:=aa qx 2 rfl
   have x0:=aa q0 (k*3) HV.out.1
   have x1:=aa q0 (k*3+1) HV.out.2.1
   have x2:=aa q0 (k*3+2) HV.out.2.2
   have f0:=af q0 (k*3)
   have f1:=af q0 (k*3+1)
   have f2:=af q0 (k*3+2)
   have hn1:w.heap.size+1≠w.heap.size:=by omega
   clear q0 qx kf
   go_wp2
   all_goals
    go_roundw
    case rel=>
     obtain⟨ng,s,m,e',h1,hyy,hA⟩:=HD.out
     simp only[Value.agg.injEq,Array.mk.injEq,List.cons.injEq,Value.bool.injEq,Value.int.injEq,true_and,and_true] at h1
     obtain⟨rfl,rfl,rfl⟩:=h1
     obtain⟨dd,hRd,hNd,hVd,hgd⟩:=hA.open
     have hgs2:∀ b' off,so=some ⟨b',off,none⟩->0<sn->w.heap.size+1<b':=fun b' off he _=>by
      have h9:=hgd b' off he
      omega
     refine⟨k+1,n7 q k ⟨g,so,sn,sc,dd,e⟩,by omega,by go_num,j7.step (x:=⟨g,so,sn,sc,dd,e⟩) HQ.out hb4 (hRd.keeps (ae _ _)) hlt HG.out hgs2,fun i hi=>?_,fun i b' off hi he hn'=>?_,?_,kE (ab hbw hb4) (by omega) _ _ _⟩
     ·by_cases ei:i=k
      ·subst ei
       rw[jq]
       exact⟨hNd,by rw[hVd];exact hyy⟩
      ·rw[iI _ _ ei]
       exact HF.out i (by omega)
     ·by_cases ei:i=k
      ·subst ei
       rw[jq] at he hn'
       exact hgs2 b' off he hn'
      ·rw[iI _ _ ei] at he hn'
       exact HG.out i b' off (by omega) he hn'
     ·show _=_
      rw[heap_setCell_other _ ⟨w.heap.size+1,_,none⟩ w.heap.size _ (Ne.symm hn1),heap_setCell_other _ ⟨w.heap.size+1,_,none⟩ w.heap.size _ (Ne.symm hn1),heap_setCell_other _ ⟨w.heap.size+1,_,none⟩ w.heap.size _ (Ne.symm hn1)]
      exact HK4.out
    case measure=>simp[intOf];omega
  ·obtain rfl:k=K:=by omega
   obtain⟨ba,oa,rfl,hba,hca⟩:=hR.spot (by omega)
   have c0:=(hbw.cell (p:=⟨ba,oa+k,none⟩) hba).trans (hca k hlt)
   have kf:=aa HK.out 0 rfl
   clear hca C
   have i0:(0:Int)<=(k:Int):=by omega
   have i1:(k:Int)<(n:Int):=by omega
   generalize d k=x at *
   go_wp2_with fail
   refine(CN _ hbw).mono ?_
   rintro _ w3 ⟨rfl,hb3⟩
   go_wp2
   all_goals refine bodyPost_ret (v:=.tuple #[.slice none 0 0,.bool false]) (by simp[results,results141,go_sem]) rfl ⟨rfl,ab hbw (ab hb3 (ae _ _))⟩
end Go.Proofs.YtkkpppgfoilgmaaGreatDoor
