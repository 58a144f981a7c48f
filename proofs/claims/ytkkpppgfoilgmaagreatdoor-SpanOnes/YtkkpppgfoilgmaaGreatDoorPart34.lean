/- Parts of the proof. -/
import Derived.Test.YtkkpppgfoilgmaaGreatDoorPart10
import Derived.Test.YtkkpppgfoilgmaaGreatDoorPart4
import Derived.Test.YtkkpppgfoilgmaaGreatDoorPart9
import Derived.Test.YtkkpppgfoilgmaaGreatDoorPart11
import Derived.Test.YtkkpppgfoilgmaaGreatDoorPart8
import Derived.Test.YtkkpppgfoilgmaaGreatDoorPart1
import Derived.Test.YtkkpppgfoilgmaaGreatDoorPart6
import Derived.Test.YtkkpppgfoilgmaaGreatDoorPart7
import Derived.Test.YtkkpppgfoilgmaaGreatDoorPart2
import Derived.ArgAppend
import Derived.Test.YtkkpppgfoilgmaaGreatDoorPart5
import Derived.Test.YtkkpppgfoilgmaaGreatDoorPart3
import Derived.Lib.AppendZerosOnto
import Derived.Test.YtkkpppgfoilgmaaGreatDoorPart13
import Derived.Test.YtkkpppgfoilgmaaGreatDoorPart16
import Derived.Test.YtkkpppgfoilgmaaGreatDoorPart12
import Derived.Test.YtkkpppgfoilgmaaGreatDoorPart17
import Derived.Deep.RegionHeld3
import Derived.Test.YtkkpppgfoilgmaaGreatDoorPart15
set_option maxRecDepth 100000
set_option maxHeartbeats 8000000
set_option linter.unusedVariables false
set_option linter.unusedSimpArgs false
namespace Go.Proofs.YtkkpppgfoilgmaaGreatDoor
open Go Go.Proofs.Tryz Go.RowKit Go.Proofs.YtkkpppgfoilgmaaGreatDoor.M
structure Bt (w:World) (ao:Option Addr) (n cap:Nat) (px py:Nat->Int):Prop where
 le:n<=cap
 max:cap<=9223372036854775807
 spot:0<n->∃ b off,ao=some ⟨b,off,none⟩∧b<w.heap.size∧∀ i,i<n->w.cell? ⟨b,off+i*2,none⟩=some (.int .i64 (px i))∧w.cell? ⟨b,off+i*2+1,none⟩=some (.int .i64 (py i))
theorem Bt.keeps {w w':World} {ao:Option Addr} {n cap:Nat} {px py:Nat->Int} (h:Bt w ao n cap px py) (hb:Below w.heap.size w w'):Bt w' ao n cap px py :=
  ⟨h.le,h.max,fun hn=>by
    obtain⟨b,off,rfl,hlt,hc⟩:=h.spot hn
    exact ⟨b,off,rfl,Nat.lt_of_lt_of_le hlt hb.size,fun i hi=>⟨(hb.cell (p:=⟨b,off+i*2,none⟩) hlt).trans (hc i hi).1,(hb.cell (p:=⟨b,off+i*2+1,none⟩) hlt).trans (hc i hi).2⟩⟩⟩
def l2 (a b:Int) (i:Nat):Int:=if i=0 then a else b
def l3 (a b c:Int) (i:Nat):Int:=if i=0 then a else if i=1 then b else c
def l4 (a b c d:Int) (i:Nat):Int:=if i=0 then a else if i=1 then b else if i=2 then c else d
end Go.Proofs.YtkkpppgfoilgmaaGreatDoor
/-
 Mathematics of whole numbers: a float's whole units,ints as floats,the order of floats in the model.
-/
namespace Go.Proofs.YtkkpppgfoilgmaaGreatDoor.M
open Go Go.Proofs.Tryz Ieee
theorem vF {A q:Int} {u v:Nat} {l k:Int} (h:gd A u q l) (g:gd A v q k):¬ u<v:=fun c=>by
 have h1:=h.hi
 have h2:=g.lo
 have hq:0<q:=by have:=h.lo;omega
 have h3:((u:Int)+1)*q<=(v:Int)*q:=Int.mul_le_mul_of_nonneg_right (by omega) (by omega)
 rw[Int.add_mul,Int.one_mul] at h3
 omega
theorem gd.unique {A q:Int} {u v:Nat} {l k:Int} (h:gd A u q l) (g:gd A v q k):u=v∧l=k:=by
 have e:u=v:=by
  have h1:=vF h g
  have h2:=vF g h
  omega
 subst e
 refine⟨rfl,?_⟩
 have lo:=h.lo
 have hi:=h.hi
 obtain⟨T,hT⟩:∃ T,(u:Int)*q=T:=⟨_,rfl⟩
 rw[hT] at lo hi
 have a0:=h.l0
 have a1:=h.l1
 have a2:=h.l2
 have a3:=h.l3
 have b0:=g.l0
 have b1:=g.l1
 have b2:=g.l2
 have b3:=g.l3
 rw[hT] at a0 a1 a2 a3 b0 b1 b2 b3
 by_cases c0:A=T
 ·rw[a0.2 c0,b0.2 c0]
 ·by_cases c1:2*A<2*T+q
  ·rw[a1.2 ⟨by omega,c1⟩,b1.2 ⟨by omega,c1⟩]
  ·by_cases c2:2*A=2*T+q
   ·rw[a2.2 c2,b2.2 c2]
   ·rw[a3.2 (by omega),b3.2 (by omega)]
end Go.Proofs.YtkkpppgfoilgmaaGreatDoor.M
namespace Go.Proofs.YtkkpppgfoilgmaaGreatDoor
open Go Go.Proofs.Tryz Go.RowKit Go.Proofs.YtkkpppgfoilgmaaGreatDoor.M Ieee
end Go.Proofs.YtkkpppgfoilgmaaGreatDoor
namespace Go.Proofs.YtkkpppgfoilgmaaGreatDoor
open Go Go.Proofs.Tryz Go.RowKit Go.Proofs.YtkkpppgfoilgmaaGreatDoor.M Ieee
theorem FW.rng {p:Int} {x:Nat} (h:FW p x):M.au p:=by
 rcases h with⟨_,h,_⟩|⟨rfl,_⟩
 ·exact h
 ·exact nG
end Go.Proofs.YtkkpppgfoilgmaaGreatDoor
/-
 Package eft: math.Abs,FastTwoSum,reachable,TwoProd,by their contracts.
-/
namespace Go.Proofs.YtkkpppgfoilgmaaGreatDoor
open Go Go.Proofs.Tryz Go.RowKit Go.Proofs.YtkkpppgfoilgmaaGreatDoor.M Ieee
theorem FW.fin {p:Int} {x:Nat} (h:FW p x) (g:aB p=true):x=wd p:=by
 rcases h with⟨_,_,h⟩|⟨rfl,_⟩
 ·exact h
 ·rw[mP] at g;cases g
end Go.Proofs.YtkkpppgfoilgmaaGreatDoor
namespace Go.Proofs.YtkkpppgfoilgmaaGreatDoor
open Go Go.Proofs.Tryz Go.RowKit Go.Proofs.YtkkpppgfoilgmaaGreatDoor.M Ieee
def xW (a b:Int):Bool:=decide (bl a=0)||decide (bl b=0)||decide (-1074<=bJ a+jz (bl a)+bJ b+jz (bl b))
end Go.Proofs.YtkkpppgfoilgmaaGreatDoor
namespace Go.Proofs.YtkkpppgfoilgmaaGreatDoor
open Go Go.Proofs.Tryz Go.RowKit Go.Proofs.YtkkpppgfoilgmaaGreatDoor.M Ieee
def pX (p q:Int):Bool:=aB (xL p q)&&xW p q
theorem zP {p:Int} (hp:au p) (h:aB p=true):((iV p).natAbs:Int)=bl p*2^(bJ p+1074).toNat:=by
 have h0:=(gH h).1
 rw[AP,zY hp h,nE,Int.toNat_of_nonneg h0,Int.mul_comm]
end Go.Proofs.YtkkpppgfoilgmaaGreatDoor
namespace Go.Proofs.YtkkpppgfoilgmaaGreatDoor
open Go Go.Proofs.Tryz Go.RowKit Go.Proofs.YtkkpppgfoilgmaaGreatDoor.M
end Go.Proofs.YtkkpppgfoilgmaaGreatDoor
namespace Go.Proofs.YtkkpppgfoilgmaaGreatDoor
open Go Go.Proofs.Tryz Go.RowKit Go.Proofs.YtkkpppgfoilgmaaGreatDoor.M Ieee
end Go.Proofs.YtkkpppgfoilgmaaGreatDoor
namespace Go.Proofs.YtkkpppgfoilgmaaGreatDoor
open Go Go.Proofs.Tryz Go.RowKit Go.Proofs.YtkkpppgfoilgmaaGreatDoor.M
structure Ls where
 n:Nat
 d:Nat->Int
def Ls.add (s:Ls) (b:Int):Ls:=if rg b=0 then s else ⟨s.n+1,bK s.d s.n b⟩
def Ls.same (s t:Ls):Prop:=s.n=t.n∧∀ i,i<s.n->s.d i=t.d i
theorem Ls.same.add {s t:Ls} (h:s.same t) (b:Int):(s.add b).same (t.add b):=by
 unfold Ls.add
 split
 ·exact h
 ·refine⟨by show s.n+1=t.n+1;rw[h.1],fun i hi=>?_⟩
  show bK s.d s.n b i=bK t.d t.n b i
  by_cases e:i=s.n
  ·subst e;rw[a6,h.1,a6]
  ·rw[aP _ _ e,aP _ _ (by rw[<- h.1];exact e)]
   exact h.2 i (by have:i<s.n+1:=hi;omega)
def gq (d:Nat->Int) (q:Int):Nat->Int
 | 0=>q
 | k+1=>bX (gq d q k) (d k)
def gl (d:Nat->Int) (q:Int) (k:Nat):Int:=sL (gq d q k) (d k)
def gs (d:Nat->Int) (q:Int):Nat->Ls
 | 0=>⟨0,d⟩
 | k+1=>(gs d q k).add (gl d q k)
def gx (d:Nat->Int) (q:Int):Nat->Bool
 | 0=>true
 | k+1=>gx d q k&&aB (gl d q k)
structure xX (B:Nat) (w:World) (v:Value) (w':World) (v':Value) (s:Ls):Prop where
 out:aV B w' v' s.n s.d
 gr:w.grownBy w' v.ownBlock
 at':v'.ownBlock=v.ownBlock∨∀ k,v'.ownBlock=some k->w.heap.size<=k
theorem xX.refl {B:Nat} {w:World} {v:Value} {s:Ls} (h:aV B w v s.n s.d):xX B w v w v s:=⟨h,World.grownBy.refl _ _,.inl rfl⟩
theorem xX.below {B:Nat} {w w':World} {v v':Value} {s:Ls} (h:xX B w v w' v' s) (hO:∀ k,v.ownBlock=some k->B<=k) (hB:B<=w.heap.size):Below B w w' :=
 (Below.refl B w).grown h.gr hB hO
def vG (w:World) (g cap N:Nat) (s:Ls):Prop:=∃ cur,w.heap[g]?=some (.cells cur 3 (0,0))∧cur.size=cap∧∀ i,i<N->cur[i]?=some (.int .i64 (s.d i))
theorem vG.keeps {w w':World} {g cap N:Nat} {s:Ls} (h:vG w g cap N s) (hb:Below w.heap.size w w'):vG w' g cap N s:=by
 obtain⟨cur,h1,h2⟩:=h
 exact⟨cur,(hb.block _ (aGe h1).1).trans h1,h2⟩
theorem vG.out {w:World} {B g cap N:Nat} {s:Ls} (h:vG w g cap N s) (hn:s.n<=N) (hN:N<=cap) (hB:B<=g) (hm:cap<=9223372036854775807):aV B w (.slice (some ⟨g,0,none⟩) s.n cap) s.n s.d:=by
 obtain⟨cur,h1,h2,h3⟩:=h
 refine⟨by rw[bR];omega,.inr ⟨g,cap,cur,rfl,hB,h1,by omega,by unfold maxLen;omega,by omega,?_⟩⟩
 apply gB (by simp;omega)
 intro i hi
 rw[List.getElem?_take,if_pos (by omega),Array.getElem?_toList]
 exact h3 i (by omega)
theorem vH {B:Nat} {w w':World} {g:Nat} (h:w.grownBy w' (some g)) (hB:B<=g) (hw:B<=w.heap.size):Below B w w' :=
 (Below.refl B w).grown h hw (fun k hk=>by simp at hk;omega)
def oI (B:Nat) (w:World) (v:Value) (s:Ls):Prop:=aV B w v s.n s.d∨(s.n=0∧∃ ad,v=.slice (some ad) 0 0)
def xY (B:Nat) (w:World) (v:Value) (w':World):Prop:=w.grownBy w' none∨∃ k,v.ownBlock=some k∧B<=k∧w.grownBy w' (some k)
theorem xY.below {B:Nat} {w w':World} {v:Value} (h:xY B w v w') (hB:B<=w.heap.size):Below B w w':=by
 rcases h with h|⟨k,_,hk,h⟩
 ·exact(Below.refl B w).grown h hB (fun k hk=>by cases hk)
 ·exact vH h hk hB
theorem xY.size {B:Nat} {w w':World} {v:Value} (h:xY B w v w'):w.heap.size<=w'.heap.size:=by
 rcases h with h|⟨k,_,_,h⟩<;>exact h.size
theorem oI.lower {B B':Nat} {w:World} {v:Value} {s:Ls} (h:oI B w v s) (hB:B'<=B):oI B' w v s:=by
 rcases h with h|h
 ·exact .inl (h.lower hB)
 ·exact .inr h
def Ls.fin (s:Ls):Prop:=∀ i,i<s.n->au (s.d i)∧aB (s.d i)=true
theorem Ls.fin.add {s:Ls} (h:s.fin) {b:Int} (hb:au b) (pb:aB b=true):(s.add b).fin:=by
 unfold Ls.add
 split
 ·exact h
 ·intro i hi
  show au (bK s.d s.n b i)∧aB (bK s.d s.n b i)=true
  by_cases e:i=s.n
  ·subst e;rw[a6];exact⟨hb,pb⟩
  ·rw[aP _ _ e]
   exact h i (by have:i<s.n+1:=hi;omega)
theorem oI.shape {B:Nat} {w:World} {v:Value} {s:Ls} (h:oI B w v s):∃ ao cap,v=.slice ao s.n cap:=by
 rcases h with h|⟨h0,ad,rfl⟩
 ·obtain⟨ao,cap,e,_⟩:=h.row
  exact⟨ao,cap,e⟩
 ·exact⟨some ad,0,by rw[h0]⟩
def sq (d:Nat->Int) (b:Int):Nat->Int
 | 0=>aL (d 0) b
 | k+1=>bX (aL (d (k+1)) b) (bX (sq d b k) (xL (d (k+1)) b))
def sx (d:Nat->Int) (b:Int):Nat->Bool
 | 0=>pX (d 0) b
 | k+1=>sx d b k&&(pX (d (k+1)) b&&(aB (sL (sq d b k) (xL (d (k+1)) b))&&fX (aL (d (k+1)) b) (bX (sq d b k) (xL (d (k+1)) b))))
def XA (w:World) (ok:Bool) (s:Ls) (r:Ending) (w':World):Prop:=((ok=true∧∃ v,r=.returned (.tuple #[v,.int .i64 0])∧oI w.heap.size w' v s)∨(ok=false∧r=.returned (.tuple #[.slice none 0 0,.int .i64 14])))∧Below w.heap.size w w'
end Go.Proofs.YtkkpppgfoilgmaaGreatDoor
namespace Go.Proofs.YtkkpppgfoilgmaaGreatDoor
open Go Go.Proofs.Tryz Go.RowKit Go.Proofs.YtkkpppgfoilgmaaGreatDoor.M Ieee
end Go.Proofs.YtkkpppgfoilgmaaGreatDoor
namespace Go.Proofs.YtkkpppgfoilgmaaGreatDoor
open Go Go.Proofs.Tryz Go.RowKit Go.Proofs.YtkkpppgfoilgmaaGreatDoor.M
theorem oI.row {B:Nat} {w:World} {v:Value} {s:Ls} (h:oI B w v s):∃ ao cap,v=.slice ao s.n cap∧aG w ao s.n cap s.d:=by
 rcases h with h|⟨h0,ad,rfl⟩
 ·exact h.row
 ·rw[h0]
  exact⟨some ad,0,rfl,Nat.le_refl _,by decide,(fun q=>by cases q),fun q=>by omega⟩
theorem XA.yes {w w':World} {ok:Bool} {s:Ls} {r:Ending} (h:XA w ok s r w') (ho:ok=true):∃ ao cap,r=.returned (.tuple #[.slice ao s.n cap,.int .i64 0])∧aG w' ao s.n cap s.d∧Below w.heap.size w w':=by
 obtain⟨(⟨_,v,h1,h2⟩|⟨h1,_⟩),hb⟩:=h
 ·obtain⟨ao,cap,rfl,hR⟩:=h2.row
  exact⟨ao,cap,h1,hR,hb⟩
 ·rw[ho] at h1;cases h1
theorem XA.no {w w':World} {ok:Bool} {s:Ls} {r:Ending} (h:XA w ok s r w') (ho:ok=false):r=.returned (.tuple #[.slice none 0 0,.int .i64 14])∧Below w.heap.size w w':=by
 obtain⟨(⟨h1,_⟩|⟨_,h1⟩),hb⟩:=h
 ·rw[ho] at h1;cases h1
 ·exact⟨h1,hb⟩
end Go.Proofs.YtkkpppgfoilgmaaGreatDoor
namespace Go.Proofs.YtkkpppgfoilgmaaGreatDoor
open Go Go.Proofs.Tryz Go.RowKit Go.Proofs.YtkkpppgfoilgmaaGreatDoor.M Ieee
theorem Dt {a b h M:Int} (h1:((a.natAbs:Int)+b.natAbs)<=M):((a+b).natAbs:Int)<=M:=by omega
theorem Du {a b h M:Int} (ha:2*(a.natAbs:Int)<=M) (hb:2*(b.natAbs:Int)<=M) (e1:(h-(a+b)).natAbs<=(a-(a+b)).natAbs):((h-a).natAbs:Int)<=M:=by omega
theorem Dv {a b h v M:Int} (ha:2*(a.natAbs:Int)<=M) (e2:(h-(a+b)).natAbs<=(b-(a+b)).natAbs) (e3:(v-(h-a)).natAbs<=(b-(h-a)).natAbs):((h-v).natAbs:Int)<=M:=by omega
theorem Dw {a b h v u M:Int} (ha:2*(a.natAbs:Int)<=M) (e2:(h-(a+b)).natAbs<=(b-(a+b)).natAbs) (e3:(v-(h-a)).natAbs<=(b-(h-a)).natAbs) (e4:(u-(h-v)).natAbs<=(a-(h-v)).natAbs):((a-u).natAbs:Int)<=M∧(a-u).natAbs<=2*(h-(a+b)).natAbs:=by omega
theorem Dx {a b h v M:Int} (hb:2*(b.natAbs:Int)<=M) (e1:(h-(a+b)).natAbs<=(a-(a+b)).natAbs) (e3:(v-(h-a)).natAbs<=(b-(h-a)).natAbs):((b-v).natAbs:Int)<=M∧(b-v).natAbs<=2*(h-(a+b)).natAbs:=by omega
theorem Dz {S h x y p q M:Int} (hM:(S.natAbs:Int)<=M) (r:1000*(h-S).natAbs<=S.natAbs) (g1:x.natAbs<=2*(h-S).natAbs) (g2:y.natAbs<=2*(h-S).natAbs) (n1:(p-x).natAbs<=(0-x).natAbs) (n2:(q-y).natAbs<=(0-y).natAbs):((p+q).natAbs:Int)<=M:=by omega
theorem zQ {p q:Int} (hp:M.au p) (hq:M.au q) (pp:aB p=true) (pq:aB q=true) (h1:2*((iV p).natAbs:Int)<=gn) (h2:2*((iV q).natAbs:Int)<=gn):aB (bX p q)=true∧aB (sL p q)=true:=by
 have rh:=c9 hp hq
 have rv:M.au (sV p q):=c9 rh (ft hp)
 have rU:=c9 rh (ft rv)
 have rX:=c9 hp (ft rU)
 have rY:=c9 hq (ft rv)
 have Sh:=gK hp hq pp pq
 have hM:=Dt (h:=0) (a:=iV p) (b:=iV q) (M:=gn) (by omega)
 have ph:=Sh.fin hM
 have nh:=Sh.nr ph
 have e1:=nh.2 _ (lJ p)
 have e2:=nh.2 _ (lJ q)
 have Sv:=fc rh hp ph pp
 have pv:=Sv.fin (Du h1 h2 e1)
 have nv:=Sv.nr pv
 have e3:=nv.2 _ (lJ q)
 have SU:=fc rh rv ph pv
 have pU:=SU.fin (Dv h1 e2 e3)
 have e4:=(SU.nr pU).2 _ (lJ p)
 have SX:=fc hp rU pp pU
 obtain⟨g1,g2⟩:=Dw h1 e2 e3 e4
 have pX:=SX.fin g1
 have SY:=fc hq rv pq pv
 obtain⟨g3,g4⟩:=Dx h2 e1 e3
 have pY:=SY.fin g3
 exact⟨ph,(gK rX rY pX pY).fin (Dz hM (uJ nh) g2 g4 ((SX.nr pX).2 _ iK) ((SY.nr pY).2 _ iK))⟩
end Go.Proofs.YtkkpppgfoilgmaaGreatDoor
namespace Go.Proofs.YtkkpppgfoilgmaaGreatDoor
open Go Go.Proofs.Tryz Go.RowKit Go.Proofs.YtkkpppgfoilgmaaGreatDoor.M
theorem tN {b:Int} (hb:au b):aD b=0↔rg b=0:=by
 have h1:=tp hb
 rw[<- h1]
 constructor
 ·intro h
  have hr:=(mp hb).1
  have h0:0<=rg b:=(mp hb).2
  generalize rg b=r at *
  unfold au at hr
  unfold aD bk bF at h
  split at h
  ·split at h<;>omega
  ·split at h
   ·split at h
    ·omega
    ·omega
   ·omega
 ·intro h;rw[h];decide
theorem Ls.same.refl (s:Ls):s.same s:=⟨rfl,fun _ _=>rfl⟩
theorem Ls.same.symm {s t:Ls} (h:s.same t):t.same s:=⟨h.1.symm,fun i hi=>(h.2 i (by rw[h.1];exact hi)).symm⟩
theorem Ls.same.trans {s t u:Ls} (h:s.same t) (k:t.same u):s.same u:=⟨h.1.trans k.1,fun i hi=>(h.2 i hi).trans (k.2 i (by rw[<- h.1];exact hi))⟩
def Lo (x y:Int):Prop:=∃ s:Nat,(x.natAbs:Int)<2^s∧(2^s:Int) ∣ y
theorem tO {x y:Int} (h:x ∣ y) (h0:y≠0) (hx:0<x):x<=(y.natAbs:Int):=by
 have h1:x ∣ (y.natAbs:Int):=Int.dvd_natAbs.2 h
 exact Int.le_of_dvd (by omega) h1
theorem Lo.trans {x y z:Int} (h:Lo x y) (hy:y≠0) (k:Lo y z):Lo x z:=by
 obtain⟨s,h1,h2⟩:=h
 obtain⟨t,k1,k2⟩:=k
 have h3:=tO h2 hy (p2 s)
 have h4:s<t:=wM (Int.lt_of_le_of_lt h3 k1)
 exact⟨s,h1,Int.dvd_trans (gS (by omega)) k2⟩
theorem zR {b:Int} (hb:au b) (pb:aB b=true) (h:rg b≠0):iV b≠0∧bl b≠0:=by
 have e:=zP hb pb
 have hm:bl b≠0:=by
  intro q
  have hc:aD b=0:=by
   have hf:bk b≠2047:=by simpa [aB] using pb
   have:=gU b
   unfold bl at q
   rw[if_neg hf] at q
   unfold aD
   rw[if_neg hf]
   by_cases h0:bk b=0
   ·rw[if_pos h0] at q ⊢
    rw[if_pos q]
   ·rw[if_neg h0] at q
    omega
  exact h ((tN hb).1 hc)
 refine⟨fun q=>?_,hm⟩
 obtain⟨i0,_⟩:=gH pb
 have p1:=aF (bJ b+1074).toNat
 have:0<bl b*2^(bJ b+1074).toNat:=Int.mul_pos (by omega) p1
 rw[q] at e
 omega
structure XV (d:Nat->Int) (n:Nat):Prop where
 fin:∀ i,i<n->au (d i)∧aB (d i)=true∧rg (d i)≠0
 lo:∀ i,i+1<n->Lo (iV (d i)) (iV (d (i+1)))
theorem XV.ne {d:Nat->Int} {n:Nat} (h:XV d n) {i:Nat} (hi:i<n):iV (d i)≠0:=(zR (h.fin i hi).1 (h.fin i hi).2.1 (h.fin i hi).2.2).1
theorem XV.far {d:Nat->Int} {n:Nat} (h:XV d n) {i:Nat}:∀ {j},i<j->j<n->Lo (iV (d i)) (iV (d j))
 | 0,hij,_=>absurd hij (Nat.not_lt_zero _)
 | j+1,hij,hj=>by
  by_cases e:i=j
  ·subst e;exact h.lo i hj
  ·exact(h.far (show i<j by omega) (by omega)).trans (h.ne (by omega)) (h.lo j hj)
theorem XV.add {s:Ls} (h:XV s.d s.n) {b:Int} (hb:au b) (pb:aB b=true) (hlo:∀ i,i<s.n->Lo (iV (s.d i)) (iV b)):XV (s.add b).d (s.add b).n:=by
 unfold Ls.add
 split
 ·exact h
 ·rename_i hz
  refine⟨fun i hi=>?_,fun i hi=>?_⟩
  ·show au (bK s.d s.n b i)∧aB (bK s.d s.n b i)=true∧rg (bK s.d s.n b i)≠0
   by_cases e:i=s.n
   ·subst e;rw[a6];exact⟨hb,pb,hz⟩
   ·rw[aP _ _ e];exact h.fin i (by have:i<s.n+1:=hi;omega)
  ·have hi':i+1<s.n+1:=hi
   show Lo (iV (bK s.d s.n b i)) (iV (bK s.d s.n b (i+1)))
   rw[aP _ _ (show i≠s.n by omega)]
   by_cases e:i+1=s.n
   ·rw[e,a6];exact hlo i (by omega)
   ·rw[aP _ _ e];exact h.lo i (by omega)
theorem zS {p q:Int} (hp:au p) (hq:au q) (h:aB (sL p q)=true):Nr (iV p+iV q) (iV (bX p q)):=by
 obtain⟨⟨pp,pq⟩,ps,e⟩:=xa hp hq h
 exact(gK hp hq pp pq).nr ps
theorem sK:(2:Int)^2097<=gn:=by
 have h:(2:Int)^2097<=(V Ieee.double 9218868437227405311:Int):=by decide +kernel
 exact h
theorem C0 {b c:Nat} {x:Int} (h:(x.natAbs:Int)<=2^b) (hbc:b<=c):(x.natAbs:Int)<=2^c:=Int.le_trans h (qa hbc)
def LB (s:Ls) (b:Nat):Prop:=∀ i,i<s.n->((iV (s.d i)).natAbs:Int)<=2^b
theorem LB.add {s:Ls} {b:Nat} (h:LB s b) {x:Int} (hx:((iV x).natAbs:Int)<=2^b):LB (s.add x) b:=by
 unfold Ls.add
 split
 ·exact h
 ·intro i hi
  show((iV (bK s.d s.n x i)).natAbs:Int)<=_
  by_cases e:i=s.n
  ·subst e;rw[a6];exact hx
  ·rw[aP _ _ e];exact h i (by have:i<s.n+1:=hi;omega)
theorem XV.fn {s:Ls} (h:XV s.d s.n):s.fin:=fun i hi=>⟨(h.fin i hi).1,(h.fin i hi).2.1⟩
def PB (P:Nat->Prop) (w:World):Prop:=∀ k,P k->k<w.heap.size
structure iZ (P:Nat->Prop) (w w':World):Prop where
 os:w'.os=w.os
 tape:w'.tape=w.tape
 output:w'.output=w.output
 size:w.heap.size<=w'.heap.size
 block:∀ k,P k->w'.heap[k]?=w.heap[k]?
theorem iZ.refl (P:Nat->Prop) (w:World):iZ P w w:=⟨rfl,rfl,rfl,Nat.le_refl _,fun _ _=>rfl⟩
theorem iZ.trans {P:Nat->Prop} {a b c:World} (h:iZ P a b) (k:iZ P b c):iZ P a c :=
 ⟨k.os.trans h.os,k.tape.trans h.tape,k.output.trans h.output,Nat.le_trans h.size k.size,fun i hi=>(k.block i hi).trans (h.block i hi)⟩
theorem iZ.of {P:Nat->Prop} {w w':World} (h:Below w.heap.size w w') (hP:PB P w):iZ P w w':=⟨h.os,h.tape,h.output,h.size,fun k hk=>h.block k (hP k hk)⟩
theorem PB.le {P:Nat->Prop} {w w':World} (h:PB P w) (hs:w.heap.size<=w'.heap.size):PB P w':=fun k hk=>Nat.lt_of_lt_of_le (h k hk) hs
def kE (P:Nat->Prop) (w:World) (v:Value) (s:Ls):Prop:=aV 0 w v s.n s.d∧∀ k,v.ownBlock=some k->¬ P k
theorem kE.shape {P:Nat->Prop} {w:World} {v:Value} {s:Ls} (h:kE P w v s):∃ ao cap,v=.slice ao s.n cap:=by
 obtain⟨ao,cap,e,_⟩:=h.1.row
 exact⟨ao,cap,e⟩
theorem kE.stays {P:Nat->Prop} {w w':World} {v:Value} {s:Ls} (h:kE P w v s) (hb:Below w.heap.size w w'):kE P w' v s:=⟨h.1.stays hb,h.2⟩
theorem kE.gr {P:Nat->Prop} {w w':World} {v:Value} {s:Ls} (h:kE P w v s) (hP:PB P w) (g:w.grownBy w' v.ownBlock):iZ P w w' :=
 ⟨g.os,g.tape,g.output,g.size,fun k hk=>g.block k (hP k hk) fun e=>h.2 k e.symm hk⟩
theorem Ls.same.fin {s t:Ls} (h:s.same t) (ht:t.fin):s.fin:=fun i hi=>by
 rw[h.2 i hi]
 exact ht i (by rw[<- h.1];exact hi)
theorem iZ.below {P:Nat->Prop} {N:Nat} {w w':World} (h:iZ P w w') (hP:∀ k,k<N->P k):Below N w w':=⟨h.os,h.tape,h.output,h.size,fun k hk=>h.block k (hP k hk)⟩
theorem kE.raise {P:Nat->Prop} {N:Nat} {w:World} {v:Value} {s:Ls} (h:kE P w v s) (hP:∀ k,k<N->P k):aV N w v s.n s.d:=by
 have h1:=h.1
 rcases h1.2 with q|⟨g,cap,cur,q1,_,q3⟩
 ·exact⟨h1.1,.inl q⟩
 ·refine⟨h1.1,.inr ⟨g,cap,cur,q1,?_,q3⟩⟩
  have h2:=h.2 g (by rw[q1];rfl)
  exact Nat.le_of_not_lt fun e=>h2 (hP g e)
end Go.Proofs.YtkkpppgfoilgmaaGreatDoor
namespace Go.Proofs.YtkkpppgfoilgmaaGreatDoor
open Go Go.Proofs.Tryz Go.RowKit Go.Proofs.YtkkpppgfoilgmaaGreatDoor.M Ieee
end Go.Proofs.YtkkpppgfoilgmaaGreatDoor
namespace Go.Proofs.YtkkpppgfoilgmaaGreatDoor
open Go Go.Proofs.Tryz Go.RowKit Go.Proofs.YtkkpppgfoilgmaaGreatDoor.M
def Un (S h:Int):Prop:=9007199254740992*((h-S).natAbs:Int)<=(S.natAbs:Int)∧9007199254740992*((h-S).natAbs:Int)<=(h.natAbs:Int)
theorem oJ {S h:Int} (n:Nr S h) (h0:0<=S):Un S h:=by
 obtain⟨k,h1,h2⟩:=qh S h0
 rcases h2 with h2|h2
 ·subst h2
  have e:=cL ⟨0,⟨S,by rw[Int.pow_zero];omega⟩,by omega⟩ n
  subst e
  rw[Un,Int.sub_self]
  simp
 ·have c:=AE n (i:=k) (by omega)
  have g:=BX n (BY k (m:=4503599627370496) (by decide)) h2
  have p0:=p2 k
  generalize (2:Int)^k=q at *
  have g':4503599627370496*q<=h:=g
  constructor<;>omega
theorem C3 {S h:Int} (n:Nr S h):Un S h:=by
 by_cases h0:0<=S
 ·exact oJ n h0
 ·have:=oJ n.neg (by omega)
  unfold Un at *
  omega
theorem Un.scale {S h:Int} (u:Un S h) {c:Int} (hc:0<=c):Un (c*S) (c*h):=by
 have e:∀ x:Int,((c*x).natAbs:Int)=c*(x.natAbs:Int):=fun x=>by
  rw[Int.natAbs_mul,Int.natCast_mul]
  congr 1
  omega
 rw[Un,<- Int.mul_sub,e,e,e,<- Int.mul_assoc,Int.mul_comm 9007199254740992 c,Int.mul_assoc]
 exact⟨Int.mul_le_mul_of_nonneg_left u.1 hc,Int.mul_le_mul_of_nonneg_left u.2 hc⟩
structure Fx (a b:Nat) (x:Int):Prop where
 r:au x
 p:aB x=true
 d:(2^a:Int) ∣ iV x
 b:((iV x).natAbs:Int)<=2^b
theorem Fx.up {a b b':Nat} {x:Int} (h:Fx a b x) (c:b<=b'):Fx a b' x:=⟨h.r,h.p,h.d,C0 h.b c⟩
theorem Fx.neg {a b:Nat} {x:Int} (h:Fx a b x):Fx a b (neg x)∧iV (neg x)=-iV x:=by
 obtain⟨n1,n2,n3⟩:=jd h.r h.p
 refine⟨⟨n1,n2,?_,?_⟩,n3⟩
 ·rw[n3];exact Int.dvd_neg.2 h.d
 ·rw[n3,Int.natAbs_neg];exact h.b
theorem C4 {S x:Int} (h:Un S x):(x.natAbs:Int)<=2*(S.natAbs:Int):=by
 have:=h.1
 omega
theorem xZ {a b m:Int} {k:Nat} (h1:a<=2^k) (hk:k+1<=2097) (hm:(2:Int)^2097<=m):2*a<=m:=by
 have e:=kI k
 have f:(2:Int)^(k+1)<=2^2097:=qa hk
 omega
theorem Fx.sum {a b:Nat} {x y:Int} (hx:Fx a b x) (hy:Fx a b y) (hb:b+1<=2097):Fx a (b+2) (bX x y)∧Un (iV x+iV y) (iV (bX x y)):=by
 obtain⟨f1,f2⟩:=zQ hx.r hy.r hx.p hy.p (xZ (b:=0) hx.b hb sK) (xZ (b:=0) hy.b hb sK)
 have nr:=zS hx.r hy.r f2
 have u:=C3 nr
 refine⟨⟨c9 hx.r hy.r,f1,qd nr (Int.dvd_add hx.d hy.d),?_⟩,u⟩
 have h2:=C4 u
 have e1:=hx.b
 have e2:=hy.b
 rw[show b+2=b+1+1 by omega,kI,kI]
 omega
def oA:Int:=4375247037990436868
def oB:Int:=4372995238176751619
def oC:Int:=4143874607134277636
def Bu (B:Nat) (w:World) (n:Nat) (r:Nat->aE) (V:Int) (v:Value):Prop:=cd B w V v∨∃ i,i<n∧v=(r i).v∧V=(r i).V
theorem Bu.keeps {B:Nat} {w w':World} {n:Nat} {r:Nat->aE} {V:Int} {v:Value} (h:Bu B w n r V v) (hb:Below w.heap.size w w'):Bu B w' n r V v:=by
 rcases h with h|h
 ·exact .inl (h.keeps hb)
 ·exact .inr h
theorem vI {W y:World} (hb:Below W.heap.size W y) {g:Nat} {X:Obj} (h:W.heap[g]?=some X):y.heap[g]?=some X:=(hb.block _ (aGe h).1).trans h
def Bv (a1 a2 b1 b2 V:Int):Prop:=∃ C D,C*2^4194304=a1*b2∧D*2^4194304=a2*b1∧V=C-D
theorem Bv.unique {a1 a2 b1 b2 V V':Int} (h:Bv a1 a2 b1 b2 V) (k:Bv a1 a2 b1 b2 V'):V=V':=by
 obtain⟨C,D,h1,h2,rfl⟩:=h
 obtain⟨C',D',k1,k2,rfl⟩:=k
 rw[kL (h1.trans k1.symm),kL (h2.trans k2.symm)]
theorem Bw {b:Int} (rb:au b) (pb:aB b=true) (w:World) (H:aA w) :
  Calls prog 13 #[.int .i64 b] w fun r w'=>r=.returned (.tuple #[.agg #[.int .i64 (aH b),.int .i64 (aH b)],.int .i64 0])∧Below w.heap.size w w':=by
 have CP:Hid (∀ W,aA W->Calls prog 45 #[.int .i64 b] W fun e w'=>e=.returned (.tuple #[.bool (cl b),.int .i64 (bl b),.int .i64 (bJ b),.bool true])∧Below W.heap.size W w'):=fun W h=>by
  have:=jY b W h.lay
  rw[pb] at this
  exact this
 have CF:Hid (∀ W,Calls prog 46 #[.int .i64 b] W fun e w'=>e=.returned (.float .f64 (wd b))∧w'=W):=fun W=>fT b W
 have CT:Hid (∀ W,aA W->Calls prog 42 #[.agg #[.float .f64 (wd b),.float .f64 (wd b)]] W fun e w'=>e=.returned (.agg #[.int .i64 (aH b),.int .i64 (aH b)])∧Below W.heap.size W w'):=fun W h=>kl ⟨rb,xJ pb⟩ ⟨rb,xJ pb⟩ W h.env.lays
 clear rb pb
 generalize aH b=cb at *
 generalize wd b=B at *
 generalize cl b=b1 at *
 generalize bl b=b2 at *
 generalize bJ b=b3 at *
 have r_k:(w.alloc (.cells #[.int .i64 0,.int .i64 0] 23)).heap[w.heap.size]?=some (.cells #[.int .i64 0,.int .i64 0] 23):=av (.cells #[.int .i64 0,.int .i64 0] 23) (by rfl)
 have hb0:=ae w (.cells #[.int .i64 0,.int .i64 0] 23)
 go_enter func13,ntmps13
 go_wp2_with fail
 generalize (w.alloc (.cells #[.int .i64 0,.int .i64 0] 23))=x0 at hb0 r_k ⊢
 replace H:=H.keeps hb0
 refine(CP.out _ H).mono ?_
 rintro _ y1 ⟨rfl,hw1⟩
 replace r_k:=vI hw1 r_k
 replace hb0:=aa hb0 hw1
 replace H:=H.keeps hw1
 go_wp2_with fail
 refine(CF.out _).mono ?_
 rintro _ wz ⟨rfl,hwz⟩
 replace hwz:=hwz.symm
 subst hwz
 go_wp2_with fail
 refine(CT.out _ H).mono ?_
 rintro _ y2 ⟨rfl,hw2⟩
 replace r_k:=vI hw2 r_k
 replace hb0:=aa hb0 hw2
 have k0:=ab r_k 0 rfl
 have k1:=ab r_k 1 rfl
 have z0:=ak r_k 0
 have z1:=ak r_k 1
 go_wp2
 exact bodyPost_ret (v:=.tuple #[.agg #[.int .i64 cb,.int .i64 cb],.int .i64 0]) (by simp[results,results13,go_sem,k0,k1]) rfl ⟨rfl,((hb0.setCell (p:=⟨w.heap.size,0,none⟩) (show w.heap.size<=w.heap.size by omega) _).setCell (p:=⟨w.heap.size,1,none⟩) (show w.heap.size<=w.heap.size by omega) _)⟩
theorem aV.far {B:Nat} {w:World} {v:Value} {n:Nat} {d:Nat->Int} (h:aV B w v n d) (g j:Nat) (x:Int) (hj:v.ownBlock=some g->n<=j):aV B (w.setCell ⟨g,j,none⟩ (.int .i64 x)) v n d:=by
 rcases h.2 with⟨rfl,rfl⟩|⟨g0,cap0,cur,rfl,hbb,hg0,hn,hcm,hcs,htake⟩
 ·exact aV.nil _ _ _
 ·by_cases e:g0=g
  ·subst e
   refine⟨h.1,.inr ⟨g0,cap0,_,rfl,hbb,heap_setCell_same w g0 j cur _ _ hg0,hn,hcm,by simpa using hcs,?_⟩⟩
   have hj:=hj rfl
   rw[<- htake]
   apply List.ext_getElem?
   intro i
   rw[List.getElem?_take,List.getElem?_take]
   split
   ·rw[Array.getElem?_toList,Array.getElem?_toList,Array.getElem?_setIfInBounds_ne (by omega)]
   ·rfl
  ·exact h.of_block fun k hk=>by
    simp only[Value.ownBlock,Option.some.injEq] at hk
    subst hk
    exact Below.heap_setCell _ _ _ _ e
theorem Bx (b:Int):decide (aD b<3)=aB b:=by
 unfold aD aB
 by_cases h:bk b=2047
 ·simp[h]
  by_cases h1:bF b=0<;>simp[h1]
 ·simp[h]
  by_cases h1:bk b=0
  ·simp[h1]
   by_cases h2:bF b=0<;>simp[h2]
  ·simp[h1]
theorem vJ (b:Int) (w:World) (hb:au b) :
  Calls prog 17 #[.int .i64 b] w fun e w'=>e=.returned (.bool (aB b))∧w'=w:=by
 rw[<- Bx]
 go_enter func17,ntmps17
 go_wp2_with fail
 refine(eT b w hb).mono ?_
 rintro e w' ⟨rfl,rfl⟩
 go_wp2
 go_ret
 exact⟨rfl,rfl⟩
end Go.Proofs.YtkkpppgfoilgmaaGreatDoor
