/- Parts of the proof. -/
import Derived.Test.YtjjihmnbdeeedaaGreatDoorMa3
import Derived.Test.YtjjihmnbdeeedaaGreatDoorMa2
import Derived.Test.YtjjihmnbdeeedaaGreatDoorMa1
import Derived.Deep.LoopGhost
import Derived.Deep.RegionWith
import Derived.Deep.RegionHeld3
import Derived.Deep.AppendLies
import Derived.Deep.RegionLaw
import Derived.Test.YtjjihmnbdeeedaaGreatDoorRows
import Derived.ProofKit
import Derived.OpenShut
import Derived.ChangeOld
import Derived.LaidMore
import Derived.Deep.Strs
import Derived.Lib.LaidTab
import Derived.MakeChecks
import Derived.Stop.LaidErr
set_option maxRecDepth 100000
set_option maxHeartbeats 8000000
set_option linter.unusedVariables false
set_option linter.unusedSimpArgs false
namespace Go.Proofs.YtjjihmnbdeeedaaGreatDoor
open Go Go.Proofs.Tryz Go.RowKit Go.Proofs.YtjjihmnbdeeedaaGreatDoor.M
theorem Ge {B:Nat} {w:World} {v:Value} {n:Nat} {d:Nat->Int} (h:bI B w v n d) :
  Calls prog 261 #[v] w fun e w'=>∃ v',e=.returned v'∧∃ t,t<=n∧sA d t∧(∀ i,t<=i->i<n->d i=0)∧bI B w v' t d∧w'=w:=by
 have h0:=h
 rcases h.2 with⟨rfl,rfl⟩|⟨g,cap,cur,rfl,hb,hg,hn,hm,hs,ht⟩
 ·go_enter func261,ntmps261
  go_wp2
  go_loop [3] (fun i=>i=G6 0) (fun i=>0)
  case atStart=>rfl
  case round=>
   subst hrel
   go_wp2
   go_ret
   exact⟨_,rfl,.inl rfl,bI.nil _ _ _,rfl⟩
 ·obtain⟨ao,c,e,hR⟩:=h0.row
  simp only[Value.slice.injEq] at e
  obtain⟨rfl,_,rfl⟩:=e
  refine(Gd g n cap d w hR).mono ?_
  rintro e w' ⟨t,h1,h2,h3,rfl,rfl⟩
  exact⟨_,rfl,t,h1,h2,h3,h0.cut h1,rfl⟩
theorem oR {w0 w:World} {v:Value} {n:Nat} {d:Nat->Int} (h:bI w0.heap.size w v n d) (hd:bP d n) (hb:Below w0.heap.size w0 w) :
  Calls prog 261 #[v] w fun e w'=>∃ v',e=.returned v'∧dE w0 w (val d n) v'∧w'=w:=by
 refine(Ge h).mono ?_
 rintro e w' ⟨v',rfl,t,ht,htop,hz,hO,rfl⟩
 obtain⟨hN,hv⟩:=ju hd ht htop hz
 exact⟨v',rfl,⟨t,d,hO,hN,hv,hb⟩,rfl⟩
theorem Jd (ao bo:Option Addr) (n m ca cb:Nat) (a b:Nat->Int) (w:World) (ha:aU w ao n ca a) (hb:aU w bo m cb b) (na:cT a n) (nb:cT b m) :
  Calls prog 206 #[.slice ao n ca,.slice bo m cb] w fun e w'=>e=.returned (G6 (bH (val a n) (val b m)))∧Below w.heap.size w w':=by
 have hla:=ha.le
 have hma:=ha.max
 have hlb:=hb.le
 have hmb:=hb.max
 by_cases hnm:n=m
 ·subst hnm
  go_enter func206,ntmps206
  go_wp2
  go_loopw [5] (fun i wr=>∃ k:Nat,k<=n∧i=G6 ((k:Int)-1)∧Hid (∀ i,k<=i->i<n->a i=b i)∧Below w.heap.size w wr) (fun i _=>(intOf i+1).toNat)
  case atStart=>exact⟨n,Nat.le_refl _,rfl,fun i _ _=>by omega,ap _⟩
  case round=>
   obtain⟨k,hk,rfl,HS,hbw⟩:=hrel
   by_cases hlt:0<k
   ·obtain⟨j,rfl⟩:∃ j,k=j+1:=⟨k-1,by omega⟩
    have ej:((j+1:Nat):Int)-1=j:=by omega
    obtain⟨ba,fa,rfl,hba,hca⟩:=ha.spot (by omega)
    obtain⟨bb,fb,rfl,hbb,hcb⟩:=hb.spot (by omega)
    have c1:=(hbw.cell (p:=⟨ba,fa+j,none⟩) hba).trans (hca j (by omega))
    have c2:=(hbw.cell (p:=⟨bb,fb+j,none⟩) hbb).trans (hcb j (by omega))
    rw[ej]
    by_cases h1:a j<b j
    ·go_wp2
     go_quiet (fail)
     go_wp2
     go_ret
     exact⟨de ((gd h1).symm.trans (Db na.1 nb.1 (show j<n by omega) (fun i x y=>HS.out i (by omega) y) (by omega))),cV hbw _⟩
    ·by_cases h2:b j<a j
     ·go_wp2
      go_quiet (fail)
      go_wp2
      go_quiet (fail)
      go_wp2
      go_ret
      exact⟨de ((gf h2).symm.trans (Db na.1 nb.1 (show j<n by omega) (fun i x y=>HS.out i (by omega) y) (by omega))),cV (cV hbw _) _⟩
     ·go_wp2
      go_quiet (fail)
      go_wp2
      go_quiet (fail)
      go_wp2
      go_roundw
      case rel=>exact⟨j,by omega,by go_num,fun i x y=>by by_cases e:i=j;(· rw[e];omega);(· exact HS.out i (by omega) y),cV hbw _⟩
      case measure=>simp[intOf];try omega
   ·obtain rfl:k=0:=by omega
    go_wp2
    go_ret
    exact⟨de (jE (gJ fun i hi=>HS.out i (by omega) hi)).symm,hbw⟩
 ·by_cases hlt:n<m
  ·go_enter func206,ntmps206
   go_wp2
   go_ret
   exact⟨de (gd (sB na.1 nb hlt)).symm,ap _⟩
  ·go_enter func206,ntmps206
   go_wp2
   go_ret
   exact⟨de (gf (sB nb.1 na (by omega))).symm,ap _⟩
theorem zO (ao bo:Option Addr) (n m ca cb:Nat) (a b:Nat->Int) (w:World) (ha:aU w ao n ca a) (hb:aU w bo m cb b) (na:cT a n) (nb:cT b m) (hn:n<=100000) (hle:val b m<=val a n) :
  Calls prog 207 #[.slice ao n ca,.slice bo m cb] w fun e w'=>∃ v,e=.returned v∧dE w w' (val a n-val b m) v:=by
 have hla:=ha.le
 have hma:=ha.max
 have hlb:=hb.le
 have hmb:=hb.max
 have da:=na.1
 have db:=nb.1
 have hmn:m<=n:=Ei nb da hle
 have HLE:Hid (val b m<=val a n):=hle
 clear hle
 go_enter func207,ntmps207
 go_wp2
 go_loopw [5,6,7] (fun l c i wr=>∃ (k:Nat) (q:Int) (r:Nat->Int),k<=n∧i=G6 k∧c=G6 q∧0<=q∧q<=1∧bI w.heap.size wr l k r∧bP r k∧Hid (val r k-q*P k=val (cd a n) k-val (cd b m) k)∧Below w.heap.size w wr) (fun _ _ i _=>n-(intOf i).toNat)
 case atStart=>exact⟨0,0,fun _=>0,Nat.zero_le _,rfl,rfl,by omega,by omega,bI.nil _ _ _,fun i hi=>by omega,by show _=_;rfl,ap _⟩
 case round=>
  obtain⟨k,q,r,hk,rfl,rfl,hq0,hq1,hO,hD,HV,hbw⟩:=hrel
  by_cases hkn:k<n
  ·obtain⟨ba,fa,rfl,hba,hca⟩:=ha.spot (by omega)
   have c1:=(hbw.cell (p:=⟨ba,fa+k,none⟩) hba).trans (hca k hkn)
   have dk:=da k hkn
   by_cases hkm:k<m
   ·obtain⟨bb,fb,rfl,hbb,hcb⟩:=hb.spot (by omega)
    have c2:=(hbw.cell (p:=⟨bb,fb+k,none⟩) hbb).trans (hcb k hkm)
    have dbk:=db k hkm
    have HX:Hid (-q+(cd a n k-cd b m k)=a k-q-b k):=by show _=_;rw[fY a hkn,fY b hkm];omega
    by_cases hneg:a k-q-b k<0
    ·go_wp2_with (at_builtin;refine cL rfl _ _ rfl w.heap.size _ k r rfl (hO.stays (af _ _)) _ 1 1 (fun _=>(a k-q-b k+1073741824)) rfl (iR _ _ rfl) (by omega) (by have:=hbw.size;simp;omega) ?_;intro v' w1 hO1 hg1)
     have hb1:Below w.heap.size w w1:=(hbw.alloc hbw.size _).grown hg1 (by have:=hbw.size;simp;omega) (gy hO)
     have hs:=gn (c:=-q) (x:=cd a n k-cd b m k) (r:=r) (k:=k) (V:=val (cd a n) k-val (cd b m) k) (by have:=HV.out;rw[Int.neg_mul];omega)
     rw[show -q+(cd a n k-cd b m k)=a k-q-b k from HX.out,show(a k-q-b k) % 1073741824=(a k-q-b k+1073741824) by omega,show(a k-q-b k)/1073741824=-1 by omega] at hs
     go_roundw
     case rel=>exact⟨k+1,1,cr r k (a k-q-b k+1073741824),by omega,by go_num,rfl,by omega,by omega,hO1.congr (gO r k _),gZ hD (by omega),by show _=_;rw[aZ (cd a n),aZ (cd b m)];rw[Int.sub_mul] at hs;omega,hb1⟩
     case measure=>simp[intOf];omega
    ·go_wp2_with (at_builtin;refine cL rfl _ _ rfl w.heap.size _ k r rfl (hO.stays (af _ _)) _ 1 1 (fun _=>(a k-q-b k)) rfl (iR _ _ rfl) (by omega) (by have:=hbw.size;simp;omega) ?_;intro v' w1 hO1 hg1)
     have hb1:Below w.heap.size w w1:=(hbw.alloc hbw.size _).grown hg1 (by have:=hbw.size;simp;omega) (gy hO)
     have hs:=gn (c:=-q) (x:=cd a n k-cd b m k) (r:=r) (k:=k) (V:=val (cd a n) k-val (cd b m) k) (by have:=HV.out;rw[Int.neg_mul];omega)
     rw[show -q+(cd a n k-cd b m k)=a k-q-b k from HX.out,show(a k-q-b k) % 1073741824=(a k-q-b k) by omega,show(a k-q-b k)/1073741824=-0 by omega] at hs
     go_roundw
     case rel=>exact⟨k+1,0,cr r k (a k-q-b k),by omega,by go_num,rfl,by omega,by omega,hO1.congr (gO r k _),gZ hD (by omega),by show _=_;rw[aZ (cd a n),aZ (cd b m)];rw[Int.sub_mul] at hs;omega,hb1⟩
     case measure=>simp[intOf];omega
   ·have HX:Hid (-q+(cd a n k-cd b m k)=a k-q):=by show _=_;rw[fY a hkn,jW b (by omega)];omega
    by_cases hneg:a k-q<0
    ·go_wp2_with (at_builtin;refine cL rfl _ _ rfl w.heap.size _ k r rfl (hO.stays (af _ _)) _ 1 1 (fun _=>(a k-q+1073741824)) rfl (iR _ _ rfl) (by omega) (by have:=hbw.size;simp;omega) ?_;intro v' w1 hO1 hg1)
     have hb1:Below w.heap.size w w1:=(hbw.alloc hbw.size _).grown hg1 (by have:=hbw.size;simp;omega) (gy hO)
     have hs:=gn (c:=-q) (x:=cd a n k-cd b m k) (r:=r) (k:=k) (V:=val (cd a n) k-val (cd b m) k) (by have:=HV.out;rw[Int.neg_mul];omega)
     rw[show -q+(cd a n k-cd b m k)=a k-q from HX.out,show(a k-q) % 1073741824=(a k-q+1073741824) by omega,show(a k-q)/1073741824=-1 by omega] at hs
     go_roundw
     case rel=>exact⟨k+1,1,cr r k (a k-q+1073741824),by omega,by go_num,rfl,by omega,by omega,hO1.congr (gO r k _),gZ hD (by omega),by show _=_;rw[aZ (cd a n),aZ (cd b m)];rw[Int.sub_mul] at hs;omega,hb1⟩
     case measure=>simp[intOf];omega
    ·go_wp2_with (at_builtin;refine cL rfl _ _ rfl w.heap.size _ k r rfl (hO.stays (af _ _)) _ 1 1 (fun _=>(a k-q)) rfl (iR _ _ rfl) (by omega) (by have:=hbw.size;simp;omega) ?_;intro v' w1 hO1 hg1)
     have hb1:Below w.heap.size w w1:=(hbw.alloc hbw.size _).grown hg1 (by have:=hbw.size;simp;omega) (gy hO)
     have hs:=gn (c:=-q) (x:=cd a n k-cd b m k) (r:=r) (k:=k) (V:=val (cd a n) k-val (cd b m) k) (by have:=HV.out;rw[Int.neg_mul];omega)
     rw[show -q+(cd a n k-cd b m k)=a k-q from HX.out,show(a k-q) % 1073741824=(a k-q) by omega,show(a k-q)/1073741824=-0 by omega] at hs
     go_roundw
     case rel=>exact⟨k+1,0,cr r k (a k-q),by omega,by go_num,rfl,by omega,by omega,hO1.congr (gO r k _),gZ hD (by omega),by show _=_;rw[aZ (cd a n),aZ (cd b m)];rw[Int.sub_mul] at hs;omega,hb1⟩
     case measure=>simp[intOf];omega
  ·obtain rfl:k=n:=by omega
   have HD:Hid (bP r k∧val r k=val a k-val b m):=by
    refine⟨hD,?_⟩
    have h1:=HV.out
    rw[nJ a (Nat.le_refl _),nJ b hmn] at h1
    have h2:=dF hD
    have h3:=HLE.out
    have hp:=dt k
    rcases (show q=0∨q=1 by omega) with e|e
    ·subst e;omega
    ·subst e;omega
   go_wp2_with (go_at_call 261;refine(oR hO hD hbw).mono ?_;rintro e w3 ⟨v',rfl,hA,rfl⟩)
   go_ret
   exact⟨_,rfl,by rw[<- HD.out.2];exact hA⟩
theorem Je (ao bo:Option Addr) (n m ca cb:Nat) (a b:Nat->Int) (w:World) (ha:aU w ao n ca a) (hb:aU w bo m cb b) (na:cT a n) (nb:cT b m) (hn:n<=100000) (hm:m<=100000) :
  Calls prog 203 #[.slice ao n ca,.slice bo m cb] w fun e w'=>∃ v,e=.returned v∧dE w w' (val a n*val b m) v:=by
 have hla:=ha.le
 have hma:=ha.max
 have hlb:=hb.le
 have hmb:=hb.max
 have da:=na.1
 have db:=nb.1
 by_cases hn0:n=0
 ·subst hn0
  go_enter func203,ntmps203
  go_wp2
  go_ret
  exact⟨_,rfl,by rw[show val a 0*val b m=0 from Int.zero_mul _];exact dE.nil (ap _)⟩
 ·by_cases hm0:m=0
  ·subst hm0
   go_enter func203,ntmps203
   go_wp2
   go_ret
   exact⟨_,rfl,by rw[show val a n*val b 0=0 from Int.mul_zero _];exact dE.nil (ap _)⟩
  ·have e1:((n:Int) == 0)=false:=by simp;omega
   have e2:((m:Int) == 0)=false:=by simp;omega
   go_enter func203,ntmps203
   go_wp2_with (at_make;refine lr rfl _ _ rfl _ _ (n+m) rfl rfl (by omega) (by omega) (by omega) ?_;intro w1 hB1 hb1)
   go_loopw [6] (fun i wr=>∃ (k:Nat) (r:Nat->Int),k<=n∧i=G6 k∧dG wr w.heap.size (n+m) r∧bP r (n+m)∧Hid (∀ t,k+m<=t->r t=0)∧Hid (val r (k+m)=val a k*val b m)∧Below w.heap.size w wr) (fun i _=>n-(intOf i).toNat)
   case atStart=>exact⟨0,fun _=>0,Nat.zero_le _,rfl,hB1,ut _,fun _ _=>rfl,by show _=_;rw[ix (Nat.zero_le (0+m)) (fun _ _ _=>rfl)];show 0=0*val b m;omega,hb1⟩
   case round=>
    obtain⟨i,r0,hi,rfl,hB0,hD0,HZ0,HV0,hbw0⟩:=hrel
    by_cases hlt:i<n
    ·obtain⟨ba,fa,rfl,hba,hca⟩:=ha.spot (by omega)
     have dai:=da i hlt
     go_wp2
     go_loopw [7,8] (fun c j wr=>∃ (k:Nat) (q:Int) (r:Nat->Int),k<=m∧j=G6 k∧c=G6 q∧0<=q∧q<1073741824∧dG wr w.heap.size (n+m) r∧bP r (n+m)∧Hid (∀ t,i+k<=t->r t=r0 t)∧Hid (val r (i+k)+q*P (i+k)=val r0 (i+k)+a i*val b k*P i)∧Below w.heap.size w wr) (fun _ j _=>m-(intOf j).toNat)
     case atStart=>exact⟨0,0,r0,Nat.zero_le _,rfl,rfl,by omega,by omega,hB0,hD0,fun _ _=>rfl,by show _=_;show val r0 i+0*P i=val r0 i+a i*0*P i;grind,hbw0⟩
     case round=>
      obtain⟨k,q,r,hk,rfl,rfl,hq0,hq1,hB,hD,HS,HV,hbw⟩:=hrel
      have c1:=(hbw.cell (p:=⟨ba,fa+i,none⟩) hba).trans (hca i hlt)
      by_cases hkm:k<m
      ·obtain⟨bb,fb,rfl,hbb,hcb⟩:=hb.spot (by omega)
       have c2:=(hbw.cell (p:=⟨bb,fb+k,none⟩) hbb).trans (hcb k hkm)
       have c3:=hB.cell (show i+k<n+m by omega)
       have fg:=hB.frozen (i+k)
       have drk:=hD (i+k) (by omega)
       have hmul:=Cq dai (db k hkm)
       go_wp2
       go_quiet (fail)
       go_wp2
       have hs:=zt (b:=b) (j:=k) HV.out (HS.out (i+k) (Nat.le_refl _))
       rw[show q+(a i*b k+r (i+k))=r (i+k)+a i*b k+q by omega] at hs
       go_roundw
       case rel=>exact⟨k+1,(r (i+k)+a i*b k+q)/1073741824,cr r (i+k) ((r (i+k)+a i*b k+q) % 1073741824),by omega,by go_num,rfl,by omega,by omega,hB.store (i+k) _,hD.upd _ (jH _),fun t ht=>by rw[bg r _ (by omega)];exact HS.out t (by omega),hs,(cV hbw _).setCell (Nat.le_refl _) _⟩
       case measure=>simp[intOf];omega
      ·obtain rfl:k=m:=by omega
       have c3:=hB.cell (show i+k<n+k by omega)
       have fg:=hB.frozen (i+k)
       go_wp2
       have hr:=Cr HV.out HV0.out
       go_roundw
       case rel=>exact⟨i+1,cr r (i+k) q,by omega,by go_num,hB.store (i+k) _,hD.upd _ ⟨hq0,hq1⟩,fun t ht=>by rw[bg r _ (by omega),HS.out t (by omega)];exact HZ0.out t (by omega),by show _=_;rw[hr,aZ],hbw.setCell (Nat.le_refl _) _⟩
       case measure=>simp[intOf];omega
    ·obtain rfl:i=n:=by omega
     go_wp2_with (go_at_call 261;refine(oR (hB0.out (Nat.le_refl _) (Nat.le_refl _) (by omega)) hD0 hbw0).mono ?_;rintro e w3 ⟨v',rfl,hA,rfl⟩)
     go_ret
     exact⟨_,rfl,by rw[<- HV0.out];exact hA⟩
theorem oS {x:Int} (h:0<x):aQ x=aQ (x/2)+1:=by
 obtain⟨h1,h2⟩:=iJ h
 have h3:=ls x
 obtain⟨k,hk⟩:∃ k,aQ x=k+1:=⟨aQ x-1,by omega⟩
 rw[hk] at h2 h3 ⊢
 rw[Nat.add_sub_cancel] at h2
 rw[Int.pow_succ] at h3
 cases k with
 | zero=>
  have:x=1:=by simp at h3 h2;omega
  subst this;decide
 | succ j=>
  rw[Int.pow_succ] at h2
  have e1:(2:Int)^j<=x/2:=by omega
  have e2:x/2<2^(j+1):=by omega
  rw[pN e1 e2]
theorem Gf (V:Int) (w:World) (h0:0<=V) (h1:V<9223372036854775808) :
    Calls prog 209 #[G6 V] w fun e w'=>∃ v,e=.returned v∧dE w w' V v:=by
  have HM:Hid (V<9223372036854775808):=h1
  clear h1
  go_enter func209,ntmps209
  go_wp2
  go_loopw [0,3] (fun i v wr=>∃ (x:Int) (k:Nat) (r:Nat->Int),i=G6 x∧0<=x∧k<=3∧bI w.heap.size wr v k r∧bP r k∧Hid (x*P k<=V)∧Hid (x=0->sA r k)∧Hid (val r k+x*P k=V)∧Below w.heap.size w wr) (fun i _ _=>(intOf i).toNat)
  case atStart=>exact⟨V,0,fun _=>0,rfl,h0,by omega,bI.nil _ _ _,fun i hi=>by omega,by show _<=_;show V*1<=V;omega,fun _=>.inl rfl,by show _=_;show 0+V*1=V;omega,ap _⟩
  case round=>
    obtain⟨x,k,r,rfl,hx,hk3,hO,hD,HB,HT,HV,hbw⟩:=hrel
    by_cases hp:0<x
    · have hk2:k<=2:=by
        by_cases e:k=3
        · subst e
          have a:=HB.out
          have b:=HM.out
          have c:P 3=1073741824*1073741824*1073741824:=by decide
          have d:1*P 3<=x*P 3:=Int.mul_le_mul_of_nonneg_right (by omega) (Int.le_of_lt (dt 3))
          omega
        · omega
      have hx2:x<=9223372036854775807:=by
        have a:=HB.out
        have b:=HM.out
        have c:x*1<=x*P k:=Int.mul_le_mul_of_nonneg_left (by have:=dt k;omega) (by omega)
        omega
      go_wp2_with (at_builtin;refine cL rfl _ _ rfl w.heap.size _ k r rfl (hO.stays (af _ _)) _ 1 1 (fun _=>x % 1073741824) rfl (iR _ _ rfl) (by omega) (by have:=hbw.size;simp;omega) ?_;intro v' w1 hO1 hg1)
      have hb1:Below w.heap.size w w1:=(hbw.alloc hbw.size _).grown hg1 (by have:=hbw.size;simp;omega) (gy hO)
      have hs:=gn (c:=0) (x:=x) (show val r k+0*P k=val r k by omega)
      rw[Int.zero_add] at hs
      go_roundw
      case rel=>exact ⟨x/1073741824,k+1,cr r k (x % 1073741824),rfl,by omega,by omega,hO1.congr (gO r k _),gZ hD (jH _),by
          show _<=_
          have a:=HB.out
          rw[kQ,show x/1073741824*(P k*1073741824)=(x/1073741824*1073741824)*P k by grind]
          have b:(x/1073741824*1073741824)*P k<=x*P k:=Int.mul_le_mul_of_nonneg_right (by omega) (Int.le_of_lt (dt k))
          omega,fun e=>.inr (by rw [Nat.add_sub_cancel,bG]; omega),by show _=_; rw [hs]; exact HV.out,hb1⟩
      case measure=>simp[intOf];omega
    · obtain rfl:x=0:=by omega
      go_wp2
      go_ret
      exact⟨_,rfl,k,r,hO,⟨hD,HT.out (by first|rfl|trivial)⟩,by have:=HV.out;omega,hbw⟩
theorem xN (ao:Option Addr) (n cap:Nat) (d:Nat->Int) (w:World) (h:aU w ao n cap d) (hd:cT d n) (hn:n<=1000000) :
  Calls prog 274 #[.slice ao n cap] w fun e w'=>e=.returned (G6 (aQ (val d n)))∧w'=w:=by
 have hl:=h.le
 have hm:=h.max
 by_cases h0:n=0
 ·subst h0
  go_enter func274,ntmps274
  go_wp2
  go_ret
  exact⟨rfl,rfl⟩
 ·obtain⟨k,rfl⟩:∃ k,n=k+1:=⟨n-1,by omega⟩
  obtain⟨b,off,rfl,hb,hc⟩:=h.spot (by omega)
  have c:=hc k (by omega)
  have dk:=hd.1 k (by omega)
  have HV:Hid (aQ (val d (k+1))=30*k+aQ (d k)):=qD hd
  have hbl:aQ (d k)<=30:=fO (by show d k<1073741824;exact dk.2)
  go_enter func274,ntmps274
  go_wp2
  go_loop [3,4] (fun s v=>∃ (x:Int) (t:Nat),s=G6 t∧v=G6 x∧0<=x∧x<1073741824∧t<=30*k+30∧Hid (t+aQ x=30*k+aQ (d k))) (fun _ v=>(intOf v).toNat)
  case atStart=>exact⟨d k,30*k,by go_num,rfl,dk.1,dk.2,by omega,rfl⟩
  case round=>
   obtain⟨x,t,rfl,rfl,hx0,hx1,ht,HT⟩:=hrel
   by_cases hp:0<x
   ·have ht2:t+1<=30*k+30:=by have:=HT.out;have:=oS hp;omega
    go_wp2
    go_round
    case rel=>exact⟨x/2,t+1,by go_num,rfl,by omega,by omega,ht2,by show _=_;have:=HT.out;have:=oS hp;omega⟩
    case measure=>simp[intOf];omega
   ·obtain rfl:x=0:=by omega
    go_wp2
    go_ret
    exact⟨de (by have:=HT.out;rw[sF] at this;rw[HV.out];omega),rfl⟩
theorem Jf (ao:Option Addr) (n cap:Nat) (d:Nat->Int) (w:World) (h:aU w ao n cap d) (hd:cT d n) (hn:n<=100000) (i:Nat) (hi:i<=4000000) :
    Calls prog 275 #[.slice ao n cap,G6 i] w fun e w'=>e=.returned (.bool (qM (val d n) i))∧w'=w:=by
  have hl:=h.le
  have hm:=h.max
  obtain⟨q,p,hq,hp⟩:∃ q p:Nat,i=30*q+p∧p<30:=⟨i/30,i % 30,by omega,by omega⟩
  have e1:(i:Int)/30=q:=by omega
  have e2:(i:Int) % 30=p:=by omega
  by_cases hqn:q<n
  · have HV:Hid (qM (val d n) i=(d q/2^p % 2 == 1)):=by unfold qM;show _=_;rw[hq,Mr hd.1 hqn hp]
    clear hq
    obtain⟨b,off,rfl,hb,hc⟩:=h.spot (by omega)
    have c:=hc q hqn
    have dq:=hd.1 q hqn
    have hd0:0<=d q/2^p:=Int.ediv_nonneg dq.1 (Int.le_of_lt (aR p))
    go_enter func275,ntmps275
    go_wp2
    go_ret
    exact⟨bz HV.out.symm,rfl⟩
  · have HV:Hid (qM (val d n) i=false):=IY (bL hd.1) (by
      refine Nat.le_trans (fO (k:=30*n) (by rw [<- ft]; exact dF hd.1)) (by omega))
    clear hq
    go_enter func275,ntmps275
    go_wp2
    go_ret
    exact⟨bz HV.out.symm,rfl⟩
theorem Jg {d:Nat->Int} {n m:Nat} (h:bP d n) (hm:m<=n):val d m<=val d n:=by
 have e:=iw d m (n-m)
 rw[show m+(n-m)=n by omega] at e
 have a:=bL (show bP (fun i=>d (m+i)) (n-m) from fun i hi=>h (m+i) (by omega))
 have:=Int.mul_nonneg (Int.le_of_lt (dt m)) a
 omega
theorem Gg (ao:Option Addr) (n cap:Nat) (d:Nat->Int) (w:World) (h:aU w ao n cap d) (hd:bP d n) (hn:n<=3) (hv:val d n<9223372036854775808) :
  Calls prog 327 #[.slice ao n cap] w fun e w'=>e=.returned (G6 (val d n))∧w'=w:=by
 have hl:=h.le
 have hm:=h.max
 have HV:Hid (val d n<9223372036854775808):=hv
 clear hv
 go_enter func327,ntmps327
 go_wp2
 go_loop [3,7] (fun v i=>∃ k:Nat,k<=n∧i=G6 k∧v=G6 (val d k)) (fun _ i=>n-(intOf i).toNat)
 case atStart=>exact⟨0,Nat.zero_le _,rfl,rfl⟩
 case round=>
  obtain⟨k,hk,rfl,rfl⟩:=hrel
  by_cases hlt:k<n
  ·obtain⟨b,off,rfl,hb,hc⟩:=h.spot (by omega)
   have c:=hc k hlt
   have dk:=hd k hlt
   have v0:=bL (hd.le (show k<=n by omega))
   have v1:=dF (hd.le (show k<=n by omega))
   have m1:=Jg hd (show k+1<=n by omega)
   have hv2:=HV.out
   rw[ft] at v1
   have e1:val d (k+1)=val d k+d k*2^(30*k):=by rw[aZ,ft]
   have m0:0<=d k*2^(30*k):=Int.mul_nonneg dk.1 (Int.le_of_lt (aR _))
   have hw:wrap64 (d k*2^(30*k))=d k*2^(30*k):=IntWalk.wrap64_in _ ⟨by omega,by omega⟩
   have hor:bits .or .i64 (val d k) (d k*2^(30*k))=val d (k+1):=(zr _ _ _ v0 v1 dk.1 (by omega)).trans e1.symm
   clear e1 m0 m1 hv2 v0 v1
   go_wp2
   go_round
   case rel=>exact⟨k+1,by omega,by go_num,rfl⟩
   case measure=>simp[intOf];omega
  ·obtain rfl:k=n:=by omega
   go_wp2
   go_ret
   exact⟨rfl,rfl⟩
structure qO (w:World):Prop where
 a0:w.cell? ⟨1,0,none⟩=some (G6 52)
 a1:w.cell? ⟨1,1,none⟩=some (G6 2047)
 a2:w.cell? ⟨1,2,none⟩=some (G6 (-1074))
theorem qO.keeps {w w':World} (h:qO w) (hb:Below w.heap.size w w'):qO w':=⟨aX h.a0 hb,aX h.a1 hb,aX h.a2 hb⟩
theorem lQ (b:Int) (w:World) (L:qO w) :
  Calls prog 190 #[G6 b] w fun e w'=>e=.returned (.tuple #[.bool (dW b),G6 (aN b),G6 (bh b),.bool (ak b)])∧Below w.heap.size w w':=by
 obtain⟨a0,a1,a2⟩:=L
 by_cases h:ak b=true
 all_goals
  go_enter func190,ntmps190
  go_wp2_with (go_at_call 250;refine(Mf _ _).mono ?_;rintro e w1 ⟨rfl,hg⟩)
  refine bodyPost_ret (v:=.tuple #[.bool (dW b),G6 (aN b),G6 (bh b),.bool (ak b)]) (by simp[results,results190,go_sem,dW,h]) rfl ⟨rfl,hg.be⟩
theorem eY {b:Int} (hp:ak b=true):0<=aN b∧aN b<9007199254740992∧-1074<=bh b∧bh b<=971:=by
 have hf:=mJ b
 have hr:=lI b
 have h1:bQ b≠2047:=by simpa [ak] using hp
 unfold aN bh
 rw[if_neg h1,if_neg h1]
 split<;>omega
theorem Gh (x:Int) (w:World) (h0:0<=x) (h1:x<9223372036854775808) :
  Calls prog 258 #[G6 x] w fun e w'=>∃ v,e=.returned (.tuple #[v,G6 0])∧dE w w' x v:=by
 have HX:=Ep x w h0 h1
 have HX':Hid (Calls prog 304 #[G6 x] w fun e w'=>∃ v,e=.returned v∧dE w w' x v):=HX
 clear HX h1
 go_enter func258,ntmps258
 go_wp2_with fail
 refine HX'.out.mono ?_
 rintro e w2 ⟨v,rfl,hA⟩
 go_wp2
 go_ret2
 exact⟨_,rfl,hA⟩
theorem Es:9223372036854775808<P 2000:=by
 have:=nf (show 3<=2000 by omega)
 have e:P 3=1237940039285380274899124224:=rfl
 omega
theorem xO {ng:Bool} {M e:Int} (h0:0<=M) (h1:M<9223372036854775808) (e0:-1074<=e) (e1:e<=971):eR (sg ng M*pw e):=by
 by_cases hz:M=0
 ·rw[hz,gN,Int.zero_mul];exact qC
 ·obtain⟨l,hl⟩:=mq (show 0<M by omega)
  have hy:=Dy.of ng hl (show 0<M by omega) (show -4194304<=e by omega)
  obtain⟨c1,c2,c3⟩:=jf hl (show 0<M by omega)
  have hp:=aR l
  have hl63:l<63:=by
   have h3:(1:Int)*2^l<=M/2^l*2^l:=Int.mul_le_mul_of_nonneg_right (by omega) (by omega)
   rw[c3] at h3
   refine iz ?_
   rw[show(2:Int)^63=9223372036854775808 by decide]
   omega
  refine hy.ok.2 ⟨?_,by omega,by omega⟩
  have:M/2^l<=M:=Int.ediv_le_self _ h0
  have:=Es
  omega
theorem Gi (ng:Bool) (M e:Int) (w:World) (hT:gz w) (h0:0<=M) (h1:M<9223372036854775808) (e0:-1074<=e) (e1:e<=971) :
  Calls prog 201 #[.bool ng,G6 M,G6 e,.bool true] w fun r w'=>∃ v,r=.returned (.tuple #[v,G6 0])∧bw w w' (sg ng M*pw e) v:=by
 have hok:=xO (ng:=ng) h0 h1 e0 e1
 go_enter func201,ntmps201
 go_wp2_with fail
 refine(Gh M _ h0 h1).mono ?_
 rintro r w1 ⟨v,rfl,hA⟩
 obtain⟨so,sn,sc,d,rfl,hR,hN,hv⟩:=hA.num
 have hsn:sn<=100:=hA.num.len (k:=100) (by have:=nf (show 3<=100 by omega);have:P 3=1237940039285380274899124224:=rfl;omega)
 have hbw:=ac (af w _) hA.below
 go_wp2_with fail
 refine(qN (V:=sg ng M*pw e) hR hN.1 (by omega) (hT.keeps hbw) (by omega) (by rw[hv])).mono ?_
 rintro r w7 (⟨_,v,rfl,hD⟩|⟨hno,_⟩)
 ·have hb7:=hD.below
  obtain⟨ng',s',m',e',rfl,hyy,hA2⟩:=id hD
  obtain⟨so',sn',sc',rfl⟩:=hA2.num.shape
  have q0:=((ac hA.below hb7).block w.heap.size (by rw[fu];omega)).trans (aD _ _)
  have x0:=ae q0 0 rfl
  have x1:=ae q0 1 rfl
  have x2:=ae q0 2 rfl
  have z0:=ah q0 0
  have z1:=ah q0 1
  have z2:=ah q0 2
  go_wp2
  refine bodyPost_ret (v:=.tuple #[.agg #[.bool ng',.slice so' sn' sc',G6 e'],G6 0]) (by simp[results,results201,go_sem,x0,x1,x2]) rfl ⟨_,rfl,?_⟩
  exact cJ (g:=w.heap.size) hD hbw (Nat.le_refl _) (Nat.lt_of_lt_of_le (by rw[fu];omega) hA.below.size) _ _ _
 ·exact absurd hok hno
theorem Jh (ng:Bool) (M e:Int) (w:World) :
  Calls prog 201 #[.bool ng,G6 M,G6 e,.bool false] w fun r w'=>r=.returned (.tuple #[iy,G6 10])∧Below w.heap.size w w':=by
 go_enter func201,ntmps201
 go_wp2
 refine bodyPost_ret (v:=.tuple #[iy,G6 10]) (by simp[results,results201,go_sem,iy]) rfl ⟨rfl,?_⟩
 exact af _ _
theorem Dc (b:Int) (w:World) (L:qO w) (hT:gz w) :
  Calls prog 150 #[G6 b] w fun r w'=>∃ v er,r=.returned (.tuple #[v,G6 er])∧Below w.heap.size w w'∧((ak b=true∧er=0∧bw w w' (sg (dW b) (aN b)*pw (bh b)) v)∨(ak b=false∧er=10∧v=iy)):=by
 have hVy:ak b=true->∀ W,Below w.heap.size w W->Calls prog 201 #[.bool (dW b),G6 (aN b),G6 (bh b),.bool true] W fun r w'=>∃ v,r=.returned (.tuple #[v,G6 0])∧bw W w' (sg (dW b) (aN b)*pw (bh b)) v:=fun hp W hb=>by
  have hi:=eY hp
  exact Gi _ _ _ W (hT.keeps hb) (by omega) (by omega) (by omega) (by omega)
 have hP:=fun W hb=>lQ b W (L.keeps hb)
 generalize sg (dW b) (aN b)*pw (bh b)=V at hVy ⊢
 generalize dW b=ng at *
 generalize aN b=mg at *
 generalize bh b=ex at *
 clear L hT
 cases hp:ak b
 ·rw[hp] at hP hVy
  go_enter func150,ntmps150
  go_wp2_with fail
  refine(hP _ (af _ _)).mono ?_
  rintro r w1 ⟨rfl,hb1⟩
  go_wp2_with fail
  refine(Jh _ _ _ _).mono ?_
  unfold iy
  rintro r w2 ⟨rfl,hb2⟩
  have hbw:=ac (af w (.cells #[.bool false,.slice none 0 0,G6 0] 40)) (ac hb1 hb2)
  have q0:=((ac hb1 hb2).block w.heap.size (by rw[fu];omega)).trans (aD _ _)
  have x0:=ae q0 0 rfl
  have x1:=ae q0 1 rfl
  have x2:=ae q0 2 rfl
  have z0:=ah q0 0
  have z1:=ah q0 1
  have z2:=ah q0 2
  go_wp2
  refine bodyPost_ret (v:=.tuple #[iy,G6 10]) (by simp[results,results150,go_sem,x0,x1,x2,iy]) rfl ⟨_,_,rfl,?_,.inr ⟨by trivial,rfl,rfl⟩⟩
  exact li hbw (Nat.le_refl _) _ _ _
 ·rw[hp] at hP hVy
  go_enter func150,ntmps150
  go_wp2_with fail
  refine(hP _ (af _ _)).mono ?_
  rintro r w1 ⟨rfl,hb1⟩
  have hbw:=ac (af w (.cells #[.bool false,.slice none 0 0,G6 0] 40)) hb1
  go_wp2_with fail
  refine(hVy (by trivial) _ hbw).mono ?_
  rintro r w2 ⟨v,rfl,hD⟩
  obtain⟨ng',s',m',e',rfl,hyy,hA2⟩:=id hD
  obtain⟨so',sn',sc',rfl⟩:=hA2.num.shape
  have q0:=((ac hb1 hD.below).block w.heap.size (by rw[fu];omega)).trans (aD _ _)
  have x0:=ae q0 0 rfl
  have x1:=ae q0 1 rfl
  have x2:=ae q0 2 rfl
  have z0:=ah q0 0
  have z1:=ah q0 1
  have z2:=ah q0 2
  go_wp2
  refine bodyPost_ret (v:=.tuple #[.agg #[.bool ng',.slice so' sn' sc',G6 e'],G6 0]) (by simp[results,results150,go_sem,x0,x1,x2]) rfl ⟨_,_,rfl,?_,.inl ⟨by trivial,rfl,?_⟩⟩
  ·exact li (ac hbw hD.below) (Nat.le_refl _) _ _ _
  ·exact cJ (g:=w.heap.size) hD hbw (Nat.le_refl _) (Nat.lt_of_lt_of_le (by rw[fu];omega) hb1.size) _ _ _
def eL (way:Int) (ng:Bool):Int:=if bX way ng true 3 then 9218868437227405312 else 9218868437227405311
def aG (ng:Bool) (r:Int):Int:=if ng then r-9223372036854775808 else r
theorem Oz:bits BinOp.or IntKind.i64 9218868437227405312 (-9223372036854775808)=-4503599627370496:=by decide +kernel
theorem Mu:bits BinOp.or IntKind.i64 9218868437227405311 (-9223372036854775808)=-4503599627370497:=by decide +kernel
theorem xI.keeps {w w':World} (h:xI w) (hb:Below w.heap.size w w'):xI w' :=
 ⟨⟨aX h.lays.a0 hb,aX h.lays.a1 hb,aX h.lays.a2 hb,trivial,trivial,trivial⟩,fun j hj=>aX (h.tab j hj) hb⟩
theorem Et (way:Int) (hw:0<=way∧way<=3) (ng:Bool) (w:World) :
  Calls prog 302 #[mo way,.bool ng,G6 9218868437227405312,G6 (-9223372036854775808)] w fun e w'=>e=.returned (G6 (aG ng (eL way ng)))∧Below w.heap.size w w':=by
 have hF:=vr way hw
 have hE:=sM way
 unfold mo eL
 generalize ld way=F at hF hE ⊢
 have q0:=heap_alloc_new w (.cells #[.func (.func F) #[] #[]] 282)
 have k0:=ae q0 0 rfl
 have o1:=Oz
 have o2:=Mu
 obtain⟨R,hR⟩:∃ R,bX way ng true 3=R:=⟨_,rfl⟩
 have hFF:=hF ng true 3
 rw[hR] at hFF ⊢
 clear hR hF
 cases ng<;>cases R
 all_goals
  unfold aG
  go_enter func302,ntmps302
  go_wp2_with (first|(refine(hFF _).mono ?_;rintro _ _ ⟨rfl,rfl⟩))
  all_goals go_ret
  all_goals exact⟨by simp,af _ _⟩
def mO (way:Int) (ng sd:Bool) (mag:Nat) (exp:Int) (cut:Bool):Int × Bool :=
 let E:=rE 53 (-1074) mag exp
 let u:=rU mag (E-exp)
 let left:=rL mag cut (E-exp)
 let U:=u+(if bX way ng (decide (u % 2=1)) left then 1 else 0)
 let neg:=ng&&(decide (0<U)||sd)
 if jk 52 2047 (-1074) U E then (jp neg U E,decide (left≠0)) else (aG neg (eL way neg),true)
theorem zP (way:Int) (hw:0<=way∧way<=3) (ng sd:Bool) (mag:Nat) (exp:Int) (cut:Bool) (w:World) (Ev:xI w) (hm:mag<18446744073709551616) (he:-4500000<=exp∧exp<=4500000) :
    Calls prog 255 #[ij ng mag exp cut sd,mo way] w fun e w'=>e=.returned (.tuple #[G6 (mO way ng sd mag exp cut).1,.bool (mO way ng sd mag exp cut).2])∧Below w.heap.size w w':=by
  have e64:(2:Nat)^64=18446744073709551616:=by decide
  have e53:(2:Nat)^(53:Int).toNat=9007199254740992:=by decide
  have hE:-5000000<=rE 53 (-1074) mag exp∧rE 53 (-1074) mag exp<=5000000:=by
    have hbl:Lib.bitLen mag<=64:=by
      by_cases h0:mag=0
      · rw[h0];decide
      · exact(M.iF mag (by omega) h0).2.2.2
    unfold rE
    omega
  have hu:rU mag (rE 53 (-1074) mag exp-exp)<=9007199254740991:=by
    by_cases h0:mag=0
    · rw[h0];unfold rU;split<;>simp
    · have:=(CE (size:=53) (low:=-1074) (exp:=exp) (by decide) (by omega) h0).1
      rw[e53] at this
      omega
  have hUn:=fun W=>FT way hw ng mag exp (rE 53 (-1074) mag exp) cut sd W hm hE (by omega) (by omega)
  have HR:mO way ng sd mag exp cut=(let E:=rE 53 (-1074) mag exp
    let u:=rU mag (E-exp)
    let left:=rL mag cut (E-exp)
    let U:=u+(if bX way ng (decide (u % 2=1)) left then 1 else 0)
    let neg:=ng&&(decide (0<U)||sd)
    if jk 52 2047 (-1074) U E then (jp neg U E,decide (left≠0)) else (aG neg (eL way neg),true)):=rfl
  simp only at HR
  have hEE:rE 53 (-1074) mag exp=rE 53 (-1074) mag exp:=rfl
  obtain⟨E,hEq⟩:∃ E,rE 53 (-1074) mag exp=E:=⟨_,rfl⟩
  rw[hEq] at hE hu hUn HR
  obtain⟨left,hleft⟩:∃ l,rL mag cut (E-exp)=l:=⟨_,rfl⟩
  rw[hleft] at hUn HR
  obtain⟨U,hU⟩:∃ U,rU mag (E-exp)+(if bX way ng (decide (rU mag (E-exp) % 2=1)) left then 1 else 0)=U:=⟨_,rfl⟩
  rw[hU] at hUn HR
  have hU2:U<=9007199254740992:=by rw[<- hU];split<;>omega
  obtain⟨neg,hneg⟩:∃ n,(ng&&(decide (0<U)||sd))=n:=⟨_,rfl⟩
  have hFl:=fun W=>Mp (ld way) ng mag exp 53 (-1074) cut sd U E (decide (left≠0)) W hm he (by omega) (by omega) hEq (by omega) hUn
  rw[hneg] at hFl HR
  have hJ:=fun W (EW:xI W)=>IX neg (U:Int) E W EW (by unfold ag;omega) (by unfold ag;omega)
  have hB:=fun W=>Et way hw neg W
  obtain⟨other,hoth⟩:∃ o,decide (left≠0)=o:=⟨_,rfl⟩
  rw[hoth] at hFl HR
  obtain⟨fin,hfin⟩:∃ f,jk 52 2047 (-1074) (U:Int) E=f:=⟨_,rfl⟩
  obtain⟨pt,hpt⟩:∃ p,jp neg (U:Int) E=p:=⟨_,rfl⟩
  rw[hpt] at hJ HR
  rw[hfin] at hJ HR
  obtain⟨by1,hby⟩:∃ b,aG neg (eL way neg)=b:=⟨_,rfl⟩
  rw[hby] at hB HR
  rw[HR]
  have hUi:((U:Nat):Int)=((U:Nat):Int):=rfl
  have hb2:=aM w (.cells #[.bool ng,.int .u64 mag,G6 exp,.bool cut,.bool sd] 264) (.cells #[.func (.func (ld way)) #[] #[]] 282)
  have q1:=cZ w (.cells #[.bool ng,.int .u64 mag,G6 exp,.bool cut,.bool sd] 264) (.cells #[.func (.func (ld way)) #[] #[]] 282)
  have k1:=ae q1 0 rfl
  have HEV:Hid (xI w):=Ev
  clear Ev HR hUn hEq hleft hU hneg hoth hfin hpt hby hU2 hu hE hEE hUi e64 e53
  unfold mo ij at *
  generalize ld way=F at *
  go_enter func255,ntmps255
  go_wp2_with fail
  refine(hFl _).mono ?_
  rintro _ w1 ⟨rfl,hb1⟩
  have hbw:=ac hb2 hb1
  have p1:=(hb1.block _ (aGe q1).1).trans q1
  have k2:=ae p1 0 rfl
  clear hFl hb2 hb1 q1 k1
  go_wp2_with fail
  refine(hJ _ (HEV.out.keeps hbw)).mono ?_
  rintro _ w2 ⟨rfl,hg⟩
  have hb2:=hg.be
  have hbw2:=ac hbw hb2
  have p2:=(hb2.block _ (aGe p1).1).trans p1
  have k3:=ae p2 0 rfl
  clear hJ hg p1 p2 k2 hb2 hbw
  cases fin
  · go_wp2_with fail
    refine(hB _).mono ?_
    rintro _ w3 ⟨rfl,hb3⟩
    go_wp2
    all_goals go_ret2
    all_goals exact⟨by simp,ac hbw2 hb3⟩
  · go_wp2
    all_goals go_ret2
    all_goals exact⟨by simp,hbw2⟩
theorem dU.parts {w:World} {v:Value} {V:Int} (h:dU w v V) {k:Nat} (hV:V<P k):∃ ao n cap d,v=.slice ao n cap∧aU w ao n cap d∧cT d n∧val d n=V∧n<=k:=by
 obtain⟨ao,n,cap,rfl⟩:=h.shape
 have hl:=h.len hV
 obtain⟨ao',n',cap',d,e,hR,h2,h3⟩:=h
 simp only[Value.slice.injEq] at e
 obtain⟨rfl,rfl,rfl⟩:=e
 exact⟨ao,n,cap,d,rfl,hR,h2,h3,hl⟩
theorem Mv {V l:Int} (h:qJ V l) (h0:0<V) (k:Nat):decide (l<(k:Int))=decide (V % 2^k≠0):=by
 obtain⟨j,rfl,q,hq⟩:=uw h h0
 by_cases hjk:j<k
 ·rw[decide_eq_true (by omega)]
  refine(decide_eq_true ?_).symm
  intro hz
  obtain⟨d,hd⟩:∃ d,k=j+1+d:=⟨k-j-1,by omega⟩
  have h1:(2:Int)^k ∣ V:=Int.dvd_of_emod_eq_zero hz
  obtain⟨c,hc⟩:=h1
  rw[hq,hd,Int.pow_add,Int.pow_succ] at hc
  have hp:=aR j
  have e:(2:Int)^j*(2*q+1)=2^j*(2*(2^d*c)):=by
   rw[Int.mul_comm,hc]
   simp only[Int.mul_assoc]
  have:=Int.eq_of_mul_eq_mul_left (by omega) e
  omega
 ·rw[decide_eq_false (by omega)]
  refine(decide_eq_false ?_).symm
  intro hz
  apply hz
  obtain⟨d,hd⟩:∃ d,j=k+d:=⟨j-k,by omega⟩
  rw[hq,hd,Int.pow_add,Int.mul_comm,Int.mul_assoc]
  exact Int.mul_emod_right _ _
theorem Eu (ao:Option Addr) (n ca:Nat) (a:Nat->Int) (k:Nat) (w:World) (ha:aU w ao n ca a) (na:cT a n) (hn:n<=5000) (hk0:0<k) (hk:k<=1000000) (h0:0<val a n) (hT:gz w) :
  Calls prog 326 #[.slice ao n ca,G6 (-(k:Int))] w fun e w'=>∃ v,e=.returned (.tuple #[v,.bool (decide (val a n % 2^k≠0))])∧dE w w' (val a n/2^k) v:=by
 have CL:Hid (∀ W,Below w.heap.size w W->_):=fun W hb=>xD ao n ca k a W (ha.keeps hb) na.1 (by omega) (by omega)
 have CW:Hid (∀ W,Below w.heap.size w W->_):=fun W hb=>qL ao n ca a W (ha.keeps hb) na.1 (by omega) (hT.keeps hb)
 have HM:Hid (∀ l,qJ (val a n) l->decide (l<(k:Int))=decide (val a n % 2^k≠0)):=fun l h=>Mv h h0 k
 generalize decide (val a n % 2^k≠0)=R at HM ⊢
 generalize val a n/2^k=Q at CL ⊢
 have w1:IntKind.i64.wrap (k:Int)=(k:Int):=by rw[bK];omega
 go_enter func326,ntmps326
 go_wp2_with fail
 refine(CL.out _ (ap _)).mono ?_
 rintro _ w2 ⟨v,rfl,hA⟩
 have hb2:=hA.below
 have HA:Hid (dE w w2 Q v):=hA
 obtain⟨so,sn,sc,rfl⟩:=hA.num.shape
 clear hA CL
 go_wp2_with fail
 refine(CW.out _ hb2).mono ?_
 rintro _ w3 ⟨l,rfl,hl,rfl⟩
 have hr:=HM.out l hl
 go_wp2
 all_goals refine bodyPost_ret (v:=.tuple #[.slice so sn sc,.bool R]) (by simp[results,results326,go_sem]) rfl ⟨_,rfl,HA.out⟩
theorem BP (ao:Option Addr) (n ca:Nat) (a:Nat->Int) (w:World) (ha:aU w ao n ca a) (na:cT a n) (hn:n<=5000) :
  Calls prog 326 #[.slice ao n ca,G6 0] w fun e w'=>∃ v,e=.returned (.tuple #[v,.bool false])∧dE w w' (val a n) v:=by
 have CR:Hid (Calls prog 332 #[.slice ao n ca,G6 0] w fun e w'=>∃ v,e=.returned v∧dE w w' (val a n) v):=by
  have h:=FN ao n ca 0 a w ha na.1 (by omega) (by omega)
  rw[Int.pow_zero,Int.mul_one] at h
  exact h
 go_enter func326,ntmps326
 go_wp2_with fail
 refine CR.out.mono ?_
 rintro _ w2 ⟨v,rfl,hA⟩
 have HA:Hid (dE w w2 (val a n) v):=hA
 obtain⟨so,sn,sc,rfl⟩:=hA.num.shape
 clear hA CR
 go_wp2
 all_goals refine bodyPost_ret (v:=.tuple #[.slice so sn sc,.bool false]) (by simp[results,results326,go_sem]) rfl ⟨_,rfl,HA.out⟩
theorem OC (W:World) (g:Nat) (a b c d e:Value):Wr g W (((((W.setCell ⟨g,0,none⟩ a).setCell ⟨g,1,none⟩ b).setCell ⟨g,2,none⟩ c).setCell ⟨g,3,none⟩ d).setCell ⟨g,4,none⟩ e):=(((((Wr.refl g W).setCell 0 a).setCell 1 b).setCell 2 c).setCell 3 d).setCell 4 e
def vK (M:Int):Nat:=aQ M-62
theorem qP {M:Int} (h:0<=M):0<=M/2^vK M∧M/2^vK M<4611686018427387904:=by
 have hp:=aR (vK M)
 refine⟨Int.ediv_nonneg h (by omega),?_⟩
 have h1:=ls M
 have h2:(2:Int)^aQ M<=2^(62+vK M):=eG (by unfold vK;omega)
 have e:(2:Int)^(62+vK M)=4611686018427387904*2^vK M:=by rw[Int.pow_add];rfl
 exact Int.ediv_lt_of_lt_mul hp (by omega)
theorem Ji {a:Nat->Int} {n:Nat} (na:cT a n):aQ (val a n)<=30*n:=by
 cases n with
 | zero=>show aQ 0<=_;rw[sF];omega
 | succ m=>
  rw[qD na]
  have h:aQ (a m)<=30:=fO (by show a m<1073741824;exact(na.1 m (by omega)).2)
  omega
theorem BQ (ng:Bool) (ao:Option Addr) (n ca:Nat) (a:Nat->Int) (e:Int) (w:World) (ha:aU w ao n ca a) (na:cT a n) (hn:n<=5000) (he:-1100000<=e∧e<=1100000) (hT:gz w) :
  Calls prog 303 #[.agg #[.bool ng,.slice ao n ca,G6 e]] w fun r w'=>r=.returned (ij ng (val a n/2^vK (val a n)).toNat (e+vK (val a n)) (decide (val a n % 2^vK (val a n)≠0)) false)∧Below w.heap.size w w':=by
 have hv0:=bL na.1
 have hbl:aQ (val a n)<=150000:=by have:=Ji na;omega
 have CB:Hid (∀ W,Below w.heap.size w W->_):=fun W hb=>kZ ao n ca a W (ha.keeps hb) na (by omega)
 obtain⟨k,hk⟩:∃ k,vK (val a n)=k:=⟨_,rfl⟩
 have hsm:=qP hv0
 rw[hk] at hsm ⊢
 have CS:Hid (∀ W,Below w.heap.size w W->Calls prog 326 #[.slice ao n ca,G6 (-(k:Int))] W fun e w'=>∃ v,e=.returned (.tuple #[v,.bool (decide (val a n % 2^k≠0))])∧dE W w' (val a n/2^k) v):=fun W hb=>by
  by_cases h0:k=0
  ·subst h0
   have h:=BP ao n ca a W (ha.keeps hb) na hn
   simpa using h
  ·have hp:0<val a n:=by
    rcases Int.lt_or_eq_of_le hv0 with h|h
    ·exact h
    ·exfalso;rw[<- h] at hk;apply h0;rw[<- hk];decide
   exact Eu ao n ca a k W (ha.keeps hb) na hn (by omega) (by unfold vK at hk;omega) hp (hT.keeps hb)
 have hbk:min (62-(aQ (val a n):Int)) 0=-(k:Int):=by unfold vK at hk;omega
 obtain⟨B,hB⟩:∃ B:Int,(aQ (val a n):Int)=B:=⟨_,rfl⟩
 have hB0:0<=B∧B<=150000:=by omega
 rw[hB] at CB hbk
 have hk2:k<=150000:=by unfold vK at hk;omega
 generalize decide (val a n % 2^k≠0)=R at CS ⊢
 obtain⟨Q,hQ⟩:∃ Q:Nat,val a n/2^k=(Q:Int):=Int.eq_ofNat_of_zero_le hsm.1
 rw[hQ] at CS hsm ⊢
 rw[Int.toNat_natCast]
 have CM:Hid (∀ (W':World) so sn sc,dU W' (.slice so sn sc) (Q:Int)->Calls prog 327 #[.slice so sn sc] W' fun e w'=>e=.returned (G6 (Q:Int))∧w'=W'):=fun W' so sn sc hA=>by
  obtain⟨ao',n',ca',d',hs,hR,hN,hV,hl⟩:=hA.parts (k:=3) (by rw[show P 3=1237940039285380274899124224 by decide];omega)
  simp only[Value.slice.injEq] at hs
  obtain⟨rfl,rfl,rfl⟩:=hs
  rw[<- hV]
  exact Gg _ _ _ _ _ hR hN.1 hl (by omega)
 have w1:IntKind.i64.wrap (62-B)=62-B:=by rw[bK];omega
 have w2:IntKind.i64.wrap (e+k)=e+k:=by rw[bK];omega
 have w3:IntKind.u64.wrap (Q:Int)=(Q:Int):=by rw[IntKind.wrap_u64];omega
 have hmin:∀ (ts:Array TypeId) (t:TypeId) (x y:Int) (w:World),(Builtin.min_ ts t #[G6 x,G6 y]).run prog w=.ok (G6 (min x y)) w:=fun ts t x y w=>by rw[run_min_int2];congr 2;omega
 have q0:=ew w (.cells #[.bool ng,.slice ao n ca,G6 e] 40) (.cells #[.bool false,.int .u64 0,G6 0,.bool false,.bool false] 264)
 have q1:=cZ w (.cells #[.bool ng,.slice ao n ca,G6 e] 40) (.cells #[.bool false,.int .u64 0,G6 0,.bool false,.bool false] 264)
 have hb1:=aM w (.cells #[.bool ng,.slice ao n ca,G6 e] 40) (.cells #[.bool false,.int .u64 0,G6 0,.bool false,.bool false] 264)
 clear hQ hk hB hbl hv0 hsm hT
 unfold ij
 go_enter func303,ntmps303
 go_wp2_with fail
 generalize (w.alloc (.cells #[.bool ng,.slice ao n ca,G6 e] 40)).alloc (.cells #[.bool false,.int .u64 0,G6 0,.bool false,.bool false] 264)=wx at q0 q1 hb1 ⊢
 refine(CB.out _ hb1).mono ?_
 rintro _ _ ⟨rfl,rfl⟩
 have k1:=ae q0 1 rfl
 go_wp2_with fail
 refine(CS.out _ hb1).mono ?_
 rintro _ w4 ⟨v,rfl,hA⟩
 have hb4:=hA.below
 obtain⟨so,sn,sc,rfl⟩:=hA.num.shape
 have CM1:Hid (Calls prog 327 #[.slice so sn sc] w4.drew fun e w'=>e=.returned (G6 (Q:Int))∧w'=w4.drew):=CM.out w4.drew so sn sc (hA.num.keeps (ap w4).drew)
 have hbw:=ac hb1 hb4
 have p0:=(hb4.block _ (aGe q0).1).trans q0
 have p1:=(hb4.block _ (aGe q1).1).trans q1
 clear CB CS k1 hA CM
 have c0:=ae p0 0 rfl
 have c2:=ae p0 2 rfl
 have x0:=ae p1 0 rfl
 have x1:=ae p1 1 rfl
 have x2:=ae p1 2 rfl
 have x3:=ae p1 3 rfl
 have x4:=ae p1 4 rfl
 have z0:=ah p1 0
 have z1:=ah p1 1
 have z2:=ah p1 2
 have z3:=ah p1 3
 have z4:=ah p1 4
 go_wp2_with fail
 have c1:=ae p0 1 rfl
 go_region_with (go_at_call 327;refine CM1.out.mono ?_;rintro _ _ ⟨rfl,rfl⟩)
 all_goals go_wp2
 all_goals refine bodyPost_ret (v:=.agg #[.bool ng,.int .u64 Q,G6 (e+k),.bool R,.bool false]) (by simp[results,results303,go_sem,x0,x1,x2,x3,x4]) rfl ⟨rfl,?_⟩
 all_goals exact((OC w4 (w.heap.size+1) _ _ _ _ _).below hbw hbw.size (Nat.le_succ _)).drew
def Rx (A k:Int):Int:=if 0<=k then A*2^k.toNat else A/2^(-k).toNat
def Sw (A k:Int):Bool:=if 0<=k then false else decide (A % 2^(-k).toNat≠0)
def qK (A B:Int):Int:=62+(aQ B:Int)-(aQ A:Int)
def Jj (way:Int) (a b:aW):Int × Bool:=mO way (a.ng != b.ng) false (Rx (val a.d a.n) (qK (val a.d a.n) (val b.d b.n))/val b.d b.n).toNat (a.e-b.e-qK (val a.d a.n) (val b.d b.n)) (Sw (val a.d a.n) (qK (val a.d a.n) (val b.d b.n))||decide (Rx (val a.d a.n) (qK (val a.d a.n) (val b.d b.n)) % val b.d b.n≠0))
theorem zQ (F G:Value) (hF:∃ f,F=.func f #[] #[]) (hG:∃ f,G=.func f #[] #[]) (near:Int) (R:Value) (o:Option Addr) (n c:Nat) (w:World) :
  Calls prog 314 #[.agg #[F,G],G6 near,G6 0,R,.slice o n c] w fun e w'=>e=.returned (.tuple #[G6 near,G6 0])∧Below w.heap.size w w':=by
 obtain⟨f,rfl⟩:=hF
 obtain⟨g,rfl⟩:=hG
 have CW:=fun W=>sK 0 W
 unfold mo ld at CW
 simp only[if_true] at CW
 have hst:∀ (p:Addr) (F:Nat) (m:Mode) (w:World),(store p (.func (.func F) #[] #[]) m).run prog w=stored prog w p (.func (.func F) #[] #[]) m:=fun p F m w=>run_store _ w p _ m rfl
 go_enter func314,ntmps314
 go_wp2_with fail
 refine(CW _).mono ?_
 rintro _ w2 ⟨rfl,hb2⟩
 have hb1:=af w (.cells #[.func f #[] #[],.func g #[] #[]] 294)
 have hbw:=ac hb1 hb2
 have q1:=heap_alloc_new w2 (.cells #[.nilFunc] 282)
 have y0:=ae q1 0 rfl
 have y1:=ah q1 0
 clear CW
 go_wp2
 all_goals refine bodyPost_ret (v:=.tuple #[G6 near,G6 0]) (by simp[results,results314,go_sem]) rfl ⟨rfl,?_⟩
 all_goals exact ac hbw (af _ _)
theorem Ew (w:World):Calls prog 313 #[] w fun e w'=>e=.returned (.agg #[.func (.func 150) #[] #[],.func (.func 255) #[] #[]])∧Below w.heap.size w w':=by
 have hmf:∀ (fn:Fn) (first cap:Array Value) (w:World),(Instr.makeFunc fn first cap).run prog w=.ok (.func fn first cap) w:=fun _ _ _ _=>rfl
 have hst:∀ (p:Addr) (F:Nat) (m:Mode) (w:World),(store p (.func (.func F) #[] #[]) m).run prog w=stored prog w p (.func (.func F) #[] #[]) m:=fun p F m w=>run_store _ w p _ m rfl
 have q1:=heap_alloc_new w (.cells #[.nilFunc,.nilFunc] 294)
 have x0:=ae q1 0 rfl
 have x1:=ae q1 1 rfl
 have z0:=ah q1 0
 have z1:=ah q1 1
 go_enter func313,ntmps313
 go_wp2
 all_goals refine bodyPost_ret (v:=.agg #[.func (.func 150) #[] #[],.func (.func 255) #[] #[]]) (by simp[results,results313,go_sem]) rfl ⟨rfl,?_⟩
 all_goals exact af _ _
def wG (g:Nat) (x:Int):aW:=⟨false,some ⟨g,0,none⟩,1,1,fun _=>x,0⟩
theorem Ql (g k:Nat):Jj 0 (wG g 1) (wG k 3)=(4599676419421066581,true):=by
 have e:Jj 0 (wG g 1) (wG k 3)=Jj 0 (wG 0 1) (wG 0 3):=rfl
 rw[e]
 decide +kernel
def aW.neg (r:aW):aW:=⟨!r.ng,r.ao,r.n,r.cap,r.d,r.e⟩
theorem aW.neg_V (r:aW):r.neg.V=-r.V:=by
 show sg (!r.ng) _*_=_
 rw[zu,Int.neg_mul];rfl
theorem aW.neg_sane {r:aW} (h:gp r):gp r.neg:=h
theorem Jk (x y:aW) (g h:Nat) (w:World) (cg:w.heap[g]?=some (.cells #[.bool x.ng,.slice x.ao x.n x.cap,G6 x.e] 40 (0,0))) (ch:w.heap[h]?=some (.cells #[.bool y.ng,.slice y.ao y.n y.cap,G6 y.e] 40 (0,0)))
  (hx:aU w x.ao x.n x.cap x.d) (hy:aU w y.ao y.n y.cap y.d) (sx:gp x) (sy:gp y) (hT:gz w) :
  Calls prog 166 #[.pointer (some ⟨g,0,none⟩),.pointer (some ⟨h,0,none⟩)] w (wF w (x.V+y.V)):=by
 obtain⟨an,ao,n,ca,a,e⟩:=x
 obtain⟨bn,bo,m,cb,b,f⟩:=y
 simp only at cg ch hx hy
 have hb:=af w (.cells #[.bool false,.slice none 0 0,G6 0] 40)
 have g0:=am (.cells #[.bool false,.slice none 0 0,G6 0] 40) cg
 have g1:=am (.cells #[.bool false,.slice none 0 0,G6 0] 40) ch
 have k0:=ae g0 0 rfl
 have k1:=ae g0 1 rfl
 have k2:=ae g0 2 rfl
 have j0:=ae g1 0 rfl
 have j1:=ae g1 1 rfl
 have j2:=ae g1 2 rfl
 have hN:=fun q=>vv (w:=(w.alloc (.cells #[.bool false,.slice none 0 0,G6 0] 40)).alloc (.cells #[.bool an,.slice ao n ca,G6 e,.bool bn,.slice bo m cb,G6 f] 40)) (g:=w.heap.size+1) (x:=⟨an,ao,n,ca,a,e⟩) (y:=⟨bn,bo,m,cb,b,f⟩) (t:=40) q (hx.keeps (aM _ _ _)) (hy.keeps (aM _ _ _))
 go_enter func166,ntmps166
 go_wp2_with fail
 refine(xM _ _ _ _ _ (hN (cZ _ _ _)) (fun i hi=>?_) (by omega) (hT.keeps (aM _ _ _))).mono ?_
 ·match i,hi with
  | 0,_=>exact sx
  | 1,_=>exact sy
 rw[Li]
 rintro r w7 (⟨hok,v,rfl,hD⟩|⟨hno,rfl,hb7⟩)
 ·have hb7:=hD.below
  obtain⟨ng',s',m',e',rfl,hyy,hA⟩:=id hD
  obtain⟨so,sn,sc,rfl⟩:=hA.num.shape
  have q0:=(hb7.block w.heap.size (by rw[jR];omega)).trans (ew _ _ _)
  have x0:=ae q0 0 rfl
  have x1:=ae q0 1 rfl
  have x2:=ae q0 2 rfl
  have z0:=ah q0 0
  have z1:=ah q0 1
  have z2:=ah q0 2
  go_wp2
  refine bodyPost_ret (v:=.agg #[.bool ng',.slice so sn sc,G6 e']) (by simp[results,results166,go_sem,x0,x1,x2]) rfl ?_
  exact .inl ⟨hok,_,rfl,cJ (g:=w.heap.size) hD (aM _ _ _) (Nat.le_refl _) (by rw[jR];omega) _ _ _⟩
 ·exact⟨rfl,.inr ⟨hno,rfl,ac (aM _ _ _) hb7⟩⟩
theorem Mw (x y:aW) (w:World) (hx:aU w x.ao x.n x.cap x.d) (hy:aU w y.ao y.n y.cap y.d) (ox:gK x=true) (oy:gK y=true) (hT:gz w) :
  Calls prog 98 #[x.v,y.v] w fun r w'=>∃ v er,r=.returned (.tuple #[v,G6 er])∧lN w w' (x.V-y.V) v er:=by
 have hmf:∀ (fn:Fn) (first cap:Array Value) (w:World),(Instr.makeFunc fn first cap).run prog w=.ok (.func fn first cap) w:=fun _ _ _ _=>rfl
 have hE:∀ (cap:Array Value) (w:World),(callFunc 166 cap).run prog w=.ok (.enter 166 cap) w:=by
  intro cap w
  simp[go_sem]
 have hA:=zN x y
 rw[ox,oy] at hA
 have hN:=fun W q hb=>vv (w:=W) (g:=w.heap.size+3) (x:=x) (y:=y) (t:=40) q (hx.keeps hb) (hy.keeps hb)
 have hC:=fun W hb cg ch=>Jk x y.neg w.heap.size (w.heap.size+1) W cg ch (hx.keeps hb) (hy.keeps hb) (ct ox) (aW.neg_sane (ct oy)) (hT.keeps hb)
 generalize tz x y=pr at hA hN
 rw[show x.V-y.V=x.V+y.neg.V by rw[aW.neg_V];omega]
 generalize x.V+y.neg.V=V at hC ⊢
 clear ox oy
 obtain⟨an,ao,n,ca,a,e⟩:=x
 obtain⟨bn,bo,m,cb,b,f⟩:=y
 unfold aW.v
 unfold aW.neg at hC
 simp only at hx hy hN hC ⊢
 go_enter func98,ntmps98
 go_wp2_with fail
 refine(pB _ _ _ _ _ (hN _ (lg _ _ _ _ _) (gY _ _ _ _ _))).mono ?_
 rw[hA]
 rintro r w1 ⟨rfl,hb1⟩
 have hbw:=ac (gY w _ _ _ _) hb1
 have g0:=(hb1.block w.heap.size (by rw[jw];omega)).trans (lO _ _ _ _ _)
 have g1:=(hb1.block (w.heap.size+1) (by rw[jw];omega)).trans (lP _ _ _ _ _)
 have g2:=(hb1.block (w.heap.size+2) (by rw[jw];omega)).trans (lf _ _ _ _ _)
 have hs4:w.heap.size+4<=w1.heap.size:=by have:=hb1.size;rw[jw] at this;exact this
 have y0:=ae g1 0 rfl
 have y1:=ah g1 0
 go_wp2_with fail
 have hbw':Below w.heap.size w (w1.setCell ⟨w.heap.size+1,0,none⟩ (.bool (!bn))):=hbw.setCell (p:=⟨w.heap.size+1,0,none⟩) (Nat.le_succ _) _
 have u0:=(Below.heap_setCell w1 ⟨w.heap.size+1,0,none⟩ (.bool (!bn)) w.heap.size (by show w.heap.size≠w.heap.size+1;omega)).trans g0
 have u2:=(Below.heap_setCell w1 ⟨w.heap.size+1,0,none⟩ (.bool (!bn)) (w.heap.size+2) (by show w.heap.size+2≠w.heap.size+1;omega)).trans g2
 have u1:=aI g1 0 (.bool (!bn))
 have us:(w1.setCell ⟨w.heap.size+1,0,none⟩ (.bool (!bn))).heap.size=w1.heap.size:=by simp[World.setCell]
 generalize w1.setCell ⟨w.heap.size+1,0,none⟩ (.bool (!bn))=w9 at hbw' u0 u1 u2 us ⊢
 clear hbw g0 g1 g2 hb1 y0 y1
 have hbw:=hbw'
 have g0:=u0
 have g1:w9.heap[w.heap.size+1]?=some (.cells #[.bool (!bn),.slice bo m cb,G6 f] 40 (0,0)):=u1
 have g2:=u2
 refine(uy (V:=V) (hE _) (fun W hW=>hC W (ac hbw hW) ((hW.block _ (by omega)).trans g0) ((hW.block _ (by omega)).trans g1))).mono ?_
 rintro r w2 ⟨v,er,rfl,hF⟩
 obtain⟨ng',so,sn,sc,e',rfl⟩:=hF.shape
 have q0:=(hF.1.block (w.heap.size+2) (by omega)).trans g2
 have x0:=ae q0 0 rfl
 have x1:=ae q0 1 rfl
 have x2:=ae q0 2 rfl
 have z0:=ah q0 0
 have z1:=ah q0 1
 have z2:=ah q0 2
 go_wp2
 refine bodyPost_ret (v:=.tuple #[.agg #[.bool ng',.slice so sn sc,G6 e'],G6 er]) (by simp[results,results98,go_sem,x0,x1,x2]) rfl ⟨_,_,rfl,?_⟩
 exact ux (g:=w.heap.size+2) hF hbw (by omega) (by omega) _ _ _
def oj (x y:aW):Int:=sg (x.ng != y.ng) (val x.d x.n*val y.d y.n)*pw (x.e+y.e)
theorem tA {x y:aW} (hx:-2097152<=x.e) (hy:-2097152<=y.e):oj x y*2^4194304=x.V*y.V:=by
 unfold oj aW.V
 rw[Int.mul_assoc,<- oh hx hy,<- FE];grind
theorem zR (x y:aW) (w:World) (hx:aU w x.ao x.n x.cap x.d) (hy:aU w y.ao y.n y.cap y.d) (sx:gp x) (sy:gp y) :
  Calls prog 169 #[x.v,y.v] w fun r w'=>∃ s,r=.returned (.agg #[.bool (x.ng != y.ng),s,G6 (x.e+y.e)])∧dE w w' (val x.d x.n*val y.d y.n) s:=by
 obtain⟨an,ao,n,ca,a,e⟩:=x
 obtain⟨bn,bo,m,cb,b,f⟩:=y
 obtain⟨s1,s2,s3,s4⟩:=sx
 obtain⟨t1,t2,t3,t4⟩:=sy
 unfold aW.v
 simp only at *
 have hw:IntKind.i64.wrap (e+f)=e+f:=by rw[bK];omega
 have hb3:=df w (.cells #[.bool an,.slice ao n ca,G6 e] 40) (.cells #[.bool bn,.slice bo m cb,G6 f] 40) (.cells #[.bool false,.slice none 0 0,G6 0] 40)
 have g0:=pD w (.cells #[.bool an,.slice ao n ca,G6 e] 40) (.cells #[.bool bn,.slice bo m cb,G6 f] 40) (.cells #[.bool false,.slice none 0 0,G6 0] 40)
 have g1:=pE w (.cells #[.bool an,.slice ao n ca,G6 e] 40) (.cells #[.bool bn,.slice bo m cb,G6 f] 40) (.cells #[.bool false,.slice none 0 0,G6 0] 40)
 have g2:=lh w (.cells #[.bool an,.slice ao n ca,G6 e] 40) (.cells #[.bool bn,.slice bo m cb,G6 f] 40) (.cells #[.bool false,.slice none 0 0,G6 0] 40)
 have hs3:=nt w (.cells #[.bool an,.slice ao n ca,G6 e] 40) (.cells #[.bool bn,.slice bo m cb,G6 f] 40) (.cells #[.bool false,.slice none 0 0,G6 0] 40)
 go_enter func169,ntmps169
 go_wp2_with fail
 have HX:=hx.keeps hb3
 have HY:=hy.keeps hb3
 generalize ((w.alloc (.cells #[.bool an,.slice ao n ca,G6 e] 40)).alloc (.cells #[.bool bn,.slice bo m cb,G6 f] 40)).alloc (.cells #[.bool false,.slice none 0 0,G6 0] 40)=wx at hb3 g0 g1 g2 hs3 HX HY ⊢
 have k0:=ae g0 0 rfl
 have k1:=ae g0 1 rfl
 have k2:=ae g0 2 rfl
 have j0:=ae g1 0 rfl
 have j1:=ae g1 1 rfl
 have j2:=ae g1 2 rfl
 have hb1:=ap wx
 have C1:∀ W,Below wx.heap.size wx W->Calls prog 226 #[.slice ao n ca,.slice bo m cb] W fun r w'=>∃ so sn sc,r=.returned (.slice so sn sc)∧dE W w' (val a n*val b m) (.slice so sn sc)∧Below W.heap.size W w':=fun W h=>by
  refine(BL ao bo n m ca cb a b W (HX.keeps h) (HY.keeps h) s1.1 t1.1 (by omega) (by omega)).mono ?_
  rintro r w' ⟨v,rfl,hA⟩
  obtain⟨so,sn,sc,rfl⟩:=hA.num.shape
  exact⟨so,sn,sc,rfl,hA,hA.below⟩
 go_region_held3 (fun W=>(W.cell? ⟨w.heap.size,0,none⟩=some (.bool an)∧W.cell? ⟨w.heap.size,1,none⟩=some (.slice ao n ca)∧W.cell? ⟨w.heap.size,2,none⟩=some (G6 e))∧W.cell? ⟨w.heap.size+1,0,none⟩=some (.bool bn)∧W.cell? ⟨w.heap.size+1,1,none⟩=some (.slice bo m cb)∧W.cell? ⟨w.heap.size+1,2,none⟩=some (G6 f))
  (first|assumption|exact⟨⟨k0,k1,k2⟩,j0,j1,j2⟩|exact⟨oQ (W:=wx.drew) ⟨k0,k1,k2⟩ hbv1,oQ (W:=wx.drew) ⟨j0,j1,j2⟩ hbv1⟩|exact⟨lb (oQ (W:=wx.drew) ⟨k0,k1,k2⟩ hbv1) (by omega) _ _ _,lb (oQ (W:=wx.drew) ⟨j0,j1,j2⟩ hbv1) (by omega) _ _ _⟩)
  (first|(go_at_call 226;refine(C1 _ hb1.drew).mono ?_;rintro y w3 ⟨so,sn,sc,rfl,hv,hbv1⟩;have q0:=(hbv1.block (w.heap.size+2) (by show _<wx.heap.size;omega)).trans g2;have x0:=ae q0 0 rfl;have x1:=ae q0 1 rfl;have x2:=ae q0 2 rfl;have z0:=ah q0 0;have z1:=ah q0 1;have z2:=ah q0 2)|fail)
 all_goals go_wp2
 all_goals
  refine bodyPost_ret (v:=.agg #[.bool (!(an == bn)),.slice so sn sc,G6 (e+f)]) (by simp[results,results169,go_sem,x0,x1,x2]) rfl ⟨_,rfl,?_⟩
  exact tx (g:=w.heap.size+2) (hv.from hb1.drew) hb3 (by omega) (by omega) _ _ _
theorem Jl (x y:aW) (g h:Nat) (w:World) (cg:w.heap[g]?=some (.cells #[.bool x.ng,.slice x.ao x.n x.cap,G6 x.e] 40 (0,0))) (ch:w.heap[h]?=some (.cells #[.bool y.ng,.slice y.ao y.n y.cap,G6 y.e] 40 (0,0)))
  (hx:aU w x.ao x.n x.cap x.d) (hy:aU w y.ao y.n y.cap y.d) (sx:gp x) (sy:gp y) (hT:gz w) :
  Calls prog 167 #[.pointer (some ⟨g,0,none⟩),.pointer (some ⟨h,0,none⟩)] w (wF w (oj x y)):=by
 have hP:=fun W hb=>zR x y W (hx.keeps hb) (hy.keeps hb) sx sy
 have hV:oj x y=sg (x.ng != y.ng) (val x.d x.n*val y.d y.n)*pw (x.e+y.e):=rfl
 have he:-4194304<=x.e+y.e:=by have:=sx.2.2.1;have:=sy.2.2.1;omega
 have hlen:val x.d x.n*val y.d y.n<P 10000:=by
  have a1:=dF sx.1.1
  have a2:=dF sy.1.1
  have b1:=bL sx.1.1
  have b2:=bL sy.1.1
  have c1:val x.d x.n*val y.d y.n<=P x.n*val y.d y.n:=Int.mul_le_mul_of_nonneg_right (by omega) b2
  have c2:P x.n*val y.d y.n<P x.n*P y.n:=Int.mul_lt_mul_of_pos_left a2 (dt _)
  rw[<- qw] at c2
  have:=nf (show x.n+y.n<=10000 by have:=sx.2.1;have:=sy.2.1;omega)
  omega
 generalize oj x y=V at hV ⊢
 unfold aW.v at hP
 obtain⟨an,ao,n,ca,a,e⟩:=x
 obtain⟨bn,bo,m,cb,b,f⟩:=y
 simp only at cg ch hx hy hP hV he hlen
 have hb:=af w (.cells #[.bool false,.slice none 0 0,G6 0] 40)
 have g0:=am (.cells #[.bool false,.slice none 0 0,G6 0] 40) cg
 have g1:=am (.cells #[.bool false,.slice none 0 0,G6 0] 40) ch
 have k0:=ae g0 0 rfl
 have k1:=ae g0 1 rfl
 have k2:=ae g0 2 rfl
 have j0:=ae g1 0 rfl
 have j1:=ae g1 1 rfl
 have j2:=ae g1 2 rfl
 clear sx sy
 have HV:Hid (V=sg (an != bn) (val a n*val b m)*pw (e+f)):=hV
 clear hV
 go_enter func167,ntmps167
 go_wp2_with fail
 refine(hP _ hb).mono ?_
 rintro r w3 ⟨s,rfl,hA⟩
 obtain⟨so,sn,sc,d,rfl,hR,hN,hv⟩:=hA.num
 have hsn:sn<=10000:=hA.num.len hlen
 have hb3:=ac hb hA.below
 go_wp2_with fail
 refine(qN (V:=V) hR hN.1 (by omega) (hT.keeps hb3) he (by rw[hv];exact HV.out)).mono ?_
 rintro r w7 (⟨hok,v,rfl,hD⟩|⟨hno,rfl,hb7⟩)
 ·have hb7:=hD.below
  obtain⟨ng',s',m',e',rfl,hyy,hA2⟩:=id hD
  obtain⟨so',sn',sc',rfl⟩:=hA2.num.shape
  have q0:=((ac hA.below hb7).block w.heap.size (by rw[fu];omega)).trans (aD _ _)
  have x0:=ae q0 0 rfl
  have x1:=ae q0 1 rfl
  have x2:=ae q0 2 rfl
  have z0:=ah q0 0
  have z1:=ah q0 1
  have z2:=ah q0 2
  go_wp2
  refine bodyPost_ret (v:=.agg #[.bool ng',.slice so' sn' sc',G6 e']) (by simp[results,results167,go_sem,x0,x1,x2]) rfl ?_
  exact .inl ⟨hok,_,rfl,cJ (g:=w.heap.size) hD hb3 (Nat.le_refl _) (Nat.lt_of_lt_of_le (by rw[fu];omega) hA.below.size) _ _ _⟩
 ·exact⟨rfl,.inr ⟨hno,rfl,ac hb3 hb7⟩⟩
theorem Mx (x y:aW) (w:World) (hx:aU w x.ao x.n x.cap x.d) (hy:aU w y.ao y.n y.cap y.d) (ox:gK x=true) (oy:gK y=true) (hT:gz w) :
  Calls prog 99 #[x.v,y.v] w fun r w'=>∃ v er,r=.returned (.tuple #[v,G6 er])∧lN w w' (oj x y) v er:=by
 have hmf:∀ (fn:Fn) (first cap:Array Value) (w:World),(Instr.makeFunc fn first cap).run prog w=.ok (.func fn first cap) w:=fun _ _ _ _=>rfl
 have hE:∀ (cap:Array Value) (w:World),(callFunc 167 cap).run prog w=.ok (.enter 167 cap) w:=by
  intro cap w
  simp[go_sem]
 have hA:=zN x y
 rw[ox,oy] at hA
 have hN:=fun W q hb=>vv (w:=W) (g:=w.heap.size+3) (x:=x) (y:=y) (t:=40) q (hx.keeps hb) (hy.keeps hb)
 have hC:=fun W hb cg ch=>Jl x y w.heap.size (w.heap.size+1) W cg ch (hx.keeps hb) (hy.keeps hb) (ct ox) (ct oy) (hT.keeps hb)
 generalize tz x y=pr at hA hN
 generalize oj x y=V at hC ⊢
 clear ox oy
 obtain⟨an,ao,n,ca,a,e⟩:=x
 obtain⟨bn,bo,m,cb,b,f⟩:=y
 unfold aW.v
 simp only at hx hy hN hC ⊢
 go_enter func99,ntmps99
 go_wp2_with fail
 refine(pB _ _ _ _ _ (hN _ (lg _ _ _ _ _) (gY _ _ _ _ _))).mono ?_
 rw[hA]
 rintro r w1 ⟨rfl,hb1⟩
 have hbw:=ac (gY w _ _ _ _) hb1
 have g0:=(hb1.block w.heap.size (by rw[jw];omega)).trans (lO _ _ _ _ _)
 have g1:=(hb1.block (w.heap.size+1) (by rw[jw];omega)).trans (lP _ _ _ _ _)
 have g2:=(hb1.block (w.heap.size+2) (by rw[jw];omega)).trans (lf _ _ _ _ _)
 have hs4:w.heap.size+4<=w1.heap.size:=by have:=hb1.size;rw[jw] at this;exact this
 go_wp2_with fail
 refine(uy (V:=V) (hE _) (fun W hW=>hC W (ac hbw hW) ((hW.block _ (by omega)).trans g0) ((hW.block _ (by omega)).trans g1))).mono ?_
 rintro r w2 ⟨v,er,rfl,hF⟩
 obtain⟨ng',so,sn,sc,e',rfl⟩:=hF.shape
 have q0:=(hF.1.block (w.heap.size+2) (by omega)).trans g2
 have x0:=ae q0 0 rfl
 have x1:=ae q0 1 rfl
 have x2:=ae q0 2 rfl
 have z0:=ah q0 0
 have z1:=ah q0 1
 have z2:=ah q0 2
 go_wp2
 refine bodyPost_ret (v:=.tuple #[.agg #[.bool ng',.slice so sn sc,G6 e'],G6 er]) (by simp[results,results99,go_sem,x0,x1,x2]) rfl ⟨_,_,rfl,?_⟩
 exact ux (g:=w.heap.size+2) hF hbw (by omega) (by omega) _ _ _
theorem Ex (x:aW) (w:World) (hx:aU w x.ao x.n x.cap x.d) :
  Calls prog 70 #[x.v] w fun r w'=>r=.returned (.tuple #[G6 (if gK x then fK x.ng x.n else 0),G6 (if gK x then 0 else 11)])∧Below w.heap.size w w':=by
 have hV:=fun W hb=>qG x.ng x.ao x.n x.cap x.d x.e W (hx.keeps hb)
 have hS:=fun W=>xE x.ng x.ao x.n x.cap x.e W (by have:=hx.le;have:=hx.max;omega)
 have hk:oi x.ng x.d x.n x.e=gK x:=rfl
 rw[hk] at hV
 unfold aW.v
 generalize gK x=ok at *
 obtain⟨an,ao,n,ca,a,e⟩:=x
 simp only at *
 cases ok
 ·go_enter func70,ntmps70
  go_wp2_with fail
  refine(hV _ (af _ _)).mono ?_
  rintro r w1 ⟨rfl,hb1⟩
  go_wp2
  go_ret2
  exact⟨rfl,ac (af _ _) hb1⟩
 ·go_enter func70,ntmps70
  go_wp2_with fail
  refine(hV _ (af _ _)).mono ?_
  rintro r w1 ⟨rfl,hb1⟩
  have g0:=(hb1.block w.heap.size (by rw[fu];omega)).trans (aD _ _)
  have k0:=ae g0 0 rfl
  have k1:=ae g0 1 rfl
  have k2:=ae g0 2 rfl
  go_wp2_with fail
  refine(hS _).mono ?_
  rintro r w2 ⟨rfl,hb2⟩
  go_wp2
  go_ret2
  exact⟨rfl,ac (ac (af _ _) hb1) hb2⟩
theorem cu {W w':World} {g h:Nat} {a b c d e f:Value} (hb:Below W.heap.size W w') (hS:(W.cell? ⟨g,0,none⟩=some a∧W.cell? ⟨g,1,none⟩=some b∧W.cell? ⟨g,2,none⟩=some c)∧W.cell? ⟨h,0,none⟩=some d∧W.cell? ⟨h,1,none⟩=some e∧W.cell? ⟨h,2,none⟩=some f) :
  (w'.cell? ⟨g,0,none⟩=some a∧w'.cell? ⟨g,1,none⟩=some b∧w'.cell? ⟨g,2,none⟩=some c)∧w'.cell? ⟨h,0,none⟩=some d∧w'.cell? ⟨h,1,none⟩=some e∧w'.cell? ⟨h,2,none⟩=some f :=
 ⟨oQ hS.1 hb,oQ hS.2 hb⟩
theorem Qm {x:aW} (sx:gp x):(fK x.ng x.n=0∧x.V=0∧x.n=0)∨(fK x.ng x.n=1∧0<x.V∧0<x.n∧x.ng=false)∨(fK x.ng x.n=-1∧x.V<0∧0<x.n∧x.ng=true):=by
 by_cases h0:x.n=0
 ·left
  refine⟨by simp[fK,h0],?_,h0⟩
  show sg x.ng (val x.d x.n)*_=0
  rw[h0]
  show sg x.ng 0*_=0
  rw[gN,Int.zero_mul]
 ·right
  have hp:=Int.mul_pos (kv sx.1 (show 0<x.n by omega)) (bR x.e)
  have hV:x.V=sg x.ng (val x.d x.n)*pw x.e:=rfl
  cases hg:x.ng
  ·left
   rw[hg] at hV
   exact⟨by simp[fK,h0],by rw[hV];exact hp,by omega,rfl⟩
  ·right
   rw[hg] at hV
   refine⟨by simp[fK,h0],?_,by omega,rfl⟩
   rw[hV]
   show -val x.d x.n*pw x.e<0
   rw[Int.neg_mul];omega
theorem br.open {w:World} {v:Value} {V:Int} (h:br w v V) (ok:eR V):∃ x:aW,v=x.v∧aU w x.ao x.n x.cap x.d∧gK x=true∧x.V=V:=by
 obtain⟨ng,s,m,e,rfl,hy,ao,n,cap,d,rfl,hR,hN,rfl⟩:=h
 refine⟨⟨ng,ao,n,cap,d,e⟩,rfl,hR,?_,hy.val.symm⟩
 obtain⟨o1,o2,o3⟩:=hy.ok.1 ok
 refine decide_eq_true ?_
 by_cases h0:n=0
 ·left
  have hz:val d n=0:=by rw[h0];rfl
  rcases hy.form with⟨_,f2,f3⟩|⟨f1,_⟩
  ·exact⟨h0,f2,f3⟩
  ·omega
 ·right
  have hp:=kv hN (show 0<n by omega)
  rcases hy.form with⟨f1,_⟩|⟨_,f2⟩
  ·omega
  ·refine⟨by show 0<n;omega,⟨?_,hN⟩,?_,o2,o3⟩
   ·exact dU.len (w:=w) (ao:=ao) (cap:=cap) ⟨_,_,_,_,rfl,hR,hN,rfl⟩ o1
   ·obtain⟨k,hk⟩:∃ k,n=1+k:=⟨n-1,by omega⟩
    have:=iw d 1 k
    rw[<- hk] at this
    rw[this,show val d 1=d 0 by show 0+d 0*1=_;omega,show P 1=1073741824 from rfl] at f2
    show d 0 % 2=1
    omega
theorem lN.yes {w w':World} {V er:Int} {v:Value} (h:lN w w' V v er) (ok:eR V):er=0∧bw w w' V v:=by
 rcases h.2 with⟨_,h1,h2⟩|⟨hn,_⟩
 ·exact⟨h1,h2⟩
 ·exact absurd ok hn
theorem Qn {w:World} {x y:Value} {A B:Int} (hx:br w x A) (hy:br w y B) (oA:eR A) (oB:eR B) (hT:gz w) :
  Calls prog 97 #[x,y] w fun r w'=>∃ v er,r=.returned (.tuple #[v,G6 er])∧lN w w' (A+B) v er:=by
 obtain⟨x,rfl,hR,ok,rfl⟩:=hx.open oA
 obtain⟨y,rfl,hR',ok',rfl⟩:=hy.open oB
 exact Mt x y w hR hR' ok ok' hT
theorem Qo {w:World} {x y:Value} {A B:Int} (hx:br w x A) (hy:br w y B) (oA:eR A) (oB:eR B) (hT:gz w) :
  Calls prog 98 #[x,y] w fun r w'=>∃ v er,r=.returned (.tuple #[v,G6 er])∧lN w w' (A-B) v er:=by
 obtain⟨x,rfl,hR,ok,rfl⟩:=hx.open oA
 obtain⟨y,rfl,hR',ok',rfl⟩:=hy.open oB
 exact Mw x y w hR hR' ok ok' hT
theorem Lj {w:World} {x y:Value} {A B:Int} (hx:br w x A) (hy:br w y B) (oA:eR A) (oB:eR B) (hT:gz w) :
  Calls prog 99 #[x,y] w fun r w'=>∃ v er C,r=.returned (.tuple #[v,G6 er])∧C*2^4194304=A*B∧lN w w' C v er:=by
 obtain⟨x,rfl,hR,ok,rfl⟩:=hx.open oA
 obtain⟨y,rfl,hR',ok',rfl⟩:=hy.open oB
 refine(Mx x y w hR hR' ok ok' hT).mono ?_
 rintro r w' ⟨v,er,rfl,hF⟩
 exact⟨v,er,_,rfl,tA (by have:=(ct ok).2.2.1;omega) (by have:=(ct ok').2.2.1;omega),hF⟩
theorem OD {w:World} {x:Value} {A:Int} (hx:br w x A) (oA:eR A) :
  Calls prog 70 #[x] w fun r w'=>r=.returned (.tuple #[G6 (bH A 0),G6 0])∧Below w.heap.size w w':=by
 obtain⟨x,rfl,hR,ok,rfl⟩:=hx.open oA
 have:=Ex x w hR
 rw[ok] at this
 have e:fK x.ng x.n=bH x.V 0:=by
  rcases Qm (ct ok) with⟨a,b,_⟩|⟨a,b,_⟩|⟨a,b,_⟩
  ·rw[a,b,jE rfl]
  ·rw[a,gf b]
  ·rw[a,gd b]
 rw[<- e]
 exact this
theorem OE (ng:Bool) {m e:Int} (h0:0<m) (h1:m % 2=1) (he:-4194304<=e):Dy (sg ng m*pw e) ng m e:=⟨rfl,he,.inr ⟨h0,h1⟩⟩
theorem Jm {w:World} {g:Nat} (ng:Bool) {m e:Int} (h0:0<m) (h1:m % 2=1) (h2:m<1073741824) (he:-4194304<=e) (hg:w.heap[g]?=some (.cells #[G6 m] 3 (0,0))) :
    br w (.agg #[.bool ng,.slice (some ⟨g,0,none⟩) 1 1,G6 e]) (sg ng m*pw e):=by
  refine⟨ng,_,m,e,rfl,OE ng h0 h1 he,_,1,1,fun _=>m,rfl,?_,⟨fun i _=>by show 0<=m∧m<1073741824;omega,.inr (by show m≠0;omega)⟩,by show 0+m*1=m;omega⟩
  exact ⟨Nat.le_refl _,by omega,fun h=>by simp at h,fun _=>⟨g,0,rfl,(Array.getElem?_eq_some_iff.1 hg).1,fun i hi=>by
    obtain rfl:i=0:=by omega
    exact ae hg 0 rfl⟩⟩
theorem Dd {e k:Int} {l:Nat} (h:-4194304<=e) (hk:k=e+l):pw k=pw e*2^l:=by rw[hk,gW h]
theorem My (ao:Option Addr) (n ca q p:Nat) (a:Nat->Int) (w:World) (ha:aU w ao n ca a) (da:bP a n) (hn:n<=100000) (hq:q<=100000) (hp:p<30) (k:Int) (hk:k=30*q+p) :
  Calls prog 204 #[.slice ao n ca,G6 k] w fun e w'=>∃ v,e=.returned v∧dE w w' (P q*(2^p*val a n)) v:=by
 have hla:=ha.le
 have hma:=ha.max
 have e1:k/30=q:=by omega
 have e2:k % 30=p:=by omega
 have hk0:0<=k:=by omega
 clear hk
 have hu:=aR p
 have hu2:(2:Int)^p<=2^29:=eG (by omega)
 by_cases hn0:n=0
 ·subst hn0
  have H0:Hid (P q*(2^p*val a 0)=0):=by show _=_;simp[val]
  go_enter func204,ntmps204
  go_wp2
  go_ret
  exact⟨_,rfl,by rw[H0.out];exact dE.nil (ap _)⟩
 ·have en:((n:Int) == 0)=false:=by simp;omega
  go_enter func204,ntmps204
  go_wp2_with (at_make;refine lr rfl _ _ rfl _ _ q rfl rfl (by omega) (by omega) (by omega) ?_;intro w1 hB1 hb1)
  rw[e2]
  go_loopw [5,7,8] (fun l c i wr=>∃ (k:Nat) (c':Int) (r:Nat->Int),k<=n∧i=G6 k∧c=G6 c'∧0<=c'∧c'<2^p∧bI w.heap.size wr l (q+k) r∧bP r (q+k)∧Hid (∀ i,i<q->r i=0)∧Hid (val (fun i=>r (q+i)) k+c'*P k=2^p*val a k)∧Below w.heap.size w wr) (fun _ _ i _=>n-(intOf i).toNat)
  case atStart=>exact⟨0,0,fun _=>0,Nat.zero_le _,rfl,rfl,by omega,hu,hB1.out (Nat.le_refl _) (Nat.le_refl _) (by omega),ut _,fun _ _=>rfl,by show _=_;show(0:Int)+0*1=2^p*0;omega,hb1⟩
  case round=>
   obtain⟨k,c,r,hk,rfl,rfl,hc0,hc1,hO,hD,HZ,HV,hbw⟩:=hrel
   by_cases hlt:k<n
   ·obtain⟨ba,fa,rfl,hba,hca⟩:=ha.spot (by omega)
    have c1:=(hbw.cell (p:=⟨ba,fa+k,none⟩) hba).trans (hca k hlt)
    have dk:=da k hlt
    obtain⟨s0,s1,s2⟩:=wD dk (show p<=30 by omega)
    have hc2:(a k*2^p+c)/1073741824<2^p:=by omega
    go_wp2_with (at_builtin;refine cL rfl _ _ rfl w.heap.size _ (q+k) r rfl (hO.stays (af _ _)) _ 1 1 (fun _=>(a k*2^p+c) % 1073741824) rfl (iR _ _ rfl) (by omega) (by have:=hbw.size;simp;omega) ?_;intro v' w1 hO1 hg1)
    have hb1:Below w.heap.size w w1:=(hbw.alloc hbw.size _).grown hg1 (by have:=hbw.size;simp;omega) (gy hO)
    have hs:=gn (x:=a k*2^p) HV.out
    rw[Int.add_comm c] at hs
    go_roundw
    case rel=>exact⟨k+1,(a k*2^p+c)/1073741824,cr r (q+k) ((a k*2^p+c) % 1073741824),by omega,by go_num,rfl,by omega,hc2,hO1.congr (gO r (q+k) _),gZ hD (jH _),fun i hi=>by rw[bg r _ (by omega)];exact HZ.out i hi,by show _=_;rw[xC,hs,aZ];grind,hb1⟩
    case measure=>simp[intOf];omega
   ·obtain rfl:k=n:=by omega
    go_wp2_with (at_builtin;refine cL rfl _ _ rfl w.heap.size _ (q+k) r rfl (hO.stays (af _ _)) _ 1 1 (fun _=>c) rfl (iR _ _ rfl) (by omega) (by have:=hbw.size;simp;omega) ?_;intro v' w1 hO1 hg1)
    have hb1:Below w.heap.size w w1:=(hbw.alloc hbw.size _).grown hg1 (by have:=hbw.size;simp;omega) (gy hO)
    have D2:bP (cr r (q+k) c) (q+k+1):=gZ hD ⟨hc0,by omega⟩
    refine(oR (hO1.congr (gO r (q+k) c)) D2 hb1).mono ?_
    rintro e w3 ⟨v',rfl,hA,rfl⟩
    go_wp2
    go_ret
    refine⟨_,rfl,?_⟩
    rw[Nat.add_assoc,vi _ _ _ (fun i hi=>by rw[bg r _ (by omega)];exact HZ.out i hi),xC,aZ,bG,lM _ _ (Nat.le_refl _),HV.out] at hA
    exact hA
theorem uz (ao:Option Addr) (n ca k:Nat) (a:Nat->Int) (w:World) (ha:aU w ao n ca a) (da:bP a n) (hn:n<=100000) (hk:k<=2000000) :
  Calls prog 204 #[.slice ao n ca,G6 k] w fun e w'=>∃ v,e=.returned v∧dE w w' (val a n*2^k) v:=by
 refine(My ao n ca (k/30) (k % 30) a w ha da hn (by omega) (by omega) k (by omega)).mono ?_
 rintro e w' ⟨v,he,h⟩
 refine⟨v,he,?_⟩
 rw[oP k]
 rwa [show val a n*(P (k/30)*2^(k % 30))=P (k/30)*(2^(k % 30)*val a n) by grind]
theorem MA (ao:Option Addr) (n ca q p:Nat) (a:Nat->Int) (w:World) (ha:aU w ao n ca a) (da:bP a n) (hn:n<=100000) (hp:p<30) (k:Int) (hk:k=30*q+p) (hkm:k<=4000000) :
    Calls prog 260 #[.slice ao n ca,G6 k] w fun e w'=>∃ v,e=.returned v∧dE w w' (val a n/P q/2^p) v:=by
  have hla:=ha.le
  have hma:=ha.max
  have e1:k/30=q:=by omega
  have e2:k % 30=p:=by omega
  have hk0:0<=k:=by omega
  have hq1:q<=200000:=by omega
  clear hk
  have hu:=aR p
  have hu2:(2:Int)^p<=2^29:=eG (by omega)
  have huv:(2:Int)^p*2^(30-p)=1073741824:=by rw[<- Int.pow_add,show p+(30-p)=30 by omega];rfl
  have HU:Hid ((2:Int)^p*2^(30-p)=1073741824):=huv
  have hdv:(1073741824:Int)/2^p=2^(30-p):=by rw[<- huv];exact Int.mul_ediv_cancel_left _ (by omega)
  have hz:((2:Int)^p == 0)=false:=by simp;omega
  clear huv
  by_cases hqn:n<=q
  · have H0:Hid (val a n/P q/2^p=0):=by
      show _=_
      rw[Int.ediv_eq_zero_of_lt (bL da) (by have:=dF da;have:=nf hqn;omega)];exact Int.zero_ediv _
    go_enter func260,ntmps260
    go_wp2
    go_ret
    exact⟨_,rfl,by rw[H0.out];exact dE.nil (ap _)⟩
  · obtain⟨ba,fa,rfl,hba,hca⟩:=ha.spot (by omega)
    obtain⟨N,hN⟩:∃ N,n=q+N:=⟨n-q,by omega⟩
    have HN:Hid (n=q+N):=hN
    have hn1:q+N<=n:=by omega
    have hn2:n<=q+N:=by omega
    have hN0:0<N:=by omega
    clear hN
    go_enter func260,ntmps260
    go_wp2
    rw[e1,e2]
    go_loopw [5,7] (fun l i wr=>∃ (k:Nat) (r:Nat->Int),k<=N∧i=G6 ((q:Int)+k)∧bI w.heap.size wr l k r∧Hid (∀ i,i<k->r i=low (fun j=>cd a n (q+j)) (2^p) (2^(30-p)) i)∧Below w.heap.size w wr) (fun _ i _=>n-(intOf i).toNat)
    case atStart=>exact⟨0,fun _=>0,Nat.zero_le _,by simp,bI.nil _ _ _,fun i hi=>by omega,ap _⟩
    case round=>
      obtain⟨k,r,hk,rfl,hO,HV,hbw⟩:=hrel
      by_cases hlt:k<N
      · have c1:=(hbw.cell (p:=⟨ba,fa+(q+k),none⟩) hba).trans (hca (q+k) (by omega))
        have dx:=da (q+k) (by omega)
        by_cases hl2:q+k+1<n
        · have dy:=da (q+k+1) (by omega)
          obtain⟨s0,s1,s2,s3,s4⟩:=uu dx dy hp
          have s5:0<=a (q+k+1) % 2^p*2^(30-p):=Int.mul_nonneg s3 (Int.le_of_lt (aR _))
          have s6:(2:Int)^(30-p)<=2^30:=eG (by omega)
          have c2:=(hbw.cell (p:=⟨ba,fa+(q+k+1),none⟩) hba).trans (hca (q+k+1) (by omega))
          clear s2
          go_wp2
          go_quiet (fail)
          go_wp2_with (at_builtin;refine cL rfl _ _ rfl w.heap.size _ k r rfl ((hO.stays (cV (ap _) _)).stays (af _ _)) _ 1 1 (fun _=>(a (q+k)/2^p+a (q+k+1) % 2^p*2^(30-p))) rfl (iR _ _ rfl) (by omega) (by have:=hbw.size;simp[World.drewN];omega) ?_;intro v' w1 hO1 hg1)
          have hb1:Below w.heap.size w w1:=((cV hbw _).alloc hbw.size _).grown hg1 (by have:=hbw.size;simp[World.drewN];omega) (gy hO)
          go_roundw
          case rel=>exact ⟨k+1,cr r k (a (q+k)/2^p+a (q+k+1) % 2^p*2^(30-p)),by omega,by go_num,hO1.congr (gO r k _),fun i hi=>by
              by_cases e:i=k
              · rw[e,bG]
                show _=cd a n (q+k)/2^p+cd a n (q+(k+1)) % 2^p*2^(30-p)
                rw[fY a (by omega),fY a (by omega),Nat.add_assoc]
              · rw [bg _ _ e]; exact HV.out i (by omega),hb1⟩
          case measure=>simp[intOf];omega
        · obtain⟨s0,s1,_,_,_⟩:=uu dx dx hp
          have s6:(2:Int)^(30-p)<=2^30:=eG (by omega)
          go_wp2_with (at_builtin;refine cL rfl _ _ rfl w.heap.size _ k r rfl (hO.stays (af _ _)) _ 1 1 (fun _=>(a (q+k)/2^p)) rfl (iR _ _ rfl) (by omega) (by have:=hbw.size;simp;omega) ?_;intro v' w1 hO1 hg1)
          have hb1:Below w.heap.size w w1:=(hbw.alloc hbw.size _).grown hg1 (by have:=hbw.size;simp;omega) (gy hO)
          go_roundw
          case rel=>exact ⟨k+1,cr r k (a (q+k)/2^p),by omega,by go_num,hO1.congr (gO r k _),fun i hi=>by
              by_cases e:i=k
              · rw[e,bG,zF (s:=fun j=>cd a n (q+j)) (jW a (by omega)),fY a (by omega)]
              · rw [bg r _ e]; exact HV.out i (by omega),hb1⟩
          case measure=>simp[intOf];omega
      · obtain rfl:k=N:=by omega
        have DS:bP (fun j=>cd a n (q+j)) (k+1):=fun i hi=>Co da (q+k+1) (q+i) (by omega)
        have D2:bP r k:=(Cp hu HU.out DS).congr fun i hi=>(HV.out i hi).symm
        have HD2:Hid (bP r k):=D2
        clear D2 DS
        go_wp2_with fail
        refine(oR hO HD2.out hbw).mono ?_
        rintro e w3 ⟨v',rfl,hA,rfl⟩
        go_wp2
        go_ret
        refine⟨_,rfl,?_⟩
        rw[gJ HV.out,FD (s:=fun j=>cd a n (q+j)) hu HU.out (jW a (by omega))] at hA
        have e3:=ur a (show q<=n by omega) da
        rw[<- e3,show n-q=k by omega]
        rw[show val (fun j=>cd a n (q+j)) k=val (fun i=>a (q+i)) k from gJ fun i hi=>fY a (by omega)] at hA
        exact hA
theorem zS (ao:Option Addr) (n ca k:Nat) (a:Nat->Int) (w:World) (ha:aU w ao n ca a) (da:bP a n) (hn:n<=100000) (hk:k<=4000000) :
  Calls prog 260 #[.slice ao n ca,G6 k] w fun e w'=>∃ v,e=.returned v∧dE w w' (val a n/2^k) v:=by
 refine(MA ao n ca (k/30) (k % 30) a w ha da hn (by omega) k (by omega) (by omega)).mono ?_
 rintro e w' ⟨v,he,h⟩
 refine⟨v,he,?_⟩
 rw[oP k,<- Int.ediv_ediv_of_nonneg (Int.le_of_lt (dt _))]
 exact h
theorem bI.of_block {B:Nat} {w w':World} {x:Value} {n:Nat} {d:Nat->Int} (h:bI B w x n d) (hb:∀ g,x.ownBlock=some g->w'.heap[g]?=w.heap[g]?):bI B w' x n d:=by
 refine⟨h.1,?_⟩
 rcases h.2 with hn|⟨g,cap,cur,rfl,hbb,hg,rest⟩
 ·exact .inl hn
 ·exact .inr ⟨g,cap,cur,rfl,hbb,(hb g rfl).trans hg,rest⟩
theorem bI.typed {B:Nat} {w:World} {x:Value} {n:Nat} {d:Nat->Int} (h:bI B w x n d) {g:Nat} (hg:x.ownBlock=some g):∃ cur z,w.heap[g]?=some (.cells cur 3 z):=by
 rcases h.2 with⟨rfl,_⟩|⟨g',cap,cur,rfl,hbb,hg',rest⟩
 ·simp[Value.ownBlock] at hg
 ·simp only[Value.ownBlock,Option.some.injEq] at hg;subst hg;exact⟨cur,_,hg'⟩
theorem bI.ge {B:Nat} {w:World} {x:Value} {n:Nat} {v:Nat->Int} (h:bI B w x n v) {g:Nat} (hg:x.ownBlock=some g):B<=g∧g<w.heap.size:=by
 rcases h.2 with⟨rfl,_⟩|⟨g',cap,cur,rfl,hbb,hg',rest⟩
 ·simp[Value.ownBlock] at hg
 ·simp only[Value.ownBlock,Option.some.injEq] at hg;subst hg;exact⟨hbb,(aGe hg').1⟩
theorem MB {w:World} (ty:TypeId) (B:Nat) (v:Value) (n:Nat) (d:Nat->Int) (hO:bI B w v n d) (bo:Option Addr) (m cb:Nat) (e:Nat->Int) (hR:aU w bo m cb e) (hlen:n+m<=1000000) (hB:B<=w.heap.size) :
    ∃ v' w',(Builtin.append_ #[38,38] ty #[v,.slice bo m cb]).run prog w=.ok v' w'∧bI B w' v' (n+m) (kS d n e)∧w.grownBy w' v.ownBlock∧(v'.ownBlock=v.ownBlock∨v'.ownBlock=some w.heap.size):=by
  obtain⟨i0,hi,hz0,hz1,hz2⟩:=info_parts jX
  cases bo with
  | none=>
    have hc:=hR.nl rfl
    have hl:=hR.le
    subst hc
    obtain rfl:m=0:=by omega
    have hr:=run_append_owned_none (P:=prog) w B 38 ty 3 i0 1 underlying38 hi v n (gV d n) hO
    exact⟨v,w,hr,hO.congr fun i hi=>by simp[kS];omega,⟨rfl,rfl,rfl,Nat.le_refl _,fun _ _ _=>rfl⟩,.inl rfl⟩
  | some ad=>
    obtain⟨v',w',hr,h2,h3,_,h5⟩:=run_append_own_at (P:=prog) w B 38 ty 3 i0 (G6 0) 1 8 underlying38 hi hz0 hz1 hz2 rfl (by decide) v n (gV d n) hO ad m cb (gV e m) (by rw[cN];omega)
      (fun j u hu=>by
        have hj:j<m:=by have:=(List.getElem?_eq_some_iff.1 hu).1;rwa [cN] at this
        obtain⟨b,off,hb,_,hc⟩:=hR.spot (by omega)
        obtain rfl:=Option.some.inj hb
        rw[iI e hj] at hu
        rw [qA,hc j hj]; exact hu) (uq e m) (by unfold maxLen; omega) (by omega) hB
    rw[zo] at h2
    exact⟨v',w',hr,h2,h3,h5⟩
def An (B:Nat) (w:World) (v:Value) (V:Int):Prop:=∃ t d,bI B w v t d∧cT d t∧val d t=V
theorem An.keeps {B:Nat} {w w':World} {v:Value} {V:Int} (h:An B w v V) (k:Below w.heap.size w w'):An B w' v V:=by
 obtain⟨t,d,h1,h2⟩:=h
 exact⟨t,d,h1.stays k,h2⟩
theorem An.lower {B B':Nat} {w:World} {v:Value} {V:Int} (h:An B w v V) (hB:B'<=B):An B' w v V:=by
 obtain⟨t,d,h1,h2⟩:=h
 exact⟨t,d,h1.lower hB,h2⟩
theorem dE.an {w w':World} {V:Int} {v:Value} (h:dE w w' V v):An w.heap.size w' v V:=by
 obtain⟨t,d,h1,h2,h3,h4⟩:=h
 exact⟨t,d,h1,h2,h3⟩
theorem An.shape {B:Nat} {w:World} {v:Value} {V:Int} (h:An B w v V):∃ ao n cap,v=.slice ao n cap:=by
 obtain⟨t,d,h1,h2⟩:=h
 obtain⟨ao,cap,e,_⟩:=h1.row
 exact⟨ao,t,cap,e⟩
theorem An.num {B:Nat} {w:World} {v:Value} {V:Int} (h:An B w v V):dU w v V:=by
 obtain⟨t,d,h1,h2,h3⟩:=h
 obtain⟨ao,cap,rfl,hR⟩:=h1.row
 exact⟨ao,t,cap,d,rfl,hR,h2,h3⟩
theorem BR {A l m:Int} (h:qJ A l) (k:qJ A m):l=m:=by
 have hz:∀ i:Nat,¬ fs 0 i:=fun i ⟨q,e⟩=>by
  have h2:=aR i
  have h3:(2*q+1)≠0:=by omega
  rcases Int.mul_eq_zero.1 e.symm with h|h
  ·exact h3 h
  ·omega
 rcases h with⟨h0,h1⟩|⟨i,h1,hi⟩<;>rcases k with⟨k0,k1⟩|⟨j,k1,hj⟩
 ·omega
 ·subst h0;exact absurd hj (hz j)
 ·subst k0;exact absurd hi (hz i)
 ·rw[h1,k1,qI hi hj]
theorem uA (ao:Option Addr) (n cap:Nat) (d:Nat->Int) (w:World) (h:aU w ao n cap d) (hd:bP d n) (hn:n<=100000) :
  Calls prog 259 #[.slice ao n cap] w fun e w'=>∃ l,e=.returned (G6 l)∧qJ (val d n) l∧w'=w:=by
 have hl:=h.le
 have hm:=h.max
 go_enter func259,ntmps259
 go_wp2
 go_loop [3] (fun i=>∃ k:Nat,k<=n∧i=G6 k∧Hid (∀ j,j<k->d j=0)) (fun i=>n-(intOf i).toNat)
 case atStart=>exact⟨0,Nat.zero_le _,rfl,fun j hj=>by omega⟩
 case round=>
  obtain⟨k,hk,rfl,HZ⟩:=hrel
  by_cases hlt:k<n
  ·obtain⟨b,off,rfl,hb,hc⟩:=h.spot (by omega)
   have c:=hc k hlt
   have dk:=hd k hlt
   by_cases h0:d k=0
   ·have e0:(d k != 0)=false:=by simp[h0]
    go_wp2
    go_round
    case rel=>exact⟨k+1,by omega,by go_num,fun j hj=>by by_cases e:j=k;(· rw[e];exact h0);(· exact HZ.out j (by omega))⟩
    case measure=>simp[intOf];omega
   ·have e0:(d k != 0)=true:=by simp[h0]
    have hpos:0<d k:=by omega
    go_wp2
    go_loop [4,5] (fun s v=>∃ (x:Int) (t:Nat),s=G6 ((30*k+t:Nat):Int)∧v=G6 x∧0<x∧x<1073741824∧t<=30∧Hid (x*2^t=d k)) (fun _ v=>(intOf v).toNat)
    case atStart=>exact⟨d k,0,by go_num,rfl,hpos,dk.2,by omega,by show _=_;simp⟩
    case round=>
     obtain⟨x,t,rfl,rfl,hx0,hx1,ht,HT⟩:=hrel
     by_cases he:x % 2=0
     ·have ee:(x % 2 == 0)=true:=by simp[he]
      have HT2:Hid (x/2*2^(t+1)=d k):=by
       show _=_
       rw[Int.pow_succ,Int.mul_comm (2^t) 2,<- Int.mul_assoc,show x/2*2=x by omega];exact HT.out
      have ht2:t+1<=30:=by
       have h1:1*2^(t+1)<=x/2*2^(t+1):=Int.mul_le_mul_of_nonneg_right (by omega) (Int.le_of_lt (aR _))
       rw[HT2.out] at h1
       have h2:(2:Int)^(t+1)<2^30:=by have:(2:Int)^30=1073741824:=rfl;omega
       have:=iz h2
       omega
      go_wp2
      go_round
      case rel=>exact⟨x/2,t+1,by go_num,rfl,by omega,by omega,ht2,HT2.out⟩
      case measure=>simp[intOf];omega
     ·have ee:(x % 2 == 0)=false:=by simp[he]
      have HL:Hid (fs (d k) t):=⟨x/2,by rw[show 2*(x/2)+1=x by omega];exact HT.out.symm⟩
      go_wp2
      go_ret
      exact⟨_,rfl,.inr ⟨30*k+t,rfl,xJ hlt HZ.out HL.out (FV hpos dk.2 HL.out)⟩,rfl⟩
  ·obtain rfl:k=n:=by omega
   go_wp2
   go_ret
   exact⟨_,rfl,.inl ⟨by rw[ix (Nat.zero_le _) (fun i _ hi=>HZ.out i hi)];rfl,rfl⟩,rfl⟩
theorem sP (ng:Bool) (ao:Option Addr) (n cap:Nat) (d:Nat->Int) (e:Int) (w:World) (h:aU w ao n cap d) (hd:bP d n) (hn:n<=40000) (he0:-4194304<=e) (he1:e<=4194304) :
  Calls prog 202 #[.bool ng,.slice ao n cap,G6 e] w fun r w'=>∃ v,r=.returned v∧bw w w' (sg ng (val d n)*pw e) v:=by
 by_cases h0:val d n=0
 ·rw[h0,gN,Int.zero_mul]
  go_enter func202,ntmps202
  go_wp2_with fail
  refine(uA _ _ _ _ _ (h.keeps (af _ _)) hd (by omega)).mono ?_
  rintro r w1 ⟨l,rfl,hl,rfl⟩
  have hl1:l=-1:=by
   rcases hl with⟨_,h1⟩|⟨k,_,m,hm⟩
   ·exact h1
   ·exfalso
    rw[h0] at hm
    rcases Int.mul_eq_zero.1 hm.symm with x|x
    ·omega
    ·have:=aR k;omega
  subst hl1
  go_wp2
  refine bodyPost_ret (v:=iy) (by simp[results,results202,go_sem,iy]) rfl ⟨_,rfl,?_⟩
  exact bw.zero (af _ _)
 ·have hp:0<val d n:=by have:=bL hd;omega
  go_enter func202,ntmps202
  go_wp2_with fail
  refine(uA _ _ _ _ _ (h.keeps (af _ _)) hd (by omega)).mono ?_
  rintro r w1 ⟨l,rfl,hl,rfl⟩
  have hl2:∃ k:Nat,l=k∧fs (val d n) k:=by
   rcases hl with⟨h1,_⟩|h1
   ·omega
   ·exact h1
  obtain⟨k,rfl,hk⟩:=hl2
  have hkn:k<30*n:=by
   have h1:=dF hd
   rw[ft] at h1
   obtain⟨a,b,c⟩:=jf hk hp
   have h2:(1:Int)*2^k<=val d n/2^k*2^k:=Int.mul_le_mul_of_nonneg_right (by omega) (Int.le_of_lt (aR k))
   exact iz (by omega)
  have hy:=Dy.of ng hk hp he0
  have HY:Hid (Dy (sg ng (val d n)*pw e) ng (val d n/2^k) (e+k)):=hy
  clear hy hl hk
  go_wp2_with fail
  refine(zS _ _ _ k d _ (h.keeps (af _ _)) hd (by omega) (by omega)).mono ?_
  rintro r w2 ⟨v,rfl,hA⟩
  obtain⟨so,sn,sc,rfl⟩:=hA.num.shape
  have q0:=(hA.below.block w.heap.size (by rw[fu];omega)).trans (aD _ _)
  have x0:=ae q0 0 rfl
  have x1:=ae q0 1 rfl
  have x2:=ae q0 2 rfl
  have z0:=ah q0 0
  have z1:=ah q0 1
  have z2:=ah q0 2
  go_wp2
  refine bodyPost_ret (v:=.agg #[.bool ng,.slice so sn sc,G6 (e+k)]) (by simp[results,results202,go_sem,x0,x1,x2]) rfl ⟨_,rfl,?_⟩
  exact⟨_,_,_,_,rfl,HY.out,tx (g:=w.heap.size) hA (af _ _) (Nat.le_refl _) (by rw[fu];omega) _ _ _⟩
def Bd (B:Nat) (V:Int):Prop:=∃ m:Int,V=m*pw (-(B:Int))∧-(2^(2*B))<m∧m<2^(2*B)
theorem Bd.ok {B:Nat} {V:Int} (h:Bd B V) (hB:B<=29000):eR V:=by
 obtain⟨m,rfl,h1,h2⟩:=h
 by_cases h0:m=0
 ·rw[h0,Int.zero_mul];exact qC
 ·have au:∀ (ng:Bool) (M:Int),0<M->M<2^(2*B)->eR (sg ng M*pw (-(B:Int))):=fun ng M hM hlt=>by
   obtain⟨l,hl⟩:=mq hM
   have hy:=Dy.of ng hl hM (show -4194304 <= -(B:Int) by omega)
   obtain⟨c1,c2,c3⟩:=jf hl hM
   have hl2:l<2*B:=by
    have h3:(1:Int)*2^l<=M/2^l*2^l:=Int.mul_le_mul_of_nonneg_right (by omega) (Int.le_of_lt (aR l))
    rw[c3] at h3
    exact iz (by omega)
   refine hy.ok.2 ⟨?_,by omega,by omega⟩
   have h4:M/2^l<=M:=Int.ediv_le_self _ (by omega)
   have h5:(2:Int)^(2*B)<=2^(30*2000):=eG (by omega)
   rw[ft]
   omega
  by_cases hp:0<m
  ·exact au false m hp h2
  ·have:=au true (-m) (by omega) (by omega)
   rwa [show sg true (-m)=m by simp[sg]] at this
theorem Bd.up {B C:Nat} {V:Int} (h:Bd B V) (hBC:B<=C) (hC:C<=4194304):Bd C V:=by
 obtain⟨m,rfl,h1,h2⟩:=h
 have hp:=aR (C-B)
 have e:pw (-(B:Int))=pw (-(C:Int))*2^(C-B):=by
  rw[<- gW (by omega)];congr 1;omega
 have hle:(2:Int)^(2*B)*2^(C-B)<=2^(2*C):=by rw[<- Int.pow_add];exact eG (by omega)
 refine⟨m*2^(C-B),by rw[e];grind,?_,?_⟩
 ·have:-(2^(2*B))*2^(C-B)<m*2^(C-B):=Int.mul_lt_mul_of_pos_right h1 hp
  rw[Int.neg_mul] at this
  omega
 ·have:=Int.mul_lt_mul_of_pos_right h2 hp
  omega
theorem Bd.add {B:Nat} {V W:Int} (h:Bd B V) (k:Bd B W) (hB:B<4194304):Bd (B+1) (V+W):=by
 obtain⟨m,rfl,h1,h2⟩:=h
 obtain⟨n,rfl,k1,k2⟩:=k
 have e:pw (-(B:Int))=pw (-((B+1:Nat):Int))*2:=by
  have:=gW (e:=-((B+1:Nat):Int)) (by omega) 1
  rw[Int.pow_succ,Int.pow_zero,Int.one_mul] at this
  rw[<- this];congr 1;omega
 have e2:(2:Int)^(2*(B+1))=2^(2*B)*4:=by rw[show 2*(B+1)=2*B+2 by omega,Int.pow_add];rfl
 refine⟨2*(m+n),by rw[e];grind,?_,?_⟩<;>rw[e2]<;>omega
theorem Bd.neg {B:Nat} {V:Int} (h:Bd B V):Bd B (-V):=by
 obtain⟨m,rfl,h1,h2⟩:=h
 exact⟨-m,by rw[Int.neg_mul],by omega,by omega⟩
theorem Bd.mul {B:Nat} {V W U:Int} (h:Bd B V) (k:Bd B W) (hU:U*2^4194304=V*W) (hB:B<=1000000):Bd (2*B) U:=by
 obtain⟨m,rfl,h1,h2⟩:=h
 obtain⟨n,rfl,k1,k2⟩:=k
 have e:U=m*n*pw (-((2*B:Nat):Int)):=by
  refine mM ?_
  rw[hU,Int.mul_assoc (m*n),show -((2*B:Nat):Int)=-(B:Int) + -(B:Int) by omega,<- oh (by omega) (by omega)];grind
 refine⟨m*n,e,?_,?_⟩
 all_goals
  have hab:(m*n).natAbs<((2:Int)^(2*(2*B))).natAbs:=by
   rw[Int.natAbs_mul,show 2*(2*B)=2*B+2*B by omega,Int.pow_add,Int.natAbs_mul]
   exact Nat.mul_lt_mul'' (by have:=aR (2*B);omega) (by have:=aR (2*B);omega)
  have:=aR (2*(2*B))
  omega
theorem OF {ng:Bool} {M e:Int} (h0:0<=M) (h1:M<P 30) (e0:-3000<e) (e1:e<3000):Bd 4000 (sg ng M*pw e):=by
 have hs:pw e=pw (-((4000:Nat):Int))*2^(e+4000).toNat:=by
  rw[<- gW (by omega)];congr 1;omega
 have hp:=aR (e+4000).toNat
 have hlt:M*2^(e+4000).toNat<2^(2*4000):=by
  have a:M*2^(e+4000).toNat<P 30*2^(e+4000).toNat:=Int.mul_lt_mul_of_pos_right h1 hp
  rw[ft,<- Int.pow_add] at a
  have b:(2:Int)^(30*30+(e+4000).toNat)<=2^(2*4000):=eG (by omega)
  omega
 have hn:0<=M*2^(e+4000).toNat:=Int.mul_nonneg h0 (Int.le_of_lt hp)
 refine⟨sg ng (M*2^(e+4000).toNat),by rw[hs,mL,mL];grind,?_,?_⟩
 all_goals
  generalize M*2^(e+4000).toNat=X at *
  generalize (2:Int)^(2*4000)=T at *
  cases ng<;>simp only[sg]<;>simp<;>omega
end Go.Proofs.YtjjihmnbdeeedaaGreatDoor
namespace Go.Proofs.YtjjihmnbdeeedaaGreatDoor
open Go Go.Proofs.Tryz Go.ChangeShapes Go.WideShapes Go.ChangeAt Go.RowKit Go.Proofs.YtjjihmnbdeeedaaGreatDoor.M
theorem Gj {x:Int} (h:(Lit.int .i64 x).wf=true):ag x:=by
 simp[Lit.wf,IntKind.min,IntKind.max,IntKind.signed,IntKind.bits] at h
 unfold ag;omega
end Go.Proofs.YtjjihmnbdeeedaaGreatDoor
namespace Go.Proofs.YtjjihmnbdeeedaaGreatDoor
open Go Go.Proofs.Tryz Go.RowKit Go.ChangeShapes Go.Proofs.YtjjihmnbdeeedaaGreatDoor.M
theorem OG : Tryz.prog.globalNamed "math/bits.deBruijn64tab" = some 3 := by kernel_rfl
theorem Jn:(prog.globals[(3:Nat)]?).map (·.type)=some 292:=by kernel_rfl
theorem Jo:prog.cellsOf 292=64:=by kernel_rfl
theorem Gk:prog.cellsOf 5=1:=by kernel_rfl
def De:List Int:=Lib.deBruijn64tab.map Int.ofNat
theorem MC:∀ j,j<64->De.getD j 0=((Lib.deBruijn64tab.getD j 0:Nat):Int):=by decide +kernel
end Go.Proofs.YtjjihmnbdeeedaaGreatDoor
