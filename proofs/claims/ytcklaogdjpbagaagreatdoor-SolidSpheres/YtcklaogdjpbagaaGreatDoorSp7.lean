/- Parts of the proof. -/
import Derived.Test.YtcklaogdjpbagaaGreatDoorSp5
import Derived.Test.YtcklaogdjpbagaaGreatDoorSp3
import Derived.Deep.AppendLies
import Derived.Deep.RegionHeld3
import Derived.Deep.RegionLaw
import Derived.Test.YtcklaogdjpbagaaGreatDoorSp6
import Derived.Test.YtcklaogdjpbagaaGreatDoorSp4
import Derived.Test.YtcklaogdjpbagaaGreatDoorRows
import Derived.Test.YtcklaogdjpbagaaGreatDoorSp2
import Derived.ProofKit
import Derived.OpenShut
import Derived.ChangeOld
import Derived.LaidMore
import Derived.Deep.Strs
import Derived.Lib.LaidTab
import Derived.MakeChecks
import Derived.Stop.LaidErr
set_option maxRecDepth 100000
set_option maxHeartbeats 8000000
set_option linter.unusedVariables false
set_option linter.unusedSimpArgs false
namespace Go.Proofs.YtcklaogdjpbagaaGreatDoor
open Go Go.RowKit Go.Proofs.YtcklaogdjpbagaaGreatDoor.M
theorem AM (ao:Option Addr) (n ca q p:Nat) (a:Nat->Int) (w:World) (ha:aM w ao n ca a) (da:bv a n) (hn:n<=100000) (hq:q<=100000) (hp:p<30) (k:Int) (hk:k=30*q+p) :
  Calls Tryz.prog 94 #[.slice ao n ca,.int .i64 k] w fun e w'=>∃ v,e=.returned v∧cP w w' (P q*(2^p*val a n)) v:=by
 have hla:=ha.le
 have hma:=ha.max
 have e1:k/30=q:=by omega
 have e2:k % 30=p:=by omega
 have hk0:0<=k:=by omega
 clear hk
 have hu:=aJ p
 have hu2:(2:Int)^p<=2^29:=di (by omega)
 by_cases hn0:n=0
 ·subst hn0
  have H0:Hid (P q*(2^p*val a 0)=0):=by show _=_;simp[val]
  go_enter Tryz.func94,Tryz.ntmps94
  go_wp2
  go_ret
  exact⟨_,rfl,by rw[H0.out];exact cP.nil (ak _)⟩
 ·have en:((n:Int) == 0)=false:=by simp;omega
  go_enter Tryz.func94,Tryz.ntmps94
  go_wp2_with (at_make;refine iF rfl _ _ rfl _ _ q rfl rfl (by omega) (by omega) (by omega) ?_;intro w1 hB1 hb1)
  rw[e2]
  go_loopw [5,7,8] (fun l c i wr=>∃ (k:Nat) (c':Int) (r:Nat->Int),k<=n∧i=.int .i64 k∧c=.int .i64 c'∧0<=c'∧c'<2^p∧bF w.heap.size wr l (q+k) r∧bv r (q+k)∧Hid (∀ i,i<q->r i=0)∧Hid (val (fun i=>r (q+i)) k+c'*P k=2^p*val a k)∧Below w.heap.size w wr) (fun _ _ i _=>n-(intOf i).toNat)
  case atStart=>exact⟨0,0,fun _=>0,Nat.zero_le _,rfl,rfl,by omega,hu,hB1.out (Nat.le_refl _) (Nat.le_refl _) (by omega),kJ _,fun _ _=>rfl,by show _=_;show(0:Int)+0*1=2^p*0;omega,hb1⟩
  case round=>
   obtain⟨k,c,r,hk,rfl,rfl,hc0,hc1,hO,hD,HZ,HV,hbw⟩:=hrel
   by_cases hlt:k<n
   ·obtain⟨ba,fa,rfl,hba,hca⟩:=ha.spot (by omega)
    have c1:=(hbw.cell (p:=⟨ba,fa+k,none⟩) hba).trans (hca k hlt)
    have dk:=da k hlt
    obtain⟨s0,s1,s2⟩:=oK dk (show p<=30 by omega)
    have hc2:(a k*2^p+c)/1073741824<2^p:=by omega
    go_wp2_with (at_builtin;refine cy rfl _ _ rfl w.heap.size _ (q+k) r rfl (hO.stays (ah _ _)) _ 1 1 (fun _=>(a k*2^p+c) % 1073741824) rfl (gT _ _ rfl) (by omega) (by have:=hbw.size;simp;omega) ?_;intro v' w1 hO1 hg1)
    have hb1:Below w.heap.size w w1:=(hbw.alloc hbw.size _).grown hg1 (by have:=hbw.size;simp;omega) (dS hO)
    have hs:=dP (x:=a k*2^p) HV.out
    rw[Int.add_comm c] at hs
    go_roundw
    case rel=>exact⟨k+1,(a k*2^p+c)/1073741824,cl r (q+k) ((a k*2^p+c) % 1073741824),by omega,by go_num,rfl,by omega,hc2,hO1.congr (eh r (q+k) _),ek hD (fC _),fun i hi=>by rw[bm r _ (by omega)];exact HZ.out i hi,by show _=_;rw[pt,hs,aU];grind,hb1⟩
    case measure=>simp[intOf];omega
   ·obtain rfl:k=n:=by omega
    go_wp2_with (at_builtin;refine cy rfl _ _ rfl w.heap.size _ (q+k) r rfl (hO.stays (ah _ _)) _ 1 1 (fun _=>c) rfl (gT _ _ rfl) (by omega) (by have:=hbw.size;simp;omega) ?_;intro v' w1 hO1 hg1)
    have hb1:Below w.heap.size w w1:=(hbw.alloc hbw.size _).grown hg1 (by have:=hbw.size;simp;omega) (dS hO)
    have D2:bv (cl r (q+k) c) (q+k+1):=ek hD ⟨hc0,by omega⟩
    refine(jO (hO1.congr (eh r (q+k) c)) D2 hb1).mono ?_
    rintro e w3 ⟨v',rfl,hA,rfl⟩
    go_wp2
    go_ret
    refine⟨_,rfl,?_⟩
    rw[Nat.add_assoc,nE _ _ _ (fun i hi=>by rw[bm r _ (by omega)];exact HZ.out i hi),pt,aU,bG,gQ _ _ (Nat.le_refl _),HV.out] at hA
    exact hA
theorem mV (ao:Option Addr) (n ca k:Nat) (a:Nat->Int) (w:World) (ha:aM w ao n ca a) (da:bv a n) (hn:n<=100000) (hk:k<=2000000) :
  Calls Tryz.prog 94 #[.slice ao n ca,.int .i64 k] w fun e w'=>∃ v,e=.returned v∧cP w w' (val a n*2^k) v:=by
 refine(AM ao n ca (k/30) (k % 30) a w ha da hn (by omega) (by omega) k (by omega)).mono ?_
 rintro e w' ⟨v,he,h⟩
 refine⟨v,he,?_⟩
 rw[lC k]
 rwa [show val a n*(P (k/30)*2^(k % 30))=P (k/30)*(2^(k % 30)*val a n) by grind]
theorem AN (ao:Option Addr) (n ca q p:Nat) (a:Nat->Int) (w:World) (ha:aM w ao n ca a) (da:bv a n) (hn:n<=100000) (hp:p<30) (k:Int) (hk:k=30*q+p) (hkm:k<=4000000) :
    Calls Tryz.prog 116 #[.slice ao n ca,.int .i64 k] w fun e w'=>∃ v,e=.returned v∧cP w w' (val a n/P q/2^p) v:=by
  have hla:=ha.le
  have hma:=ha.max
  have e1:k/30=q:=by omega
  have e2:k % 30=p:=by omega
  have hk0:0<=k:=by omega
  have hq1:q<=200000:=by omega
  clear hk
  have hu:=aJ p
  have hu2:(2:Int)^p<=2^29:=di (by omega)
  have huv:(2:Int)^p*2^(30-p)=1073741824:=by rw[<- Int.pow_add,show p+(30-p)=30 by omega];rfl
  have HU:Hid ((2:Int)^p*2^(30-p)=1073741824):=huv
  have hdv:(1073741824:Int)/2^p=2^(30-p):=by rw[<- huv];exact Int.mul_ediv_cancel_left _ (by omega)
  have hz:((2:Int)^p == 0)=false:=by simp;omega
  clear huv
  by_cases hqn:n<=q
  · have H0:Hid (val a n/P q/2^p=0):=by
      show _=_
      rw[Int.ediv_eq_zero_of_lt (bl da) (by have:=ck da;have:=gD hqn;omega)];exact Int.zero_ediv _
    go_enter Tryz.func116,Tryz.ntmps116
    go_wp2
    go_ret
    exact⟨_,rfl,by rw[H0.out];exact cP.nil (ak _)⟩
  · obtain⟨ba,fa,rfl,hba,hca⟩:=ha.spot (by omega)
    obtain⟨N,hN⟩:∃ N,n=q+N:=⟨n-q,by omega⟩
    have HN:Hid (n=q+N):=hN
    have hn1:q+N<=n:=by omega
    have hn2:n<=q+N:=by omega
    have hN0:0<N:=by omega
    clear hN
    go_enter Tryz.func116,Tryz.ntmps116
    go_wp2
    rw[e1,e2]
    go_loopw [5,7] (fun l i wr=>∃ (k:Nat) (r:Nat->Int),k<=N∧i=.int .i64 ((q:Int)+k)∧bF w.heap.size wr l k r∧Hid (∀ i,i<k->r i=low (fun j=>bJ a n (q+j)) (2^p) (2^(30-p)) i)∧Below w.heap.size w wr) (fun _ i _=>n-(intOf i).toNat)
    case atStart=>exact⟨0,fun _=>0,Nat.zero_le _,by simp,bF.nil _ _ _,fun i hi=>by omega,ak _⟩
    case round=>
      obtain⟨k,r,hk,rfl,hO,HV,hbw⟩:=hrel
      by_cases hlt:k<N
      · have c1:=(hbw.cell (p:=⟨ba,fa+(q+k),none⟩) hba).trans (hca (q+k) (by omega))
        have dx:=da (q+k) (by omega)
        by_cases hl2:q+k+1<n
        · have dy:=da (q+k+1) (by omega)
          obtain⟨s0,s1,s2,s3,s4⟩:=mR dx dy hp
          have s5:0<=a (q+k+1) % 2^p*2^(30-p):=Int.mul_nonneg s3 (Int.le_of_lt (aJ _))
          have s6:(2:Int)^(30-p)<=2^30:=di (by omega)
          have c2:=(hbw.cell (p:=⟨ba,fa+(q+k+1),none⟩) hba).trans (hca (q+k+1) (by omega))
          clear s2
          go_wp2
          go_quiet (fail)
          go_wp2_with (at_builtin;refine cy rfl _ _ rfl w.heap.size _ k r rfl ((hO.stays (aN (ak _) _)).stays (ah _ _)) _ 1 1 (fun _=>(a (q+k)/2^p+a (q+k+1) % 2^p*2^(30-p))) rfl (gT _ _ rfl) (by omega) (by have:=hbw.size;simp[World.drewN];omega) ?_;intro v' w1 hO1 hg1)
          have hb1:Below w.heap.size w w1:=((aN hbw _).alloc hbw.size _).grown hg1 (by have:=hbw.size;simp[World.drewN];omega) (dS hO)
          go_roundw
          case rel=>exact ⟨k+1,cl r k (a (q+k)/2^p+a (q+k+1) % 2^p*2^(30-p)),by omega,by go_num,hO1.congr (eh r k _),fun i hi=>by
              by_cases e:i=k
              · rw[e,bG]
                show _=bJ a n (q+k)/2^p+bJ a n (q+(k+1)) % 2^p*2^(30-p)
                rw[dI a (by omega),dI a (by omega),Nat.add_assoc]
              · rw [bm _ _ e]; exact HV.out i (by omega),hb1⟩
          case measure=>simp[intOf];omega
        · obtain⟨s0,s1,_,_,_⟩:=mR dx dx hp
          have s6:(2:Int)^(30-p)<=2^30:=di (by omega)
          go_wp2_with (at_builtin;refine cy rfl _ _ rfl w.heap.size _ k r rfl (hO.stays (ah _ _)) _ 1 1 (fun _=>(a (q+k)/2^p)) rfl (gT _ _ rfl) (by omega) (by have:=hbw.size;simp;omega) ?_;intro v' w1 hO1 hg1)
          have hb1:Below w.heap.size w w1:=(hbw.alloc hbw.size _).grown hg1 (by have:=hbw.size;simp;omega) (dS hO)
          go_roundw
          case rel=>exact ⟨k+1,cl r k (a (q+k)/2^p),by omega,by go_num,hO1.congr (eh r k _),fun i hi=>by
              by_cases e:i=k
              · rw[e,bG,qX (s:=fun j=>bJ a n (q+j)) (fM a (by omega)),dI a (by omega)]
              · rw [bm r _ e]; exact HV.out i (by omega),hb1⟩
          case measure=>simp[intOf];omega
      · obtain rfl:k=N:=by omega
        have DS:bv (fun j=>bJ a n (q+j)) (k+1):=fun i hi=>tM da (q+k+1) (q+i) (by omega)
        have D2:bv r k:=(tN hu HU.out DS).congr fun i hi=>(HV.out i hi).symm
        have HD2:Hid (bv r k):=D2
        clear D2 DS
        go_wp2_with fail
        refine(jO hO HD2.out hbw).mono ?_
        rintro e w3 ⟨v',rfl,hA,rfl⟩
        go_wp2
        go_ret
        refine⟨_,rfl,?_⟩
        rw[dH HV.out,vP (s:=fun j=>bJ a n (q+j)) hu HU.out (fM a (by omega))] at hA
        have e3:=mO a (show q<=n by omega) da
        rw[<- e3,show n-q=k by omega]
        rw[show val (fun j=>bJ a n (q+j)) k=val (fun i=>a (q+i)) k from dH fun i hi=>dI a (by omega)] at hA
        exact hA
theorem ro (ao:Option Addr) (n ca k:Nat) (a:Nat->Int) (w:World) (ha:aM w ao n ca a) (da:bv a n) (hn:n<=100000) (hk:k<=4000000) :
  Calls Tryz.prog 116 #[.slice ao n ca,.int .i64 k] w fun e w'=>∃ v,e=.returned v∧cP w w' (val a n/2^k) v:=by
 refine(AN ao n ca (k/30) (k % 30) a w ha da hn (by omega) k (by omega) (by omega)).mono ?_
 rintro e w' ⟨v,he,h⟩
 refine⟨v,he,?_⟩
 rw[lC k,<- Int.ediv_ediv_of_nonneg (Int.le_of_lt (bU _))]
 exact h
def mW {α:Type} (v:Nat->α) (i:Nat) (x:α):Nat->α:=fun j=>if j=i then x else v j
theorem iG {α:Type} (v:Nat->α) (i:Nat) (x:α):mW v i x i=x:=by simp[mW]
theorem gf {α:Type} (v:Nat->α) {i j:Nat} (x:α) (h:j≠i):mW v i x j=v j:=by simp[mW,h]
def Dx (v:Nat->Value) (m:Nat):List Value:=(List.range m).map v
def iQ (B:Nat) (w:World) (x:Value) (m:Nat) (v:Nat->Value):Prop:=w.ownsRow B 31 1 x m (Dx v m)
theorem iQ.shape {B:Nat} {w:World} {x:Value} {m:Nat} {v:Nat->Value} (h:iQ B w x m v):∃ xo xc,x=.slice xo m xc∧m<=xc∧xc<=9223372036854775807∧(0<m->∃ g,xo=some ⟨g,0,none⟩):=by
 rcases h.2 with⟨rfl,rfl⟩|⟨g,cap,cur,rfl,hb,hg,hn,hm,_⟩
 ·exact⟨none,0,rfl,Nat.le_refl _,by decide,fun h=>by omega⟩
 ·exact⟨_,cap,rfl,hn,by unfold maxLen at hm;exact hm,fun _=>⟨g,rfl⟩⟩
theorem iQ.of_block {B:Nat} {w w':World} {x:Value} {m:Nat} {v:Nat->Value} (h:iQ B w x m v) (hb:∀ g,x.ownBlock=some g->w'.heap[g]?=w.heap[g]?):iQ B w' x m v:=by
 refine⟨h.1,?_⟩
 rcases h.2 with hn|⟨g,cap,cur,rfl,hbb,hg,rest⟩
 ·exact .inl hn
 ·exact .inr ⟨g,cap,cur,rfl,hbb,(hb g rfl).trans hg,rest⟩
theorem bF.of_block {B:Nat} {w w':World} {x:Value} {n:Nat} {d:Nat->Int} (h:bF B w x n d) (hb:∀ g,x.ownBlock=some g->w'.heap[g]?=w.heap[g]?):bF B w' x n d:=by
 refine⟨h.1,?_⟩
 rcases h.2 with hn|⟨g,cap,cur,rfl,hbb,hg,rest⟩
 ·exact .inl hn
 ·exact .inr ⟨g,cap,cur,rfl,hbb,(hb g rfl).trans hg,rest⟩
theorem bF.typed {B:Nat} {w:World} {x:Value} {n:Nat} {d:Nat->Int} (h:bF B w x n d) {g:Nat} (hg:x.ownBlock=some g):∃ cur z,w.heap[g]?=some (.cells cur 3 z):=by
 rcases h.2 with⟨rfl,_⟩|⟨g',cap,cur,rfl,hbb,hg',rest⟩
 ·simp[Value.ownBlock] at hg
 ·simp only[Value.ownBlock,Option.some.injEq] at hg;subst hg;exact⟨cur,_,hg'⟩
theorem iQ.typed {B:Nat} {w:World} {x:Value} {n:Nat} {v:Nat->Value} (h:iQ B w x n v) {g:Nat} (hg:x.ownBlock=some g):∃ cur z,w.heap[g]?=some (.cells cur 31 z):=by
 rcases h.2 with⟨rfl,_⟩|⟨g',cap,cur,rfl,hbb,hg',rest⟩
 ·simp[Value.ownBlock] at hg
 ·simp only[Value.ownBlock,Option.some.injEq] at hg;subst hg;exact⟨cur,_,hg'⟩
theorem iQ.ge {B:Nat} {w:World} {x:Value} {n:Nat} {v:Nat->Value} (h:iQ B w x n v) {g:Nat} (hg:x.ownBlock=some g):B<=g∧g<w.heap.size:=by
 rcases h.2 with⟨rfl,_⟩|⟨g',cap,cur,rfl,hbb,hg',rest⟩
 ·simp[Value.ownBlock] at hg
 ·simp only[Value.ownBlock,Option.some.injEq] at hg;subst hg;exact⟨hbb,(aGe hg').1⟩
theorem bF.ge {B:Nat} {w:World} {x:Value} {n:Nat} {v:Nat->Int} (h:bF B w x n v) {g:Nat} (hg:x.ownBlock=some g):B<=g∧g<w.heap.size:=by
 rcases h.2 with⟨rfl,_⟩|⟨g',cap,cur,rfl,hbb,hg',rest⟩
 ·simp[Value.ownBlock] at hg
 ·simp only[Value.ownBlock,Option.some.injEq] at hg;subst hg;exact⟨hbb,(aGe hg').1⟩
theorem iQ.alloc {B:Nat} {w:World} {x:Value} {m:Nat} {v:Nat->Value} (h:iQ B w x m v) (o:Obj):iQ B (w.alloc o) x m v:=h.of_block fun g hg=>Below.heap_alloc _ _ _ (h.ge hg).2
def An (B:Nat) (w:World) (v:Value) (V:Int):Prop:=∃ t d,bF B w v t d∧bZ d t∧val d t=V
theorem An.keeps {B:Nat} {w w':World} {v:Value} {V:Int} (h:An B w v V) (k:Below w.heap.size w w'):An B w' v V:=by
 obtain⟨t,d,h1,h2⟩:=h
 exact⟨t,d,h1.stays k,h2⟩
theorem An.lower {B B':Nat} {w:World} {v:Value} {V:Int} (h:An B w v V) (hB:B'<=B):An B' w v V:=by
 obtain⟨t,d,h1,h2⟩:=h
 exact⟨t,d,h1.lower hB,h2⟩
theorem An.nil (B:Nat) (w:World):An B w (.slice none 0 0) 0:=⟨0,fun _=>0,bF.nil _ _ _,⟨fun i hi=>by omega,.inl rfl⟩,rfl⟩
theorem cP.an {w w':World} {V:Int} {v:Value} (h:cP w w' V v):An w.heap.size w' v V:=by
 obtain⟨t,d,h1,h2,h3,h4⟩:=h
 exact⟨t,d,h1,h2,h3⟩
theorem An.shape {B:Nat} {w:World} {v:Value} {V:Int} (h:An B w v V):∃ ao n cap,v=.slice ao n cap:=by
 obtain⟨t,d,h1,h2⟩:=h
 obtain⟨ao,cap,e,_⟩:=h1.row
 exact⟨ao,t,cap,e⟩
theorem An.num {B:Nat} {w:World} {v:Value} {V:Int} (h:An B w v V):bQ w v V:=by
 obtain⟨t,d,h1,h2,h3⟩:=h
 obtain⟨ao,cap,rfl,hR⟩:=h1.row
 exact⟨ao,t,cap,d,rfl,hR,h2,h3⟩
theorem An.ge {B:Nat} {w:World} {v:Value} {V:Int} (h:An B w v V) {g:Nat} (hg:v.ownBlock=some g):B<=g∧g<w.heap.size:=by
 obtain⟨t,d,h1,h2,h3⟩:=h
 exact h1.ge hg
def S2 (S:Nat->Prop) (l:Value) (s:Nat):Nat->Prop:=fun g=>S g∨l.ownBlock=some g∨s<=g
def kb (B:Nat) (w:World) (V:Int) (v:Value) (er:Int):Prop:=(V<P 2000∧er=0∧An B w v V)∨(P 2000<=V∧er=2∧v=.slice none 0 0)
theorem kb.keeps {B:Nat} {w w':World} {v:Value} {V er:Int} (h:kb B w V v er) (k:Below w.heap.size w w'):kb B w' V v er:=by
 rcases h with⟨h1,h2,h3⟩|h
 ·exact .inl ⟨h1,h2,h3.keeps k⟩
 ·exact .inr h
theorem kb.lower {B B':Nat} {w:World} {v:Value} {V er:Int} (h:kb B w V v er) (hB:B'<=B):kb B' w V v er:=by
 rcases h with⟨h1,h2,h3⟩|h
 ·exact .inl ⟨h1,h2,h3.lower hB⟩
 ·exact .inr h
theorem kb.ge {B:Nat} {w:World} {v:Value} {V er:Int} (h:kb B w V v er) {g:Nat} (hg:v.ownBlock=some g):B<=g∧g<w.heap.size:=by
 rcases h with⟨h1,h2,h3⟩|⟨_,_,rfl⟩
 ·exact h3.ge hg
 ·simp[Value.ownBlock] at hg
theorem kb.shape {B:Nat} {w:World} {v:Value} {V er:Int} (h:kb B w V v er):∃ ao n cap,v=.slice ao n cap:=by
 rcases h with⟨h1,h2,h3⟩|⟨_,_,rfl⟩
 ·exact h3.shape
 ·exact⟨_,_,_,rfl⟩
def zO (a:Nat->Int) (n:Nat):Nat->Int:=kh a n (fun i=>-71-(i:Int))
def qC (w w':World) (v:Value) (n:Nat) (a:Nat->Int):Prop:=∃ g cap,v=.slice (some ⟨g,0,none⟩) (n+3) cap∧bF w.heap.size w' v (n+3) (zO a n)∧Below w.heap.size w w'
theorem qC.below {w w':World} {v:Value} {n:Nat} {a:Nat->Int} (h:qC w w' v n a):Below w.heap.size w w':=by
 obtain⟨g,cap,_,_,hb⟩:=h
 exact hb
theorem qC.parts {w w':World} {v:Value} {n:Nat} {a:Nat->Int} (h:qC w w' v n a):∃ g cap,v=.slice (some ⟨g,0,none⟩) (n+3) cap∧bF w.heap.size w' (.slice (some ⟨g,0,none⟩) (n+3) cap) (n+3) (zO a n):=by
 obtain⟨g,cap,rfl,h,_⟩:=h
 exact⟨g,cap,rfl,h⟩
theorem tr {A l m:Int} (h:mT A l) (k:mT A m):l=m:=by
 have hz:∀ i:Nat,¬ dn 0 i:=fun i ⟨q,e⟩=>by
  have h2:=aJ i
  have h3:(2*q+1)≠0:=by omega
  rcases Int.mul_eq_zero.1 e.symm with h|h
  ·exact h3 h
  ·omega
 rcases h with⟨h0,h1⟩|⟨i,h1,hi⟩<;>rcases k with⟨k0,k1⟩|⟨j,k1,hj⟩
 ·omega
 ·subst h0;exact absurd hj (hz j)
 ·subst k0;exact absurd hi (hz i)
 ·rw[h1,k1,kO hi hj]
theorem mY (ao:Option Addr) (n cap:Nat) (d:Nat->Int) (w:World) (h:aM w ao n cap d) (hd:bv d n) (hn:n<=100000) :
  Calls Tryz.prog 115 #[.slice ao n cap] w fun e w'=>∃ l,e=.returned (.int .i64 l)∧mT (val d n) l∧w'=w:=by
 have hl:=h.le
 have hm:=h.max
 go_enter Tryz.func115,Tryz.ntmps115
 go_wp2
 go_loop [3] (fun i=>∃ k:Nat,k<=n∧i=.int .i64 k∧Hid (∀ j,j<k->d j=0)) (fun i=>n-(intOf i).toNat)
 case atStart=>exact⟨0,Nat.zero_le _,rfl,fun j hj=>by omega⟩
 case round=>
  obtain⟨k,hk,rfl,HZ⟩:=hrel
  by_cases hlt:k<n
  ·obtain⟨b,off,rfl,hb,hc⟩:=h.spot (by omega)
   have c:=hc k hlt
   have dk:=hd k hlt
   by_cases h0:d k=0
   ·have e0:(d k != 0)=false:=by simp[h0]
    go_wp2
    go_round
    case rel=>exact⟨k+1,by omega,by go_num,fun j hj=>by by_cases e:j=k;(· rw[e];exact h0);(· exact HZ.out j (by omega))⟩
    case measure=>simp[intOf];omega
   ·have e0:(d k != 0)=true:=by simp[h0]
    have hpos:0<d k:=by omega
    go_wp2
    go_loop [4,5] (fun s v=>∃ (x:Int) (t:Nat),s=.int .i64 ((30*k+t:Nat):Int)∧v=.int .i64 x∧0<x∧x<1073741824∧t<=30∧Hid (x*2^t=d k)) (fun _ v=>(intOf v).toNat)
    case atStart=>exact⟨d k,0,by go_num,rfl,hpos,dk.2,by omega,by show _=_;simp⟩
    case round=>
     obtain⟨x,t,rfl,rfl,hx0,hx1,ht,HT⟩:=hrel
     by_cases he:x % 2=0
     ·have ee:(x % 2 == 0)=true:=by simp[he]
      have HT2:Hid (x/2*2^(t+1)=d k):=by
       show _=_
       rw[Int.pow_succ,Int.mul_comm (2^t) 2,<- Int.mul_assoc,show x/2*2=x by omega];exact HT.out
      have ht2:t+1<=30:=by
       have h1:1*2^(t+1)<=x/2*2^(t+1):=Int.mul_le_mul_of_nonneg_right (by omega) (Int.le_of_lt (aJ _))
       rw[HT2.out] at h1
       have h2:(2:Int)^(t+1)<2^30:=by have:(2:Int)^30=1073741824:=rfl;omega
       have:=eG h2
       omega
      go_wp2
      go_round
      case rel=>exact⟨x/2,t+1,by go_num,rfl,by omega,by omega,ht2,HT2.out⟩
      case measure=>simp[intOf];omega
     ·have ee:(x % 2 == 0)=false:=by simp[he]
      have HL:Hid (dn (d k) t):=⟨x/2,by rw[show 2*(x/2)+1=x by omega];exact HT.out.symm⟩
      go_wp2
      go_ret
      exact⟨_,rfl,.inr ⟨30*k+t,rfl,pE hlt HZ.out HL.out (wj hpos dk.2 HL.out)⟩,rfl⟩
  ·obtain rfl:k=n:=by omega
   go_wp2
   go_ret
   exact⟨_,rfl,.inl ⟨by rw[dZ (Nat.zero_le _) (fun i _ hi=>HZ.out i hi)];rfl,rfl⟩,rfl⟩
theorem lR (ng:Bool) (ao:Option Addr) (n cap:Nat) (d:Nat->Int) (e:Int) (w:World) (h:aM w ao n cap d) (hd:bv d n) (hn:n<=40000) (he0:-4194304<=e) (he1:e<=4194304) :
  Calls Tryz.prog 92 #[.bool ng,.slice ao n cap,.int .i64 e] w fun r w'=>∃ v,r=.returned v∧aX w w' (sg ng (val d n)*pw e) v:=by
 by_cases h0:val d n=0
 ·rw[h0,eg,Int.zero_mul]
  go_enter Tryz.func92,Tryz.ntmps92
  go_wp2_with fail
  refine(mY _ _ _ _ _ (h.keeps (ah _ _)) hd (by omega)).mono ?_
  rintro r w1 ⟨l,rfl,hl,rfl⟩
  have hl1:l=-1:=by
   rcases hl with⟨_,h1⟩|⟨k,_,m,hm⟩
   ·exact h1
   ·exfalso
    rw[h0] at hm
    rcases Int.mul_eq_zero.1 hm.symm with x|x
    ·omega
    ·have:=aJ k;omega
  subst hl1
  go_wp2
  refine bodyPost_ret (v:=dN) (by simp[results,Tryz.results92,go_sem,dN]) rfl ⟨_,rfl,?_⟩
  exact aX.zero (ah _ _)
 ·have hp:0<val d n:=by have:=bl hd;omega
  go_enter Tryz.func92,Tryz.ntmps92
  go_wp2_with fail
  refine(mY _ _ _ _ _ (h.keeps (ah _ _)) hd (by omega)).mono ?_
  rintro r w1 ⟨l,rfl,hl,rfl⟩
  have hl2:∃ k:Nat,l=k∧dn (val d n) k:=by
   rcases hl with⟨h1,_⟩|h1
   ·omega
   ·exact h1
  obtain⟨k,rfl,hk⟩:=hl2
  have hkn:k<30*n:=by
   have h1:=ck hd
   rw[dC] at h1
   obtain⟨a,b,c⟩:=ff hk hp
   have h2:(1:Int)*2^k<=val d n/2^k*2^k:=Int.mul_le_mul_of_nonneg_right (by omega) (Int.le_of_lt (aJ k))
   exact eG (by omega)
  have hy:=Dy.of ng hk hp he0
  have HY:Hid (Dy (sg ng (val d n)*pw e) ng (val d n/2^k) (e+k)):=hy
  clear hy hl hk
  go_wp2_with fail
  refine(ro _ _ _ k d _ (h.keeps (ah _ _)) hd (by omega) (by omega)).mono ?_
  rintro r w2 ⟨v,rfl,hA⟩
  obtain⟨so,sn,sc,rfl⟩:=hA.num.shape
  have q0:=(hA.below.block w.heap.size (by rw[eH];omega)).trans (aC _ _)
  have x0:=af q0 0 rfl
  have x1:=af q0 1 rfl
  have x2:=af q0 2 rfl
  have z0:=av q0 0
  have z1:=av q0 1
  have z2:=av q0 2
  go_wp2
  refine bodyPost_ret (v:=.agg #[.bool ng,.slice so sn sc,.int .i64 (e+k)]) (by simp[results,Tryz.results92,go_sem,x0,x1,x2]) rfl ⟨_,rfl,?_⟩
  exact⟨_,_,_,_,rfl,HY.out,ig (g:=w.heap.size) hA (ah _ _) (Nat.le_refl _) (by rw[eH];omega) _ _ _⟩
def Bd (B:Nat) (V:Int):Prop:=∃ m:Int,V=m*pw (-(B:Int))∧-(2^(2*B))<m∧m<2^(2*B)
theorem Bd.ok {B:Nat} {V:Int} (h:Bd B V) (hB:B<=29000):de V:=by
 obtain⟨m,rfl,h1,h2⟩:=h
 by_cases h0:m=0
 ·rw[h0,Int.zero_mul];exact kC
 ·have bk:∀ (ng:Bool) (M:Int),0<M->M<2^(2*B)->de (sg ng M*pw (-(B:Int))):=fun ng M hM hlt=>by
   obtain⟨l,hl⟩:=ii hM
   have hy:=Dy.of ng hl hM (show -4194304 <= -(B:Int) by omega)
   obtain⟨c1,c2,c3⟩:=ff hl hM
   have hl2:l<2*B:=by
    have h3:(1:Int)*2^l<=M/2^l*2^l:=Int.mul_le_mul_of_nonneg_right (by omega) (Int.le_of_lt (aJ l))
    rw[c3] at h3
    exact eG (by omega)
   refine hy.ok.2 ⟨?_,by omega,by omega⟩
   have h4:M/2^l<=M:=Int.ediv_le_self _ (by omega)
   have h5:(2:Int)^(2*B)<=2^(30*2000):=di (by omega)
   rw[dC]
   omega
  by_cases hp:0<m
  ·exact bk false m hp h2
  ·have:=bk true (-m) (by omega) (by omega)
   rwa [show sg true (-m)=m by simp[sg]] at this
theorem Bd.up {B C:Nat} {V:Int} (h:Bd B V) (hBC:B<=C) (hC:C<=4194304):Bd C V:=by
 obtain⟨m,rfl,h1,h2⟩:=h
 have hp:=aJ (C-B)
 have e:pw (-(B:Int))=pw (-(C:Int))*2^(C-B):=by
  rw[<- eS (by omega)];congr 1;omega
 have hle:(2:Int)^(2*B)*2^(C-B)<=2^(2*C):=by rw[<- Int.pow_add];exact di (by omega)
 refine⟨m*2^(C-B),by rw[e];grind,?_,?_⟩
 ·have:-(2^(2*B))*2^(C-B)<m*2^(C-B):=Int.mul_lt_mul_of_pos_right h1 hp
  rw[Int.neg_mul] at this
  omega
 ·have:=Int.mul_lt_mul_of_pos_right h2 hp
  omega
theorem Bd.add {B:Nat} {V W:Int} (h:Bd B V) (k:Bd B W) (hB:B<4194304):Bd (B+1) (V+W):=by
 obtain⟨m,rfl,h1,h2⟩:=h
 obtain⟨n,rfl,k1,k2⟩:=k
 have e:pw (-(B:Int))=pw (-((B+1:Nat):Int))*2:=by
  have:=eS (e:=-((B+1:Nat):Int)) (by omega) 1
  rw[Int.pow_succ,Int.pow_zero,Int.one_mul] at this
  rw[<- this];congr 1;omega
 have e2:(2:Int)^(2*(B+1))=2^(2*B)*4:=by rw[show 2*(B+1)=2*B+2 by omega,Int.pow_add];rfl
 refine⟨2*(m+n),by rw[e];grind,?_,?_⟩<;>rw[e2]<;>omega
theorem Bd.neg {B:Nat} {V:Int} (h:Bd B V):Bd B (-V):=by
 obtain⟨m,rfl,h1,h2⟩:=h
 exact⟨-m,by rw[Int.neg_mul],by omega,by omega⟩
theorem Bd.mul {B:Nat} {V W U:Int} (h:Bd B V) (k:Bd B W) (hU:U*2^4194304=V*W) (hB:B<=1000000):Bd (2*B) U:=by
 obtain⟨m,rfl,h1,h2⟩:=h
 obtain⟨n,rfl,k1,k2⟩:=k
 have e:U=m*n*pw (-((2*B:Nat):Int)):=by
  refine lE ?_
  rw[hU,Int.mul_assoc (m*n),show -((2*B:Nat):Int)=-(B:Int) + -(B:Int) by omega,<- lD (by omega) (by omega)];grind
 refine⟨m*n,e,?_,?_⟩
 all_goals
  have hab:(m*n).natAbs<((2:Int)^(2*(2*B))).natAbs:=by
   rw[Int.natAbs_mul,show 2*(2*B)=2*B+2*B by omega,Int.pow_add,Int.natAbs_mul]
   exact Nat.mul_lt_mul'' (by have:=aJ (2*B);omega) (by have:=aJ (2*B);omega)
  have:=aJ (2*(2*B))
  omega
theorem BS {ng:Bool} {M e:Int} (h0:0<=M) (h1:M<P 30) (e0:-3000<e) (e1:e<3000):Bd 4000 (sg ng M*pw e):=by
 have hs:pw e=pw (-((4000:Nat):Int))*2^(e+4000).toNat:=by
  rw[<- eS (by omega)];congr 1;omega
 have hp:=aJ (e+4000).toNat
 have hlt:M*2^(e+4000).toNat<2^(2*4000):=by
  have a:M*2^(e+4000).toNat<P 30*2^(e+4000).toNat:=Int.mul_lt_mul_of_pos_right h1 hp
  rw[dC,<- Int.pow_add] at a
  have b:(2:Int)^(30*30+(e+4000).toNat)<=2^(2*4000):=di (by omega)
  omega
 have hn:0<=M*2^(e+4000).toNat:=Int.mul_nonneg h0 (Int.le_of_lt hp)
 refine⟨sg ng (M*2^(e+4000).toNat),by rw[hs,iE,iE];grind,?_,?_⟩
 all_goals
  generalize M*2^(e+4000).toNat=X at *
  generalize (2:Int)^(2*4000)=T at *
  cases ng<;>simp only[sg]<;>simp<;>omega
end Go.Proofs.YtcklaogdjpbagaaGreatDoor
namespace Go.Proofs.YtcklaogdjpbagaaGreatDoor
open Go Go.ChangeShapes Go.WideShapes Go.ChangeAt Go.RowKit Go.Proofs.YtcklaogdjpbagaaGreatDoor.M
theorem rt {x:Int} (h:(Lit.int .i64 x).wf=true):ax x:=by
 simp[Lit.wf,IntKind.min,IntKind.max,IntKind.signed,IntKind.bits] at h
 unfold ax;omega
end Go.Proofs.YtcklaogdjpbagaaGreatDoor
namespace Go.Proofs.YtcklaogdjpbagaaGreatDoor
open Go Go.RowKit Go.ChangeShapes Go.Proofs.YtcklaogdjpbagaaGreatDoor.M
theorem BT : Tryz.prog.globalNamed "math/bits.deBruijn64tab" = some 3 := by kernel_rfl
theorem yC:(Tryz.prog.globals[(3:Nat)]?).map (·.type)=some 183:=by kernel_rfl
theorem yD:Tryz.prog.cellsOf 183=64:=by kernel_rfl
theorem wE:Tryz.prog.cellsOf 5=1:=by kernel_rfl
def tY:List Int:=Lib.deBruijn64tab.map Int.ofNat
theorem AO:∀ j,j<64->tY.getD j 0=((Lib.deBruijn64tab.getD j 0:Nat):Int):=by decide +kernel
theorem yE:Tryz.prog.cellsOf 3=1:=by kernel_rfl
theorem tv:Tryz.prog.cellsOf 160=3:=by kernel_rfl
theorem EM : Tryz.prog.globalNamed "plumb/bits.binary64" = some 1 := by kernel_rfl
theorem AP:(Tryz.prog.globals[(1:Nat)]?).map (·.type)=some 160:=by kernel_rfl
theorem kT {W:World} {name:String} {g:Nat} {a b c:Int} {rest:List (String × DataW Unit)} (hg:Tryz.prog.globalNamed name=some g) (hty:(Tryz.prog.globals[g]?).map (·.type)=some 160)
  (h:laidMet Tryz.prog ((name,.agg [.lit (.int .i64 a),.lit (.int .i64 b),.lit (.int .i64 c)]) :: rest) W) :
  W.cell? ⟨g,0,none⟩=some (.int .i64 a)∧W.cell? ⟨g,1,none⟩=some (.int .i64 b)∧W.cell? ⟨g,2,none⟩=some (.int .i64 c):=by
 obtain⟨ps,⟨g',t',cs,fuel,p,q,hg',ht',hvar,hd,_,_⟩,_⟩:=h
 obtain rfl:=Option.some.inj (hg.symm.trans hg')
 obtain rfl:=Option.some.inj (hty.symm.trans ht')
 obtain⟨y0,y1,y2,n,hx,hl,h0,h1,h2⟩:=Go.Deep.trod_struct3 Tryz.underlying160 hd
 obtain⟨k0,e0,f0,_⟩:=DataW.trod_int Tryz.underlying3 h0
 obtain⟨k1,e1,f1,_⟩:=DataW.trod_int Tryz.underlying3 h1
 obtain⟨k2,e2,f2,_⟩:=DataW.trod_int Tryz.underlying3 h2
 rw[f0,f1,f2] at hx
 simp only[Prod.mk.injEq,DataW.agg.injEq,List.cons.injEq,DataW.lit.injEq,Lit.int.injEq,true_and,and_true] at hx
 obtain⟨⟨rfl,rfl,rfl⟩,_⟩:=hx
 rw[tv] at hl
 rw[yE] at e0 e1 e2
 have v:=fun i=>World.var?_cell hg hvar i
 obtain⟨l⟩:=cs
 simp only at hl e0 e1 e2
 match l,hl with
 | [c0,c1,c2],_=>
  simp at e0 e1 e2
  subst e0 e1 e2
  exact⟨by simpa using v 0,by simpa using v 1,by simpa using v 2⟩
end Go.Proofs.YtcklaogdjpbagaaGreatDoor
namespace Go.Proofs.YtcklaogdjpbagaaGreatDoor
open Go Go.ChangeShapes Go.WideShapes Go.ChangeAt Go.RowKit Go.Proofs.YtcklaogdjpbagaaGreatDoor.M
structure uY (w:World):Prop where
 lay:kS w
 tab:ec w
theorem uY.keeps {w w':World} (h:uY w) (hb:Below w.heap.size w w'):uY w':=⟨h.lay.keeps hb,h.tab.keeps hb⟩
theorem AQ {W : World} (h : laidMetH Tryz.prog [("math/bits.deBruijn32tab", Rows.laid_math_bits_deBruijn32tab), ("math/bits.deBruijn64tab", Rows.laid_math_bits_deBruijn64tab), ("plumb/bits.binary64", Rows.laid_plumb_bits_binary64)] W) : uY W := by
 rw[MakeChecks.laidMetH_plain _ _ _ (by kernel_rfl)] at h
 have h' : laidMet Tryz.prog (("math/bits.deBruijn64tab", Lib.tabData .u8 tY) :: [("plumb/bits.binary64", Rows.laid_plumb_bits_binary64)]) W := h.tail
 have t:=Lib.tabIs_of_head BT yC Tryz.underlying183 Tryz.underlying5 wE yD h'
 obtain⟨a0,a1,a2⟩:=kT EM AP h'.tail
 refine⟨⟨a0,a1,a2⟩,fun j hj=>?_⟩
 rw[<- AO j hj]
 exact t.cell BT j (by exact hj)
end Go.Proofs.YtcklaogdjpbagaaGreatDoor
namespace Go.Proofs.YtcklaogdjpbagaaGreatDoor
open Go Go.RowKit Go.Proofs.YtcklaogdjpbagaaGreatDoor.M
theorem aT {w w':World} {V:Int} {v:Value} (h:aX w w' V v):∃ ng so sn sc e,v=.agg #[.bool ng,.slice so sn sc,.int .i64 e]:=by
 obtain⟨ng,s,m,e,h1,_,hA⟩:=h
 obtain⟨so,sn,sc,rfl⟩:=hA.num.shape
 exact⟨_,_,_,_,_,h1⟩
theorem Dz {w:World} {x y:Value} {A B:Int} {k:Nat} (hx:aR w x A) (hy:aR w y B) (bA:Bd k A) (bB:Bd k B) (hk:k<=28000) (hT:ec w) :
  Calls Tryz.prog 79 #[x,y] w fun r w'=>∃ v,r=.returned (.tuple #[v,.int .i64 0])∧aX w w' (A-B) v:=by
 refine(Du hx hy (bA.ok (by omega)) (bB.ok (by omega)) hT).mono ?_
 rintro r w' ⟨v,er,rfl,hF⟩
 have hb:=bA.add bB.neg (by omega)
 rw[<- Int.sub_eq_add_neg] at hb
 obtain⟨rfl,hD⟩:=hF.yes (hb.ok (by omega))
 exact⟨v,rfl,hD⟩
theorem AR (a b c:Int):aZ (a*c) (b*c)=aZ a b*aZ c 0:=by
 rcases Int.lt_trichotomy c 0 with h|h|h
 ·have e:∀ x:Int,x*c=-(x * -c):=fun x=>by rw[Int.mul_neg,Int.neg_neg]
  rw[e a,e b,tX,pK (show 0 < -c by omega),dJ h];omega
 ·rw[h,Int.mul_zero,Int.mul_zero,fw rfl,Int.mul_zero]
 ·rw[pK h,dK h,Int.mul_one]
def aq (b:Int):Int:=sg (dV b) (bI b)*pw (bK b)
def fP (A b:Int):Int:=if aF b=true then aZ A (aq b) else if b<0 then 1 else -1
end Go.Proofs.YtcklaogdjpbagaaGreatDoor
namespace Go.Proofs.YtcklaogdjpbagaaGreatDoor
open Go Go.Proofs.YtcklaogdjpbagaaGreatDoor.M
def vS (r:Nat):Int:=(V Ieee.double r:Int)*pw (-1074)
theorem kU {r s:Nat} (h:r<s):vS r<vS s:=Int.mul_lt_mul_of_pos_right (by have:=iN Ieee.double h;omega) (cv _)
structure dW (A:Int) (r0:Nat) (left:Int):Prop where
 lo:vS r0<=A
 hi:A<vS (r0+1)
 l0:left=0↔A=vS r0
 l1:left=1↔vS r0<A∧2*A<vS r0+vS (r0+1)
 l2:left=2↔2*A=vS r0+vS (r0+1)
 l3:left=3↔vS r0+vS (r0+1)<2*A
def bR (way:Int) (ng:Bool) (r0:Nat) (left:Int):Int:=if (r0:Int)<9218868437227405312 then (r0:Int)+(if cK way ng (decide (r0 % 2=1)) left then 1 else 0) else fK way ng
theorem il {way:Int} {ng odd:Bool} (h:cK way ng odd 0=true):False:=by
 unfold cK at h
 split at h
 ·simp at h
 ·split at h
  ·simp at h
  ·split at h<;>simp at h
theorem mZ {way:Int} {ng odd:Bool} {left:Int} (h:cK way ng odd left=true):cK way ng true 3=true:=by
 unfold cK at *
 split at h
 ·rename_i h1;rw[if_pos h1];rfl
 ·rename_i h1
  rw[if_neg h1]
  split at h
  ·rename_i h2;rw[if_pos h2];simp at h;simp[h.2]
  ·rename_i h2
   rw[if_neg h2]
   split at h
   ·rename_i h3;rw[if_pos h3];simp at h;simp[h.2]
   ·cases h
theorem lS {A:Int} {u a r0:Nat} {left:Int} (h:M.gS A u (2^a*pw (-1074)) left) (h1:V Ieee.double r0=u*2^a) (h2:V Ieee.double (r0+1)=(u+1)*2^a):dW A r0 left:=by
 obtain⟨lo,hi,l0,l1,l2,l3⟩:=h
 have e1:vS r0=(u:Int)*(2^a*pw (-1074)):=by
  unfold vS
  rw[h1]
  push_cast
  rw[Int.mul_assoc]
 have e2:vS (r0+1)=(u:Int)*(2^a*pw (-1074))+2^a*pw (-1074):=by
  unfold vS
  rw[h2]
  push_cast
  rw[Int.add_mul,Int.add_mul,Int.one_mul,Int.mul_assoc]
 generalize (2:Int)^a*pw (-1074)=q at *
 generalize (u:Int)*q=U at *
 exact⟨by omega,by omega,by rw[e1];exact l0,by rw[e1,e2,l1];constructor<;>intro h<;>omega,by rw[e1,e2,l2];constructor<;>intro h<;>omega,by rw[e1,e2,l3];constructor<;>intro h<;>omega⟩
theorem yF {way:Int} {ng sd:Bool} {A:Int} {mag:Nat} {exp:Int} {cut:Bool} (hA:lI A mag exp cut) (hm:mag<2^64) (h0:mag≠0) (he:-4194304<=exp) (hc:cut=true->2^60<=mag) :
    ∃ (r0:Nat) (left:Int),dW A r0 left∧pI way ng sd mag exp cut=(aK (ng&&(decide (0<bR way ng r0 left)||sd)) (bR way ng r0 left),decide (left≠0)||decide (9218868437227405312<=(r0:Int))):=by
  have e64:(2:Nat)^64=18446744073709551616:=by decide
  obtain⟨b1,b2,b3,b4⟩:=M.eN mag hm h0
  have hbits:=Aw (size:=53) (low:=-1074) (exp:=exp) (by decide) hm h0
  have hE1:-1074<=rE 53 (-1074) mag exp:=by unfold rE;omega
  have hcs:cut=true->0<rE 53 (-1074) mag exp-exp:=fun h=>by
    have h1:=hc h
    have h2:60<Lib.bitLen mag:=by
      have:=(Nat.pow_lt_pow_iff_right (by decide:1<2)).1 (Nat.lt_of_le_of_lt h1 b2)
      exact this
    unfold rE
    omega
  have hL:=tP hA hcs (by omega) he
  obtain⟨E,hE⟩:∃ E,rE 53 (-1074) mag exp=E:=⟨_,rfl⟩
  have HR:pI way ng sd mag exp cut=(let E:=rE 53 (-1074) mag exp
    let u:=rU mag (E-exp)
    let left:=rL mag cut (E-exp)
    let U:=u+(if cK way ng (decide (u % 2=1)) left then 1 else 0)
    let neg:=ng&&(decide (0<U)||sd)
    if jk 52 2047 (-1074) U E then (jp neg U E,decide (left≠0)) else (aK neg (fK way neg),true)):=rfl
  simp only at HR
  rw[hE] at hbits hE1 hL HR
  obtain⟨u,hu⟩:∃ u,rU mag (E-exp)=u:=⟨_,rfl⟩
  obtain⟨left,hl⟩:∃ l,rL mag cut (E-exp)=l:=⟨_,rfl⟩
  rw[hu] at hbits hL HR
  rw[hl] at hL HR
  obtain⟨a,ha⟩:∃ a,(E - -1074).toNat=a:=⟨_,rfl⟩
  have e53:(2:Nat)^(53:Int).toNat=9007199254740992:=by decide
  have e52:(2:Nat)^((53:Int).toNat-1)=4503599627370496:=by decide
  rw[e53,e52] at hbits
  have eB:Ieee.double.binade=4503599627370496:=by decide
  have hV:=lJ Ieee.double a u (by rw[eB];omega) (fun h=>by rw[eB];exact hbits.2 (by omega))
  rw[eB] at hV
  have hpw:pw E=2^a*pw (-1074):=by rw[js (e:=E) (low:=-1074) (by decide) hE1,ha]
  rw[hpw] at hL
  refine⟨a*4503599627370496+u,left,lS hL hV.1 hV.2,?_⟩
  rw[HR]
  have hodd:decide ((a*4503599627370496+u) % 2=1)=decide (u % 2=1):=by congr 1;apply propext;omega
  unfold bR
  rw[hodd]
  obtain⟨R,hR⟩:∃ R,cK way ng (decide (u % 2=1)) left=R:=⟨_,rfl⟩
  rw[hR]
  obtain⟨U,hU⟩:∃ U,u+(if R=true then 1 else 0)=U:=⟨_,rfl⟩
  rw[hU]
  have hR1:R=true->left≠0:=fun h hz=>by rw[hz,h] at hR;exact il hR
  have hR2:R=true->cK way ng true 3=true:=fun h=>mZ (hR.trans h)
  have hUle:U<=9007199254740992:=by rw[<- hU];split<;>omega
  have hcast:((a*4503599627370496+u:Nat):Int)+(if R=true then 1 else 0)=((a*4503599627370496+U:Nat):Int):=by
    rw[<- hU]
    cases R<;>simp only[if_true,if_false,Bool.false_eq_true]<;>omega
  rw[hcast]
  by_cases hU0:U=0
  · have hu0:u=0:=by rw[<- hU] at hU0;omega
    have ha0:a=0:=by
      rcases Nat.eq_zero_or_pos a with h|h
      · exact h
      · have:=hbits.2 (by omega);omega
    subst hU0 hu0 ha0
    have hj:jk 52 2047 (-1074) ((0:Nat):Int) E=true:=rfl
    rw[hj]
    rw[if_pos rfl,if_pos (by decide)]
    have hd:decide (9218868437227405312<=((0*4503599627370496+0:Nat):Int))=false:=by decide
    rw[hd,Bool.or_false]
    cases ng<;>cases sd<;>rfl
  · have hjr:=pj Ieee.double 52 (by decide) dB 2047 (-1074) (by decide) U E (by omega) (by rw[show(2:Nat)^(52+1)=9007199254740992 by decide];exact hUle) hE1 (fun h=>by rw[show(2:Nat)^52=4503599627370496 by decide];have:=hbits.2 h;rw[<- hU];omega)
    simp only at hjr
    rw[ha,show(2:Nat)^52=4503599627370496 by decide,show(2047:Int)*2^52=9218868437227405312 by decide] at hjr
    obtain⟨j1,j2⟩:=hjr
    have hpos:decide (0<U)=true:=decide_eq_true (by omega)
    rw[show jk ((52:Nat):Int) 2047 (-1074) (U:Int) E=jk 52 2047 (-1074) (U:Int) E from rfl] at j1
    rw[j1,hpos,Bool.true_or,Bool.and_true]
    by_cases hf:((a*4503599627370496+U:Nat):Int)<9218868437227405312
    · have huU:u<=U:=by rw[<- hU];omega
      have hf0:((a*4503599627370496+u:Nat):Int)<9218868437227405312:=by omega
      rw[decide_eq_true hf,if_pos rfl,if_pos hf0,decide_eq_false (p:=9218868437227405312<=((a*4503599627370496+u:Nat):Int)) (by omega),Bool.or_false]
      have hd:decide (0<((a*4503599627370496+U:Nat):Int))=true:=decide_eq_true (by omega)
      rw[hd,Bool.true_or,Bool.and_true]
      congr 1
      have hjk:jk 52 2047 (-1074) (U:Int) E=true:=by rw[j1];exact decide_eq_true hf
      have hjv:=j2 hf
      rw[show jv ((52:Nat):Int) 2047 (-1074) (U:Int) E=jv 52 2047 (-1074) (U:Int) E from rfl] at hjv
      unfold jp aK
      rw[hjk,hjv,Bool.true_and]
    · rw[decide_eq_false hf,if_neg (by simp)]
      by_cases hf0:((a*4503599627370496+u:Nat):Int)<9218868437227405312
      · have hRt:R=true:=by
          cases R
          · exfalso;simp at hU;omega
          · rfl
        have hUe:((a*4503599627370496+U:Nat):Int)=9218868437227405312:=by rw[hRt] at hU;simp at hU;omega
        rw[if_pos hf0,hUe,decide_eq_true (hR1 hRt),Bool.true_or]
        congr 1
        have:fK way ng=9218868437227405312:=by unfold fK;rw[hR2 hRt,if_pos rfl]
        rw[this]
        simp
      · rw[if_neg hf0,decide_eq_true (p:=9218868437227405312<=((a*4503599627370496+u:Nat):Int)) (by omega),Bool.or_true]
        congr 1
        have hd:decide (0<fK way ng)=true:=by unfold fK;split<;>decide
        rw[hd,Bool.true_or,Bool.and_true]
end Go.Proofs.YtcklaogdjpbagaaGreatDoor
namespace Go.Proofs.YtcklaogdjpbagaaGreatDoor
open Go Go.RowKit Go.Proofs.YtcklaogdjpbagaaGreatDoor.M
theorem yG {M e:Int} (h:0<=M) (he:-4194304<=e) (k:Nat):lI (M*pw e) (M/2^k).toNat (e+k) (decide (M % 2^k≠0)):=by
 have hp:=aJ k
 have hq:=cv e
 have h0:0<=M/2^k:=Int.ediv_nonneg h (by omega)
 have hm0:=Int.emod_nonneg M (show(2:Int)^k≠0 by omega)
 have hm1:=Int.emod_lt_of_pos M hp
 have hd:=Int.mul_ediv_add_emod M (2^k)
 unfold lI
 rw[Int.toNat_of_nonneg h0,eS he]
 generalize M/2^k=Q at *
 generalize M % 2^k=T at *
 generalize pw e=q at *
 generalize (2:Int)^k=D at *
 have e1:Q*(q*D)=(D*Q)*q:=by rw[Int.mul_comm q D,<- Int.mul_assoc,Int.mul_comm Q D]
 have e2:(Q+1)*(q*D)=(D*Q)*q+D*q:=by rw[Int.add_mul,e1,Int.one_mul,Int.mul_comm q D]
 have e3:M*q=(D*Q)*q+T*q:=by rw[<- hd,Int.add_mul]
 rw[e2,e1,e3]
 have t0:0<=T*q:=Int.mul_nonneg hm0 (by omega)
 have t1:T*q<D*q:=Int.mul_lt_mul_of_pos_right hm1 hq
 refine⟨by omega,by omega,?_⟩
 rw[decide_eq_false_iff_not]
 constructor
 ·intro h
  have:T=0:=by omega
  rw[this];simp
 ·intro h hT
  have:0<T*q:=Int.mul_pos (by omega) hq
  omega
theorem tZ {way:Int} {x:aG} (ok:dD x=true) (h0:0<x.n) :
  ∃ (r0:Nat) (left:Int),dW (val x.d x.n*pw x.e) r0 left∧pI way x.ng false (val x.d x.n/2^vK (val x.d x.n)).toNat (x.e+vK (val x.d x.n)) (decide (val x.d x.n % 2^vK (val x.d x.n)≠0))=(aK (x.ng&&(decide (0<bR way x.ng r0 left)||false)) (bR way x.ng r0 left),decide (left≠0)||decide (9218868437227405312<=(r0:Int))):=by
 obtain⟨na,hn,he0,he1⟩:=cA ok
 have hv:=fz na h0
 have hsm:=yy (Int.le_of_lt hv)
 have hb:=ie hv
 have hp:=aJ (vK (val x.d x.n))
 have hge:2^(aH (val x.d x.n)-1-vK (val x.d x.n))<=val x.d x.n/2^vK (val x.d x.n):=by
  rw[Int.le_ediv_iff_mul_le hp,<- Int.pow_add]
  by_cases hk:vK (val x.d x.n)<=aH (val x.d x.n)-1
  ·rw[show aH (val x.d x.n)-1-vK (val x.d x.n)+vK (val x.d x.n)=aH (val x.d x.n)-1 by omega]
   exact hb.2
  ·exfalso;unfold vK at hk;omega
 have hpos:=aJ (aH (val x.d x.n)-1-vK (val x.d x.n))
 have e64:(2:Nat)^64=18446744073709551616:=by decide
 have e60:(2:Nat)^60=1152921504606846976:=by decide
 refine yF (yG (Int.le_of_lt hv) (by omega) _) (by omega) (by omega) (by omega) (fun hc=>?_)
 have hk0:0<vK (val x.d x.n):=by
  rcases Nat.eq_zero_or_pos (vK (val x.d x.n)) with h|h
  ·rw[h,Int.pow_zero,Int.emod_one] at hc;simp at hc
  ·exact h
 have h61:aH (val x.d x.n)-1-vK (val x.d x.n)=61:=by unfold vK at hk0 ⊢;omega
 rw[h61] at hge
 have e61:(2:Int)^61=2305843009213693952:=by decide
 rw[e61] at hge
 omega
theorem gX {ng:Bool} {r:Int} (h0:0<=r) (h1:r<=9218868437227405312) (h:ng=true->0<r):ax (aK ng r)∧rg (aK ng r)=r∧(aK ng r<0↔ng=true):=by
 unfold aK rg ax
 cases ng
 ·simp only[Bool.false_eq_true,if_false]
  exact⟨by omega,by rw[if_neg (by omega)],by omega,fun h=>by cases h⟩
 ·simp only[if_true]
  exact⟨by have:=h rfl;omega,by have:=h rfl;rw[if_pos (by omega)];omega,fun _=>trivial,fun _=>by omega⟩
theorem jA {ng:Bool} {r:Int} (h0:0<=r) (h1:r<=9218868437227405312) (h:ng=true->0<r):aF (aK ng r)=decide (r<9218868437227405312):=by
 obtain⟨a,b,c⟩:=gX h0 h1 h
 have hp:=fm a
 rw[b] at hp
 have hf:0<=cn (aK ng r)∧cn (aK ng r)<4503599627370496:=by unfold cn;omega
 unfold aF
 by_cases hr:r<9218868437227405312
 ·rw[decide_eq_true hr]
  simp
  omega
 ·rw[decide_eq_false hr]
  simp
  omega
theorem fi {ng:Bool} {r:Nat} (h1:(r:Int)<9218868437227405312) (h:ng=true->0<r):aq (aK ng r)=sg ng (vS r):=by
 have hh:ng=true->(0:Int)<r:=fun q=>by have:=h q;omega
 obtain⟨a,b,c⟩:=gX (ng:=ng) (r:=(r:Int)) (by omega) (by omega) hh
 have hp:aF (aK ng r)=true:=by rw[jA (by omega) (by omega) hh];exact decide_eq_true h1
 have hV:=BI a hp
 rw[b,Int.toNat_natCast] at hV
 obtain⟨i0,i1,i2,i3⟩:=gd hp
 have hn:dV (aK ng r)=ng:=by
  unfold dV
  rw[hp,Bool.true_and]
  cases ng
  ·exact decide_eq_false (fun q=>by have:=c.1 q;cases this)
  ·exact decide_eq_true (c.2 rfl)
 unfold aq vS
 rw[hV,hn]
 have e:pw (bK (aK ng r))=2^(bK (aK ng r)+1074).toNat*pw (-1074):=by
  rw[js (e:=bK (aK ng r)) (low:=-1074) (by decide) i2]
  congr 2
 have e2:(((bI (aK ng r)).toNat*2^(bK (aK ng r)+1074).toNat:Nat):Int)*pw (-1074)=bI (aK ng r)*pw (bK (aK ng r)):=by
  push_cast
  rw[Int.toNat_of_nonneg i0,e,Int.mul_assoc]
 rw[e2]
 cases ng
 ·rfl
 ·show -bI _*_=-(bI _*_)
  rw[Int.neg_mul]
theorem dW.unique {A:Int} {r s:Nat} {l k:Int} (h:dW A r l) (g:dW A s k):r=s∧l=k:=by
 have e:r=s:=by
  rcases Nat.lt_trichotomy r s with q|q|q
  ·exfalso
   have h1:=h.hi
   have h2:=g.lo
   rcases Nat.lt_or_eq_of_le (show r+1<=s from q) with q2|q2
   ·have:=kU q2;omega
   ·rw[q2] at h1;omega
  ·exact q
  ·exfalso
   have h1:=g.hi
   have h2:=h.lo
   rcases Nat.lt_or_eq_of_le (show s+1<=r from q) with q2|q2
   ·have:=kU q2;omega
   ·rw[q2] at h1;omega
 subst e
 refine⟨rfl,?_⟩
 have a0:=h.lo
 by_cases c0:A=vS r
 ·rw[h.l0.2 c0,g.l0.2 c0]
 ·by_cases c1:2*A<vS r+vS (r+1)
  ·rw[h.l1.2 ⟨by omega,c1⟩,g.l1.2 ⟨by omega,c1⟩]
  ·by_cases c2:2*A=vS r+vS (r+1)
   ·rw[h.l2.2 c2,g.l2.2 c2]
   ·rw[h.l3.2 (by omega),g.l3.2 (by omega)]
def lv (way:Int) (x:aG):Int × Bool:=pI way x.ng false (val x.d x.n/2^vK (val x.d x.n)).toNat (x.e+vK (val x.d x.n)) (decide (val x.d x.n % 2^vK (val x.d x.n)≠0))
theorem BU {x:aG} (ok:dD x=true) (h0:0<x.n):∃ (r0:Nat) (left:Int),dW (val x.d x.n*pw x.e) r0 left∧∀ way,lv way x=(aK (x.ng&&decide (0<bR way x.ng r0 left)) (bR way x.ng r0 left),decide (left≠0)||decide (9218868437227405312<=(r0:Int))):=by
 obtain⟨r0,left,hR,_⟩:=tZ (way:=0) ok h0
 refine⟨r0,left,hR,fun way=>?_⟩
 obtain⟨r1,l1,hR1,e1⟩:=tZ (way:=way) ok h0
 obtain⟨rfl,rfl⟩:=hR.unique hR1
 unfold lv
 rw[e1,Bool.or_false]
theorem AS {x:aG} (ok:dD x=true) (h0:x.n=0) (way:Int):lv way x=(0,false):=by
  have hz:x.ng=false∧x.e=0:=by
    have:=of_decide_eq_true ok
    rcases this with⟨_,a,b⟩|⟨a,_⟩
    · exact⟨a,b⟩
    · omega
  have hv:val x.d x.n=0:=by rw[h0];rfl
  unfold lv
  rw[hv,hz.1,hz.2]
  have e:pI way false false ((0:Int)/2^vK 0).toNat (0+(vK 0:Int)) (decide ((0:Int) % 2^vK 0≠0))=pI way false false 0 0 false:=by
    rw[show vK 0=0 by decide]
    rfl
  rw[e]
  have HR:pI way false false 0 0 false=(let E:=rE 53 (-1074) 0 0
    let u:=rU 0 (E-0)
    let left:=rL 0 false (E-0)
    let U:=u+(if cK way false (decide (u % 2=1)) left then 1 else 0)
    let neg:=false&&(decide (0<U)||false)
    if jk 52 2047 (-1074) U E then (jp neg U E,decide (left≠0)) else (aK neg (fK way neg),true)):=rfl
  rw[HR]
  have hE:rE 53 (-1074) 0 0=-53:=by decide
  simp only[hE]
  have hu:rU 0 (-53-0)=0:=by decide
  have hl:rL 0 false (-53-0)=0:=by decide
  simp only[hu,hl]
  have hr:cK way false (decide (0 % 2=1)) 0=false:=by
    cases h:cK way false (decide (0 % 2=1)) 0
    · rfl
    · exact absurd h (fun q=>il q)
  rw[hr]
  rfl
theorem gh:vS 0=0:=by unfold vS;rw[lF];simp
theorem kV {A:Int} {ng:Bool} {r:Nat} (h:(r:Int)<9218868437227405312):fP A (aK (ng&&decide ((0:Int)<r)) r)=aZ A (sg ng (vS r)):=by
 by_cases h0:r=0
 ·subst h0
  have e:(ng&&decide ((0:Int)<((0:Nat):Int)))=false:=by simp
  rw[e,gh]
  have hp:aF (aK false ((0:Nat):Int))=true:=by decide
  have hv:aq (aK false ((0:Nat):Int))=0:=by rw[fi (by decide) (fun q=>by cases q),gh];rfl
  unfold fP
  rw[if_pos hp,hv]
  cases ng<;>rfl
 ·have e:(ng&&decide ((0:Int)<(r:Int)))=ng:=by rw[decide_eq_true (by omega),Bool.and_true]
  rw[e]
  have hp:aF (aK ng r)=true:=by rw[jA (by omega) (by omega) (fun _=>by omega)];exact decide_eq_true h
  unfold fP
  rw[if_pos hp,fi h (fun _=>by omega)]
theorem ry {A:Int} {ng:Bool}:fP A (aK (ng&&decide ((0:Int)<9218868437227405312)) 9218868437227405312)=if ng then 1 else -1:=by
 cases ng<;>rfl
theorem yH (ng odd:Bool) (left:Int):cK 1 ng odd left=(decide (left≠0)&&ng):=rfl
theorem BV (ng odd:Bool) (left:Int):cK 2 ng odd left=(decide (left≠0)&&!ng):=rfl
theorem yI (ng odd:Bool) (left:Int):cK 3 ng odd left=false:=rfl
theorem ua {ng:Bool} {r0:Nat} {left:Int} (h:(r0:Int)<9218868437227405312) :
  bR 1 ng r0 left=(if left≠0∧ng=true then ((r0+1:Nat):Int) else (r0:Int))∧bR 2 ng r0 left=(if left≠0∧ng=false then ((r0+1:Nat):Int) else (r0:Int))∧bR 3 ng r0 left=(r0:Int)∧(bR 0 ng r0 left=(r0:Int)∨(left≠0∧bR 0 ng r0 left=((r0+1:Nat):Int))):=by
 unfold bR
 simp only[if_pos h]
 refine⟨?_,?_,?_,?_⟩
 ·rw[yH]
  by_cases h0:left=0
  ·subst h0;simp
  ·cases ng<;>simp[h0]
 ·rw[BV]
  by_cases h0:left=0
  ·subst h0;simp
  ·cases ng<;>simp[h0]
 ·rw[yI]
  simp
 ·cases hu:cK 0 ng (decide (r0 % 2=1)) left
  ·left;simp
  ·right
   refine⟨fun hz=>?_,by simp⟩
   rw[hz] at hu
   exact il hu
theorem ub {ng:Bool} {r0:Nat} {left:Int} (h:¬ (r0:Int)<9218868437227405312) :
  bR 1 ng r0 left=(if ng=true then 9218868437227405312 else 9218868437227405311)∧bR 2 ng r0 left=(if ng=true then 9218868437227405311 else 9218868437227405312)∧bR 3 ng r0 left=9218868437227405311∧bR 0 ng r0 left=9218868437227405312:=by
 unfold bR
 simp only[if_neg h]
 cases ng<;>decide
end Go.Proofs.YtcklaogdjpbagaaGreatDoor
