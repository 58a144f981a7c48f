/- Parts of the proof. -/
import Derived.Test.YtcklaogdjpbagaaGreatDoorSa3
import Derived.Test.YtcklaogdjpbagaaGreatDoorSa2
import Derived.Deep.AppendLies
import Derived.Deep.RegionHeld3
import Derived.Deep.RegionLaw
import Derived.Test.YtcklaogdjpbagaaGreatDoorRows
import Derived.Test.YtcklaogdjpbagaaGreatDoorSa1
import Derived.ProofKit
import Derived.OpenShut
import Derived.ChangeOld
import Derived.LaidMore
import Derived.Deep.Strs
import Derived.Lib.LaidTab
import Derived.MakeChecks
import Derived.Stop.LaidErr
import Derived.Laws.FloatArith
set_option maxRecDepth 100000
set_option maxHeartbeats 8000000
set_option linter.unusedVariables false
set_option linter.unusedSimpArgs false
namespace Go.Proofs.YtcklaogdjpbagaaGreatDoor
open Go Go.Proofs.Tryz Go.RowKit Go.Proofs.YtcklaogdjpbagaaGreatDoor.M
theorem Aa (ao:Option Addr) (n ca q p:Nat) (a:Nat->Int) (w:World) (ha:aS w ao n ca a) (da:bF a n) (hn:n<=100000) (hq:q<=100000) (hp:p<30) (k:Int) (hk:k=30*q+p) :
  Calls prog 94 #[.slice ao n ca,.int .i64 k] w fun e w'=>∃ v,e=.returned v∧cN w w' (P q*(2^p*val a n)) v:=by
 have hla:=ha.le
 have hma:=ha.max
 have e1:k/30=q:=by omega
 have e2:k % 30=p:=by omega
 have hk0:0<=k:=by omega
 clear hk
 have hu:=aJ p
 have hu2:(2:Int)^p<=2^29:=dp (by omega)
 by_cases hn0:n=0
 ·subst hn0
  have H0:Hid (P q*(2^p*val a 0)=0):=by show _=_;simp[val]
  go_enter func94,ntmps94
  go_wp2
  go_ret
  exact⟨_,rfl,by rw[H0.out];exact cN.nil (al _)⟩
 ·have en:((n:Int) == 0)=false:=by simp;omega
  go_enter func94,ntmps94
  go_wp2_with (at_make;refine im rfl _ _ rfl _ _ q rfl rfl (by omega) (by omega) (by omega) ?_;intro w1 hB1 hb1)
  rw[e2]
  go_loopw [5,7,8] (fun l c i wr=>∃ (k:Nat) (c':Int) (r:Nat->Int),k<=n∧i=.int .i64 k∧c=.int .i64 c'∧0<=c'∧c'<2^p∧cy w.heap.size wr l (q+k) r∧bF r (q+k)∧Hid (∀ i,i<q->r i=0)∧Hid (val (fun i=>r (q+i)) k+c'*P k=2^p*val a k)∧Below w.heap.size w wr) (fun _ _ i _=>n-(intOf i).toNat)
  case atStart=>exact⟨0,0,fun _=>0,Nat.zero_le _,rfl,rfl,by omega,hu,hB1.out (Nat.le_refl _) (Nat.le_refl _) (by omega),mu _,fun _ _=>rfl,by show _=_;show(0:Int)+0*1=2^p*0;omega,hb1⟩
  case round=>
   obtain⟨k,c,r,hk,rfl,rfl,hc0,hc1,hO,hD,HZ,HV,hbw⟩:=hrel
   by_cases hlt:k<n
   ·obtain⟨ba,fa,rfl,hba,hca⟩:=ha.spot (by omega)
    have c1:=(hbw.cell (p:=⟨ba,fa+k,none⟩) hba).trans (hca k hlt)
    have dk:=da k hlt
    obtain⟨s0,s1,s2⟩:=oi dk (show p<=30 by omega)
    have hc2:(a k*2^p+c)/1073741824<2^p:=by omega
    go_wp2_with (at_builtin;refine cB rfl _ _ rfl w.heap.size _ (q+k) r rfl (hO.stays (ah _ _)) _ 1 1 (fun _=>(a k*2^p+c) % 1073741824) rfl (gI _ _ rfl) (by omega) (by have:=hbw.size;simp;omega) ?_;intro v' w1 hO1 hg1)
    have hb1:Below w.heap.size w w1:=(hbw.alloc hbw.size _).grown hg1 (by have:=hbw.size;simp;omega) (dS hO)
    have hs:=dP (x:=a k*2^p) HV.out
    rw[Int.add_comm c] at hs
    go_roundw
    case rel=>exact⟨k+1,(a k*2^p+c)/1073741824,cW r (q+k) ((a k*2^p+c) % 1073741824),by omega,by go_num,rfl,by omega,hc2,hO1.congr (ef r (q+k) _),eh hD (fu _),fun i hi=>by rw[bD r _ (by omega)];exact HZ.out i hi,by show _=_;rw[oK,hs,bc];grind,hb1⟩
    case measure=>simp[intOf];omega
   ·obtain rfl:k=n:=by omega
    go_wp2_with (at_builtin;refine cB rfl _ _ rfl w.heap.size _ (q+k) r rfl (hO.stays (ah _ _)) _ 1 1 (fun _=>c) rfl (gI _ _ rfl) (by omega) (by have:=hbw.size;simp;omega) ?_;intro v' w1 hO1 hg1)
    have hb1:Below w.heap.size w w1:=(hbw.alloc hbw.size _).grown hg1 (by have:=hbw.size;simp;omega) (dS hO)
    have D2:bF (cW r (q+k) c) (q+k+1):=eh hD ⟨hc0,by omega⟩
    refine(jy (hO1.congr (ef r (q+k) c)) D2 hb1).mono ?_
    rintro e w3 ⟨v',rfl,hA,rfl⟩
    go_wp2
    go_ret
    refine⟨_,rfl,?_⟩
    rw[Nat.add_assoc,mW _ _ _ (fun i hi=>by rw[bD r _ (by omega)];exact HZ.out i hi),oK,bc,ck,gG _ _ (Nat.le_refl _),HV.out] at hA
    exact hA
theorem mE (ao:Option Addr) (n ca k:Nat) (a:Nat->Int) (w:World) (ha:aS w ao n ca a) (da:bF a n) (hn:n<=100000) (hk:k<=2000000) :
  Calls prog 94 #[.slice ao n ca,.int .i64 k] w fun e w'=>∃ v,e=.returned v∧cN w w' (val a n*2^k) v:=by
 refine(Aa ao n ca (k/30) (k % 30) a w ha da hn (by omega) (by omega) k (by omega)).mono ?_
 rintro e w' ⟨v,he,h⟩
 refine⟨v,he,?_⟩
 rw[kW k]
 rwa [show val a n*(P (k/30)*2^(k % 30))=P (k/30)*(2^(k % 30)*val a n) by grind]
theorem Ab (ao:Option Addr) (n ca q p:Nat) (a:Nat->Int) (w:World) (ha:aS w ao n ca a) (da:bF a n) (hn:n<=100000) (hp:p<30) (k:Int) (hk:k=30*q+p) (hkm:k<=4000000) :
    Calls prog 116 #[.slice ao n ca,.int .i64 k] w fun e w'=>∃ v,e=.returned v∧cN w w' (val a n/P q/2^p) v:=by
  have hla:=ha.le
  have hma:=ha.max
  have e1:k/30=q:=by omega
  have e2:k % 30=p:=by omega
  have hk0:0<=k:=by omega
  have hq1:q<=200000:=by omega
  clear hk
  have hu:=aJ p
  have hu2:(2:Int)^p<=2^29:=dp (by omega)
  have huv:(2:Int)^p*2^(30-p)=1073741824:=by rw[<- Int.pow_add,show p+(30-p)=30 by omega];rfl
  have HU:Hid ((2:Int)^p*2^(30-p)=1073741824):=huv
  have hdv:(1073741824:Int)/2^p=2^(30-p):=by rw[<- huv];exact Int.mul_ediv_cancel_left _ (by omega)
  have hz:((2:Int)^p == 0)=false:=by simp;omega
  clear huv
  by_cases hqn:n<=q
  · have H0:Hid (val a n/P q/2^p=0):=by
      show _=_
      rw[Int.ediv_eq_zero_of_lt (bz da) (by have:=cV da;have:=iz hqn;omega)];exact Int.zero_ediv _
    go_enter func116,ntmps116
    go_wp2
    go_ret
    exact⟨_,rfl,by rw[H0.out];exact cN.nil (al _)⟩
  · obtain⟨ba,fa,rfl,hba,hca⟩:=ha.spot (by omega)
    obtain⟨N,hN⟩:∃ N,n=q+N:=⟨n-q,by omega⟩
    have HN:Hid (n=q+N):=hN
    have hn1:q+N<=n:=by omega
    have hn2:n<=q+N:=by omega
    have hN0:0<N:=by omega
    clear hN
    go_enter func116,ntmps116
    go_wp2
    rw[e1,e2]
    go_loopw [5,7] (fun l i wr=>∃ (k:Nat) (r:Nat->Int),k<=N∧i=.int .i64 ((q:Int)+k)∧cy w.heap.size wr l k r∧Hid (∀ i,i<k->r i=low (fun j=>bI a n (q+j)) (2^p) (2^(30-p)) i)∧Below w.heap.size w wr) (fun _ i _=>n-(intOf i).toNat)
    case atStart=>exact⟨0,fun _=>0,Nat.zero_le _,by simp,cy.nil _ _ _,fun i hi=>by omega,al _⟩
    case round=>
      obtain⟨k,r,hk,rfl,hO,HV,hbw⟩:=hrel
      by_cases hlt:k<N
      · have c1:=(hbw.cell (p:=⟨ba,fa+(q+k),none⟩) hba).trans (hca (q+k) (by omega))
        have dx:=da (q+k) (by omega)
        by_cases hl2:q+k+1<n
        · have dy:=da (q+k+1) (by omega)
          obtain⟨s0,s1,s2,s3,s4⟩:=mA dx dy hp
          have s5:0<=a (q+k+1) % 2^p*2^(30-p):=Int.mul_nonneg s3 (Int.le_of_lt (aJ _))
          have s6:(2:Int)^(30-p)<=2^30:=dp (by omega)
          have c2:=(hbw.cell (p:=⟨ba,fa+(q+k+1),none⟩) hba).trans (hca (q+k+1) (by omega))
          clear s2
          go_wp2
          go_quiet (fail)
          go_wp2_with (at_builtin;refine cB rfl _ _ rfl w.heap.size _ k r rfl ((hO.stays (aO (al _) _)).stays (ah _ _)) _ 1 1 (fun _=>(a (q+k)/2^p+a (q+k+1) % 2^p*2^(30-p))) rfl (gI _ _ rfl) (by omega) (by have:=hbw.size;simp[World.drewN];omega) ?_;intro v' w1 hO1 hg1)
          have hb1:Below w.heap.size w w1:=((aO hbw _).alloc hbw.size _).grown hg1 (by have:=hbw.size;simp[World.drewN];omega) (dS hO)
          go_roundw
          case rel=>exact ⟨k+1,cW r k (a (q+k)/2^p+a (q+k+1) % 2^p*2^(30-p)),by omega,by go_num,hO1.congr (ef r k _),fun i hi=>by
              by_cases e:i=k
              · rw[e,ck]
                show _=bI a n (q+k)/2^p+bI a n (q+(k+1)) % 2^p*2^(30-p)
                rw[dK a (by omega),dK a (by omega),Nat.add_assoc]
              · rw [bD _ _ e]; exact HV.out i (by omega),hb1⟩
          case measure=>simp[intOf];omega
        · obtain⟨s0,s1,_,_,_⟩:=mA dx dx hp
          have s6:(2:Int)^(30-p)<=2^30:=dp (by omega)
          go_wp2_with (at_builtin;refine cB rfl _ _ rfl w.heap.size _ k r rfl (hO.stays (ah _ _)) _ 1 1 (fun _=>(a (q+k)/2^p)) rfl (gI _ _ rfl) (by omega) (by have:=hbw.size;simp;omega) ?_;intro v' w1 hO1 hg1)
          have hb1:Below w.heap.size w w1:=(hbw.alloc hbw.size _).grown hg1 (by have:=hbw.size;simp;omega) (dS hO)
          go_roundw
          case rel=>exact ⟨k+1,cW r k (a (q+k)/2^p),by omega,by go_num,hO1.congr (ef r k _),fun i hi=>by
              by_cases e:i=k
              · rw[e,ck,qz (s:=fun j=>bI a n (q+j)) (fF a (by omega)),dK a (by omega)]
              · rw [bD r _ e]; exact HV.out i (by omega),hb1⟩
          case measure=>simp[intOf];omega
      · obtain rfl:k=N:=by omega
        have DS:bF (fun j=>bI a n (q+j)) (k+1):=fun i hi=>ti da (q+k+1) (q+i) (by omega)
        have D2:bF r k:=(tj hu HU.out DS).congr fun i hi=>(HV.out i hi).symm
        have HD2:Hid (bF r k):=D2
        clear D2 DS
        go_wp2_with fail
        refine(jy hO HD2.out hbw).mono ?_
        rintro e w3 ⟨v',rfl,hA,rfl⟩
        go_wp2
        go_ret
        refine⟨_,rfl,?_⟩
        rw[dY HV.out,vh (s:=fun j=>bI a n (q+j)) hu HU.out (fF a (by omega))] at hA
        have e3:=mq a (show q<=n by omega) da
        rw[<- e3,show n-q=k by omega]
        rw[show val (fun j=>bI a n (q+j)) k=val (fun i=>a (q+i)) k from dY fun i hi=>dK a (by omega)] at hA
        exact hA
theorem qJ (ao:Option Addr) (n ca k:Nat) (a:Nat->Int) (w:World) (ha:aS w ao n ca a) (da:bF a n) (hn:n<=100000) (hk:k<=4000000) :
  Calls prog 116 #[.slice ao n ca,.int .i64 k] w fun e w'=>∃ v,e=.returned v∧cN w w' (val a n/2^k) v:=by
 refine(Ab ao n ca (k/30) (k % 30) a w ha da hn (by omega) k (by omega) (by omega)).mono ?_
 rintro e w' ⟨v,he,h⟩
 refine⟨v,he,?_⟩
 rw[kW k,<- Int.ediv_ediv_of_nonneg (Int.le_of_lt (cA _))]
 exact h
theorem cy.of_block {B:Nat} {w w':World} {x:Value} {n:Nat} {d:Nat->Int} (h:cy B w x n d) (hb:∀ g,x.ownBlock=some g->w'.heap[g]?=w.heap[g]?):cy B w' x n d:=by
 refine⟨h.1,?_⟩
 rcases h.2 with hn|⟨g,cap,cur,rfl,hbb,hg,rest⟩
 ·exact .inl hn
 ·exact .inr ⟨g,cap,cur,rfl,hbb,(hb g rfl).trans hg,rest⟩
theorem cy.typed {B:Nat} {w:World} {x:Value} {n:Nat} {d:Nat->Int} (h:cy B w x n d) {g:Nat} (hg:x.ownBlock=some g):∃ cur z,w.heap[g]?=some (.cells cur 3 z):=by
 rcases h.2 with⟨rfl,_⟩|⟨g',cap,cur,rfl,hbb,hg',rest⟩
 ·simp[Value.ownBlock] at hg
 ·simp only[Value.ownBlock,Option.some.injEq] at hg;subst hg;exact⟨cur,_,hg'⟩
def An (B:Nat) (w:World) (v:Value) (V:Int):Prop:=∃ t d,cy B w v t d∧cf d t∧val d t=V
theorem An.keeps {B:Nat} {w w':World} {v:Value} {V:Int} (h:An B w v V) (k:Below w.heap.size w w'):An B w' v V:=by
 obtain⟨t,d,h1,h2⟩:=h
 exact⟨t,d,h1.stays k,h2⟩
theorem An.lower {B B':Nat} {w:World} {v:Value} {V:Int} (h:An B w v V) (hB:B'<=B):An B' w v V:=by
 obtain⟨t,d,h1,h2⟩:=h
 exact⟨t,d,h1.lower hB,h2⟩
theorem cN.an {w w':World} {V:Int} {v:Value} (h:cN w w' V v):An w.heap.size w' v V:=by
 obtain⟨t,d,h1,h2,h3,h4⟩:=h
 exact⟨t,d,h1,h2,h3⟩
theorem An.shape {B:Nat} {w:World} {v:Value} {V:Int} (h:An B w v V):∃ ao n cap,v=.slice ao n cap:=by
 obtain⟨t,d,h1,h2⟩:=h
 obtain⟨ao,cap,e,_⟩:=h1.row
 exact⟨ao,t,cap,e⟩
theorem An.num {B:Nat} {w:World} {v:Value} {V:Int} (h:An B w v V):cr w v V:=by
 obtain⟨t,d,h1,h2,h3⟩:=h
 obtain⟨ao,cap,rfl,hR⟩:=h1.row
 exact⟨ao,t,cap,d,rfl,hR,h2,h3⟩
theorem sM {A l m:Int} (h:mC A l) (k:mC A m):l=m:=by
 have hz:∀ i:Nat,¬ dz 0 i:=fun i ⟨q,e⟩=>by
  have h2:=aJ i
  have h3:(2*q+1)≠0:=by omega
  rcases Int.mul_eq_zero.1 e.symm with h|h
  ·exact h3 h
  ·omega
 rcases h with⟨h0,h1⟩|⟨i,h1,hi⟩<;>rcases k with⟨k0,k1⟩|⟨j,k1,hj⟩
 ·omega
 ·subst h0;exact absurd hj (hz j)
 ·subst k0;exact absurd hi (hz i)
 ·rw[h1,k1,ku hi hj]
theorem mF (ao:Option Addr) (n cap:Nat) (d:Nat->Int) (w:World) (h:aS w ao n cap d) (hd:bF d n) (hn:n<=100000) :
  Calls prog 115 #[.slice ao n cap] w fun e w'=>∃ l,e=.returned (.int .i64 l)∧mC (val d n) l∧w'=w:=by
 have hl:=h.le
 have hm:=h.max
 go_enter func115,ntmps115
 go_wp2
 go_loop [3] (fun i=>∃ k:Nat,k<=n∧i=.int .i64 k∧Hid (∀ j,j<k->d j=0)) (fun i=>n-(intOf i).toNat)
 case atStart=>exact⟨0,Nat.zero_le _,rfl,fun j hj=>by omega⟩
 case round=>
  obtain⟨k,hk,rfl,HZ⟩:=hrel
  by_cases hlt:k<n
  ·obtain⟨b,off,rfl,hb,hc⟩:=h.spot (by omega)
   have c:=hc k hlt
   have dk:=hd k hlt
   by_cases h0:d k=0
   ·have e0:(d k != 0)=false:=by simp[h0]
    go_wp2
    go_round
    case rel=>exact⟨k+1,by omega,by go_num,fun j hj=>by by_cases e:j=k;(· rw[e];exact h0);(· exact HZ.out j (by omega))⟩
    case measure=>simp[intOf];omega
   ·have e0:(d k != 0)=true:=by simp[h0]
    have hpos:0<d k:=by omega
    go_wp2
    go_loop [4,5] (fun s v=>∃ (x:Int) (t:Nat),s=.int .i64 ((30*k+t:Nat):Int)∧v=.int .i64 x∧0<x∧x<1073741824∧t<=30∧Hid (x*2^t=d k)) (fun _ v=>(intOf v).toNat)
    case atStart=>exact⟨d k,0,by go_num,rfl,hpos,dk.2,by omega,by show _=_;simp⟩
    case round=>
     obtain⟨x,t,rfl,rfl,hx0,hx1,ht,HT⟩:=hrel
     by_cases he:x % 2=0
     ·have ee:(x % 2 == 0)=true:=by simp[he]
      have HT2:Hid (x/2*2^(t+1)=d k):=by
       show _=_
       rw[Int.pow_succ,Int.mul_comm (2^t) 2,<- Int.mul_assoc,show x/2*2=x by omega];exact HT.out
      have ht2:t+1<=30:=by
       have h1:1*2^(t+1)<=x/2*2^(t+1):=Int.mul_le_mul_of_nonneg_right (by omega) (Int.le_of_lt (aJ _))
       rw[HT2.out] at h1
       have h2:(2:Int)^(t+1)<2^30:=by have:(2:Int)^30=1073741824:=rfl;omega
       have:=eE h2
       omega
      go_wp2
      go_round
      case rel=>exact⟨x/2,t+1,by go_num,rfl,by omega,by omega,ht2,HT2.out⟩
      case measure=>simp[intOf];omega
     ·have ee:(x % 2 == 0)=false:=by simp[he]
      have HL:Hid (dz (d k) t):=⟨x/2,by rw[show 2*(x/2)+1=x by omega];exact HT.out.symm⟩
      go_wp2
      go_ret
      exact⟨_,rfl,.inr ⟨30*k+t,rfl,oN hlt HZ.out HL.out (vD hpos dk.2 HL.out)⟩,rfl⟩
  ·obtain rfl:k=n:=by omega
   go_wp2
   go_ret
   exact⟨_,rfl,.inl ⟨by rw[eY (Nat.zero_le _) (fun i _ hi=>HZ.out i hi)];rfl,rfl⟩,rfl⟩
theorem lq (ng:Bool) (ao:Option Addr) (n cap:Nat) (d:Nat->Int) (e:Int) (w:World) (h:aS w ao n cap d) (hd:bF d n) (hn:n<=40000) (he0:-4194304<=e) (he1:e<=4194304) :
  Calls prog 92 #[.bool ng,.slice ao n cap,.int .i64 e] w fun r w'=>∃ v,r=.returned v∧aW w w' (sg ng (val d n)*pw e) v:=by
 by_cases h0:val d n=0
 ·rw[h0,ed,Int.zero_mul]
  go_enter func92,ntmps92
  go_wp2_with fail
  refine(mF _ _ _ _ _ (h.keeps (ah _ _)) hd (by omega)).mono ?_
  rintro r w1 ⟨l,rfl,hl,rfl⟩
  have hl1:l=-1:=by
   rcases hl with⟨_,h1⟩|⟨k,_,m,hm⟩
   ·exact h1
   ·exfalso
    rw[h0] at hm
    rcases Int.mul_eq_zero.1 hm.symm with x|x
    ·omega
    ·have:=aJ k;omega
  subst hl1
  go_wp2
  refine bodyPost_ret (v:=eC) (by simp[results,results92,go_sem,eC]) rfl ⟨_,rfl,?_⟩
  exact aW.zero (ah _ _)
 ·have hp:0<val d n:=by have:=bz hd;omega
  go_enter func92,ntmps92
  go_wp2_with fail
  refine(mF _ _ _ _ _ (h.keeps (ah _ _)) hd (by omega)).mono ?_
  rintro r w1 ⟨l,rfl,hl,rfl⟩
  have hl2:∃ k:Nat,l=k∧dz (val d n) k:=by
   rcases hl with⟨h1,_⟩|h1
   ·omega
   ·exact h1
  obtain⟨k,rfl,hk⟩:=hl2
  have hkn:k<30*n:=by
   have h1:=cV hd
   rw[dG] at h1
   obtain⟨a,b,c⟩:=eZ hk hp
   have h2:(1:Int)*2^k<=val d n/2^k*2^k:=Int.mul_le_mul_of_nonneg_right (by omega) (Int.le_of_lt (aJ k))
   exact eE (by omega)
  have hy:=Dy.of ng hk hp he0
  have HY:Hid (Dy (sg ng (val d n)*pw e) ng (val d n/2^k) (e+k)):=hy
  clear hy hl hk
  go_wp2_with fail
  refine(qJ _ _ _ k d _ (h.keeps (ah _ _)) hd (by omega) (by omega)).mono ?_
  rintro r w2 ⟨v,rfl,hA⟩
  obtain⟨so,sn,sc,rfl⟩:=hA.num.shape
  have q0:=(hA.below.block w.heap.size (by rw[eF];omega)).trans (aA _ _)
  have x0:=af q0 0 rfl
  have x1:=af q0 1 rfl
  have x2:=af q0 2 rfl
  have z0:=ar q0 0
  have z1:=ar q0 1
  have z2:=ar q0 2
  go_wp2
  refine bodyPost_ret (v:=.agg #[.bool ng,.slice so sn sc,.int .i64 (e+k)]) (by simp[results,results92,go_sem,x0,x1,x2]) rfl ⟨_,rfl,?_⟩
  exact⟨_,_,_,_,rfl,HY.out,gU (g:=w.heap.size) hA (ah _ _) (Nat.le_refl _) (by rw[eF];omega) _ _ _⟩
def Bd (B:Nat) (V:Int):Prop:=∃ m:Int,V=m*pw (-(B:Int))∧-(2^(2*B))<m∧m<2^(2*B)
theorem Bd.ok {B:Nat} {V:Int} (h:Bd B V) (hB:B<=29000):cY V:=by
 obtain⟨m,rfl,h1,h2⟩:=h
 by_cases h0:m=0
 ·rw[h0,Int.zero_mul];exact ke
 ·have bl:∀ (ng:Bool) (M:Int),0<M->M<2^(2*B)->cY (sg ng M*pw (-(B:Int))):=fun ng M hM hlt=>by
   obtain⟨l,hl⟩:=gV hM
   have hy:=Dy.of ng hl hM (show -4194304 <= -(B:Int) by omega)
   obtain⟨c1,c2,c3⟩:=eZ hl hM
   have hl2:l<2*B:=by
    have h3:(1:Int)*2^l<=M/2^l*2^l:=Int.mul_le_mul_of_nonneg_right (by omega) (Int.le_of_lt (aJ l))
    rw[c3] at h3
    exact eE (by omega)
   refine hy.ok.2 ⟨?_,by omega,by omega⟩
   have h4:M/2^l<=M:=Int.ediv_le_self _ (by omega)
   have h5:(2:Int)^(2*B)<=2^(30*2000):=dp (by omega)
   rw[dG]
   omega
  by_cases hp:0<m
  ·exact bl false m hp h2
  ·have:=bl true (-m) (by omega) (by omega)
   rwa [show sg true (-m)=m by simp[sg]] at this
theorem Bd.up {B C:Nat} {V:Int} (h:Bd B V) (hBC:B<=C) (hC:C<=4194304):Bd C V:=by
 obtain⟨m,rfl,h1,h2⟩:=h
 have hp:=aJ (C-B)
 have e:pw (-(B:Int))=pw (-(C:Int))*2^(C-B):=by
  rw[<- ew (by omega)];congr 1;omega
 have hle:(2:Int)^(2*B)*2^(C-B)<=2^(2*C):=by rw[<- Int.pow_add];exact dp (by omega)
 refine⟨m*2^(C-B),by rw[e];grind,?_,?_⟩
 ·have:-(2^(2*B))*2^(C-B)<m*2^(C-B):=Int.mul_lt_mul_of_pos_right h1 hp
  rw[Int.neg_mul] at this
  omega
 ·have:=Int.mul_lt_mul_of_pos_right h2 hp
  omega
theorem Bd.add {B:Nat} {V W:Int} (h:Bd B V) (k:Bd B W) (hB:B<4194304):Bd (B+1) (V+W):=by
 obtain⟨m,rfl,h1,h2⟩:=h
 obtain⟨n,rfl,k1,k2⟩:=k
 have e:pw (-(B:Int))=pw (-((B+1:Nat):Int))*2:=by
  have:=ew (e:=-((B+1:Nat):Int)) (by omega) 1
  rw[Int.pow_succ,Int.pow_zero,Int.one_mul] at this
  rw[<- this];congr 1;omega
 have e2:(2:Int)^(2*(B+1))=2^(2*B)*4:=by rw[show 2*(B+1)=2*B+2 by omega,Int.pow_add];rfl
 refine⟨2*(m+n),by rw[e];grind,?_,?_⟩<;>rw[e2]<;>omega
theorem Bd.neg {B:Nat} {V:Int} (h:Bd B V):Bd B (-V):=by
 obtain⟨m,rfl,h1,h2⟩:=h
 exact⟨-m,by rw[Int.neg_mul],by omega,by omega⟩
theorem Bd.mul {B:Nat} {V W U:Int} (h:Bd B V) (k:Bd B W) (hU:U*2^4194304=V*W) (hB:B<=1000000):Bd (2*B) U:=by
 obtain⟨m,rfl,h1,h2⟩:=h
 obtain⟨n,rfl,k1,k2⟩:=k
 have e:U=m*n*pw (-((2*B:Nat):Int)):=by
  refine vj ?_
  rw[hU,Int.mul_assoc (m*n),show -((2*B:Nat):Int)=-(B:Int) + -(B:Int) by omega,<- jO (by omega) (by omega)];grind
 refine⟨m*n,e,?_,?_⟩
 all_goals
  have hab:(m*n).natAbs<((2:Int)^(2*(2*B))).natAbs:=by
   rw[Int.natAbs_mul,show 2*(2*B)=2*B+2*B by omega,Int.pow_add,Int.natAbs_mul]
   exact Nat.mul_lt_mul'' (by have:=aJ (2*B);omega) (by have:=aJ (2*B);omega)
  have:=aJ (2*(2*B))
  omega
theorem Bi {ng:Bool} {M e:Int} (h0:0<=M) (h1:M<P 30) (e0:-3000<e) (e1:e<3000):Bd 4000 (sg ng M*pw e):=by
 have hs:pw e=pw (-((4000:Nat):Int))*2^(e+4000).toNat:=by
  rw[<- ew (by omega)];congr 1;omega
 have hp:=aJ (e+4000).toNat
 have hlt:M*2^(e+4000).toNat<2^(2*4000):=by
  have a:M*2^(e+4000).toNat<P 30*2^(e+4000).toNat:=Int.mul_lt_mul_of_pos_right h1 hp
  rw[dG,<- Int.pow_add] at a
  have b:(2:Int)^(30*30+(e+4000).toNat)<=2^(2*4000):=dp (by omega)
  omega
 have hn:0<=M*2^(e+4000).toNat:=Int.mul_nonneg h0 (Int.le_of_lt hp)
 refine⟨sg ng (M*2^(e+4000).toNat),by rw[hs,il,il];grind,?_,?_⟩
 all_goals
  generalize M*2^(e+4000).toNat=X at *
  generalize (2:Int)^(2*4000)=T at *
  cases ng<;>simp only[sg]<;>simp<;>omega
end Go.Proofs.YtcklaogdjpbagaaGreatDoor
namespace Go.Proofs.YtcklaogdjpbagaaGreatDoor
open Go Go.Proofs.Tryz Go.ChangeShapes Go.WideShapes Go.ChangeAt Go.RowKit Go.Proofs.YtcklaogdjpbagaaGreatDoor.M
theorem qL {x:Int} (h:(Lit.int .i64 x).wf=true):ax x:=by
 simp[Lit.wf,IntKind.min,IntKind.max,IntKind.signed,IntKind.bits] at h
 unfold ax;omega
end Go.Proofs.YtcklaogdjpbagaaGreatDoor
namespace Go.Proofs.YtcklaogdjpbagaaGreatDoor
open Go Go.Proofs.Tryz Go.RowKit Go.ChangeShapes Go.Proofs.YtcklaogdjpbagaaGreatDoor.M
theorem Bj : Tryz.prog.globalNamed "math/bits.deBruijn64tab" = some 3 := by kernel_rfl
theorem xR:(prog.globals[(3:Nat)]?).map (·.type)=some 183:=by kernel_rfl
theorem xS:prog.cellsOf 183=64:=by kernel_rfl
theorem vW:prog.cellsOf 5=1:=by kernel_rfl
def tz:List Int:=Lib.deBruijn64tab.map Int.ofNat
theorem Ac:∀ j,j<64->tz.getD j 0=((Lib.deBruijn64tab.getD j 0:Nat):Int):=by decide +kernel
theorem xT:prog.cellsOf 3=1:=by kernel_rfl
theorem sN:prog.cellsOf 160=3:=by kernel_rfl
theorem DQ : Tryz.prog.globalNamed "plumb/bits.binary64" = some 1 := by kernel_rfl
theorem Ad:(prog.globals[(1:Nat)]?).map (·.type)=some 160:=by kernel_rfl
theorem lT {W:World} {name:String} {g:Nat} {a b c:Int} {rest:List (String × DataW Unit)} (hg:prog.globalNamed name=some g) (hty:(prog.globals[g]?).map (·.type)=some 160)
  (h:laidMet prog ((name,.agg [.lit (.int .i64 a),.lit (.int .i64 b),.lit (.int .i64 c)]) :: rest) W) :
  W.cell? ⟨g,0,none⟩=some (.int .i64 a)∧W.cell? ⟨g,1,none⟩=some (.int .i64 b)∧W.cell? ⟨g,2,none⟩=some (.int .i64 c):=by
 obtain⟨ps,⟨g',t',cs,fuel,p,q,hg',ht',hvar,hd,_,_⟩,_⟩:=h
 obtain rfl:=Option.some.inj (hg.symm.trans hg')
 obtain rfl:=Option.some.inj (hty.symm.trans ht')
 obtain⟨y0,y1,y2,n,hx,hl,h0,h1,h2⟩:=Go.Deep.trod_struct3 underlying160 hd
 obtain⟨k0,e0,f0,_⟩:=DataW.trod_int underlying3 h0
 obtain⟨k1,e1,f1,_⟩:=DataW.trod_int underlying3 h1
 obtain⟨k2,e2,f2,_⟩:=DataW.trod_int underlying3 h2
 rw[f0,f1,f2] at hx
 simp only[Prod.mk.injEq,DataW.agg.injEq,List.cons.injEq,DataW.lit.injEq,Lit.int.injEq,true_and,and_true] at hx
 obtain⟨⟨rfl,rfl,rfl⟩,_⟩:=hx
 rw[sN] at hl
 rw[xT] at e0 e1 e2
 have v:=fun i=>World.var?_cell hg hvar i
 obtain⟨l⟩:=cs
 simp only at hl e0 e1 e2
 match l,hl with
 | [c0,c1,c2],_=>
  simp at e0 e1 e2
  subst e0 e1 e2
  exact⟨by simpa using v 0,by simpa using v 1,by simpa using v 2⟩
end Go.Proofs.YtcklaogdjpbagaaGreatDoor
namespace Go.Proofs.YtcklaogdjpbagaaGreatDoor
open Go Go.Proofs.Tryz Go.ChangeShapes Go.WideShapes Go.ChangeAt Go.RowKit Go.Proofs.YtcklaogdjpbagaaGreatDoor.M
structure Dt (w:World):Prop where
 lay:kx w
 tab:dZ w
theorem Ae {W : World} (h : laidMetH Tryz.prog [("math/bits.deBruijn32tab", Rows.laid_math_bits_deBruijn32tab), ("math/bits.deBruijn64tab", Rows.laid_math_bits_deBruijn64tab), ("plumb/bits.binary64", Rows.laid_plumb_bits_binary64)] W) : Dt W := by
 rw[MakeChecks.laidMetH_plain _ _ _ (by kernel_rfl)] at h
 have h' : laidMet Tryz.prog (("math/bits.deBruijn64tab", Lib.tabData .u8 tz) :: [("plumb/bits.binary64", Rows.laid_plumb_bits_binary64)]) W := h.tail
 have t:=Lib.tabIs_of_head Bj xR underlying183 underlying5 vW xS h'
 obtain⟨a0,a1,a2⟩:=lT DQ Ad h'.tail
 refine⟨⟨a0,a1,a2⟩,fun j hj=>?_⟩
 rw[<- Ac j hj]
 exact t.cell Bj j (by exact hj)
end Go.Proofs.YtcklaogdjpbagaaGreatDoor
namespace Go.Proofs.YtcklaogdjpbagaaGreatDoor
open Go Go.Proofs.Tryz Go.RowKit Go.Proofs.YtcklaogdjpbagaaGreatDoor.M
theorem aN {w w':World} {V:Int} {v:Value} (h:aW w w' V v):∃ ng so sn sc e,v=.agg #[.bool ng,.slice so sn sc,.int .i64 e]:=by
 obtain⟨ng,s,m,e,h1,_,hA⟩:=h
 obtain⟨so,sn,sc,rfl⟩:=hA.num.shape
 exact⟨_,_,_,_,_,h1⟩
theorem Cj {w:World} {x y:Value} {A B:Int} {k:Nat} (hx:aM w x A) (hy:aM w y B) (bA:Bd k A) (bB:Bd k B) (hk:k<=28000) (hT:dZ w) :
  Calls prog 79 #[x,y] w fun r w'=>∃ v,r=.returned (.tuple #[v,.int .i64 0])∧aW w w' (A-B) v:=by
 refine(Ch hx hy (bA.ok (by omega)) (bB.ok (by omega)) hT).mono ?_
 rintro r w' ⟨v,er,rfl,hF⟩
 have hb:=bA.add bB.neg (by omega)
 rw[<- Int.sub_eq_add_neg] at hb
 obtain⟨rfl,hD⟩:=hF.yes (hb.ok (by omega))
 exact⟨v,rfl,hD⟩
theorem Af (a b c:Int):aT (a*c) (b*c)=aT a b*aT c 0:=by
 rcases Int.lt_trichotomy c 0 with h|h|h
 ·have e:∀ x:Int,x*c=-(x * -c):=fun x=>by rw[Int.mul_neg,Int.neg_neg]
  rw[e a,e b,ty,oT (show 0 < -c by omega),dL h];omega
 ·rw[h,Int.mul_zero,Int.mul_zero,fm rfl,Int.mul_zero]
 ·rw[oT h,dM h,Int.mul_one]
def am (b:Int):Int:=sg (dV b) (bL b)*pw (bM b)
def fI (A b:Int):Int:=if aF b=true then aT A (am b) else if b<0 then 1 else -1
end Go.Proofs.YtcklaogdjpbagaaGreatDoor
namespace Go.Proofs.YtcklaogdjpbagaaGreatDoor
open Go Go.Proofs.Tryz Go.Proofs.YtcklaogdjpbagaaGreatDoor.M
def vS (r:Nat):Int:=(V Ieee.double r:Int)*pw (-1074)
theorem lU {r s:Nat} (h:r<s):vS r<vS s:=Int.mul_lt_mul_of_pos_right (by have:=iA Ieee.double h;omega) (ct _)
structure ei (A:Int) (r0:Nat) (left:Int):Prop where
 lo:vS r0<=A
 hi:A<vS (r0+1)
 l0:left=0↔A=vS r0
 l1:left=1↔vS r0<A∧2*A<vS r0+vS (r0+1)
 l2:left=2↔2*A=vS r0+vS (r0+1)
 l3:left=3↔vS r0+vS (r0+1)<2*A
def bT (way:Int) (ng:Bool) (r0:Nat) (left:Int):Int:=if (r0:Int)<9218868437227405312 then (r0:Int)+(if cI way ng (decide (r0 % 2=1)) left then 1 else 0) else fC way ng
theorem gY {way:Int} {ng odd:Bool} (h:cI way ng odd 0=true):False:=by
 unfold cI at h
 split at h
 ·simp at h
 ·split at h
  ·simp at h
  ·split at h<;>simp at h
theorem mG {way:Int} {ng odd:Bool} {left:Int} (h:cI way ng odd left=true):cI way ng true 3=true:=by
 unfold cI at *
 split at h
 ·rename_i h1;rw[if_pos h1];rfl
 ·rename_i h1
  rw[if_neg h1]
  split at h
  ·rename_i h2;rw[if_pos h2];simp at h;simp[h.2]
  ·rename_i h2
   rw[if_neg h2]
   split at h
   ·rename_i h3;rw[if_pos h3];simp at h;simp[h.2]
   ·cases h
theorem lr {A:Int} {u a r0:Nat} {left:Int} (h:M.kj A u (2^a*pw (-1074)) left) (h1:V Ieee.double r0=u*2^a) (h2:V Ieee.double (r0+1)=(u+1)*2^a):ei A r0 left:=by
 obtain⟨lo,hi,l0,l1,l2,l3⟩:=h
 have e1:vS r0=(u:Int)*(2^a*pw (-1074)):=by
  unfold vS
  rw[h1]
  push_cast
  rw[Int.mul_assoc]
 have e2:vS (r0+1)=(u:Int)*(2^a*pw (-1074))+2^a*pw (-1074):=by
  unfold vS
  rw[h2]
  push_cast
  rw[Int.add_mul,Int.add_mul,Int.one_mul,Int.mul_assoc]
 generalize (2:Int)^a*pw (-1074)=q at *
 generalize (u:Int)*q=U at *
 exact⟨by omega,by omega,by rw[e1];exact l0,by rw[e1,e2,l1];constructor<;>intro h<;>omega,by rw[e1,e2,l2];constructor<;>intro h<;>omega,by rw[e1,e2,l3];constructor<;>intro h<;>omega⟩
theorem xU {way:Int} {ng sd:Bool} {A:Int} {mag:Nat} {exp:Int} {cut:Bool} (hA:ld A mag exp cut) (hm:mag<2^64) (h0:mag≠0) (he:-4194304<=exp) (hc:cut=true->2^60<=mag) :
    ∃ (r0:Nat) (left:Int),ei A r0 left∧oR way ng sd mag exp cut=(aP (ng&&(decide (0<bT way ng r0 left)||sd)) (bT way ng r0 left),decide (left≠0)||decide (9218868437227405312<=(r0:Int))):=by
  have e64:(2:Nat)^64=18446744073709551616:=by decide
  obtain⟨b1,b2,b3,b4⟩:=M.eO mag hm h0
  have hbits:=zM (size:=53) (low:=-1074) (exp:=exp) (by decide) hm h0
  have hE1:-1074<=rE 53 (-1074) mag exp:=by unfold rE;omega
  have hcs:cut=true->0<rE 53 (-1074) mag exp-exp:=fun h=>by
    have h1:=hc h
    have h2:60<Lib.bitLen mag:=by
      have:=(Nat.pow_lt_pow_iff_right (by decide:1<2)).1 (Nat.lt_of_le_of_lt h1 b2)
      exact this
    unfold rE
    omega
  have hL:=tl hA hcs (by omega) he
  obtain⟨E,hE⟩:∃ E,rE 53 (-1074) mag exp=E:=⟨_,rfl⟩
  have HR:oR way ng sd mag exp cut=(let E:=rE 53 (-1074) mag exp
    let u:=rU mag (E-exp)
    let left:=rL mag cut (E-exp)
    let U:=u+(if cI way ng (decide (u % 2=1)) left then 1 else 0)
    let neg:=ng&&(decide (0<U)||sd)
    if jk 52 2047 (-1074) U E then (jp neg U E,decide (left≠0)) else (aP neg (fC way neg),true)):=rfl
  simp only at HR
  rw[hE] at hbits hE1 hL HR
  obtain⟨u,hu⟩:∃ u,rU mag (E-exp)=u:=⟨_,rfl⟩
  obtain⟨left,hl⟩:∃ l,rL mag cut (E-exp)=l:=⟨_,rfl⟩
  rw[hu] at hbits hL HR
  rw[hl] at hL HR
  obtain⟨a,ha⟩:∃ a,(E - -1074).toNat=a:=⟨_,rfl⟩
  have e53:(2:Nat)^(53:Int).toNat=9007199254740992:=by decide
  have e52:(2:Nat)^((53:Int).toNat-1)=4503599627370496:=by decide
  rw[e53,e52] at hbits
  have eB:Ieee.double.binade=4503599627370496:=by decide
  have hV:=lh Ieee.double a u (by rw[eB];omega) (fun h=>by rw[eB];exact hbits.2 (by omega))
  rw[eB] at hV
  have hpw:pw E=2^a*pw (-1074):=by rw[iZ (e:=E) (low:=-1074) (by decide) hE1,ha]
  rw[hpw] at hL
  refine⟨a*4503599627370496+u,left,lr hL hV.1 hV.2,?_⟩
  rw[HR]
  have hodd:decide ((a*4503599627370496+u) % 2=1)=decide (u % 2=1):=by congr 1;apply propext;omega
  unfold bT
  rw[hodd]
  obtain⟨R,hR⟩:∃ R,cI way ng (decide (u % 2=1)) left=R:=⟨_,rfl⟩
  rw[hR]
  obtain⟨U,hU⟩:∃ U,u+(if R=true then 1 else 0)=U:=⟨_,rfl⟩
  rw[hU]
  have hR1:R=true->left≠0:=fun h hz=>by rw[hz,h] at hR;exact gY hR
  have hR2:R=true->cI way ng true 3=true:=fun h=>mG (hR.trans h)
  have hUle:U<=9007199254740992:=by rw[<- hU];split<;>omega
  have hcast:((a*4503599627370496+u:Nat):Int)+(if R=true then 1 else 0)=((a*4503599627370496+U:Nat):Int):=by
    rw[<- hU]
    cases R<;>simp only[if_true,if_false,Bool.false_eq_true]<;>omega
  rw[hcast]
  by_cases hU0:U=0
  · have hu0:u=0:=by rw[<- hU] at hU0;omega
    have ha0:a=0:=by
      rcases Nat.eq_zero_or_pos a with h|h
      · exact h
      · have:=hbits.2 (by omega);omega
    subst hU0 hu0 ha0
    have hj:jk 52 2047 (-1074) ((0:Nat):Int) E=true:=rfl
    rw[hj]
    rw[if_pos rfl,if_pos (by decide)]
    have hd:decide (9218868437227405312<=((0*4503599627370496+0:Nat):Int))=false:=by decide
    rw[hd,Bool.or_false]
    cases ng<;>cases sd<;>rfl
  · have hjr:=oI Ieee.double 52 (by decide) dB 2047 (-1074) (by decide) U E (by omega) (by rw[show(2:Nat)^(52+1)=9007199254740992 by decide];exact hUle) hE1 (fun h=>by rw[show(2:Nat)^52=4503599627370496 by decide];have:=hbits.2 h;rw[<- hU];omega)
    simp only at hjr
    rw[ha,show(2:Nat)^52=4503599627370496 by decide,show(2047:Int)*2^52=9218868437227405312 by decide] at hjr
    obtain⟨j1,j2⟩:=hjr
    have hpos:decide (0<U)=true:=decide_eq_true (by omega)
    rw[show jk ((52:Nat):Int) 2047 (-1074) (U:Int) E=jk 52 2047 (-1074) (U:Int) E from rfl] at j1
    rw[j1,hpos,Bool.true_or,Bool.and_true]
    by_cases hf:((a*4503599627370496+U:Nat):Int)<9218868437227405312
    · have huU:u<=U:=by rw[<- hU];omega
      have hf0:((a*4503599627370496+u:Nat):Int)<9218868437227405312:=by omega
      rw[decide_eq_true hf,if_pos rfl,if_pos hf0,decide_eq_false (p:=9218868437227405312<=((a*4503599627370496+u:Nat):Int)) (by omega),Bool.or_false]
      have hd:decide (0<((a*4503599627370496+U:Nat):Int))=true:=decide_eq_true (by omega)
      rw[hd,Bool.true_or,Bool.and_true]
      congr 1
      have hjk:jk 52 2047 (-1074) (U:Int) E=true:=by rw[j1];exact decide_eq_true hf
      have hjv:=j2 hf
      rw[show jv ((52:Nat):Int) 2047 (-1074) (U:Int) E=jv 52 2047 (-1074) (U:Int) E from rfl] at hjv
      unfold jp aP
      rw[hjk,hjv,Bool.true_and]
    · rw[decide_eq_false hf,if_neg (by simp)]
      by_cases hf0:((a*4503599627370496+u:Nat):Int)<9218868437227405312
      · have hRt:R=true:=by
          cases R
          · exfalso;simp at hU;omega
          · rfl
        have hUe:((a*4503599627370496+U:Nat):Int)=9218868437227405312:=by rw[hRt] at hU;simp at hU;omega
        rw[if_pos hf0,hUe,decide_eq_true (hR1 hRt),Bool.true_or]
        congr 1
        have:fC way ng=9218868437227405312:=by unfold fC;rw[hR2 hRt,if_pos rfl]
        rw[this]
        simp
      · rw[if_neg hf0,decide_eq_true (p:=9218868437227405312<=((a*4503599627370496+u:Nat):Int)) (by omega),Bool.or_true]
        congr 1
        have hd:decide (0<fC way ng)=true:=by unfold fC;split<;>decide
        rw[hd,Bool.true_or,Bool.and_true]
end Go.Proofs.YtcklaogdjpbagaaGreatDoor
namespace Go.Proofs.YtcklaogdjpbagaaGreatDoor
open Go Go.Proofs.Tryz Go.RowKit Go.Proofs.YtcklaogdjpbagaaGreatDoor.M
theorem xV {M e:Int} (h:0<=M) (he:-4194304<=e) (k:Nat):ld (M*pw e) (M/2^k).toNat (e+k) (decide (M % 2^k≠0)):=by
 have hp:=aJ k
 have hq:=ct e
 have h0:0<=M/2^k:=Int.ediv_nonneg h (by omega)
 have hm0:=Int.emod_nonneg M (show(2:Int)^k≠0 by omega)
 have hm1:=Int.emod_lt_of_pos M hp
 have hd:=Int.mul_ediv_add_emod M (2^k)
 unfold ld
 rw[Int.toNat_of_nonneg h0,ew he]
 generalize M/2^k=Q at *
 generalize M % 2^k=T at *
 generalize pw e=q at *
 generalize (2:Int)^k=D at *
 have e1:Q*(q*D)=(D*Q)*q:=by rw[Int.mul_comm q D,<- Int.mul_assoc,Int.mul_comm Q D]
 have e2:(Q+1)*(q*D)=(D*Q)*q+D*q:=by rw[Int.add_mul,e1,Int.one_mul,Int.mul_comm q D]
 have e3:M*q=(D*Q)*q+T*q:=by rw[<- hd,Int.add_mul]
 rw[e2,e1,e3]
 have t0:0<=T*q:=Int.mul_nonneg hm0 (by omega)
 have t1:T*q<D*q:=Int.mul_lt_mul_of_pos_right hm1 hq
 refine⟨by omega,by omega,?_⟩
 rw[decide_eq_false_iff_not]
 constructor
 ·intro h
  have:T=0:=by omega
  rw[this];simp
 ·intro h hT
  have:0<T*q:=Int.mul_pos (by omega) hq
  omega
theorem tA {way:Int} {x:aI} (ok:dI x=true) (h0:0<x.n) :
  ∃ (r0:Nat) (left:Int),ei (val x.d x.n*pw x.e) r0 left∧oR way x.ng false (val x.d x.n/2^vK (val x.d x.n)).toNat (x.e+vK (val x.d x.n)) (decide (val x.d x.n % 2^vK (val x.d x.n)≠0))=(aP (x.ng&&(decide (0<bT way x.ng r0 left)||false)) (bT way x.ng r0 left),decide (left≠0)||decide (9218868437227405312<=(r0:Int))):=by
 obtain⟨na,hn,he0,he1⟩:=cD ok
 have hv:=ft na h0
 have hsm:=xN (Int.le_of_lt hv)
 have hb:=gT hv
 have hp:=aJ (vK (val x.d x.n))
 have hge:2^(aG (val x.d x.n)-1-vK (val x.d x.n))<=val x.d x.n/2^vK (val x.d x.n):=by
  rw[Int.le_ediv_iff_mul_le hp,<- Int.pow_add]
  by_cases hk:vK (val x.d x.n)<=aG (val x.d x.n)-1
  ·rw[show aG (val x.d x.n)-1-vK (val x.d x.n)+vK (val x.d x.n)=aG (val x.d x.n)-1 by omega]
   exact hb.2
  ·exfalso;unfold vK at hk;omega
 have hpos:=aJ (aG (val x.d x.n)-1-vK (val x.d x.n))
 have e64:(2:Nat)^64=18446744073709551616:=by decide
 have e60:(2:Nat)^60=1152921504606846976:=by decide
 refine xU (xV (Int.le_of_lt hv) (by omega) _) (by omega) (by omega) (by omega) (fun hc=>?_)
 have hk0:0<vK (val x.d x.n):=by
  rcases Nat.eq_zero_or_pos (vK (val x.d x.n)) with h|h
  ·rw[h,Int.pow_zero,Int.emod_one] at hc;simp at hc
  ·exact h
 have h61:aG (val x.d x.n)-1-vK (val x.d x.n)=61:=by unfold vK at hk0 ⊢;omega
 rw[h61] at hge
 have e61:(2:Int)^61=2305843009213693952:=by decide
 rw[e61] at hge
 omega
theorem nt {ng:Bool} {r:Int} (h0:0<=r) (h1:r<=9218868437227405312) (h:ng=true->0<r):ax (aP ng r)∧rg (aP ng r)=r∧(aP ng r<0↔ng=true):=by
 unfold aP rg ax
 cases ng
 ·simp only[Bool.false_eq_true,if_false]
  exact⟨by omega,by rw[if_neg (by omega)],by omega,fun h=>by cases h⟩
 ·simp only[if_true]
  exact⟨by have:=h rfl;omega,by have:=h rfl;rw[if_pos (by omega)];omega,fun _=>trivial,fun _=>by omega⟩
theorem mH {ng:Bool} {r:Int} (h0:0<=r) (h1:r<=9218868437227405312) (h:ng=true->0<r):aF (aP ng r)=decide (r<9218868437227405312):=by
 obtain⟨a,b,c⟩:=nt h0 h1 h
 have hp:=fh a
 rw[b] at hp
 have hf:0<=cx (aP ng r)∧cx (aP ng r)<4503599627370496:=by unfold cx;omega
 unfold aF
 by_cases hr:r<9218868437227405312
 ·rw[decide_eq_true hr]
  simp
  omega
 ·rw[decide_eq_false hr]
  simp
  omega
theorem gu {ng:Bool} {r:Nat} (h1:(r:Int)<9218868437227405312) (h:ng=true->0<r):am (aP ng r)=sg ng (vS r):=by
 have hh:ng=true->(0:Int)<r:=fun q=>by have:=h q;omega
 obtain⟨a,b,c⟩:=nt (ng:=ng) (r:=(r:Int)) (by omega) (by omega) hh
 have hp:aF (aP ng r)=true:=by rw[mH (by omega) (by omega) hh];exact decide_eq_true h1
 have hV:=AX a hp
 rw[b,Int.toNat_natCast] at hV
 obtain⟨i0,i1,i2,i3⟩:=gm hp
 have hn:dV (aP ng r)=ng:=by
  unfold dV
  rw[hp,Bool.true_and]
  cases ng
  ·exact decide_eq_false (fun q=>by have:=c.1 q;cases this)
  ·exact decide_eq_true (c.2 rfl)
 unfold am vS
 rw[hV,hn]
 have e:pw (bM (aP ng r))=2^(bM (aP ng r)+1074).toNat*pw (-1074):=by
  rw[iZ (e:=bM (aP ng r)) (low:=-1074) (by decide) i2]
  congr 2
 have e2:(((bL (aP ng r)).toNat*2^(bM (aP ng r)+1074).toNat:Nat):Int)*pw (-1074)=bL (aP ng r)*pw (bM (aP ng r)):=by
  push_cast
  rw[Int.toNat_of_nonneg i0,e,Int.mul_assoc]
 rw[e2]
 cases ng
 ·rfl
 ·show -bL _*_=-(bL _*_)
  rw[Int.neg_mul]
theorem ei.unique {A:Int} {r s:Nat} {l k:Int} (h:ei A r l) (g:ei A s k):r=s∧l=k:=by
 have e:r=s:=by
  rcases Nat.lt_trichotomy r s with q|q|q
  ·exfalso
   have h1:=h.hi
   have h2:=g.lo
   rcases Nat.lt_or_eq_of_le (show r+1<=s from q) with q2|q2
   ·have:=lU q2;omega
   ·rw[q2] at h1;omega
  ·exact q
  ·exfalso
   have h1:=g.hi
   have h2:=h.lo
   rcases Nat.lt_or_eq_of_le (show s+1<=r from q) with q2|q2
   ·have:=lU q2;omega
   ·rw[q2] at h1;omega
 subst e
 refine⟨rfl,?_⟩
 have a0:=h.lo
 by_cases c0:A=vS r
 ·rw[h.l0.2 c0,g.l0.2 c0]
 ·by_cases c1:2*A<vS r+vS (r+1)
  ·rw[h.l1.2 ⟨by omega,c1⟩,g.l1.2 ⟨by omega,c1⟩]
  ·by_cases c2:2*A=vS r+vS (r+1)
   ·rw[h.l2.2 c2,g.l2.2 c2]
   ·rw[h.l3.2 (by omega),g.l3.2 (by omega)]
def kQ (way:Int) (x:aI):Int × Bool:=oR way x.ng false (val x.d x.n/2^vK (val x.d x.n)).toNat (x.e+vK (val x.d x.n)) (decide (val x.d x.n % 2^vK (val x.d x.n)≠0))
theorem Bk {x:aI} (ok:dI x=true) (h0:0<x.n):∃ (r0:Nat) (left:Int),ei (val x.d x.n*pw x.e) r0 left∧∀ way,kQ way x=(aP (x.ng&&decide (0<bT way x.ng r0 left)) (bT way x.ng r0 left),decide (left≠0)||decide (9218868437227405312<=(r0:Int))):=by
 obtain⟨r0,left,hR,_⟩:=tA (way:=0) ok h0
 refine⟨r0,left,hR,fun way=>?_⟩
 obtain⟨r1,l1,hR1,e1⟩:=tA (way:=way) ok h0
 obtain⟨rfl,rfl⟩:=hR.unique hR1
 unfold kQ
 rw[e1,Bool.or_false]
theorem Ag {x:aI} (ok:dI x=true) (h0:x.n=0) (way:Int):kQ way x=(0,false):=by
  have hz:x.ng=false∧x.e=0:=by
    have:=of_decide_eq_true ok
    rcases this with⟨_,a,b⟩|⟨a,_⟩
    · exact⟨a,b⟩
    · omega
  have hv:val x.d x.n=0:=by rw[h0];rfl
  unfold kQ
  rw[hv,hz.1,hz.2]
  have e:oR way false false ((0:Int)/2^vK 0).toNat (0+(vK 0:Int)) (decide ((0:Int) % 2^vK 0≠0))=oR way false false 0 0 false:=by
    rw[show vK 0=0 by decide]
    rfl
  rw[e]
  have HR:oR way false false 0 0 false=(let E:=rE 53 (-1074) 0 0
    let u:=rU 0 (E-0)
    let left:=rL 0 false (E-0)
    let U:=u+(if cI way false (decide (u % 2=1)) left then 1 else 0)
    let neg:=false&&(decide (0<U)||false)
    if jk 52 2047 (-1074) U E then (jp neg U E,decide (left≠0)) else (aP neg (fC way neg),true)):=rfl
  rw[HR]
  have hE:rE 53 (-1074) 0 0=-53:=by decide
  simp only[hE]
  have hu:rU 0 (-53-0)=0:=by decide
  have hl:rL 0 false (-53-0)=0:=by decide
  simp only[hu,hl]
  have hr:cI way false (decide (0 % 2=1)) 0=false:=by
    cases h:cI way false (decide (0 % 2=1)) 0
    · rfl
    · exact absurd h (fun q=>gY q)
  rw[hr]
  rfl
theorem fT:vS 0=0:=by unfold vS;rw[kX];simp
theorem ky {A:Int} {ng:Bool} {r:Nat} (h:(r:Int)<9218868437227405312):fI A (aP (ng&&decide ((0:Int)<r)) r)=aT A (sg ng (vS r)):=by
 by_cases h0:r=0
 ·subst h0
  have e:(ng&&decide ((0:Int)<((0:Nat):Int)))=false:=by simp
  rw[e,fT]
  have hp:aF (aP false ((0:Nat):Int))=true:=by decide
  have hv:am (aP false ((0:Nat):Int))=0:=by rw[gu (by decide) (fun q=>by cases q),fT];rfl
  unfold fI
  rw[if_pos hp,hv]
  cases ng<;>rfl
 ·have e:(ng&&decide ((0:Int)<(r:Int)))=ng:=by rw[decide_eq_true (by omega),Bool.and_true]
  rw[e]
  have hp:aF (aP ng r)=true:=by rw[mH (by omega) (by omega) (fun _=>by omega)];exact decide_eq_true h
  unfold fI
  rw[if_pos hp,gu h (fun _=>by omega)]
theorem qM {A:Int} {ng:Bool}:fI A (aP (ng&&decide ((0:Int)<9218868437227405312)) 9218868437227405312)=if ng then 1 else -1:=by
 cases ng<;>rfl
theorem xW (ng odd:Bool) (left:Int):cI 1 ng odd left=(decide (left≠0)&&ng):=rfl
theorem Bl (ng odd:Bool) (left:Int):cI 2 ng odd left=(decide (left≠0)&&!ng):=rfl
theorem xX (ng odd:Bool) (left:Int):cI 3 ng odd left=false:=rfl
theorem tB {ng:Bool} {r0:Nat} {left:Int} (h:(r0:Int)<9218868437227405312) :
  bT 1 ng r0 left=(if left≠0∧ng=true then ((r0+1:Nat):Int) else (r0:Int))∧bT 2 ng r0 left=(if left≠0∧ng=false then ((r0+1:Nat):Int) else (r0:Int))∧bT 3 ng r0 left=(r0:Int)∧(bT 0 ng r0 left=(r0:Int)∨(left≠0∧bT 0 ng r0 left=((r0+1:Nat):Int))):=by
 unfold bT
 simp only[if_pos h]
 refine⟨?_,?_,?_,?_⟩
 ·rw[xW]
  by_cases h0:left=0
  ·subst h0;simp
  ·cases ng<;>simp[h0]
 ·rw[Bl]
  by_cases h0:left=0
  ·subst h0;simp
  ·cases ng<;>simp[h0]
 ·rw[xX]
  simp
 ·cases hu:cI 0 ng (decide (r0 % 2=1)) left
  ·left;simp
  ·right
   refine⟨fun hz=>?_,by simp⟩
   rw[hz] at hu
   exact gY hu
theorem tC {ng:Bool} {r0:Nat} {left:Int} (h:¬ (r0:Int)<9218868437227405312) :
  bT 1 ng r0 left=(if ng=true then 9218868437227405312 else 9218868437227405311)∧bT 2 ng r0 left=(if ng=true then 9218868437227405311 else 9218868437227405312)∧bT 3 ng r0 left=9218868437227405311∧bT 0 ng r0 left=9218868437227405312:=by
 unfold bT
 simp only[if_neg h]
 cases ng<;>decide
theorem ek {b:Int} (hb:ax b):(aR b=4↔9218868437227405312<rg b)∧(aR b=0↔rg b=0):=by
 obtain⟨h0,h1⟩:=fh hb
 have hf:0<=cx b∧cx b<4503599627370496:=by unfold cx;omega
 have hg:0<=bZ b∧bZ b<2048:=by unfold bZ;omega
 generalize rg b=r at *
 unfold aR
 generalize bZ b=f at *
 generalize cx b=c at *
 constructor
 ·split
  ·split<;>constructor<;>intro h<;>omega
  ·split
   ·split<;>constructor<;>intro h<;>omega
   ·constructor<;>intro h<;>omega
 ·split
  ·split<;>constructor<;>intro h<;>omega
  ·split
   ·split<;>constructor<;>intro h<;>omega
   ·constructor<;>intro h<;>omega
theorem vX {r:Int} (h0:0<=r) (h1:r<9218868437227405312):lM (next (aP false r))=r+1:=by
 have e:aP false r=r:=rfl
 rw[e]
 have a1:ax r:=by unfold ax;omega
 have a2:ax (r+1):=by unfold ax;omega
 have g1:rg r=r:=by unfold rg;rw[if_neg (by omega)]
 have g2:rg (r+1)=r+1:=by unfold rg;rw[if_neg (by omega)]
 have c1:=ek a1
 have c2:=ek a2
 rw[g1] at c1
 rw[g2] at c2
 have n:next r=r+1:=by
  unfold next
  rw[if_neg (by rw[c1.1];omega),if_neg (by omega),if_neg (by omega),if_neg (by omega)]
 rw[n]
 unfold lM
 rw[if_neg (by rw[c2.1];omega),if_neg (by rw[c2.2];omega)]
theorem vY {r:Int} (h0:0<r) (h1:r<=9218868437227405312):lM (next (aP true r))=aP (decide (0<r-1)) (r-1):=by
 have e:aP true r=r-9223372036854775808:=rfl
 rw[e]
 have a1:ax (r-9223372036854775808):=by unfold ax;omega
 have a2:ax (r-9223372036854775808-1):=by unfold ax;omega
 have g1:rg (r-9223372036854775808)=r:=by unfold rg;rw[if_pos (by omega)];omega
 have g2:rg (r-9223372036854775808-1)=r-1:=by unfold rg;rw[if_pos (by omega)];omega
 have c1:=ek a1
 have c2:=ek a2
 rw[g1] at c1
 rw[g2] at c2
 have n:next (r-9223372036854775808)=r-9223372036854775808-1:=by
  unfold next
  rw[if_neg (by rw[c1.1];omega),if_neg (by omega),if_neg (by omega),if_pos (by omega)]
 rw[n]
 unfold lM
 rw[if_neg (by rw[c2.1];omega)]
 by_cases h:r-1=0
 ·rw[if_pos (c2.2.2 h),h]
  rfl
 ·rw[if_neg (by rw[c2.2];exact h),decide_eq_true (by omega)]
  unfold aP
  rw[if_pos rfl]
  omega
structure nw (V:Int) (ng:Bool) (f:Int->Int × Bool):Prop where
 o2:(f 2).2=(f 1).2
 o3:(f 3).2=(f 1).2
 o0:(f 0).2=(f 1).2
 lo:¬ fI V (f 1).1<0
 hi:¬ 0<fI V (f 2).1
 ex:(f 1).2=false->fI V (f 1).1=0∧(f 2).1=(f 1).1∧(f 3).1=(f 1).1∧(f 0).1=(f 1).1
 up:(f 1).2=true->fI V (f 1).1≠0∧lM (next (f 1).1)=(f 2).1∧((f 0).1=(f 1).1∨(f 0).1=(f 2).1)∧(ng=false->(f 3).1=(f 1).1)∧(ng=true->(f 3).1=(f 2).1)
theorem xY (a:Int):aT a a=0:=by unfold aT;rw[if_neg (by omega),if_neg (by omega)]
theorem nw.of {V:Int} {ng:Bool} {f:Int->Int × Bool} {o:Bool} {d u z n:Int} (f1:f 1=(aP (ng&&decide (0<d)) d,o)) (f2:f 2=(aP (ng&&decide (0<u)) u,o)) (f3:f 3=(aP (ng&&decide (0<z)) z,o)) (f0:f 0=(aP (ng&&decide (0<n)) n,o))
  (lo:¬ fI V (aP (ng&&decide (0<d)) d)<0) (hi:¬ 0<fI V (aP (ng&&decide (0<u)) u)) (ex:o=false->fI V (aP (ng&&decide (0<d)) d)=0∧u=d∧z=d∧n=d)
  (up:o=true->fI V (aP (ng&&decide (0<d)) d)≠0∧lM (next (aP (ng&&decide (0<d)) d))=aP (ng&&decide (0<u)) u∧(n=d∨n=u)∧(ng=false->z=d)∧(ng=true->z=u)):nw V ng f:=by
 refine⟨by rw[f1,f2],by rw[f1,f3],by rw[f1,f0],by rw[f1];exact lo,by rw[f2];exact hi,fun h=>?_,fun h=>?_⟩
 ·rw[f1] at h
  obtain⟨a,b,c,e⟩:=ex h
  rw[f1,f2,f3,f0,b,c,e]
  exact⟨a,rfl,rfl,rfl⟩
 ·rw[f1] at h
  obtain⟨a,b,c,e,g⟩:=up h
  rw[f1,f2,f3,f0]
  refine⟨a,b,?_,fun q=>by rw[e q],fun q=>by rw[g q]⟩
  rcases c with c|c
  ·left;rw[c]
  ·right;rw[c]
theorem Ck {r:Nat} (h:(r:Int)<9218868437227405312) (g:¬ ((r+1:Nat):Int)<9218868437227405312):((r+1:Nat):Int)=9218868437227405312:=by omega
theorem zf (r:Nat):(0:Int)<((r+1:Nat):Int):=by omega
theorem Du {r:Nat} (h:(r:Int)<9218868437227405312):((r+1:Nat):Int)<=9218868437227405312:=by omega
theorem Cl (r:Nat):((r+1:Nat):Int)-1=(r:Int):=by omega
theorem Cm (r:Nat):((r+1:Nat):Int)=(r:Int)+1:=by omega
theorem Dw {r k:Nat} (hk:(9218868437227405311:Int)=(k:Int)) (h:¬ (r:Int)<9218868437227405312):k<r:=by omega
theorem Dx:∃ k:Nat,(9218868437227405311:Int)=(k:Int):=⟨9218868437227405311,rfl⟩
theorem Cn {k:Nat} (hk:(9218868437227405311:Int)=(k:Int)):(k:Int)<9218868437227405312∧(k:Int)+1=9218868437227405312∧(9218868437227405312:Int)-1=(k:Int):=by omega
theorem vZ {ng:Bool} {A B:Int} (h:A<B):aT (sg ng A) (sg ng B)=if ng then 1 else -1:=by
 cases ng
 ·exact dL h
 ·exact dM (Int.neg_lt_neg h)
theorem oU {ng:Bool} {A B:Int} (h:B<A):aT (sg ng A) (sg ng B)=if ng then -1 else 1:=by
 cases ng
 ·exact dM h
 ·exact dL (Int.neg_lt_neg h)
theorem ol (ng:Bool) (a b:Int):sg ng a*b=sg ng (a*b):=by
 unfold sg
 cases ng
 ·rfl
 ·exact Int.neg_mul a b
theorem jR {x:aI} (ok:dI x=true):nw x.V x.ng (fun way=>kQ way x):=by
 by_cases h0:x.n=0
 ·have hz:x.ng=false:=by
   have:=of_decide_eq_true ok
   rcases this with⟨_,a,b⟩|⟨a,_⟩
   ·exact a
   ·omega
  have hv:x.V=0:=by
   have hv:val x.d x.n=0:=by rw[h0];rfl
   unfold aI.V
   rw[hv,ed,Int.zero_mul]
  have hp:fI x.V (aP (x.ng&&decide ((0:Int)<0)) 0)=0:=by
   have:=ky (A:=x.V) (ng:=x.ng) (r:=0) (by decide)
   rw[fT,hv,hz] at this
   rw[hv,hz]
   exact this
  have hz0:∀ way,kQ way x=(aP (x.ng&&decide ((0:Int)<0)) 0,false):=fun way=>by
   rw[Ag ok h0,hz]
   rfl
  exact nw.of (f:=fun way=>kQ way x) (hz0 1) (hz0 2) (hz0 3) (hz0 0) (by rw[hp];decide) (by rw[hp];decide) (fun _=>⟨hp,rfl,rfl,rfl⟩) (fun h=>by cases h)
 ·obtain⟨r0,left,hR,hf⟩:=Bk ok (by omega)
  obtain⟨A,hA⟩:∃ A,val x.d x.n*pw x.e=A:=⟨_,rfl⟩
  rw[hA] at hR
  have hV:x.V=sg x.ng A:=by
   unfold aI.V
   rw[<- hA]
   exact ol _ _ _
  clear hA
  have lo:=hR.lo
  have hi:=hR.hi
  have l0:=hR.l0
  rw[hV]
  by_cases hr:(r0:Int)<9218868437227405312
  ·obtain⟨t1,t2,t3,t0⟩:=tB (ng:=x.ng) (left:=left) hr
   have ho:(decide (left≠0)||decide (9218868437227405312<=(r0:Int)))=decide (left≠0):=by rw[decide_eq_false (p:=9218868437227405312<=(r0:Int)) (Int.not_le.2 hr),Bool.or_false]
   rw[ho] at hf
   have P0:=ky (A:=sg x.ng A) (ng:=x.ng) hr
   by_cases hl:left=0
   ·have hAe:=l0.1 hl
    have e1:bT 1 x.ng r0 left=(r0:Int):=by rw[t1,if_neg (fun h=>h.1 hl)]
    have e2:bT 2 x.ng r0 left=(r0:Int):=by rw[t2,if_neg (fun h=>h.1 hl)]
    have e0:bT 0 x.ng r0 left=(r0:Int):=by rcases t0 with h|h;exact h;exact absurd hl h.1
    rw[hAe,xY] at P0
    refine nw.of (f:=fun way=>kQ way x) (hf 1) (hf 2) (hf 3) (hf 0) ?_ ?_ ?_ ?_
    ·rw[e1,hAe,P0];decide
    ·rw[e2,hAe,P0];decide
    ·intro _;rw[e1,e2,t3,e0,hAe];exact⟨P0,rfl,rfl,rfl⟩
    ·intro h;exact absurd hl (of_decide_eq_true h)
   ·have hAl:vS r0<A:=by
     rcases Int.lt_or_eq_of_le lo with h|h
     ·exact h
     ·exact absurd (l0.2 h.symm) hl
    have P1:fI (sg x.ng A) (aP (x.ng&&decide ((0:Int)<((r0+1:Nat):Int))) ((r0+1:Nat):Int))=if x.ng then 1 else -1:=by
     by_cases h1:((r0+1:Nat):Int)<9218868437227405312
     ·rw[ky h1]
      exact vZ hi
     ·have e:=Ck hr h1
      rw[e]
      exact qM
    have P0':fI (sg x.ng A) (aP (x.ng&&decide ((0:Int)<(r0:Int))) (r0:Int))=if x.ng then -1 else 1:=by
     rw[P0]
     exact oU hAl
    clear hV
    generalize x.ng=ng at *
    cases ng
    ·have e1:bT 1 false r0 left=(r0:Int):=by rw[t1,if_neg (fun h=>by cases h.2)]
     have e2:bT 2 false r0 left=((r0+1:Nat):Int):=by rw[t2,if_pos ⟨hl,rfl⟩]
     refine nw.of (f:=fun way=>kQ way x) (hf 1) (hf 2) (hf 3) (hf 0) ?_ ?_ ?_ ?_
     ·rw[e1,P0'];decide
     ·rw[e2,P1];decide
     ·intro h;exact absurd hl (by simpa using h)
     ·intro _
      rw[e1,e2,t3,P0']
      refine⟨by decide,?_,?_,(fun _=>rfl),(fun h=>by cases h)⟩
      ·rw[Bool.false_and,Bool.false_and,vX (Int.natCast_nonneg _) hr];exact(Cm r0).symm
      ·rcases t0 with h|h
       ·exact .inl h
       ·exact .inr h.2
    ·have e1:bT 1 true r0 left=((r0+1:Nat):Int):=by rw[t1,if_pos ⟨hl,rfl⟩]
     have e2:bT 2 true r0 left=(r0:Int):=by rw[t2,if_neg (fun h=>by cases h.2)]
     refine nw.of (f:=fun way=>kQ way x) (hf 1) (hf 2) (hf 3) (hf 0) ?_ ?_ ?_ ?_
     ·rw[e1,P1];decide
     ·rw[e2,P0'];decide
     ·intro h;exact absurd hl (by simpa using h)
     ·intro _
      rw[e1,e2,t3,P1]
      refine⟨by decide,?_,?_,(fun h=>by cases h),fun _=>rfl⟩
      ·rw[Bool.true_and,Bool.true_and,decide_eq_true (p:=(0:Int)<((r0+1:Nat):Int)) (zf r0),vY (zf r0) (Du hr),Cl]
      ·rcases t0 with h|h
       ·exact .inr h
       ·exact .inl h.2
  ·obtain⟨t1,t2,t3,t0⟩:=tC (ng:=x.ng) (left:=left) hr
   have ho:(decide (left≠0)||decide (9218868437227405312<=(r0:Int)))=true:=by rw[decide_eq_true (p:=9218868437227405312<=(r0:Int)) (Int.not_lt.1 hr),Bool.or_true]
   rw[ho] at hf
   obtain⟨k,hk⟩:=Dx
   obtain⟨hk1,hk2,hk3⟩:=Cn hk
   have hAl:vS k<A:=Int.lt_of_lt_of_le (lU (Dw hk hr)) lo
   have P0:fI (sg x.ng A) (aP (x.ng&&decide ((0:Int)<(k:Int))) (k:Int))=if x.ng then -1 else 1:=by
    refine(ky (A:=sg x.ng A) (ng:=x.ng) hk1).trans ?_
    exact oU hAl
   rw[hk] at t1 t2 t3
   have P1:fI (sg x.ng A) (aP (x.ng&&decide ((0:Int)<9218868437227405312)) 9218868437227405312)=if x.ng then 1 else -1:=qM
   clear hV hR lo hi l0
   generalize x.ng=ng at *
   cases ng
   ·rw[if_neg (by decide)] at t1 t2
    refine nw.of (f:=fun way=>kQ way x) (hf 1) (hf 2) (hf 3) (hf 0) ?_ ?_ ?_ ?_
    ·rw[t1,P0];decide
    ·rw[t2,P1];decide
    ·intro h;cases h
    ·intro _
     rw[t1,t2,t3,t0,P0]
     refine⟨by decide,?_,.inr rfl,(fun _=>rfl),(fun h=>by cases h)⟩
     rw[Bool.false_and,Bool.false_and]
     rw[vX (Int.natCast_nonneg _) hk1,hk2]
     rfl
   ·rw[if_pos rfl] at t1 t2
    refine nw.of (f:=fun way=>kQ way x) (hf 1) (hf 2) (hf 3) (hf 0) ?_ ?_ ?_ ?_
    ·rw[t1,P1];decide
    ·rw[t2,P0];decide
    ·intro h;cases h
    ·intro _
     rw[t1,t2,t3,t0,P1]
     refine⟨by decide,?_,.inl rfl,(fun h=>by cases h),fun _=>rfl⟩
     rw[Bool.true_and,Bool.true_and]
     rw[decide_eq_true (p:=(0:Int)<9218868437227405312) (by decide),vY (by decide) (Int.le_refl _),hk3]
end Go.Proofs.YtcklaogdjpbagaaGreatDoor
namespace Go.Proofs.YtcklaogdjpbagaaGreatDoor
open Go Go.Proofs.Tryz Go.ChangeShapes Go.WideShapes Go.ChangeAt Go.RowKit Go.Proofs.YtcklaogdjpbagaaGreatDoor.M
end Go.Proofs.YtcklaogdjpbagaaGreatDoor
namespace Go.Proofs.YtcklaogdjpbagaaGreatDoor
open Go Go.Proofs.Tryz Go.RowKit Go.Proofs.YtcklaogdjpbagaaGreatDoor.M
theorem oV {r:Nat->aI} {n:Nat} (h:kt r n=true):∀ i,i<n->dI (r i)=true:=of_decide_eq_true h
theorem aM.open2 {w:World} {ng:Bool} {so:Option Addr} {sn sc:Nat} {e V:Int} (h:aM w (.agg #[.bool ng,.slice so sn sc,.int .i64 e]) V) (ok:cY V):∃ d,aS w so sn sc d∧dI ⟨ng,so,sn,sc,d,e⟩=true∧(⟨ng,so,sn,sc,d,e⟩:aI).V=V:=by
 obtain⟨x,h1,h2,h3,h4⟩:=h.open ok
 obtain⟨xg,xo,xn,xc,xd,xe⟩:=x
 simp only[aI.v,Value.agg.injEq,Array.mk.injEq,List.cons.injEq,Value.bool.injEq,Value.int.injEq,Value.slice.injEq,and_true,true_and] at h1
 obtain⟨rfl,⟨rfl,rfl,rfl⟩,rfl⟩:=h1
 exact⟨xd,h2,h3,h4⟩
end Go.Proofs.YtcklaogdjpbagaaGreatDoor
namespace Go.Proofs.YtcklaogdjpbagaaGreatDoor
open Go Go.Proofs.Tryz Go.ChangeShapes Go.WideShapes Go.ChangeAt Go.RowKit Go.Proofs.YtcklaogdjpbagaaGreatDoor.M
structure bR (w:World):Prop where
 lay:kx w
 tab:dZ w
 env:zb w
theorem bR.keeps {w w':World} (h:bR w) (hb:Below w.heap.size w w'):bR w':=⟨h.lay.keeps hb,h.tab.keeps hb,h.env.keeps hb⟩
theorem fe (way:Int) (ng:Bool) (r0:Nat) (left:Int):0<=bT way ng r0 left∧bT way ng r0 left<=9218868437227405312:=by
 unfold bT
 split
 ·split<;>omega
 ·unfold fC
  repeat' split
  all_goals decide
end Go.Proofs.YtcklaogdjpbagaaGreatDoor
namespace Go.Proofs.YtcklaogdjpbagaaGreatDoor
open Go Go.Proofs.Tryz Go.RowKit Go.Proofs.YtcklaogdjpbagaaGreatDoor.M
def Dz (V:Int) (ng:Bool) (f:Int->Int × Bool):Prop:=∃ (A:Int) (r0:Nat) (left:Int),V=sg ng A∧(ng=true->0<A)∧ei A r0 left∧∀ way,f way=(aP (ng&&decide (0<bT way ng r0 left)) (bT way ng r0 left),decide (left≠0)||decide (9218868437227405312<=(r0:Int)))
theorem mf {a b:Int}:aT a b<0↔a<b:=by
 rcases Int.lt_trichotomy a b with h|h|h
 ·rw[dL h];exact⟨fun _=>h,fun _=>by decide⟩
 ·rw[fm h];exact⟨fun q=>absurd q (by decide),fun q=>by omega⟩
 ·rw[dM h];exact⟨fun q=>absurd q (by decide),fun q=>by omega⟩
theorem mh {a b:Int}:0<aT a b↔b<a:=by
 rcases Int.lt_trichotomy a b with h|h|h
 ·rw[dL h];exact⟨fun q=>absurd q (by decide),fun q=>by omega⟩
 ·rw[fm h];exact⟨fun q=>absurd q (by decide),fun q=>by omega⟩
 ·rw[dM h];exact⟨fun _=>h,fun _=>by decide⟩
theorem ls {a b:Int}:aT a b=0↔a=b:=by
 rcases Int.lt_trichotomy a b with h|h|h
 ·rw[dL h];exact⟨fun q=>absurd q (by decide),fun q=>by omega⟩
 ·rw[fm h];exact⟨fun _=>h,fun _=>rfl⟩
 ·rw[dM h];exact⟨fun q=>absurd q (by decide),fun q=>by omega⟩
theorem xZ {A a b left:Int} (l1:left=1↔a<A∧2*A<a+b) (l2:left=2↔2*A=a+b) (l3:left=3↔a+b<2*A) (lo:a<A) :
  (aT (A-a) (b-A)<0->left=1)∧(0<aT (A-a) (b-A)->left=3)∧(aT (A-a) (b-A)=0->left=2) :=
 ⟨fun h=>l1.2 ⟨lo,by have:=mf.1 h;omega⟩,fun h=>l3.2 (by have:=mh.1 h;omega),fun h=>l2.2 (by have:=ls.1 h;omega)⟩
theorem ya {A a b left:Int} (l1:left=1↔a<A∧2*A<a+b) (l2:left=2↔2*A=a+b) (l3:left=3↔a+b<2*A) (lo:a<A) :
  (aT (-A - -b) (-a - -A)<0->left=3)∧(0<aT (-A - -b) (-a - -A)->left=1)∧(aT (-A - -b) (-a - -A)=0->left=2) :=
 ⟨fun h=>l3.2 (by have:=mf.1 h;omega),fun h=>l1.2 ⟨lo,by have:=mh.1 h;omega⟩,fun h=>l2.2 (by have:=ls.1 h;omega)⟩
theorem wa {A a b left:Int} (l1:left=1↔a<A∧2*A<a+b) (l2:left=2↔2*A=a+b) (l3:left=3↔a+b<2*A) (lo:a<A) :
  (aT (sg false A-sg false a) (sg false b-sg false A)<0->left=1)∧(0<aT (sg false A-sg false a) (sg false b-sg false A)->left=3)∧(aT (sg false A-sg false a) (sg false b-sg false A)=0->left=2):=xZ l1 l2 l3 lo
theorem wb {A a b left:Int} (l1:left=1↔a<A∧2*A<a+b) (l2:left=2↔2*A=a+b) (l3:left=3↔a+b<2*A) (lo:a<A) :
  (aT (sg true A-sg true b) (sg true a-sg true A)<0->left=3)∧(0<aT (sg true A-sg true b) (sg true a-sg true A)->left=1)∧(aT (sg true A-sg true b) (sg true a-sg true A)=0->left=2):=ya l1 l2 l3 lo
theorem wc {ng:Bool} {r0:Nat} (h:(r0:Int)<9218868437227405312):bT 0 ng r0 1=(r0:Int):=by
 unfold bT
 rw[if_pos h]
 simp[cI]
theorem we {ng:Bool} {r0:Nat} (h:(r0:Int)<9218868437227405312):bT 0 ng r0 3=((r0+1:Nat):Int):=by
 unfold bT
 rw[if_pos h]
 simp[cI]
theorem wg {ng:Bool} {r0:Nat} (h:(r0:Int)<9218868437227405312):bT 0 ng r0 2 % 2=0:=by
 unfold bT
 rw[if_pos h]
 by_cases hp:r0 % 2=1
 ·simp[cI,hp];omega
 ·simp[cI,hp];omega
theorem oW {b:Bool} {r:Int} (h:r % 2=0):aP b r % 2=0:=by
 unfold aP
 cases b
 ·exact h
 ·show(r-9223372036854775808) % 2=0;omega
theorem tE {ng:Bool} {r:Int} (h:(ng&&decide (0<r))=true):0<r:=by
 cases ng
 ·cases h
 ·rw[Bool.true_and] at h;exact of_decide_eq_true h
theorem tF {ng:Bool} {r:Int} (h0:0<=r) (h1:r<=9218868437227405312) (h:aF (aP (ng&&decide (0<r)) r)=true):r<9218868437227405312:=by
 rw[mH h0 h1 tE] at h
 exact of_decide_eq_true h
theorem lv {ng:Bool} {r:Nat} (h:(r:Int)<9218868437227405312):am (aP (ng&&decide ((0:Int)<(r:Int))) (r:Int))=sg ng (vS r):=by
 rw[gu h (fun q=>by have:=tE q;omega)]
 by_cases h0:r=0
 ·subst h0
  rw[fT]
  simp[sg]
 ·have e:(ng&&decide ((0:Int)<(r:Int)))=ng:=by rw[decide_eq_true (by omega),Bool.and_true]
  rw[e]
structure wh (V:Int) (f:Int->Int × Bool):Prop where
 lo:aT (V-am (f 1).1) (am (f 2).1-V)<0->(f 0).1=(f 1).1
 hi:0<aT (V-am (f 1).1) (am (f 2).1-V)->(f 0).1=(f 2).1
 ev:aT (V-am (f 1).1) (am (f 2).1-V)=0->(f 0).1 % 2=0
theorem wh.of {V:Int} {f:Int->Int × Bool} {d u n p q:Int} {o:Bool} (f1:f 1=(d,o)) (f2:f 2=(u,o)) (f0:f 0=(n,o)) (hd:am d=p) (hu:am u=q)
  (lo:aT (V-p) (q-V)<0->n=d) (hi:0<aT (V-p) (q-V)->n=u) (ev:aT (V-p) (q-V)=0->n % 2=0):wh V f:=by
 subst hd hu
 exact⟨by rw[f1,f2,f0];exact lo,by rw[f1,f2,f0];exact hi,by rw[f1,f2,f0];exact ev⟩
theorem bS {V:Int} {ng:Bool} {f:Int->Int × Bool} (h:Dz V ng f) (o:(f 0).2=true) (pd:aF (f 1).1=true) (pu:aF (f 2).1=true):wh V f:=by
 obtain⟨A,r0,left,hV,hA,hR,hf⟩:=h
 have f1:=hf 1
 have f2:=hf 2
 have f0:=hf 0
 rw[f1] at pd
 rw[f2] at pu
 rw[f0] at o
 have g1:=fe 1 ng r0 left
 have g2:=fe 2 ng r0 left
 have q1:=tF g1.1 g1.2 pd
 have q2:=tF g2.1 g2.2 pu
 clear pd pu hf g1 g2
 by_cases hr:(r0:Int)<9218868437227405312
 ·obtain⟨t1,t2,t3,t0⟩:=tB (ng:=ng) (left:=left) hr
  have hl:left≠0:=by
   have o':(decide (left≠0)||decide (9218868437227405312<=(r0:Int)))=true:=o
   rw[decide_eq_false (p:=9218868437227405312<=(r0:Int)) (Int.not_le.2 hr),Bool.or_false] at o'
   exact of_decide_eq_true o'
  have hAl:vS r0<A:=by
   rcases Int.lt_or_eq_of_le hR.lo with h|h
   ·exact h
   ·exact absurd (hR.l0.2 h.symm) hl
  have l1:=hR.l1
  have l2:=hR.l2
  have l3:=hR.l3
  clear hR t3 t0 hA
  have V0:=lv (ng:=ng) hr
  cases ng
  ·have e1:bT 1 false r0 left=(r0:Int):=by rw[t1,if_neg (fun h=>by cases h.2)]
   have e2:bT 2 false r0 left=((r0+1:Nat):Int):=by rw[t2,if_pos ⟨hl,rfl⟩]
   rw[e1] at f1
   rw[e2] at f2 q2
   have V1:=lv (ng:=false) q2
   obtain⟨n1,n2,n3⟩:=wa l1 l2 l3 hAl
   refine wh.of f1 f2 f0 V0 V1 ?_ ?_ ?_
   ·intro h
    rw[hV] at h
    have:=n1 h
    subst this
    rw[wc hr]
   ·intro h
    rw[hV] at h
    have:=n2 h
    subst this
    rw[we hr]
   ·intro h
    rw[hV] at h
    have:=n3 h
    subst this
    exact oW (wg hr)
  ·have e1:bT 1 true r0 left=((r0+1:Nat):Int):=by rw[t1,if_pos ⟨hl,rfl⟩]
   have e2:bT 2 true r0 left=(r0:Int):=by rw[t2,if_neg (fun h=>by cases h.2)]
   rw[e1] at f1 q1
   rw[e2] at f2
   have V1:=lv (ng:=true) q1
   obtain⟨n1,n2,n3⟩:=wb l1 l2 l3 hAl
   refine wh.of f1 f2 f0 V1 V0 ?_ ?_ ?_
   ·intro h
    rw[hV] at h
    have:=n1 h
    subst this
    rw[we hr]
   ·intro h
    rw[hV] at h
    have:=n2 h
    subst this
    rw[wc hr]
   ·intro h
    rw[hV] at h
    have:=n3 h
    subst this
    exact oW (wg hr)
 ·exfalso
  obtain⟨t1,t2,t3,t0⟩:=tC (ng:=ng) (left:=left) hr
  rw[t1] at q1
  rw[t2] at q2
  clear f1 f2 f0 o hV hA hR
  cases ng
  ·rw[if_neg (by decide)] at q2;omega
  ·rw[if_pos rfl] at q1;omega
end Go.Proofs.YtcklaogdjpbagaaGreatDoor
namespace Go.Proofs.YtcklaogdjpbagaaGreatDoor.M
open Go Go.Proofs.Tryz
/-! the order of all -/
theorem ty (a b:Int):ue a b=- ue b a:=by
 unfold ue;repeat' split
 all_goals omega
end Go.Proofs.YtcklaogdjpbagaaGreatDoor.M
namespace Go.Proofs.YtcklaogdjpbagaaGreatDoor.M
open Go Go.Proofs.Tryz Ieee
theorem yb (neg:Bool) (n:Nat):Toward.even.cut neg n 0=n:=by
 unfold Toward.cut
 have h1:n % 1=0:=Nat.mod_one n
 simp[h1]
theorem qN:Ieee.double.leastPlace=-1074:=by decide
end Go.Proofs.YtcklaogdjpbagaaGreatDoor.M
namespace Go.Proofs.YtcklaogdjpbagaaGreatDoor
open Go Go.Proofs.Tryz Go.RowKit Go.Proofs.YtcklaogdjpbagaaGreatDoor.M Ieee
def om (t D:Nat):Int:=if t=0 then 0 else if 2*t<D then 1 else if 2*t=D then 2 else 3
theorem qO {mag u t D:Nat} {q:Int} (hq:0<q) (hm:mag=u*D+t) (ht:t<D):M.kj ((mag:Int)*q) u ((D:Int)*q) (om t D):=by
 have e:(mag:Int)*q=(u:Int)*((D:Int)*q)+(t:Int)*q:=by
  rw[hm];push_cast;rw[Int.add_mul,Int.mul_assoc]
 have k1:∀ a b:Nat,a<b->(a:Int)*q<(b:Int)*q:=fun a b h=>Int.mul_lt_mul_of_pos_right (by omega) hq
 have t0:0<=(t:Int)*q:=Int.mul_nonneg (by omega) (Int.le_of_lt hq)
 have t1:=k1 t D ht
 have e2:((2*t:Nat):Int)*q=2*((t:Int)*q):=by push_cast;rw[Int.mul_assoc]
 have z1:2*t<D->2*((t:Int)*q)<(D:Int)*q:=fun h=>by rw[<- e2];exact k1 _ _ h
 have z2:2*t=D->2*((t:Int)*q)=(D:Int)*q:=fun h=>by rw[<- e2,h]
 have z3:D<2*t->(D:Int)*q<2*((t:Int)*q):=fun h=>by rw[<- e2];exact k1 _ _ h
 have z4:0<t->0<(t:Int)*q:=fun h=>Int.mul_pos (by omega) hq
 have z5:t=0->(t:Int)*q=0:=fun h=>by rw[h];simp
 obtain⟨U,hU⟩:∃ U,(u:Int)*((D:Int)*q)=U:=⟨_,rfl⟩
 rw[e,hU]
 generalize (t:Int)*q=T at *
 generalize (D:Int)*q=R at *
 unfold om
 by_cases c0:t=0
 ·rw[if_pos c0]
  have:=z5 c0
  exact M.kj.mk' hU (by omega) (by omega) (by constructor<;>intro h<;>omega) (by constructor<;>intro h<;>omega) (by constructor<;>intro h<;>omega) (by constructor<;>intro h<;>omega)
 ·have:=z4 (by omega)
  rw[if_neg c0]
  by_cases c1:2*t<D
  ·rw[if_pos c1]
   have:=z1 c1
   exact M.kj.mk' hU (by omega) (by omega) (by constructor<;>intro h<;>omega) (by constructor<;>intro h<;>omega) (by constructor<;>intro h<;>omega) (by constructor<;>intro h<;>omega)
  ·rw[if_neg c1]
   by_cases c2:2*t=D
   ·rw[if_pos c2]
    have:=z2 c2
    exact M.kj.mk' hU (by omega) (by omega) (by constructor<;>intro h<;>omega) (by constructor<;>intro h<;>omega) (by constructor<;>intro h<;>omega) (by constructor<;>intro h<;>omega)
   ·rw[if_neg c2]
    have:=z3 (by omega)
    exact M.kj.mk' hU (by omega) (by omega) (by constructor<;>intro h<;>omega) (by constructor<;>intro h<;>omega) (by constructor<;>intro h<;>omega) (by constructor<;>intro h<;>omega)
theorem Bm (neg odd:Bool) (t D:Nat) (ht:t<D):cI 0 neg odd (om t D)=(decide (D<2*t)||(decide (D=2*t)&&odd)):=by
 unfold cI om
 rw[if_pos rfl]
 by_cases c0:t=0
 ·rw[if_pos c0,decide_eq_false (p:=D<2*t) (by omega),decide_eq_false (p:=D=2*t) (by omega)]
  simp
 ·rw[if_neg c0]
  by_cases c1:2*t<D
  ·rw[if_pos c1,decide_eq_false (p:=D<2*t) (by omega),decide_eq_false (p:=D=2*t) (by omega)]
   simp
  ·rw[if_neg c1]
   by_cases c2:2*t=D
   ·rw[if_pos c2,decide_eq_false (p:=D<2*t) (by omega),decide_eq_true (p:=D=2*t) (by omega)]
    simp
   ·rw[if_neg c2,decide_eq_true (p:=D<2*t) (by omega)]
    simp
theorem yd (neg:Bool) (n d:Nat) (hn:n≠0):Toward.even.cut neg n d=n/2^d+(if cI 0 neg (decide (n/2^d % 2=1)) (om (n % 2^d) (2^d)) then 1 else 0):=by
 have h2:n<2^(n.log2+1):=Nat.lt_log2_self
 have hD:=Nat.two_pow_pos d
 rw[Bm _ _ _ _ (Nat.mod_lt _ hD)]
 unfold Toward.cut
 dsimp only
 by_cases h:d<=n.log2+2
 ·rw[Nat.min_eq_left h,Nat.shiftLeft_eq,Nat.one_mul]
  congr 1
  have e1:(2^d == 2*(n % 2^d))=decide (2^d=2*(n % 2^d)):=rfl
  have e2:(n/2^d % 2 == 1)=decide (n/2^d % 2=1):=rfl
  rw[e1,e2]
  cases (decide (2^d<2*(n % 2^d))||decide (2^d=2*(n % 2^d))&&decide (n/2^d % 2=1))<;>rfl
 ·rw[Nat.min_eq_right (by omega),Nat.shiftLeft_eq,Nat.one_mul]
  have h3:2^(n.log2+2)=2*2^(n.log2+1):=by rw[Nat.pow_succ,Nat.mul_comm]
  have h4:2^(n.log2+2)<=2^d:=Nat.pow_le_pow_right (by decide) (by omega)
  have q1:n/2^(n.log2+2)=0:=Nat.div_eq_of_lt (by omega)
  have q2:n % 2^(n.log2+2)=n:=Nat.mod_eq_of_lt (by omega)
  have q3:n/2^d=0:=Nat.div_eq_of_lt (by omega)
  have q4:n % 2^d=n:=Nat.mod_eq_of_lt (by omega)
  rw[q1,q2,q3,q4,decide_eq_false (p:=2^d<2*n) (by omega),decide_eq_false (p:=2^d=2*n) (by omega),decide_eq_false (p:=2^(n.log2+2)<2*n) (by omega)]
  have e1:(2^(n.log2+2) == 2*n)=decide (2^(n.log2+2)=2*n):=rfl
  rw[e1,decide_eq_false (p:=2^(n.log2+2)=2*n) (by omega)]
  rfl
theorem qN:Ieee.double.leastPlace=-1074:=by decide
theorem Co:Ieee.double.fractionBits=52:=by decide
theorem lx:Ieee.double.binade=4503599627370496:=by decide
def kz (mag:Nat) (place:Int):Int:=max (place+(mag.log2:Int)-52) (-1074)
theorem qP (neg:Bool) {mag:Nat} (place:Int) (h:mag≠0):Ieee.double.nearest neg mag place=Ieee.double.word neg (min ((kz mag place+1074).toNat*4503599627370496+Toward.even.cut neg (mag*2^(place-kz mag place).toNat) (kz mag place-place).toNat) 9218868437227405312):=by
 unfold Format.nearest
 rw[if_neg h,qN,Co,lx,kh]
 dsimp only
 rw[Nat.shiftLeft_eq,show(kz mag place+1074)=(kz mag place - -1074) by omega]
 rfl
theorem Bn {r:Nat} {up:Bool} {neg:Bool} {left:Int} (hup:cI 0 neg (decide (r % 2=1)) left=up):((min (r+(if up=true then 1 else 0)) 9218868437227405312:Nat):Int)=bT 0 neg r left:=by
 unfold bT
 rw[hup]
 by_cases h:(r:Int)<9218868437227405312
 ·rw[if_pos h]
  cases up
  ·simp only[Bool.false_eq_true,if_false];omega
  ·simp only[if_true];omega
 ·rw[if_neg h]
  have hb:fC 0 neg=9218868437227405312:=by cases neg<;>rfl
  rw[hb]
  split<;>omega
theorem yf (a u:Nat):decide ((a*4503599627370496+u) % 2=1)=decide (u % 2=1):=by congr 1;apply propext;omega
theorem ly (neg:Bool) {mag:Nat} {place:Int} (h:mag≠0) (hp:-4194304<=place) :
  ∃ (r0:Nat) (left:Int),ei ((mag:Int)*pw place) r0 left∧Ieee.double.nearest neg mag place=Ieee.double.word neg (bT 0 neg r0 left).toNat:=by
 rw[qP neg place h]
 have h1:=Nat.log2_self_le h
 have h2:mag<2^(mag.log2+1):=Nat.lt_log2_self
 have hL:kz mag place=max (place+(mag.log2:Int)-52) (-1074):=rfl
 obtain⟨l,hl⟩:∃ l,kz mag place=l:=⟨_,rfl⟩
 rw[hl] at hL ⊢
 have hl0:-1074<=l:=by omega
 have hl1:place+(mag.log2:Int)-52<=l:=by omega
 have hl2:-1074<l->l=place+(mag.log2:Int)-52:=by omega
 obtain⟨a,ha⟩:∃ a:Nat,(l+1074).toNat=a:=⟨_,rfl⟩
 have hal:l=-1074+(a:Int):=by omega
 have e52:(2:Nat)^52=4503599627370496:=by decide
 have e53:(2:Nat)^53=9007199254740992:=by decide
 rw[ha]
 -- u units of 2^l and what is left
 have main:∃ (u:Nat) (left:Int),M.kj ((mag:Int)*pw place) u (pw l) left∧Toward.even.cut neg (mag*2^(place-l).toNat) (l-place).toNat=u+(if cI 0 neg (decide (u % 2=1)) left then 1 else 0)∧u<9007199254740992∧(0<a->4503599627370496<=u):=by
  by_cases hs:l<=place
  ·obtain⟨k,hk⟩:∃ k:Nat,(place-l).toNat=k:=⟨_,rfl⟩
   have hpl:place=l+(k:Int):=by omega
   rw[hk,show(l-place).toNat=0 by omega,yb]
   refine⟨mag*2^k,0,?_,?_,?_,?_⟩
   ·have e:(mag:Int)*pw place=((mag*2^k:Nat):Int)*pw l:=by
     rw[hpl,ew (by omega),Int.mul_comm (pw l)]
     push_cast
     rw[Int.mul_assoc]
    have:=qO (mag:=mag*2^k) (u:=mag*2^k) (t:=0) (D:=1) (ct l) (by omega) (by decide)
    rw[e]
    have e1:((1:Nat):Int)*pw l=pw l:=by rw[Int.natCast_one,Int.one_mul]
    rw[e1] at this
    exact this
   ·have:cI 0 neg (decide (mag*2^k % 2=1)) 0=false:=by
     cases hu:cI 0 neg (decide (mag*2^k % 2=1)) 0
     ·rfl
     ·exact(gY hu).elim
    rw[this]
    rfl
   ·have b1:mag*2^k<2^(mag.log2+1)*2^k:=Nat.mul_lt_mul_of_pos_right h2 (Nat.two_pow_pos _)
    rw[<- Nat.pow_add] at b1
    have b2:2^(mag.log2+1+k)<=2^53:=Nat.pow_le_pow_right (by decide) (by omega)
    omega
   ·intro h0
    have b1:2^mag.log2*2^k<=mag*2^k:=Nat.mul_le_mul_right _ h1
    rw[<- Nat.pow_add] at b1
    have b2:2^52<=2^(mag.log2+k):=Nat.pow_le_pow_right (by decide) (by have:=hl2 (by omega);omega)
    omega
  ·obtain⟨k,hk⟩:∃ k:Nat,(l-place).toNat=k:=⟨_,rfl⟩
   have hpl:l=place+(k:Int):=by omega
   rw[hk,show(place-l).toNat=0 by omega,Nat.pow_zero,Nat.mul_one,yd neg mag k h]
   have hD:=Nat.two_pow_pos k
   have hdm:=Nat.div_add_mod mag (2^k)
   have hml:=Nat.mod_lt mag hD
   refine⟨mag/2^k,om (mag % 2^k) (2^k),?_,rfl,?_,?_⟩
   ·have:=qO (mag:=mag) (u:=mag/2^k) (t:=mag % 2^k) (D:=2^k) (ct place) (by rw[Nat.mul_comm];exact hdm.symm) hml
    have e:pw l=((2^k:Nat):Int)*pw place:=by
     rw[hpl,ew hp,Int.mul_comm]
     push_cast
     rfl
    rw[e]
    exact this
   ·rw[Nat.div_lt_iff_lt_mul hD,<- e53,<- Nat.pow_add]
    exact Nat.lt_of_lt_of_le h2 (Nat.pow_le_pow_right (by decide) (by omega))
   ·intro h0
    rw[Nat.le_div_iff_mul_le hD,<- e52,<- Nat.pow_add]
    exact Nat.le_trans (Nat.pow_le_pow_right (by decide) (by have:=hl2 (by omega);omega)) h1
 obtain⟨u,left,hLeft,hcut,hu1,hu2⟩:=main
 rw[hcut]
 have hV:=lh Ieee.double a u (by rw[lx];omega) (fun q=>by rw[lx];exact hu2 q)
 rw[lx] at hV
 have hpw:pw l=2^a*pw (-1074):=by rw[hal,ew (by decide),Int.mul_comm]
 rw[hpw] at hLeft
 refine⟨a*4503599627370496+u,left,lr hLeft hV.1 hV.2,?_⟩
 have hm:=Bn (r:=a*4503599627370496+u) (neg:=neg) (left:=left) rfl
 rw[yf] at hm
 rw[<- hm,Int.toNat_natCast,Nat.add_assoc]
end Go.Proofs.YtcklaogdjpbagaaGreatDoor
namespace Go.Proofs.YtcklaogdjpbagaaGreatDoor
open Go Go.Proofs.Tryz Go.RowKit Go.Proofs.YtcklaogdjpbagaaGreatDoor.M
theorem jS {b:Int} (h:aF b=true):Bd 4000 (am b):=by
 obtain⟨i0,i1,i2,i3⟩:=gm h
 have h30:(9007199254740992:Int)<=P 30:=by unfold P;decide
 exact Bi i0 (Int.lt_of_lt_of_le (by omega) h30) (by omega) (by omega)
theorem Bd.sub {B:Nat} {V W:Int} (h:Bd B V) (k:Bd B W) (hB:B<4194304):Bd (B+1) (V-W):=by
 rw[Int.sub_eq_add_neg]
 exact h.add k.neg hB
theorem zg {b:Int} {w:World} (h:aF b=true) (H:bR w):Calls prog 78 #[.int .i64 b] w fun r w'=>∃ v,r=.returned (.tuple #[v,.int .i64 0])∧aW w w' (am b) v:=by
 refine(zX b w H.lay H.tab).mono ?_
 rintro _ w' ⟨v,er,rfl,hb,(⟨_,rfl,hD⟩|⟨h',_⟩)⟩
 ·exact⟨v,rfl,hD⟩
 ·rw[h] at h';cases h'
theorem Bo {b:Int} (hb:ax b) (h:aR b≠4):rg (neg b)=rg b∧bl (neg b)=-bl b:=by
 unfold ax at hb
 unfold neg
 rw[if_neg h]
 unfold rg bl
 by_cases h0:b<0
 ·rw[if_pos h0,if_neg (by omega),if_pos h0,if_neg (by omega),if_pos h0];omega
 ·rw[if_neg h0,if_pos (by omega),if_neg h0,if_pos (by omega),if_neg h0];omega
theorem Ah {b:Int} (hb:ax b) (h:aR b≠4):aR (neg b)≠4:=by
 intro q
 have h1:=(ek (dD hb)).1.1 q
 rw[(Bo hb h).1] at h1
 exact h ((ek hb).1.2 h1)
theorem yh {way:Int} {ng odd:Bool} {A B a b l k:Int} (h0:l=0↔A=a) (h2:l=2↔2*A=a+b) (h3:l=3↔a+b<2*A) (g0:k=0↔B=a) (g2:k=2↔2*B=a+b) (g3:k=3↔a+b<2*B) (lo:a<=A) (AB:A<=B)
  (h:cI way ng odd l=true):cI way ng odd k=true:=by
 have nz:l≠0->k≠0:=fun q e=>by
  have e1:=g0.1 e
  exact q (h0.2 (by omega))
 unfold cI at *
 split at h
 ·rename_i e
  rw[if_pos e]
  simp only[Bool.or_eq_true,Bool.and_eq_true,decide_eq_true_eq] at *
  rcases h with h|⟨h,ho⟩
  ·left;exact g3.2 (by have:=h3.1 h;omega)
  ·have e2:=h2.1 h
   by_cases e3:2*B=a+b
   ·right;exact⟨g2.2 e3,ho⟩
   ·left;exact g3.2 (by omega)
 ·rename_i e
  rw[if_neg e]
  split at h
  ·rename_i e2
   rw[if_pos e2]
   simp only[Bool.and_eq_true,decide_eq_true_eq] at *
   exact⟨nz h.1,h.2⟩
  ·rename_i e2
   rw[if_neg e2]
   split at h
   ·rename_i e3
    rw[if_pos e3]
    simp only[Bool.and_eq_true,decide_eq_true_eq] at *
    exact⟨nz h.1,h.2⟩
   ·cases h
theorem Ai {A B:Int} {r s:Nat} {l k:Int} (h:ei A r l) (g:ei B s k) (AB:A<=B):r<=s:=by
 rcases Nat.lt_or_ge s r with q|q
 ·exfalso
  have h1:=h.lo
  have g1:=g.hi
  have e:vS (s+1)<=vS r:=by
   rcases Nat.lt_or_eq_of_le (show s+1<=r from q) with q2|q2
   ·exact Int.le_of_lt (lU q2)
   ·rw[q2];exact Int.le_refl _
  exact absurd (Int.lt_of_lt_of_le g1 (Int.le_trans e (Int.le_trans h1 AB))) (Int.lt_irrefl _)
 ·exact q
theorem yi {way:Int} {ng:Bool} {A B:Int} {r s:Nat} {l k:Int} (h:ei A r l) (g:ei B s k) (AB:A<=B):bT way ng r l<=bT way ng s k:=by
 have hrs:=Ai h g AB
 rcases Nat.lt_or_eq_of_le hrs with q|q
 ·clear h g
  unfold bT
  by_cases hs:(s:Int)<9218868437227405312
  ·rw[if_pos hs,if_pos (by omega)]
   split<;>split<;>omega
  ·rw[if_neg hs]
   by_cases hr:(r:Int)<9218868437227405312
   ·rw[if_pos hr]
    unfold fC
    cases hu:cI way ng (decide (r % 2=1)) l
    ·simp only[Bool.false_eq_true,if_false]
     split<;>omega
    ·rw[if_pos rfl,if_pos (mG hu)]
     omega
   ·rw[if_neg hr]
    exact Int.le_refl _
 ·subst q
  have lo:=h.lo
  have h0:=h.l0
  have h2:=h.l2
  have h3:=h.l3
  have g0:=g.l0
  have g2:=g.l2
  have g3:=g.l3
  have hm:=fun odd=>@yh way ng odd A B (vS r) (vS (r+1)) l k h0 h2 h3 g0 g2 g3 lo AB
  clear h g lo h0 h2 h3 g0 g2 g3
  unfold bT
  by_cases hr:(r:Int)<9218868437227405312
  ·rw[if_pos hr,if_pos hr]
   cases hu:cI way ng (decide (r % 2=1)) l
   ·simp only[Bool.false_eq_true,if_false]
    split<;>omega
   ·rw[hm _ hu]
    exact Int.le_refl _
  ·rw[if_neg hr,if_neg hr]
   exact Int.le_refl _
theorem wi (r:Nat):0<=vS r:=by
 rcases Nat.eq_zero_or_pos r with h|h
 ·subst h;rw[fT];exact Int.le_refl _
 ·have:=lU h
  rw[fT] at this
  exact Int.le_of_lt this
theorem Aj:bL (-9223372036854775808)=0:=by decide
theorem qQ {r:Nat} (h:(r:Int)<9218868437227405312):am (aP true (r:Int))=sg true (vS r):=by
 by_cases h0:r=0
 ·subst h0
  rw[fT]
  show am (-9223372036854775808)=sg true 0
  unfold am
  rw[Aj,ed,ed,Int.zero_mul]
 ·exact gu h (fun _=>by omega)
theorem Ak {b:Int} (hb:ax b) (hp:aF b=true):∃ (ng:Bool) (r:Nat),(r:Int)=rg b∧(r:Int)<9218868437227405312∧am b=sg ng (vS r):=by
 obtain⟨r0,r1⟩:=fh hb
 have hlt:rg b<9218868437227405312:=by
  have hne:=qu hp
  have hf:0<=cx b∧cx b<4503599627370496:=by unfold cx;omega
  have hg:0<=bZ b∧bZ b<2048:=by unfold bZ;omega
  omega
 obtain⟨r,hr⟩:∃ r:Nat,(r:Int)=rg b:=⟨(rg b).toNat,Int.toNat_of_nonneg r0⟩
 have hs:b=aP (decide (b<0)) (r:Int):=by
  rw[hr]
  unfold aP rg
  by_cases h:b<0
  ·rw[decide_eq_true h,if_pos rfl,if_pos h];omega
  ·rw[decide_eq_false h,if_neg (by decide),if_neg h]
 refine⟨decide (b<0),r,hr,by rw[hr];exact hlt,?_⟩
 rw[<- hr] at hlt
 cases hd:decide (b<0)
 ·rw[hd] at hs
  rw[hs]
  exact gu hlt (fun h=>by cases h)
 ·rw[hd] at hs
  rw[hs]
  exact qQ hlt
end Go.Proofs.YtcklaogdjpbagaaGreatDoor
namespace Go.Proofs.YtcklaogdjpbagaaGreatDoor
open Go Go.Proofs.Tryz Go.RowKit Go.Proofs.YtcklaogdjpbagaaGreatDoor.M Ieee
theorem iP {ng:Bool} {r:Int} (h0:0<=r) (h1:r<=9218868437227405312):Ieee.double.word ng r.toNat=wd (aP ng r):=by
 unfold Format.word wd aP
 rw[fP]
 cases ng
 ·rw[if_neg (by decide),if_neg (by decide)];omega
 ·rw[if_pos rfl,if_pos rfl];omega
theorem ur {b:Int} (hb:ax b) (hp:aF b=true):0<=rg b∧rg b<9218868437227405312:=by
 obtain⟨_,r,hr,hlt,_⟩:=Ak hb hp
 omega
theorem mI {b:Int} (hb:ax b) (hp:aF b=true):am b=sg (decide (b<0)) (vS (rg b).toNat):=by
 obtain⟨h0,h1⟩:=ur hb hp
 obtain⟨r,hr⟩:∃ r:Nat,(r:Int)=rg b:=⟨(rg b).toNat,Int.toNat_of_nonneg h0⟩
 have hs:b=aP (decide (b<0)) (r:Int):=by
  rw[hr]
  unfold aP rg
  by_cases h:b<0
  ·rw[decide_eq_true h,if_pos rfl,if_pos h];omega
  ·rw[decide_eq_false h,if_neg (by decide),if_neg h]
 rw[<- hr] at h1 ⊢
 rw[Int.toNat_natCast]
 cases hd:decide (b<0)
 ·rw[hd] at hs
  rw[hs]
  exact gu h1 (fun h=>by cases h)
 ·rw[hd] at hs
  rw[hs]
  exact qQ h1
theorem gx {b:Int} (hb:ax b) (hp:aF b=true):∃ m u:Nat,Ieee.double.read (wd b)=.number (decide (b<0)) m (-1074+(u:Int))∧am b=sg (decide (b<0)) ((m:Int)*pw (-1074+(u:Int))):=by
 obtain⟨h0,h1⟩:=ur hb hp
 have hw:((wd b % 9223372036854775808:Nat):Int)=rg b:=lO hb
 have hw2:wd b % 9223372036854775808=(rg b).toNat:=by omega
 obtain⟨m,u,h,hm⟩:=ga Ieee.double (wd b) (by rw[fP,kh];omega)
 rw[fP,qN,kZ hb] at h
 rw[fP,hw2] at hm
 refine⟨m,u,h,?_⟩
 have e:vS (rg b).toNat=(m:Int)*pw (-1074+(u:Int)):=by
  unfold vS
  rw[<- hm,ew (by decide),Int.mul_comm (pw (-1074))]
  generalize pw (-1074)=q
  push_cast
  rw[Int.mul_assoc]
 rw[mI hb hp,e]
theorem oX (s:Bool) (m k:Nat) {i base:Int} (h:i=base+(k:Int)) (hb:-4194304<=base):signed s m k*pw base=sg s ((m:Int)*pw i):=by
 rw[mr,h,ew hb,Int.mul_comm (pw base),<- Int.mul_assoc]
 have e:((m*2^k:Nat):Int)=(m:Int)*2^k:=by push_cast;rfl
 rw[e]
 generalize (m:Int)*2^k=t
 unfold sg
 cases s
 ·rfl
 ·show -t*pw base=-(t*pw base)
  rw[Int.neg_mul]
theorem oY {t q:Int} (hq:0<q):t*q=sg (decide (t<0)) ((t.natAbs:Int)*q):=by
 by_cases h:t<0
 ·rw[decide_eq_true h]
  show t*q=-((t.natAbs:Int)*q)
  rw[<- Int.neg_mul,show -(t.natAbs:Int)=t by omega]
 ·rw[decide_eq_false h]
  show t*q=(t.natAbs:Int)*q
  rw[show(t.natAbs:Int)=t by omega]
theorem mi {t q:Int} (hq:0<q):t<0↔t*q<0:=by
 constructor
 ·exact fun h=>Int.mul_neg_of_neg_of_pos h hq
 ·intro h
  rcases Int.lt_or_le t 0 with g|g
  ·exact g
  ·exact absurd h (Int.not_lt.2 (Int.mul_nonneg g (Int.le_of_lt hq)))
theorem mj {t q:Int} (hq:0<q):t=0↔t*q=0:=by
 constructor
 ·intro h;rw[h,Int.zero_mul]
 ·intro h
  rcases Int.mul_eq_zero.1 h with g|g
  ·exact g
  ·omega
theorem nA {S t base:Int} (hb:-4194304<=base) (hS:t*pw base=S) (h0:S≠0) :
  ∃ (A:Int) (r0:Nat) (left:Int),S=sg (decide (S<0)) A∧ei A r0 left∧Ieee.double.nearest (decide (t<0)) t.natAbs base=wd (aP (decide (S<0)) (bT 0 (decide (S<0)) r0 left)):=by
 have hq:=ct base
 have ht:t≠0:=fun h=>h0 (by rw[<- hS,h,Int.zero_mul])
 have hd:decide (t<0)=decide (S<0):=by rw[<- hS];congr 1;exact propext (mi hq)
 obtain⟨r0,left,hR,hE⟩:=ly (decide (t<0)) (mag:=t.natAbs) (place:=base) (by omega) hb
 refine⟨_,r0,left,?_,hR,?_⟩
 ·rw[<- hd,<- hS];exact oY hq
 ·rw[hE,hd]
  obtain⟨g1,g2⟩:=fe 0 (decide (S<0)) r0 left
  exact iP g1 g2
theorem DA {a b:Int} (ha:ax a) (hb:ax b) (pa:aF a=true) (pb:aF b=true) :
  (am a+am b=0->Ieee.double.add (wd a) (wd b)=some (wd (aP (decide (a<0)&&decide (b<0)) 0))) ∧
  (am a+am b≠0->∃ (A:Int) (r0:Nat) (left:Int),am a+am b=sg (decide (am a+am b<0)) A∧ei A r0 left∧Ieee.double.add (wd a) (wd b)=some (wd (aP (decide (am a+am b<0)) (bT 0 (decide (am a+am b<0)) r0 left)))):=by
 obtain⟨m,u,h1,v1⟩:=gx ha pa
 obtain⟨n,v,h2,v2⟩:=gx hb pb
 have hadd:Ieee.double.add (wd a) (wd b)=some (Ieee.double.nearest (if signed (decide (a<0)) m (u-min u v)+signed (decide (b<0)) n (v-min u v)=0 then decide (a<0)&&decide (b<0) else decide (signed (decide (a<0)) m (u-min u v)+signed (decide (b<0)) n (v-min u v)<0)) (signed (decide (a<0)) m (u-min u v)+signed (decide (b<0)) n (v-min u v)).natAbs (-1074+((min u v:Nat):Int))):=by
  unfold Format.add
  rw[h1,h2]
  unfold Datum.sum
  dsimp only
  have hmin:min (-1074+(u:Int)) (-1074+(v:Int))=-1074+((min u v:Nat):Int):=by omega
  have e1:(-1074+(u:Int)-(-1074+((min u v:Nat):Int))).toNat=u-min u v:=by omega
  have e2:(-1074+(v:Int)-(-1074+((min u v:Nat):Int))).toNat=v-min u v:=by omega
  rw[hmin,e1,e2]
  rfl
 have s1:=oX (decide (a<0)) m (u-min u v) (i:=-1074+(u:Int)) (base:=-1074+((min u v:Nat):Int)) (by omega) (by omega)
 have s2:=oX (decide (b<0)) n (v-min u v) (i:=-1074+(v:Int)) (base:=-1074+((min u v:Nat):Int)) (by omega) (by omega)
 rw[<- v1] at s1
 rw[<- v2] at s2
 have hB:-4194304 <= -1074+((min u v:Nat):Int):=by omega
 generalize -1074+((min u v:Nat):Int)=base at *
 have hq:=ct base
 have hS:(signed (decide (a<0)) m (u-min u v)+signed (decide (b<0)) n (v-min u v))*pw base=am a+am b:=by rw[Int.add_mul,s1,s2]
 generalize signed (decide (a<0)) m (u-min u v)+signed (decide (b<0)) n (v-min u v)=t at *
 clear s1 s2 v1 v2 h1 h2
 refine⟨fun h=>?_,fun h=>?_⟩
 ·have ht:t=0:=(mj hq).2 (hS.trans h)
  rw[hadd,ht,if_pos rfl]
  unfold Format.nearest
  rw[if_pos (show Int.natAbs 0=0 from rfl)]
  have:=iP (ng:=decide (a<0)&&decide (b<0)) (r:=0) (by decide) (by decide)
  rw[<- this]
  rfl
 ·have ht:t≠0:=fun e=>h (by rw[<- hS,e,Int.zero_mul])
  obtain⟨A,r0,left,q1,q2,q3⟩:=nA hB hS h
  refine⟨A,r0,left,q1,q2,?_⟩
  rw[hadd,if_neg ht,q3]
end Go.Proofs.YtcklaogdjpbagaaGreatDoor
