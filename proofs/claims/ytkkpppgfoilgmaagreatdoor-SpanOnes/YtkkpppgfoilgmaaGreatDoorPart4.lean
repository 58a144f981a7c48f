/- Parts of the proof. -/
import Derived.Test.YtkkpppgfoilgmaaGreatDoorPart3
import Derived.Test.YtkkpppgfoilgmaaGreatDoorPart1
import Derived.Deep.Cut
import Derived.BigRegion
import Derived.Lib.SliceRun
import Derived.Deep.OwnRows
import Derived.Deep.RegionWith
import Derived.Deep.CutRange
import Derived.Laws.CopyOwn
import Derived.WalkMore
import Derived.ScopeJumps
import Derived.Lib.BitFns
import Derived.Lib.TrailingZeros
import Derived.Laws.Bits64b
set_option maxRecDepth 100000
set_option maxHeartbeats 8000000
set_option linter.unusedVariables false
set_option linter.unusedSimpArgs false
namespace Go.Proofs.YtkkpppgfoilgmaaGreatDoor
open Go Go.Proofs.Tryz Go.RowKit Go.Proofs.YtkkpppgfoilgmaaGreatDoor.M
theorem vW (ao:Option Addr) (n ca q p:Nat) (a:Nat->Int) (w:World) (ha:aG w ao n ca a) (da:aO a n) (hn:n<=100000) (hq:q<=100000) (hp:p<30) (k:Int) (hk:k=30*q+p) :
  Calls prog 133 #[.slice ao n ca,.int .i64 k] w fun e w'=>∃ v,e=.returned v∧bO w w' (P q*(2^p*val a n)) v:=by
 have hla:=ha.le
 have hma:=ha.max
 have e1:k/30=q:=by omega
 have e2:k % 30=p:=by omega
 have hk0:0<=k:=by omega
 have HK:Hid (k=30*q+p):=hk
 clear hk
 go_enter func133,ntmps133
 go_wp2_with (at_make;refine gX rfl _ _ rfl _ _ (q+n+1) rfl rfl (by omega) (by omega) (by omega) ?_;intro w1 hB1 hb1)
 refine(yl w.heap.size (q+n+1) (fun _=>0) ao n ca q p a w1 hB1 ((iQ.of ha (Nat.le_refl _)).keeps (BH hb1)) da hn (Nat.le_refl _) (by omega) hp k HK.out 1 (.inl rfl) 0 (fun _ _=>⟨by omega,by omega⟩) (by omega)).mono ?_
 rintro e w2 ⟨rfl,r,hB2,hW2,hP⟩
 have hb2:Below w.heap.size w w2:=hW2.below hb1 hb1.size (Nat.le_refl _)
 go_wp2_with fail
 refine(gD _ _ _ _ _ (hB2.row0 (Nat.le_refl _) (by omega))).mono ?_
 rintro e w3 ⟨t,ht,htop,hz,rfl,rfl⟩
 go_wp2
 go_ret
 have D2:aO r (q+n+1):=fun i hi=>by have:=hP.near i;omega
 obtain⟨hN,hv⟩:=ed D2 ht htop hz
 refine⟨_,rfl,t,r,hB2.cut (Nat.le_refl _) ht (by omega),hN,?_,hb2⟩
 rw[hv,hP.sum,cB (Nat.zero_le _) (fun _ _ _=>rfl)]
 show 0+1*_=_
 omega
theorem ud (ao:Option Addr) (n ca k:Nat) (a:Nat->Int) (w:World) (ha:aG w ao n ca a) (da:aO a n) (hn:n<=100000) (hk:k<=1000000) :
  Calls prog 133 #[.slice ao n ca,.int .i64 k] w fun e w'=>∃ v,e=.returned v∧bO w w' (val a n*2^k) v:=by
 refine(vW ao n ca (k/30) (k % 30) a w ha da hn (by omega) (by omega) k (by omega)).mono ?_
 rintro e w' ⟨v,he,h⟩
 refine⟨v,he,?_⟩
 rw[i5 k]
 rwa [show val a n*(P (k/30)*2^(k % 30))=P (k/30)*(2^(k % 30)*val a n) by grind]
theorem ma {x y:Int} {p:Nat} (hx:0<=x∧x<1073741824) (hy:0<=y∧y<1073741824) (hp:p<30) :
  0<=x/2^p∧x/2^p<2^(30-p)∧y*2^(30-p) % 1073741824=y % 2^p*2^(30-p)∧0<=y % 2^p∧y % 2^p*2^(30-p)<1073741824:=by
 have hu:=aF p
 have hv:=aF (30-p)
 have huv:(2:Int)^p*2^(30-p)=1073741824:=by rw[<- Int.pow_add,show p+(30-p)=30 by omega];rfl
 have m0:=Int.emod_nonneg y (show(2:Int)^p≠0 by omega)
 have m1:=Int.emod_lt_of_pos y hu
 refine⟨Int.ediv_nonneg hx.1 (by omega),(Int.ediv_lt_iff_lt_mul hu).2 (by rw[Int.mul_comm,huv];exact hx.2),?_,m0,?_⟩
 ·rw[<- huv,Int.mul_comm y,Int.mul_comm (2^p:Int),Int.mul_emod_mul_of_pos _ _ hv,Int.mul_comm]
 ·have h1:(y % 2^p+1)*2^(30-p)<=2^p*2^(30-p):=Int.mul_le_mul_of_nonneg_right (by omega) (by omega)
  rw[huv,Int.add_mul] at h1
  omega
theorem pE {s:Nat->Int} {u v:Int} {k:Nat} (h:s (k+1)=0):low s u v k=s k/u:=by
 unfold low;rw[h,Int.zero_emod,Int.zero_mul,Int.add_zero]
theorem vX (ao:Option Addr) (n ca q p:Nat) (a:Nat->Int) (w:World) (ha:aG w ao n ca a) (da:aO a n) (hn:n<=100000) (hp:p<30) (k:Int) (hk:k=30*q+p) (hkm:k<9223372036854775808) :
    Calls prog 134 #[.slice ao n ca,.int .i64 k] w fun e w'=>∃ v,e=.returned v∧bO w w' (val a n/P q/2^p) v:=by
  have hla:=ha.le
  have hma:=ha.max
  have e1:k/30=q:=by omega
  have e2:k % 30=p:=by omega
  have hk0:0<=k:=by omega
  have hqm:(q:Int)<9223372036854775808:=by omega
  clear hk
  have hu:=aF p
  have huv:(2:Int)^p*2^(30-p)=1073741824:=by rw[<- Int.pow_add,show p+(30-p)=30 by omega];rfl
  have HU:Hid ((2:Int)^p*2^(30-p)=1073741824):=huv
  clear huv
  by_cases hqn:n<=q
  · have h0:val a n/P q/2^p=0:=by
      rw[Int.ediv_eq_zero_of_lt (aJ da) (by have:=bz da;have:=fJ hqn;omega)];exact Int.zero_ediv _
    have H0:Hid (val a n/P q/2^p=0):=h0
    clear h0
    go_enter func134,ntmps134
    go_wp2
    go_ret
    exact⟨_,rfl,by rw[H0.out];exact bO.nil (aq _)⟩
  · obtain⟨ba,fa,rfl,hba,hca⟩:=ha.spot (by omega)
    have sp:(((30:Int)-p).toNat)=30-p:=by omega
    obtain⟨N,hN⟩:∃ N,n=q+N:=⟨n-q,by omega⟩
    have HN:Hid (n=q+N):=hN
    have hn1:q+N<=n:=by omega
    have hn2:n<=q+N:=by omega
    have hN0:0<N:=by omega
    have hq1:q<=100000:=by omega
    have hk1:k<=4000000:=by omega
    clear hN hqn hqm hkm
    go_enter func134,ntmps134
    go_wp2_with (at_make;refine gX rfl _ _ rfl _ _ N rfl rfl (by omega) (by omega) (by omega) ?_;intro w1 hB1 hb1)
    go_loopw [24] (fun i wr=>∃ (k:Nat) (r:Nat->Int),k<=N∧i=.int .i64 k∧bw wr w.heap.size N r∧Hid (∀ i,i<k->r i=low (fun j=>aY a n (q+j)) (2^p) (2^(30-p)) i)∧Below w.heap.size w wr) (fun i _=>N-(intOf i).toNat)
    case atStart=>exact⟨0,fun _=>0,Nat.zero_le _,rfl,hB1,fun i hi=>by omega,hb1⟩
    case round=>
      obtain⟨k,r,hk,rfl,hB,HV,hbw⟩:=hrel
      by_cases hlt:k<N
      · have c1:=(hbw.cell (p:=⟨ba,fa+(q+k),none⟩) hba).trans (hca (q+k) (by omega))
        have cg:=hB.cell hlt
        have fg:=hB.frozen k
        have hB2:=hB.store k (a (q+k)/2^p)
        by_cases hl2:q+k+1<n
        · have dx:=da (q+k) (by omega)
          have dy:=da (q+k+1) (by omega)
          obtain⟨s0,s1,s2,s3,s4⟩:=ma dx dy hp
          obtain⟨t0,t1,t2⟩:=nf dy (show 30-p<=30 by omega)
          have hw:wrap64 (a (q+k+1)*2^(30-p))=a (q+k+1)*2^(30-p):=IntWalk.wrap64_in _ ⟨by omega,by omega⟩
          have h30:bits .and .i64 (a (q+k+1)*2^(30-p)) 1073741823=a (q+k+1) % 2^p*2^(30-p):=(mu _).trans s2
          have hor:bits .or .i64 (a (q+k)/2^p) (a (q+k+1) % 2^p*2^(30-p))=a (q+k)/2^p+a (q+k+1) % 2^p*2^(30-p):=o9 _ _ _ s0 s1 s3 (by have:(2:Int)^(30-p)<=2^30:=cc (by omega);omega)
          have c2:=(hbw.cell (p:=⟨ba,fa+(q+k+1),none⟩) hba).trans (hca (q+k+1) (by omega))
          clear s2
          go_wp2
          go_region
          go_wp2
          go_roundw
          case rel=>exact ⟨k+1,bK (bK r k (a (q+k)/2^p)) k (a (q+k)/2^p+a (q+k+1) % 2^p*2^(30-p)),by omega,by go_num,(hB2.store k _).of_block rfl,fun i hi=>by
              by_cases e:i=k
              · rw[e,a6]
                show _=aY a n (q+k)/2^p+aY a n (q+(k+1)) % 2^p*2^(30-p)
                rw[cD a (by omega),cD a (by omega),Nat.add_assoc]
              · rw [aP _ _ e,aP r _ e]; exact HV.out i (by omega),((hbw.setCell (Nat.le_refl _) _).setCell (Nat.le_refl _) _).drew⟩
          case measure=>simp[intOf];omega
        · go_wp2
          go_roundw
          case rel=>exact ⟨k+1,bK r k (a (q+k)/2^p),by omega,by go_num,hB2,fun i hi=>by
              by_cases e:i=k
              · rw[e,a6,pE (s:=fun j=>aY a n (q+j)) (eL a (by omega)),cD a (by omega)]
              · rw [aP r _ e]; exact HV.out i (by omega),hbw.setCell (Nat.le_refl _) _⟩
          case measure=>simp[intOf];omega
      · obtain rfl:k=N:=by omega
        go_wp2_with (go_at_call 144;refine(gD _ _ _ _ _ (hB.row0 (Nat.le_refl _) (by omega))).mono ?_;rintro e w3 ⟨t,ht,htop,hz,rfl,rfl⟩)
        go_ret
        have DS:aO (fun j=>aY a n (q+j)) (k+1):=fun i hi=>ru da (q+k+1) (q+i) (by omega)
        have D2:aO r k:=(rx hu HU.out DS).congr fun i hi=>(HV.out i hi).symm
        obtain⟨hNr,hv⟩:=ed D2 ht htop hz
        refine⟨_,rfl,t,r,hB.cut (Nat.le_refl _) ht (by omega),hNr,?_,hbw⟩
        rw[hv,dr HV.out,tS (s:=fun j=>aY a n (q+j)) hu HU.out (eL a (by omega))]
        have e3:=lZ a (show q<=n by omega) da
        rw[<- e3,show n-q=k by omega]
        congr 1
        exact dr fun i hi=>cD a (by omega)
theorem nX (ao:Option Addr) (n ca k:Nat) (a:Nat->Int) (w:World) (ha:aG w ao n ca a) (da:aO a n) (hn:n<=100000) (hk:(k:Int)<9223372036854775808) :
  Calls prog 134 #[.slice ao n ca,.int .i64 k] w fun e w'=>∃ v,e=.returned v∧bO w w' (val a n/2^k) v:=by
 refine(vX ao n ca (k/30) (k % 30) a w ha da hn (by omega) k (by omega) hk).mono ?_
 rintro e w' ⟨v,he,h⟩
 refine⟨v,he,?_⟩
 rw[i5 k,<- Int.ediv_ediv_of_nonneg (Int.le_of_lt (bp _))]
 exact h
def fw (ng:Bool) (d:Nat->Int) (n:Nat) (e:Int):Bool:=decide ((n=0∧ng=false∧e=0)∨(0<n∧(n<=2000∧bt d n)∧d 0 % 2=1∧-1048576<=e∧e<=1048576))
theorem ym (x:Int):bits .and .i64 x 1=x % 2:=gc x 1 (by decide)
theorem iB (ng:Bool) (ao:Option Addr) (n cap:Nat) (d:Nat->Int) (e:Int) (w:World) (h:aG w ao n cap d) :
  Calls prog 89 #[.agg #[.bool ng,.slice ao n cap,.int .i64 e]] w fun r w'=>r=.returned (.bool (fw ng d n e))∧Below w.heap.size w w':=by
 have hl:=h.le
 have hm:=h.max
 by_cases h0:n=0
 ·subst h0
  have e0:fw ng d 0 e=(!ng&&(e == 0)):=by
   by_cases he:e=0<;>cases ng<;>simp[fw,he]
  cases ng
  ·go_enter func89,ntmps89
   go_wp2
   go_ret
   exact⟨a7 (by rw[e0];rfl),ae _ _⟩
  ·go_enter func89,ntmps89
   go_wp2
   go_ret
   exact⟨a7 (by rw[e0];rfl),ae _ _⟩
 ·obtain⟨b,off,rfl,hb,hc⟩:=h.spot (by omega)
  have c0:(w.alloc (.cells #[.bool ng,.slice (some ⟨b,off,none⟩) n cap,.int .i64 e] 26)).cell? ⟨b,off,none⟩=some (.int .i64 (d 0)):=((ae w _).cell (p:=⟨b,off,none⟩) hb).trans (hc 0 (by omega))
  have hA:=ym (d 0)
  have hn0:((n:Int) == 0)=false:=by simp;omega
  have hR:=h.alloc (.cells #[.bool ng,.slice (some ⟨b,off,none⟩) n cap,.int .i64 e] 26)
  by_cases h1:d 0 % 2=1
  ·by_cases h2:-1048576<=e
   ·by_cases h3:e<=1048576
    ·have e0:fw ng d n e=kQ d n:=by simp[fw,kQ,h0,h1,h2,h3];omega
     go_enter func89,ntmps89
     go_wp2_with (go_at_call 111;refine(t9 _ _ _ _ _ hR).mono ?_;rintro r w1 ⟨rfl,rfl⟩)
     go_ret
     exact⟨a7 e0.symm,ae _ _⟩
    ·have e0:fw ng d n e=false:=by simp[fw];omega
     go_enter func89,ntmps89
     go_wp2
     go_ret
     exact⟨a7 (by first|rfl|rw[e0]),ae _ _⟩
   ·have e0:fw ng d n e=false:=by simp[fw];omega
    go_enter func89,ntmps89
    go_wp2
    go_ret
    exact⟨a7 (by first|rfl|rw[e0]),ae _ _⟩
  ·have e0:fw ng d n e=false:=by simp[fw];omega
   go_enter func89,ntmps89
   go_wp2
   go_ret
   exact⟨a7 (by first|rfl|rw[e0]),ae _ _⟩
def sgn (ng:Bool) (n:Nat):Int:=if n=0 then 0 else if ng then -1 else 1
structure aE where
 ng:Bool
 ao:Option Addr
 n:Nat
 cap:Nat
 d:Nat->Int
 e:Int
instance:Inhabited aE:=⟨⟨false,none,0,0,fun _=>0,0⟩⟩
def aE.v (r:aE):Value:=.agg #[.bool r.ng,.slice r.ao r.n r.cap,.int .i64 r.e]
structure ue (w:World) (b o:Nat) (r:aE):Prop where
 c0:w.cell? ⟨b,o,none⟩=some (.bool r.ng)
 c1:w.cell? ⟨b,o+1,none⟩=some (.slice r.ao r.n r.cap)
 c2:w.cell? ⟨b,o+2,none⟩=some (.int .i64 r.e)
 row:aG w r.ao r.n r.cap r.d
structure eS (w:World) (ao:Option Addr) (n cap:Nat) (r:Nat->aE):Prop where
 le:n<=cap
 max:cap<=9223372036854775807
 spot:0<n->∃ b off,ao=some ⟨b,off,none⟩∧b<w.heap.size∧∀ i,i<n->ue w b (off+i*3) (r i)
theorem ue.keeps {w w':World} {b o:Nat} {r:aE} (h:ue w b o r) (hb:Below w.heap.size w w') (hlt:b<w.heap.size):ue w' b o r :=
 ⟨(hb.cell (p:=⟨b,o,none⟩) hlt).trans h.c0,(hb.cell (p:=⟨b,o+1,none⟩) hlt).trans h.c1,(hb.cell (p:=⟨b,o+2,none⟩) hlt).trans h.c2,h.row.keeps hb⟩
theorem eS.keeps {w w':World} {ao:Option Addr} {n cap:Nat} {r:Nat->aE} (h:eS w ao n cap r) (hb:Below w.heap.size w w'):eS w' ao n cap r :=
  ⟨h.le,h.max,fun hn=>by
    obtain⟨b,off,rfl,hlt,hc⟩:=h.spot hn
    exact ⟨b,off,rfl,Nat.lt_of_lt_of_le hlt hb.size,fun i hi=>(hc i hi).keeps hb hlt⟩⟩
def bV (r:aE):Bool:=fw r.ng r.d r.n r.e
def sZ (r:Nat->aE) (n:Nat):Bool:=decide (∀ i,i<n->bV (r i)=true)
theorem qP (ao:Option Addr) (n cap:Nat) (r:Nat->aE) (w:World) (h:eS w ao n cap r) :
    Calls prog 149 #[.slice ao n cap] w fun x w'=>x=.returned (.bool (sZ r n))∧Below w.heap.size w w':=by
  have hl:=h.le
  have hm:=h.max
  go_enter func149,ntmps149
  go_wp2_with fail
  go_loopw [7] (fun i wr=>∃ k:Nat,k<=n∧i=.int .i64 k∧Hid (∀ j,j<k->bV (r j)=true)∧Below w.heap.size w wr) (fun i _=>n-(intOf i).toNat)
  case atStart=>exact⟨0,Nat.zero_le _,rfl,fun j hj=>by omega,aq _⟩
  case round=>
    obtain⟨k,hk,rfl,HO,hbw⟩:=hrel
    by_cases hlt:k<n
    · obtain⟨b,off,rfl,hb,hc⟩:=h.spot (by omega)
      obtain⟨c0,c1,c2,hR⟩:=(hc k hlt).keeps hbw hb
      generalize hr:r k=x at *
      obtain⟨ng,xo,xn,xc,xd,xe⟩:=x
      simp only at c0 c1 c2 hR
      by_cases hok:fw ng xd xn xe=true
      · go_wp2_with (go_at_call 89;refine(iB ng xo xn xc xd xe _ (hR.alloc _)).mono ?_;rintro x w1 ⟨rfl,hb1⟩)
        go_roundw
        case rel=>exact ⟨k+1,by omega,by go_num,fun j hj=>by
            by_cases e:j=k
            · subst e;rw[hr];exact hok
            · exact HO.out j (by omega),hbw.trans ((aa (ae _ _) hb1).mono hbw.size)⟩
        case measure=>simp[intOf];omega
      · have hok':fw ng xd xn xe=false:=by simpa using hok
        go_wp2_with (go_at_call 89;refine(iB ng xo xn xc xd xe _ (hR.alloc _)).mono ?_;rintro x w1 ⟨rfl,hb1⟩)
        go_ret
        exact ⟨a7 (by
          symm
          refine decide_eq_false fun hx=>?_
          have:=hx k hlt
          rw[hr] at this
          exact hok this),hbw.trans ((aa (ae _ _) hb1).mono hbw.size)⟩
    · obtain rfl:k=n:=by omega
      go_wp2
      go_ret
      exact⟨a7 (decide_eq_true HO.out).symm,hbw⟩
theorem qQ (ao bo:Option Addr) (n m ca cb:Nat) (a b:Nat->Int) (w:World) (ha:aG w ao n ca a) (hb:aG w bo m cb b) (da:aO a n) (db:aO b m) (hn:n<=100000) (hm:m<=100000) :
  Calls prog 158 #[.slice ao n ca,.slice bo m cb] w fun e w'=>∃ v,e=.returned v∧bO w w' (val a n*val b m) v:=by
 have hla:=ha.le
 have hma:=ha.max
 have hlb:=hb.le
 have hmb:=hb.max
 go_enter func158,ntmps158
 go_wp2_with (at_make;refine gX rfl _ _ rfl _ _ (n+m) rfl rfl (by omega) (by omega) (by omega) ?_;intro w1 hB1 hb1)
 go_loopw [18] (fun i wr=>∃ (k:Nat) (r:Nat->Int),k<=n∧i=.int .i64 k∧bw wr w.heap.size (n+m) r∧aO r (n+m)∧Hid (∀ t,k+m<=t->r t=0)∧Hid (val r (k+m)=val a k*val b m)∧Below w.heap.size w wr) (fun i _=>n-(intOf i).toNat)
 case atStart=>exact⟨0,fun _=>0,Nat.zero_le _,rfl,hB1,jO _,fun _ _=>rfl,by show _=_;rw[cB (Nat.zero_le (0+m)) (fun _ _ _=>rfl)];show 0=0*val b m;omega,hb1⟩
 case round=>
  obtain⟨i,r0,hi,rfl,hB0,hD0,HZ0,HV0,hbw0⟩:=hrel
  by_cases hlt:i<n
  ·obtain⟨ba,fa,rfl,hba,hca⟩:=ha.spot (by omega)
   have dai:=da i hlt
   go_wp2
   go_loopw [8,30] (fun c j wr=>∃ (k:Nat) (q:Int) (r:Nat->Int),k<=m∧j=.int .i64 k∧c=.int .i64 q∧0<=q∧q<1073741824∧bw wr w.heap.size (n+m) r∧aO r (n+m)∧Hid (∀ t,i+k<=t->r t=r0 t)∧Hid (val r (i+k)+q*P (i+k)=val r0 (i+k)+a i*val b k*P i)∧Below w.heap.size w wr) (fun _ j _=>m-(intOf j).toNat)
   case atStart=>exact⟨0,0,r0,Nat.zero_le _,rfl,rfl,by omega,by omega,hB0,hD0,fun _ _=>rfl,by show _=_;show val r0 i+0*P i=val r0 i+a i*0*P i;grind,hbw0⟩
   case round=>
    obtain⟨k,q,r,hk,rfl,rfl,hq0,hq1,hB,hD,HS,HV,hbw⟩:=hrel
    have c1:=(hbw.cell (p:=⟨ba,fa+i,none⟩) hba).trans (hca i hlt)
    by_cases hkm:k<m
    ·obtain⟨bb,fb,rfl,hbb,hcb⟩:=hb.spot (by omega)
     have c2:=(hbw.cell (p:=⟨bb,fb+k,none⟩) hbb).trans (hcb k hkm)
     have c3:=hB.cell (show i+k<n+m by omega)
     have fg:=hB.frozen (i+k)
     have drk:=hD (i+k) (by omega)
     have hmul:=rD dai (db k hkm)
     have h30:=mu (q+(a i*b k+r (i+k)))
     go_wp2
     go_quiet (fail)
     go_wp2
     have hs:=pD (b:=b) (j:=k) HV.out (HS.out (i+k) (Nat.le_refl _))
     go_roundw
     case rel=>exact⟨k+1,_,bK r (i+k) ((q+(a i*b k+r (i+k))) % 1073741824),by omega,by go_num,rfl,by omega,by omega,hB.store (i+k) _,hD.upd _ (fk _),fun t ht=>by rw[aP r _ (by omega)];exact HS.out t (by omega),hs,(a5 hbw _).setCell (Nat.le_refl _) _⟩
     case measure=>simp[intOf];omega
    ·obtain rfl:k=m:=by omega
     have c3:=hB.cell (show i+k<n+k by omega)
     have fg:=hB.frozen (i+k)
     go_wp2
     have hr:=rG HV.out HV0.out
     go_roundw
     case rel=>exact⟨i+1,bK r (i+k) q,by omega,by go_num,hB.store (i+k) _,hD.upd _ ⟨hq0,hq1⟩,fun t ht=>by rw[aP r _ (by omega),HS.out t (by omega)];exact HZ0.out t (by omega),by show _=_;rw[hr,aI],hbw.setCell (Nat.le_refl _) _⟩
     case measure=>simp[intOf];omega
  ·obtain rfl:i=n:=by omega
   go_wp2_with (go_at_call 144;refine(gD _ _ _ _ _ (hB0.row0 (Nat.le_refl _) (by omega))).mono ?_;rintro e w3 ⟨t,ht,htop,hz,rfl,rfl⟩)
   go_ret
   obtain⟨hN,hv⟩:=ed hD0 ht htop hz
   exact⟨_,rfl,t,r0,hB0.cut (Nat.le_refl _) ht (by omega),hN,by rw[hv,HV0.out],hbw0⟩
theorem rJ {d e:Nat->Int} {n k:Nat} (hd:aO d n) (he:aO e n) (hk:k<n) (hs:∀ i,k<i->i<n->d i=e i) (hne:d k≠e k):bq (d k) (e k)=bq (val d n) (val e n):=by
 rcases Int.lt_or_gt_of_ne hne with h1|h1
 ·rw[cF h1,cF (rH hd he hk hs h1)]
 ·rw[cG h1,cG (rH he hd hk (fun i a b=>(hs i a b).symm) h1)]
def s7 (ao:Option Addr) (t cap:Nat):Value:=if 2000<t then .slice none 0 0 else .slice ao t cap
def vY (t:Nat):Int:=if 2000<t then 2 else 0
theorem C7.of {w w':World} {V:Int} {ao:Option Addr} {t cap:Nat} {d:Nat->Int} (h1:aV w.heap.size w' (.slice ao t cap) t d) (h2:bt d t) (h3:val d t=V) (hb:Below w.heap.size w w'):C7 w w' V (s7 ao t cap) (vY t):=by
 refine⟨hb,?_⟩
 by_cases h:2000<t
 ·refine .inr ⟨?_,by simp[vY,h],by simp[s7,h]⟩
  have a:=cI h2.1 (by omega) h2.2
  have b:=fJ (show 2000<=t-1 by omega)
  omega
 ·refine .inl ⟨?_,by simp[vY,h],?_⟩
  ·have a:=bz h2.1
   have b:=fJ (show t<=2000 by omega)
   omega
  ·rw[show s7 ao t cap=.slice ao t cap by simp[s7,h]]
   exact⟨t,d,h1,h2,h3,hb⟩
structure kS (w:World) (ao bo:Option Addr) (n m ca cb:Nat) (a b:Nat->Int):Prop where
 ra:aG w ao n ca a
 rb:aG w bo m cb b
theorem kS.keeps {w w':World} {ao bo:Option Addr} {n m ca cb:Nat} {a b:Nat->Int} (h:kS w ao bo n m ca cb a b) (hb:Below w.heap.size w w'):kS w' ao bo n m ca cb a b:=⟨h.ra.keeps hb,h.rb.keeps hb⟩
instance (n:Nat) (a b:Nat->Int):Decidable (∀ i,i<n->a i=b i):=by infer_instance
theorem aT.ok {d:Nat->Int} {n:Nat} (h:bt d n) (hV:val d n<P 2000):kQ d n=true:=by
 refine iG ?_ h
 by_cases hk:n<=2000
 ·exact hk
 ·have a:=cI h.1 (by omega) h.2
  have b:=fJ (show 2000<=n-1 by omega)
  omega
theorem s8 (V:Int) (w:World) (h0:0<=V) (h1:V<9223372036854775808) :
    Calls prog 159 #[.int .i64 V] w fun e w'=>∃ v,e=.returned v∧bO w w' V v:=by
  have HM:Hid (V<9223372036854775808):=h1
  clear h1
  go_enter func159,ntmps159
  go_wp2
  go_loopw [0,3] (fun i v wr=>∃ (x:Int) (k:Nat) (r:Nat->Int),i=.int .i64 x∧0<=x∧k<=3∧aV w.heap.size wr v k r∧aO r k∧Hid (x*P k<=V)∧Hid (x=0->kF r k)∧Hid (val r k+x*P k=V)∧Below w.heap.size w wr) (fun i _ _=>(intOf i).toNat)
  case atStart=>exact⟨V,0,fun _=>0,rfl,h0,by omega,aV.nil _ _ _,fun i hi=>by omega,by show _<=_;show V*1<=V;omega,fun _=>.inl rfl,by show _=_;show 0+V*1=V;omega,aq _⟩
  case round=>
    obtain⟨x,k,r,rfl,hx,hk3,hO,hD,HB,HT,HV,hbw⟩:=hrel
    by_cases hp:0<x
    · have h30:=mu x
      have hk2:k<=2:=by
        by_cases e:k=3
        · subst e
          have a:=HB.out
          have b:=HM.out
          have c:P 3=1073741824*1073741824*1073741824:=by decide
          have d:1*P 3<=x*P 3:=Int.mul_le_mul_of_nonneg_right (by omega) (Int.le_of_lt (bp 3))
          omega
        · omega
      go_wp2_with (at_builtin;refine bU rfl _ _ rfl w.heap.size _ k r rfl (hO.stays (ae _ _)) _ 1 1 (fun _=>x % 1073741824) rfl (gf _ _ rfl) (by omega) (by have:=hbw.size;simp;omega) ?_;intro v' w1 hO1 hg1)
      have hb1:Below w.heap.size w w1:=(hbw.alloc hbw.size _).grown hg1 (by have:=hbw.size;simp;omega) (c7 hO)
      have e1:∀ i,i<k+1->kG r k (fun _=>x % 1073741824) i=bK r k (x % 1073741824) i:=fun i hi=>by
        by_cases e:i<k
        · simp[kG,e,aP r _ (show i≠k by omega)]
        · obtain rfl:i=k:=by omega
          simp[kG,a6]
      have hs:=cM (c:=0) (x:=x) (show val r k+0*P k=val r k by omega)
      rw[Int.zero_add] at hs
      go_roundw
      case rel=>exact ⟨x/1073741824,k+1,bK r k (x % 1073741824),rfl,by omega,by omega,hO1.congr e1,l8 ((hD.congr (fun i hi=>(aP r _ (by omega)).symm))) (by rw [a6]; omega) (by rw [a6]; omega),by
          show _<=_
          have a:=HB.out
          rw[eD,show x/1073741824*(P k*1073741824)=(x/1073741824*1073741824)*P k by grind]
          have b:(x/1073741824*1073741824)*P k<=x*P k:=Int.mul_le_mul_of_nonneg_right (by omega) (Int.le_of_lt (bp k))
          omega,fun e=>.inr (by rw [Nat.add_sub_cancel,a6]; omega),by show _=_; rw [hs]; exact HV.out,hb1⟩
      case measure=>simp[intOf];omega
    · obtain rfl:x=0:=by omega
      go_wp2
      go_ret
      exact⟨_,rfl,k,r,hO,⟨hD,HT.out (by first|rfl|trivial)⟩,by have:=HV.out;omega,hbw⟩
def Gs (U V t:Int):Prop:=0<=t∧t<1073741824∧(t-1)*V<=U∧U<(t+1)*V
structure ix (u v:Nat->Int) (L:Nat) (U V:Int):Prop where
 du:aO u (L+3)
 dv:aO v (L+2)
 top:536870912<=v (L+1)
 eU:U=val u (L+3)
 eV:V=val v (L+2)
 lt:U<1073741824*V
theorem ix.splitV {u v:Nat->Int} {L:Nat} {U V:Int} (h:ix u v L U V):V=(v (L+1)*1073741824+v L)*P L+val v L:=by
 rw[h.eV,aI,aI,eD];grind
theorem ix.splitU {u v:Nat->Int} {L:Nat} {U V:Int} (h:ix u v L U V):U=((u (L+2)*1073741824+u (L+1))*1073741824+u L)*P L+val u L:=by
 rw[h.eU,aI,aI,aI,show P (L+2)=P L*1073741824*1073741824 from rfl,show P (L+1)=P L*1073741824 from rfl];grind
theorem ix.topU {u v:Nat->Int} {L:Nat} {U V:Int} (h:ix u v L U V):u (L+2)<=v (L+1):=by
 have h1:val u (L+3)=val u (L+2)+u (L+2)*P (L+2):=aI _ _
 have h2:val v (L+2)=val v (L+1)+v (L+1)*P (L+1):=aI _ _
 have a:=aJ (h.du.le (show L+2<=L+3 by omega))
 have b:=bz (h.dv.le (show L+1<=L+2 by omega))
 have c:=h.lt
 rw[h.eU,h.eV,h1,h2] at c
 have p:=bp (L+1)
 have e:P (L+2)=P (L+1)*1073741824:=eD _
 rw[e] at c
 rcases Int.lt_or_le (v (L+1)) (u (L+2)) with q|q
 ·have f:(v (L+1)+1)*(P (L+1)*1073741824)<=u (L+2)*(P (L+1)*1073741824):=b5 (by omega) (by omega)
  have g:(v (L+1)+1)*(P (L+1)*1073741824)=1073741824*(v (L+1)*P (L+1))+1073741824*P (L+1):=by grind
  omega
 ·exact q
theorem ix.start {u v:Nat->Int} {L:Nat} {U V:Int} (h:ix u v L U V) {t l:Int} (ht:0<=t) (hh:u (L+2)*1073741824+u (L+1)=t*v (L+1)+l) (hl:l<v (L+1)):U<(t+1)*V:=by
 have sU:=h.splitU
 have sV:=h.splitV
 have p:=bp L
 have a:=bz (h.du.le (show L<=L+3 by omega))
 have b:=aJ (h.dv.le (show L<=L+2 by omega))
 have dL:=h.du L (by omega)
 have vL:=h.dv L (by omega)
 have e1:(u (L+2)*1073741824+u (L+1)+1)*(1073741824*P L)<=(t+1)*v (L+1)*(1073741824*P L):=b5 (by rw[Int.add_mul];omega) (by omega)
 have e2:0<=(t+1)*(v L*P L+val v L):=Int.mul_nonneg (by omega) (by have:=Int.mul_nonneg vL.1 (Int.le_of_lt p);omega)
 have e3:(t+1)*V=(t+1)*v (L+1)*(1073741824*P L)+(t+1)*(v L*P L+val v L):=by rw[sV];grind
 have e4:U=(u (L+2)*1073741824+u (L+1)+1)*(1073741824*P L)-1073741824*P L+u L*P L+val u L:=by rw[sU];grind
 have e5:u L*P L<=1073741823*P L:=b5 (by omega) (by omega)
 omega
theorem ix.small {u v:Nat->Int} {L:Nat} {U V:Int} (h:ix u v L U V) {t l:Int} (hh:u (L+2)*1073741824+u (L+1)=t*v (L+1)+l) (hl:1073741823<l):t<1073741824:=by
 rcases Int.lt_or_le t 1073741824 with q|q
 ·exact q
 ·have a:=h.topU
  have b:=(h.du (L+1) (by omega)).2
  have c:=(h.dv (L+1) (by omega)).1
  have e:1073741824*v (L+1)<=t*v (L+1):=b5 q c
  omega
theorem ix.long {u v:Nat->Int} {L:Nat} {U V:Int} (h:ix u v L U V) {t l:Int} (ht:0<=t) (hh:u (L+2)*1073741824+u (L+1)=t*v (L+1)+l) (hl:1073741823<l) (hU:U<(t+1)*V):Gs U V t:=by
 have a:=sY h.splitV (bz (h.dv.le (by omega))) (h.dv L (by omega)).2 h.splitU (aJ (h.du.le (by omega))) (h.du L (by omega)).1 (bp L) hh ht (h.small hh hl) (by omega)
 have:=aJ h.dv
 rw[<- h.eV] at this
 exact⟨ht,h.small hh hl,by rw[Int.sub_mul];omega,hU⟩
theorem ix.done {u v:Nat->Int} {L:Nat} {U V:Int} (h:ix u v L U V) {t l:Int} (ht:0<=t) (hh:u (L+2)*1073741824+u (L+1)=t*v (L+1)+l) (h1:t<1073741824) (hc:t*v L<=l*1073741824+u L) (hU:U<(t+1)*V):Gs U V t :=
 ⟨ht,h1,qO h.splitV (aJ (h.dv.le (by omega))) (bz (h.dv.le (by omega))) (by have:=h.top;omega) (h.dv L (by omega)).1 h.splitU (aJ (h.du.le (by omega))) (bp L) hh ht h1 hc,hU⟩
theorem iQ.row {g:Nat} {w:World} {ao:Option Addr} {n cap:Nat} {d:Nat->Int} (h:iQ g w ao n cap d) (hn:0<n):aG w ao n cap d :=
  ⟨h.le,h.max,(fun e=>by obtain ⟨b,off,q,_⟩:=h.spot hn; rw [q] at e; cases e),fun _=>by
    obtain⟨b,off,q,hlt,_,hc⟩:=h.spot hn
    exact ⟨b,off,q,hlt,hc⟩⟩
def Tk (g N at_ M:Nat) (r:Nat->Int) (w w':World) (U V t:Int):Prop :=
 ∃ r',bw w' g N r'∧(∀ i,i<at_∨at_+M<i->r' i=r i)∧aO (fun i=>r' (at_+i)) (M+1)∧U=t*V+val (fun i=>r' (at_+i)) (M+1)∧val (fun i=>r' (at_+i)) (M+1)<V∧0<=t∧t<1073741824∧Wr g w w'
theorem ix.facts {u v:Nat->Int} {L M:Nat} {U V:Int} (hM:M=L+2) (h:ix u v L U V):aO v M∧aO u (M+1)∧V=val v M∧U=val u M+u M*P M∧V<P M∧0<=U:=by
 subst hM
 have e1:=h.eU
 have e2:=aJ h.du
 have e3:=bz h.dv
 have e4:=h.eV
 refine⟨h.dv,h.du,e4,?_,by omega,by omega⟩
 rw[e1];exact aI u (L+2)
theorem bw.cells {w:World} {g N:Nat} {r:Nat->Int} (h:bw w g N r) {at_ n:Nat} (hn:at_+n<=N):∀ i,i<n->w.cell? ⟨g,at_+i,none⟩=some (.int .i64 ((fun j=>r (at_+j)) i)):=fun i hi=>h.cell (by omega)
theorem aV.cut {B:Nat} {w:World} {ao:Option Addr} {n cap m:Nat} {d:Nat->Int} (h:aV B w (.slice ao n cap) n d) (hm:m<=n):aV B w (.slice ao m cap) m d:=by
 refine⟨by rw[bR];omega,?_⟩
 rcases h.2 with⟨hn,h0⟩|⟨g,cap',cur,hv,hB,hg,hnc,hcm,hs,ht⟩
 ·simp only[Value.slice.injEq] at hn
  obtain⟨rfl,rfl,rfl⟩:=hn
  obtain rfl:m=0:=by omega
  exact .inl ⟨rfl,rfl⟩
 ·simp only[Value.slice.injEq] at hv
  obtain⟨rfl,_,rfl⟩:=hv
  refine .inr ⟨g,cap,cur,rfl,hB,hg,by omega,hcm,hs,?_⟩
  apply gB (by simp;omega)
  intro i hi
  have e:(cur.toList.take (n*1))[i]?=(d9 d n)[i]?:=by rw[ht]
  rw[List.getElem?_take,if_pos (by omega),ec d (by omega)] at e
  rw[List.getElem?_take,if_pos (by omega)];exact e
theorem aG.drew {w:World} {ao:Option Addr} {n cap:Nat} {d:Nat->Int} (h:aG w ao n cap d):aG w.drew ao n cap d:=⟨h.le,h.max,h.nl,h.spot⟩
theorem vZ {f:Nat->Int} {N M:Nat} (h:aO f N) (hM:M<=N) (hv:val f N<P M):∀ i,M<=i->i<N->f i=0:=by
 have e:=cA f M (N-M)
 rw[show M+(N-M)=N by omega] at e
 have a:=aJ (h.le hM)
 have dh:aO (fun i=>f (M+i)) (N-M):=fun i hi=>h (M+i) (by omega)
 have b:=aJ dh
 have pm:=bp M
 have z:val (fun i=>f (M+i)) (N-M)=0:=by
  rcases Int.lt_or_eq_of_le b with q|q
  ·have:P M*1<=P M*val (fun i=>f (M+i)) (N-M):=eR (by omega) (by omega)
   omega
  ·exact q.symm
 have z2:val (fun _:Nat=>(0:Int)) (N-M)=0:=cB (Nat.zero_le _) (fun _ _ _=>rfl)
 intro i hi hiN
 have:=x8 dh (jO (N-M)) (z.trans z2.symm) (i-M) (by omega)
 rwa [show M+(i-M)=i by omega] at this
theorem rK {r:Nat->Int} {at_ M N:Nat} (h:at_+M<=N) (hz:∀ i,at_+M<=i->i<N->r i=0):val r N=val r at_+P at_*val (fun i=>r (at_+i)) M:=by
 rw[cB h hz,cA]
theorem uf {r:Nat->Int} {at_ m N:Nat} {V:Int} (hd:aO r N) (h:at_+(m+1)<=N) (hV:V<P m) (hlt:val r N<V*P (at_+1)) :
  (∀ i,at_+(m+1)<=i->i<N->r i=0)∧val r N=val r at_+P at_*val (fun i=>r (at_+i)) (m+1)∧val (fun i=>r (at_+i)) (m+1)<1073741824*V:=by
 have pa:=bp at_
 have h1:V*P (at_+1)<=P m*P (at_+1):=b5 (by omega) (Int.le_of_lt (bp _))
 rw[<- i4,show m+(at_+1)=at_+(m+1) by omega] at h1
 have hz:=vZ hd h (by omega)
 have e:=rK h hz
 refine⟨hz,e,?_⟩
 have lo:=aJ (hd.le (show at_<=N by omega))
 rcases Int.lt_or_le (val (fun i=>r (at_+i)) (m+1)) (1073741824*V) with q|q
 ·exact q
 ·have:P at_*(1073741824*V)<=P at_*val (fun i=>r (at_+i)) (m+1):=eR q (by omega)
  rw[eD] at hlt
  have e2:V*(P at_*1073741824)=P at_*(1073741824*V):=by grind
  omega
def s9 (w0:World) (g gq n t K:Nat) (v:Nat->Int) (byo:Option Addr) (bcap:Nat) (AA V:Int) (k:Nat) (wr:World):Prop :=
 ∃ r qf,bw wr g (n+1) r∧aO r (n+1)∧bw wr gq K qf∧aO qf K∧(∀ i,i<K-k->qf i=0)∧AA=val qf K*V+val r (n+1)∧val r (n+1)<V*P (K-k)∧iQ g wr byo t bcap v∧Below w0.heap.size w0 wr
theorem s9.step {w0:World} {g gq n t K:Nat} {v r qf:Nat->Int} {byo:Option Addr} {bcap:Nat} {AA V q:Int} {k at_:Nat} {wr w7:World} (hK:K=at_+1+k) (hK1:K+t<=n+1)
    (hBr:bw wr g (n+1) r) (hDr:aO r (n+1)) (hBq:bw wr gq K qf) (hDq:aO qf K) (hzq:∀ i,i<K-k->qf i=0) (hA:AA=val qf K*V+val r (n+1)) (hlt:val r (n+1)<V*P (K-k)) (hX:iQ g wr byo t bcap v) (hbw:Below w0.heap.size w0 wr)
    (hVt:V<P t) (hne:gq≠g) (hg:w0.heap.size<=g) (hgq:w0.heap.size<=gq) (hne2:0<t->∀ b off,byo=some ⟨b,off,none⟩->b≠gq) (hT:Tk g (n+1) at_ t r wr w7 (val (fun i=>r (at_+i)) (t+1)) V q) :
    s9 w0 g gq n t K v byo bcap AA V (k+1) (w7.setCell ⟨gq,at_,none⟩ (.int .i64 q)):=by
  obtain⟨r',hB7,hS7,hD7,hU7,hlt7,hq0,hq1,hw7⟩:=hT
  obtain⟨hz,e,_⟩:=uf (at_:=at_) (m:=t) hDr (by omega) hVt (by rwa [show at_+1=K-k by omega])
  have hBq7:bw w7 gq K qf:=hBq.of_block (hw7.block gq hBq.lt hne)
  have hz':∀ i,at_+(t+1)<=i->i<n+1->r' i=0:=fun i a b=>by rw[hS7 i (by omega)];exact hz i a b
  have e':=rK (r:=r') (show at_+(t+1)<=n+1 by omega) hz'
  have elo:val r' at_=val r at_:=dr fun i hi=>hS7 i (by omega)
  have hD':aO r' (n+1):=fun i hi=>by
    by_cases c:i<at_∨at_+t<i
    · rw[hS7 i c];exact hDr i hi
    · have:=hD7 (i-at_) (by omega)
      simp only[show at_+(i-at_)=i by omega] at this
      exact this
  have lo0:=bz (hDr.le (show at_<=n+1 by omega))
  refine⟨r',bK qf at_ q,hB7.apart (by simpa using hne.symm) _,hD',hBq7.store at_ q,hDq.upd _ ⟨hq0,hq1⟩,fun i hi=>?_,?_,?_,?_,?_⟩
  · rw[aP qf _ (by omega)];exact hzq i (by omega)
  · rw[hA,m8 qf q (show at_<K by omega),hzq at_ (by omega),e,e',elo,hU7];grind
  · rw[show K-(k+1)=at_ by omega,e',elo]
    have h1:(val (fun i=>r' (at_+i)) (t+1)+1)*P at_<=V*P at_:=b5 (by omega) (Int.le_of_lt (bp _))
    rw[Int.add_mul] at h1
    have h2:P at_*val (fun i=>r' (at_+i)) (t+1)=val (fun i=>r' (at_+i)) (t+1)*P at_:=Int.mul_comm _ _
    omega
  · have hx:=hX.keeps hw7
    refine⟨hx.le,hx.max,fun hn=>?_⟩
    obtain⟨b,off,eb,hlt,hbg,hc⟩:=hx.spot hn
    exact ⟨b,off,eb,by simpa using hlt,hbg,fun i hi=>by
      have:=World.cell?_of_block (w:=w7) (a:=⟨b,off+i,none⟩) (heap_setCell_other w7 ⟨gq,at_,none⟩ b (.int .i64 q) (hne2 hn b off eb))
      rw [this]; exact hc i hi⟩
  · exact(hw7.below hbw (by exact hbw.size) hg).setCell hgq _
theorem s9.done {w0:World} {g gq n t K:Nat} {v:Nat->Int} {byo:Option Addr} {bcap:Nat} {AA V:Int} {wr:World} (h:s9 w0 g gq n t K v byo bcap AA V K wr) :
  ∃ r qf,bw wr g (n+1) r∧aO r (n+1)∧bw wr gq K qf∧aO qf K∧AA=val qf K*V+val r (n+1)∧val r (n+1)<V∧Below w0.heap.size w0 wr:=by
 obtain⟨r,qf,h1,h2,h3,h4,_,h5,h6,_,h7⟩:=h
 rw[Nat.sub_self] at h6
 have e:V*P 0=V:=by show V*1=V;omega
 exact⟨r,qf,h1,h2,h3,h4,h5,by omega,h7⟩
theorem aV.cutV {B:Nat} {w:World} {ao:Option Addr} {n cap t:Nat} {d:Nat->Int} (h:aV B w (.slice ao n cap) n d) (ht:t<=n):aV B w (jh ao t cap) t d:=by
 unfold Go.Proofs.YtkkpppgfoilgmaaGreatDoor.jh
 split
 ·rename_i e;subst e;exact aV.nil _ _ _
 ·exact h.cut ht
def eF (w:World):Prop:=∀ j,j<64->w.cell? ⟨2,j,none⟩=some (.int .u8 ((Lib.deBruijn64tab.getD j 0:Nat):Int))
theorem eF.keeps {w w':World} (h:eF w) (hb:Below w.heap.size w w'):eF w':=fun j hj=>
 (hb.cell (p:=⟨2,j,none⟩) (World.block_lt_of_cell? w _ (h j hj))).trans (h j hj)
theorem Ae (x a:Nat) (hx:x<18446744073709551616) (hx0:x≠0) (hlow:x &&& (18446744073709551616-x)=a) :
  IntKind.u64.wrap (bits .and .u64 (x:Int) (IntKind.u64.wrap (-(x:Int)))*285870213051353865)/288230376151711744=((a*285870213051353865 % 18446744073709551616/288230376151711744:Nat):Int):=by
 have e1:IntKind.u64.wrap (-(x:Int))=((18446744073709551616-x:Nat):Int):=by rw[IntKind.wrap_u64];omega
 rw[e1,bits_and_u64_nat x _ hx (by omega),hlow,IntKind.wrap_u64]
 omega
theorem yn (x k idx:Nat) (w:World) (hx0:((x:Int) == 0)=false)
  (aj:IntKind.u64.wrap (bits .and .u64 (x:Int) (IntKind.u64.wrap (-(x:Int)))*285870213051353865)/288230376151711744=(idx:Int))
  (hi:idx<64) (hk:k<64) (hcell:w.cell? ⟨2,idx,none⟩=some (.int .u8 k)) :
  Calls prog 131 #[.int .u64 x] w fun e w'=>e=.returned (.int .i64 k)∧w'=w:=by
 go_enter func131,ntmps131
 go_wp2_with (simp only[aj])
 go_ret
 exact⟨rfl,rfl⟩
theorem ta (x:Nat) (hx:x<18446744073709551616) (h0:x≠0) (w:World) (hT:eF w) :
  Calls prog 131 #[.int .u64 x] w fun e w'=>e=.returned (.int .i64 (Lib.ctz 64 x))∧w'=w:=by
 obtain⟨hlow,hk⟩:=Lib.lowest_bit 64 x h0 hx
 obtain⟨hi,htab⟩:=Lib.deBruijn64_at _ hk
 have hcell:=hT _ hi
 rw[htab] at hcell
 exact yn x _ _ w (by simp;omega) (Ae x _ hx h0 hlow) hi hk hcell
theorem qR (x:Int) (hx0:0<x) (hx:x<1073741824) (w:World) (hT:eF w) :
  Calls prog 131 #[.int .u64 x] w fun e w'=>∃ l:Nat,e=.returned (.int .i64 l)∧(l<64∧cm x l)∧w'=w:=by
 obtain⟨n,rfl⟩:=Int.eq_ofNat_of_zero_le (Int.le_of_lt hx0)
 obtain⟨m,hm,hk⟩:=Lib.ctzFrom_spec 64 n (by omega) (by omega)
 have e:Lib.ctz 64 n=Lib.ctzFrom 64 n:=by simp[Lib.ctz];omega
 rw[<- e] at hm hk
 refine(ta n (by omega) (by omega) _ hT).mono ?_
 rintro e w' ⟨rfl,rfl⟩
 refine⟨_,rfl,⟨hk,m,?_⟩,rfl⟩
 have:((n:Nat):Int)=((2^Lib.ctz 64 n*(2*m+1):Nat):Int):=congrArg _ hm
 rw[this,Int.natCast_mul,Int.mul_comm];simp
theorem mb (x:Int) (hx0:0<x) (hx:x<1073741824) (w:World) (hT:eF w) :
  Calls prog 145 #[.int .u64 x] w fun e w'=>∃ l:Nat,e=.returned (.int .i64 l)∧(l<64∧cm x l)∧w'=w:=by
 go_enter func145,ntmps145
 go_wp2_with fail
 refine(qR x hx0 hx _ hT).mono ?_
 rintro e w' ⟨l,rfl,hl,rfl⟩
 go_wp2
 go_ret
 exact⟨_,rfl,hl,rfl⟩
theorem jS {V:Int} {l k:Nat} (h:cm V l) (h':cm V k):l=k:=by
 have aj:∀ (l k:Nat) (V:Int),cm V l->cm V k->¬ l<k:=fun l k V ⟨m,hm⟩ ⟨m',hm'⟩ hlt=>by
  obtain⟨d,rfl⟩:∃ d,k=l+1+d:=⟨k-l-1,by omega⟩
  rw[hm,Int.pow_add,Int.pow_add] at hm'
  have e:(2*m+1)*2^l=((2*m'+1)*(2^d*2))*2^l:=by rw[hm'];grind
  have e2:=Int.eq_of_mul_eq_mul_right (Int.ne_of_gt (aF l)) e
  have e3:(2*m'+1)*(2^d*2)=2*((2*m'+1)*2^d):=by grind
  rw[e3] at e2
  generalize (2*m'+1)*2^d=Z at e2
  omega
 rcases Nat.lt_trichotomy l k with q|q|q
 ·exact absurd q (aj l k V h h')
 ·exact q
 ·exact absurd q (aj k l V h' h)
theorem nY {d:Nat->Int} {n i l:Nat} (hi:i<n) (hz:∀ j,j<i->d j=0) (h:cm (d i) l) (hl:l<30):cm (val d n) (30*i+l):=by
 obtain⟨m,hm⟩:=h
 have e1:val d n=P i*val (fun j=>d (i+j)) (n-i):=by
  have:=mw d i (n-i) hz
  rwa [show i+(n-i)=n by omega] at this
 obtain⟨r,hr⟩:∃ r,n-i=r+1:=⟨n-i-1,by omega⟩
 have e2:val (fun j=>d (i+j)) (n-i)=d i+1073741824*val (fun j=>d (i+(j+1))) r:=by
  rw[hr]
  have h:=cA (fun j=>d (i+j)) 1 r
  rw[Nat.add_comm 1 r] at h
  rw[h]
  have e:(fun j=>d (i+(1+j)))=fun j=>d (i+(j+1)):=by funext j;rw[Nat.add_comm 1 j]
  show 0+d (i+0)*1+1*1073741824*_=_
  rw[e,Nat.add_zero];omega
 have e3:(1073741824:Int)=2^l*(2*2^(29-l)):=by
  rw[<- Int.mul_assoc,Int.mul_comm (2^l) 2,Int.mul_assoc,<- Int.pow_add,show l+(29-l)=29 by omega];rfl
 refine⟨m+2^(29-l)*val (fun j=>d (i+(j+1))) r,?_⟩
 rw[e1,e2,hm,e3,Int.pow_add,<- cr]
 grind
theorem ug {x:Int} {l:Nat} (h0:0<x) (h1:x<1073741824) (h:cm x l):l<30:=by
 obtain⟨m,hm⟩:=h
 rcases Nat.lt_or_ge l 30 with q|q
 ·exact q
 ·have h2:(2:Int)^30<=2^l:=cc q
  have h3:0<2*m+1:=by
   rcases Int.lt_or_le 0 (2*m+1) with r|r
   ·exact r
   ·have:=Int.mul_nonneg (show 0 <= -(2*m+1) by omega) (Int.le_of_lt (aF l))
    rw[Int.neg_mul,<- hm] at this
    omega
  have h4:1*2^l<=(2*m+1)*2^l:=b5 (by omega) (Int.le_of_lt (aF l))
  have h5:(2:Int)^30=1073741824:=rfl
  omega
def jT (V l:Int):Prop:=(V=0∧l=-1)∨∃ k:Nat,l=k∧cm V k
theorem jU (ao:Option Addr) (n cap:Nat) (d:Nat->Int) (w:World) (h:aG w ao n cap d) (hd:aO d n) (hn:n<=100000) (hT:eF w) :
  Calls prog 135 #[.slice ao n cap] w fun e w'=>∃ l,e=.returned (.int .i64 l)∧jT (val d n) l∧w'=w:=by
 have hl:=h.le
 have hm:=h.max
 go_enter func135,ntmps135
 go_wp2
 go_loop [6] (fun i=>∃ k:Nat,k<=n∧i=.int .i64 k∧Hid (∀ j,j<k->d j=0)) (fun i=>n-(intOf i).toNat)
 case atStart=>exact⟨0,Nat.zero_le _,rfl,fun j hj=>by omega⟩
 case round=>
  obtain⟨k,hk,rfl,HZ⟩:=hrel
  by_cases hlt:k<n
  ·obtain⟨b,off,rfl,hb,hc⟩:=h.spot (by omega)
   have c:=hc k hlt
   have dk:=hd k hlt
   by_cases hz:d k=0
   ·go_wp2
    go_round
    case rel=>exact⟨k+1,by omega,by go_num,fun j hj=>by by_cases e:j=k;(· rw[e];exact hz);(· exact HZ.out j (by omega))⟩
    case measure=>simp[intOf];omega
   ·have hp:0<d k:=by omega
    go_wp2_with fail
    refine(mb (d k) hp dk.2 _ hT).mono ?_
    rintro e w' ⟨l,rfl,⟨hl64,hlow⟩,rfl⟩
    go_wp2
    go_ret
    exact⟨_,rfl,.inr ⟨30*k+l,by omega,nY hlt HZ.out hlow (ug hp dk.2 hlow)⟩,rfl⟩
  ·obtain rfl:k=n:=by omega
   go_wp2
   go_ret
   exact⟨_,rfl,.inl ⟨cB (Nat.zero_le k) (fun i _ hi=>HZ.out i hi),rfl⟩,rfl⟩
def jV (V:Int) (i:Nat):Bool:=V/2^i % 2 == 1
theorem yo {d:Nat->Int} {n q p:Nat} (hd:aO d n) (hq:q<n) (hp:p<30):val d n/2^(30*q+p) % 2=d q/2^p % 2:=by
 have hpw:=bp q
 rw[Int.pow_add,<- cr,<- Int.ediv_ediv_of_nonneg (Int.le_of_lt hpw),<- lZ d (by omega) hd]
 obtain⟨r,hr⟩:∃ r,n-q=r+1:=⟨n-q-1,by omega⟩
 have h:=cA (fun j=>d (q+j)) 1 r
 rw[Nat.add_comm 1 r] at h
 rw[hr,h]
 have e3:(1073741824:Int)=2*2^(29-p)*2^p:=by
  rw[Int.mul_assoc,<- Int.pow_add,show 29-p+p=29 by omega];rfl
 have e4:val (fun j=>d (q+j)) 1+P 1*val (fun i=>d (q+(1+i))) r=d q+(2*2^(29-p)*val (fun i=>d (q+(1+i))) r)*2^p:=by
  show 0+d (q+0)*1+1*1073741824*_=_
  rw[Nat.add_zero,e3];grind
 rw[e4,Int.add_mul_ediv_right _ _ (Int.ne_of_gt (aF p)),Int.mul_assoc 2,Int.add_mul_emod_self_left]
theorem v6 {V:Int} {i:Nat} (h0:0<=V) (h:aC V<=i):jV V i=false:=by
 have h1:=gE V
 have h2:(2:Int)^aC V<=2^i:=cc h
 unfold jV
 rw[Int.ediv_eq_zero_of_lt h0 (Int.lt_of_lt_of_le h1 h2)];rfl
end Go.Proofs.YtkkpppgfoilgmaaGreatDoor
