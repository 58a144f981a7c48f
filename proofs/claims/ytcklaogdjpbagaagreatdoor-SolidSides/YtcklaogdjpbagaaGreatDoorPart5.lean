/- Parts of the proof. -/
import Derived.Test.YtcklaogdjpbagaaGreatDoorPart4
import Derived.Deep.RegionHeld3
import Derived.Test.YtcklaogdjpbagaaGreatDoorPart2
import Derived.Test.YtcklaogdjpbagaaGreatDoorPart3
set_option maxRecDepth 100000
set_option maxHeartbeats 8000000
set_option linter.unusedVariables false
set_option linter.unusedSimpArgs false
namespace Go.Proofs.YtcklaogdjpbagaaGreatDoor
open Go Go.Proofs.Tryz Go.RowKit Go.Proofs.YtcklaogdjpbagaaGreatDoor.M
def fH (r:Nat->aA):Nat->Int|0=>0|k+1=>fH r k+sg (r k).ng (val (r k).d (r k).n)*pw (r k).e
def ls (w:World) (V:Int) (x:Ending) (w':World):Prop:=(cK V∧∃ v,x=.returned v∧aR w w' V v)∨(¬ cK V∧x=oF∧Below w.heap.size w w')
theorem lT {ng:Bool} {ao:Option Addr} {n cap:Nat} {d:Nat->Int} {e:Int} {w:World} (h:aE w ao n cap d) (hd:aZ d n) (hn:n<=100000) (hT:dU w) (he:-4194304<=e) {V:Int} (hV:V=sg ng (val d n)*pw e) :
  Calls prog 121 #[.agg #[.bool ng,.slice ao n cap,.int .i64 e]] w (ls w V):=by
 by_cases hok:cK V
 ·refine(tn h hd hn hT he hV hok).mono ?_
  rintro x w' ⟨v,rfl,hD⟩
  exact .inl ⟨hok,v,rfl,hD⟩
 ·refine(qd h hd hn hT he hV hok).mono ?_
  rintro x w' ⟨rfl,hb⟩
  exact .inr ⟨hok,rfl,hb⟩
theorem oH {F:Nat} {cap:Array Value} {w:World} {V:Int} (hE:∀ w,(callFunc F cap).run prog w=.ok (.enter F cap) w) (h:∀ W,Below w.heap.size w W->Calls prog F cap W (ls W V)) :
  Calls prog 105 #[.func (.func F) #[] cap] w fun r w'=>∃ v er,r=.returned (.tuple #[v,.int .i64 er])∧fG w w' V v er:=by
 refine vb hE (fun hok W hW=>(h W hW).mono ?_) (fun hok W hW=>(h W hW).mono ?_)
 ·rintro x w' (⟨_,v,rfl,hD⟩|⟨hn,_⟩)
  ·exact⟨v,rfl,hD⟩
  ·exact absurd hok hn
 ·rintro x w' (⟨hy,_⟩|⟨_,rfl,hb⟩)
  ·exact absurd hy hok
  ·exact⟨rfl,hb⟩
theorem nj {r:Nat->aA}:∀ {n:Nat},(∀ i,i<n->(r i).n=0)->fH r n=0
 | 0,_=>rfl
 | n+1,h=>by
  show fH r n+_=0
  rw[nj fun i hi=>h i (by omega),h n (by omega)]
  show 0+sg _ 0*_=0
  rw[dG,Int.zero_mul,Int.add_zero]
theorem tr {r:Nat->aA} {k:Nat} {low high:Int} (hs:df (r k)) (ha:low<=(r k).e∧(r k).e+ax (val (r k).d (r k).n)<=high) :
  val (r k).d (r k).n*2^((r k).e-low).toNat<2^(high-low).toNat∧0<=val (r k).d (r k).n*2^((r k).e-low).toNat:=by
 have hv:=aP hs.1.1
 obtain⟨a,b⟩:=ha
 have h1:=gk (val (r k).d (r k).n)
 have h2:val (r k).d (r k).n*2^((r k).e-low).toNat<2^ax (val (r k).d (r k).n)*2^((r k).e-low).toNat:=Int.mul_lt_mul_of_pos_right h1 (aB _)
 rw[<- Int.pow_add] at h2
 have h3:(2:Int)^(ax (val (r k).d (r k).n)+((r k).e-low).toNat)<=2^(high-low).toNat:=cF (by omega)
 exact⟨by omega,Int.mul_nonneg hv (Int.le_of_lt (aB _))⟩
structure gS (r:Nat->aA) (low high:Int) (N k:Nat) (c:Nat->Int):Prop where
 sum:val c N*pw low=fH r k
 bnd:∀ i,i<N->-((k:Int)*1073741823)<=c i∧c i<=k*1073741823
 lo:-((k:Int)*2^(high-low).toNat)<=val c N
 hi:val c N<=k*2^(high-low).toNat
theorem gS.start (r:Nat->aA) (low high:Int) (N:Nat):gS r low high N 0 (fun _=>0):=by
 have e:val (fun _=>0) N=0:=dC (Nat.zero_le _) (fun _ _ _=>rfl)
 exact⟨by rw[e,Int.zero_mul];rfl,fun i _=>⟨by omega,by omega⟩,by rw[e];simp,by rw[e];simp⟩
theorem gS.skip {r:Nat->aA} {low high:Int} {N k:Nat} {c:Nat->Int} (h:gS r low high N k c) (h0:(r k).n=0):gS r low high N (k+1) c:=by
 have e:fH r (k+1)=fH r k:=by
  show fH r k+_=_
  rw[h0]
  show fH r k+sg _ 0*_=_
  rw[dG,Int.zero_mul,Int.add_zero]
 have hp:=aB (high-low).toNat
 have e2:((k+1:Nat):Int)*2^(high-low).toNat=k*2^(high-low).toNat+2^(high-low).toNat:=by rw[Int.natCast_add,Int.add_mul];simp
 refine⟨by rw[e];exact h.sum,fun i hi=>?_,?_,?_⟩
 ·have:=h.bnd i hi;omega
 ·have:=h.lo;omega
 ·have:=h.hi;omega
theorem tt (ng:Bool) {n:Nat} (h:0<n) (x:Int):sgn ng n*x=sg ng x∧(sgn ng n=1∨sgn ng n=-1):=by
 have:n≠0:=by omega
 cases ng<;>simp[sgn,sg,this]
theorem gS.put {r:Nat->aA} {low high:Int} {N k q p:Nat} {c c':Nat->Int} (h:gS r low high N k c) (hs:df (r k)) (h0:0<(r k).n) (ha:low<=(r k).e∧(r k).e+ax (val (r k).d (r k).n)<=high) (hl:-4194304<=low) (hqp:(r k).e-low=30*q+p) (hp:p<30)
  (hP:kM N c (sgn (r k).ng (r k).n) (P q*(2^p*val (r k).d (r k).n)) c'):gS r low high N (k+1) c':=by
 obtain⟨b1,b0⟩:=tr hs ha
 obtain⟨a1,a2⟩:=ha
 have e1:(2:Int)^((r k).e-low).toNat=P q*2^p:=by
  rw[show((r k).e-low).toNat=30*q+p by omega,Int.pow_add,cP]
 have e2:P q*(2^p*val (r k).d (r k).n)=val (r k).d (r k).n*2^((r k).e-low).toNat:=by rw[e1];grind
 rw[e2] at hP
 generalize hX:val (r k).d (r k).n*2^((r k).e-low).toNat=X at *
 obtain⟨s1,s2⟩:=tt (r k).ng h0 X
 have hsum:=hP.sum
 rw[s1] at hsum
 have hpp:=aB (high-low).toNat
 have e3:((k+1:Nat):Int)*2^(high-low).toNat=k*2^(high-low).toNat+2^(high-low).toNat:=by rw[Int.natCast_add,Int.add_mul];simp
 have hsx:-X<=sg (r k).ng X∧sg (r k).ng X<=X:=by cases (r k).ng<;>simp[sg]<;>omega
 refine⟨?_,fun i hi=>?_,?_,?_⟩
 ·rw[hsum,Int.add_mul,h.sum]
  show _=fH r k+sg (r k).ng (val (r k).d (r k).n)*pw (r k).e
  rw[ii hl a1,<- hX,gJ,gJ];grind
 ·have h1:=h.bnd i hi
  have h2:=tg s2 (hP.near i) (C:=k*1073741823) h1
  omega
 ·have:=h.lo;omega
 ·have:=h.hi;omega
theorem vd {d:Nat->Int} {n:Nat} (h:bK d n) (h0:0<n):30*(n-1)+1<=ax (val d n):=by
 obtain⟨m,rfl⟩:∃ m,n=m+1:=⟨n-1,by omega⟩
 rw[lm h]
 have hd:=h.1 m (by omega)
 have ht:d m≠0:=by
  rcases h.2 with h1|h1
  ·omega
  ·rwa [Nat.add_sub_cancel] at h1
 have:=(gm (show 0<d m by omega)).1
 omega
theorem nk (ao:Option Addr) (n cap:Nat) (r:Nat->aA) (w:World) (h:ef w ao n cap r) (hs:∀ i,i<n->df (r i)) (hn:n<=100000) (hT:dU w) :
  Calls prog 107 #[.slice ao n cap] w (ls w (fH r n)):=by
 have hl:=h.le
 have hm:=h.max
 have HS:Hid (∀ i,i<n->df (r i)):=hs
 go_enter func107,ntmps107
 go_wp2_with fail
 refine(tp ao n cap r _ (h.keeps (ah _ _)) hs).mono ?_
 rintro x w1 ⟨low,high,rfl,hR,hb1⟩
 clear hs
 have q0:=(hb1.block w.heap.size (by rw[dV];omega)).trans (aK _ _)
 have x0:=ac q0 0 rfl
 have x1:=ac q0 1 rfl
 have x2:=ac q0 2 rfl
 have z0:=aq q0 0
 have z1:=aq q0 1
 have z2:=aq q0 2
 have hbw1:=af (ah w _) hb1
 by_cases hz:∀ i,i<n->(r i).n=0
 ·obtain⟨rfl,rfl⟩:=hR.none hz
  go_wp2
  refine bodyPost_ret (v:=dc) (by simp[results,results107,go_sem,x0,x1,x2,dc]) rfl ?_
  rw[nj hz]
  exact .inl ⟨jq,_,rfl,aR.zero (((hbw1.setCell (p:=⟨w.heap.size,0,none⟩) (Nat.le_refl _) _).setCell (p:=⟨w.heap.size,1,none⟩) (Nat.le_refl _) _).setCell (p:=⟨w.heap.size,2,none⟩) (Nat.le_refl _) _)⟩
 ·have hsome:∃ i,i<n∧0<(r i).n:=by
   simp only[Classical.not_forall] at hz
   obtain⟨i,hi,hp⟩:=hz
   exact⟨i,hi,by omega⟩
  obtain⟨l0,l1,l2,l3⟩:=hR.some hsome
  have hlh:low<=high:=by
   obtain⟨i,hi,hp⟩:=hsome
   have:=hR.all i hi hp
   omega
  obtain⟨N,hN⟩:∃ N:Nat,(high-low)/30+3=(N:Int):=⟨((high-low)/30+3).toNat,by omega⟩
  go_wp2_with (at_make;refine gK rfl _ _ rfl _ _ N rfl rfl (by omega) (by omega) (by omega) ?_;intro w2 hB2 hb2)
  have hlow:-4194304<=low:=by omega
  have hbw2:=af hbw1 hb2
  have hb2':=hb2
  have HN:=h.keeps hbw1
  have HA:Hid (∀ i,i<n->0<(r i).n->low<=(r i).e∧(r i).e+ax (val (r i).d (r i).n)<=high):=hR.all
  have HLH:Hid ((high-low)/30+3=(N:Int)∧low<=high):=⟨hN,hlh⟩
  have hN3:3<=N∧N<=90000:=by omega
  have gw:w1.heap.size<w2.heap.size:=hB2.lt
  clear hR hz hsome hb2 x0 x1 x2 z0 z1 z2
  go_loopw [26] (fun i wr=>∃ (k:Nat) (c:Nat->Int),k<=n∧i=.int .i64 k∧bw wr w1.heap.size N c∧Hid (gS r low high N k c)∧Below w1.heap.size w1 wr∧w2.heap.size<=wr.heap.size) (fun i _=>n-(intOf i).toNat)
  case atStart=>exact⟨0,_,Nat.zero_le _,rfl,hB2,gS.start _ _ _ _,hb2',Nat.le_refl _⟩
  case round=>
   obtain⟨k,c,hk,rfl,hB,HT,hbw,hgw⟩:=hrel
   by_cases hlt:k<n
   ·obtain⟨b,off,rfl,hb,hc⟩:=HN.spot (by omega)
    obtain⟨c0,c1,c2,hRow⟩:=(hc k hlt).keeps hbw hb
    have hRX:=ik.of (hc k hlt).row (Nat.le_refl _)
    have hsk:=HS.out k hlt
    have hak:=HA.out k hlt
    have hput:=fun q p c' h0=>HT.out.put (q:=q) (p:=p) (c':=c') hsk h0 (hak h0) hlow
    have hskip:=fun h0=>HT.out.skip (k:=k) h0
    have hbnd:=HT.out.bnd
    clear hc
    generalize hr:r k=x at *
    obtain⟨ng,xo,xn,xc,xd,xe⟩:=x
    obtain⟨s1,s2,s3,s4⟩:=hsk
    simp only at c0 c1 c2 hRX hRow s1 s2 s3 s4 hput hskip hak
    by_cases h0:xn=0
    ·subst h0
     have HZ:Hid (gS r low high N (k+1) c):=hskip rfl
     clear hput hskip hak hbnd hN hlh hRX HN
     go_wp2
     go_roundw
     case rel=>exact⟨k+1,c,by omega,by go_num,hB.alloc _,HZ,hbw.trans ((ah _ _).mono hbw.size),by rw[dV];omega⟩
     case measure=>simp[intOf];omega
    ·have hlp:(0:Int)<xn:=by omega
     obtain⟨a1,a2⟩:=hak (by omega)
     have hlb:=vd s1 (by omega)
     obtain⟨q,p,hqp,hp⟩:∃ q p:Nat,xe-low=30*q+p∧p<30:=⟨((xe-low)/30).toNat,((xe-low) % 30).toNat,by omega,by omega⟩
     have hqN:q+xn+1<=N:=by omega
     have HP:Hid (∀ c',kM N c (sgn ng xn) (P q*(2^p*val xd xn)) c'->gS r low high N (k+1) c'):=fun c' hP=>hput q p c' (by omega) hqp hp hP
     obtain⟨_,hsg⟩:=tt ng (show 0<xn by omega) 0
     have HSG:Hid (sgn ng xn=1∨sgn ng xn=-1):=hsg
     have HQP:Hid (xe-low=30*q+p):=hqp
     have HBD:Hid (∀ i,i<N->-((k:Int)*1073741823)<=c i∧c i<=k*1073741823):=hbnd
     have hw1:wrap64 (xe-low)=xe-low:=IntWalk.wrap64_in _ ⟨by omega,by omega⟩
     have hw2:IntKind.i64.wrap (xe-low)=xe-low:=by rw[a7];omega
     have hlen:xn<=100000:=by omega
     have q0:=aK wr (.cells #[.bool ng,.slice xo xn xc,.int .i64 xe] 33)
     have hsz:=dV wr (.cells #[.bool ng,.slice xo xn xc,.int .i64 xe] 33)
     have hbx:Below w1.heap.size w1 (wr.alloc (.cells #[.bool ng,.slice xo xn xc,.int .i64 xe] 33)):=hbw.trans ((ah _ _).mono hbw.size)
     have hBx:=hB.alloc (.cells #[.bool ng,.slice xo xn xc,.int .i64 xe] 33)
     have hgx:wr.heap.size≠w1.heap.size:=by omega
     clear hput hskip hak hbnd hN hlh hsg hqp HN a1 a2 hlb
     go_wp2_with fail
     generalize wr.alloc (.cells #[.bool ng,.slice xo xn xc,.int .i64 xe] 33)=wx at q0 hsz hbx hBx ⊢
     have k0:=ac q0 0 rfl
     have k1:=ac q0 1 rfl
     have k2:=ac q0 2 rfl
     have hb1:=ap wx
     have C1:∀ W,Below wx.heap.size wx W->Calls prog 101 #[.agg #[.bool ng,.slice xo xn xc,.int .i64 xe]] W fun y w'=>y=.returned (.int .i64 (sgn ng xn))∧Below W.heap.size W w':=fun W _=>m6 ng xo xn xc xe W (by omega)
     have C2:∀ W,Below wx.heap.size wx W->Calls prog 125 #[.slice (some ⟨w1.heap.size,0,none⟩) N N,.slice xo xn xc,.int .i64 (xe-low),.int .i64 (sgn ng xn)] W fun y w'=>y=.returned (.tuple #[])∧∃ c4,bw w' w1.heap.size N c4∧Wr w1.heap.size W w'∧kM N c (sgn ng xn) (P q*(2^p*val xd xn)) c4:=fun W h=>
      xm w1.heap.size N c xo xn xc q p xd W (hBx.keeps h) (hRX.keeps (zW (hbx.trans (h.mono hbx.size)))) s1.1 hlen hqN (by omega) hp _ HQP.out _ HSG.out (k*1073741823) HBD.out (by omega)
     go_region_held3 (fun W=>W.cell? ⟨wr.heap.size,0,none⟩=some (.bool ng)∧W.cell? ⟨wr.heap.size,1,none⟩=some (.slice xo xn xc)∧W.cell? ⟨wr.heap.size,2,none⟩=some (.int .i64 xe))
      (first|exact⟨k0,k1,k2⟩|exact fY (by assumption) (by assumption)|exact wy (by assumption) (by assumption) hgx)
      (first|(go_at_call 101;refine(C1 _ hb1.drew).mono ?_;rintro y w3 ⟨rfl,hbv1⟩)|(go_at_call 125;have _t:=hbv1;refine(C2 _ (af hb1.drew hbv1)).mono ?_;rintro y w4 ⟨rfl,c4,hB5,hW5,hP5⟩))
     go_wp2
     go_roundw
     case rel=>exact⟨k+1,c4,by omega,by go_num,hB5,HP.out _ hP5,hW5.below (hbx.trans ((af hb1.drew hbv1).mono hbx.size)) (by have:=hbx.size;have:=hbv1.size;exact Nat.le_trans hbx.size hbv1.size) (Nat.le_refl _),by have:=hW5.size;have:wx.heap.size<=w3.heap.size:=hbv1.size;omega⟩
     case measure=>simp[intOf];omega
   ·obtain rfl:k=n:=by omega
    have hbig:-P N<val c N∧val c N<P N:=by
     have h1:=HT.out.lo
     have h2:=HT.out.hi
     obtain⟨e1,e2⟩:=HLH.out
     have h3:((k:Int))*2^(high-low).toNat<2^60*2^(high-low).toNat:=Int.mul_lt_mul_of_pos_right (by omega) (aB _)
     rw[<- Int.pow_add] at h3
     have h4:(2:Int)^(60+(high-low).toNat)<=P N:=by rw[cP];exact cF (by omega)
     omega
    go_wp2_with fail
    refine(tq w1.heap.size N c wr hB (by omega) (fun i hi=>by have:=HT.out.bnd i hi;omega) hbig).mono ?_
    rintro y w5 ⟨c5,rfl,hB5,hW5,hD5,hV5⟩
    have hbw5:Below w1.heap.size w1 w5:=hW5.below hbw hbw.size (Nat.le_refl _)
    have hbw6:=af hbw1 hbw5
    have hsum:fH r k=sg (decide (val c N<0)) (val c5 N)*pw low:=by rw[hV5];exact HT.out.sum.symm
    have HSUM:Hid (fH r k=sg (decide (val c N<0)) (val c5 N)*pw low):=hsum
    clear hsum hbig hV5
    generalize hneg:decide (val c N<0)=neg at *
    go_wp2_with fail
    refine(lT (hB5.row0 (Nat.le_refl _) (by omega)) hD5 (by omega) (hT.keeps hbw6) hlow HSUM.out).mono ?_
    rintro y w7 (⟨hok,v,rfl,hD⟩|⟨hno,rfl,hb7⟩)
    ·have hb7:=hD.below
     have hf7:=hD.from hbw6
     obtain⟨ng',s',m',e',rfl,hy,hA⟩:=id hD
     obtain⟨so,sn,sc,rfl⟩:=hA.num.shape
     have g0:=(hb7.block w.heap.size (Nat.lt_of_lt_of_le (Nat.lt_of_lt_of_le (by rw[dV];omega) hb1.size) hbw5.size)).trans ((hbw5.block w.heap.size (Nat.lt_of_lt_of_le (by rw[dV];omega) hb1.size)).trans q0)
     have x0:=ac g0 0 rfl
     have x1:=ac g0 1 rfl
     have x2:=ac g0 2 rfl
     have z0:=aq g0 0
     have z1:=aq g0 1
     have z2:=aq g0 2
     go_wp2
     refine bodyPost_ret (v:=.agg #[.bool ng',.slice so sn sc,.int .i64 e']) (by simp[results,results107,go_sem,x0,x1,x2]) rfl ?_
     exact .inl ⟨hok,_,rfl,bD (g:=w.heap.size) hD hbw6 (Nat.le_refl _) (Nat.lt_of_lt_of_le (Nat.lt_of_lt_of_le (by rw[dV];omega) hb1.size) hbw5.size) _ _ _⟩
    ·exact⟨rfl,.inr ⟨hno,rfl,af hbw6 hb7⟩⟩
def aA.V (r:aA):Int:=sg r.ng (val r.d r.n)*pw r.e
def n9 (x y:aA):Nat->aA:=fun i=>if i=0 then x else y
theorem wA {w:World} {g:Nat} {x y:aA} {t:TypeId} (h:w.heap[g]?=some (.cells #[.bool x.ng,.slice x.ao x.n x.cap,.int .i64 x.e,.bool y.ng,.slice y.ao y.n y.cap,.int .i64 y.e] t (0,0))) (hx:aE w x.ao x.n x.cap x.d) (hy:aE w y.ao y.n y.cap y.d) :
    ef w (some ⟨g,0,none⟩) 2 2 (n9 x y) :=
  ⟨Nat.le_refl _,by decide,fun _=>⟨g,0,rfl,(Array.getElem?_eq_some_iff.1 h).1,fun i hi=>by
    match i,hi with
    | 0,_=>exact⟨ac h 0 rfl,ac h 1 rfl,ac h 2 rfl,hx⟩
    | 1,_=>exact ⟨ac h 3 rfl,ac h 4 rfl,ac h 5 rfl,hy⟩⟩⟩
theorem yF (x y:aA):jD (n9 x y) 2=(cQ x&&cQ y):=by
 unfold jD
 by_cases hx:cQ x=true
 ·by_cases hy:cQ y=true
  ·rw[hx,hy]
   exact decide_eq_true fun i hi=>by
    match i,hi with
    | 0,_=>exact hx
    | 1,_=>exact hy
  ·have:cQ y=false:=by simpa using hy
   rw[hx,this]
   exact decide_eq_false fun h=>hy (h 1 (by omega))
 ·have:cQ x=false:=by simpa using hx
  rw[this,Bool.false_and]
  exact decide_eq_false fun h=>hx (h 0 (by omega))
theorem zX (x y:aA):fH (n9 x y) 2=x.V+y.V:=by
 show 0+x.V+y.V=_
 rw[Int.zero_add]
theorem cd {x:aA} (h:cQ x=true):df x:=by
 rcases of_decide_eq_true h with⟨h1,h2,h3⟩|⟨h1,⟨h2,h3⟩,h4,h5,h6⟩
 ·exact⟨⟨fun i hi=>by omega,.inl h1⟩,by omega,by omega,by omega⟩
 ·exact⟨h3,by omega,by omega,by omega⟩
theorem im {x:aA} (h:cQ x=true):Dy x.V x.ng (val x.d x.n) x.e∧val x.d x.n<P 2000∧cK x.V:=by
 have hd:Dy x.V x.ng (val x.d x.n) x.e∧val x.d x.n<P 2000∧-1048576<=x.e∧x.e<=1048576:=by
  rcases of_decide_eq_true h with⟨h1,h2,h3⟩|⟨h1,⟨h2,h3⟩,h4,h5,h6⟩
  ·exact⟨⟨rfl,by omega,.inl ⟨by rw[h1];rfl,h2,h3⟩⟩,by rw[h1];show(0:Int)<P 2000;exact bH 2000,by omega,by omega⟩
  ·refine⟨⟨rfl,by omega,.inr ⟨eJ h3 h1,?_⟩⟩,?_,h5,h6⟩
   ·obtain⟨m,hm⟩:∃ m,x.n=m+1:=⟨x.n-1,by omega⟩
    have:=dz x.d 1 m
    rw[show 1+m=x.n by omega] at this
    rw[this]
    rw[show val x.d 1=x.d 0 by show 0+x.d 0*1=_;omega,show P 1=1073741824 from rfl]
    omega
   ·exact Int.lt_of_lt_of_le (bO h3.1) (fF h2)
 exact⟨hd.1,hd.2.1,hd.1.ok.2 hd.2⟩
theorem di {w w1:World} (h:Below w.heap.size w w1) {g:Nat} (hg:w.heap.size<=g) (a b c:Value):Below w.heap.size w (((w1.setCell ⟨g,0,none⟩ a).setCell ⟨g,1,none⟩ b).setCell ⟨g,2,none⟩ c) :=
 ((h.setCell (p:=⟨g,0,none⟩) hg a).setCell (p:=⟨g,1,none⟩) hg b).setCell (p:=⟨g,2,none⟩) hg c
theorem am {w:World} {g:Nat} {xs:Array Value} {t:TypeId} (h:w.heap[g]?=some (.cells xs t (0,0))) (i:Nat) (v:Value):(w.setCell ⟨g,i,none⟩ v).heap[g]?=some (.cells (xs.setIfInBounds i v) t (0,0)):=by
 simp[World.setCell,Array.getElem?_modify,h]
theorem tv {w:World} {ao:Option Addr} {n cap:Nat} {A:Int} (hx:bz w (.slice ao n cap) A) (hn:n<=500000) :
  Calls prog 156 #[.slice ao n cap] w fun e w'=>∃ v,e=.returned v∧cn w w' A v:=by
 obtain⟨ao',n',ca',d,e1,hR,h2,rfl⟩:=hx
 simp only[Value.slice.injEq] at e1
 obtain⟨rfl,rfl,rfl⟩:=e1
 refine(tj _ _ _ _ _ hR hn).mono ?_
 rintro e w' ⟨v,rfl,h1,hb⟩
 exact⟨v,rfl,n,d,h1,h2,rfl,hb⟩
theorem tw (g n cap:Nat) (d:Nat->Int) (w:World) (h:aE w (some ⟨g,0,none⟩) n cap d) :
  Calls prog 117 #[.slice (some ⟨g,0,none⟩) n cap] w fun e w'=>∃ t:Nat,t<=n∧jZ d t∧(∀ i,t<=i->i<n->d i=0)∧e=.returned (.slice (some ⟨g,0,none⟩) t cap)∧w'=w:=by
 have hl:=h.le
 have hm:=h.max
 go_enter func117,ntmps117
 go_wp2
 go_loop [3] (fun i=>∃ k:Nat,k<=n∧i=.int .i64 k∧∀ i,k<=i->i<n->d i=0) (fun i=>(intOf i).toNat)
 case atStart=>exact⟨n,Nat.le_refl _,rfl,fun i a b=>by omega⟩
 case round=>
  obtain⟨k,hk,rfl,hz⟩:=hrel
  have HZ:Hid (∀ i,k<=i->i<n->d i=0):=hz
  clear hz
  by_cases h0:k=0
  ·subst h0
   go_wp2
   go_ret
   exact⟨0,by omega,.inl rfl,HZ.out,by simp,rfl⟩
  ·obtain⟨b,off,eb,hb,hc⟩:=h.spot (by omega)
   simp only[Option.some.injEq,Addr.mk.injEq,and_true] at eb
   obtain⟨rfl,rfl⟩:=eb
   have c:=hc (k-1) (by omega)
   rw[Nat.zero_add] at c
   by_cases h1:d (k-1)=0
   ·go_wp2
    go_round
    case rel=>exact⟨k-1,by omega,by go_num,fun i a b=>by by_cases e:i=k-1;(· rw[e];exact h1);(· exact HZ.out i (by omega) b)⟩
    case measure=>simp[intOf];omega
   ·go_wp2
    go_ret
    exact⟨k,hk,.inr h1,HZ.out,by simp,rfl⟩
theorem yG {d:Nat->Int} {t:Nat} (hd:aZ d t) (h:0<t->P (t-1)<=val d t):jZ d t:=by
 by_cases h0:t=0
 ·exact .inl h0
 ·refine .inr fun e=>?_
  obtain⟨k,rfl⟩:∃ k,t=k+1:=⟨t-1,by omega⟩
  rw[Nat.add_sub_cancel] at e h
  have h1:=h (by omega)
  rw[aJ,e] at h1
  have h2:=bO (hd.le (Nat.le_succ k))
  omega
theorem dH (r:Nat->Int) (k:Nat) (x:Int):∀ i,i<k+1->iZ r k (fun _=>x) i=bP r k x i:=fun i hi=>by
 by_cases e:i<k
 ·simp[iZ,e,aU r _ (show i≠k by omega)]
 ·obtain rfl:i=k:=by omega
  simp[iZ,bh]
theorem dK {r:Nat->Int} {k:Nat} {x:Int} (h:aZ r k) (hx:0<=x∧x<1073741824):aZ (bP r k x) (k+1):=fun i hi=>by
 by_cases e:i=k
 ·rw[e,bh];exact hx
 ·rw[aU r x e];exact h i (by omega)
theorem ve (ao bo:Option Addr) (n m ca cb:Nat) (a b:Nat->Int) (w:World) (ha:aE w ao n ca a) (hb:aE w bo m cb b) (na:bK a n) (nb:bK b m) (hn:n<=100000) (hm:m<=100000) :
  Calls prog 95 #[.slice ao n ca,.slice bo m cb] w fun e w'=>∃ v,e=.returned v∧cn w w' (val a n+val b m) v:=by
 have hla:=ha.le
 have hma:=ha.max
 have hlb:=hb.le
 have hmb:=hb.max
 have da:=na.1
 have db:=nb.1
 obtain⟨M,hM1,hM2,hM3⟩:∃ M,n<=M∧m<=M∧(M<=n∨M<=m):=⟨max n m,by omega,by omega,by omega⟩
 go_enter func95,ntmps95
 go_wp2
 go_loopw [5,6,7] (fun l c i wr=>∃ (k:Nat) (q:Int) (r:Nat->Int),(k<=M∨(k=M+1∧q=0))∧i=.int .i64 k∧c=.int .i64 q∧0<=q∧q<=1∧bc w.heap.size wr l k r∧aZ r k∧Hid (val r k+q*P k=val (bm a n) k+val (bm b m) k)∧Hid (k=M+1->P M<=val a n+val b m)∧Below w.heap.size w wr) (fun _ _ i _=>M+1-(intOf i).toNat)
 case atStart=>exact⟨0,0,fun _=>0,.inl (Nat.zero_le _),rfl,rfl,by omega,by omega,bc.nil _ _ _,fun i hi=>by omega,by show _=_;rfl,fun h=>by omega,ap _⟩
 case round=>
  obtain⟨k,q,r,hk,rfl,rfl,hq0,hq1,hO,hD,HV,HT,hbw⟩:=hrel
  have hkM:k<=M+1:=by omega
  by_cases hkn:k<n
  ·by_cases hkm:k<m
   ·obtain⟨ba,fa,rfl,hba,hca⟩:=ha.spot (by omega)
    have c1:=(hbw.cell (p:=⟨ba,fa+k,none⟩) hba).trans (hca k hkn)
    have dk:=da k hkn
    obtain⟨bb,fb,rfl,hbb,hcb⟩:=hb.spot (by omega)
    have c2:=(hbw.cell (p:=⟨bb,fb+k,none⟩) hbb).trans (hcb k hkm)
    have dbk:=db k hkm
    have HX:Hid (q+a k+b k=q+(bm a n k+bm b m k)):=by show _=_;rw[cW a hkn,cW b hkm];omega
    go_wp2_with (at_builtin;refine b8 rfl _ _ rfl w.heap.size _ k r rfl (hO.stays (ah _ _)) _ 1 1 (fun _=>(q+a k+b k) % 1073741824) rfl (fW _ _ rfl) (by omega) (by have:=hbw.size;simp;omega) ?_;intro v' w1 hO1 hg1)
    have hb1:Below w.heap.size w w1:=(hbw.alloc hbw.size _).grown hg1 (by have:=hbw.size;simp;omega) (dn hO)
    have hs:=de (x:=bm a n k+bm b m k) HV.out
    rw[<- HX.out] at hs
    go_roundw
    case rel=>exact⟨k+1,(q+a k+b k)/1073741824,bP r k ((q+a k+b k) % 1073741824),by omega,by go_num,rfl,by omega,by omega,hO1.congr (dH r k _),dK hD (eK _),by show _=_;rw[hs,aJ,aJ];grind,fun h=>by omega,hb1⟩
    case measure=>simp[intOf];omega
   ·obtain⟨ba,fa,rfl,hba,hca⟩:=ha.spot (by omega)
    have c1:=(hbw.cell (p:=⟨ba,fa+k,none⟩) hba).trans (hca k hkn)
    have dk:=da k hkn
    have HX:Hid (q+a k=q+(bm a n k+bm b m k)):=by show _=_;rw[cW a hkn,eS b (by omega)];omega
    go_wp2_with (at_builtin;refine b8 rfl _ _ rfl w.heap.size _ k r rfl (hO.stays (ah _ _)) _ 1 1 (fun _=>(q+a k) % 1073741824) rfl (fW _ _ rfl) (by omega) (by have:=hbw.size;simp;omega) ?_;intro v' w1 hO1 hg1)
    have hb1:Below w.heap.size w w1:=(hbw.alloc hbw.size _).grown hg1 (by have:=hbw.size;simp;omega) (dn hO)
    have hs:=de (x:=bm a n k+bm b m k) HV.out
    rw[<- HX.out] at hs
    go_roundw
    case rel=>exact⟨k+1,(q+a k)/1073741824,bP r k ((q+a k) % 1073741824),by omega,by go_num,rfl,by omega,by omega,hO1.congr (dH r k _),dK hD (eK _),by show _=_;rw[hs,aJ,aJ];grind,fun h=>by omega,hb1⟩
    case measure=>simp[intOf];omega
  ·by_cases hkm:k<m
   ·obtain⟨bb,fb,rfl,hbb,hcb⟩:=hb.spot (by omega)
    have c2:=(hbw.cell (p:=⟨bb,fb+k,none⟩) hbb).trans (hcb k hkm)
    have dbk:=db k hkm
    have HX:Hid (q+b k=q+(bm a n k+bm b m k)):=by show _=_;rw[eS a (by omega),cW b hkm];omega
    go_wp2_with (at_builtin;refine b8 rfl _ _ rfl w.heap.size _ k r rfl (hO.stays (ah _ _)) _ 1 1 (fun _=>(q+b k) % 1073741824) rfl (fW _ _ rfl) (by omega) (by have:=hbw.size;simp;omega) ?_;intro v' w1 hO1 hg1)
    have hb1:Below w.heap.size w w1:=(hbw.alloc hbw.size _).grown hg1 (by have:=hbw.size;simp;omega) (dn hO)
    have hs:=de (x:=bm a n k+bm b m k) HV.out
    rw[<- HX.out] at hs
    go_roundw
    case rel=>exact⟨k+1,(q+b k)/1073741824,bP r k ((q+b k) % 1073741824),by omega,by go_num,rfl,by omega,by omega,hO1.congr (dH r k _),dK hD (eK _),by show _=_;rw[hs,aJ,aJ];grind,fun h=>by omega,hb1⟩
    case measure=>simp[intOf];omega
   ·by_cases hq:0<q
    ·have hkE:k=M:=by omega
     have HTT:Hid (P M<=val a n+val b m):=by
      show _<=_
      have h:=HV.out
      rw[hH a (by omega),hH b (by omega),show q=1 by omega,hkE] at h
      have:=aP hD
      rw[hkE] at this
      omega
     have HX:Hid (q=q+(bm a n k+bm b m k)):=by show _=_;rw[eS a (by omega),eS b (by omega)];omega
     go_wp2_with (at_builtin;refine b8 rfl _ _ rfl w.heap.size _ k r rfl (hO.stays (ah _ _)) _ 1 1 (fun _=>(q) % 1073741824) rfl (fW _ _ rfl) (by omega) (by have:=hbw.size;simp;omega) ?_;intro v' w1 hO1 hg1)
     have hb1:Below w.heap.size w w1:=(hbw.alloc hbw.size _).grown hg1 (by have:=hbw.size;simp;omega) (dn hO)
     have hs:=de (x:=bm a n k+bm b m k) HV.out
     rw[<- HX.out] at hs
     go_roundw
     case rel=>exact⟨k+1,(q)/1073741824,bP r k ((q) % 1073741824),by omega,by go_num,rfl,by omega,by omega,hO1.congr (dH r k _),dK hD (eK _),by show _=_;rw[hs,aJ,aJ];grind,fun h=>HTT.out,hb1⟩
     case measure=>simp[intOf];omega
    ·obtain rfl:q=0:=by omega
     have hkMM:M<=k:=by omega
     have hcd:decide ((0:Int)<0)=false:=by decide
     go_wp2
     go_ret
     have hv:val r k=val a n+val b m:=by
      have h:=HV.out
      rw[hH a (by omega),hH b (by omega)] at h
      omega
     refine⟨_,rfl,k,r,hO,⟨hD,yG hD fun hk0=>?_⟩,hv,hbw⟩
     rw[hv]
     have A0:=aP da
     have B0:=aP db
     rcases hk with h|⟨h,_⟩
     ·obtain rfl:k=M:=by omega
      rcases hM3 with q|q
      ·obtain rfl:k=n:=by omega
       have:=dF da hk0 na.2
       omega
      ·obtain rfl:k=m:=by omega
       have:=dF db hk0 nb.2
       omega
     ·rw[h,Nat.add_sub_cancel];exact HT.out h
theorem tx {B:Nat} {w:World} {v:Value} {n:Nat} {d:Nat->Int} (h:bc B w v n d) :
  Calls prog 117 #[v] w fun e w'=>∃ v',e=.returned v'∧∃ t,t<=n∧jZ d t∧(∀ i,t<=i->i<n->d i=0)∧bc B w v' t d∧w'=w:=by
 have h0:=h
 rcases h.2 with⟨rfl,rfl⟩|⟨g,cap,cur,rfl,hb,hg,hn,hm,hs,ht⟩
 ·go_enter func117,ntmps117
  go_wp2
  go_loop [3] (fun i=>i=.int .i64 0) (fun i=>0)
  case atStart=>rfl
  case round=>
   subst hrel
   go_wp2
   go_ret
   exact⟨_,rfl,.inl rfl,bc.nil _ _ _,rfl⟩
 ·obtain⟨ao,c,e,hR⟩:=h0.row
  simp only[Value.slice.injEq] at e
  obtain⟨rfl,_,rfl⟩:=e
  refine(tw g n cap d w hR).mono ?_
  rintro e w' ⟨t,h1,h2,h3,rfl,rfl⟩
  exact⟨_,rfl,t,h1,h2,h3,h0.cut h1,rfl⟩
theorem iF {w0 w:World} {v:Value} {n:Nat} {d:Nat->Int} (h:bc w0.heap.size w v n d) (hd:aZ d n) (hb:Below w0.heap.size w0 w) :
  Calls prog 117 #[v] w fun e w'=>∃ v',e=.returned v'∧cn w0 w (val d n) v'∧w'=w:=by
 refine(tx h).mono ?_
 rintro e w' ⟨v',rfl,t,ht,htop,hz,hO,rfl⟩
 obtain⟨hN,hv⟩:=fh hd ht htop hz
 exact⟨v',rfl,⟨t,d,hO,hN,hv,hb⟩,rfl⟩
theorem vf (ao bo:Option Addr) (n m ca cb:Nat) (a b:Nat->Int) (w:World) (ha:aE w ao n ca a) (hb:aE w bo m cb b) (na:bK a n) (nb:bK b m) :
  Calls prog 96 #[.slice ao n ca,.slice bo m cb] w fun e w'=>e=.returned (.int .i64 (aW (val a n) (val b m)))∧Below w.heap.size w w':=by
 have hla:=ha.le
 have hma:=ha.max
 have hlb:=hb.le
 have hmb:=hb.max
 by_cases hnm:n=m
 ·subst hnm
  go_enter func96,ntmps96
  go_wp2
  go_loopw [5] (fun i wr=>∃ k:Nat,k<=n∧i=.int .i64 ((k:Int)-1)∧Hid (∀ i,k<=i->i<n->a i=b i)∧Below w.heap.size w wr) (fun i _=>(intOf i+1).toNat)
  case atStart=>exact⟨n,Nat.le_refl _,rfl,fun i _ _=>by omega,ap _⟩
  case round=>
   obtain⟨k,hk,rfl,HS,hbw⟩:=hrel
   by_cases hlt:0<k
   ·obtain⟨j,rfl⟩:∃ j,k=j+1:=⟨k-1,by omega⟩
    have ej:((j+1:Nat):Int)-1=j:=by omega
    obtain⟨ba,fa,rfl,hba,hca⟩:=ha.spot (by omega)
    obtain⟨bb,fb,rfl,hbb,hcb⟩:=hb.spot (by omega)
    have c1:=(hbw.cell (p:=⟨ba,fa+j,none⟩) hba).trans (hca j (by omega))
    have c2:=(hbw.cell (p:=⟨bb,fb+j,none⟩) hbb).trans (hcb j (by omega))
    rw[ej]
    by_cases h1:a j<b j
    ·go_wp2
     go_quiet (fail)
     go_wp2
     go_ret
     exact⟨bZ ((cX h1).symm.trans (qF na.1 nb.1 (show j<n by omega) (fun i x y=>HS.out i (by omega) y) (by omega))),aI hbw _⟩
    ·by_cases h2:b j<a j
     ·go_wp2
      go_quiet (fail)
      go_wp2
      go_quiet (fail)
      go_wp2
      go_ret
      exact⟨bZ ((cY h2).symm.trans (qF na.1 nb.1 (show j<n by omega) (fun i x y=>HS.out i (by omega) y) (by omega))),aI (aI hbw _) _⟩
     ·go_wp2
      go_quiet (fail)
      go_wp2
      go_quiet (fail)
      go_wp2
      go_roundw
      case rel=>exact⟨j,by omega,by go_num,fun i x y=>by by_cases e:i=j;(· rw[e];omega);(· exact HS.out i (by omega) y),aI hbw _⟩
      case measure=>simp[intOf];try omega
   ·obtain rfl:k=0:=by omega
    go_wp2
    go_ret
    exact⟨bZ (eG (cV fun i hi=>HS.out i (by omega) hi)).symm,hbw⟩
 ·by_cases hlt:n<m
  ·go_enter func96,ntmps96
   go_wp2
   go_ret
   exact⟨bZ (cX (j5 na.1 nb hlt)).symm,ap _⟩
  ·go_enter func96,ntmps96
   go_wp2
   go_ret
   exact⟨bZ (cY (j5 nb.1 na (by omega))).symm,ap _⟩
theorem oI (ao bo:Option Addr) (n m ca cb:Nat) (a b:Nat->Int) (w:World) (ha:aE w ao n ca a) (hb:aE w bo m cb b) (na:bK a n) (nb:bK b m) (hn:n<=100000) (hle:val b m<=val a n) :
  Calls prog 97 #[.slice ao n ca,.slice bo m cb] w fun e w'=>∃ v,e=.returned v∧cn w w' (val a n-val b m) v:=by
 have hla:=ha.le
 have hma:=ha.max
 have hlb:=hb.le
 have hmb:=hb.max
 have da:=na.1
 have db:=nb.1
 have hmn:m<=n:=rj nb da hle
 have HLE:Hid (val b m<=val a n):=hle
 clear hle
 go_enter func97,ntmps97
 go_wp2
 go_loopw [5,6,7] (fun l c i wr=>∃ (k:Nat) (q:Int) (r:Nat->Int),k<=n∧i=.int .i64 k∧c=.int .i64 q∧0<=q∧q<=1∧bc w.heap.size wr l k r∧aZ r k∧Hid (val r k-q*P k=val (bm a n) k-val (bm b m) k)∧Below w.heap.size w wr) (fun _ _ i _=>n-(intOf i).toNat)
 case atStart=>exact⟨0,0,fun _=>0,Nat.zero_le _,rfl,rfl,by omega,by omega,bc.nil _ _ _,fun i hi=>by omega,by show _=_;rfl,ap _⟩
 case round=>
  obtain⟨k,q,r,hk,rfl,rfl,hq0,hq1,hO,hD,HV,hbw⟩:=hrel
  by_cases hkn:k<n
  ·obtain⟨ba,fa,rfl,hba,hca⟩:=ha.spot (by omega)
   have c1:=(hbw.cell (p:=⟨ba,fa+k,none⟩) hba).trans (hca k hkn)
   have dk:=da k hkn
   by_cases hkm:k<m
   ·obtain⟨bb,fb,rfl,hbb,hcb⟩:=hb.spot (by omega)
    have c2:=(hbw.cell (p:=⟨bb,fb+k,none⟩) hbb).trans (hcb k hkm)
    have dbk:=db k hkm
    have HX:Hid (-q+(bm a n k-bm b m k)=a k-q-b k):=by show _=_;rw[cW a hkn,cW b hkm];omega
    by_cases hneg:a k-q-b k<0
    ·go_wp2_with (at_builtin;refine b8 rfl _ _ rfl w.heap.size _ k r rfl (hO.stays (ah _ _)) _ 1 1 (fun _=>(a k-q-b k+1073741824)) rfl (fW _ _ rfl) (by omega) (by have:=hbw.size;simp;omega) ?_;intro v' w1 hO1 hg1)
     have hb1:Below w.heap.size w w1:=(hbw.alloc hbw.size _).grown hg1 (by have:=hbw.size;simp;omega) (dn hO)
     have hs:=de (c:=-q) (x:=bm a n k-bm b m k) (r:=r) (k:=k) (V:=val (bm a n) k-val (bm b m) k) (by have:=HV.out;rw[Int.neg_mul];omega)
     rw[show -q+(bm a n k-bm b m k)=a k-q-b k from HX.out,show(a k-q-b k) % 1073741824=(a k-q-b k+1073741824) by omega,show(a k-q-b k)/1073741824=-1 by omega] at hs
     go_roundw
     case rel=>exact⟨k+1,1,bP r k (a k-q-b k+1073741824),by omega,by go_num,rfl,by omega,by omega,hO1.congr (dH r k _),dK hD (by omega),by show _=_;rw[aJ (bm a n),aJ (bm b m)];rw[Int.sub_mul] at hs;omega,hb1⟩
     case measure=>simp[intOf];omega
    ·go_wp2_with (at_builtin;refine b8 rfl _ _ rfl w.heap.size _ k r rfl (hO.stays (ah _ _)) _ 1 1 (fun _=>(a k-q-b k)) rfl (fW _ _ rfl) (by omega) (by have:=hbw.size;simp;omega) ?_;intro v' w1 hO1 hg1)
     have hb1:Below w.heap.size w w1:=(hbw.alloc hbw.size _).grown hg1 (by have:=hbw.size;simp;omega) (dn hO)
     have hs:=de (c:=-q) (x:=bm a n k-bm b m k) (r:=r) (k:=k) (V:=val (bm a n) k-val (bm b m) k) (by have:=HV.out;rw[Int.neg_mul];omega)
     rw[show -q+(bm a n k-bm b m k)=a k-q-b k from HX.out,show(a k-q-b k) % 1073741824=(a k-q-b k) by omega,show(a k-q-b k)/1073741824=-0 by omega] at hs
     go_roundw
     case rel=>exact⟨k+1,0,bP r k (a k-q-b k),by omega,by go_num,rfl,by omega,by omega,hO1.congr (dH r k _),dK hD (by omega),by show _=_;rw[aJ (bm a n),aJ (bm b m)];rw[Int.sub_mul] at hs;omega,hb1⟩
     case measure=>simp[intOf];omega
   ·have HX:Hid (-q+(bm a n k-bm b m k)=a k-q):=by show _=_;rw[cW a hkn,eS b (by omega)];omega
    by_cases hneg:a k-q<0
    ·go_wp2_with (at_builtin;refine b8 rfl _ _ rfl w.heap.size _ k r rfl (hO.stays (ah _ _)) _ 1 1 (fun _=>(a k-q+1073741824)) rfl (fW _ _ rfl) (by omega) (by have:=hbw.size;simp;omega) ?_;intro v' w1 hO1 hg1)
     have hb1:Below w.heap.size w w1:=(hbw.alloc hbw.size _).grown hg1 (by have:=hbw.size;simp;omega) (dn hO)
     have hs:=de (c:=-q) (x:=bm a n k-bm b m k) (r:=r) (k:=k) (V:=val (bm a n) k-val (bm b m) k) (by have:=HV.out;rw[Int.neg_mul];omega)
     rw[show -q+(bm a n k-bm b m k)=a k-q from HX.out,show(a k-q) % 1073741824=(a k-q+1073741824) by omega,show(a k-q)/1073741824=-1 by omega] at hs
     go_roundw
     case rel=>exact⟨k+1,1,bP r k (a k-q+1073741824),by omega,by go_num,rfl,by omega,by omega,hO1.congr (dH r k _),dK hD (by omega),by show _=_;rw[aJ (bm a n),aJ (bm b m)];rw[Int.sub_mul] at hs;omega,hb1⟩
     case measure=>simp[intOf];omega
    ·go_wp2_with (at_builtin;refine b8 rfl _ _ rfl w.heap.size _ k r rfl (hO.stays (ah _ _)) _ 1 1 (fun _=>(a k-q)) rfl (fW _ _ rfl) (by omega) (by have:=hbw.size;simp;omega) ?_;intro v' w1 hO1 hg1)
     have hb1:Below w.heap.size w w1:=(hbw.alloc hbw.size _).grown hg1 (by have:=hbw.size;simp;omega) (dn hO)
     have hs:=de (c:=-q) (x:=bm a n k-bm b m k) (r:=r) (k:=k) (V:=val (bm a n) k-val (bm b m) k) (by have:=HV.out;rw[Int.neg_mul];omega)
     rw[show -q+(bm a n k-bm b m k)=a k-q from HX.out,show(a k-q) % 1073741824=(a k-q) by omega,show(a k-q)/1073741824=-0 by omega] at hs
     go_roundw
     case rel=>exact⟨k+1,0,bP r k (a k-q),by omega,by go_num,rfl,by omega,by omega,hO1.congr (dH r k _),dK hD (by omega),by show _=_;rw[aJ (bm a n),aJ (bm b m)];rw[Int.sub_mul] at hs;omega,hb1⟩
     case measure=>simp[intOf];omega
  ·obtain rfl:k=n:=by omega
   have HD:Hid (aZ r k∧val r k=val a k-val b m):=by
    refine⟨hD,?_⟩
    have h1:=HV.out
    rw[hH a (Nat.le_refl _),hH b hmn] at h1
    have h2:=bO hD
    have h3:=HLE.out
    have hp:=bH k
    rcases (show q=0∨q=1 by omega) with e|e
    ·subst e;omega
    ·subst e;omega
   go_wp2_with (go_at_call 117;refine(iF hO hD hbw).mono ?_;rintro e w3 ⟨v',rfl,hA,rfl⟩)
   go_ret
   exact⟨_,rfl,by rw[<- HD.out.2];exact hA⟩
theorem vg (ao bo:Option Addr) (n m ca cb:Nat) (a b:Nat->Int) (w:World) (ha:aE w ao n ca a) (hb:aE w bo m cb b) (na:bK a n) (nb:bK b m) (hn:n<=100000) (hm:m<=100000) :
  Calls prog 93 #[.slice ao n ca,.slice bo m cb] w fun e w'=>∃ v,e=.returned v∧cn w w' (val a n*val b m) v:=by
 have hla:=ha.le
 have hma:=ha.max
 have hlb:=hb.le
 have hmb:=hb.max
 have da:=na.1
 have db:=nb.1
 by_cases hn0:n=0
 ·subst hn0
  go_enter func93,ntmps93
  go_wp2
  go_ret
  exact⟨_,rfl,by rw[show val a 0*val b m=0 from Int.zero_mul _];exact cn.nil (ap _)⟩
 ·by_cases hm0:m=0
  ·subst hm0
   go_enter func93,ntmps93
   go_wp2
   go_ret
   exact⟨_,rfl,by rw[show val a n*val b 0=0 from Int.mul_zero _];exact cn.nil (ap _)⟩
  ·have e1:((n:Int) == 0)=false:=by simp;omega
   have e2:((m:Int) == 0)=false:=by simp;omega
   go_enter func93,ntmps93
   go_wp2_with (at_make;refine gK rfl _ _ rfl _ _ (n+m) rfl rfl (by omega) (by omega) (by omega) ?_;intro w1 hB1 hb1)
   go_loopw [6] (fun i wr=>∃ (k:Nat) (r:Nat->Int),k<=n∧i=.int .i64 k∧bw wr w.heap.size (n+m) r∧aZ r (n+m)∧Hid (∀ t,k+m<=t->r t=0)∧Hid (val r (k+m)=val a k*val b m)∧Below w.heap.size w wr) (fun i _=>n-(intOf i).toNat)
   case atStart=>exact⟨0,fun _=>0,Nat.zero_le _,rfl,hB1,jy _,fun _ _=>rfl,by show _=_;rw[dC (Nat.zero_le (0+m)) (fun _ _ _=>rfl)];show 0=0*val b m;omega,hb1⟩
   case round=>
    obtain⟨i,r0,hi,rfl,hB0,hD0,HZ0,HV0,hbw0⟩:=hrel
    by_cases hlt:i<n
    ·obtain⟨ba,fa,rfl,hba,hca⟩:=ha.spot (by omega)
     have dai:=da i hlt
     go_wp2
     go_loopw [7,8] (fun c j wr=>∃ (k:Nat) (q:Int) (r:Nat->Int),k<=m∧j=.int .i64 k∧c=.int .i64 q∧0<=q∧q<1073741824∧bw wr w.heap.size (n+m) r∧aZ r (n+m)∧Hid (∀ t,i+k<=t->r t=r0 t)∧Hid (val r (i+k)+q*P (i+k)=val r0 (i+k)+a i*val b k*P i)∧Below w.heap.size w wr) (fun _ j _=>m-(intOf j).toNat)
     case atStart=>exact⟨0,0,r0,Nat.zero_le _,rfl,rfl,by omega,by omega,hB0,hD0,fun _ _=>rfl,by show _=_;show val r0 i+0*P i=val r0 i+a i*0*P i;grind,hbw0⟩
     case round=>
      obtain⟨k,q,r,hk,rfl,rfl,hq0,hq1,hB,hD,HS,HV,hbw⟩:=hrel
      have c1:=(hbw.cell (p:=⟨ba,fa+i,none⟩) hba).trans (hca i hlt)
      by_cases hkm:k<m
      ·obtain⟨bb,fb,rfl,hbb,hcb⟩:=hb.spot (by omega)
       have c2:=(hbw.cell (p:=⟨bb,fb+k,none⟩) hbb).trans (hcb k hkm)
       have c3:=hB.cell (show i+k<n+m by omega)
       have fg:=hB.frozen (i+k)
       have drk:=hD (i+k) (by omega)
       have hmul:=qB dai (db k hkm)
       go_wp2
       go_quiet (fail)
       go_wp2
       have hs:=ow (b:=b) (j:=k) HV.out (HS.out (i+k) (Nat.le_refl _))
       rw[show q+(a i*b k+r (i+k))=r (i+k)+a i*b k+q by omega] at hs
       go_roundw
       case rel=>exact⟨k+1,(r (i+k)+a i*b k+q)/1073741824,bP r (i+k) ((r (i+k)+a i*b k+q) % 1073741824),by omega,by go_num,rfl,by omega,by omega,hB.store (i+k) _,hD.upd _ (eK _),fun t ht=>by rw[aU r _ (by omega)];exact HS.out t (by omega),hs,(aI hbw _).setCell (Nat.le_refl _) _⟩
       case measure=>simp[intOf];omega
      ·obtain rfl:k=m:=by omega
       have c3:=hB.cell (show i+k<n+k by omega)
       have fg:=hB.frozen (i+k)
       go_wp2
       have hr:=qC HV.out HV0.out
       go_roundw
       case rel=>exact⟨i+1,bP r (i+k) q,by omega,by go_num,hB.store (i+k) _,hD.upd _ ⟨hq0,hq1⟩,fun t ht=>by rw[aU r _ (by omega),HS.out t (by omega)];exact HZ0.out t (by omega),by show _=_;rw[hr,aJ],hbw.setCell (Nat.le_refl _) _⟩
       case measure=>simp[intOf];omega
    ·obtain rfl:i=n:=by omega
     go_wp2_with (go_at_call 117;refine(iF (hB0.out (Nat.le_refl _) (Nat.le_refl _) (by omega)) hD0 hbw0).mono ?_;rintro e w3 ⟨v',rfl,hA,rfl⟩)
     go_ret
     exact⟨_,rfl,by rw[<- HV0.out];exact hA⟩
theorem iG {x:Int} (h:0<x):ax x=ax (x/2)+1:=by
 obtain⟨h1,h2⟩:=gm h
 have h3:=gk x
 obtain⟨k,hk⟩:∃ k,ax x=k+1:=⟨ax x-1,by omega⟩
 rw[hk] at h2 h3 ⊢
 rw[Nat.add_sub_cancel] at h2
 rw[Int.pow_succ] at h3
 cases k with
 | zero=>
  have:x=1:=by simp at h3 h2;omega
  subst this;decide
 | succ j=>
  rw[Int.pow_succ] at h2
  have e1:(2:Int)^j<=x/2:=by omega
  have e2:x/2<2^(j+1):=by omega
  rw[i5 e1 e2]
theorem ty (V:Int) (w:World) (h0:0<=V) (h1:V<9223372036854775808) :
    Calls prog 128 #[.int .i64 V] w fun e w'=>∃ v,e=.returned v∧cn w w' V v:=by
  have HM:Hid (V<9223372036854775808):=h1
  clear h1
  go_enter func128,ntmps128
  go_wp2
  go_loopw [0,3] (fun i v wr=>∃ (x:Int) (k:Nat) (r:Nat->Int),i=.int .i64 x∧0<=x∧k<=3∧bc w.heap.size wr v k r∧aZ r k∧Hid (x*P k<=V)∧Hid (x=0->jZ r k)∧Hid (val r k+x*P k=V)∧Below w.heap.size w wr) (fun i _ _=>(intOf i).toNat)
  case atStart=>exact⟨V,0,fun _=>0,rfl,h0,by omega,bc.nil _ _ _,fun i hi=>by omega,by show _<=_;show V*1<=V;omega,fun _=>.inl rfl,by show _=_;show 0+V*1=V;omega,ap _⟩
  case round=>
    obtain⟨x,k,r,rfl,hx,hk3,hO,hD,HB,HT,HV,hbw⟩:=hrel
    by_cases hp:0<x
    · have hk2:k<=2:=by
        by_cases e:k=3
        · subst e
          have a:=HB.out
          have b:=HM.out
          have c:P 3=1073741824*1073741824*1073741824:=by decide
          have d:1*P 3<=x*P 3:=Int.mul_le_mul_of_nonneg_right (by omega) (Int.le_of_lt (bH 3))
          omega
        · omega
      have hx2:x<=9223372036854775807:=by
        have a:=HB.out
        have b:=HM.out
        have c:x*1<=x*P k:=Int.mul_le_mul_of_nonneg_left (by have:=bH k;omega) (by omega)
        omega
      go_wp2_with (at_builtin;refine b8 rfl _ _ rfl w.heap.size _ k r rfl (hO.stays (ah _ _)) _ 1 1 (fun _=>x % 1073741824) rfl (fW _ _ rfl) (by omega) (by have:=hbw.size;simp;omega) ?_;intro v' w1 hO1 hg1)
      have hb1:Below w.heap.size w w1:=(hbw.alloc hbw.size _).grown hg1 (by have:=hbw.size;simp;omega) (dn hO)
      have hs:=de (c:=0) (x:=x) (show val r k+0*P k=val r k by omega)
      rw[Int.zero_add] at hs
      go_roundw
      case rel=>exact ⟨x/1073741824,k+1,bP r k (x % 1073741824),rfl,by omega,by omega,hO1.congr (dH r k _),dK hD (eK _),by
          show _<=_
          have a:=HB.out
          rw[d9,show x/1073741824*(P k*1073741824)=(x/1073741824*1073741824)*P k by grind]
          have b:(x/1073741824*1073741824)*P k<=x*P k:=Int.mul_le_mul_of_nonneg_right (by omega) (Int.le_of_lt (bH k))
          omega,fun e=>.inr (by rw [Nat.add_sub_cancel,bh]; omega),by show _=_; rw [hs]; exact HV.out,hb1⟩
      case measure=>simp[intOf];omega
    · obtain rfl:x=0:=by omega
      go_wp2
      go_ret
      exact⟨_,rfl,k,r,hO,⟨hD,HT.out (by first|rfl|trivial)⟩,by have:=HV.out;omega,hbw⟩
theorem tz (ao:Option Addr) (n cap:Nat) (d:Nat->Int) (w:World) (h:aE w ao n cap d) (hd:bK d n) (hn:n<=1000000) :
  Calls prog 148 #[.slice ao n cap] w fun e w'=>e=.returned (.int .i64 (ax (val d n)))∧w'=w:=by
 have hl:=h.le
 have hm:=h.max
 by_cases h0:n=0
 ·subst h0
  go_enter func148,ntmps148
  go_wp2
  go_ret
  exact⟨rfl,rfl⟩
 ·obtain⟨k,rfl⟩:∃ k,n=k+1:=⟨n-1,by omega⟩
  obtain⟨b,off,rfl,hb,hc⟩:=h.spot (by omega)
  have c:=hc k (by omega)
  have dk:=hd.1 k (by omega)
  have HV:Hid (ax (val d (k+1))=30*k+ax (d k)):=lm hd
  have hbl:ax (d k)<=30:=cz (by show d k<1073741824;exact dk.2)
  go_enter func148,ntmps148
  go_wp2
  go_loop [3,4] (fun s v=>∃ (x:Int) (t:Nat),s=.int .i64 t∧v=.int .i64 x∧0<=x∧x<1073741824∧t<=30*k+30∧Hid (t+ax x=30*k+ax (d k))) (fun _ v=>(intOf v).toNat)
  case atStart=>exact⟨d k,30*k,by go_num,rfl,dk.1,dk.2,by omega,rfl⟩
  case round=>
   obtain⟨x,t,rfl,rfl,hx0,hx1,ht,HT⟩:=hrel
   by_cases hp:0<x
   ·have ht2:t+1<=30*k+30:=by have:=HT.out;have:=iG hp;omega
    go_wp2
    go_round
    case rel=>exact⟨x/2,t+1,by go_num,rfl,by omega,by omega,ht2,by show _=_;have:=HT.out;have:=iG hp;omega⟩
    case measure=>simp[intOf];omega
   ·obtain rfl:x=0:=by omega
    go_wp2
    go_ret
    exact⟨bZ (by have:=HT.out;rw[mY] at this;rw[HV.out];omega),rfl⟩
theorem vh (ao:Option Addr) (n cap:Nat) (d:Nat->Int) (w:World) (h:aE w ao n cap d) (hd:bK d n) (hn:n<=100000) (i:Nat) (hi:i<=4000000) :
    Calls prog 149 #[.slice ao n cap,.int .i64 i] w fun e w'=>e=.returned (.bool (jF (val d n) i))∧w'=w:=by
  have hl:=h.le
  have hm:=h.max
  obtain⟨q,p,hq,hp⟩:∃ q p:Nat,i=30*q+p∧p<30:=⟨i/30,i % 30,by omega,by omega⟩
  have e1:(i:Int)/30=q:=by omega
  have e2:(i:Int) % 30=p:=by omega
  by_cases hqn:q<n
  · have HV:Hid (jF (val d n) i=(d q/2^p % 2 == 1)):=by unfold jF;show _=_;rw[hq,xr hd.1 hqn hp]
    clear hq
    obtain⟨b,off,rfl,hb,hc⟩:=h.spot (by omega)
    have c:=hc q hqn
    have dq:=hd.1 q hqn
    have hd0:0<=d q/2^p:=Int.ediv_nonneg dq.1 (Int.le_of_lt (aB p))
    go_enter func149,ntmps149
    go_wp2
    go_ret
    exact⟨a8 HV.out.symm,rfl⟩
  · have HV:Hid (jF (val d n) i=false):=va (aP hd.1) (by
      refine Nat.le_trans (cz (k:=30*n) (by rw [<- cP]; exact bO hd.1)) (by omega))
    clear hq
    go_enter func149,ntmps149
    go_wp2
    go_ret
    exact⟨a8 HV.out.symm,rfl⟩
end Go.Proofs.YtcklaogdjpbagaaGreatDoor
