/- Parts of the proof. -/
import Derived.Test.YtcklaogdjpbagaaGreatDoorSa2
import Derived.Deep.RegionHeld3
import Derived.Test.YtcklaogdjpbagaaGreatDoorSa1
import Derived.Deep.LoopGhost
import Derived.Deep.RegionWith
import Derived.Laws.Externs
import Derived.Laws.Cover2
set_option maxRecDepth 100000
set_option maxHeartbeats 8000000
set_option linter.unusedVariables false
set_option linter.unusedSimpArgs false
namespace Go.Proofs.YtcklaogdjpbagaaGreatDoor
open Go Go.Proofs.Tryz Go.RowKit Go.Proofs.YtcklaogdjpbagaaGreatDoor.M
def gj (r:Nat->aI):Nat->Int|0=>0|k+1=>gj r k+sg (r k).ng (val (r k).d (r k).n)*pw (r k).e
def mD (w:World) (V:Int) (x:Ending) (w':World):Prop:=(cY V∧∃ v,x=.returned v∧aW w w' V v)∨(¬ cY V∧x=qD∧Below w.heap.size w w')
theorem nm {ng:Bool} {ao:Option Addr} {n cap:Nat} {d:Nat->Int} {e:Int} {w:World} (h:aS w ao n cap d) (hd:bF d n) (hn:n<=100000) (hT:dZ w) (he:-4194304<=e) {V:Int} (hV:V=sg ng (val d n)*pw e) :
  Calls prog 121 #[.agg #[.bool ng,.slice ao n cap,.int .i64 e]] w (mD w V):=by
 by_cases hok:cY V
 ·refine(vF h hd hn hT he hV hok).mono ?_
  rintro x w' ⟨v,rfl,hD⟩
  exact .inl ⟨hok,v,rfl,hD⟩
 ·refine(sK h hd hn hT he hV hok).mono ?_
  rintro x w' ⟨rfl,hb⟩
  exact .inr ⟨hok,rfl,hb⟩
theorem qF {F:Nat} {cap:Array Value} {w:World} {V:Int} (hE:∀ w,(callFunc F cap).run prog w=.ok (.enter F cap) w) (h:∀ W,Below w.heap.size w W->Calls prog F cap W (mD W V)) :
  Calls prog 105 #[.func (.func F) #[] cap] w fun r w'=>∃ v er,r=.returned (.tuple #[v,.int .i64 er])∧ja w w' V v er:=by
 refine xF hE (fun hok W hW=>(h W hW).mono ?_) (fun hok W hW=>(h W hW).mono ?_)
 ·rintro x w' (⟨_,v,rfl,hD⟩|⟨hn,_⟩)
  ·exact⟨v,rfl,hD⟩
  ·exact absurd hok hn
 ·rintro x w' (⟨hy,_⟩|⟨_,rfl,hb⟩)
  ·exact absurd hy hok
  ·exact⟨rfl,hb⟩
theorem oP {r:Nat->aI}:∀ {n:Nat},(∀ i,i<n->(r i).n=0)->gj r n=0
 | 0,_=>rfl
 | n+1,h=>by
  show gj r n+_=0
  rw[oP fun i hi=>h i (by omega),h n (by omega)]
  show 0+sg _ 0*_=0
  rw[ed,Int.zero_mul,Int.add_zero]
theorem vI {r:Nat->aI} {k:Nat} {low high:Int} (hs:dR (r k)) (ha:low<=(r k).e∧(r k).e+aG (val (r k).d (r k).n)<=high) :
  val (r k).d (r k).n*2^((r k).e-low).toNat<2^(high-low).toNat∧0<=val (r k).d (r k).n*2^((r k).e-low).toNat:=by
 have hv:=bz hs.1.1
 obtain⟨a,b⟩:=ha
 have h1:=gS (val (r k).d (r k).n)
 have h2:val (r k).d (r k).n*2^((r k).e-low).toNat<2^aG (val (r k).d (r k).n)*2^((r k).e-low).toNat:=Int.mul_lt_mul_of_pos_right h1 (aJ _)
 rw[<- Int.pow_add] at h2
 have h3:(2:Int)^(aG (val (r k).d (r k).n)+((r k).e-low).toNat)<=2^(high-low).toNat:=dp (by omega)
 exact⟨by omega,Int.mul_nonneg hv (Int.le_of_lt (aJ _))⟩
structure iC (r:Nat->aI) (low high:Int) (N k:Nat) (c:Nat->Int):Prop where
 sum:val c N*pw low=gj r k
 bnd:∀ i,i<N->-((k:Int)*1073741823)<=c i∧c i<=k*1073741823
 lo:-((k:Int)*2^(high-low).toNat)<=val c N
 hi:val c N<=k*2^(high-low).toNat
theorem iC.start (r:Nat->aI) (low high:Int) (N:Nat):iC r low high N 0 (fun _=>0):=by
 have e:val (fun _=>0) N=0:=eY (Nat.zero_le _) (fun _ _ _=>rfl)
 exact⟨by rw[e,Int.zero_mul];rfl,fun i _=>⟨by omega,by omega⟩,by rw[e];simp,by rw[e];simp⟩
theorem iC.skip {r:Nat->aI} {low high:Int} {N k:Nat} {c:Nat->Int} (h:iC r low high N k c) (h0:(r k).n=0):iC r low high N (k+1) c:=by
 have e:gj r (k+1)=gj r k:=by
  show gj r k+_=_
  rw[h0]
  show gj r k+sg _ 0*_=_
  rw[ed,Int.zero_mul,Int.add_zero]
 have hp:=aJ (high-low).toNat
 have e2:((k+1:Nat):Int)*2^(high-low).toNat=k*2^(high-low).toNat+2^(high-low).toNat:=by rw[Int.natCast_add,Int.add_mul];simp
 refine⟨by rw[e];exact h.sum,fun i hi=>?_,?_,?_⟩
 ·have:=h.bnd i hi;omega
 ·have:=h.lo;omega
 ·have:=h.hi;omega
theorem vJ (ng:Bool) {n:Nat} (h:0<n) (x:Int):dT ng n*x=sg ng x∧(dT ng n=1∨dT ng n=-1):=by
 have:n≠0:=by omega
 cases ng<;>simp[dT,sg,this]
theorem iC.put {r:Nat->aI} {low high:Int} {N k q p:Nat} {c c':Nat->Int} (h:iC r low high N k c) (hs:dR (r k)) (h0:0<(r k).n) (ha:low<=(r k).e∧(r k).e+aG (val (r k).d (r k).n)<=high) (hl:-4194304<=low) (hqp:(r k).e-low=30*q+p) (hp:p<30)
  (hP:lR N c (dT (r k).ng (r k).n) (P q*(2^p*val (r k).d (r k).n)) c'):iC r low high N (k+1) c':=by
 obtain⟨b1,b0⟩:=vI hs ha
 obtain⟨a1,a2⟩:=ha
 have e1:(2:Int)^((r k).e-low).toNat=P q*2^p:=by
  rw[show((r k).e-low).toNat=30*q+p by omega,Int.pow_add,dG]
 have e2:P q*(2^p*val (r k).d (r k).n)=val (r k).d (r k).n*2^((r k).e-low).toNat:=by rw[e1];grind
 rw[e2] at hP
 generalize hX:val (r k).d (r k).n*2^((r k).e-low).toNat=X at *
 obtain⟨s1,s2⟩:=vJ (r k).ng h0 X
 have hsum:=hP.sum
 rw[s1] at hsum
 have hpp:=aJ (high-low).toNat
 have e3:((k+1:Nat):Int)*2^(high-low).toNat=k*2^(high-low).toNat+2^(high-low).toNat:=by rw[Int.natCast_add,Int.add_mul];simp
 have hsx:-X<=sg (r k).ng X∧sg (r k).ng X<=X:=by cases (r k).ng<;>simp[sg]<;>omega
 refine⟨?_,fun i hi=>?_,?_,?_⟩
 ·rw[hsum,Int.add_mul,h.sum]
  show _=gj r k+sg (r k).ng (val (r k).d (r k).n)*pw (r k).e
  rw[iZ hl a1,<- hX,il,il];grind
 ·have h1:=h.bnd i hi
  have h2:=vz s2 (hP.near i) (C:=k*1073741823) h1
  omega
 ·have:=h.lo;omega
 ·have:=h.hi;omega
theorem xG {d:Nat->Int} {n:Nat} (h:cf d n) (h0:0<n):30*(n-1)+1<=aG (val d n):=by
 obtain⟨m,rfl⟩:∃ m,n=m+1:=⟨n-1,by omega⟩
 rw[mw h]
 have hd:=h.1 m (by omega)
 have ht:d m≠0:=by
  rcases h.2 with h1|h1
  ·omega
  ·rwa [Nat.add_sub_cancel] at h1
 have:=(gT (show 0<d m by omega)).1
 omega
theorem oQ (ao:Option Addr) (n cap:Nat) (r:Nat->aI) (w:World) (h:fG w ao n cap r) (hs:∀ i,i<n->dR (r i)) (hn:n<=100000) (hT:dZ w) :
  Calls prog 107 #[.slice ao n cap] w (mD w (gj r n)):=by
 have hl:=h.le
 have hm:=h.max
 have HS:Hid (∀ i,i<n->dR (r i)):=hs
 go_enter func107,ntmps107
 go_wp2_with fail
 refine(vG ao n cap r _ (h.keeps (ah _ _)) hs).mono ?_
 rintro x w1 ⟨low,high,rfl,hR,hb1⟩
 clear hs
 have q0:=(hb1.block w.heap.size (by rw[eF];omega)).trans (aA _ _)
 have x0:=af q0 0 rfl
 have x1:=af q0 1 rfl
 have x2:=af q0 2 rfl
 have z0:=ar q0 0
 have z1:=ar q0 1
 have z2:=ar q0 2
 have hbw1:=ac (ah w _) hb1
 by_cases hz:∀ i,i<n->(r i).n=0
 ·obtain⟨rfl,rfl⟩:=hR.none hz
  go_wp2
  refine bodyPost_ret (v:=eC) (by simp[results,results107,go_sem,x0,x1,x2,eC]) rfl ?_
  rw[oP hz]
  exact .inl ⟨ke,_,rfl,aW.zero (((hbw1.setCell (p:=⟨w.heap.size,0,none⟩) (Nat.le_refl _) _).setCell (p:=⟨w.heap.size,1,none⟩) (Nat.le_refl _) _).setCell (p:=⟨w.heap.size,2,none⟩) (Nat.le_refl _) _)⟩
 ·have hsome:∃ i,i<n∧0<(r i).n:=by
   simp only[Classical.not_forall] at hz
   obtain⟨i,hi,hp⟩:=hz
   exact⟨i,hi,by omega⟩
  obtain⟨l0,l1,l2,l3⟩:=hR.some hsome
  have hlh:low<=high:=by
   obtain⟨i,hi,hp⟩:=hsome
   have:=hR.all i hi hp
   omega
  obtain⟨N,hN⟩:∃ N:Nat,(high-low)/30+3=(N:Int):=⟨((high-low)/30+3).toNat,by omega⟩
  go_wp2_with (at_make;refine im rfl _ _ rfl _ _ N rfl rfl (by omega) (by omega) (by omega) ?_;intro w2 hB2 hb2)
  have hlow:-4194304<=low:=by omega
  have hbw2:=ac hbw1 hb2
  have hb2':=hb2
  have HN:=h.keeps hbw1
  have HA:Hid (∀ i,i<n->0<(r i).n->low<=(r i).e∧(r i).e+aG (val (r i).d (r i).n)<=high):=hR.all
  have HLH:Hid ((high-low)/30+3=(N:Int)∧low<=high):=⟨hN,hlh⟩
  have hN3:3<=N∧N<=90000:=by omega
  have gw:w1.heap.size<w2.heap.size:=hB2.lt
  clear hR hz hsome hb2 x0 x1 x2 z0 z1 z2
  go_loopw [26] (fun i wr=>∃ (k:Nat) (c:Nat->Int),k<=n∧i=.int .i64 k∧cF wr w1.heap.size N c∧Hid (iC r low high N k c)∧Below w1.heap.size w1 wr∧w2.heap.size<=wr.heap.size) (fun i _=>n-(intOf i).toNat)
  case atStart=>exact⟨0,_,Nat.zero_le _,rfl,hB2,iC.start _ _ _ _,hb2',Nat.le_refl _⟩
  case round=>
   obtain⟨k,c,hk,rfl,hB,HT,hbw,hgw⟩:=hrel
   by_cases hlt:k<n
   ·obtain⟨b,off,rfl,hb,hc⟩:=HN.spot (by omega)
    obtain⟨c0,c1,c2,hRow⟩:=(hc k hlt).keeps hbw hb
    have hRX:=mz.of (hc k hlt).row (Nat.le_refl _)
    have hsk:=HS.out k hlt
    have hak:=HA.out k hlt
    have hput:=fun q p c' h0=>HT.out.put (q:=q) (p:=p) (c':=c') hsk h0 (hak h0) hlow
    have hskip:=fun h0=>HT.out.skip (k:=k) h0
    have hbnd:=HT.out.bnd
    clear hc
    generalize hr:r k=x at *
    obtain⟨ng,xo,xn,xc,xd,xe⟩:=x
    obtain⟨s1,s2,s3,s4⟩:=hsk
    simp only at c0 c1 c2 hRX hRow s1 s2 s3 s4 hput hskip hak
    by_cases h0:xn=0
    ·subst h0
     have HZ:Hid (iC r low high N (k+1) c):=hskip rfl
     clear hput hskip hak hbnd hN hlh hRX HN
     go_wp2
     go_roundw
     case rel=>exact⟨k+1,c,by omega,by go_num,hB.alloc _,HZ,hbw.trans ((ah _ _).mono hbw.size),by rw[eF];omega⟩
     case measure=>simp[intOf];omega
    ·have hlp:(0:Int)<xn:=by omega
     obtain⟨a1,a2⟩:=hak (by omega)
     have hlb:=xG s1 (by omega)
     obtain⟨q,p,hqp,hp⟩:∃ q p:Nat,xe-low=30*q+p∧p<30:=⟨((xe-low)/30).toNat,((xe-low) % 30).toNat,by omega,by omega⟩
     have hqN:q+xn+1<=N:=by omega
     have HP:Hid (∀ c',lR N c (dT ng xn) (P q*(2^p*val xd xn)) c'->iC r low high N (k+1) c'):=fun c' hP=>hput q p c' (by omega) hqp hp hP
     obtain⟨_,hsg⟩:=vJ ng (show 0<xn by omega) 0
     have HSG:Hid (dT ng xn=1∨dT ng xn=-1):=hsg
     have HQP:Hid (xe-low=30*q+p):=hqp
     have HBD:Hid (∀ i,i<N->-((k:Int)*1073741823)<=c i∧c i<=k*1073741823):=hbnd
     have hw1:wrap64 (xe-low)=xe-low:=IntWalk.wrap64_in _ ⟨by omega,by omega⟩
     have hw2:IntKind.i64.wrap (xe-low)=xe-low:=by rw[bs];omega
     have hlen:xn<=100000:=by omega
     have q0:=aA wr (.cells #[.bool ng,.slice xo xn xc,.int .i64 xe] 33)
     have hsz:=eF wr (.cells #[.bool ng,.slice xo xn xc,.int .i64 xe] 33)
     have hbx:Below w1.heap.size w1 (wr.alloc (.cells #[.bool ng,.slice xo xn xc,.int .i64 xe] 33)):=hbw.trans ((ah _ _).mono hbw.size)
     have hBx:=hB.alloc (.cells #[.bool ng,.slice xo xn xc,.int .i64 xe] 33)
     have hgx:wr.heap.size≠w1.heap.size:=by omega
     clear hput hskip hak hbnd hN hlh hsg hqp HN a1 a2 hlb
     go_wp2_with fail
     generalize wr.alloc (.cells #[.bool ng,.slice xo xn xc,.int .i64 xe] 33)=wx at q0 hsz hbx hBx ⊢
     have k0:=af q0 0 rfl
     have k1:=af q0 1 rfl
     have k2:=af q0 2 rfl
     have hb1:=al wx
     have C1:∀ W,Below wx.heap.size wx W->Calls prog 101 #[.agg #[.bool ng,.slice xo xn xc,.int .i64 xe]] W fun y w'=>y=.returned (.int .i64 (dT ng xn))∧Below W.heap.size W w':=fun W _=>oL ng xo xn xc xe W (by omega)
     have C2:∀ W,Below wx.heap.size wx W->Calls prog 125 #[.slice (some ⟨w1.heap.size,0,none⟩) N N,.slice xo xn xc,.int .i64 (xe-low),.int .i64 (dT ng xn)] W fun y w'=>y=.returned (.tuple #[])∧∃ c4,cF w' w1.heap.size N c4∧Wr w1.heap.size W w'∧lR N c (dT ng xn) (P q*(2^p*val xd xn)) c4:=fun W h=>
      zS w1.heap.size N c xo xn xc q p xd W (hBx.keeps h) (hRX.keeps (Cd (hbx.trans (h.mono hbx.size)))) s1.1 hlen hqN (by omega) hp _ HQP.out _ HSG.out (k*1073741823) HBD.out (by omega)
     go_region_held3 (fun W=>W.cell? ⟨wr.heap.size,0,none⟩=some (.bool ng)∧W.cell? ⟨wr.heap.size,1,none⟩=some (.slice xo xn xc)∧W.cell? ⟨wr.heap.size,2,none⟩=some (.int .i64 xe))
      (first|exact⟨k0,k1,k2⟩|exact gL (by assumption) (by assumption)|exact zd (by assumption) (by assumption) hgx)
      (first|(go_at_call 101;refine(C1 _ hb1.drew).mono ?_;rintro y w3 ⟨rfl,hbv1⟩)|(go_at_call 125;have _t:=hbv1;refine(C2 _ (ac hb1.drew hbv1)).mono ?_;rintro y w4 ⟨rfl,c4,hB5,hW5,hP5⟩))
     go_wp2
     go_roundw
     case rel=>exact⟨k+1,c4,by omega,by go_num,hB5,HP.out _ hP5,hW5.below (hbx.trans ((ac hb1.drew hbv1).mono hbx.size)) (by have:=hbx.size;have:=hbv1.size;exact Nat.le_trans hbx.size hbv1.size) (Nat.le_refl _),by have:=hW5.size;have:wx.heap.size<=w3.heap.size:=hbv1.size;omega⟩
     case measure=>simp[intOf];omega
   ·obtain rfl:k=n:=by omega
    have hbig:-P N<val c N∧val c N<P N:=by
     have h1:=HT.out.lo
     have h2:=HT.out.hi
     obtain⟨e1,e2⟩:=HLH.out
     have h3:((k:Int))*2^(high-low).toNat<2^60*2^(high-low).toNat:=Int.mul_lt_mul_of_pos_right (by omega) (aJ _)
     rw[<- Int.pow_add] at h3
     have h4:(2:Int)^(60+(high-low).toNat)<=P N:=by rw[dG];exact dp (by omega)
     omega
    go_wp2_with fail
    refine(vH w1.heap.size N c wr hB (by omega) (fun i hi=>by have:=HT.out.bnd i hi;omega) hbig).mono ?_
    rintro y w5 ⟨c5,rfl,hB5,hW5,hD5,hV5⟩
    have hbw5:Below w1.heap.size w1 w5:=hW5.below hbw hbw.size (Nat.le_refl _)
    have hbw6:=ac hbw1 hbw5
    have hsum:gj r k=sg (decide (val c N<0)) (val c5 N)*pw low:=by rw[hV5];exact HT.out.sum.symm
    have HSUM:Hid (gj r k=sg (decide (val c N<0)) (val c5 N)*pw low):=hsum
    clear hsum hbig hV5
    generalize hneg:decide (val c N<0)=neg at *
    go_wp2_with fail
    refine(nm (hB5.row0 (Nat.le_refl _) (by omega)) hD5 (by omega) (hT.keeps hbw6) hlow HSUM.out).mono ?_
    rintro y w7 (⟨hok,v,rfl,hD⟩|⟨hno,rfl,hb7⟩)
    ·have hb7:=hD.below
     have hf7:=hD.from hbw6
     obtain⟨ng',s',m',e',rfl,hy,hA⟩:=id hD
     obtain⟨so,sn,sc,rfl⟩:=hA.num.shape
     have g0:=(hb7.block w.heap.size (Nat.lt_of_lt_of_le (Nat.lt_of_lt_of_le (by rw[eF];omega) hb1.size) hbw5.size)).trans ((hbw5.block w.heap.size (Nat.lt_of_lt_of_le (by rw[eF];omega) hb1.size)).trans q0)
     have x0:=af g0 0 rfl
     have x1:=af g0 1 rfl
     have x2:=af g0 2 rfl
     have z0:=ar g0 0
     have z1:=ar g0 1
     have z2:=ar g0 2
     go_wp2
     refine bodyPost_ret (v:=.agg #[.bool ng',.slice so sn sc,.int .i64 e']) (by simp[results,results107,go_sem,x0,x1,x2]) rfl ?_
     exact .inl ⟨hok,_,rfl,bG (g:=w.heap.size) hD hbw6 (Nat.le_refl _) (Nat.lt_of_lt_of_le (Nat.lt_of_lt_of_le (by rw[eF];omega) hb1.size) hbw5.size) _ _ _⟩
    ·exact⟨rfl,.inr ⟨hno,rfl,ac hbw6 hb7⟩⟩
def aI.V (r:aI):Int:=sg r.ng (val r.d r.n)*pw r.e
def pW (x y:aI):Nat->aI:=fun i=>if i=0 then x else y
theorem ze {w:World} {g:Nat} {x y:aI} {t:TypeId} (h:w.heap[g]?=some (.cells #[.bool x.ng,.slice x.ao x.n x.cap,.int .i64 x.e,.bool y.ng,.slice y.ao y.n y.cap,.int .i64 y.e] t (0,0))) (hx:aS w x.ao x.n x.cap x.d) (hy:aS w y.ao y.n y.cap y.d) :
    fG w (some ⟨g,0,none⟩) 2 2 (pW x y) :=
  ⟨Nat.le_refl _,by decide,fun _=>⟨g,0,rfl,(Array.getElem?_eq_some_iff.1 h).1,fun i hi=>by
    match i,hi with
    | 0,_=>exact⟨af h 0 rfl,af h 1 rfl,af h 2 rfl,hx⟩
    | 1,_=>exact ⟨af h 3 rfl,af h 4 rfl,af h 5 rfl,hy⟩⟩⟩
theorem Be (x y:aI):kt (pW x y) 2=(dI x&&dI y):=by
 unfold kt
 by_cases hx:dI x=true
 ·by_cases hy:dI y=true
  ·rw[hx,hy]
   exact decide_eq_true fun i hi=>by
    match i,hi with
    | 0,_=>exact hx
    | 1,_=>exact hy
  ·have:dI y=false:=by simpa using hy
   rw[hx,this]
   exact decide_eq_false fun h=>hy (h 1 (by omega))
 ·have:dI x=false:=by simpa using hx
  rw[this,Bool.false_and]
  exact decide_eq_false fun h=>hx (h 0 (by omega))
theorem Ce (x y:aI):gj (pW x y) 2=x.V+y.V:=by
 show 0+x.V+y.V=_
 rw[Int.zero_add]
theorem cD {x:aI} (h:dI x=true):dR x:=by
 rcases of_decide_eq_true h with⟨h1,h2,h3⟩|⟨h1,⟨h2,h3⟩,h4,h5,h6⟩
 ·exact⟨⟨fun i hi=>by omega,.inl h1⟩,by omega,by omega,by omega⟩
 ·exact⟨h3,by omega,by omega,by omega⟩
theorem jd {x:aI} (h:dI x=true):Dy x.V x.ng (val x.d x.n) x.e∧val x.d x.n<P 2000∧cY x.V:=by
 have hd:Dy x.V x.ng (val x.d x.n) x.e∧val x.d x.n<P 2000∧-1048576<=x.e∧x.e<=1048576:=by
  rcases of_decide_eq_true h with⟨h1,h2,h3⟩|⟨h1,⟨h2,h3⟩,h4,h5,h6⟩
  ·exact⟨⟨rfl,by omega,.inl ⟨by rw[h1];rfl,h2,h3⟩⟩,by rw[h1];show(0:Int)<P 2000;exact cA 2000,by omega,by omega⟩
  ·refine⟨⟨rfl,by omega,.inr ⟨ft h3 h1,?_⟩⟩,?_,h5,h6⟩
   ·obtain⟨m,hm⟩:∃ m,x.n=m+1:=⟨x.n-1,by omega⟩
    have:=eW x.d 1 m
    rw[show 1+m=x.n by omega] at this
    rw[this]
    rw[show val x.d 1=x.d 0 by show 0+x.d 0*1=_;omega,show P 1=1073741824 from rfl]
    omega
   ·exact Int.lt_of_lt_of_le (cV h3.1) (iz h2)
 exact⟨hd.1,hd.2.1,hd.1.ok.2 hd.2⟩
theorem cX {w w1:World} (h:Below w.heap.size w w1) {g:Nat} (hg:w.heap.size<=g) (a b c:Value):Below w.heap.size w (((w1.setCell ⟨g,0,none⟩ a).setCell ⟨g,1,none⟩ b).setCell ⟨g,2,none⟩ c) :=
 ((h.setCell (p:=⟨g,0,none⟩) hg a).setCell (p:=⟨g,1,none⟩) hg b).setCell (p:=⟨g,2,none⟩) hg c
theorem aq {w:World} {g:Nat} {xs:Array Value} {t:TypeId} (h:w.heap[g]?=some (.cells xs t (0,0))) (i:Nat) (v:Value):(w.setCell ⟨g,i,none⟩ v).heap[g]?=some (.cells (xs.setIfInBounds i v) t (0,0)):=by
 simp[World.setCell,Array.getElem?_modify,h]
theorem vM {w:World} {ao:Option Addr} {n cap:Nat} {A:Int} (hx:cr w (.slice ao n cap) A) (hn:n<=500000) :
  Calls prog 156 #[.slice ao n cap] w fun e w'=>∃ v,e=.returned v∧cN w w' A v:=by
 obtain⟨ao',n',ca',d,e1,hR,h2,rfl⟩:=hx
 simp only[Value.slice.injEq] at e1
 obtain⟨rfl,rfl,rfl⟩:=e1
 refine(vC _ _ _ _ _ hR hn).mono ?_
 rintro e w' ⟨v,rfl,h1,hb⟩
 exact⟨v,rfl,n,d,h1,h2,rfl,hb⟩
theorem vN (g n cap:Nat) (d:Nat->Int) (w:World) (h:aS w (some ⟨g,0,none⟩) n cap d) :
  Calls prog 117 #[.slice (some ⟨g,0,none⟩) n cap] w fun e w'=>∃ t:Nat,t<=n∧kT d t∧(∀ i,t<=i->i<n->d i=0)∧e=.returned (.slice (some ⟨g,0,none⟩) t cap)∧w'=w:=by
 have hl:=h.le
 have hm:=h.max
 go_enter func117,ntmps117
 go_wp2
 go_loop [3] (fun i=>∃ k:Nat,k<=n∧i=.int .i64 k∧∀ i,k<=i->i<n->d i=0) (fun i=>(intOf i).toNat)
 case atStart=>exact⟨n,Nat.le_refl _,rfl,fun i a b=>by omega⟩
 case round=>
  obtain⟨k,hk,rfl,hz⟩:=hrel
  have HZ:Hid (∀ i,k<=i->i<n->d i=0):=hz
  clear hz
  by_cases h0:k=0
  ·subst h0
   go_wp2
   go_ret
   exact⟨0,by omega,.inl rfl,HZ.out,by simp,rfl⟩
  ·obtain⟨b,off,eb,hb,hc⟩:=h.spot (by omega)
   simp only[Option.some.injEq,Addr.mk.injEq,and_true] at eb
   obtain⟨rfl,rfl⟩:=eb
   have c:=hc (k-1) (by omega)
   rw[Nat.zero_add] at c
   by_cases h1:d (k-1)=0
   ·go_wp2
    go_round
    case rel=>exact⟨k-1,by omega,by go_num,fun i a b=>by by_cases e:i=k-1;(· rw[e];exact h1);(· exact HZ.out i (by omega) b)⟩
    case measure=>simp[intOf];omega
   ·go_wp2
    go_ret
    exact⟨k,hk,.inr h1,HZ.out,by simp,rfl⟩
theorem Bf {d:Nat->Int} {t:Nat} (hd:bF d t) (h:0<t->P (t-1)<=val d t):kT d t:=by
 by_cases h0:t=0
 ·exact .inl h0
 ·refine .inr fun e=>?_
  obtain⟨k,rfl⟩:∃ k,t=k+1:=⟨t-1,by omega⟩
  rw[Nat.add_sub_cancel] at e h
  have h1:=h (by omega)
  rw[bc,e] at h1
  have h2:=cV (hd.le (Nat.le_succ k))
  omega
theorem ef (r:Nat->Int) (k:Nat) (x:Int):∀ i,i<k+1->kP r k (fun _=>x) i=cW r k x i:=fun i hi=>by
 by_cases e:i<k
 ·simp[kP,e,bD r _ (show i≠k by omega)]
 ·obtain rfl:i=k:=by omega
  simp[kP,ck]
theorem eh {r:Nat->Int} {k:Nat} {x:Int} (h:bF r k) (hx:0<=x∧x<1073741824):bF (cW r k x) (k+1):=fun i hi=>by
 by_cases e:i=k
 ·rw[e,ck];exact hx
 ·rw[bD r x e];exact h i (by omega)
theorem xH (ao bo:Option Addr) (n m ca cb:Nat) (a b:Nat->Int) (w:World) (ha:aS w ao n ca a) (hb:aS w bo m cb b) (na:cf a n) (nb:cf b m) (hn:n<=100000) (hm:m<=100000) :
  Calls prog 95 #[.slice ao n ca,.slice bo m cb] w fun e w'=>∃ v,e=.returned v∧cN w w' (val a n+val b m) v:=by
 have hla:=ha.le
 have hma:=ha.max
 have hlb:=hb.le
 have hmb:=hb.max
 have da:=na.1
 have db:=nb.1
 obtain⟨M,hM1,hM2,hM3⟩:∃ M,n<=M∧m<=M∧(M<=n∨M<=m):=⟨max n m,by omega,by omega,by omega⟩
 go_enter func95,ntmps95
 go_wp2
 go_loopw [5,6,7] (fun l c i wr=>∃ (k:Nat) (q:Int) (r:Nat->Int),(k<=M∨(k=M+1∧q=0))∧i=.int .i64 k∧c=.int .i64 q∧0<=q∧q<=1∧cy w.heap.size wr l k r∧bF r k∧Hid (val r k+q*P k=val (bI a n) k+val (bI b m) k)∧Hid (k=M+1->P M<=val a n+val b m)∧Below w.heap.size w wr) (fun _ _ i _=>M+1-(intOf i).toNat)
 case atStart=>exact⟨0,0,fun _=>0,.inl (Nat.zero_le _),rfl,rfl,by omega,by omega,cy.nil _ _ _,fun i hi=>by omega,by show _=_;rfl,fun h=>by omega,al _⟩
 case round=>
  obtain⟨k,q,r,hk,rfl,rfl,hq0,hq1,hO,hD,HV,HT,hbw⟩:=hrel
  have hkM:k<=M+1:=by omega
  by_cases hkn:k<n
  ·by_cases hkm:k<m
   ·obtain⟨ba,fa,rfl,hba,hca⟩:=ha.spot (by omega)
    have c1:=(hbw.cell (p:=⟨ba,fa+k,none⟩) hba).trans (hca k hkn)
    have dk:=da k hkn
    obtain⟨bb,fb,rfl,hbb,hcb⟩:=hb.spot (by omega)
    have c2:=(hbw.cell (p:=⟨bb,fb+k,none⟩) hbb).trans (hcb k hkm)
    have dbk:=db k hkm
    have HX:Hid (q+a k+b k=q+(bI a n k+bI b m k)):=by show _=_;rw[dK a hkn,dK b hkm];omega
    go_wp2_with (at_builtin;refine cB rfl _ _ rfl w.heap.size _ k r rfl (hO.stays (ah _ _)) _ 1 1 (fun _=>(q+a k+b k) % 1073741824) rfl (gI _ _ rfl) (by omega) (by have:=hbw.size;simp;omega) ?_;intro v' w1 hO1 hg1)
    have hb1:Below w.heap.size w w1:=(hbw.alloc hbw.size _).grown hg1 (by have:=hbw.size;simp;omega) (dS hO)
    have hs:=dP (x:=bI a n k+bI b m k) HV.out
    rw[<- HX.out] at hs
    go_roundw
    case rel=>exact⟨k+1,(q+a k+b k)/1073741824,cW r k ((q+a k+b k) % 1073741824),by omega,by go_num,rfl,by omega,by omega,hO1.congr (ef r k _),eh hD (fu _),by show _=_;rw[hs,bc,bc];grind,fun h=>by omega,hb1⟩
    case measure=>simp[intOf];omega
   ·obtain⟨ba,fa,rfl,hba,hca⟩:=ha.spot (by omega)
    have c1:=(hbw.cell (p:=⟨ba,fa+k,none⟩) hba).trans (hca k hkn)
    have dk:=da k hkn
    have HX:Hid (q+a k=q+(bI a n k+bI b m k)):=by show _=_;rw[dK a hkn,fF b (by omega)];omega
    go_wp2_with (at_builtin;refine cB rfl _ _ rfl w.heap.size _ k r rfl (hO.stays (ah _ _)) _ 1 1 (fun _=>(q+a k) % 1073741824) rfl (gI _ _ rfl) (by omega) (by have:=hbw.size;simp;omega) ?_;intro v' w1 hO1 hg1)
    have hb1:Below w.heap.size w w1:=(hbw.alloc hbw.size _).grown hg1 (by have:=hbw.size;simp;omega) (dS hO)
    have hs:=dP (x:=bI a n k+bI b m k) HV.out
    rw[<- HX.out] at hs
    go_roundw
    case rel=>exact⟨k+1,(q+a k)/1073741824,cW r k ((q+a k) % 1073741824),by omega,by go_num,rfl,by omega,by omega,hO1.congr (ef r k _),eh hD (fu _),by show _=_;rw[hs,bc,bc];grind,fun h=>by omega,hb1⟩
    case measure=>simp[intOf];omega
  ·by_cases hkm:k<m
   ·obtain⟨bb,fb,rfl,hbb,hcb⟩:=hb.spot (by omega)
    have c2:=(hbw.cell (p:=⟨bb,fb+k,none⟩) hbb).trans (hcb k hkm)
    have dbk:=db k hkm
    have HX:Hid (q+b k=q+(bI a n k+bI b m k)):=by show _=_;rw[fF a (by omega),dK b hkm];omega
    go_wp2_with (at_builtin;refine cB rfl _ _ rfl w.heap.size _ k r rfl (hO.stays (ah _ _)) _ 1 1 (fun _=>(q+b k) % 1073741824) rfl (gI _ _ rfl) (by omega) (by have:=hbw.size;simp;omega) ?_;intro v' w1 hO1 hg1)
    have hb1:Below w.heap.size w w1:=(hbw.alloc hbw.size _).grown hg1 (by have:=hbw.size;simp;omega) (dS hO)
    have hs:=dP (x:=bI a n k+bI b m k) HV.out
    rw[<- HX.out] at hs
    go_roundw
    case rel=>exact⟨k+1,(q+b k)/1073741824,cW r k ((q+b k) % 1073741824),by omega,by go_num,rfl,by omega,by omega,hO1.congr (ef r k _),eh hD (fu _),by show _=_;rw[hs,bc,bc];grind,fun h=>by omega,hb1⟩
    case measure=>simp[intOf];omega
   ·by_cases hq:0<q
    ·have hkE:k=M:=by omega
     have HTT:Hid (P M<=val a n+val b m):=by
      show _<=_
      have h:=HV.out
      rw[iN a (by omega),iN b (by omega),show q=1 by omega,hkE] at h
      have:=bz hD
      rw[hkE] at this
      omega
     have HX:Hid (q=q+(bI a n k+bI b m k)):=by show _=_;rw[fF a (by omega),fF b (by omega)];omega
     go_wp2_with (at_builtin;refine cB rfl _ _ rfl w.heap.size _ k r rfl (hO.stays (ah _ _)) _ 1 1 (fun _=>(q) % 1073741824) rfl (gI _ _ rfl) (by omega) (by have:=hbw.size;simp;omega) ?_;intro v' w1 hO1 hg1)
     have hb1:Below w.heap.size w w1:=(hbw.alloc hbw.size _).grown hg1 (by have:=hbw.size;simp;omega) (dS hO)
     have hs:=dP (x:=bI a n k+bI b m k) HV.out
     rw[<- HX.out] at hs
     go_roundw
     case rel=>exact⟨k+1,(q)/1073741824,cW r k ((q) % 1073741824),by omega,by go_num,rfl,by omega,by omega,hO1.congr (ef r k _),eh hD (fu _),by show _=_;rw[hs,bc,bc];grind,fun h=>HTT.out,hb1⟩
     case measure=>simp[intOf];omega
    ·obtain rfl:q=0:=by omega
     have hkMM:M<=k:=by omega
     have hcd:decide ((0:Int)<0)=false:=by decide
     go_wp2
     go_ret
     have hv:val r k=val a n+val b m:=by
      have h:=HV.out
      rw[iN a (by omega),iN b (by omega)] at h
      omega
     refine⟨_,rfl,k,r,hO,⟨hD,Bf hD fun hk0=>?_⟩,hv,hbw⟩
     rw[hv]
     have A0:=bz da
     have B0:=bz db
     rcases hk with h|⟨h,_⟩
     ·obtain rfl:k=M:=by omega
      rcases hM3 with q|q
      ·obtain rfl:k=n:=by omega
       have:=eR da hk0 na.2
       omega
      ·obtain rfl:k=m:=by omega
       have:=eR db hk0 nb.2
       omega
     ·rw[h,Nat.add_sub_cancel];exact HT.out h
theorem vO {B:Nat} {w:World} {v:Value} {n:Nat} {d:Nat->Int} (h:cy B w v n d) :
  Calls prog 117 #[v] w fun e w'=>∃ v',e=.returned v'∧∃ t,t<=n∧kT d t∧(∀ i,t<=i->i<n->d i=0)∧cy B w v' t d∧w'=w:=by
 have h0:=h
 rcases h.2 with⟨rfl,rfl⟩|⟨g,cap,cur,rfl,hb,hg,hn,hm,hs,ht⟩
 ·go_enter func117,ntmps117
  go_wp2
  go_loop [3] (fun i=>i=.int .i64 0) (fun i=>0)
  case atStart=>rfl
  case round=>
   subst hrel
   go_wp2
   go_ret
   exact⟨_,rfl,.inl rfl,cy.nil _ _ _,rfl⟩
 ·obtain⟨ao,c,e,hR⟩:=h0.row
  simp only[Value.slice.injEq] at e
  obtain⟨rfl,_,rfl⟩:=e
  refine(vN g n cap d w hR).mono ?_
  rintro e w' ⟨t,h1,h2,h3,rfl,rfl⟩
  exact⟨_,rfl,t,h1,h2,h3,h0.cut h1,rfl⟩
theorem jy {w0 w:World} {v:Value} {n:Nat} {d:Nat->Int} (h:cy w0.heap.size w v n d) (hd:bF d n) (hb:Below w0.heap.size w0 w) :
  Calls prog 117 #[v] w fun e w'=>∃ v',e=.returned v'∧cN w0 w (val d n) v'∧w'=w:=by
 refine(vO h).mono ?_
 rintro e w' ⟨v',rfl,t,ht,htop,hz,hO,rfl⟩
 obtain⟨hN,hv⟩:=fR hd ht htop hz
 exact⟨v',rfl,⟨t,d,hO,hN,hv,hb⟩,rfl⟩
theorem xI (ao bo:Option Addr) (n m ca cb:Nat) (a b:Nat->Int) (w:World) (ha:aS w ao n ca a) (hb:aS w bo m cb b) (na:cf a n) (nb:cf b m) :
  Calls prog 96 #[.slice ao n ca,.slice bo m cb] w fun e w'=>e=.returned (.int .i64 (aT (val a n) (val b m)))∧Below w.heap.size w w':=by
 have hla:=ha.le
 have hma:=ha.max
 have hlb:=hb.le
 have hmb:=hb.max
 by_cases hnm:n=m
 ·subst hnm
  go_enter func96,ntmps96
  go_wp2
  go_loopw [5] (fun i wr=>∃ k:Nat,k<=n∧i=.int .i64 ((k:Int)-1)∧Hid (∀ i,k<=i->i<n->a i=b i)∧Below w.heap.size w wr) (fun i _=>(intOf i+1).toNat)
  case atStart=>exact⟨n,Nat.le_refl _,rfl,fun i _ _=>by omega,al _⟩
  case round=>
   obtain⟨k,hk,rfl,HS,hbw⟩:=hrel
   by_cases hlt:0<k
   ·obtain⟨j,rfl⟩:∃ j,k=j+1:=⟨k-1,by omega⟩
    have ej:((j+1:Nat):Int)-1=j:=by omega
    obtain⟨ba,fa,rfl,hba,hca⟩:=ha.spot (by omega)
    obtain⟨bb,fb,rfl,hbb,hcb⟩:=hb.spot (by omega)
    have c1:=(hbw.cell (p:=⟨ba,fa+j,none⟩) hba).trans (hca j (by omega))
    have c2:=(hbw.cell (p:=⟨bb,fb+j,none⟩) hbb).trans (hcb j (by omega))
    rw[ej]
    by_cases h1:a j<b j
    ·go_wp2
     go_quiet (fail)
     go_wp2
     go_ret
     exact⟨cz ((dL h1).symm.trans (tx na.1 nb.1 (show j<n by omega) (fun i x y=>HS.out i (by omega) y) (by omega))),aO hbw _⟩
    ·by_cases h2:b j<a j
     ·go_wp2
      go_quiet (fail)
      go_wp2
      go_quiet (fail)
      go_wp2
      go_ret
      exact⟨cz ((dM h2).symm.trans (tx na.1 nb.1 (show j<n by omega) (fun i x y=>HS.out i (by omega) y) (by omega))),aO (aO hbw _) _⟩
     ·go_wp2
      go_quiet (fail)
      go_wp2
      go_quiet (fail)
      go_wp2
      go_roundw
      case rel=>exact⟨j,by omega,by go_num,fun i x y=>by by_cases e:i=j;(· rw[e];omega);(· exact HS.out i (by omega) y),aO hbw _⟩
      case measure=>simp[intOf];try omega
   ·obtain rfl:k=0:=by omega
    go_wp2
    go_ret
    exact⟨cz (fm (dY fun i hi=>HS.out i (by omega) hi)).symm,hbw⟩
 ·by_cases hlt:n<m
  ·go_enter func96,ntmps96
   go_wp2
   go_ret
   exact⟨cz (dL (kU na.1 nb hlt)).symm,al _⟩
  ·go_enter func96,ntmps96
   go_wp2
   go_ret
   exact⟨cz (dM (kU nb.1 na (by omega))).symm,al _⟩
theorem qG (ao bo:Option Addr) (n m ca cb:Nat) (a b:Nat->Int) (w:World) (ha:aS w ao n ca a) (hb:aS w bo m cb b) (na:cf a n) (nb:cf b m) (hn:n<=100000) (hle:val b m<=val a n) :
  Calls prog 97 #[.slice ao n ca,.slice bo m cb] w fun e w'=>∃ v,e=.returned v∧cN w w' (val a n-val b m) v:=by
 have hla:=ha.le
 have hma:=ha.max
 have hlb:=hb.le
 have hmb:=hb.max
 have da:=na.1
 have db:=nb.1
 have hmn:m<=n:=uc nb da hle
 have HLE:Hid (val b m<=val a n):=hle
 clear hle
 go_enter func97,ntmps97
 go_wp2
 go_loopw [5,6,7] (fun l c i wr=>∃ (k:Nat) (q:Int) (r:Nat->Int),k<=n∧i=.int .i64 k∧c=.int .i64 q∧0<=q∧q<=1∧cy w.heap.size wr l k r∧bF r k∧Hid (val r k-q*P k=val (bI a n) k-val (bI b m) k)∧Below w.heap.size w wr) (fun _ _ i _=>n-(intOf i).toNat)
 case atStart=>exact⟨0,0,fun _=>0,Nat.zero_le _,rfl,rfl,by omega,by omega,cy.nil _ _ _,fun i hi=>by omega,by show _=_;rfl,al _⟩
 case round=>
  obtain⟨k,q,r,hk,rfl,rfl,hq0,hq1,hO,hD,HV,hbw⟩:=hrel
  by_cases hkn:k<n
  ·obtain⟨ba,fa,rfl,hba,hca⟩:=ha.spot (by omega)
   have c1:=(hbw.cell (p:=⟨ba,fa+k,none⟩) hba).trans (hca k hkn)
   have dk:=da k hkn
   by_cases hkm:k<m
   ·obtain⟨bb,fb,rfl,hbb,hcb⟩:=hb.spot (by omega)
    have c2:=(hbw.cell (p:=⟨bb,fb+k,none⟩) hbb).trans (hcb k hkm)
    have dbk:=db k hkm
    have HX:Hid (-q+(bI a n k-bI b m k)=a k-q-b k):=by show _=_;rw[dK a hkn,dK b hkm];omega
    by_cases hneg:a k-q-b k<0
    ·go_wp2_with (at_builtin;refine cB rfl _ _ rfl w.heap.size _ k r rfl (hO.stays (ah _ _)) _ 1 1 (fun _=>(a k-q-b k+1073741824)) rfl (gI _ _ rfl) (by omega) (by have:=hbw.size;simp;omega) ?_;intro v' w1 hO1 hg1)
     have hb1:Below w.heap.size w w1:=(hbw.alloc hbw.size _).grown hg1 (by have:=hbw.size;simp;omega) (dS hO)
     have hs:=dP (c:=-q) (x:=bI a n k-bI b m k) (r:=r) (k:=k) (V:=val (bI a n) k-val (bI b m) k) (by have:=HV.out;rw[Int.neg_mul];omega)
     rw[show -q+(bI a n k-bI b m k)=a k-q-b k from HX.out,show(a k-q-b k) % 1073741824=(a k-q-b k+1073741824) by omega,show(a k-q-b k)/1073741824=-1 by omega] at hs
     go_roundw
     case rel=>exact⟨k+1,1,cW r k (a k-q-b k+1073741824),by omega,by go_num,rfl,by omega,by omega,hO1.congr (ef r k _),eh hD (by omega),by show _=_;rw[bc (bI a n),bc (bI b m)];rw[Int.sub_mul] at hs;omega,hb1⟩
     case measure=>simp[intOf];omega
    ·go_wp2_with (at_builtin;refine cB rfl _ _ rfl w.heap.size _ k r rfl (hO.stays (ah _ _)) _ 1 1 (fun _=>(a k-q-b k)) rfl (gI _ _ rfl) (by omega) (by have:=hbw.size;simp;omega) ?_;intro v' w1 hO1 hg1)
     have hb1:Below w.heap.size w w1:=(hbw.alloc hbw.size _).grown hg1 (by have:=hbw.size;simp;omega) (dS hO)
     have hs:=dP (c:=-q) (x:=bI a n k-bI b m k) (r:=r) (k:=k) (V:=val (bI a n) k-val (bI b m) k) (by have:=HV.out;rw[Int.neg_mul];omega)
     rw[show -q+(bI a n k-bI b m k)=a k-q-b k from HX.out,show(a k-q-b k) % 1073741824=(a k-q-b k) by omega,show(a k-q-b k)/1073741824=-0 by omega] at hs
     go_roundw
     case rel=>exact⟨k+1,0,cW r k (a k-q-b k),by omega,by go_num,rfl,by omega,by omega,hO1.congr (ef r k _),eh hD (by omega),by show _=_;rw[bc (bI a n),bc (bI b m)];rw[Int.sub_mul] at hs;omega,hb1⟩
     case measure=>simp[intOf];omega
   ·have HX:Hid (-q+(bI a n k-bI b m k)=a k-q):=by show _=_;rw[dK a hkn,fF b (by omega)];omega
    by_cases hneg:a k-q<0
    ·go_wp2_with (at_builtin;refine cB rfl _ _ rfl w.heap.size _ k r rfl (hO.stays (ah _ _)) _ 1 1 (fun _=>(a k-q+1073741824)) rfl (gI _ _ rfl) (by omega) (by have:=hbw.size;simp;omega) ?_;intro v' w1 hO1 hg1)
     have hb1:Below w.heap.size w w1:=(hbw.alloc hbw.size _).grown hg1 (by have:=hbw.size;simp;omega) (dS hO)
     have hs:=dP (c:=-q) (x:=bI a n k-bI b m k) (r:=r) (k:=k) (V:=val (bI a n) k-val (bI b m) k) (by have:=HV.out;rw[Int.neg_mul];omega)
     rw[show -q+(bI a n k-bI b m k)=a k-q from HX.out,show(a k-q) % 1073741824=(a k-q+1073741824) by omega,show(a k-q)/1073741824=-1 by omega] at hs
     go_roundw
     case rel=>exact⟨k+1,1,cW r k (a k-q+1073741824),by omega,by go_num,rfl,by omega,by omega,hO1.congr (ef r k _),eh hD (by omega),by show _=_;rw[bc (bI a n),bc (bI b m)];rw[Int.sub_mul] at hs;omega,hb1⟩
     case measure=>simp[intOf];omega
    ·go_wp2_with (at_builtin;refine cB rfl _ _ rfl w.heap.size _ k r rfl (hO.stays (ah _ _)) _ 1 1 (fun _=>(a k-q)) rfl (gI _ _ rfl) (by omega) (by have:=hbw.size;simp;omega) ?_;intro v' w1 hO1 hg1)
     have hb1:Below w.heap.size w w1:=(hbw.alloc hbw.size _).grown hg1 (by have:=hbw.size;simp;omega) (dS hO)
     have hs:=dP (c:=-q) (x:=bI a n k-bI b m k) (r:=r) (k:=k) (V:=val (bI a n) k-val (bI b m) k) (by have:=HV.out;rw[Int.neg_mul];omega)
     rw[show -q+(bI a n k-bI b m k)=a k-q from HX.out,show(a k-q) % 1073741824=(a k-q) by omega,show(a k-q)/1073741824=-0 by omega] at hs
     go_roundw
     case rel=>exact⟨k+1,0,cW r k (a k-q),by omega,by go_num,rfl,by omega,by omega,hO1.congr (ef r k _),eh hD (by omega),by show _=_;rw[bc (bI a n),bc (bI b m)];rw[Int.sub_mul] at hs;omega,hb1⟩
     case measure=>simp[intOf];omega
  ·obtain rfl:k=n:=by omega
   have HD:Hid (bF r k∧val r k=val a k-val b m):=by
    refine⟨hD,?_⟩
    have h1:=HV.out
    rw[iN a (Nat.le_refl _),iN b hmn] at h1
    have h2:=cV hD
    have h3:=HLE.out
    have hp:=cA k
    rcases (show q=0∨q=1 by omega) with e|e
    ·subst e;omega
    ·subst e;omega
   go_wp2_with (go_at_call 117;refine(jy hO hD hbw).mono ?_;rintro e w3 ⟨v',rfl,hA,rfl⟩)
   go_ret
   exact⟨_,rfl,by rw[<- HD.out.2];exact hA⟩
theorem xJ (ao bo:Option Addr) (n m ca cb:Nat) (a b:Nat->Int) (w:World) (ha:aS w ao n ca a) (hb:aS w bo m cb b) (na:cf a n) (nb:cf b m) (hn:n<=100000) (hm:m<=100000) :
  Calls prog 93 #[.slice ao n ca,.slice bo m cb] w fun e w'=>∃ v,e=.returned v∧cN w w' (val a n*val b m) v:=by
 have hla:=ha.le
 have hma:=ha.max
 have hlb:=hb.le
 have hmb:=hb.max
 have da:=na.1
 have db:=nb.1
 by_cases hn0:n=0
 ·subst hn0
  go_enter func93,ntmps93
  go_wp2
  go_ret
  exact⟨_,rfl,by rw[show val a 0*val b m=0 from Int.zero_mul _];exact cN.nil (al _)⟩
 ·by_cases hm0:m=0
  ·subst hm0
   go_enter func93,ntmps93
   go_wp2
   go_ret
   exact⟨_,rfl,by rw[show val a n*val b 0=0 from Int.mul_zero _];exact cN.nil (al _)⟩
  ·have e1:((n:Int) == 0)=false:=by simp;omega
   have e2:((m:Int) == 0)=false:=by simp;omega
   go_enter func93,ntmps93
   go_wp2_with (at_make;refine im rfl _ _ rfl _ _ (n+m) rfl rfl (by omega) (by omega) (by omega) ?_;intro w1 hB1 hb1)
   go_loopw [6] (fun i wr=>∃ (k:Nat) (r:Nat->Int),k<=n∧i=.int .i64 k∧cF wr w.heap.size (n+m) r∧bF r (n+m)∧Hid (∀ t,k+m<=t->r t=0)∧Hid (val r (k+m)=val a k*val b m)∧Below w.heap.size w wr) (fun i _=>n-(intOf i).toNat)
   case atStart=>exact⟨0,fun _=>0,Nat.zero_le _,rfl,hB1,mu _,fun _ _=>rfl,by show _=_;rw[eY (Nat.zero_le (0+m)) (fun _ _ _=>rfl)];show 0=0*val b m;omega,hb1⟩
   case round=>
    obtain⟨i,r0,hi,rfl,hB0,hD0,HZ0,HV0,hbw0⟩:=hrel
    by_cases hlt:i<n
    ·obtain⟨ba,fa,rfl,hba,hca⟩:=ha.spot (by omega)
     have dai:=da i hlt
     go_wp2
     go_loopw [7,8] (fun c j wr=>∃ (k:Nat) (q:Int) (r:Nat->Int),k<=m∧j=.int .i64 k∧c=.int .i64 q∧0<=q∧q<1073741824∧cF wr w.heap.size (n+m) r∧bF r (n+m)∧Hid (∀ t,i+k<=t->r t=r0 t)∧Hid (val r (i+k)+q*P (i+k)=val r0 (i+k)+a i*val b k*P i)∧Below w.heap.size w wr) (fun _ j _=>m-(intOf j).toNat)
     case atStart=>exact⟨0,0,r0,Nat.zero_le _,rfl,rfl,by omega,by omega,hB0,hD0,fun _ _=>rfl,by show _=_;show val r0 i+0*P i=val r0 i+a i*0*P i;grind,hbw0⟩
     case round=>
      obtain⟨k,q,r,hk,rfl,rfl,hq0,hq1,hB,hD,HS,HV,hbw⟩:=hrel
      have c1:=(hbw.cell (p:=⟨ba,fa+i,none⟩) hba).trans (hca i hlt)
      by_cases hkm:k<m
      ·obtain⟨bb,fb,rfl,hbb,hcb⟩:=hb.spot (by omega)
       have c2:=(hbw.cell (p:=⟨bb,fb+k,none⟩) hbb).trans (hcb k hkm)
       have c3:=hB.cell (show i+k<n+m by omega)
       have fg:=hB.frozen (i+k)
       have drk:=hD (i+k) (by omega)
       have hmul:=tn dai (db k hkm)
       go_wp2
       go_quiet (fail)
       go_wp2
       have hs:=qw (b:=b) (j:=k) HV.out (HS.out (i+k) (Nat.le_refl _))
       rw[show q+(a i*b k+r (i+k))=r (i+k)+a i*b k+q by omega] at hs
       go_roundw
       case rel=>exact⟨k+1,(r (i+k)+a i*b k+q)/1073741824,cW r (i+k) ((r (i+k)+a i*b k+q) % 1073741824),by omega,by go_num,rfl,by omega,by omega,hB.store (i+k) _,hD.upd _ (fu _),fun t ht=>by rw[bD r _ (by omega)];exact HS.out t (by omega),hs,(aO hbw _).setCell (Nat.le_refl _) _⟩
       case measure=>simp[intOf];omega
      ·obtain rfl:k=m:=by omega
       have c3:=hB.cell (show i+k<n+k by omega)
       have fg:=hB.frozen (i+k)
       go_wp2
       have hr:=tq HV.out HV0.out
       go_roundw
       case rel=>exact⟨i+1,cW r (i+k) q,by omega,by go_num,hB.store (i+k) _,hD.upd _ ⟨hq0,hq1⟩,fun t ht=>by rw[bD r _ (by omega),HS.out t (by omega)];exact HZ0.out t (by omega),by show _=_;rw[hr,bc],hbw.setCell (Nat.le_refl _) _⟩
       case measure=>simp[intOf];omega
    ·obtain rfl:i=n:=by omega
     go_wp2_with (go_at_call 117;refine(jy (hB0.out (Nat.le_refl _) (Nat.le_refl _) (by omega)) hD0 hbw0).mono ?_;rintro e w3 ⟨v',rfl,hA,rfl⟩)
     go_ret
     exact⟨_,rfl,by rw[<- HV0.out];exact hA⟩
theorem jA {x:Int} (h:0<x):aG x=aG (x/2)+1:=by
 obtain⟨h1,h2⟩:=gT h
 have h3:=gS x
 obtain⟨k,hk⟩:∃ k,aG x=k+1:=⟨aG x-1,by omega⟩
 rw[hk] at h2 h3 ⊢
 rw[Nat.add_sub_cancel] at h2
 rw[Int.pow_succ] at h3
 cases k with
 | zero=>
  have:x=1:=by simp at h3 h2;omega
  subst this;decide
 | succ j=>
  rw[Int.pow_succ] at h2
  have e1:(2:Int)^j<=x/2:=by omega
  have e2:x/2<2^(j+1):=by omega
  rw[jQ e1 e2]
theorem vP (V:Int) (w:World) (h0:0<=V) (h1:V<9223372036854775808) :
    Calls prog 128 #[.int .i64 V] w fun e w'=>∃ v,e=.returned v∧cN w w' V v:=by
  have HM:Hid (V<9223372036854775808):=h1
  clear h1
  go_enter func128,ntmps128
  go_wp2
  go_loopw [0,3] (fun i v wr=>∃ (x:Int) (k:Nat) (r:Nat->Int),i=.int .i64 x∧0<=x∧k<=3∧cy w.heap.size wr v k r∧bF r k∧Hid (x*P k<=V)∧Hid (x=0->kT r k)∧Hid (val r k+x*P k=V)∧Below w.heap.size w wr) (fun i _ _=>(intOf i).toNat)
  case atStart=>exact⟨V,0,fun _=>0,rfl,h0,by omega,cy.nil _ _ _,fun i hi=>by omega,by show _<=_;show V*1<=V;omega,fun _=>.inl rfl,by show _=_;show 0+V*1=V;omega,al _⟩
  case round=>
    obtain⟨x,k,r,rfl,hx,hk3,hO,hD,HB,HT,HV,hbw⟩:=hrel
    by_cases hp:0<x
    · have hk2:k<=2:=by
        by_cases e:k=3
        · subst e
          have a:=HB.out
          have b:=HM.out
          have c:P 3=1073741824*1073741824*1073741824:=by decide
          have d:1*P 3<=x*P 3:=Int.mul_le_mul_of_nonneg_right (by omega) (Int.le_of_lt (cA 3))
          omega
        · omega
      have hx2:x<=9223372036854775807:=by
        have a:=HB.out
        have b:=HM.out
        have c:x*1<=x*P k:=Int.mul_le_mul_of_nonneg_left (by have:=cA k;omega) (by omega)
        omega
      go_wp2_with (at_builtin;refine cB rfl _ _ rfl w.heap.size _ k r rfl (hO.stays (ah _ _)) _ 1 1 (fun _=>x % 1073741824) rfl (gI _ _ rfl) (by omega) (by have:=hbw.size;simp;omega) ?_;intro v' w1 hO1 hg1)
      have hb1:Below w.heap.size w w1:=(hbw.alloc hbw.size _).grown hg1 (by have:=hbw.size;simp;omega) (dS hO)
      have hs:=dP (c:=0) (x:=x) (show val r k+0*P k=val r k by omega)
      rw[Int.zero_add] at hs
      go_roundw
      case rel=>exact ⟨x/1073741824,k+1,cW r k (x % 1073741824),rfl,by omega,by omega,hO1.congr (ef r k _),eh hD (fu _),by
          show _<=_
          have a:=HB.out
          rw[fZ,show x/1073741824*(P k*1073741824)=(x/1073741824*1073741824)*P k by grind]
          have b:(x/1073741824*1073741824)*P k<=x*P k:=Int.mul_le_mul_of_nonneg_right (by omega) (Int.le_of_lt (cA k))
          omega,fun e=>.inr (by rw [Nat.add_sub_cancel,ck]; omega),by show _=_; rw [hs]; exact HV.out,hb1⟩
      case measure=>simp[intOf];omega
    · obtain rfl:x=0:=by omega
      go_wp2
      go_ret
      exact⟨_,rfl,k,r,hO,⟨hD,HT.out (by first|rfl|trivial)⟩,by have:=HV.out;omega,hbw⟩
theorem vQ (ao:Option Addr) (n cap:Nat) (d:Nat->Int) (w:World) (h:aS w ao n cap d) (hd:cf d n) (hn:n<=1000000) :
  Calls prog 148 #[.slice ao n cap] w fun e w'=>e=.returned (.int .i64 (aG (val d n)))∧w'=w:=by
 have hl:=h.le
 have hm:=h.max
 by_cases h0:n=0
 ·subst h0
  go_enter func148,ntmps148
  go_wp2
  go_ret
  exact⟨rfl,rfl⟩
 ·obtain⟨k,rfl⟩:∃ k,n=k+1:=⟨n-1,by omega⟩
  obtain⟨b,off,rfl,hb,hc⟩:=h.spot (by omega)
  have c:=hc k (by omega)
  have dk:=hd.1 k (by omega)
  have HV:Hid (aG (val d (k+1))=30*k+aG (d k)):=mw hd
  have hbl:aG (d k)<=30:=df (by show d k<1073741824;exact dk.2)
  go_enter func148,ntmps148
  go_wp2
  go_loop [3,4] (fun s v=>∃ (x:Int) (t:Nat),s=.int .i64 t∧v=.int .i64 x∧0<=x∧x<1073741824∧t<=30*k+30∧Hid (t+aG x=30*k+aG (d k))) (fun _ v=>(intOf v).toNat)
  case atStart=>exact⟨d k,30*k,by go_num,rfl,dk.1,dk.2,by omega,rfl⟩
  case round=>
   obtain⟨x,t,rfl,rfl,hx0,hx1,ht,HT⟩:=hrel
   by_cases hp:0<x
   ·have ht2:t+1<=30*k+30:=by have:=HT.out;have:=jA hp;omega
    go_wp2
    go_round
    case rel=>exact⟨x/2,t+1,by go_num,rfl,by omega,by omega,ht2,by show _=_;have:=HT.out;have:=jA hp;omega⟩
    case measure=>simp[intOf];omega
   ·obtain rfl:x=0:=by omega
    go_wp2
    go_ret
    exact⟨cz (by have:=HT.out;rw[oJ] at this;rw[HV.out];omega),rfl⟩
theorem xK (ao:Option Addr) (n cap:Nat) (d:Nat->Int) (w:World) (h:aS w ao n cap d) (hd:cf d n) (hn:n<=100000) (i:Nat) (hi:i<=4000000) :
    Calls prog 149 #[.slice ao n cap,.int .i64 i] w fun e w'=>e=.returned (.bool (kv (val d n) i))∧w'=w:=by
  have hl:=h.le
  have hm:=h.max
  obtain⟨q,p,hq,hp⟩:∃ q p:Nat,i=30*q+p∧p<30:=⟨i/30,i % 30,by omega,by omega⟩
  have e1:(i:Int)/30=q:=by omega
  have e2:(i:Int) % 30=p:=by omega
  by_cases hqn:q<n
  · have HV:Hid (kv (val d n) i=(d q/2^p % 2 == 1)):=by unfold kv;show _=_;rw[hq,zV hd.1 hqn hp]
    clear hq
    obtain⟨b,off,rfl,hb,hc⟩:=h.spot (by omega)
    have c:=hc q hqn
    have dq:=hd.1 q hqn
    have hd0:0<=d q/2^p:=Int.ediv_nonneg dq.1 (Int.le_of_lt (aJ p))
    go_enter func149,ntmps149
    go_wp2
    go_ret
    exact⟨bt HV.out.symm,rfl⟩
  · have HV:Hid (kv (val d n) i=false):=xE (bz hd.1) (by
      refine Nat.le_trans (df (k:=30*n) (by rw [<- dG]; exact cV hd.1)) (by omega))
    clear hq
    go_enter func149,ntmps149
    go_wp2
    go_ret
    exact⟨bt HV.out.symm,rfl⟩
structure kx (w:World):Prop where
 a0:w.cell? ⟨1,0,none⟩=some (.int .i64 52)
 a1:w.cell? ⟨1,1,none⟩=some (.int .i64 2047)
 a2:w.cell? ⟨1,2,none⟩=some (.int .i64 (-1074))
theorem kx.keeps {w w':World} (h:kx w) (hb:Below w.heap.size w w'):kx w':=⟨aX h.a0 hb,aX h.a1 hb,aX h.a2 hb⟩
theorem um (b:Int) (w:World) (L:kx w) :
  Calls prog 103 #[.int .i64 b] w fun e w'=>e=.returned (.tuple #[.bool (dV b),.int .i64 (bL b),.int .i64 (bM b),.bool (aF b)])∧Below w.heap.size w w':=by
 obtain⟨a0,a1,a2⟩:=L
 by_cases h:aF b=true
 all_goals
  go_enter func103,ntmps103
  go_wp2_with (go_at_call 122;refine(zQ _ _).mono ?_;rintro e w1 ⟨rfl,hg⟩)
  refine bodyPost_ret (v:=.tuple #[.bool (dV b),.int .i64 (bL b),.int .i64 (bM b),.bool (aF b)]) (by simp[results,results103,go_sem,dV,h]) rfl ⟨rfl,hg.be⟩
theorem gm {b:Int} (hp:aF b=true):0<=bL b∧bL b<9007199254740992∧-1074<=bM b∧bM b<=971:=by
 have hf:=iX b
 have hr:=iY b
 have h1:bZ b≠2047:=by simpa [aF] using hp
 unfold bL bM
 rw[if_neg h1,if_neg h1]
 split<;>omega
theorem vR (x:Int) (w:World) (h0:0<=x) (h1:x<9223372036854775808) :
  Calls prog 120 #[.int .i64 x] w fun e w'=>∃ v,e=.returned (.tuple #[v,.int .i64 0])∧cN w w' x v:=by
 have HX:=uj x w h0 h1
 have HX':Hid (Calls prog 139 #[.int .i64 x] w fun e w'=>∃ v,e=.returned v∧cN w w' x v):=HX
 clear HX h1
 go_enter func120,ntmps120
 go_wp2_with fail
 refine HX'.out.mono ?_
 rintro e w2 ⟨v,rfl,hA⟩
 go_wp2
 go_ret2
 exact⟨_,rfl,hA⟩
theorem un:9223372036854775808<P 2000:=by
 have:=iz (show 3<=2000 by omega)
 have e:P 3=1237940039285380274899124224:=rfl
 omega
theorem vT {ng:Bool} {M e:Int} (h0:0<=M) (h1:M<9223372036854775808) (e0:-1074<=e) (e1:e<=971):cY (sg ng M*pw e):=by
 by_cases hz:M=0
 ·rw[hz,ed,Int.zero_mul];exact ke
 ·obtain⟨l,hl⟩:=gV (show 0<M by omega)
  have hy:=Dy.of ng hl (show 0<M by omega) (show -4194304<=e by omega)
  obtain⟨c1,c2,c3⟩:=eZ hl (show 0<M by omega)
  have hp:=aJ l
  have hl63:l<63:=by
   have h3:(1:Int)*2^l<=M/2^l*2^l:=Int.mul_le_mul_of_nonneg_right (by omega) (by omega)
   rw[c3] at h3
   refine eE ?_
   rw[show(2:Int)^63=9223372036854775808 by decide]
   omega
  refine hy.ok.2 ⟨?_,by omega,by omega⟩
  have:M/2^l<=M:=Int.ediv_le_self _ h0
  have:=un
  omega
theorem vU (ng:Bool) (M e:Int) (w:World) (hT:dZ w) (h0:0<=M) (h1:M<9223372036854775808) (e0:-1074<=e) (e1:e<=971) :
  Calls prog 102 #[.bool ng,.int .i64 M,.int .i64 e,.bool true] w fun r w'=>∃ v,r=.returned (.tuple #[v,.int .i64 0])∧aW w w' (sg ng M*pw e) v:=by
 have hok:=vT (ng:=ng) h0 h1 e0 e1
 go_enter func102,ntmps102
 go_wp2_with fail
 refine(vR M _ h0 h1).mono ?_
 rintro r w1 ⟨v,rfl,hA⟩
 obtain⟨so,sn,sc,d,rfl,hR,hN,hv⟩:=hA.num
 have hsn:sn<=100:=hA.num.len (k:=100) (by have:=iz (show 3<=100 by omega);have:P 3=1237940039285380274899124224:=rfl;omega)
 have hbw:=ac (ah w _) hA.below
 go_wp2_with fail
 refine(nm (V:=sg ng M*pw e) hR hN.1 (by omega) (hT.keeps hbw) (by omega) (by rw[hv])).mono ?_
 rintro r w7 (⟨_,v,rfl,hD⟩|⟨hno,_⟩)
 ·have hb7:=hD.below
  obtain⟨ng',s',m',e',rfl,hyy,hA2⟩:=id hD
  obtain⟨so',sn',sc',rfl⟩:=hA2.num.shape
  have q0:=((ac hA.below hb7).block w.heap.size (by rw[eF];omega)).trans (aA _ _)
  have x0:=af q0 0 rfl
  have x1:=af q0 1 rfl
  have x2:=af q0 2 rfl
  have z0:=ar q0 0
  have z1:=ar q0 1
  have z2:=ar q0 2
  go_wp2
  refine bodyPost_ret (v:=.tuple #[.agg #[.bool ng',.slice so' sn' sc',.int .i64 e'],.int .i64 0]) (by simp[results,results102,go_sem,x0,x1,x2]) rfl ⟨_,rfl,?_⟩
  exact bG (g:=w.heap.size) hD hbw (Nat.le_refl _) (Nat.lt_of_lt_of_le (by rw[eF];omega) hA.below.size) _ _ _
 ·exact absurd hok hno
theorem xM (ng:Bool) (M e:Int) (w:World) :
  Calls prog 102 #[.bool ng,.int .i64 M,.int .i64 e,.bool false] w fun r w'=>r=.returned (.tuple #[eC,.int .i64 10])∧Below w.heap.size w w':=by
 go_enter func102,ntmps102
 go_wp2
 refine bodyPost_ret (v:=.tuple #[eC,.int .i64 10]) (by simp[results,results102,go_sem,eC]) rfl ⟨rfl,?_⟩
 exact ah _ _
theorem zX (b:Int) (w:World) (L:kx w) (hT:dZ w) :
  Calls prog 78 #[.int .i64 b] w fun r w'=>∃ v er,r=.returned (.tuple #[v,.int .i64 er])∧Below w.heap.size w w'∧((aF b=true∧er=0∧aW w w' (sg (dV b) (bL b)*pw (bM b)) v)∨(aF b=false∧er=10∧v=eC)):=by
 have hVy:aF b=true->∀ W,Below w.heap.size w W->Calls prog 102 #[.bool (dV b),.int .i64 (bL b),.int .i64 (bM b),.bool true] W fun r w'=>∃ v,r=.returned (.tuple #[v,.int .i64 0])∧aW W w' (sg (dV b) (bL b)*pw (bM b)) v:=fun hp W hb=>by
  have hi:=gm hp
  exact vU _ _ _ W (hT.keeps hb) (by omega) (by omega) (by omega) (by omega)
 have hP:=fun W hb=>um b W (L.keeps hb)
 generalize sg (dV b) (bL b)*pw (bM b)=V at hVy ⊢
 generalize dV b=ng at *
 generalize bL b=mg at *
 generalize bM b=ex at *
 clear L hT
 cases hp:aF b
 ·rw[hp] at hP hVy
  go_enter func78,ntmps78
  go_wp2_with fail
  refine(hP _ (ah _ _)).mono ?_
  rintro r w1 ⟨rfl,hb1⟩
  go_wp2_with fail
  refine(xM _ _ _ _).mono ?_
  unfold eC
  rintro r w2 ⟨rfl,hb2⟩
  have hbw:=ac (ah w (.cells #[.bool false,.slice none 0 0,.int .i64 0] 33)) (ac hb1 hb2)
  have q0:=((ac hb1 hb2).block w.heap.size (by rw[eF];omega)).trans (aA _ _)
  have x0:=af q0 0 rfl
  have x1:=af q0 1 rfl
  have x2:=af q0 2 rfl
  have z0:=ar q0 0
  have z1:=ar q0 1
  have z2:=ar q0 2
  go_wp2
  refine bodyPost_ret (v:=.tuple #[eC,.int .i64 10]) (by simp[results,results78,go_sem,x0,x1,x2,eC]) rfl ⟨_,_,rfl,?_,.inr ⟨by trivial,rfl,rfl⟩⟩
  exact cX hbw (Nat.le_refl _) _ _ _
 ·rw[hp] at hP hVy
  go_enter func78,ntmps78
  go_wp2_with fail
  refine(hP _ (ah _ _)).mono ?_
  rintro r w1 ⟨rfl,hb1⟩
  have hbw:=ac (ah w (.cells #[.bool false,.slice none 0 0,.int .i64 0] 33)) hb1
  go_wp2_with fail
  refine(hVy (by trivial) _ hbw).mono ?_
  rintro r w2 ⟨v,rfl,hD⟩
  obtain⟨ng',s',m',e',rfl,hyy,hA2⟩:=id hD
  obtain⟨so',sn',sc',rfl⟩:=hA2.num.shape
  have q0:=((ac hb1 hD.below).block w.heap.size (by rw[eF];omega)).trans (aA _ _)
  have x0:=af q0 0 rfl
  have x1:=af q0 1 rfl
  have x2:=af q0 2 rfl
  have z0:=ar q0 0
  have z1:=ar q0 1
  have z2:=ar q0 2
  go_wp2
  refine bodyPost_ret (v:=.tuple #[.agg #[.bool ng',.slice so' sn' sc',.int .i64 e'],.int .i64 0]) (by simp[results,results78,go_sem,x0,x1,x2]) rfl ⟨_,_,rfl,?_,.inl ⟨by trivial,rfl,?_⟩⟩
  ·exact cX (ac hbw hD.below) (Nat.le_refl _) _ _ _
  ·exact bG (g:=w.heap.size) hD hbw (Nat.le_refl _) (Nat.lt_of_lt_of_le (by rw[eF];omega) hb1.size) _ _ _
def fC (way:Int) (ng:Bool):Int:=if cI way ng true 3 then 9218868437227405312 else 9218868437227405311
def aP (ng:Bool) (r:Int):Int:=if ng then r-9223372036854775808 else r
theorem zb.keeps {w w':World} (h:zb w) (hb:Below w.heap.size w w'):zb w' :=
 ⟨⟨aX h.lays.a0 hb,aX h.lays.a1 hb,aX h.lays.a2 hb,trivial,trivial,trivial⟩,fun j hj=>aX (h.tab j hj) hb⟩
def oR (way:Int) (ng sd:Bool) (mag:Nat) (exp:Int) (cut:Bool):Int × Bool :=
 let E:=rE 53 (-1074) mag exp
 let u:=rU mag (E-exp)
 let left:=rL mag cut (E-exp)
 let U:=u+(if cI way ng (decide (u % 2=1)) left then 1 else 0)
 let neg:=ng&&(decide (0<U)||sd)
 if jk 52 2047 (-1074) U E then (jp neg U E,decide (left≠0)) else (aP neg (fC way neg),true)
def vK (M:Int):Nat:=aG M-62
theorem xN {M:Int} (h:0<=M):0<=M/2^vK M∧M/2^vK M<4611686018427387904:=by
 have hp:=aJ (vK M)
 refine⟨Int.ediv_nonneg h (by omega),?_⟩
 have h1:=gS M
 have h2:(2:Int)^aG M<=2^(62+vK M):=dp (by unfold vK;omega)
 have e:(2:Int)^(62+vK M)=4611686018427387904*2^vK M:=by rw[Int.pow_add];rfl
 exact Int.ediv_lt_of_lt_mul hp (by omega)
def Dm (A k:Int):Int:=if 0<=k then A*2^k.toNat else A/2^(-k).toNat
def DP (A k:Int):Bool:=if 0<=k then false else decide (A % 2^(-k).toNat≠0)
def qK (A B:Int):Int:=62+(aG B:Int)-(aG A:Int)
def xO (way:Int) (a b:aI):Int × Bool:=oR way (a.ng != b.ng) false (Dm (val a.d a.n) (qK (val a.d a.n) (val b.d b.n))/val b.d b.n).toNat (a.e-b.e-qK (val a.d a.n) (val b.d b.n)) (DP (val a.d a.n) (qK (val a.d a.n) (val b.d b.n))||decide (Dm (val a.d a.n) (qK (val a.d a.n) (val b.d b.n)) % val b.d b.n≠0))
theorem ns (n:Int) (w:World):(callFunc 75 #[.int .u64 n]).run prog w=.ok (.value (.float .f64 n.toNat)) w:=by
 rw[run_callFunc_extern func75 (by kernel_rfl) (by kernel_rfl) (by kernel_rfl) (e:=Extern.MathFloatBits.float64frombits) (by kernel_rfl)]
 rfl
theorem oS {k:FloatKind} {a b:Nat} (h:a=b):Ending.returned (.float k a)=.returned (.float k b):=by rw[h]
theorem dN (b:Int) (w:World) :
  Calls prog 74 #[.int .i64 b] w fun e w'=>e=.returned (.float .f64 (wd b))∧w'=w:=by
 have hd:=ns
 go_enter func74,ntmps74
 go_wp2
 go_ret
 exact⟨oS (by rw[IntKind.wrap_u64];rfl),rfl⟩
theorem eG {p:Prop} (h:p):Hid p:=h
theorem lm (b:Int) (w:World) (hb:ax b) :
  Calls prog 147 #[.int .i64 b] w fun e w'=>e=.returned (.tuple #[.bool (decide (b<0)),.int .i64 (bZ b),.int .i64 (cx b)])∧w'=w:=by
 unfold ax at hb
 by_cases h:b<0
 all_goals
  go_enter func147,ntmps147
  go_wp2
  go_ret3
  exact⟨zP (by simp;try omega) (by unfold bZ;omega) (by unfold cx;omega),rfl⟩
theorem Bg (f t most:Int) (w:World) (hf:0<=f) (ht:0<=t) :
  Calls prog 152 #[.int .i64 f,.int .i64 t,.int .i64 most] w fun e w'=>e=.returned (.int .i64 (qj f t most))∧w'=w:=by
 by_cases h1:f=most
 ·subst h1
  by_cases h2:t=0
  all_goals
   go_enter func152,ntmps152
   go_wp2
   go_ret
   exact⟨eD (by simp[qj,h2]),rfl⟩
 ·by_cases h2:0<f<;>by_cases h3:0<t
  all_goals
   go_enter func152,ntmps152
   go_wp2
   go_ret
   exact⟨eD (by simp[qj,h1];omega),rfl⟩
theorem je (b:Int) (w:World) (hb:ax b) :
    Calls prog 133 #[.int .i64 b] w fun e w'=>e=.returned (.int .i64 (aR b))∧w'=w:=by
  have hf:=iX b
  have ht:=iY b
  go_enter func133,ntmps133
  go_wp2_with (first
    | (go_at_call 147;refine(lm _ _ hb).mono ?_;rintro e w1 ⟨rfl,rfl⟩)
    | (go_at_call 152; refine (Bg _ _ _ _ hf.1 ht.1).mono ?_; rintro e w1 ⟨rfl,rfl⟩))
  go_ret
  exact⟨eD (xt b),rfl⟩
theorem xP (b:Int) (w:World) (hb:ax b) :
    Calls prog 127 #[.int .i64 b] w fun e w'=>e=.returned (.tuple #[.bool (dV b),.int .i64 (bL b),.int .i64 (bM b),.bool (aF b)])∧w'=w:=by
  have hf:=iX b
  have ht:=iY b
  by_cases h0:aR b=0
  · have k:=eG (oG (.inl h0))
    go_enter func127,ntmps127
    go_wp2_with (first
      | (go_at_call 147;refine(lm _ _ hb).mono ?_;rintro e w1 ⟨rfl,rfl⟩)
      | (go_at_call 133; refine (je _ _ hb).mono ?_; rintro e w1 ⟨rfl,rfl⟩))
    refine bodyPost_ret (v:=.tuple #[.bool (decide (b<0)),.int .i64 (cx b),.int .i64 (-1074),.bool true]) (by simp[results,results127,go_sem]) rfl ⟨kn k.out.1 k.out.2.1 k.out.2.2.1 k.out.2.2.2,rfl⟩
  · by_cases h1:aR b=1
    · have k:=eG (oG (.inr h1))
      go_enter func127,ntmps127
      go_wp2_with (first
        | (go_at_call 147;refine(lm _ _ hb).mono ?_;rintro e w1 ⟨rfl,rfl⟩)
        | (go_at_call 133; refine (je _ _ hb).mono ?_; rintro e w1 ⟨rfl,rfl⟩))
      refine bodyPost_ret (v:=.tuple #[.bool (decide (b<0)),.int .i64 (cx b),.int .i64 (-1074),.bool true]) (by simp[results,results127,go_sem]) rfl ⟨kn k.out.1 k.out.2.1 k.out.2.2.1 k.out.2.2.2,rfl⟩
    · by_cases h2:aR b=2
      · have k:=eG (ub h2)
        go_enter func127,ntmps127
        go_wp2_with (first
          | (go_at_call 147;refine(lm _ _ hb).mono ?_;rintro e w1 ⟨rfl,rfl⟩)
          | (go_at_call 133; refine (je _ _ hb).mono ?_; rintro e w1 ⟨rfl,rfl⟩))
        refine bodyPost_ret (v:=.tuple #[.bool (decide (b<0)),.int .i64 (4503599627370496+cx b),.int .i64 (bZ b-1075),.bool true]) (by simp[results,results127,go_sem]) rfl ⟨kn k.out.1 k.out.2.1 k.out.2.2.1 k.out.2.2.2,rfl⟩
      · have k:=eG (vf h0 h1 h2)
        go_enter func127,ntmps127
        go_wp2_with (first
          | (go_at_call 147;refine(lm _ _ hb).mono ?_;rintro e w1 ⟨rfl,rfl⟩)
          | (go_at_call 133; refine (je _ _ hb).mono ?_; rintro e w1 ⟨rfl,rfl⟩))
        refine bodyPost_ret (v:=.tuple #[.bool false,.int .i64 0,.int .i64 0,.bool false]) (by simp[results,results127,go_sem]) rfl ⟨kn k.out.1 k.out.2.1 k.out.2.2.1 k.out.2.2.2,rfl⟩
def fH (b:Int):Int:=if aR b=4 then 9221120237041090561 else b
theorem Ds {b:Int} (hb:ax b):(FloatKind.f64.format.order (wd b) (wd b) != some .eq)=decide (aR b=4):=by
 have:=mY hb hb
 unfold bne
 rw[this];unfold gh
 by_cases h:aR b=4<;>simp[h]
theorem uo (n:Nat) (w:World):(callFunc 76 #[.float .f64 n]).run prog w=.ok (.value (.int .u64 n)) w:=by
 rw[run_callFunc_extern func76 (by kernel_rfl) (by kernel_rfl) (by kernel_rfl) (e:=Extern.MathFloatBits.float64bits) (by kernel_rfl)]
 rfl
def oj (g:Nat) (x:Int):aI:=⟨false,some ⟨g,0,none⟩,1,1,fun _=>x,0⟩
theorem Cf (g k:Nat):xO 0 (oj g 1) (oj k 3)=(4599676419421066581,true):=by
 have e:xO 0 (oj g 1) (oj k 3)=xO 0 (oj 0 1) (oj 0 3):=rfl
 rw[e]
 decide +kernel
def aI.neg (r:aI):aI:=⟨!r.ng,r.ao,r.n,r.cap,r.d,r.e⟩
theorem aI.neg_V (r:aI):r.neg.V=-r.V:=by
 show sg (!r.ng) _*_=_
 rw[qk,Int.neg_mul];rfl
theorem aI.neg_sane {r:aI} (h:dR r):dR r.neg:=h
theorem xQ (x y:aI) (g h:Nat) (w:World) (cg:w.heap[g]?=some (.cells #[.bool x.ng,.slice x.ao x.n x.cap,.int .i64 x.e] 33 (0,0))) (ch:w.heap[h]?=some (.cells #[.bool y.ng,.slice y.ao y.n y.cap,.int .i64 y.e] 33 (0,0)))
  (hx:aS w x.ao x.n x.cap x.d) (hy:aS w y.ao y.n y.cap y.d) (sx:dR x) (sy:dR y) (hT:dZ w) :
  Calls prog 106 #[.pointer (some ⟨g,0,none⟩),.pointer (some ⟨h,0,none⟩)] w (mD w (x.V+y.V)):=by
 obtain⟨an,ao,n,ca,a,e⟩:=x
 obtain⟨bn,bo,m,cb,b,f⟩:=y
 simp only at cg ch hx hy
 have hb:=ah w (.cells #[.bool false,.slice none 0 0,.int .i64 0] 33)
 have g0:=ap (.cells #[.bool false,.slice none 0 0,.int .i64 0] 33) cg
 have g1:=ap (.cells #[.bool false,.slice none 0 0,.int .i64 0] 33) ch
 have k0:=af g0 0 rfl
 have k1:=af g0 1 rfl
 have k2:=af g0 2 rfl
 have j0:=af g1 0 rfl
 have j1:=af g1 1 rfl
 have j2:=af g1 2 rfl
 have hN:=fun q=>ze (w:=(w.alloc (.cells #[.bool false,.slice none 0 0,.int .i64 0] 33)).alloc (.cells #[.bool an,.slice ao n ca,.int .i64 e,.bool bn,.slice bo m cb,.int .i64 f] 33)) (g:=w.heap.size+1) (x:=⟨an,ao,n,ca,a,e⟩) (y:=⟨bn,bo,m,cb,b,f⟩) (t:=33) q (hx.keeps (aL _ _ _)) (hy.keeps (aL _ _ _))
 go_enter func106,ntmps106
 go_wp2_with fail
 refine(oQ _ _ _ _ _ (hN (bH _ _ _)) (fun i hi=>?_) (by omega) (hT.keeps (aL _ _ _))).mono ?_
 ·match i,hi with
  | 0,_=>exact sx
  | 1,_=>exact sy
 rw[Ce]
 rintro r w7 (⟨hok,v,rfl,hD⟩|⟨hno,rfl,hb7⟩)
 ·have hb7:=hD.below
  obtain⟨ng',s',m',e',rfl,hyy,hA⟩:=id hD
  obtain⟨so,sn,sc,rfl⟩:=hA.num.shape
  have q0:=(hb7.block w.heap.size (by rw[fA];omega)).trans (bO _ _ _)
  have x0:=af q0 0 rfl
  have x1:=af q0 1 rfl
  have x2:=af q0 2 rfl
  have z0:=ar q0 0
  have z1:=ar q0 1
  have z2:=ar q0 2
  go_wp2
  refine bodyPost_ret (v:=.agg #[.bool ng',.slice so sn sc,.int .i64 e']) (by simp[results,results106,go_sem,x0,x1,x2]) rfl ?_
  exact .inl ⟨hok,_,rfl,bG (g:=w.heap.size) hD (aL _ _ _) (Nat.le_refl _) (by rw[fA];omega) _ _ _⟩
 ·exact⟨rfl,.inr ⟨hno,rfl,ac (aL _ _ _) hb7⟩⟩
theorem zY (x y:aI) (w:World) (hx:aS w x.ao x.n x.cap x.d) (hy:aS w y.ao y.n y.cap y.d) (ox:dI x=true) (oy:dI y=true) (hT:dZ w) :
  Calls prog 79 #[x.v,y.v] w fun r w'=>∃ v er,r=.returned (.tuple #[v,.int .i64 er])∧ja w w' (x.V-y.V) v er:=by
 have hmf:∀ (fn:Fn) (first cap:Array Value) (w:World),(Instr.makeFunc fn first cap).run prog w=.ok (.func fn first cap) w:=fun _ _ _ _=>rfl
 have hE:∀ (cap:Array Value) (w:World),(callFunc 106 cap).run prog w=.ok (.enter 106 cap) w:=by
  intro cap w
  simp[go_sem]
 have hA:=Be x y
 rw[ox,oy] at hA
 have hN:=fun W q hb=>ze (w:=W) (g:=w.heap.size+3) (x:=x) (y:=y) (t:=33) q (hx.keeps hb) (hy.keeps hb)
 have hC:=fun W hb cg ch=>xQ x y.neg w.heap.size (w.heap.size+1) W cg ch (hx.keeps hb) (hy.keeps hb) (cD ox) (aI.neg_sane (cD oy)) (hT.keeps hb)
 generalize pW x y=pr at hA hN
 rw[show x.V-y.V=x.V+y.neg.V by rw[aI.neg_V];omega]
 generalize x.V+y.neg.V=V at hC ⊢
 clear ox oy
 obtain⟨an,ao,n,ca,a,e⟩:=x
 obtain⟨bn,bo,m,cb,b,f⟩:=y
 unfold aI.v
 unfold aI.neg at hC
 simp only at hx hy hN hC ⊢
 go_enter func79,ntmps79
 go_wp2_with fail
 refine(jJ _ _ _ _ _ (hN _ (gK _ _ _ _ _) (eS _ _ _ _ _))).mono ?_
 rw[hA]
 rintro r w1 ⟨rfl,hb1⟩
 have hbw:=ac (eS w _ _ _ _) hb1
 have g0:=(hb1.block w.heap.size (by rw[kw];omega)).trans (gW _ _ _ _ _)
 have g1:=(hb1.block (w.heap.size+1) (by rw[kw];omega)).trans (gX _ _ _ _ _)
 have g2:=(hb1.block (w.heap.size+2) (by rw[kw];omega)).trans (gJ _ _ _ _ _)
 have hs4:w.heap.size+4<=w1.heap.size:=by have:=hb1.size;rw[kw] at this;exact this
 have y0:=af g1 0 rfl
 have y1:=ar g1 0
 go_wp2_with fail
 have hbw':Below w.heap.size w (w1.setCell ⟨w.heap.size+1,0,none⟩ (.bool (!bn))):=hbw.setCell (p:=⟨w.heap.size+1,0,none⟩) (Nat.le_succ _) _
 have u0:=(Below.heap_setCell w1 ⟨w.heap.size+1,0,none⟩ (.bool (!bn)) w.heap.size (by show w.heap.size≠w.heap.size+1;omega)).trans g0
 have u2:=(Below.heap_setCell w1 ⟨w.heap.size+1,0,none⟩ (.bool (!bn)) (w.heap.size+2) (by show w.heap.size+2≠w.heap.size+1;omega)).trans g2
 have u1:=aq g1 0 (.bool (!bn))
 have us:(w1.setCell ⟨w.heap.size+1,0,none⟩ (.bool (!bn))).heap.size=w1.heap.size:=by simp[World.setCell]
 generalize w1.setCell ⟨w.heap.size+1,0,none⟩ (.bool (!bn))=w9 at hbw' u0 u1 u2 us ⊢
 clear hbw g0 g1 g2 hb1 y0 y1
 have hbw:=hbw'
 have g0:=u0
 have g1:w9.heap[w.heap.size+1]?=some (.cells #[.bool (!bn),.slice bo m cb,.int .i64 f] 33 (0,0)):=u1
 have g2:=u2
 refine(qF (V:=V) (hE _) (fun W hW=>hC W (ac hbw hW) ((hW.block _ (by omega)).trans g0) ((hW.block _ (by omega)).trans g1))).mono ?_
 rintro r w2 ⟨v,er,rfl,hF⟩
 obtain⟨ng',so,sn,sc,e',rfl⟩:=hF.shape
 have q0:=(hF.1.block (w.heap.size+2) (by omega)).trans g2
 have x0:=af q0 0 rfl
 have x1:=af q0 1 rfl
 have x2:=af q0 2 rfl
 have z0:=ar q0 0
 have z1:=ar q0 1
 have z2:=ar q0 2
 go_wp2
 refine bodyPost_ret (v:=.tuple #[.agg #[.bool ng',.slice so sn sc,.int .i64 e'],.int .i64 er]) (by simp[results,results79,go_sem,x0,x1,x2]) rfl ⟨_,_,rfl,?_⟩
 exact qE (g:=w.heap.size+2) hF hbw (by omega) (by omega) _ _ _
def lp (x y:aI):Int:=sg (x.ng != y.ng) (val x.d x.n*val y.d y.n)*pw (x.e+y.e)
theorem lS {x y:aI} (hx:-2097152<=x.e) (hy:-2097152<=y.e):lp x y*2^4194304=x.V*y.V:=by
 unfold lp aI.V
 rw[Int.mul_assoc,<- jO hx hy,<- vi];grind
theorem qH (x y:aI) (w:World) (hx:aS w x.ao x.n x.cap x.d) (hy:aS w y.ao y.n y.cap y.d) (sx:dR x) (sy:dR y) :
  Calls prog 155 #[x.v,y.v] w fun r w'=>∃ s,r=.returned (.agg #[.bool (x.ng != y.ng),s,.int .i64 (x.e+y.e)])∧cN w w' (val x.d x.n*val y.d y.n) s:=by
 obtain⟨an,ao,n,ca,a,e⟩:=x
 obtain⟨bn,bo,m,cb,b,f⟩:=y
 obtain⟨s1,s2,s3,s4⟩:=sx
 obtain⟨t1,t2,t3,t4⟩:=sy
 unfold aI.v
 simp only at *
 have hw:IntKind.i64.wrap (e+f)=e+f:=by rw[bs];omega
 have hb3:=dn w (.cells #[.bool an,.slice ao n ca,.int .i64 e] 33) (.cells #[.bool bn,.slice bo m cb,.int .i64 f] 33) (.cells #[.bool false,.slice none 0 0,.int .i64 0] 33)
 have g0:=lj w (.cells #[.bool an,.slice ao n ca,.int .i64 e] 33) (.cells #[.bool bn,.slice bo m cb,.int .i64 f] 33) (.cells #[.bool false,.slice none 0 0,.int .i64 0] 33)
 have g1:=lk w (.cells #[.bool an,.slice ao n ca,.int .i64 e] 33) (.cells #[.bool bn,.slice bo m cb,.int .i64 f] 33) (.cells #[.bool false,.slice none 0 0,.int .i64 0] 33)
 have g2:=jc w (.cells #[.bool an,.slice ao n ca,.int .i64 e] 33) (.cells #[.bool bn,.slice bo m cb,.int .i64 f] 33) (.cells #[.bool false,.slice none 0 0,.int .i64 0] 33)
 have hs3:=iH w (.cells #[.bool an,.slice ao n ca,.int .i64 e] 33) (.cells #[.bool bn,.slice bo m cb,.int .i64 f] 33) (.cells #[.bool false,.slice none 0 0,.int .i64 0] 33)
 go_enter func155,ntmps155
 go_wp2_with fail
 have HX:=hx.keeps hb3
 have HY:=hy.keeps hb3
 generalize ((w.alloc (.cells #[.bool an,.slice ao n ca,.int .i64 e] 33)).alloc (.cells #[.bool bn,.slice bo m cb,.int .i64 f] 33)).alloc (.cells #[.bool false,.slice none 0 0,.int .i64 0] 33)=wx at hb3 g0 g1 g2 hs3 HX HY ⊢
 have k0:=af g0 0 rfl
 have k1:=af g0 1 rfl
 have k2:=af g0 2 rfl
 have j0:=af g1 0 rfl
 have j1:=af g1 1 rfl
 have j2:=af g1 2 rfl
 have hb1:=al wx
 have C1:∀ W,Below wx.heap.size wx W->Calls prog 161 #[.slice ao n ca,.slice bo m cb] W fun r w'=>∃ so sn sc,r=.returned (.slice so sn sc)∧cN W w' (val a n*val b m) (.slice so sn sc)∧Below W.heap.size W w':=fun W h=>by
  refine(sH ao bo n m ca cb a b W (HX.keeps h) (HY.keeps h) s1.1 t1.1 (by omega) (by omega)).mono ?_
  rintro r w' ⟨v,rfl,hA⟩
  obtain⟨so,sn,sc,rfl⟩:=hA.num.shape
  exact⟨so,sn,sc,rfl,hA,hA.below⟩
 go_region_held3 (fun W=>(W.cell? ⟨w.heap.size,0,none⟩=some (.bool an)∧W.cell? ⟨w.heap.size,1,none⟩=some (.slice ao n ca)∧W.cell? ⟨w.heap.size,2,none⟩=some (.int .i64 e))∧W.cell? ⟨w.heap.size+1,0,none⟩=some (.bool bn)∧W.cell? ⟨w.heap.size+1,1,none⟩=some (.slice bo m cb)∧W.cell? ⟨w.heap.size+1,2,none⟩=some (.int .i64 f))
  (first|assumption|exact⟨⟨k0,k1,k2⟩,j0,j1,j2⟩|exact⟨gL (W:=wx.drew) ⟨k0,k1,k2⟩ hbv1,gL (W:=wx.drew) ⟨j0,j1,j2⟩ hbv1⟩|exact⟨fB (gL (W:=wx.drew) ⟨k0,k1,k2⟩ hbv1) (by omega) _ _ _,fB (gL (W:=wx.drew) ⟨j0,j1,j2⟩ hbv1) (by omega) _ _ _⟩)
  (first|(go_at_call 161;refine(C1 _ hb1.drew).mono ?_;rintro y w3 ⟨so,sn,sc,rfl,hv,hbv1⟩;have q0:=(hbv1.block (w.heap.size+2) (by show _<wx.heap.size;omega)).trans g2;have x0:=af q0 0 rfl;have x1:=af q0 1 rfl;have x2:=af q0 2 rfl;have z0:=ar q0 0;have z1:=ar q0 1;have z2:=ar q0 2)|fail)
 all_goals go_wp2
 all_goals
  refine bodyPost_ret (v:=.agg #[.bool (!(an == bn)),.slice so sn sc,.int .i64 (e+f)]) (by simp[results,results155,go_sem,x0,x1,x2]) rfl ⟨_,rfl,?_⟩
  exact gU (g:=w.heap.size+2) (hv.from hb1.drew) hb3 (by omega) (by omega) _ _ _
theorem uq (x:aI) (w:World) (hx:aS w x.ao x.n x.cap x.d) :
  Calls prog 73 #[x.v] w fun r w'=>r=.returned (.tuple #[.int .i64 (if dI x then dT x.ng x.n else 0),.int .i64 (if dI x then 0 else 11)])∧Below w.heap.size w w':=by
 have hV:=fun W hb=>iG x.ng x.ao x.n x.cap x.d x.e W (hx.keeps hb)
 have hS:=fun W=>oL x.ng x.ao x.n x.cap x.e W (by have:=hx.le;have:=hx.max;omega)
 have hk:iD x.ng x.d x.n x.e=dI x:=rfl
 rw[hk] at hV
 unfold aI.v
 generalize dI x=ok at *
 obtain⟨an,ao,n,ca,a,e⟩:=x
 simp only at *
 cases ok
 ·go_enter func73,ntmps73
  go_wp2_with fail
  refine(hV _ (ah _ _)).mono ?_
  rintro r w1 ⟨rfl,hb1⟩
  go_wp2
  go_ret2
  exact⟨rfl,ac (ah _ _) hb1⟩
 ·go_enter func73,ntmps73
  go_wp2_with fail
  refine(hV _ (ah _ _)).mono ?_
  rintro r w1 ⟨rfl,hb1⟩
  have g0:=(hb1.block w.heap.size (by rw[eF];omega)).trans (aA _ _)
  have k0:=af g0 0 rfl
  have k1:=af g0 1 rfl
  have k2:=af g0 2 rfl
  go_wp2_with fail
  refine(hS _).mono ?_
  rintro r w2 ⟨rfl,hb2⟩
  go_wp2
  go_ret2
  exact⟨rfl,ac (ac (ah _ _) hb1) hb2⟩
theorem qI (ng:Bool) (x:aI) (w:World) (hx:aS w x.ao x.n x.cap x.d) (sx:dR x) :
  Calls prog 138 #[.bool ng,x.v] w fun r w'=>∃ s,r=.returned (.agg #[.bool (ng&&decide (0<x.n)),s,.int .i64 x.e])∧cN w w' (val x.d x.n) s:=by
 have hC:∀ W,Below w.heap.size w W->Calls prog 156 #[.slice x.ao x.n x.cap] W fun r w'=>∃ so sn sc,r=.returned (.slice so sn sc)∧cN W w' (val x.d x.n) (.slice so sn sc)∧Below W.heap.size W w':=fun W hb=>by
  refine(vM (w:=W) (ao:=x.ao) (n:=x.n) (cap:=x.cap) (A:=val x.d x.n) ⟨_,_,_,_,rfl,hx.keeps hb,sx.1,rfl⟩ (by have:=sx.2.1;omega)).mono ?_
  rintro r w' ⟨v,rfl,hA⟩
  obtain⟨so,sn,sc,rfl⟩:=hA.num.shape
  exact⟨so,sn,sc,rfl,hA,hA.below⟩
 obtain⟨an,ao,n,ca,a,e⟩:=x
 unfold aI.v
 simp only at *
 have hb2:=aL w (.cells #[.bool an,.slice ao n ca,.int .i64 e] 33) (.cells #[.bool false,.slice none 0 0,.int .i64 0] 33)
 have g0:=bO w (.cells #[.bool an,.slice ao n ca,.int .i64 e] 33) (.cells #[.bool false,.slice none 0 0,.int .i64 0] 33)
 have g1:=bH w (.cells #[.bool an,.slice ao n ca,.int .i64 e] 33) (.cells #[.bool false,.slice none 0 0,.int .i64 0] 33)
 have hs:=fA w (.cells #[.bool an,.slice ao n ca,.int .i64 e] 33) (.cells #[.bool false,.slice none 0 0,.int .i64 0] 33)
 have hdn:decide ((0:Int)<n)=decide (0<n):=by simp
 cases ng
 ·
  go_enter func138,ntmps138
  go_wp2_with fail
  generalize (w.alloc (.cells #[.bool an,.slice ao n ca,.int .i64 e] 33)).alloc (.cells #[.bool false,.slice none 0 0,.int .i64 0] 33)=wx at hb2 g0 g1 hs ⊢
  have k0:=af g0 0 rfl
  have k1:=af g0 1 rfl
  have k2:=af g0 2 rfl
  have hb1:=al wx
  refine wp_region_held_drew (S:=fun W=>W.cell? ⟨w.heap.size,0,none⟩=some (.bool an)∧W.cell? ⟨w.heap.size,1,none⟩=some (.slice ao n ca)∧W.cell? ⟨w.heap.size,2,none⟩=some (.int .i64 e)) (by kernel_rfl) ⟨k0,k1,k2⟩ (fun hHeld=>?_)
  refine wpAnyH_take (i:=0) (v:=?_) rfl (by kernel_rfl) (by kernel_rfl) (by kernel_rfl) (fun _ _ _ h=>h) (Or.inl ⟨by rfl,?_⟩) (by assumption) ?_
  rotate_left
  ·intro w hSw;(try dsimp only at hSw);go_simp;first|done|with_reducible rfl
  simp only[Act.put,List.setIfInBounds_toArray,List.set_cons_zero,List.set_cons_succ]
  refine wpAnyH_take (i:=1) (v:=?_) rfl (by kernel_rfl) (by kernel_rfl) (by kernel_rfl) (fun _ _ _ h=>h) (Or.inl ⟨by rfl,?_⟩) (by assumption) ?_
  rotate_left
  ·intro w hSw;(try dsimp only at hSw);go_simp;first|done|with_reducible rfl
  simp only[Act.put,List.setIfInBounds_toArray,List.set_cons_zero,List.set_cons_succ]
  refine wpAnyH_take (i:=2) (v:=undef) rfl (by kernel_rfl) (by kernel_rfl) (by kernel_rfl) (fun _ _ _ h=>h) (Or.inr ⟨by rfl,rfl⟩) (by assumption) ?_
  simp only[Act.put,List.setIfInBounds_toArray,List.set_cons_zero,List.set_cons_succ]
  refine wpAnyH_take (i:=3) (v:=undef) rfl (by kernel_rfl) (by kernel_rfl) (by kernel_rfl) (fun _ _ _ h=>h) (Or.inr ⟨by rfl,rfl⟩) (by assumption) ?_
  simp only[Act.put,List.setIfInBounds_toArray,List.set_cons_zero,List.set_cons_succ]
  refine wpAnyH_take (i:=4) (v:=undef) rfl (by kernel_rfl) (by kernel_rfl) (by kernel_rfl) (fun _ _ _ h=>h) (Or.inr ⟨by rfl,rfl⟩) (by assumption) ?_
  simp only[Act.put,List.setIfInBounds_toArray,List.set_cons_zero,List.set_cons_succ]
  refine wpAnyH_take (i:=5) (v:=undef) rfl (by kernel_rfl) (by kernel_rfl) (by kernel_rfl) (fun _ _ _ h=>h) (Or.inr ⟨by rfl,rfl⟩) (by assumption) ?_
  simp only[Act.put,List.setIfInBounds_toArray,List.set_cons_zero,List.set_cons_succ]
  refine wpAnyH_take (i:=6) (v:=?_) rfl (by kernel_rfl) (by kernel_rfl) (by kernel_rfl) (fun _ _ _ h=>h) (Or.inl ⟨by rfl,?_⟩) (by assumption) ?_
  rotate_left
  ·intro w hSw;(try dsimp only at hSw);go_simp;first|done|with_reducible rfl
  simp only[Act.put,List.setIfInBounds_toArray,List.set_cons_zero,List.set_cons_succ]
  refine wpAnyH_take (i:=7) (v:=?_) rfl (by kernel_rfl) (by kernel_rfl) (by kernel_rfl) (fun _ _ _ h=>h) (Or.inl ⟨by rfl,?_⟩) (by assumption) ?_
  rotate_left
  ·intro w hSw;(try dsimp only at hSw);go_simp;first|done|with_reducible rfl
  simp only[Act.put,List.setIfInBounds_toArray,List.set_cons_zero,List.set_cons_succ]
  refine wpAnyH_take (i:=8) (v:=?_) rfl (by kernel_rfl) (by kernel_rfl) (by kernel_rfl) (fun _ _ _ h=>h) (Or.inl ⟨by rfl,?_⟩) (by assumption) ?_
  rotate_left
  ·intro w hSw;(try dsimp only at hSw);go_simp;first|done|with_reducible rfl
  simp only[Act.put,List.setIfInBounds_toArray,List.set_cons_zero,List.set_cons_succ]
  refine wpAnyH_take (i:=10) (v:=?_) rfl (by kernel_rfl) (by kernel_rfl) (by kernel_rfl) (fun _ _ _ h=>h) (Or.inl ⟨by rfl,?_⟩) (by assumption) ?_
  rotate_left
  ·intro w hSw;(try dsimp only at hSw);go_simp;first|done|with_reducible rfl
  simp only[Act.put,List.setIfInBounds_toArray,List.set_cons_zero,List.set_cons_succ]
  refine wpAnyH_take (i:=11) (v:=?_) rfl (by kernel_rfl) (by kernel_rfl) (by kernel_rfl) (fun _ _ _ h=>h) (Or.inl ⟨by rfl,?_⟩) (by assumption) ?_
  rotate_left
  ·intro w hSw;(try dsimp only at hSw);go_simp;first|done|with_reducible rfl
  simp only[Act.put,List.setIfInBounds_toArray,List.set_cons_zero,List.set_cons_succ]
  refine wpAnyH_ready (rs:=[9]) (by kernel_rfl) (by simp) ?_
  refine AllReadyH.cons rfl (fun K hK=>?_) AllReadyH.nil
  go_simp
  refine(hC _ (ac hb2 hb1.drew)).mono ?_
  rintro y w3 ⟨so,sn,sc,rfl,hv,hbv1⟩
  have q0:=(hbv1.block (w.heap.size+1) (by show _<wx.heap.size;omega)).trans g1
  have x0:=af q0 0 rfl
  have x1:=af q0 1 rfl
  have x2:=af q0 2 rfl
  have z0:=ar q0 0
  have z1:=ar q0 1
  have z2:=ar q0 2
  refine hK.out _ _ (gL (W:=wx.drew) ⟨k0,k1,k2⟩ hbv1) (fun hHeld2=>?_)
  clear hK K hHeld
  try simp only[Act.put,List.setIfInBounds_toArray,List.set_cons_zero,List.set_cons_succ]
  refine wpAnyH_take (i:=12) (v:=?_) rfl (by kernel_rfl) (by kernel_rfl) (by kernel_rfl) (fun _ _ _ h=>h) (Or.inl ⟨by rfl,?_⟩) (by assumption) ?_
  rotate_left
  ·intro w hSw;(try dsimp only at hSw);go_simp;first|done|with_reducible rfl
  simp only[Act.put,List.setIfInBounds_toArray,List.set_cons_zero,List.set_cons_succ]
  refine wpAnyH_ready (rs:=[13]) (by kernel_rfl) (by simp) ?_
  refine AllReadyH.cons rfl (fun K hK=>?_) AllReadyH.nil
  go_simp
  refine hK.out _ _ (fB hHeld2 (by omega) _ _ _) (fun hHeld3=>?_)
  clear hK K
  refine wpAnyH_done (by kernel_rfl) ?_ _
  all_goals go_wp2
  all_goals
   refine bodyPost_ret (v:=.agg #[.bool false,.slice so sn sc,.int .i64 e]) (by simp[results,results138,go_sem,x0,x1,x2]) rfl ⟨_,rfl,?_⟩
   exact gU (g:=w.heap.size+1) (hv.from hb1.drew) hb2 (by omega) (by omega) _ _ _
 ·
  go_enter func138,ntmps138
  go_wp2_with fail
  generalize (w.alloc (.cells #[.bool an,.slice ao n ca,.int .i64 e] 33)).alloc (.cells #[.bool false,.slice none 0 0,.int .i64 0] 33)=wx at hb2 g0 g1 hs ⊢
  have k0:=af g0 0 rfl
  have k1:=af g0 1 rfl
  have k2:=af g0 2 rfl
  have hb1:=al wx
  go_region_held3 (fun W=>W.cell? ⟨w.heap.size,0,none⟩=some (.bool an)∧W.cell? ⟨w.heap.size,1,none⟩=some (.slice ao n ca)∧W.cell? ⟨w.heap.size,2,none⟩=some (.int .i64 e))
   (first|assumption|exact⟨k0,k1,k2⟩|exact gL (W:=wx.drew) ⟨k0,k1,k2⟩ hbv1|exact fB (gL (W:=wx.drew) ⟨k0,k1,k2⟩ hbv1) (by omega) _ _ _)
   (first|(go_at_call 156;refine(hC _ (ac hb2 hb1.drew)).mono ?_;rintro y w3 ⟨so,sn,sc,rfl,hv,hbv1⟩;have q0:=(hbv1.block (w.heap.size+1) (by show _<wx.heap.size;omega)).trans g1;have x0:=af q0 0 rfl;have x1:=af q0 1 rfl;have x2:=af q0 2 rfl;have z0:=ar q0 0;have z1:=ar q0 1;have z2:=ar q0 2)|fail)
  all_goals go_wp2
  all_goals
   refine bodyPost_ret (v:=.agg #[.bool (decide (0<n)),.slice so sn sc,.int .i64 e]) (by simp[results,results138,go_sem,x0,x1,x2]) rfl ⟨_,rfl,?_⟩
   exact gU (g:=w.heap.size+1) (hv.from hb1.drew) hb2 (by omega) (by omega) _ _ _
theorem Bh {x:aI} (h:dI x=true):Dy (-x.V) (!x.ng&&decide (0<x.n)) (val x.d x.n) x.e:=by
 have hd:=(jd h).1
 by_cases h0:0<x.n
 ·have hv:=ft (cD h).1 h0
  have:=hd.neg hv
  simpa [h0] using this
 ·rcases of_decide_eq_true h with⟨h1,h2,h3⟩|⟨h1,_⟩
  ·have hv:val x.d x.n=0:=by rw[h1];rfl
   have:=hd.eq_zero.2 hv
   rw[this,hv,h3]
   simpa [h0] using Dy.zero
  ·omega
theorem zZ (x:aI) (w:World) (hx:aS w x.ao x.n x.cap x.d) (ok:dI x=true) :
  Calls prog 114 #[x.v] w fun r w'=>∃ v,r=.returned (.tuple #[v,.int .i64 0])∧aW w w' (-x.V) v:=by
 have hV:=fun W hb=>iG x.ng x.ao x.n x.cap x.d x.e W (hx.keeps hb)
 have hS:=fun W hb=>qI (!x.ng) x W (hx.keeps hb) (cD ok)
 have hy:Dy (-x.V) (!x.ng&&decide (0<x.n)) (val x.d x.n) x.e:=Bh ok
 have hk:iD x.ng x.d x.n x.e=dI x:=rfl
 rw[hk,ok] at hV
 clear ok hk
 generalize -x.V=V at hy ⊢
 unfold aI.v at hS ⊢
 obtain⟨an,ao,n,ca,a,e⟩:=x
 simp only at *
 go_enter func114,ntmps114
 go_wp2_with fail
 refine(hV _ (aL _ _ _)).mono ?_
 rintro r w1 ⟨rfl,hb1⟩
 have hbw:=ac (aL w _ _) hb1
 have g0:=(hb1.block w.heap.size (by rw[fA];omega)).trans (bO _ _ _)
 have g1:=(hb1.block (w.heap.size+1) (by rw[fA];omega)).trans (bH _ _ _)
 have hs2:w.heap.size+2<=w1.heap.size:=by have:=hb1.size;rw[fA] at this;exact this
 have k0:=af g0 0 rfl
 have k1:=af g0 1 rfl
 have k2:=af g0 2 rfl
 go_wp2_with fail
 refine(hS _ hbw).mono ?_
 rintro r w3 ⟨s,rfl,hA⟩
 obtain⟨so,sn,sc,rfl⟩:=hA.num.shape
 have q0:=(hA.below.block (w.heap.size+1) (by omega)).trans g1
 have x0:=af q0 0 rfl
 have x1:=af q0 1 rfl
 have x2:=af q0 2 rfl
 have z0:=ar q0 0
 have z1:=ar q0 1
 have z2:=ar q0 2
 generalize hsg:(!an&&decide (0<n))=sgx at *
 go_wp2
 refine bodyPost_ret (v:=.tuple #[.agg #[.bool sgx,.slice so sn sc,.int .i64 e],.int .i64 0]) (by simp[results,results114,go_sem,x0,x1,x2]) rfl ⟨_,rfl,?_⟩
 exact⟨_,_,_,_,rfl,hy,gU (g:=w.heap.size+1) hA hbw (by omega) (by omega) _ _ _⟩
theorem oT {a b p:Int} (hp:0<p):aT (a*p) (b*p)=aT a b:=by
 rcases Int.lt_trichotomy a b with h|h|h
 ·rw[dL h,dL (Int.mul_lt_mul_of_pos_right h hp)]
 ·rw[fm h,fm (by rw[h])]
 ·rw[dM h,dM (Int.mul_lt_mul_of_pos_right h hp)]
theorem bN {W w':World} {g h:Nat} {a b c d e f:Value} (hb:Below W.heap.size W w') (hS:(W.cell? ⟨g,0,none⟩=some a∧W.cell? ⟨g,1,none⟩=some b∧W.cell? ⟨g,2,none⟩=some c)∧W.cell? ⟨h,0,none⟩=some d∧W.cell? ⟨h,1,none⟩=some e∧W.cell? ⟨h,2,none⟩=some f) :
  (w'.cell? ⟨g,0,none⟩=some a∧w'.cell? ⟨g,1,none⟩=some b∧w'.cell? ⟨g,2,none⟩=some c)∧w'.cell? ⟨h,0,none⟩=some d∧w'.cell? ⟨h,1,none⟩=some e∧w'.cell? ⟨h,2,none⟩=some f :=
 ⟨gL hS.1 hb,gL hS.2 hb⟩
theorem Cg {x:aI} (sx:dR x):(dT x.ng x.n=0∧x.V=0∧x.n=0)∨(dT x.ng x.n=1∧0<x.V∧0<x.n∧x.ng=false)∨(dT x.ng x.n=-1∧x.V<0∧0<x.n∧x.ng=true):=by
 by_cases h0:x.n=0
 ·left
  refine⟨by simp[dT,h0],?_,h0⟩
  show sg x.ng (val x.d x.n)*_=0
  rw[h0]
  show sg x.ng 0*_=0
  rw[ed,Int.zero_mul]
 ·right
  have hp:=Int.mul_pos (ft sx.1 (show 0<x.n by omega)) (ct x.e)
  have hV:x.V=sg x.ng (val x.d x.n)*pw x.e:=rfl
  cases hg:x.ng
  ·left
   rw[hg] at hV
   exact⟨by simp[dT,h0],by rw[hV];exact hp,by omega,rfl⟩
  ·right
   rw[hg] at hV
   refine⟨by simp[dT,h0],?_,by omega,rfl⟩
   rw[hV]
   show -val x.d x.n*pw x.e<0
   rw[Int.neg_mul];omega
theorem ty (a b:Int):aT (-a) (-b)=-aT a b:=by
 rcases Int.lt_trichotomy a b with h|h|h
 ·rw[dL h,dM (by omega)];rfl
 ·rw[fm h,fm (by omega)];rfl
 ·rw[dM h,dL (by omega)]
theorem aM.open {w:World} {v:Value} {V:Int} (h:aM w v V) (ok:cY V):∃ x:aI,v=x.v∧aS w x.ao x.n x.cap x.d∧dI x=true∧x.V=V:=by
 obtain⟨ng,s,m,e,rfl,hy,ao,n,cap,d,rfl,hR,hN,rfl⟩:=h
 refine⟨⟨ng,ao,n,cap,d,e⟩,rfl,hR,?_,hy.val.symm⟩
 obtain⟨o1,o2,o3⟩:=hy.ok.1 ok
 refine decide_eq_true ?_
 by_cases h0:n=0
 ·left
  have hz:val d n=0:=by rw[h0];rfl
  rcases hy.form with⟨_,f2,f3⟩|⟨f1,_⟩
  ·exact⟨h0,f2,f3⟩
  ·omega
 ·right
  have hp:=ft hN (show 0<n by omega)
  rcases hy.form with⟨f1,_⟩|⟨_,f2⟩
  ·omega
  ·refine⟨by show 0<n;omega,⟨?_,hN⟩,?_,o2,o3⟩
   ·exact cr.len (w:=w) (ao:=ao) (cap:=cap) ⟨_,_,_,_,rfl,hR,hN,rfl⟩ o1
   ·obtain⟨k,hk⟩:∃ k,n=1+k:=⟨n-1,by omega⟩
    have:=eW d 1 k
    rw[<- hk] at this
    rw[this,show val d 1=d 0 by show 0+d 0*1=_;omega,show P 1=1073741824 from rfl] at f2
    show d 0 % 2=1
    omega
theorem ja.yes {w w':World} {V er:Int} {v:Value} (h:ja w w' V v er) (ok:cY V):er=0∧aW w w' V v:=by
 rcases h.2 with⟨_,h1,h2⟩|⟨hn,_⟩
 ·exact⟨h1,h2⟩
 ·exact absurd ok hn
theorem Ch {w:World} {x y:Value} {A B:Int} (hx:aM w x A) (hy:aM w y B) (oA:cY A) (oB:cY B) (hT:dZ w) :
  Calls prog 79 #[x,y] w fun r w'=>∃ v er,r=.returned (.tuple #[v,.int .i64 er])∧ja w w' (A-B) v er:=by
 obtain⟨x,rfl,hR,ok,rfl⟩:=hx.open oA
 obtain⟨y,rfl,hR',ok',rfl⟩:=hy.open oB
 exact zY x y w hR hR' ok ok' hT
theorem vV {w:World} {x:Value} {A:Int} (hx:aM w x A) (oA:cY A) :
  Calls prog 73 #[x] w fun r w'=>r=.returned (.tuple #[.int .i64 (aT A 0),.int .i64 0])∧Below w.heap.size w w':=by
 obtain⟨x,rfl,hR,ok,rfl⟩:=hx.open oA
 have:=uq x w hR
 rw[ok] at this
 have e:dT x.ng x.n=aT x.V 0:=by
  rcases Cg (cD ok) with⟨a,b,_⟩|⟨a,b,_⟩|⟨a,b,_⟩
  ·rw[a,b,fm rfl]
  ·rw[a,dM b]
  ·rw[a,dL b]
 rw[<- e]
 exact this
theorem Ci {w:World} {x:Value} {A:Int} (hx:aM w x A) (oA:cY A) :
  Calls prog 114 #[x] w fun r w'=>∃ v,r=.returned (.tuple #[v,.int .i64 0])∧aW w w' (-A) v:=by
 obtain⟨x,rfl,hR,ok,rfl⟩:=hx.open oA
 exact zZ x w hR ok
end Go.Proofs.YtcklaogdjpbagaaGreatDoor
