/- Parts of the proof. -/
import Derived.Test.YtjjihmnbdeeedaaGreatDoorCe4
import Derived.Deep.RegionHeld3
import Derived.Test.YtjjihmnbdeeedaaGreatDoorCe2
import Derived.Test.YtjjihmnbdeeedaaGreatDoorCe3
set_option linter.unusedVariables false
set_option linter.unusedSimpArgs false
namespace Go.Proofs.YtjjihmnbdeeedaaGreatDoor
open Go Go.RowKit Go.Proofs.YtjjihmnbdeeedaaGreatDoor.M
def sumV (r:Nat->NumR):Nat->Int | 0=>0 | k+1=>sumV r k+sg (r k).ng (val (r k).d (r k).n)*pw (r k).e
def DOut (w:World) (V:Int) (x:Ending) (w':World):Prop:=(Dok V∧∃ v,x=.returned v∧DAns w w' V v)∨(¬ Dok V∧x=gaveUp∧Below w.heap.size w w')
theorem settle_any {ng:Bool} {ao:Option Addr} {n cap:Nat} {d:Nat->Int} {e:Int} {w:World} (h:Row w ao n cap d) (hd:Dig d n) (hn:n<=100000) (hT:Tab w) (he:-4194304<=e) {V:Int} (hV:V=sg ng (val d n)*pw e) :
    Calls Tryz.prog 168 #[.agg #[.bool ng,.slice ao n cap,.int .i64 e]] w (DOut w V):=by
  by_cases hok:Dok V
  . refine (settle_ok h hd hn hT he hV hok).mono ?_
    rintro x w' ⟨v,rfl,hD⟩
    exact .inl ⟨hok,v,rfl,hD⟩
  . refine (settle_long h hd hn hT he hV hok).mono ?_
    rintro x w' ⟨rfl,hb⟩
    exact .inr ⟨hok,rfl,hb⟩
theorem told_any {F:Nat} {cap:Array Value} {w:World} {V:Int} (hE:∀ w,(callFunc F cap).run Tryz.prog w=.ok (.enter F cap) w) (h:∀ W,Below w.heap.size w W->Calls Tryz.prog F cap W (DOut W V)) :
    Calls Tryz.prog 163 #[.func (.func F) #[] cap] w fun r w'=>∃ v er,r=.returned (.tuple #[v,.int .i64 er])∧DFit w w' V v er:=by
  refine told_fit hE (fun hok W hW=>(h W hW).mono ?_) (fun hok W hW=>(h W hW).mono ?_)
  . rintro x w' (⟨_,v,rfl,hD⟩ | ⟨hn,_⟩)
    . exact ⟨v,rfl,hD⟩
    . exact absurd hok hn
  . rintro x w' (⟨hy,_⟩ | ⟨_,rfl,hb⟩)
    . exact absurd hy hok
    . exact ⟨rfl,hb⟩
theorem sumV_zero {r:Nat->NumR}:∀ {n:Nat},(∀ i,i<n->(r i).n=0)->sumV r n=0
  | 0,_=>rfl
  | n+1,h=>by
    show sumV r n+_=0
    rw [sumV_zero fun i hi=>h i (by omega),h n (by omega)]
    show 0+sg _ 0*_=0
    rw [sg_zero,Int.zero_mul,Int.add_zero]
theorem sum_bound {r:Nat->NumR} {k:Nat} {low high:Int} (hs:Sane (r k)) (ha:low<=(r k).e∧(r k).e+blen (val (r k).d (r k).n)<=high) :
    val (r k).d (r k).n*2^((r k).e-low).toNat<2^(high-low).toNat∧0<=val (r k).d (r k).n*2^((r k).e-low).toNat:=by
  have hv:=val_nonneg hs.1.1
  obtain ⟨a,b⟩:=ha
  have h1:=blen_lt (val (r k).d (r k).n)
  have h2:val (r k).d (r k).n*2^((r k).e-low).toNat<2^blen (val (r k).d (r k).n)*2^((r k).e-low).toNat:=Int.mul_lt_mul_of_pos_right h1 (two_pos _)
  rw [<- Int.pow_add] at h2
  have h3:(2:Int)^(blen (val (r k).d (r k).n)+((r k).e-low).toNat)<=2^(high-low).toNat:=two_le (by omega)
  exact ⟨by omega,Int.mul_nonneg hv (Int.le_of_lt (two_pos _))⟩
structure TotP (r:Nat->NumR) (low high:Int) (N k:Nat) (c:Nat->Int):Prop where
  sum:val c N*pw low=sumV r k
  bnd:∀ i,i<N->-((k:Int)*1073741823)<=c i∧c i<=k*1073741823
  lo:-((k:Int)*2^(high-low).toNat)<=val c N
  hi:val c N<=k*2^(high-low).toNat
theorem TotP.start (r:Nat->NumR) (low high:Int) (N:Nat):TotP r low high N 0 (fun _=>0):=by
  have e:val (fun _=>0) N=0:=val_zeros (Nat.zero_le _) (fun _ _ _=>rfl)
  exact ⟨by rw [e,Int.zero_mul]; rfl,fun i _=>⟨by omega,by omega⟩,by rw [e]; simp,by rw [e]; simp⟩
theorem TotP.skip {r:Nat->NumR} {low high:Int} {N k:Nat} {c:Nat->Int} (h:TotP r low high N k c) (h0:(r k).n=0):TotP r low high N (k+1) c:=by
  have e:sumV r (k+1)=sumV r k:=by
    show sumV r k+_=_
    rw [h0]
    show sumV r k+sg _ 0*_=_
    rw [sg_zero,Int.zero_mul,Int.add_zero]
  have hp:=two_pos (high-low).toNat
  have e2:((k+1:Nat):Int)*2^(high-low).toNat=k*2^(high-low).toNat+2^(high-low).toNat:=by rw [Int.natCast_add,Int.add_mul]; simp
  refine ⟨by rw [e]; exact h.sum,fun i hi=>?_,?_,?_⟩
  . have:=h.bnd i hi; omega
  . have:=h.lo; omega
  . have:=h.hi; omega
theorem sgn_sg (ng:Bool) {n:Nat} (h:0<n) (x:Int):sgn ng n*x=sg ng x∧(sgn ng n=1∨sgn ng n=-1):=by
  have:n≠0:=by omega
  cases ng <;> simp [sgn,sg,this]
theorem TotP.put {r:Nat->NumR} {low high:Int} {N k q p:Nat} {c c':Nat->Int} (h:TotP r low high N k c) (hs:Sane (r k)) (h0:0<(r k).n) (ha:low<=(r k).e∧(r k).e+blen (val (r k).d (r k).n)<=high) (hl:-4194304<=low) (hqp:(r k).e-low=30*q+p) (hp:p<30)
    (hP:Piled N c (sgn (r k).ng (r k).n) (P q*(2^p*val (r k).d (r k).n)) c'):TotP r low high N (k+1) c':=by
  obtain ⟨b1,b0⟩:=sum_bound hs ha
  obtain ⟨a1,a2⟩:=ha
  have e1:(2:Int)^((r k).e-low).toNat=P q*2^p:=by
    rw [show ((r k).e-low).toNat=30*q+p by omega,Int.pow_add,P_two]
  have e2:P q*(2^p*val (r k).d (r k).n)=val (r k).d (r k).n*2^((r k).e-low).toNat:=by rw [e1]; grind
  rw [e2] at hP
  generalize hX:val (r k).d (r k).n*2^((r k).e-low).toNat=X at *
  obtain ⟨s1,s2⟩:=sgn_sg (r k).ng h0 X
  have hsum:=hP.sum
  rw [s1] at hsum
  have hpp:=two_pos (high-low).toNat
  have e3:((k+1:Nat):Int)*2^(high-low).toNat=k*2^(high-low).toNat+2^(high-low).toNat:=by rw [Int.natCast_add,Int.add_mul]; simp
  have hsx:-X<=sg (r k).ng X∧sg (r k).ng X<=X:=by cases (r k).ng <;> simp [sg] <;> omega
  refine ⟨?_,fun i hi=>?_,?_,?_⟩
  . rw [hsum,Int.add_mul,h.sum]
    show _=sumV r k+sg (r k).ng (val (r k).d (r k).n)*pw (r k).e
    rw [pw_sub hl a1,<- hX,sg_sgn,sg_sgn]; grind
  . have h1:=h.bnd i hi
    have h2:=pile_near s2 (hP.near i) (C:=k*1073741823) h1
    omega
  . have:=h.lo; omega
  . have:=h.hi; omega
theorem len_blen {d:Nat->Int} {n:Nat} (h:Nrm d n) (h0:0<n):30*(n-1)+1<=blen (val d n):=by
  obtain ⟨m,rfl⟩:∃ m,n=m+1:=⟨n-1,by omega⟩
  rw [blen_val h]
  have hd:=h.1 m (by omega)
  have ht:d m≠0:=by
    rcases h.2 with h1 | h1
    . omega
    . rwa [Nat.add_sub_cancel] at h1
  have:=(blen_pos (show 0<d m by omega)).1
  omega
set_option maxRecDepth 100000 in
set_option maxHeartbeats 4000000 in
theorem total_any (ao:Option Addr) (n cap:Nat) (r:Nat->NumR) (w:World) (h:Nums w ao n cap r) (hs:∀ i,i<n->Sane (r i)) (hn:n<=100000) (hT:Tab w) :
    Calls Tryz.prog 165 #[.slice ao n cap] w (DOut w (sumV r n)):=by
  have hl:=h.le
  have hm:=h.max
  have HS:Hid (∀ i,i<n->Sane (r i)):=hs
  go_enter Tryz.func165,Tryz.ntmps165
  go_wp2_with fail
  refine (reach_any ao n cap r _ (h.keeps (bel_alloc _ _)) hs).mono ?_
  rintro x w1 ⟨low,high,rfl,hR,hb1⟩
  clear hs
  have q0:=(hb1.block w.heap.size (by rw [size1]; omega)).trans (heap_a1 _ _)
  have x0:=blkC q0 0 rfl
  have x1:=blkC q0 1 rfl
  have x2:=blkC q0 2 rfl
  have z0:=blkF q0 0
  have z1:=blkF q0 1
  have z2:=blkF q0 2
  have hbw1:=bel_trans (bel_alloc w _) hb1
  by_cases hz:∀ i,i<n->(r i).n=0
  . obtain ⟨rfl,rfl⟩:=hR.none hz
    go_wp2
    refine bodyPost_ret (v:=zeroV) (by simp [results,Tryz.results165,go_sem,x0,x1,x2,zeroV]) rfl ?_
    rw [sumV_zero hz]
    exact .inl ⟨dok_zero,_,rfl,DAns.zero (((hbw1.setCell (p:=⟨w.heap.size,0,none⟩) (Nat.le_refl _) _).setCell (p:=⟨w.heap.size,1,none⟩) (Nat.le_refl _) _).setCell (p:=⟨w.heap.size,2,none⟩) (Nat.le_refl _) _)⟩
  . have hsome:∃ i,i<n∧0<(r i).n:=by
      simp only [Classical.not_forall] at hz
      obtain ⟨i,hi,hp⟩:=hz
      exact ⟨i,hi,by omega⟩
    obtain ⟨l0,l1,l2,l3⟩:=hR.some hsome
    have hlh:low<=high:=by
      obtain ⟨i,hi,hp⟩:=hsome
      have:=hR.all i hi hp
      omega
    obtain ⟨N,hN⟩:∃ N:Nat,(high-low)/30+3=(N:Int):=⟨((high-low)/30+3).toNat,by omega⟩
    go_wp2_with (at_make; refine wpList_mk rfl _ _ rfl _ _ N rfl rfl (by omega) (by omega) (by omega) ?_; intro w2 hB2 hb2)
    have hlow:-4194304<=low:=by omega
    have hbw2:=bel_trans hbw1 hb2
    have hb2':=hb2
    have HN:=h.keeps hbw1
    have HA:Hid (∀ i,i<n->0<(r i).n->low<=(r i).e∧(r i).e+blen (val (r i).d (r i).n)<=high):=hR.all
    have HLH:Hid ((high-low)/30+3=(N:Int)∧low<=high):=⟨hN,hlh⟩
    have hN3:3<=N∧N<=90000:=by omega
    have gw:w1.heap.size<w2.heap.size:=hB2.lt
    clear hR hz hsome hb2 x0 x1 x2 z0 z1 z2
    go_loopw [26] (fun i wr=>∃ (k:Nat) (c:Nat->Int),k<=n∧i=.int .i64 k∧Blk wr w1.heap.size N c∧Hid (TotP r low high N k c)∧Below w1.heap.size w1 wr∧w2.heap.size<=wr.heap.size) (fun i _=>n-(intOf i).toNat)
    case atStart=>exact ⟨0,_,Nat.zero_le _,rfl,hB2,TotP.start _ _ _ _,hb2',Nat.le_refl _⟩
    case round=>
      obtain ⟨k,c,hk,rfl,hB,HT,hbw,hgw⟩:=hrel
      by_cases hlt:k<n
      . obtain ⟨b,off,rfl,hb,hc⟩:=HN.spot (by omega)
        obtain ⟨c0,c1,c2,hRow⟩:=(hc k hlt).keeps hbw hb
        have hRX:=RowX.of (hc k hlt).row (Nat.le_refl _)
        have hsk:=HS.out k hlt
        have hak:=HA.out k hlt
        have hput:=fun q p c' h0=>HT.out.put (q:=q) (p:=p) (c':=c') hsk h0 (hak h0) hlow
        have hskip:=fun h0=>HT.out.skip (k:=k) h0
        have hbnd:=HT.out.bnd
        clear hc
        generalize hr:r k=x at *
        obtain ⟨ng,xo,xn,xc,xd,xe⟩:=x
        obtain ⟨s1,s2,s3,s4⟩:=hsk
        simp only at c0 c1 c2 hRX hRow s1 s2 s3 s4 hput hskip hak
        by_cases h0:xn=0
        . subst h0
          have HZ:Hid (TotP r low high N (k+1) c):=hskip rfl
          clear hput hskip hak hbnd hN hlh hRX HN
          go_wp2
          go_roundw
          case rel=>exact ⟨k+1,c,by omega,by go_num,hB.alloc _,HZ,hbw.trans ((bel_alloc _ _).mono hbw.size),by rw [size1]; omega⟩
          case measure=>simp [intOf]; omega
        . have hlp:(0:Int)<xn:=by omega
          obtain ⟨a1,a2⟩:=hak (by omega)
          have hlb:=len_blen s1 (by omega)
          obtain ⟨q,p,hqp,hp⟩:∃ q p:Nat,xe-low=30*q+p∧p<30:=⟨((xe-low)/30).toNat,((xe-low) % 30).toNat,by omega,by omega⟩
          have hqN:q+xn+1<=N:=by omega
          have HP:Hid (∀ c',Piled N c (sgn ng xn) (P q*(2^p*val xd xn)) c'->TotP r low high N (k+1) c'):=fun c' hP=>hput q p c' (by omega) hqp hp hP
          obtain ⟨_,hsg⟩:=sgn_sg ng (show 0<xn by omega) 0
          have HSG:Hid (sgn ng xn=1∨sgn ng xn=-1):=hsg
          have HQP:Hid (xe-low=30*q+p):=hqp
          have HBD:Hid (∀ i,i<N->-((k:Int)*1073741823)<=c i∧c i<=k*1073741823):=hbnd
          have hw1:wrap64 (xe-low)=xe-low:=IntWalk.wrap64_in _ ⟨by omega,by omega⟩
          have hw2:IntKind.i64.wrap (xe-low)=xe-low:=by rw [wrap_i64_eq]; omega
          have hlen:xn<=100000:=by omega
          have q0:=heap_a1 wr (.cells #[.bool ng,.slice xo xn xc,.int .i64 xe] 40)
          have hsz:=size1 wr (.cells #[.bool ng,.slice xo xn xc,.int .i64 xe] 40)
          have hbx:Below w1.heap.size w1 (wr.alloc (.cells #[.bool ng,.slice xo xn xc,.int .i64 xe] 40)):=hbw.trans ((bel_alloc _ _).mono hbw.size)
          have hBx:=hB.alloc (.cells #[.bool ng,.slice xo xn xc,.int .i64 xe] 40)
          have hgx:wr.heap.size≠w1.heap.size:=by omega
          clear hput hskip hak hbnd hN hlh hsg hqp HN a1 a2 hlb
          go_wp2_with fail
          generalize wr.alloc (.cells #[.bool ng,.slice xo xn xc,.int .i64 xe] 40)=wx at q0 hsz hbx hBx ⊢
          have k0:=blkC q0 0 rfl
          have k1:=blkC q0 1 rfl
          have k2:=blkC q0 2 rfl
          have hb1:=bel_refl wx
          have C1:∀ W,Below wx.heap.size wx W->Calls Tryz.prog 136 #[.agg #[.bool ng,.slice xo xn xc,.int .i64 xe]] W fun y w'=>y=.returned (.int .i64 (sgn ng xn))∧Below W.heap.size W w':=fun W _=>dsign_any ng xo xn xc xe W (by omega)
          have C2:∀ W,Below wx.heap.size wx W->Calls Tryz.prog 220 #[.slice (some ⟨w1.heap.size,0,none⟩) N N,.slice xo xn xc,.int .i64 (xe-low),.int .i64 (sgn ng xn)] W fun y w'=>y=.returned (.tuple #[])∧∃ c4,Blk w' w1.heap.size N c4∧Wr w1.heap.size W w'∧Piled N c (sgn ng xn) (P q*(2^p*val xd xn)) c4:=fun W h=>
            pile_qp w1.heap.size N c xo xn xc q p xd W (hBx.keeps h) (hRX.keeps (wr_of (hbx.trans (h.mono hbx.size)))) s1.1 hlen hqN (by omega) hp _ HQP.out _ HSG.out (k*1073741823) HBD.out (by omega)
          go_region_held3 (fun W=>W.cell? ⟨wr.heap.size,0,none⟩=some (.bool ng)∧W.cell? ⟨wr.heap.size,1,none⟩=some (.slice xo xn xc)∧W.cell? ⟨wr.heap.size,2,none⟩=some (.int .i64 xe))
            (first | exact ⟨k0,k1,k2⟩ | exact keepB (by assumption) (by assumption) | exact keepW (by assumption) (by assumption) hgx)
            (first | (go_at_call 136; refine (C1 _ hb1.drew).mono ?_; rintro y w3 ⟨rfl,hbv1⟩) | (go_at_call 220; have _t:=hbv1; refine (C2 _ (bel_trans hb1.drew hbv1)).mono ?_; rintro y w4 ⟨rfl,c4,hB5,hW5,hP5⟩))
          go_wp2
          go_roundw
          case rel=>exact ⟨k+1,c4,by omega,by go_num,hB5,HP.out _ hP5,hW5.below (hbx.trans ((bel_trans hb1.drew hbv1).mono hbx.size)) (by have:=hbx.size; have:=hbv1.size; exact Nat.le_trans hbx.size hbv1.size) (Nat.le_refl _),by have:=hW5.size; have:wx.heap.size<=w3.heap.size:=hbv1.size; omega⟩
          case measure=>simp [intOf]; omega
      . obtain rfl:k=n:=by omega
        have hbig:-P N<val c N∧val c N<P N:=by
          have h1:=HT.out.lo
          have h2:=HT.out.hi
          obtain ⟨e1,e2⟩:=HLH.out
          have h3:((k:Int))*2^(high-low).toNat<2^60*2^(high-low).toNat:=Int.mul_lt_mul_of_pos_right (by omega) (two_pos _)
          rw [<- Int.pow_add] at h3
          have h4:(2:Int)^(60+(high-low).toNat)<=P N:=by rw [P_two]; exact two_le (by omega)
          omega
        go_wp2_with fail
        refine (carry_any w1.heap.size N c wr hB (by omega) (fun i hi=>by have:=HT.out.bnd i hi; omega) hbig).mono ?_
        rintro y w5 ⟨c5,rfl,hB5,hW5,hD5,hV5⟩
        have hbw5:Below w1.heap.size w1 w5:=hW5.below hbw hbw.size (Nat.le_refl _)
        have hbw6:=bel_trans hbw1 hbw5
        have hsum:sumV r k=sg (decide (val c N<0)) (val c5 N)*pw low:=by rw [hV5]; exact HT.out.sum.symm
        have HSUM:Hid (sumV r k=sg (decide (val c N<0)) (val c5 N)*pw low):=hsum
        clear hsum hbig hV5
        generalize hneg:decide (val c N<0)=neg at *
        go_wp2_with fail
        refine (settle_any (hB5.row0 (Nat.le_refl _) (by omega)) hD5 (by omega) (hT.keeps hbw6) hlow HSUM.out).mono ?_
        rintro y w7 (⟨hok,v,rfl,hD⟩ | ⟨hno,rfl,hb7⟩)
        . have hb7:=hD.below
          have hf7:=hD.from hbw6
          obtain ⟨ng',s',m',e',rfl,hy,hA⟩:=id hD
          obtain ⟨so,sn,sc,rfl⟩:=hA.num.shape
          have g0:=(hb7.block w.heap.size (Nat.lt_of_lt_of_le (Nat.lt_of_lt_of_le (by rw [size1]; omega) hb1.size) hbw5.size)).trans ((hbw5.block w.heap.size (Nat.lt_of_lt_of_le (by rw [size1]; omega) hb1.size)).trans q0)
          have x0:=blkC g0 0 rfl
          have x1:=blkC g0 1 rfl
          have x2:=blkC g0 2 rfl
          have z0:=blkF g0 0
          have z1:=blkF g0 1
          have z2:=blkF g0 2
          go_wp2
          refine bodyPost_ret (v:=.agg #[.bool ng',.slice so sn sc,.int .i64 e']) (by simp [results,Tryz.results165,go_sem,x0,x1,x2]) rfl ?_
          exact .inl ⟨hok,_,rfl,dans_res3 (g:=w.heap.size) hD hbw6 (Nat.le_refl _) (Nat.lt_of_lt_of_le (Nat.lt_of_lt_of_le (by rw [size1]; omega) hb1.size) hbw5.size) _ _ _⟩
        . exact ⟨rfl,.inr ⟨hno,rfl,bel_trans hbw6 hb7⟩⟩
def NumR.V (r:NumR):Int:=sg r.ng (val r.d r.n)*pw r.e
def pair2 (x y:NumR):Nat->NumR:=fun i=>if i=0 then x else y
theorem nums2 {w:World} {g:Nat} {x y:NumR} {t:TypeId} (h:w.heap[g]?=some (.cells #[.bool x.ng,.slice x.ao x.n x.cap,.int .i64 x.e,.bool y.ng,.slice y.ao y.n y.cap,.int .i64 y.e] t (0,0))) (hx:Row w x.ao x.n x.cap x.d) (hy:Row w y.ao y.n y.cap y.d) :
    Nums w (some ⟨g,0,none⟩) 2 2 (pair2 x y) :=
  ⟨Nat.le_refl _,by decide,fun _=>⟨g,0,rfl,(Array.getElem?_eq_some_iff.1 h).1,fun i hi=>by
    match i,hi with
    | 0,_=>exact ⟨blkC h 0 rfl,blkC h 1 rfl,blkC h 2 rfl,hx⟩
    | 1,_=>exact ⟨blkC h 3 rfl,blkC h 4 rfl,blkC h 5 rfl,hy⟩⟩⟩
theorem allOk2 (x y:NumR):allOk (pair2 x y) 2=(okR x && okR y):=by
  unfold allOk
  by_cases hx:okR x=true
  . by_cases hy:okR y=true
    . rw [hx,hy]
      exact decide_eq_true fun i hi=>by
        match i,hi with
        | 0,_=>exact hx
        | 1,_=>exact hy
    . have:okR y=false:=by simpa using hy
      rw [hx,this]
      exact decide_eq_false fun h=>hy (h 1 (by omega))
  . have:okR x=false:=by simpa using hx
    rw [this,Bool.false_and]
    exact decide_eq_false fun h=>hx (h 0 (by omega))
theorem sumV2 (x y:NumR):sumV (pair2 x y) 2=x.V+y.V:=by
  show 0+x.V+y.V=_
  rw [Int.zero_add]
theorem okR_sane {x:NumR} (h:okR x=true):Sane x:=by
  rcases of_decide_eq_true h with ⟨h1,h2,h3⟩ | ⟨h1,⟨h2,h3⟩,h4,h5,h6⟩
  . exact ⟨⟨fun i hi=>by omega,.inl h1⟩,by omega,by omega,by omega⟩
  . exact ⟨h3,by omega,by omega,by omega⟩
theorem okR_dy {x:NumR} (h:okR x=true):Dy x.V x.ng (val x.d x.n) x.e∧val x.d x.n<P 2000∧Dok x.V:=by
  have hd:Dy x.V x.ng (val x.d x.n) x.e∧val x.d x.n<P 2000∧-1048576<=x.e∧x.e<=1048576:=by
    rcases of_decide_eq_true h with ⟨h1,h2,h3⟩ | ⟨h1,⟨h2,h3⟩,h4,h5,h6⟩
    . exact ⟨⟨rfl,by omega,.inl ⟨by rw [h1]; rfl,h2,h3⟩⟩,by rw [h1]; show (0:Int)<P 2000; exact P_pos 2000,by omega,by omega⟩
    . refine ⟨⟨rfl,by omega,.inr ⟨val_pos h3 h1,?_⟩⟩,?_,h5,h6⟩
      . obtain ⟨m,hm⟩:∃ m,x.n=m+1:=⟨x.n-1,by omega⟩
        have:=val_split x.d 1 m
        rw [show 1+m=x.n by omega] at this
        rw [this]
        rw [show val x.d 1=x.d 0 by show 0+x.d 0*1=_; omega,show P 1=1073741824 from rfl]
        omega
      . exact Int.lt_of_lt_of_le (val_lt h3.1) (P_le h2)
  exact ⟨hd.1,hd.2.1,hd.1.ok.2 hd.2⟩
theorem bel_set3 {w w1:World} (h:Below w.heap.size w w1) {g:Nat} (hg:w.heap.size<=g) (a b c:Value):Below w.heap.size w (((w1.setCell ⟨g,0,none⟩ a).setCell ⟨g,1,none⟩ b).setCell ⟨g,2,none⟩ c) :=
  ((h.setCell (p:=⟨g,0,none⟩) hg a).setCell (p:=⟨g,1,none⟩) hg b).setCell (p:=⟨g,2,none⟩) hg c
theorem heap_set {w:World} {g:Nat} {xs:Array Value} {t:TypeId} (h:w.heap[g]?=some (.cells xs t (0,0))) (i:Nat) (v:Value):(w.setCell ⟨g,i,none⟩ v).heap[g]?=some (.cells (xs.setIfInBounds i v) t (0,0)):=by
  simp [World.setCell,Array.getElem?_modify,h]
set_option maxRecDepth 100000 in
set_option maxHeartbeats 1000000 in
theorem add1_any (x y:NumR) (g h:Nat) (w:World) (cg:w.heap[g]?=some (.cells #[.bool x.ng,.slice x.ao x.n x.cap,.int .i64 x.e] 40 (0,0))) (ch:w.heap[h]?=some (.cells #[.bool y.ng,.slice y.ao y.n y.cap,.int .i64 y.e] 40 (0,0)))
    (hx:Row w x.ao x.n x.cap x.d) (hy:Row w y.ao y.n y.cap y.d) (sx:Sane x) (sy:Sane y) (hT:Tab w) :
    Calls Tryz.prog 164 #[.pointer (some ⟨g,0,none⟩),.pointer (some ⟨h,0,none⟩)] w (DOut w (x.V+y.V)):=by
  obtain ⟨an,ao,n,ca,a,e⟩:=x
  obtain ⟨bn,bo,m,cb,b,f⟩:=y
  simp only at cg ch hx hy
  have hb:=bel_alloc w (.cells #[.bool false,.slice none 0 0,.int .i64 0] 40)
  have g0:=heap_past (.cells #[.bool false,.slice none 0 0,.int .i64 0] 40) cg
  have g1:=heap_past (.cells #[.bool false,.slice none 0 0,.int .i64 0] 40) ch
  have k0:=blkC g0 0 rfl
  have k1:=blkC g0 1 rfl
  have k2:=blkC g0 2 rfl
  have j0:=blkC g1 0 rfl
  have j1:=blkC g1 1 rfl
  have j2:=blkC g1 2 rfl
  have hN:=fun q=>nums2 (w:=(w.alloc (.cells #[.bool false,.slice none 0 0,.int .i64 0] 40)).alloc (.cells #[.bool an,.slice ao n ca,.int .i64 e,.bool bn,.slice bo m cb,.int .i64 f] 40)) (g:=w.heap.size+1) (x:=⟨an,ao,n,ca,a,e⟩) (y:=⟨bn,bo,m,cb,b,f⟩) (t:=40) q (hx.keeps (bel_alloc2 _ _ _)) (hy.keeps (bel_alloc2 _ _ _))
  go_enter Tryz.func164,Tryz.ntmps164
  go_wp2_with fail
  refine (total_any _ _ _ _ _ (hN (heap_b2 _ _ _)) (fun i hi=>?_) (by omega) (hT.keeps (bel_alloc2 _ _ _))).mono ?_
  . match i,hi with
    | 0,_=>exact sx
    | 1,_=>exact sy
  rw [sumV2]
  rintro r w7 (⟨hok,v,rfl,hD⟩ | ⟨hno,rfl,hb7⟩)
  . have hb7:=hD.below
    obtain ⟨ng',s',m',e',rfl,hyy,hA⟩:=id hD
    obtain ⟨so,sn,sc,rfl⟩:=hA.num.shape
    have q0:=(hb7.block w.heap.size (by rw [size2]; omega)).trans (heap_a2 _ _ _)
    have x0:=blkC q0 0 rfl
    have x1:=blkC q0 1 rfl
    have x2:=blkC q0 2 rfl
    have z0:=blkF q0 0
    have z1:=blkF q0 1
    have z2:=blkF q0 2
    go_wp2
    refine bodyPost_ret (v:=.agg #[.bool ng',.slice so sn sc,.int .i64 e']) (by simp [results,Tryz.results164,go_sem,x0,x1,x2]) rfl ?_
    exact .inl ⟨hok,_,rfl,dans_res3 (g:=w.heap.size) hD (bel_alloc2 _ _ _) (Nat.le_refl _) (by rw [size2]; omega) _ _ _⟩
  . exact ⟨rfl,.inr ⟨hno,rfl,bel_trans (bel_alloc2 _ _ _) hb7⟩⟩
set_option maxRecDepth 100000 in
set_option maxHeartbeats 1000000 in
theorem dadd_ok (x y:NumR) (w:World) (hx:Row w x.ao x.n x.cap x.d) (hy:Row w y.ao y.n y.cap y.d) (ox:okR x=true) (oy:okR y=true) (hT:Tab w) :
    Calls Tryz.prog 97 #[x.v,y.v] w fun r w'=>∃ v er,r=.returned (.tuple #[v,.int .i64 er])∧DFit w w' (x.V+y.V) v er:=by
  have hmf:∀ (fn:Fn) (first cap:Array Value) (w:World),(Instr.makeFunc fn first cap).run Tryz.prog w=.ok (.func fn first cap) w:=fun _ _ _ _=>rfl
  have hE:∀ (cap:Array Value) (w:World),(callFunc 164 cap).run Tryz.prog w=.ok (.enter 164 cap) w:=by
    intro cap w
    simp [go_sem]
  have hA:=allOk2 x y
  rw [ox,oy] at hA
  have hN:=fun W q hb=>nums2 (w:=W) (g:=w.heap.size+3) (x:=x) (y:=y) (t:=40) q (hx.keeps hb) (hy.keeps hb)
  have hC:=fun W hb cg ch=>add1_any x y w.heap.size (w.heap.size+1) W cg ch (hx.keeps hb) (hy.keeps hb) (okR_sane ox) (okR_sane oy) (hT.keeps hb)
  generalize pair2 x y=pr at hA hN
  generalize x.V+y.V=V at hC ⊢
  clear ox oy
  obtain ⟨an,ao,n,ca,a,e⟩:=x
  obtain ⟨bn,bo,m,cb,b,f⟩:=y
  unfold NumR.v
  simp only at hx hy hN hC ⊢
  go_enter Tryz.func97,Tryz.ntmps97
  go_wp2_with fail
  refine (dvalids_any _ _ _ _ _ (hN _ (h4_3 _ _ _ _ _) (bel_a4 _ _ _ _ _))).mono ?_
  rw [hA]
  rintro r w1 ⟨rfl,hb1⟩
  have hbw:=bel_trans (bel_a4 w _ _ _ _) hb1
  have g0:=(hb1.block w.heap.size (by rw [size4]; omega)).trans (h4_0 _ _ _ _ _)
  have g1:=(hb1.block (w.heap.size+1) (by rw [size4]; omega)).trans (h4_1 _ _ _ _ _)
  have g2:=(hb1.block (w.heap.size+2) (by rw [size4]; omega)).trans (h4_2 _ _ _ _ _)
  have hs4:w.heap.size+4<=w1.heap.size:=by have:=hb1.size; rw [size4] at this; exact this
  go_wp2_with fail
  refine (told_any (V:=V) (hE _) (fun W hW=>hC W (bel_trans hbw hW) ((hW.block _ (by omega)).trans g0) ((hW.block _ (by omega)).trans g1))).mono ?_
  rintro r w2 ⟨v,er,rfl,hF⟩
  obtain ⟨ng',so,sn,sc,e',rfl⟩:=hF.shape
  have q0:=(hF.1.block (w.heap.size+2) (by omega)).trans g2
  have x0:=blkC q0 0 rfl
  have x1:=blkC q0 1 rfl
  have x2:=blkC q0 2 rfl
  have z0:=blkF q0 0
  have z1:=blkF q0 1
  have z2:=blkF q0 2
  go_wp2
  refine bodyPost_ret (v:=.tuple #[.agg #[.bool ng',.slice so sn sc,.int .i64 e'],.int .i64 er]) (by simp [results,Tryz.results97,go_sem,x0,x1,x2]) rfl ⟨_,_,rfl,?_⟩
  exact dfit_res (g:=w.heap.size+2) hF hbw (by omega) (by omega) _ _ _
set_option maxHeartbeats 400000 in
theorem rtrim_any (g n cap:Nat) (d:Nat->Int) (w:World) (h:Row w (some ⟨g,0,none⟩) n cap d) :
    Calls Tryz.prog 261 #[.slice (some ⟨g,0,none⟩) n cap] w fun e w'=>∃ t:Nat,t<=n∧Top d t∧(∀ i,t<=i->i<n->d i=0)∧e=.returned (.slice (some ⟨g,0,none⟩) t cap)∧w'=w:=by
  have hl:=h.le
  have hm:=h.max
  go_enter Tryz.func261,Tryz.ntmps261
  go_wp2
  go_loop [3] (fun i=>∃ k:Nat,k<=n∧i=.int .i64 k∧∀ i,k<=i->i<n->d i=0) (fun i=>(intOf i).toNat)
  case atStart=>exact ⟨n,Nat.le_refl _,rfl,fun i a b=>by omega⟩
  case round=>
    obtain ⟨k,hk,rfl,hz⟩:=hrel
    have HZ:Hid (∀ i,k<=i->i<n->d i=0):=hz
    clear hz
    by_cases h0:k=0
    . subst h0
      go_wp2
      go_ret
      exact ⟨0,by omega,.inl rfl,HZ.out,by simp,rfl⟩
    . obtain ⟨b,off,eb,hb,hc⟩:=h.spot (by omega)
      simp only [Option.some.injEq,Addr.mk.injEq,and_true] at eb
      obtain ⟨rfl,rfl⟩:=eb
      have c:=hc (k-1) (by omega)
      rw [Nat.zero_add] at c
      by_cases h1:d (k-1)=0
      . go_wp2
        go_round
        case rel=>exact ⟨k-1,by omega,by go_num,fun i a b=>by by_cases e:i=k-1; (· rw [e]; exact h1); (· exact HZ.out i (by omega) b)⟩
        case measure=>simp [intOf]; omega
      . go_wp2
        go_ret
        exact ⟨k,hk,.inr h1,HZ.out,by simp,rfl⟩
theorem top_of {d:Nat->Int} {t:Nat} (hd:Dig d t) (h:0<t->P (t-1)<=val d t):Top d t:=by
  by_cases h0:t=0
  . exact .inl h0
  . refine .inr fun e=>?_
    obtain ⟨k,rfl⟩:∃ k,t=k+1:=⟨t-1,by omega⟩
    rw [Nat.add_sub_cancel] at e h
    have h1:=h (by omega)
    rw [val_succ,e] at h1
    have h2:=val_lt (hd.le (Nat.le_succ k))
    omega
theorem cat_upd (r:Nat->Int) (k:Nat) (x:Int):∀ i,i<k+1->cat r k (fun _=>x) i=upd r k x i:=fun i hi=>by
  by_cases e:i<k
  . simp [cat,e,upd_other r _ (show i≠k by omega)]
  . obtain rfl:i=k:=by omega
    simp [cat,upd_same]
theorem dig_upd2 {r:Nat->Int} {k:Nat} {x:Int} (h:Dig r k) (hx:0<=x∧x<1073741824):Dig (upd r k x) (k+1):=fun i hi=>by
  by_cases e:i=k
  . rw [e,upd_same]; exact hx
  . rw [upd_other r x e]; exact h i (by omega)
set_option maxHeartbeats 1000000 in
theorem radd_any (ao bo:Option Addr) (n m ca cb:Nat) (a b:Nat->Int) (w:World) (ha:Row w ao n ca a) (hb:Row w bo m cb b) (na:Nrm a n) (nb:Nrm b m) (hn:n<=100000) (hm:m<=100000) :
    Calls Tryz.prog 205 #[.slice ao n ca,.slice bo m cb] w fun e w'=>∃ v,e=.returned v∧Ans w w' (val a n+val b m) v:=by
  have hla:=ha.le
  have hma:=ha.max
  have hlb:=hb.le
  have hmb:=hb.max
  have da:=na.1
  have db:=nb.1
  obtain ⟨M,hM1,hM2,hM3⟩:∃ M,n<=M∧m<=M∧(M<=n∨M<=m):=⟨max n m,by omega,by omega,by omega⟩
  go_enter Tryz.func205,Tryz.ntmps205
  go_wp2
  go_loopw [5,6,7] (fun l c i wr=>∃ (k:Nat) (q:Int) (r:Nat->Int),(k<=M∨(k=M+1∧q=0))∧i=.int .i64 k∧c=.int .i64 q∧0<=q∧q<=1∧Out w.heap.size wr l k r∧Dig r k∧Hid (val r k+q*P k=val (ext a n) k+val (ext b m) k)∧Hid (k=M+1->P M<=val a n+val b m)∧Below w.heap.size w wr) (fun _ _ i _=>M+1-(intOf i).toNat)
  case atStart=>exact ⟨0,0,fun _=>0,.inl (Nat.zero_le _),rfl,rfl,by omega,by omega,Out.nil _ _ _,fun i hi=>by omega,by show _=_; rfl,fun h=>by omega,bel_refl _⟩
  case round=>
    obtain ⟨k,q,r,hk,rfl,rfl,hq0,hq1,hO,hD,HV,HT,hbw⟩:=hrel
    have hkM:k<=M+1:=by omega
    by_cases hkn:k<n
    . by_cases hkm:k<m
      . obtain ⟨ba,fa,rfl,hba,hca⟩:=ha.spot (by omega)
        have c1:=(hbw.cell (p:=⟨ba,fa+k,none⟩) hba).trans (hca k hkn)
        have dk:=da k hkn
        obtain ⟨bb,fb,rfl,hbb,hcb⟩:=hb.spot (by omega)
        have c2:=(hbw.cell (p:=⟨bb,fb+k,none⟩) hbb).trans (hcb k hkm)
        have dbk:=db k hkm
        have HX:Hid (q+a k+b k=q+(ext a n k+ext b m k)):=by show _=_; rw [ext_lt a hkn,ext_lt b hkm]; omega
        go_wp2_with (at_builtin; refine wpList_app rfl _ _ rfl w.heap.size _ k r rfl (hO.stays (bel_alloc _ _)) _ 1 1 (fun _=>(q+a k+b k) % 1073741824) rfl (row1 _ _ rfl) (by omega) (by have:=hbw.size; simp; omega) ?_; intro v' w1 hO1 hg1)
        have hb1:Below w.heap.size w w1:=(hbw.alloc hbw.size _).grown hg1 (by have:=hbw.size; simp; omega) (own_ge hO)
        have hs:=sum_step (x:=ext a n k+ext b m k) HV.out
        rw [<- HX.out] at hs
        go_roundw
        case rel=>exact ⟨k+1,(q+a k+b k)/1073741824,upd r k ((q+a k+b k) % 1073741824),by omega,by go_num,rfl,by omega,by omega,hO1.congr (cat_upd r k _),dig_upd2 hD (mod_dig _),by show _=_; rw [hs,val_succ,val_succ]; grind,fun h=>by omega,hb1⟩
        case measure=>simp [intOf]; omega
      . obtain ⟨ba,fa,rfl,hba,hca⟩:=ha.spot (by omega)
        have c1:=(hbw.cell (p:=⟨ba,fa+k,none⟩) hba).trans (hca k hkn)
        have dk:=da k hkn
        have HX:Hid (q+a k=q+(ext a n k+ext b m k)):=by show _=_; rw [ext_lt a hkn,ext_ge b (by omega)]; omega
        go_wp2_with (at_builtin; refine wpList_app rfl _ _ rfl w.heap.size _ k r rfl (hO.stays (bel_alloc _ _)) _ 1 1 (fun _=>(q+a k) % 1073741824) rfl (row1 _ _ rfl) (by omega) (by have:=hbw.size; simp; omega) ?_; intro v' w1 hO1 hg1)
        have hb1:Below w.heap.size w w1:=(hbw.alloc hbw.size _).grown hg1 (by have:=hbw.size; simp; omega) (own_ge hO)
        have hs:=sum_step (x:=ext a n k+ext b m k) HV.out
        rw [<- HX.out] at hs
        go_roundw
        case rel=>exact ⟨k+1,(q+a k)/1073741824,upd r k ((q+a k) % 1073741824),by omega,by go_num,rfl,by omega,by omega,hO1.congr (cat_upd r k _),dig_upd2 hD (mod_dig _),by show _=_; rw [hs,val_succ,val_succ]; grind,fun h=>by omega,hb1⟩
        case measure=>simp [intOf]; omega
    . by_cases hkm:k<m
      . obtain ⟨bb,fb,rfl,hbb,hcb⟩:=hb.spot (by omega)
        have c2:=(hbw.cell (p:=⟨bb,fb+k,none⟩) hbb).trans (hcb k hkm)
        have dbk:=db k hkm
        have HX:Hid (q+b k=q+(ext a n k+ext b m k)):=by show _=_; rw [ext_ge a (by omega),ext_lt b hkm]; omega
        go_wp2_with (at_builtin; refine wpList_app rfl _ _ rfl w.heap.size _ k r rfl (hO.stays (bel_alloc _ _)) _ 1 1 (fun _=>(q+b k) % 1073741824) rfl (row1 _ _ rfl) (by omega) (by have:=hbw.size; simp; omega) ?_; intro v' w1 hO1 hg1)
        have hb1:Below w.heap.size w w1:=(hbw.alloc hbw.size _).grown hg1 (by have:=hbw.size; simp; omega) (own_ge hO)
        have hs:=sum_step (x:=ext a n k+ext b m k) HV.out
        rw [<- HX.out] at hs
        go_roundw
        case rel=>exact ⟨k+1,(q+b k)/1073741824,upd r k ((q+b k) % 1073741824),by omega,by go_num,rfl,by omega,by omega,hO1.congr (cat_upd r k _),dig_upd2 hD (mod_dig _),by show _=_; rw [hs,val_succ,val_succ]; grind,fun h=>by omega,hb1⟩
        case measure=>simp [intOf]; omega
      . by_cases hq:0<q
        . have hkE:k=M:=by omega
          have HTT:Hid (P M<=val a n+val b m):=by
            show _<=_
            have h:=HV.out
            rw [val_ext a (by omega),val_ext b (by omega),show q=1 by omega,hkE] at h
            have:=val_nonneg hD
            rw [hkE] at this
            omega
          have HX:Hid (q=q+(ext a n k+ext b m k)):=by show _=_; rw [ext_ge a (by omega),ext_ge b (by omega)]; omega
          go_wp2_with (at_builtin; refine wpList_app rfl _ _ rfl w.heap.size _ k r rfl (hO.stays (bel_alloc _ _)) _ 1 1 (fun _=>(q) % 1073741824) rfl (row1 _ _ rfl) (by omega) (by have:=hbw.size; simp; omega) ?_; intro v' w1 hO1 hg1)
          have hb1:Below w.heap.size w w1:=(hbw.alloc hbw.size _).grown hg1 (by have:=hbw.size; simp; omega) (own_ge hO)
          have hs:=sum_step (x:=ext a n k+ext b m k) HV.out
          rw [<- HX.out] at hs
          go_roundw
          case rel=>exact ⟨k+1,(q)/1073741824,upd r k ((q) % 1073741824),by omega,by go_num,rfl,by omega,by omega,hO1.congr (cat_upd r k _),dig_upd2 hD (mod_dig _),by show _=_; rw [hs,val_succ,val_succ]; grind,fun h=>HTT.out,hb1⟩
          case measure=>simp [intOf]; omega
        . obtain rfl:q=0:=by omega
          have hkMM:M<=k:=by omega
          have hcd:decide ((0:Int)<0)=false:=by decide
          go_wp2
          go_ret
          have hv:val r k=val a n+val b m:=by
            have h:=HV.out
            rw [val_ext a (by omega),val_ext b (by omega)] at h
            omega
          refine ⟨_,rfl,k,r,hO,⟨hD,top_of hD fun hk0=>?_⟩,hv,hbw⟩
          rw [hv]
          have A0:=val_nonneg da
          have B0:=val_nonneg db
          rcases hk with h | ⟨h,_⟩
          . obtain rfl:k=M:=by omega
            rcases hM3 with q | q
            . obtain rfl:k=n:=by omega
              have:=val_top da hk0 na.2
              omega
            . obtain rfl:k=m:=by omega
              have:=val_top db hk0 nb.2
              omega
          . rw [h,Nat.add_sub_cancel]; exact HT.out h
theorem rtrim_out {B:Nat} {w:World} {v:Value} {n:Nat} {d:Nat->Int} (h:Out B w v n d) :
    Calls Tryz.prog 261 #[v] w fun e w'=>∃ v',e=.returned v'∧∃ t,t<=n∧Top d t∧(∀ i,t<=i->i<n->d i=0)∧Out B w v' t d∧w'=w:=by
  have h0:=h
  rcases h.2 with ⟨rfl,rfl⟩ | ⟨g,cap,cur,rfl,hb,hg,hn,hm,hs,ht⟩
  . go_enter Tryz.func261,Tryz.ntmps261
    go_wp2
    go_loop [3] (fun i=>i=.int .i64 0) (fun i=>0)
    case atStart=>rfl
    case round=>
      subst hrel
      go_wp2
      go_ret
      exact ⟨_,rfl,.inl rfl,Out.nil _ _ _,rfl⟩
  . obtain ⟨ao,c,e,hR⟩:=h0.row
    simp only [Value.slice.injEq] at e
    obtain ⟨rfl,_,rfl⟩:=e
    refine (rtrim_any g n cap d w hR).mono ?_
    rintro e w' ⟨t,h1,h2,h3,rfl,rfl⟩
    exact ⟨_,rfl,t,h1,h2,h3,h0.cut h1,rfl⟩
theorem rtrim_ans {w0 w:World} {v:Value} {n:Nat} {d:Nat->Int} (h:Out w0.heap.size w v n d) (hd:Dig d n) (hb:Below w0.heap.size w0 w) :
    Calls Tryz.prog 261 #[v] w fun e w'=>∃ v',e=.returned v'∧Ans w0 w (val d n) v'∧w'=w:=by
  refine (rtrim_out h).mono ?_
  rintro e w' ⟨v',rfl,t,ht,htop,hz,hO,rfl⟩
  obtain ⟨hN,hv⟩:=nrm_of_top hd ht htop hz
  exact ⟨v',rfl,⟨t,d,hO,hN,hv,hb⟩,rfl⟩
set_option maxHeartbeats 1000000 in
theorem rcmp_any (ao bo:Option Addr) (n m ca cb:Nat) (a b:Nat->Int) (w:World) (ha:Row w ao n ca a) (hb:Row w bo m cb b) (na:Nrm a n) (nb:Nrm b m) :
    Calls Tryz.prog 206 #[.slice ao n ca,.slice bo m cb] w fun e w'=>e=.returned (.int .i64 (ord (val a n) (val b m)))∧Below w.heap.size w w':=by
  have hla:=ha.le
  have hma:=ha.max
  have hlb:=hb.le
  have hmb:=hb.max
  by_cases hnm:n=m
  . subst hnm
    go_enter Tryz.func206,Tryz.ntmps206
    go_wp2
    go_loopw [5] (fun i wr=>∃ k:Nat,k<=n∧i=.int .i64 ((k:Int)-1)∧Hid (∀ i,k<=i->i<n->a i=b i)∧Below w.heap.size w wr) (fun i _=>(intOf i+1).toNat)
    case atStart=>exact ⟨n,Nat.le_refl _,rfl,fun i _ _=>by omega,bel_refl _⟩
    case round=>
      obtain ⟨k,hk,rfl,HS,hbw⟩:=hrel
      by_cases hlt:0<k
      . obtain ⟨j,rfl⟩:∃ j,k=j+1:=⟨k-1,by omega⟩
        have ej:((j+1:Nat):Int)-1=j:=by omega
        obtain ⟨ba,fa,rfl,hba,hca⟩:=ha.spot (by omega)
        obtain ⟨bb,fb,rfl,hbb,hcb⟩:=hb.spot (by omega)
        have c1:=(hbw.cell (p:=⟨ba,fa+j,none⟩) hba).trans (hca j (by omega))
        have c2:=(hbw.cell (p:=⟨bb,fb+j,none⟩) hbb).trans (hcb j (by omega))
        rw [ej]
        by_cases h1:a j<b j
        . go_wp2
          go_quiet (fail)
          go_wp2
          go_ret
          exact ⟨ret_int ((ord_lt h1).symm.trans (ord_top na.1 nb.1 (show j<n by omega) (fun i x y=>HS.out i (by omega) y) (by omega))),bDrewN hbw _⟩
        . by_cases h2:b j<a j
          . go_wp2
            go_quiet (fail)
            go_wp2
            go_quiet (fail)
            go_wp2
            go_ret
            exact ⟨ret_int ((ord_gt h2).symm.trans (ord_top na.1 nb.1 (show j<n by omega) (fun i x y=>HS.out i (by omega) y) (by omega))),bDrewN (bDrewN hbw _) _⟩
          . go_wp2
            go_quiet (fail)
            go_wp2
            go_quiet (fail)
            go_wp2
            go_roundw
            case rel=>exact ⟨j,by omega,by go_num,fun i x y=>by by_cases e:i=j; (· rw [e]; omega); (· exact HS.out i (by omega) y),bDrewN hbw _⟩
            case measure=>simp [intOf]; try omega
      . obtain rfl:k=0:=by omega
        go_wp2
        go_ret
        exact ⟨ret_int (ord_eq (val_congr fun i hi=>HS.out i (by omega) hi)).symm,hbw⟩
  . by_cases hlt:n<m
    . go_enter Tryz.func206,Tryz.ntmps206
      go_wp2
      go_ret
      exact ⟨ret_int (ord_lt (nrm_lt na.1 nb hlt)).symm,bel_refl _⟩
    . go_enter Tryz.func206,Tryz.ntmps206
      go_wp2
      go_ret
      exact ⟨ret_int (ord_gt (nrm_lt nb.1 na (by omega))).symm,bel_refl _⟩
set_option maxHeartbeats 2000000 in
theorem rsub_any (ao bo:Option Addr) (n m ca cb:Nat) (a b:Nat->Int) (w:World) (ha:Row w ao n ca a) (hb:Row w bo m cb b) (na:Nrm a n) (nb:Nrm b m) (hn:n<=100000) (hle:val b m<=val a n) :
    Calls Tryz.prog 207 #[.slice ao n ca,.slice bo m cb] w fun e w'=>∃ v,e=.returned v∧Ans w w' (val a n-val b m) v:=by
  have hla:=ha.le
  have hma:=ha.max
  have hlb:=hb.le
  have hmb:=hb.max
  have da:=na.1
  have db:=nb.1
  have hmn:m<=n:=nrm_le_len nb da hle
  have HLE:Hid (val b m<=val a n):=hle
  clear hle
  go_enter Tryz.func207,Tryz.ntmps207
  go_wp2
  go_loopw [5,6,7] (fun l c i wr=>∃ (k:Nat) (q:Int) (r:Nat->Int),k<=n∧i=.int .i64 k∧c=.int .i64 q∧0<=q∧q<=1∧Out w.heap.size wr l k r∧Dig r k∧Hid (val r k-q*P k=val (ext a n) k-val (ext b m) k)∧Below w.heap.size w wr) (fun _ _ i _=>n-(intOf i).toNat)
  case atStart=>exact ⟨0,0,fun _=>0,Nat.zero_le _,rfl,rfl,by omega,by omega,Out.nil _ _ _,fun i hi=>by omega,by show _=_; rfl,bel_refl _⟩
  case round=>
    obtain ⟨k,q,r,hk,rfl,rfl,hq0,hq1,hO,hD,HV,hbw⟩:=hrel
    by_cases hkn:k<n
    . obtain ⟨ba,fa,rfl,hba,hca⟩:=ha.spot (by omega)
      have c1:=(hbw.cell (p:=⟨ba,fa+k,none⟩) hba).trans (hca k hkn)
      have dk:=da k hkn
      by_cases hkm:k<m
      . obtain ⟨bb,fb,rfl,hbb,hcb⟩:=hb.spot (by omega)
        have c2:=(hbw.cell (p:=⟨bb,fb+k,none⟩) hbb).trans (hcb k hkm)
        have dbk:=db k hkm
        have HX:Hid (-q+(ext a n k-ext b m k)=a k-q-b k):=by show _=_; rw [ext_lt a hkn,ext_lt b hkm]; omega
        by_cases hneg:a k-q-b k<0
        . go_wp2_with (at_builtin; refine wpList_app rfl _ _ rfl w.heap.size _ k r rfl (hO.stays (bel_alloc _ _)) _ 1 1 (fun _=>(a k-q-b k+1073741824)) rfl (row1 _ _ rfl) (by omega) (by have:=hbw.size; simp; omega) ?_; intro v' w1 hO1 hg1)
          have hb1:Below w.heap.size w w1:=(hbw.alloc hbw.size _).grown hg1 (by have:=hbw.size; simp; omega) (own_ge hO)
          have hs:=sum_step (c:=-q) (x:=ext a n k-ext b m k) (r:=r) (k:=k) (V:=val (ext a n) k-val (ext b m) k) (by have:=HV.out; rw [Int.neg_mul]; omega)
          rw [show -q+(ext a n k-ext b m k)=a k-q-b k from HX.out,show (a k-q-b k) % 1073741824=(a k-q-b k+1073741824) by omega,show (a k-q-b k)/1073741824=-1 by omega] at hs
          go_roundw
          case rel=>exact ⟨k+1,1,upd r k (a k-q-b k+1073741824),by omega,by go_num,rfl,by omega,by omega,hO1.congr (cat_upd r k _),dig_upd2 hD (by omega),by show _=_; rw [val_succ (ext a n),val_succ (ext b m)]; rw [Int.sub_mul] at hs; omega,hb1⟩
          case measure=>simp [intOf]; omega
        . go_wp2_with (at_builtin; refine wpList_app rfl _ _ rfl w.heap.size _ k r rfl (hO.stays (bel_alloc _ _)) _ 1 1 (fun _=>(a k-q-b k)) rfl (row1 _ _ rfl) (by omega) (by have:=hbw.size; simp; omega) ?_; intro v' w1 hO1 hg1)
          have hb1:Below w.heap.size w w1:=(hbw.alloc hbw.size _).grown hg1 (by have:=hbw.size; simp; omega) (own_ge hO)
          have hs:=sum_step (c:=-q) (x:=ext a n k-ext b m k) (r:=r) (k:=k) (V:=val (ext a n) k-val (ext b m) k) (by have:=HV.out; rw [Int.neg_mul]; omega)
          rw [show -q+(ext a n k-ext b m k)=a k-q-b k from HX.out,show (a k-q-b k) % 1073741824=(a k-q-b k) by omega,show (a k-q-b k)/1073741824=-0 by omega] at hs
          go_roundw
          case rel=>exact ⟨k+1,0,upd r k (a k-q-b k),by omega,by go_num,rfl,by omega,by omega,hO1.congr (cat_upd r k _),dig_upd2 hD (by omega),by show _=_; rw [val_succ (ext a n),val_succ (ext b m)]; rw [Int.sub_mul] at hs; omega,hb1⟩
          case measure=>simp [intOf]; omega
      . have HX:Hid (-q+(ext a n k-ext b m k)=a k-q):=by show _=_; rw [ext_lt a hkn,ext_ge b (by omega)]; omega
        by_cases hneg:a k-q<0
        . go_wp2_with (at_builtin; refine wpList_app rfl _ _ rfl w.heap.size _ k r rfl (hO.stays (bel_alloc _ _)) _ 1 1 (fun _=>(a k-q+1073741824)) rfl (row1 _ _ rfl) (by omega) (by have:=hbw.size; simp; omega) ?_; intro v' w1 hO1 hg1)
          have hb1:Below w.heap.size w w1:=(hbw.alloc hbw.size _).grown hg1 (by have:=hbw.size; simp; omega) (own_ge hO)
          have hs:=sum_step (c:=-q) (x:=ext a n k-ext b m k) (r:=r) (k:=k) (V:=val (ext a n) k-val (ext b m) k) (by have:=HV.out; rw [Int.neg_mul]; omega)
          rw [show -q+(ext a n k-ext b m k)=a k-q from HX.out,show (a k-q) % 1073741824=(a k-q+1073741824) by omega,show (a k-q)/1073741824=-1 by omega] at hs
          go_roundw
          case rel=>exact ⟨k+1,1,upd r k (a k-q+1073741824),by omega,by go_num,rfl,by omega,by omega,hO1.congr (cat_upd r k _),dig_upd2 hD (by omega),by show _=_; rw [val_succ (ext a n),val_succ (ext b m)]; rw [Int.sub_mul] at hs; omega,hb1⟩
          case measure=>simp [intOf]; omega
        . go_wp2_with (at_builtin; refine wpList_app rfl _ _ rfl w.heap.size _ k r rfl (hO.stays (bel_alloc _ _)) _ 1 1 (fun _=>(a k-q)) rfl (row1 _ _ rfl) (by omega) (by have:=hbw.size; simp; omega) ?_; intro v' w1 hO1 hg1)
          have hb1:Below w.heap.size w w1:=(hbw.alloc hbw.size _).grown hg1 (by have:=hbw.size; simp; omega) (own_ge hO)
          have hs:=sum_step (c:=-q) (x:=ext a n k-ext b m k) (r:=r) (k:=k) (V:=val (ext a n) k-val (ext b m) k) (by have:=HV.out; rw [Int.neg_mul]; omega)
          rw [show -q+(ext a n k-ext b m k)=a k-q from HX.out,show (a k-q) % 1073741824=(a k-q) by omega,show (a k-q)/1073741824=-0 by omega] at hs
          go_roundw
          case rel=>exact ⟨k+1,0,upd r k (a k-q),by omega,by go_num,rfl,by omega,by omega,hO1.congr (cat_upd r k _),dig_upd2 hD (by omega),by show _=_; rw [val_succ (ext a n),val_succ (ext b m)]; rw [Int.sub_mul] at hs; omega,hb1⟩
          case measure=>simp [intOf]; omega
    . obtain rfl:k=n:=by omega
      have HD:Hid (Dig r k∧val r k=val a k-val b m):=by
        refine ⟨hD,?_⟩
        have h1:=HV.out
        rw [val_ext a (Nat.le_refl _),val_ext b hmn] at h1
        have h2:=val_lt hD
        have h3:=HLE.out
        have hp:=P_pos k
        rcases (show q=0∨q=1 by omega) with e | e
        . subst e; omega
        . subst e; omega
      go_wp2_with (go_at_call 261; refine (rtrim_ans hO hD hbw).mono ?_; rintro e w3 ⟨v',rfl,hA,rfl⟩)
      go_ret
      exact ⟨_,rfl,by rw [<- HD.out.2]; exact hA⟩
set_option maxHeartbeats 2000000 in
theorem rmul_any (ao bo:Option Addr) (n m ca cb:Nat) (a b:Nat->Int) (w:World) (ha:Row w ao n ca a) (hb:Row w bo m cb b) (na:Nrm a n) (nb:Nrm b m) (hn:n<=100000) (hm:m<=100000) :
    Calls Tryz.prog 203 #[.slice ao n ca,.slice bo m cb] w fun e w'=>∃ v,e=.returned v∧Ans w w' (val a n*val b m) v:=by
  have hla:=ha.le
  have hma:=ha.max
  have hlb:=hb.le
  have hmb:=hb.max
  have da:=na.1
  have db:=nb.1
  by_cases hn0:n=0
  . subst hn0
    go_enter Tryz.func203,Tryz.ntmps203
    go_wp2
    go_ret
    exact ⟨_,rfl,by rw [show val a 0*val b m=0 from Int.zero_mul _]; exact Ans.nil (bel_refl _)⟩
  . by_cases hm0:m=0
    . subst hm0
      go_enter Tryz.func203,Tryz.ntmps203
      go_wp2
      go_ret
      exact ⟨_,rfl,by rw [show val a n*val b 0=0 from Int.mul_zero _]; exact Ans.nil (bel_refl _)⟩
    . have e1:((n:Int) == 0)=false:=by simp; omega
      have e2:((m:Int) == 0)=false:=by simp; omega
      go_enter Tryz.func203,Tryz.ntmps203
      go_wp2_with (at_make; refine wpList_mk rfl _ _ rfl _ _ (n+m) rfl rfl (by omega) (by omega) (by omega) ?_; intro w1 hB1 hb1)
      go_loopw [6] (fun i wr=>∃ (k:Nat) (r:Nat->Int),k<=n∧i=.int .i64 k∧Blk wr w.heap.size (n+m) r∧Dig r (n+m)∧Hid (∀ t,k+m<=t->r t=0)∧Hid (val r (k+m)=val a k*val b m)∧Below w.heap.size w wr) (fun i _=>n-(intOf i).toNat)
      case atStart=>exact ⟨0,fun _=>0,Nat.zero_le _,rfl,hB1,zero_dig _,fun _ _=>rfl,by show _=_; rw [val_zeros (Nat.zero_le (0+m)) (fun _ _ _=>rfl)]; show 0=0*val b m; omega,hb1⟩
      case round=>
        obtain ⟨i,r0,hi,rfl,hB0,hD0,HZ0,HV0,hbw0⟩:=hrel
        by_cases hlt:i<n
        . obtain ⟨ba,fa,rfl,hba,hca⟩:=ha.spot (by omega)
          have dai:=da i hlt
          go_wp2
          go_loopw [7,8] (fun c j wr=>∃ (k:Nat) (q:Int) (r:Nat->Int),k<=m∧j=.int .i64 k∧c=.int .i64 q∧0<=q∧q<1073741824∧Blk wr w.heap.size (n+m) r∧Dig r (n+m)∧Hid (∀ t,i+k<=t->r t=r0 t)∧Hid (val r (i+k)+q*P (i+k)=val r0 (i+k)+a i*val b k*P i)∧Below w.heap.size w wr) (fun _ j _=>m-(intOf j).toNat)
          case atStart=>exact ⟨0,0,r0,Nat.zero_le _,rfl,rfl,by omega,by omega,hB0,hD0,fun _ _=>rfl,by show _=_; show val r0 i+0*P i=val r0 i+a i*0*P i; grind,hbw0⟩
          case round=>
            obtain ⟨k,q,r,hk,rfl,rfl,hq0,hq1,hB,hD,HS,HV,hbw⟩:=hrel
            have c1:=(hbw.cell (p:=⟨ba,fa+i,none⟩) hba).trans (hca i hlt)
            by_cases hkm:k<m
            . obtain ⟨bb,fb,rfl,hbb,hcb⟩:=hb.spot (by omega)
              have c2:=(hbw.cell (p:=⟨bb,fb+k,none⟩) hbb).trans (hcb k hkm)
              have c3:=hB.cell (show i+k<n+m by omega)
              have fg:=hB.frozen (i+k)
              have drk:=hD (i+k) (by omega)
              have hmul:=dig_mul dai (db k hkm)
              go_wp2
              go_quiet (fail)
              go_wp2
              have hs:=mul_step (b:=b) (j:=k) HV.out (HS.out (i+k) (Nat.le_refl _))
              rw [show q+(a i*b k+r (i+k))=r (i+k)+a i*b k+q by omega] at hs
              go_roundw
              case rel=>exact ⟨k+1,(r (i+k)+a i*b k+q)/1073741824,upd r (i+k) ((r (i+k)+a i*b k+q) % 1073741824),by omega,by go_num,rfl,by omega,by omega,hB.store (i+k) _,hD.upd _ (mod_dig _),fun t ht=>by rw [upd_other r _ (by omega)]; exact HS.out t (by omega),hs,(bDrewN hbw _).setCell (Nat.le_refl _) _⟩
              case measure=>simp [intOf]; omega
            . obtain rfl:k=m:=by omega
              have c3:=hB.cell (show i+k<n+k by omega)
              have fg:=hB.frozen (i+k)
              go_wp2
              have hr:=mul_row HV.out HV0.out
              go_roundw
              case rel=>exact ⟨i+1,upd r (i+k) q,by omega,by go_num,hB.store (i+k) _,hD.upd _ ⟨hq0,hq1⟩,fun t ht=>by rw [upd_other r _ (by omega),HS.out t (by omega)]; exact HZ0.out t (by omega),by show _=_; rw [hr,val_succ],hbw.setCell (Nat.le_refl _) _⟩
              case measure=>simp [intOf]; omega
        . obtain rfl:i=n:=by omega
          go_wp2_with (go_at_call 261; refine (rtrim_ans (hB0.out (Nat.le_refl _) (Nat.le_refl _) (by omega)) hD0 hbw0).mono ?_; rintro e w3 ⟨v',rfl,hA,rfl⟩)
          go_ret
          exact ⟨_,rfl,by rw [<- HV0.out]; exact hA⟩
set_option maxHeartbeats 400000 in
theorem rfrom_any (V:Int) (w:World) (h0:0<=V) (h1:V<9223372036854775808) :
    Calls Tryz.prog 209 #[.int .i64 V] w fun e w'=>∃ v,e=.returned v∧Ans w w' V v:=by
  have HM:Hid (V<9223372036854775808):=h1
  clear h1
  go_enter Tryz.func209,Tryz.ntmps209
  go_wp2
  go_loopw [0,3] (fun i v wr=>∃ (x:Int) (k:Nat) (r:Nat->Int),i=.int .i64 x∧0<=x∧k<=3∧Out w.heap.size wr v k r∧Dig r k∧Hid (x*P k<=V)∧Hid (x=0->Top r k)∧Hid (val r k+x*P k=V)∧Below w.heap.size w wr) (fun i _ _=>(intOf i).toNat)
  case atStart=>exact ⟨V,0,fun _=>0,rfl,h0,by omega,Out.nil _ _ _,fun i hi=>by omega,by show _<=_; show V*1<=V; omega,fun _=>.inl rfl,by show _=_; show 0+V*1=V; omega,bel_refl _⟩
  case round=>
    obtain ⟨x,k,r,rfl,hx,hk3,hO,hD,HB,HT,HV,hbw⟩:=hrel
    by_cases hp:0<x
    . have hk2:k<=2:=by
        by_cases e:k=3
        . subst e
          have a:=HB.out
          have b:=HM.out
          have c:P 3=1073741824*1073741824*1073741824:=by decide
          have d:1*P 3<=x*P 3:=Int.mul_le_mul_of_nonneg_right (by omega) (Int.le_of_lt (P_pos 3))
          omega
        . omega
      have hx2:x<=9223372036854775807:=by
        have a:=HB.out
        have b:=HM.out
        have c:x*1<=x*P k:=Int.mul_le_mul_of_nonneg_left (by have:=P_pos k; omega) (by omega)
        omega
      go_wp2_with (at_builtin; refine wpList_app rfl _ _ rfl w.heap.size _ k r rfl (hO.stays (bel_alloc _ _)) _ 1 1 (fun _=>x % 1073741824) rfl (row1 _ _ rfl) (by omega) (by have:=hbw.size; simp; omega) ?_; intro v' w1 hO1 hg1)
      have hb1:Below w.heap.size w w1:=(hbw.alloc hbw.size _).grown hg1 (by have:=hbw.size; simp; omega) (own_ge hO)
      have hs:=sum_step (c:=0) (x:=x) (show val r k+0*P k=val r k by omega)
      rw [Int.zero_add] at hs
      go_roundw
      case rel=>exact ⟨x/1073741824,k+1,upd r k (x % 1073741824),rfl,by omega,by omega,hO1.congr (cat_upd r k _),dig_upd2 hD (mod_dig _),by
          show _<=_
          have a:=HB.out
          rw [P_succ,show x/1073741824*(P k*1073741824)=(x/1073741824*1073741824)*P k by grind]
          have b:(x/1073741824*1073741824)*P k<=x*P k:=Int.mul_le_mul_of_nonneg_right (by omega) (Int.le_of_lt (P_pos k))
          omega,fun e=>.inr (by rw [Nat.add_sub_cancel,upd_same]; omega),by show _=_; rw [hs]; exact HV.out,hb1⟩
      case measure=>simp [intOf]; omega
    . obtain rfl:x=0:=by omega
      go_wp2
      go_ret
      exact ⟨_,rfl,k,r,hO,⟨hD,HT.out (by first | rfl | trivial)⟩,by have:=HV.out; omega,hbw⟩
end Go.Proofs.YtjjihmnbdeeedaaGreatDoor
