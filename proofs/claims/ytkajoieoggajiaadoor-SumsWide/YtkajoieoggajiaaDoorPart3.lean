/- Parts of the proof. -/
import Derived.Test.YtkajoieoggajiaaDoorPart2
import Derived.RowKit3
import Derived.Lib.Strings
import Derived.Lib.Slices
import Derived.Lib.Small
import Derived.Lib.Walk
import Derived.Test.YtkajoieoggajiaaDoorRows
import Derived.ProofKit
import Derived.OpenShut
import Derived.ChangeOld
import Derived.LaidMore
import Derived.Deep.Strs
import Derived.Lib.LaidTab
import Derived.MakeChecks
import Derived.Stop.LaidErr
set_option linter.unusedVariables false
set_option linter.unusedSimpArgs false
namespace Go.Proofs.YtkajoieoggajiaaDoor
open Go Go.RowKit Go.Proofs.YtkajoieoggajiaaDoor.M
def sumV (r:Nat->NumR):Nat->Int | 0=>0 | k + 1=>sumV r k + sg (r k).ng (val (r k).d (r k).n) * pw (r k).e
def DOut (w:World) (V:Int) (x:Ending) (w':World):Prop:=(Dok V∧∃ v,x=.returned v∧DAns w w' V v)∨(¬ Dok V∧x=gaveUp∧Below w.heap.size w w')
theorem settle_any {ng:Bool} {ao:Option Addr} {n cap:Nat} {d:Nat->Int} {e:Int} {w:World} (h:Row w ao n cap d) (hd:Dig d n) (hn:n <= 100000) (hT:Tab w) (he:-4194304 <= e) {V:Int} (hV:V=sg ng (val d n) * pw e) :
    Calls Tryd.prog 64 #[.agg #[.bool ng,.slice ao n cap,.int .i64 e]] w (DOut w V):=by
  by_cases hok:Dok V
  . refine (settle_ok h hd hn hT he hV hok).mono ?_
    rintro x w' ⟨v,rfl,hD⟩
    exact .inl ⟨hok,v,rfl,hD⟩
  . refine (settle_long h hd hn hT he hV hok).mono ?_
    rintro x w' ⟨rfl,hb⟩
    exact .inr ⟨hok,rfl,hb⟩
theorem told_any {F:Nat} {cap:Array Value} {w:World} {V:Int} (hE:∀ w,(callFunc F cap).run Tryd.prog w=.ok (.enter F cap) w) (h:∀ W,Below w.heap.size w W->Calls Tryd.prog F cap W (DOut W V)) :
    Calls Tryd.prog 41 #[.func (.func F) #[] cap] w fun r w'=>∃ v er,r=.returned (.tuple #[v,.int .i64 er])∧DFit w w' V v er:=by
  refine told_fit hE (fun hok W hW=>(h W hW).mono ?_) (fun hok W hW=>(h W hW).mono ?_)
  . rintro x w' (⟨_,v,rfl,hD⟩ | ⟨hn,_⟩)
    . exact ⟨v,rfl,hD⟩
    . exact absurd hok hn
  . rintro x w' (⟨hy,_⟩ | ⟨_,rfl,hb⟩)
    . exact absurd hy hok
    . exact ⟨rfl,hb⟩
theorem sumV_zero {r:Nat->NumR}:∀ {n:Nat},(∀ i,i < n->(r i).n=0)->sumV r n=0
  | 0,_=>rfl
  | n + 1,h=>by
    show sumV r n + _=0
    rw [sumV_zero fun i hi=>h i (by omega),h n (by omega)]
    show 0 + sg _ 0 * _=0
    rw [sg_zero,Int.zero_mul,Int.add_zero]
theorem sum_bound {r:Nat->NumR} {k:Nat} {low high:Int} (hs:Sane (r k)) (ha:low <= (r k).e∧(r k).e + blen (val (r k).d (r k).n) <= high) :
    val (r k).d (r k).n * 2 ^ ((r k).e - low).toNat < 2 ^ (high - low).toNat∧0 <= val (r k).d (r k).n * 2 ^ ((r k).e - low).toNat:=by
  have hv:=val_nonneg hs.1.1
  obtain ⟨a,b⟩:=ha
  have h1:=blen_lt (val (r k).d (r k).n)
  have h2:val (r k).d (r k).n * 2 ^ ((r k).e - low).toNat < 2 ^ blen (val (r k).d (r k).n) * 2 ^ ((r k).e - low).toNat:=Int.mul_lt_mul_of_pos_right h1 (two_pos _)
  rw [<- Int.pow_add] at h2
  have h3:(2:Int) ^ (blen (val (r k).d (r k).n) + ((r k).e - low).toNat) <= 2 ^ (high - low).toNat:=two_le (by omega)
  exact ⟨by omega,Int.mul_nonneg hv (Int.le_of_lt (two_pos _))⟩
structure TotP (r:Nat->NumR) (low high:Int) (N k:Nat) (c:Nat->Int):Prop where
  sum:val c N * pw low=sumV r k
  bnd:∀ i,i < N->-((k:Int) * 1073741823) <= c i∧c i <= k * 1073741823
  lo:-((k:Int) * 2 ^ (high - low).toNat) <= val c N
  hi:val c N <= k * 2 ^ (high - low).toNat
theorem TotP.start (r:Nat->NumR) (low high:Int) (N:Nat):TotP r low high N 0 (fun _=>0):=by
  have e:val (fun _=>0) N=0:=val_zeros (Nat.zero_le _) (fun _ _ _=>rfl)
  exact ⟨by rw [e,Int.zero_mul]; rfl,fun i _=>⟨by omega,by omega⟩,by rw [e]; simp,by rw [e]; simp⟩
theorem TotP.skip {r:Nat->NumR} {low high:Int} {N k:Nat} {c:Nat->Int} (h:TotP r low high N k c) (h0:(r k).n=0):TotP r low high N (k + 1) c:=by
  have e:sumV r (k + 1)=sumV r k:=by
    show sumV r k + _=_
    rw [h0]
    show sumV r k + sg _ 0 * _=_
    rw [sg_zero,Int.zero_mul,Int.add_zero]
  have hp:=two_pos (high - low).toNat
  have e2:((k + 1:Nat):Int) * 2 ^ (high - low).toNat=k * 2 ^ (high - low).toNat + 2 ^ (high - low).toNat:=by rw [Int.natCast_add,Int.add_mul]; simp
  refine ⟨by rw [e]; exact h.sum,fun i hi=>?_,?_,?_⟩
  . have:=h.bnd i hi; omega
  . have:=h.lo; omega
  . have:=h.hi; omega
theorem sgn_sg (ng:Bool) {n:Nat} (h:0 < n) (x:Int):sgn ng n * x=sg ng x∧(sgn ng n=1∨sgn ng n=-1):=by
  have:n ≠ 0:=by omega
  cases ng <;> simp [sgn,sg,this]
theorem TotP.put {r:Nat->NumR} {low high:Int} {N k q p:Nat} {c c':Nat->Int} (h:TotP r low high N k c) (hs:Sane (r k)) (h0:0 < (r k).n) (ha:low <= (r k).e∧(r k).e + blen (val (r k).d (r k).n) <= high) (hl:-4194304 <= low) (hqp:(r k).e - low=30 * q + p) (hp:p < 30)
    (hP:Piled N c (sgn (r k).ng (r k).n) (P q * (2 ^ p * val (r k).d (r k).n)) c'):TotP r low high N (k + 1) c':=by
  obtain ⟨b1,b0⟩:=sum_bound hs ha
  obtain ⟨a1,a2⟩:=ha
  have e1:(2:Int) ^ ((r k).e - low).toNat=P q * 2 ^ p:=by
    rw [show ((r k).e - low).toNat=30 * q + p by omega,Int.pow_add,P_two]
  have e2:P q * (2 ^ p * val (r k).d (r k).n)=val (r k).d (r k).n * 2 ^ ((r k).e - low).toNat:=by rw [e1]; grind
  rw [e2] at hP
  generalize hX:val (r k).d (r k).n * 2 ^ ((r k).e - low).toNat=X at *
  obtain ⟨s1,s2⟩:=sgn_sg (r k).ng h0 X
  have hsum:=hP.sum
  rw [s1] at hsum
  have hpp:=two_pos (high - low).toNat
  have e3:((k + 1:Nat):Int) * 2 ^ (high - low).toNat=k * 2 ^ (high - low).toNat + 2 ^ (high - low).toNat:=by rw [Int.natCast_add,Int.add_mul]; simp
  have hsx:-X <= sg (r k).ng X∧sg (r k).ng X <= X:=by cases (r k).ng <;> simp [sg] <;> omega
  refine ⟨?_,fun i hi=>?_,?_,?_⟩
  . rw [hsum,Int.add_mul,h.sum]
    show _=sumV r k + sg (r k).ng (val (r k).d (r k).n) * pw (r k).e
    rw [pw_sub hl a1,<- hX,sg_sgn,sg_sgn]; grind
  . have h1:=h.bnd i hi
    have h2:=pile_near s2 (hP.near i) (C:=k * 1073741823) h1
    omega
  . have:=h.lo; omega
  . have:=h.hi; omega
theorem len_blen {d:Nat->Int} {n:Nat} (h:Nrm d n) (h0:0 < n):30 * (n - 1) + 1 <= blen (val d n):=by
  obtain ⟨m,rfl⟩:∃ m,n=m + 1:=⟨n - 1,by omega⟩
  rw [blen_val h]
  have hd:=h.1 m (by omega)
  have ht:d m ≠ 0:=by
    rcases h.2 with h1 | h1
    . omega
    . rwa [Nat.add_sub_cancel] at h1
  have:=(blen_pos (show 0 < d m by omega)).1
  omega
set_option maxRecDepth 100000 in
set_option maxHeartbeats 4000000 in
theorem total_any (ao:Option Addr) (n cap:Nat) (r:Nat->NumR) (w:World) (h:Nums w ao n cap r) (hs:∀ i,i < n->Sane (r i)) (hn:n <= 100000) (hT:Tab w) :
    Calls Tryd.prog 43 #[.slice ao n cap] w (DOut w (sumV r n)):=by
  have hl:=h.le
  have hm:=h.max
  have HS:Hid (∀ i,i < n->Sane (r i)):=hs
  go_enter Tryd.func43,Tryd.ntmps43
  go_wp2_with fail
  refine (reach_any ao n cap r _ (h.keeps (bel_alloc _ _)) hs).mono ?_
  rintro x w1 ⟨low,high,rfl,hR,hb1⟩
  clear hs
  have q0:=(hb1.block w.heap.size (by rw [size1]; omega)).trans (heap_a1 _ _)
  have x0:=blkC q0 0 rfl
  have x1:=blkC q0 1 rfl
  have x2:=blkC q0 2 rfl
  have z0:=blkF q0 0
  have z1:=blkF q0 1
  have z2:=blkF q0 2
  have hbw1:=bel_trans (bel_alloc w _) hb1
  by_cases hz:∀ i,i < n->(r i).n=0
  . obtain ⟨rfl,rfl⟩:=hR.none hz
    go_wp2
    refine bodyPost_ret (v:=zeroV) (by simp [results,Tryd.results43,go_sem,x0,x1,x2,zeroV]) rfl ?_
    rw [sumV_zero hz]
    exact .inl ⟨dok_zero,_,rfl,DAns.zero (((hbw1.setCell (p:=⟨w.heap.size,0,none⟩) (Nat.le_refl _) _).setCell (p:=⟨w.heap.size,1,none⟩) (Nat.le_refl _) _).setCell (p:=⟨w.heap.size,2,none⟩) (Nat.le_refl _) _)⟩
  . have hsome:∃ i,i < n∧0 < (r i).n:=by
      simp only [Classical.not_forall] at hz
      obtain ⟨i,hi,hp⟩:=hz
      exact ⟨i,hi,by omega⟩
    obtain ⟨l0,l1,l2,l3⟩:=hR.some hsome
    have hlh:low <= high:=by
      obtain ⟨i,hi,hp⟩:=hsome
      have:=hR.all i hi hp
      omega
    obtain ⟨N,hN⟩:∃ N:Nat,(high - low) / 30 + 3=(N:Int):=⟨((high - low) / 30 + 3).toNat,by omega⟩
    go_wp2_with (at_make; refine wpList_mk rfl _ _ rfl _ _ N rfl rfl (by omega) (by omega) (by omega) ?_; intro w2 hB2 hb2)
    have hlow:-4194304 <= low:=by omega
    have hbw2:=bel_trans hbw1 hb2
    have hb2':=hb2
    have HN:=h.keeps hbw1
    have HA:Hid (∀ i,i < n->0 < (r i).n->low <= (r i).e∧(r i).e + blen (val (r i).d (r i).n) <= high):=hR.all
    have HLH:Hid ((high - low) / 30 + 3=(N:Int)∧low <= high):=⟨hN,hlh⟩
    have hN3:3 <= N∧N <= 90000:=by omega
    have gw:w1.heap.size < w2.heap.size:=hB2.lt
    clear hR hz hsome hb2 x0 x1 x2 z0 z1 z2
    go_loopw [26] (fun i wr=>∃ (k:Nat) (c:Nat->Int),k <= n∧i=.int .i64 k∧Blk wr w1.heap.size N c∧Hid (TotP r low high N k c)∧Below w1.heap.size w1 wr∧w2.heap.size <= wr.heap.size) (fun i _=>n - (intOf i).toNat)
    case atStart=>exact ⟨0,_,Nat.zero_le _,rfl,hB2,TotP.start _ _ _ _,hb2',Nat.le_refl _⟩
    case round=>
      obtain ⟨k,c,hk,rfl,hB,HT,hbw,hgw⟩:=hrel
      by_cases hlt:k < n
      . obtain ⟨b,off,rfl,hb,hc⟩:=HN.spot (by omega)
        obtain ⟨c0,c1,c2,hRow⟩:=(hc k hlt).keeps hbw hb
        have hRX:=RowX.of (hc k hlt).row (Nat.le_refl _)
        have hsk:=HS.out k hlt
        have hak:=HA.out k hlt
        have hput:=fun q p c' h0=>HT.out.put (q:=q) (p:=p) (c':=c') hsk h0 (hak h0) hlow
        have hskip:=fun h0=>HT.out.skip (k:=k) h0
        have hbnd:=HT.out.bnd
        clear hc
        generalize hr:r k=x at *
        obtain ⟨ng,xo,xn,xc,xd,xe⟩:=x
        obtain ⟨s1,s2,s3,s4⟩:=hsk
        simp only at c0 c1 c2 hRX hRow s1 s2 s3 s4 hput hskip hak
        by_cases h0:xn=0
        . subst h0
          have HZ:Hid (TotP r low high N (k + 1) c):=hskip rfl
          clear hput hskip hak hbnd hN hlh hRX HN
          go_wp2
          go_roundw
          case rel=>exact ⟨k + 1,c,by omega,by go_num,hB.alloc _,HZ,hbw.trans ((bel_alloc _ _).mono hbw.size),by rw [size1]; omega⟩
          case measure=>simp [intOf]; omega
        . have hlp:(0:Int) < xn:=by omega
          obtain ⟨a1,a2⟩:=hak (by omega)
          have hlb:=len_blen s1 (by omega)
          obtain ⟨q,p,hqp,hp⟩:∃ q p:Nat,xe - low=30 * q + p∧p < 30:=⟨((xe - low) / 30).toNat,((xe - low) % 30).toNat,by omega,by omega⟩
          have hqN:q + xn + 1 <= N:=by omega
          have HP:Hid (∀ c',Piled N c (sgn ng xn) (P q * (2 ^ p * val xd xn)) c'->TotP r low high N (k + 1) c'):=fun c' hP=>hput q p c' (by omega) hqp hp hP
          obtain ⟨_,hsg⟩:=sgn_sg ng (show 0 < xn by omega) 0
          have HSG:Hid (sgn ng xn=1∨sgn ng xn=-1):=hsg
          have HQP:Hid (xe - low=30 * q + p):=hqp
          have HBD:Hid (∀ i,i < N->-((k:Int) * 1073741823) <= c i∧c i <= k * 1073741823):=hbnd
          have hw1:wrap64 (xe - low)=xe - low:=IntWalk.wrap64_in _ ⟨by omega,by omega⟩
          have hw2:IntKind.i64.wrap (xe - low)=xe - low:=by rw [wrap_i64_eq]; omega
          have hlen:xn <= 100000:=by omega
          have q0:=heap_a1 wr (.cells #[.bool ng,.slice xo xn xc,.int .i64 xe] 30)
          have hsz:=size1 wr (.cells #[.bool ng,.slice xo xn xc,.int .i64 xe] 30)
          have hbx:Below w1.heap.size w1 (wr.alloc (.cells #[.bool ng,.slice xo xn xc,.int .i64 xe] 30)):=hbw.trans ((bel_alloc _ _).mono hbw.size)
          have hBx:=hB.alloc (.cells #[.bool ng,.slice xo xn xc,.int .i64 xe] 30)
          have hgx:wr.heap.size ≠ w1.heap.size:=by omega
          clear hput hskip hak hbnd hN hlh hsg hqp HN a1 a2 hlb
          go_wp2_with fail
          generalize wr.alloc (.cells #[.bool ng,.slice xo xn xc,.int .i64 xe] 30)=wx at q0 hsz hbx hBx ⊢
          have k0:=blkC q0 0 rfl
          have k1:=blkC q0 1 rfl
          have k2:=blkC q0 2 rfl
          have hb1:=bel_refl wx
          have C1:∀ W,Below wx.heap.size wx W->Calls Tryd.prog 69 #[.agg #[.bool ng,.slice xo xn xc,.int .i64 xe]] W fun y w'=>y=.returned (.int .i64 (sgn ng xn))∧Below W.heap.size W w':=fun W _=>dsign_any ng xo xn xc xe W (by omega)
          have C2:∀ W,Below wx.heap.size wx W->Calls Tryd.prog 68 #[.slice (some ⟨w1.heap.size,0,none⟩) N N,.slice xo xn xc,.int .i64 (xe - low),.int .i64 (sgn ng xn)] W fun y w'=>y=.returned (.tuple #[])∧∃ c4,Blk w' w1.heap.size N c4∧Wr w1.heap.size W w'∧Piled N c (sgn ng xn) (P q * (2 ^ p * val xd xn)) c4:=fun W h=>
            pile_qp w1.heap.size N c xo xn xc q p xd W (hBx.keeps h) (hRX.keeps (wr_of (hbx.trans (h.mono hbx.size)))) s1.1 hlen hqN (by omega) hp _ HQP.out _ HSG.out (k * 1073741823) HBD.out (by omega)
          go_region_held3 (fun W=>W.cell? ⟨wr.heap.size,0,none⟩=some (.bool ng)∧W.cell? ⟨wr.heap.size,1,none⟩=some (.slice xo xn xc)∧W.cell? ⟨wr.heap.size,2,none⟩=some (.int .i64 xe))
            (first | exact ⟨k0,k1,k2⟩ | exact keepB (by assumption) (by assumption) | exact keepW (by assumption) (by assumption) hgx)
            (first | (go_at_call 69; refine (C1 _ hb1.drew).mono ?_; rintro y w3 ⟨rfl,hbv1⟩) | (go_at_call 68; have _t:=hbv1; refine (C2 _ (bel_trans hb1.drew hbv1)).mono ?_; rintro y w4 ⟨rfl,c4,hB5,hW5,hP5⟩))
          go_wp2
          go_roundw
          case rel=>exact ⟨k + 1,c4,by omega,by go_num,hB5,HP.out _ hP5,hW5.below (hbx.trans ((bel_trans hb1.drew hbv1).mono hbx.size)) (by have:=hbx.size; have:=hbv1.size; exact Nat.le_trans hbx.size hbv1.size) (Nat.le_refl _),by have:=hW5.size; have:wx.heap.size <= w3.heap.size:=hbv1.size; omega⟩
          case measure=>simp [intOf]; omega
      . obtain rfl:k=n:=by omega
        have hbig:-P N < val c N∧val c N < P N:=by
          have h1:=HT.out.lo
          have h2:=HT.out.hi
          obtain ⟨e1,e2⟩:=HLH.out
          have h3:((k:Int)) * 2 ^ (high - low).toNat < 2 ^ 60 * 2 ^ (high - low).toNat:=Int.mul_lt_mul_of_pos_right (by omega) (two_pos _)
          rw [<- Int.pow_add] at h3
          have h4:(2:Int) ^ (60 + (high - low).toNat) <= P N:=by rw [P_two]; exact two_le (by omega)
          omega
        go_wp2_with fail
        refine (carry_any w1.heap.size N c wr hB (by omega) (fun i hi=>by have:=HT.out.bnd i hi; omega) hbig).mono ?_
        rintro y w5 ⟨c5,rfl,hB5,hW5,hD5,hV5⟩
        have hbw5:Below w1.heap.size w1 w5:=hW5.below hbw hbw.size (Nat.le_refl _)
        have hbw6:=bel_trans hbw1 hbw5
        have hsum:sumV r k=sg (decide (val c N < 0)) (val c5 N) * pw low:=by rw [hV5]; exact HT.out.sum.symm
        have HSUM:Hid (sumV r k=sg (decide (val c N < 0)) (val c5 N) * pw low):=hsum
        clear hsum hbig hV5
        generalize hneg:decide (val c N < 0)=neg at *
        go_wp2_with fail
        refine (settle_any (hB5.row0 (Nat.le_refl _) (by omega)) hD5 (by omega) (hT.keeps hbw6) hlow HSUM.out).mono ?_
        rintro y w7 (⟨hok,v,rfl,hD⟩ | ⟨hno,rfl,hb7⟩)
        . have hb7:=hD.below
          have hf7:=hD.from hbw6
          obtain ⟨ng',s',m',e',rfl,hy,hA⟩:=id hD
          obtain ⟨so,sn,sc,rfl⟩:=hA.num.shape
          have g0:=(hb7.block w.heap.size (Nat.lt_of_lt_of_le (Nat.lt_of_lt_of_le (by rw [size1]; omega) hb1.size) hbw5.size)).trans ((hbw5.block w.heap.size (Nat.lt_of_lt_of_le (by rw [size1]; omega) hb1.size)).trans q0)
          have x0:=blkC g0 0 rfl
          have x1:=blkC g0 1 rfl
          have x2:=blkC g0 2 rfl
          have z0:=blkF g0 0
          have z1:=blkF g0 1
          have z2:=blkF g0 2
          go_wp2
          refine bodyPost_ret (v:=.agg #[.bool ng',.slice so sn sc,.int .i64 e']) (by simp [results,Tryd.results43,go_sem,x0,x1,x2]) rfl ?_
          exact .inl ⟨hok,_,rfl,dans_res3 (g:=w.heap.size) hD hbw6 (Nat.le_refl _) (Nat.lt_of_lt_of_le (Nat.lt_of_lt_of_le (by rw [size1]; omega) hb1.size) hbw5.size) _ _ _⟩
        . exact ⟨rfl,.inr ⟨hno,rfl,bel_trans hbw6 hb7⟩⟩
def NumR.V (r:NumR):Int:=sg r.ng (val r.d r.n) * pw r.e
theorem okR_sane {x:NumR} (h:okR x=true):Sane x:=by
  rcases of_decide_eq_true h with ⟨h1,h2,h3⟩ | ⟨h1,⟨h2,h3⟩,h4,h5,h6⟩
  . exact ⟨⟨fun i hi=>by omega,.inl h1⟩,by omega,by omega,by omega⟩
  . exact ⟨h3,by omega,by omega,by omega⟩
theorem okR_dy {x:NumR} (h:okR x=true):Dy x.V x.ng (val x.d x.n) x.e∧val x.d x.n < P 2000∧Dok x.V:=by
  have hd:Dy x.V x.ng (val x.d x.n) x.e∧val x.d x.n < P 2000∧-1048576 <= x.e∧x.e <= 1048576:=by
    rcases of_decide_eq_true h with ⟨h1,h2,h3⟩ | ⟨h1,⟨h2,h3⟩,h4,h5,h6⟩
    . exact ⟨⟨rfl,by omega,.inl ⟨by rw [h1]; rfl,h2,h3⟩⟩,by rw [h1]; show (0:Int) < P 2000; exact P_pos 2000,by omega,by omega⟩
    . refine ⟨⟨rfl,by omega,.inr ⟨val_pos h3 h1,?_⟩⟩,?_,h5,h6⟩
      . obtain ⟨m,hm⟩:∃ m,x.n=m + 1:=⟨x.n - 1,by omega⟩
        have:=val_split x.d 1 m
        rw [show 1 + m=x.n by omega] at this
        rw [this]
        rw [show val x.d 1=x.d 0 by show 0 + x.d 0 * 1=_; omega,show P 1=1073741824 from rfl]
        omega
      . exact Int.lt_of_lt_of_le (val_lt h3.1) (P_le h2)
  exact ⟨hd.1,hd.2.1,hd.1.ok.2 hd.2⟩
theorem bel_set3 {w w1:World} (h:Below w.heap.size w w1) {g:Nat} (hg:w.heap.size <= g) (a b c:Value):Below w.heap.size w (((w1.setCell ⟨g,0,none⟩ a).setCell ⟨g,1,none⟩ b).setCell ⟨g,2,none⟩ c) :=
  ((h.setCell (p:=⟨g,0,none⟩) hg a).setCell (p:=⟨g,1,none⟩) hg b).setCell (p:=⟨g,2,none⟩) hg c
theorem heap_set {w:World} {g:Nat} {xs:Array Value} {t:TypeId} (h:w.heap[g]?=some (.cells xs t (0,0))) (i:Nat) (v:Value):(w.setCell ⟨g,i,none⟩ v).heap[g]?=some (.cells (xs.setIfInBounds i v) t (0,0)):=by
  simp [World.setCell,Array.getElem?_modify,h]
def RFit (w w':World) (V:Int) (v:Value) (er:Int):Prop:=DFit w w' V v er
theorem RFit.shape {w w':World} {V er:Int} {v:Value} (h:RFit w w' V v er):∃ ng so sn sc e,v=.agg #[.bool ng,.slice so sn sc,.int .i64 e]:=by
  exact DFit.shape h
def NumR.neg (r:NumR):NumR:=⟨!r.ng,r.ao,r.n,r.cap,r.d,r.e⟩
def mulV (x y:NumR):Int:=sg (x.ng != y.ng) (val x.d x.n * val y.d y.n) * pw (x.e + y.e)
theorem mulV_eq {x y:NumR} (hx:-2097152 <= x.e) (hy:-2097152 <= y.e):mulV x y * 2 ^ 4194304=x.V * y.V:=by
  unfold mulV NumR.V
  rw [Int.mul_assoc,<- pw_mul hx hy,<- sg_mul]; grind
set_option maxRecDepth 100000 in
set_option maxHeartbeats 2000000 in
theorem dproduct_any (x y:NumR) (w:World) (hx:Row w x.ao x.n x.cap x.d) (hy:Row w y.ao y.n y.cap y.d) (sx:Sane x) (sy:Sane y) :
    Calls Tryd.prog 93 #[x.v,y.v] w fun r w'=>∃ s,r=.returned (.agg #[.bool (x.ng != y.ng),s,.int .i64 (x.e + y.e)])∧Ans w w' (val x.d x.n * val y.d y.n) s:=by
  obtain ⟨an,ao,n,ca,a,e⟩:=x
  obtain ⟨bn,bo,m,cb,b,f⟩:=y
  obtain ⟨s1,s2,s3,s4⟩:=sx
  obtain ⟨t1,t2,t3,t4⟩:=sy
  unfold NumR.v
  simp only at *
  have hw:IntKind.i64.wrap (e + f)=e + f:=by rw [wrap_i64_eq]; omega
  have hb3:=bel_a3 w (.cells #[.bool an,.slice ao n ca,.int .i64 e] 30) (.cells #[.bool bn,.slice bo m cb,.int .i64 f] 30) (.cells #[.bool false,.slice none 0 0,.int .i64 0] 30)
  have g0:=h3_0 w (.cells #[.bool an,.slice ao n ca,.int .i64 e] 30) (.cells #[.bool bn,.slice bo m cb,.int .i64 f] 30) (.cells #[.bool false,.slice none 0 0,.int .i64 0] 30)
  have g1:=h3_1 w (.cells #[.bool an,.slice ao n ca,.int .i64 e] 30) (.cells #[.bool bn,.slice bo m cb,.int .i64 f] 30) (.cells #[.bool false,.slice none 0 0,.int .i64 0] 30)
  have g2:=h3_2 w (.cells #[.bool an,.slice ao n ca,.int .i64 e] 30) (.cells #[.bool bn,.slice bo m cb,.int .i64 f] 30) (.cells #[.bool false,.slice none 0 0,.int .i64 0] 30)
  have hs3:=size3 w (.cells #[.bool an,.slice ao n ca,.int .i64 e] 30) (.cells #[.bool bn,.slice bo m cb,.int .i64 f] 30) (.cells #[.bool false,.slice none 0 0,.int .i64 0] 30)
  go_enter Tryd.func93,Tryd.ntmps93
  go_wp2_with fail
  have HX:=hx.keeps hb3
  have HY:=hy.keeps hb3
  generalize ((w.alloc (.cells #[.bool an,.slice ao n ca,.int .i64 e] 30)).alloc (.cells #[.bool bn,.slice bo m cb,.int .i64 f] 30)).alloc (.cells #[.bool false,.slice none 0 0,.int .i64 0] 30)=wx at hb3 g0 g1 g2 hs3 HX HY ⊢
  have k0:=blkC g0 0 rfl
  have k1:=blkC g0 1 rfl
  have k2:=blkC g0 2 rfl
  have j0:=blkC g1 0 rfl
  have j1:=blkC g1 1 rfl
  have j2:=blkC g1 2 rfl
  have hb1:=bel_refl wx
  have C1:∀ W,Below wx.heap.size wx W->Calls Tryd.prog 95 #[.slice ao n ca,.slice bo m cb] W fun r w'=>∃ so sn sc,r=.returned (.slice so sn sc)∧Ans W w' (val a n * val b m) (.slice so sn sc)∧Below W.heap.size W w':=fun W h=>by
    refine (product_any ao bo n m ca cb a b W (HX.keeps h) (HY.keeps h) s1.1 t1.1 (by omega) (by omega)).mono ?_
    rintro r w' ⟨v,rfl,hA⟩
    obtain ⟨so,sn,sc,rfl⟩:=hA.num.shape
    exact ⟨so,sn,sc,rfl,hA,hA.below⟩
  go_region_held3 (fun W=>(W.cell? ⟨w.heap.size,0,none⟩=some (.bool an)∧W.cell? ⟨w.heap.size,1,none⟩=some (.slice ao n ca)∧W.cell? ⟨w.heap.size,2,none⟩=some (.int .i64 e))∧W.cell? ⟨w.heap.size + 1,0,none⟩=some (.bool bn)∧W.cell? ⟨w.heap.size + 1,1,none⟩=some (.slice bo m cb)∧W.cell? ⟨w.heap.size + 1,2,none⟩=some (.int .i64 f))
    (first | assumption | exact ⟨⟨k0,k1,k2⟩,j0,j1,j2⟩ | exact ⟨keepB (W:=wx.drew) ⟨k0,k1,k2⟩ hbv1,keepB (W:=wx.drew) ⟨j0,j1,j2⟩ hbv1⟩ | exact ⟨keepS (keepB (W:=wx.drew) ⟨k0,k1,k2⟩ hbv1) (by omega) _ _ _,keepS (keepB (W:=wx.drew) ⟨j0,j1,j2⟩ hbv1) (by omega) _ _ _⟩)
    (first | (go_at_call 95; refine (C1 _ hb1.drew).mono ?_; rintro y w3 ⟨so,sn,sc,rfl,hv,hbv1⟩; have q0:=(hbv1.block (w.heap.size + 2) (by show _ < wx.heap.size; omega)).trans g2; have x0:=blkC q0 0 rfl; have x1:=blkC q0 1 rfl; have x2:=blkC q0 2 rfl; have z0:=blkF q0 0; have z1:=blkF q0 1; have z2:=blkF q0 2) | fail)
  all_goals go_wp2
  all_goals
    refine bodyPost_ret (v:=.agg #[.bool (!(an == bn)),.slice so sn sc,.int .i64 (e + f)]) (by simp [results,Tryd.results93,go_sem,x0,x1,x2]) rfl ⟨_,rfl,?_⟩
    exact ans_res (g:=w.heap.size + 2) (hv.from hb1.drew) hb3 (by omega) (by omega) _ _ _
structure Lays (w:World):Prop where
  a0:w.cell? ⟨2,0,none⟩=some (.int .i64 52)
  a1:w.cell? ⟨2,1,none⟩=some (.int .i64 2047)
  a2:w.cell? ⟨2,2,none⟩=some (.int .i64 (-1074))
  b0:w.cell? ⟨0,0,none⟩=some (.int .i64 23)
  b1:w.cell? ⟨0,1,none⟩=some (.int .i64 255)
  b2:w.cell? ⟨0,2,none⟩=some (.int .i64 (-149))
structure Gr (W w':World):Prop where
  gr:Grown W w'
  be:Below W.heap.size W w'
theorem Gr.refl (W:World):Gr W W:=⟨Grown.refl _,Below.refl _ _⟩
theorem Gr.alloc {W w':World} (h:Gr W w') (c:Array Value) (t:TypeId):Gr W (w'.alloc (.cells c t)):=⟨h.gr.alloc c t,h.be.alloc h.be.size _⟩
theorem Gr.drew {W w':World} (h:Gr W w'):Gr W w'.drew:=⟨h.gr.drew,⟨h.be.os,h.be.tape,h.be.output,h.be.size,h.be.block⟩⟩
theorem gDrewN {W w':World} (h:Gr W w') (n:Nat):Gr W (w'.drewN n):=⟨h.gr,⟨h.be.os,h.be.tape,h.be.output,h.be.size,h.be.block⟩⟩
theorem gCell {a b:World} (h:Gr a b) {p:Addr} {v:Value} (hc:a.cell? p=some v):b.cell? p=some v:=by
  unfold World.cell? at hc ⊢
  have hlt:p.block < a.heap.size:=by
    by_cases hp:p.block < a.heap.size
    . exact hp
    . rw [Array.getElem?_eq_none (by omega)] at hc; simp at hc
  have k:=h.gr.1.2.2 p.block hlt
  cases ha:a.heap[p.block]? with
  | none=>rw [ha] at hc; simp at hc
  | some oa=>
    rw [ha] at hc k
    cases oa with
    | cells c t fr=>
      cases hb:b.heap[p.block]? with
      | none=>rw [hb] at k; simp at k
      | some ob=>
        rw [hb] at k
        cases ob with
        | cells c' t' fr'=>
          simp only at hc k ⊢
          obtain ⟨_,_,_,kc⟩:=k
          rw [kc p.off (fun f=>f)]
          exact hc
        | _=>simp at k
    | _=>simp at hc
theorem Lays.grown {w w':World} (h:Lays w) (g:Gr w w'):Lays w' :=
  ⟨gCell g h.a0,gCell g h.a1,gCell g h.a2,gCell g h.b0,gCell g h.b1,gCell g h.b2⟩
theorem b_ret_int {k:IntKind} {a b:Int} (h:a=b):Ending.returned (.int k a)=.returned (.int k b):=by rw [h]
theorem b_ret_bool {a b:Bool} (h:a=b):Ending.returned (.bool a)=.returned (.bool b):=by rw [h]
theorem ret_ttt {a a' b b':Int} {c c':Bool} (h:a=a') (k:b=b') (l:c=c'):Ending.returned (.tuple #[.int .i64 a,.int .i64 b,.bool c])=.returned (.tuple #[.int .i64 a',.int .i64 b',.bool c']):=by rw [h,k,l]
theorem split64 (b:Int) (w:World) :
    Calls Tryd.prog 24 #[.agg #[.int .i64 52,.int .i64 2047,.int .i64 (-1074)],.int .i64 b] w fun e w'=>e=.returned (.tuple #[.int .i64 (fld b),.int .i64 (frc b)])∧∃ n,w'=(w.alloc (.cells #[.int .i64 52,.int .i64 2047,.int .i64 (-1074)] 36)).drewN n:=by
  have h1:bits .and .i64 (b / 4503599627370496) 2047=fld b:=and_i64_2047 _
  have h2:bits .and .i64 b 4503599627370495=frc b:=and_i64_m52 _
  go_enter Tryd.func24,Tryd.ntmps24
  go_wp2
  go_quiet (fail)
  go_wp2
  go_ret2
  exact ⟨rfl,_,rfl⟩
theorem split32 (b:Int) (w:World) :
    Calls Tryd.prog 24 #[.agg #[.int .i64 23,.int .i64 255,.int .i64 (-149)],.int .i64 b] w fun e w'=>e=.returned (.tuple #[.int .i64 (fld32 b),.int .i64 (frc32 b)])∧∃ n,w'=(w.alloc (.cells #[.int .i64 23,.int .i64 255,.int .i64 (-149)] 36)).drewN n:=by
  have h1:bits .and .i64 (b / 8388608) 255=fld32 b:=and_i64_255 _
  have h2:bits .and .i64 b 8388607=frc32 b:=and_i64_m23 _
  go_enter Tryd.func24,Tryd.ntmps24
  go_wp2
  go_quiet (fail)
  go_wp2
  go_ret2
  exact ⟨rfl,_,rfl⟩
theorem parts64 (b:Int) (w:World) :
    Calls Tryd.prog 65 #[.agg #[.int .i64 52,.int .i64 2047,.int .i64 (-1074)],.int .i64 b] w fun e w'=>e=.returned (.tuple #[.int .i64 (pmag b),.int .i64 (pexp b),.bool (pok b)])∧Gr w w':=by
  have hf:=fld_le b
  have hr:=frc_le b
  by_cases h1:fld b=2047
  . go_enter Tryd.func65,Tryd.ntmps65
    go_wp2_with (go_at_call 24; refine (split64 _ _).mono ?_; rintro e w1 ⟨rfl,n,rfl⟩)
    go_ret3
    exact ⟨ret_ttt (by simp [pmag,h1]) (by simp [pexp,h1]) (by simp [pok,h1]),gDrewN (((Gr.refl _).alloc _ _).alloc _ _) _⟩
  . by_cases h2:fld b=0
    . go_enter Tryd.func65,Tryd.ntmps65
      go_wp2_with (go_at_call 24; refine (split64 _ _).mono ?_; rintro e w1 ⟨rfl,n,rfl⟩)
      go_quiet (fail)
      go_wp2
      go_ret3
      exact ⟨ret_ttt (by simp [pmag,h1,h2]) (by simp [pexp,h1,h2]) (by simp [pok,h1]),gDrewN (gDrewN (((Gr.refl _).alloc _ _).alloc _ _) _) _⟩
    . go_enter Tryd.func65,Tryd.ntmps65
      go_wp2_with (go_at_call 24; refine (split64 _ _).mono ?_; rintro e w1 ⟨rfl,n,rfl⟩)
      go_quiet (fail)
      go_wp2
      go_ret3
      exact ⟨ret_ttt (by simp [pmag,h1,h2]) (by simp [pexp,h1,h2]; omega) (by simp [pok,h1]),gDrewN (gDrewN (((Gr.refl _).alloc _ _).alloc _ _) _) _⟩
theorem class32 (b:Int) (w:World) (hb:in32 b=true) :
    Calls Tryd.prog 11 #[.agg #[.int .i64 23,.int .i64 255,.int .i64 (-149)],.int .i64 b] w fun e w'=>e=.returned (.int .i64 (cls32 b))∧Gr w w':=by
  have hb':=of_decide_eq_true hb
  by_cases h1:fld32 b=255 <;> by_cases h2:frc32 b=0 <;> by_cases h3:fld32 b=0
  all_goals first
    | (exfalso; omega)
    | (go_enter Tryd.func11,Tryd.ntmps11
       go_wp2_with (go_at_call 24; refine (split32 _ _).mono ?_; rintro e w1 ⟨rfl,n,rfl⟩)
       go_ret
       exact ⟨b_ret_int (by simp [cls32,h1,h2,h3,show ¬ (b < 0∨4294967296 <= b) by omega]),gDrewN (((Gr.refl _).alloc _ _).alloc _ _) _⟩)
theorem parts32 (b:Int) (w:World) (hb:in32 b=true) :
    Calls Tryd.prog 65 #[.agg #[.int .i64 23,.int .i64 255,.int .i64 (-149)],.int .i64 b] w fun e w'=>e=.returned (.tuple #[.int .i64 (pmag32 b),.int .i64 (pexp32 b),.bool (pok32 b)])∧Gr w w':=by
  have hf:=fld32_le b
  have hr:=frc32_le b
  by_cases h1:fld32 b=255
  . go_enter Tryd.func65,Tryd.ntmps65
    go_wp2_with (go_at_call 24; refine (split32 _ _).mono ?_; rintro e w1 ⟨rfl,n,rfl⟩)
    go_ret3
    exact ⟨ret_ttt (by simp [pmag32,pok32,hb,h1]) (by simp [pexp32,pok32,hb,h1]) (by simp [pok32,hb,h1]),gDrewN (((Gr.refl _).alloc _ _).alloc _ _) _⟩
  . by_cases h2:fld32 b=0
    . go_enter Tryd.func65,Tryd.ntmps65
      go_wp2_with (go_at_call 24; refine (split32 _ _).mono ?_; rintro e w1 ⟨rfl,n,rfl⟩)
      go_quiet (fail)
      go_wp2
      go_ret3
      exact ⟨ret_ttt (by simp [pmag32,pok32,hb,h1,h2]) (by simp [pexp32,pok32,hb,h1,h2]) (by simp [pok32,hb,h1]),gDrewN (gDrewN (((Gr.refl _).alloc _ _).alloc _ _) _) _⟩
    . go_enter Tryd.func65,Tryd.ntmps65
      go_wp2_with (go_at_call 24; refine (split32 _ _).mono ?_; rintro e w1 ⟨rfl,n,rfl⟩)
      go_quiet (fail)
      go_wp2
      go_ret3
      exact ⟨ret_ttt (by simp [pmag32,pok32,hb,h1,h2]) (by simp [pexp32,pok32,hb,h1,h2]; omega) (by simp [pok32,hb,h1]),gDrewN (gDrewN (((Gr.refl _).alloc _ _).alloc _ _) _) _⟩
theorem bitsFits32 (b:Int) (w:World) :
    Calls Tryd.prog 10 #[.int .i64 b] w fun e w'=>e=.returned (.bool (in32 b))∧w'=w:=by
  by_cases h:0 <= b <;> by_cases h2:b <= 4294967295
  all_goals
    go_enter Tryd.func10,Tryd.ntmps10
    go_wp2
    go_ret
    exact ⟨b_ret_bool (by simp [in32]; omega),rfl⟩
theorem bitsClass32 (b:Int) (w:World) (L:Lays w) :
    Calls Tryd.prog 4 #[.int .i64 b] w fun e w'=>e=.returned (.int .i64 (cls32 b))∧Gr w w':=by
  obtain ⟨a0,a1,a2,b0,b1,b2⟩:=L
  by_cases h:in32 b=true
  . go_enter Tryd.func4,Tryd.ntmps4
    go_wp2_with (first
      | (go_at_call 10; refine (bitsFits32 _ _).mono ?_; rintro e w1 ⟨rfl,rfl⟩)
      | (go_at_call 11; refine (class32 _ _ h).mono ?_; rintro e w1 ⟨rfl,hg⟩))
    go_ret
    exact ⟨rfl,hg⟩
  . have hn:b < 0∨4294967296 <= b:=by simp [in32] at h; omega
    have h':in32 b=false:=by simpa using h
    go_enter Tryd.func4,Tryd.ntmps4
    go_wp2_with (go_at_call 10; refine (bitsFits32 _ _).mono ?_; rintro e w1 ⟨rfl,rfl⟩)
    go_ret
    exact ⟨b_ret_int (by simp [cls32,hn]),Gr.refl _⟩
theorem ret_ib {a a':Int} {c c':Bool} (h:a=a') (l:c=c'):Ending.returned (.tuple #[.int .i64 a,.bool c])=.returned (.tuple #[.int .i64 a',.bool c']):=by rw [h,l]
def b_Tab (w:World):Prop:=∀ j,j < 64->w.cell? ⟨3,j,none⟩=some (.int .u8 ((Lib.deBruijn64tab.getD j 0:Nat):Int))
theorem b_Tab.grown {w w':World} (h:b_Tab w) (g:Gr w w'):b_Tab w':=fun j hj=>gCell g (h j hj)
theorem b_tz_key (x a:Nat) (hx:x < 18446744073709551616) (hx0:x ≠ 0) (hlow:x &&& (18446744073709551616 - x)=a) :
    IntKind.u64.wrap (bits .and .u64 (x:Int) (IntKind.u64.wrap (-(x:Int))) * 285870213051353865) / 288230376151711744=((a * 285870213051353865 % 18446744073709551616 / 288230376151711744:Nat):Int):=by
  have e1:IntKind.u64.wrap (-(x:Int))=((18446744073709551616 - x:Nat):Int):=by rw [IntKind.wrap_u64]; omega
  rw [e1,bits_and_u64_nat x _ hx (by omega),hlow,IntKind.wrap_u64]
  omega
set_option maxHeartbeats 1000000 in
theorem b_tz_core (x k idx:Nat) (w:World) (hx0:((x:Int) == 0)=false)
    (key:IntKind.u64.wrap (bits .and .u64 (x:Int) (IntKind.u64.wrap (-(x:Int))) * 285870213051353865) / 288230376151711744=(idx:Int))
    (hi:idx < 64) (hk:k < 64) (hcell:w.cell? ⟨3,idx,none⟩=some (.int .u8 k)) :
    Calls Tryd.prog 81 #[.int .u64 x] w fun e w'=>e=.returned (.int .i64 k)∧w'=w:=by
  go_enter Tryd.func81,Tryd.ntmps81
  go_wp2_with (simp only [key])
  go_ret
  exact ⟨rfl,rfl⟩
theorem b_trailing (x:Nat) (hx:x < 18446744073709551616) (h0:x ≠ 0) (w:World) (hT:b_Tab w) :
    Calls Tryd.prog 81 #[.int .u64 x] w fun e w'=>e=.returned (.int .i64 (Lib.ctz 64 x))∧w'=w:=by
  obtain ⟨hlow,hk⟩:=Lib.lowest_bit 64 x h0 hx
  obtain ⟨hi,htab⟩:=Lib.deBruijn64_at _ hk
  have hcell:=hT _ hi
  rw [htab] at hcell
  exact b_tz_core x _ _ w (by simp; omega) (b_tz_key x _ hx h0 hlow) hi hk hcell
theorem b_len_close (x q:Int) (s:Nat) (h:q.toNat < Lib.len8tab.size) (hq0:0 <= q) (hq:q <= 255) (hs:s <= 56) (hb:Lib.bitLen x.toNat=s + Lib.bitLen q.toNat) :
    wrap64 ((s:Int) + wrap64 ((Lib.len8tab[q.toNat]'h).toNat:Int))=(Lib.bitLen x.toNat:Int):=by
  have e:=Lib.len8_of q hq0 hq
  have l:=Lib.bitLen_le8' q hq0 hq
  unfold Lib.len8 at e
  rw [getElem?_pos Lib.len8tab q.toNat h] at e
  simp only [Option.getD_some] at e
  rw [e,hb]
  unfold wrap64
  omega
theorem b_len_close0 (x:Int) (h:x.toNat < Lib.len8tab.size) (hq0:0 <= x) (hq:x <= 255) :
    wrap64 (wrap64 ((Lib.len8tab[x.toNat]'h).toNat:Int))=(Lib.bitLen x.toNat:Int):=by
  have:=b_len_close x x 0 h hq0 hq (by omega) (by omega)
  simpa using this
theorem b_len_q (x q:Int) (s:Nat) (h0:0 <= x) (h1:x <= 18446744073709551615) (hx:((2 ^ s:Nat):Int) <= x) (e:q=x / ((2 ^ s:Nat):Int)):Lib.bitLen x.toNat=s + Lib.bitLen q.toNat:=by
  rw [Lib.bitLen_shift s x.toNat (by omega) (by omega),e]
  congr 2
  obtain ⟨n,rfl⟩:=Int.eq_ofNat_of_zero_le h0
  rw [<- Int.natCast_ediv,Int.toNat_natCast,Int.toNat_natCast]
set_option maxHeartbeats 4000000 in
set_option maxRecDepth 100000 in
theorem b_len64 (x:Int) (w:World) (h0:0 <= x) (h1:x <= 18446744073709551615) :
    Calls Tryd.prog 78 #[.int .u64 x] w fun e w'=>e=.returned (.int .i64 (Lib.bitLen x.toNat))∧w'=w:=by
  have hs:Lib.len8tab.size=256:=by decide +kernel
  go_enter Tryd.func78,Tryd.ntmps78
  go_wp2
  all_goals go_ret
  . exact ⟨b_ret_int (b_len_close x _ 56 _ (by omega) (by omega) (by omega) (b_len_q x _ 56 h0 h1 (by omega) (by omega))),rfl⟩
  . exact ⟨b_ret_int (b_len_close x _ 48 _ (by omega) (by omega) (by omega) (b_len_q x _ 48 h0 h1 (by omega) (by omega))),rfl⟩
  . exact ⟨b_ret_int (b_len_close x _ 40 _ (by omega) (by omega) (by omega) (b_len_q x _ 40 h0 h1 (by omega) (by omega))),rfl⟩
  . exact ⟨b_ret_int (b_len_close x _ 32 _ (by omega) (by omega) (by omega) (b_len_q x _ 32 h0 h1 (by omega) (by omega))),rfl⟩
  . exact ⟨b_ret_int (b_len_close x _ 24 _ (by omega) (by omega) (by omega) (b_len_q x _ 24 h0 h1 (by omega) (by omega))),rfl⟩
  . exact ⟨b_ret_int (b_len_close x _ 16 _ (by omega) (by omega) (by omega) (b_len_q x _ 16 h0 h1 (by omega) (by omega))),rfl⟩
  . exact ⟨b_ret_int (b_len_close x _ 8 _ (by omega) (by omega) (by omega) (b_len_q x _ 8 h0 h1 (by omega) (by omega))),rfl⟩
  . exact ⟨b_ret_int (b_len_close0 x _ (by omega) (by omega)),rfl⟩
end Go.Proofs.YtkajoieoggajiaaDoor
namespace Go.Proofs.YtkajoieoggajiaaDoor.M
open Go
def jz (mag:Int):Nat:=Lib.ctz 64 mag.toNat
def jo (mag:Int):Int:=mag / 2 ^ jz mag
def jl (mag:Int):Int:=Lib.bitLen (jo mag).toNat
def jsp (fr mag:Int):Int:=fr + 1 - jl mag
def jsh (fr least mag exp:Int):Int:=min (jsp fr mag) (exp + jz mag - least)
def jab (fr least mag exp:Int):Int:=exp + jz mag - jsh fr least mag exp - least
def jgood (fr top least mag exp:Int):Bool:=decide (0 <= jsp fr mag) && (decide (least <= exp + jz mag) && decide (jab fr least mag exp <= top - 2))
def jk (fr top least mag exp:Int):Bool:=if mag < 0 then false else if mag=0 then true else jgood fr top least mag exp
def jv (fr top least mag exp:Int):Int:=if mag <= 0 then 0 else if jgood fr top least mag exp then jab fr least mag exp * 2 ^ fr.toNat + jo mag * 2 ^ (jsh fr least mag exp).toNat else 0
theorem bitLen_spec (n:Nat) (h:n < 2 ^ 64) (h0:n ≠ 0):2 ^ (Lib.bitLen n - 1) <= n∧n < 2 ^ Lib.bitLen n∧1 <= Lib.bitLen n∧Lib.bitLen n <= 64:=by
  have hl:Lib.bitLen n <= 64:=Lib.bitLen_le n 64 (by omega) h
  -- by halving
  have main:∀ f n:Nat,n < 2 ^ f->f <= 64->n ≠ 0->2 ^ (Lib.bitLen n - 1) <= n∧n < 2 ^ Lib.bitLen n∧1 <= Lib.bitLen n:=by
    intro f
    induction f with
    | zero=>intro n h _ h0; simp at h; omega
    | succ f ih=>
      intro n h hf h0
      have h64:n < 2 ^ 64:=Nat.lt_of_lt_of_le h (Nat.pow_le_pow_right (by decide) hf)
      have e:=Lib.bitLen_half n h0 h64
      by_cases h2:n / 2=0
      . have h1:n=1:=by omega
        subst h1
        have:Lib.bitLen 1=1:=by decide +kernel
        rw [this]; decide
      . obtain ⟨a,b,c⟩:=ih (n / 2) (by rw [Nat.pow_succ] at h; omega) (by omega) h2
        obtain ⟨m,hm⟩:∃ m,Lib.bitLen (n / 2)=m + 1:=⟨Lib.bitLen (n / 2) - 1,by omega⟩
        rw [e,hm]
        rw [hm] at a b
        simp only [Nat.add_sub_cancel] at a
        refine ⟨?_,?_,by omega⟩
        . rw [show 1 + (m + 1) - 1=m + 1 by omega,Nat.pow_succ]; omega
        . rw [show 1 + (m + 1)=m + 1 + 1 by omega,Nat.pow_succ]; omega
  obtain ⟨a,b,c⟩:=main 64 n h (by omega) h0
  exact ⟨a,b,c,hl⟩
theorem bitLen_lt (n k:Nat) (h:n < 2 ^ 64) (h0:n ≠ 0):n < 2 ^ k ↔ Lib.bitLen n <= k:=by
  obtain ⟨a,b,c,d⟩:=bitLen_spec n h h0
  constructor
  . intro hk
    apply Nat.le_of_not_lt
    intro hlt
    have:2 ^ k <= 2 ^ (Lib.bitLen n - 1):=Nat.pow_le_pow_right (by decide) (by omega)
    omega
  . intro hk
    exact Nat.lt_of_lt_of_le b (Nat.pow_le_pow_right (by decide) hk)
theorem jz_spec {mag:Int} (h0:0 < mag) (h:mag < 9223372036854775808):∃ m:Nat,mag=2 ^ jz mag * (2 * m + 1)∧jz mag < 63∧jo mag=2 * m + 1:=by
  unfold jo jz
  obtain ⟨n,rfl⟩:=Int.eq_ofNat_of_zero_le (Int.le_of_lt h0)
  have hn:n ≠ 0:=by omega
  simp only [Int.toNat_natCast]
  obtain ⟨m,hm,hk⟩:=Lib.ctzFrom_spec 64 n (by omega) (by omega)
  have e:Lib.ctz 64 n=Lib.ctzFrom 64 n:=by simp [Lib.ctz,hn]
  rw [e]
  have hp:0 < 2 ^ Lib.ctzFrom 64 n:=Nat.two_pow_pos _
  have hz:Lib.ctzFrom 64 n < 63:=by
    apply Nat.lt_of_not_le
    intro hle
    have:2 ^ 63 <= 2 ^ Lib.ctzFrom 64 n:=Nat.pow_le_pow_right (by decide) hle
    have:2 ^ Lib.ctzFrom 64 n <= n:=by
      rw (occs:=.pos [2]) [hm]
      exact Nat.le_mul_of_pos_right _ (by omega)
    omega
  have hm':(n:Int)=2 ^ Lib.ctzFrom 64 n * (2 * (m:Int) + 1):=by
    have:((2 ^ Lib.ctzFrom 64 n * (2 * m + 1):Nat):Int)=2 ^ Lib.ctzFrom 64 n * (2 * (m:Int) + 1):=by
      rw [Int.natCast_mul]; simp
    rw [<- this,<- hm]
  refine ⟨m,hm',hz,?_⟩
  have hpi:(0:Int) < 2 ^ Lib.ctzFrom 64 n:=Int.pow_pos (by decide)
  rw (occs:=.pos [1]) [hm']
  exact Int.mul_ediv_cancel_left _ (by omega)
theorem jo_le {mag:Int} (h0:0 < mag) (h:mag < 9223372036854775808):1 <= jo mag∧jo mag <= mag:=by
  obtain ⟨m,a,b,c⟩:=jz_spec h0 h
  have hp:(0:Int) < 2 ^ jz mag:=Int.pow_pos (by decide)
  have:(2 * (m:Int) + 1) * 1 <= (2 * (m:Int) + 1) * 2 ^ jz mag:=Int.mul_le_mul_of_nonneg_left (by omega) (by omega)
  rw [Int.mul_comm _ (2 ^ jz mag),<- a] at this
  omega
theorem jl_le {mag:Int} (h0:0 < mag) (h:mag < 9223372036854775808):1 <= jl mag∧jl mag <= 63:=by
  obtain ⟨a,b⟩:=jo_le h0 h
  have s:=bitLen_spec (jo mag).toNat (by omega) (by omega)
  unfold jl
  have:=(bitLen_lt (jo mag).toNat 63 (by omega) (by omega)).1 (by omega)
  omega
theorem jshift_lt {fr mag:Int} (h0:0 < mag) (h:mag < 9223372036854775808) (hf:0 <= fr) (s:Nat) (hs:(s:Int) <= jsp fr mag):1 <= jo mag * 2 ^ s∧jo mag * 2 ^ s < 2 ^ (fr.toNat + 1):=by
  obtain ⟨a,b⟩:=jo_le h0 h
  have sp:=bitLen_spec (jo mag).toNat (by omega) (by omega)
  unfold jsp jl at hs
  have hp:(0:Int) < 2 ^ s:=Int.pow_pos (by decide)
  constructor
  . have:(1:Int) * 1 <= jo mag * 2 ^ s:=Int.mul_le_mul a (by omega) (by omega) (by omega)
    omega
  . have h1:(jo mag).toNat * 2 ^ s < 2 ^ (Lib.bitLen (jo mag).toNat) * 2 ^ s:=Nat.mul_lt_mul_of_pos_right sp.2.1 (Nat.two_pow_pos _)
    rw [<- Nat.pow_add] at h1
    have h2:2 ^ (Lib.bitLen (jo mag).toNat + s) <= 2 ^ (fr.toNat + 1):=Nat.pow_le_pow_right (by decide) (by omega)
    have h3:(jo mag).toNat * 2 ^ s < 2 ^ (fr.toNat + 1):=Nat.lt_of_lt_of_le h1 h2
    have h4:(((jo mag).toNat * 2 ^ s:Nat):Int) < ((2 ^ (fr.toNat + 1):Nat):Int):=Int.ofNat_lt.2 h3
    rw [Int.natCast_mul,Int.toNat_of_nonneg (by omega)] at h4
    simpa using h4
theorem jgood_far {mag exp:Int} (h0:0 < mag) (h:mag < 9223372036854775808) (hf:1025 < exp):jgood 52 2047 (-1074) mag exp=false:=by
  have:=jl_le h0 h
  unfold jgood jab jsh jsp
  simp; intro _ _; omega
theorem jgood_far32 {mag exp:Int} (h0:0 < mag) (h:mag < 9223372036854775808) (hf:129 < exp):jgood 23 255 (-149) mag exp=false:=by
  have:=jl_le h0 h
  unfold jgood jab jsh jsp
  simp; intro _ _; omega
theorem jv_le {mag exp:Int} (hm:rng mag):0 <= jv 52 2047 (-1074) mag exp∧jv 52 2047 (-1074) mag exp < 9218868437227405312:=by
  unfold rng at hm
  unfold jv
  by_cases h0:mag <= 0
  . rw [if_pos h0]; omega
  . rw [if_neg h0]
    by_cases hk:jgood 52 2047 (-1074) mag exp=true
    . rw [if_pos hk]
      unfold jgood at hk
      simp only [Bool.and_eq_true,decide_eq_true_eq] at hk
      have hl:=jl_le (mag:=mag) (by omega) hm.2
      have hs:0 <= jsh 52 (-1074) mag exp∧jsh 52 (-1074) mag exp <= jsp 52 mag:=by unfold jsh; omega
      have hb:=jshift_lt (fr:=52) (mag:=mag) (by omega) hm.2 (by omega) (jsh 52 (-1074) mag exp).toNat (by omega)
      have hb2:jo mag * 2 ^ (jsh 52 (-1074) mag exp).toNat < 9007199254740992:=hb.2
      have ha:0 <= jab 52 (-1074) mag exp:=by unfold jab jsh; omega
      -- a normal number's highest bit is counted into the field
      have e:(2:Int) ^ (52:Int).toNat=4503599627370496:=by decide
      rw [e]
      omega
    . rw [if_neg hk]; omega
theorem jv_le32 {mag exp:Int} (hm:rng mag):0 <= jv 23 255 (-149) mag exp∧jv 23 255 (-149) mag exp < 2139095040:=by
  unfold rng at hm
  unfold jv
  by_cases h0:mag <= 0
  . rw [if_pos h0]; omega
  . rw [if_neg h0]
    by_cases hk:jgood 23 255 (-149) mag exp=true
    . rw [if_pos hk]
      unfold jgood at hk
      simp only [Bool.and_eq_true,decide_eq_true_eq] at hk
      have hl:=jl_le (mag:=mag) (by omega) hm.2
      have hs:0 <= jsh 23 (-149) mag exp∧jsh 23 (-149) mag exp <= jsp 23 mag:=by unfold jsh; omega
      have hb:=jshift_lt (fr:=23) (mag:=mag) (by omega) hm.2 (by omega) (jsh 23 (-149) mag exp).toNat (by omega)
      have hb2:jo mag * 2 ^ (jsh 23 (-149) mag exp).toNat < 16777216:=hb.2
      have ha:0 <= jab 23 (-149) mag exp:=by unfold jab jsh; omega
      have e:(2:Int) ^ (23:Int).toNat=8388608:=by decide
      rw [e]
      omega
    . rw [if_neg hk]; omega
theorem doubled {fr mag:Int} (h0:0 < mag) (h:mag < 9223372036854775808) (hf:0 <= fr) (j:Nat):jo mag * 2 ^ j < 2 ^ fr.toNat ↔ (j:Int) < jsp fr mag:=by
  obtain ⟨a,b⟩:=jo_le h0 h
  have sp:=bitLen_spec (jo mag).toNat (by omega) (by omega)
  unfold jsp jl
  have hc:((((jo mag).toNat * 2 ^ j:Nat)):Int)=jo mag * 2 ^ j:=by
    rw [Int.natCast_mul,Int.toNat_of_nonneg (by omega)]; simp
  have hd:((2 ^ fr.toNat:Nat):Int)=2 ^ fr.toNat:=by simp
  rw [<- hc,<- hd,Int.ofNat_lt]
  constructor
  . intro hlt
    have h1:2 ^ (Lib.bitLen (jo mag).toNat - 1) * 2 ^ j <= (jo mag).toNat * 2 ^ j:=Nat.mul_le_mul_right _ sp.1
    rw [<- Nat.pow_add] at h1
    have h2:2 ^ (Lib.bitLen (jo mag).toNat - 1 + j) < 2 ^ fr.toNat:=by omega
    have:=(Nat.pow_lt_pow_iff_right (by decide:1 < 2)).1 h2
    omega
  . intro hlt
    have h1:(jo mag).toNat * 2 ^ j < 2 ^ (Lib.bitLen (jo mag).toNat) * 2 ^ j:=Nat.mul_lt_mul_of_pos_right sp.2.1 (Nat.two_pow_pos _)
    rw [<- Nat.pow_add] at h1
    exact Nat.lt_of_lt_of_le h1 (Nat.pow_le_pow_right (by decide) (by omega))
def sk (fr low mag exp:Int):Bool:=decide (0 <= jsp fr mag) && decide (low <= exp + jz mag)
def se (fr low mag exp:Int):Int:=if sk fr low mag exp then exp + jz mag - jsh fr low mag exp else 0
def jp (neg:Bool) (mag exp:Int):Int:=if jk 52 2047 (-1074) mag exp && neg then jv 52 2047 (-1074) mag exp - 9223372036854775808 else jv 52 2047 (-1074) mag exp
def jp32 (neg:Bool) (mag exp:Int):Int:=if jk 23 255 (-149) mag exp && neg then jv 23 255 (-149) mag exp + 2147483648 else jv 23 255 (-149) mag exp
end Go.Proofs.YtkajoieoggajiaaDoor.M
namespace Go.Proofs.YtkajoieoggajiaaDoor
open Go Go.RowKit Go.Proofs.YtkajoieoggajiaaDoor.M
theorem keepIt {p:Prop} (h:p):Hid p:=h
theorem trailingI (mag:Int) (h0:0 < mag) (h:mag < 9223372036854775808) (w:World) (hT:b_Tab w) :
    Calls Tryd.prog 81 #[.int .u64 mag] w fun e w'=>e=.returned (.int .i64 (jz mag))∧w'=w:=by
  obtain ⟨n,rfl⟩:=Int.eq_ofNat_of_zero_le (Int.le_of_lt h0)
  exact b_trailing n (by omega) (by omega) w hT
theorem len64J (mag:Int) (w:World) (h0:1 <= jo mag) (h1:jo mag <= mag) (h:mag < 9223372036854775808) :
    Calls Tryd.prog 78 #[.int .u64 (jo mag)] w fun e w'=>e=.returned (.int .i64 (jl mag))∧w'=w :=
  b_len64 (jo mag) w (by omega) (by omega)
theorem far64 (exp:Int) (w:World) (h:rng exp) :
    Calls Tryd.prog 80 #[.agg #[.int .i64 52,.int .i64 2047,.int .i64 (-1074)],.int .i64 exp] w fun e w'=>e=.returned (.bool (decide (1025 < exp)))∧w'=w.alloc (.cells #[.int .i64 52,.int .i64 2047,.int .i64 (-1074)] 36):=by
  unfold rng at h
  go_enter Tryd.func80,Tryd.ntmps80
  go_wp2
  go_ret
  exact ⟨rfl,rfl⟩
set_option maxHeartbeats 1000000 in
theorem join64 (mag exp:Int) (w:World) (hT:b_Tab w) (hm:rng mag) (he:rng exp) :
    Calls Tryd.prog 59 #[.agg #[.int .i64 52,.int .i64 2047,.int .i64 (-1074)],.int .i64 mag,.int .i64 exp] w fun e w'=>e=.returned (.tuple #[.int .i64 (jv 52 2047 (-1074) mag exp),.bool (jk 52 2047 (-1074) mag exp)])∧Gr w w':=by
  have he0:=he
  unfold rng at hm he
  rcases Int.lt_trichotomy mag 0 with h | h | h
  . have hn:(mag == 0)=false:=by simp; omega
    go_enter Tryd.func59,Tryd.ntmps59
    go_wp2
    go_ret2
    exact ⟨ret_ib (by simp [jv]; omega) (by simp [jk]; omega),(Gr.refl _).alloc _ _⟩
  . subst h
    go_enter Tryd.func59,Tryd.ntmps59
    go_wp2
    go_ret2
    exact ⟨ret_ib (by simp [jv]) (by simp [jk]),(Gr.refl _).alloc _ _⟩
  . have hn:(mag == 0)=false:=by simp; omega
    have hz:=jz_spec h hm.2
    by_cases hf:1025 < exp
    . have hk:=keepIt (jgood_far h hm.2 hf)
      go_enter Tryd.func59,Tryd.ntmps59
      go_wp2_with (go_at_call 80; refine (far64 _ _ he0).mono ?_; rintro e w1 ⟨rfl,rfl⟩)
      go_ret2
      exact ⟨ret_ib (by simp [jv,hk.out]) (by simp [jk,hk.out]; omega),((Gr.refl _).alloc _ _).alloc _ _⟩
    . obtain ⟨m,-,hz63,-⟩:=hz
      have hj:=jo_le h hm.2
      have hL:=jl_le h hm.2
      have eo:mag / 2 ^ jz mag=jo mag:=rfl
      by_cases s1:53 - jl mag < 0
      . have hk:Hid (jgood 52 2047 (-1074) mag exp=false):=by unfold Hid jgood jsp; simp; omega
        go_enter Tryd.func59,Tryd.ntmps59
        go_wp2_with (go_at_call 80; refine (far64 _ _ he0).mono ?_; rintro e w1 ⟨rfl,rfl⟩)
        refine (trailingI mag h hm.2 _ (hT.grown (((Gr.refl _).alloc _ _).alloc _ _))).mono ?_
        rintro e w1 ⟨rfl,rfl⟩
        go_wp2
        go_quiet ((go_at_call 78; exact Calls.quiet_of_same (len64J _ _ hj.1 hj.2 hm.2)))
        go_wp2
        go_ret2
        exact ⟨ret_ib (by simp [jv,hk.out]) (by simp [jk,hk.out]; omega),gDrewN (((Gr.refl _).alloc _ _).alloc _ _) _⟩
      . by_cases s2:exp + jz mag < -1074
        . have hk:Hid (jgood 52 2047 (-1074) mag exp=false):=by unfold Hid jgood jsp; simp; omega
          go_enter Tryd.func59,Tryd.ntmps59
          go_wp2_with (go_at_call 80; refine (far64 _ _ he0).mono ?_; rintro e w1 ⟨rfl,rfl⟩)
          refine (trailingI mag h hm.2 _ (hT.grown (((Gr.refl _).alloc _ _).alloc _ _))).mono ?_
          rintro e w1 ⟨rfl,rfl⟩
          go_wp2
          go_quiet ((go_at_call 78; exact Calls.quiet_of_same (len64J _ _ hj.1 hj.2 hm.2)))
          go_wp2
          go_ret2
          exact ⟨ret_ib (by simp [jv,hk.out]) (by simp [jk,hk.out]; omega),gDrewN (((Gr.refl _).alloc _ _).alloc _ _) _⟩
        . obtain ⟨s,hs⟩:∃ s:Nat,min (53 - jl mag) (exp + ↑(jz mag) + 1074)=(s:Int):=⟨(min (53 - jl mag) (exp + ↑(jz mag) + 1074)).toNat,by omega⟩
          have hsl:(s:Int) <= 52:=by omega
          have hsj:Hid (jsh 52 (-1074) mag exp=s):=by unfold Hid jsh jsp; omega
          by_cases s3:2045 < exp + ↑(jz mag) - ↑s + 1074
          . have hk:Hid (jgood 52 2047 (-1074) mag exp=false):=by unfold Hid jgood jab; rw [hsj.out]; simp; omega
            go_enter Tryd.func59,Tryd.ntmps59
            go_wp2_with (go_at_call 80; refine (far64 _ _ he0).mono ?_; rintro e w1 ⟨rfl,rfl⟩)
            refine (trailingI mag h hm.2 _ (hT.grown (((Gr.refl _).alloc _ _).alloc _ _))).mono ?_
            rintro e w1 ⟨rfl,rfl⟩
            go_wp2
            go_quiet ((go_at_call 78; exact Calls.quiet_of_same (len64J _ _ hj.1 hj.2 hm.2)))
            go_wp2
            go_ret2
            exact ⟨ret_ib (by simp [jv,hk.out]) (by simp [jk,hk.out]; omega),gDrewN (((Gr.refl _).alloc _ _).alloc _ _) _⟩
          . have hk:Hid (jgood 52 2047 (-1074) mag exp=true):=by unfold Hid jgood jab jsp; rw [hsj.out]; simp; omega
            have hb:=jshift_lt (fr:=52) h hm.2 (by omega) s (by unfold jsp; omega)
            have hb2:jo mag * 2 ^ s < 9007199254740992:=hb.2
            have hb1:=hb.1
            clear hb
            go_enter Tryd.func59,Tryd.ntmps59
            go_wp2_with (go_at_call 80; refine (far64 _ _ he0).mono ?_; rintro e w1 ⟨rfl,rfl⟩)
            refine (trailingI mag h hm.2 _ (hT.grown (((Gr.refl _).alloc _ _).alloc _ _))).mono ?_
            rintro e w1 ⟨rfl,rfl⟩
            go_wp2
            go_quiet ((go_at_call 78; exact Calls.quiet_of_same (len64J _ _ hj.1 hj.2 hm.2)))
            go_wp2
            go_quiet (fail)
            go_wp2
            go_ret2
            refine ⟨ret_ib ?_ (by simp [jk,hk.out]; omega),gDrewN (gDrewN (((Gr.refl _).alloc _ _).alloc _ _) _) _⟩
            unfold jv jab
            rw [if_neg (by omega),if_pos hk.out,hsj.out]
            rfl
theorem far32 (exp:Int) (w:World) (h:rng exp) :
    Calls Tryd.prog 80 #[.agg #[.int .i64 23,.int .i64 255,.int .i64 (-149)],.int .i64 exp] w fun e w'=>e=.returned (.bool (decide (129 < exp)))∧w'=w.alloc (.cells #[.int .i64 23,.int .i64 255,.int .i64 (-149)] 36):=by
  unfold rng at h
  go_enter Tryd.func80,Tryd.ntmps80
  go_wp2
  go_ret
  exact ⟨rfl,rfl⟩
set_option maxHeartbeats 1000000 in
theorem join32 (mag exp:Int) (w:World) (hT:b_Tab w) (hm:rng mag) (he:rng exp) :
    Calls Tryd.prog 59 #[.agg #[.int .i64 23,.int .i64 255,.int .i64 (-149)],.int .i64 mag,.int .i64 exp] w fun e w'=>e=.returned (.tuple #[.int .i64 (jv 23 255 (-149) mag exp),.bool (jk 23 255 (-149) mag exp)])∧Gr w w':=by
  have he0:=he
  unfold rng at hm he
  rcases Int.lt_trichotomy mag 0 with h | h | h
  . have hn:(mag == 0)=false:=by simp; omega
    go_enter Tryd.func59,Tryd.ntmps59
    go_wp2
    go_ret2
    exact ⟨ret_ib (by simp [jv]; omega) (by simp [jk]; omega),(Gr.refl _).alloc _ _⟩
  . subst h
    go_enter Tryd.func59,Tryd.ntmps59
    go_wp2
    go_ret2
    exact ⟨ret_ib (by simp [jv]) (by simp [jk]),(Gr.refl _).alloc _ _⟩
  . have hn:(mag == 0)=false:=by simp; omega
    have hz:=jz_spec h hm.2
    by_cases hf:129 < exp
    . have hk:=keepIt (jgood_far32 h hm.2 hf)
      go_enter Tryd.func59,Tryd.ntmps59
      go_wp2_with (go_at_call 80; refine (far32 _ _ he0).mono ?_; rintro e w1 ⟨rfl,rfl⟩)
      go_ret2
      exact ⟨ret_ib (by simp [jv,hk.out]) (by simp [jk,hk.out]; omega),((Gr.refl _).alloc _ _).alloc _ _⟩
    . obtain ⟨m,-,hz63,-⟩:=hz
      have hj:=jo_le h hm.2
      have hL:=jl_le h hm.2
      have eo:mag / 2 ^ jz mag=jo mag:=rfl
      by_cases s1:24 - jl mag < 0
      . have hk:Hid (jgood 23 255 (-149) mag exp=false):=by unfold Hid jgood jsp; simp; omega
        go_enter Tryd.func59,Tryd.ntmps59
        go_wp2_with (go_at_call 80; refine (far32 _ _ he0).mono ?_; rintro e w1 ⟨rfl,rfl⟩)
        refine (trailingI mag h hm.2 _ (hT.grown (((Gr.refl _).alloc _ _).alloc _ _))).mono ?_
        rintro e w1 ⟨rfl,rfl⟩
        go_wp2
        go_quiet ((go_at_call 78; exact Calls.quiet_of_same (len64J _ _ hj.1 hj.2 hm.2)))
        go_wp2
        go_ret2
        exact ⟨ret_ib (by simp [jv,hk.out]) (by simp [jk,hk.out]; omega),gDrewN (((Gr.refl _).alloc _ _).alloc _ _) _⟩
      . by_cases s2:exp + jz mag < -149
        . have hk:Hid (jgood 23 255 (-149) mag exp=false):=by unfold Hid jgood jsp; simp; omega
          go_enter Tryd.func59,Tryd.ntmps59
          go_wp2_with (go_at_call 80; refine (far32 _ _ he0).mono ?_; rintro e w1 ⟨rfl,rfl⟩)
          refine (trailingI mag h hm.2 _ (hT.grown (((Gr.refl _).alloc _ _).alloc _ _))).mono ?_
          rintro e w1 ⟨rfl,rfl⟩
          go_wp2
          go_quiet ((go_at_call 78; exact Calls.quiet_of_same (len64J _ _ hj.1 hj.2 hm.2)))
          go_wp2
          go_ret2
          exact ⟨ret_ib (by simp [jv,hk.out]) (by simp [jk,hk.out]; omega),gDrewN (((Gr.refl _).alloc _ _).alloc _ _) _⟩
        . obtain ⟨s,hs⟩:∃ s:Nat,min (24 - jl mag) (exp + ↑(jz mag) + 149)=(s:Int):=⟨(min (24 - jl mag) (exp + ↑(jz mag) + 149)).toNat,by omega⟩
          have hsl:(s:Int) <= 23:=by omega
          have hsj:Hid (jsh 23 (-149) mag exp=s):=by unfold Hid jsh jsp; omega
          by_cases s3:253 < exp + ↑(jz mag) - ↑s + 149
          . have hk:Hid (jgood 23 255 (-149) mag exp=false):=by unfold Hid jgood jab; rw [hsj.out]; simp; omega
            go_enter Tryd.func59,Tryd.ntmps59
            go_wp2_with (go_at_call 80; refine (far32 _ _ he0).mono ?_; rintro e w1 ⟨rfl,rfl⟩)
            refine (trailingI mag h hm.2 _ (hT.grown (((Gr.refl _).alloc _ _).alloc _ _))).mono ?_
            rintro e w1 ⟨rfl,rfl⟩
            go_wp2
            go_quiet ((go_at_call 78; exact Calls.quiet_of_same (len64J _ _ hj.1 hj.2 hm.2)))
            go_wp2
            go_ret2
            exact ⟨ret_ib (by simp [jv,hk.out]) (by simp [jk,hk.out]; omega),gDrewN (((Gr.refl _).alloc _ _).alloc _ _) _⟩
          . have hk:Hid (jgood 23 255 (-149) mag exp=true):=by unfold Hid jgood jab jsp; rw [hsj.out]; simp; omega
            have hb:=jshift_lt (fr:=23) h hm.2 (by omega) s (by unfold jsp; omega)
            have hb2:jo mag * 2 ^ s < 16777216:=hb.2
            have hb1:=hb.1
            clear hb
            go_enter Tryd.func59,Tryd.ntmps59
            go_wp2_with (go_at_call 80; refine (far32 _ _ he0).mono ?_; rintro e w1 ⟨rfl,rfl⟩)
            refine (trailingI mag h hm.2 _ (hT.grown (((Gr.refl _).alloc _ _).alloc _ _))).mono ?_
            rintro e w1 ⟨rfl,rfl⟩
            go_wp2
            go_quiet ((go_at_call 78; exact Calls.quiet_of_same (len64J _ _ hj.1 hj.2 hm.2)))
            go_wp2
            go_quiet (fail)
            go_wp2
            go_ret2
            refine ⟨ret_ib ?_ (by simp [jk,hk.out]; omega),gDrewN (gDrewN (((Gr.refl _).alloc _ _).alloc _ _) _) _⟩
            unfold jv jab
            rw [if_neg (by omega),if_pos hk.out,hsj.out]
            rfl
structure Env (w:World):Prop where
  lays:Lays w
  tab:b_Tab w
theorem Env.grown {w w':World} (h:Env w) (g:Gr w w'):Env w':=⟨h.lays.grown g,h.tab.grown g⟩
theorem bitsJoin (neg:Bool) (mag exp:Int) (w:World) (E:Env w) (hm:rng mag) (he:rng exp) :
    Calls Tryd.prog 92 #[.bool neg,.int .i64 mag,.int .i64 exp] w fun e w'=>e=.returned (.tuple #[.int .i64 (jp neg mag exp),.bool (jk 52 2047 (-1074) mag exp)])∧Gr w w':=by
  have hT:=E.tab
  obtain ⟨a0,a1,a2,b0,b1,b2⟩:=E.lays
  have hb:=jv_le (mag:=mag) (exp:=exp) hm
  have ho:=or_i64_sign (jv 52 2047 (-1074) mag exp) (by omega) (by omega)
  have Ho:=keepIt ho
  clear ho
  cases hk:jk 52 2047 (-1074) mag exp
  all_goals
    have HK:=keepIt hk
    cases neg
    all_goals
      go_enter Tryd.func92,Tryd.ntmps92
      go_wp2_with (go_at_call 59; refine (join64 _ _ _ hT hm he).mono ?_; rintro e w1 ⟨rfl,hg⟩)
      go_ret2
      exact ⟨ret_ib (by simp [jp,HK.out,Ho.out]) (by simp [HK.out]),hg⟩
theorem bitsJoin32 (neg:Bool) (mag exp:Int) (w:World) (E:Env w) (hm:rng mag) (he:rng exp) :
    Calls Tryd.prog 35 #[.bool neg,.int .i64 mag,.int .i64 exp] w fun e w'=>e=.returned (.tuple #[.int .i64 (jp32 neg mag exp),.bool (jk 23 255 (-149) mag exp)])∧Gr w w':=by
  have hT:=E.tab
  obtain ⟨a0,a1,a2,b0,b1,b2⟩:=E.lays
  have hb:=jv_le32 (mag:=mag) (exp:=exp) hm
  have ho:=or_i64_sign32 (jv 23 255 (-149) mag exp) (by omega) (by omega)
  have Ho:=keepIt ho
  clear ho
  cases hk:jk 23 255 (-149) mag exp
  all_goals
    have HK:=keepIt hk
    cases neg
    all_goals
      go_enter Tryd.func35,Tryd.ntmps35
      go_wp2_with (go_at_call 59; refine (join32 _ _ _ hT hm he).mono ?_; rintro e w1 ⟨rfl,hg⟩)
      go_ret2
      exact ⟨ret_ib (by simp [jp32,HK.out,Ho.out]) (by simp [HK.out]),hg⟩
structure Lay64 (w:World):Prop where
  a0:w.cell? ⟨2,0,none⟩=some (.int .i64 52)
  a1:w.cell? ⟨2,1,none⟩=some (.int .i64 2047)
  a2:w.cell? ⟨2,2,none⟩=some (.int .i64 (-1074))
theorem Lay64.keeps {w w':World} (h:Lay64 w) (hb:Below w.heap.size w w'):Lay64 w':=⟨cell_keeps h.a0 hb,cell_keeps h.a1 hb,cell_keeps h.a2 hb⟩
structure Lay32 (w:World):Prop where
  b0:w.cell? ⟨0,0,none⟩=some (.int .i64 23)
  b1:w.cell? ⟨0,1,none⟩=some (.int .i64 255)
  b2:w.cell? ⟨0,2,none⟩=some (.int .i64 (-149))
theorem Lay32.keeps {w w':World} (h:Lay32 w) (hb:Below w.heap.size w w'):Lay32 w':=⟨cell_keeps h.b0 hb,cell_keeps h.b1 hb,cell_keeps h.b2 hb⟩
theorem bitsPartsA (b:Int) (w:World) (L:Lay64 w) :
    Calls Tryd.prog 39 #[.int .i64 b] w fun e w'=>e=.returned (.tuple #[.bool (pneg b),.int .i64 (pmag b),.int .i64 (pexp b),.bool (pok b)])∧Below w.heap.size w w':=by
  obtain ⟨a0,a1,a2⟩:=L
  by_cases h:pok b=true
  all_goals
    go_enter Tryd.func39,Tryd.ntmps39
    go_wp2_with (go_at_call 65; refine (parts64 _ _).mono ?_; rintro e w1 ⟨rfl,hg⟩)
    refine bodyPost_ret (v:=.tuple #[.bool (pneg b),.int .i64 (pmag b),.int .i64 (pexp b),.bool (pok b)]) (by simp [results,Tryd.results39,go_sem,pneg,h]) rfl ⟨rfl,hg.be⟩
theorem bitsParts32A (b:Int) (w:World) (L:Lay32 w) :
    Calls Tryd.prog 51 #[.int .i64 b] w fun e w'=>e=.returned (.tuple #[.bool (pneg32 b),.int .i64 (pmag32 b),.int .i64 (pexp32 b),.bool (pok32 b)])∧Below w.heap.size w w':=by
  obtain ⟨b0,b1,b2⟩:=L
  by_cases h:in32 b=true
  . by_cases h2:pok32 b=true
    all_goals
      go_enter Tryd.func51,Tryd.ntmps51
      go_wp2_with (first
        | (go_at_call 10; refine (bitsFits32 _ _).mono ?_; rintro e w1 ⟨rfl,rfl⟩)
        | (go_at_call 65; refine (parts32 _ _ h).mono ?_; rintro e w1 ⟨rfl,hg⟩))
      refine bodyPost_ret (v:=.tuple #[.bool (pneg32 b),.int .i64 (pmag32 b),.int .i64 (pexp32 b),.bool (pok32 b)]) (by simp [results,Tryd.results51,go_sem,pneg32,h2]) rfl ⟨rfl,hg.be⟩
  . have h':in32 b=false:=by simpa using h
    have h2:pok32 b=false:=by simp [pok32,h']
    go_enter Tryd.func51,Tryd.ntmps51
    go_wp2_with (go_at_call 10; refine (bitsFits32 _ _).mono ?_; rintro e w1 ⟨rfl,rfl⟩)
    refine bodyPost_ret (v:=.tuple #[.bool (pneg32 b),.int .i64 (pmag32 b),.int .i64 (pexp32 b),.bool (pok32 b)]) (by simp [results,Tryd.results51,go_sem,pneg32,pmag32,pexp32,h2]) rfl ⟨rfl,bel_refl _⟩
theorem pmag_in {b:Int} (hp:pok b=true):0 <= pmag b∧pmag b < 9007199254740992∧-1074 <= pexp b∧pexp b <= 971:=by
  have hf:=fld_le b
  have hr:=frc_le b
  have h1:fld b ≠ 2047:=by simpa [pok] using hp
  unfold pmag pexp
  rw [if_neg h1,if_neg h1]
  split <;> omega
theorem pmag32_in {b:Int} (hp:pok32 b=true):0 <= pmag32 b∧pmag32 b < 16777216∧-149 <= pexp32 b∧pexp32 b <= 104:=by
  have hf:=fld32_le b
  have hr:=frc32_le b
  have h1:fld32 b ≠ 255:=by
    intro h
    simp [pok32,h] at hp
  unfold pmag32 pexp32
  rw [if_pos hp,if_pos hp]
  split <;> omega
theorem ofNat_any (x:Int) (w:World) (h0:0 <= x) (h1:x < 9223372036854775808) :
    Calls Tryd.prog 63 #[.int .i64 x] w fun e w'=>∃ v,e=.returned (.tuple #[v,.int .i64 0])∧Ans w w' x v:=by
  have HX:=digits_nat x w h0 h1
  have HX':Hid (Calls Tryd.prog 86 #[.int .i64 x] w fun e w'=>∃ v,e=.returned v∧Ans w w' x v):=HX
  clear HX h1
  go_enter Tryd.func63,Tryd.ntmps63
  go_wp2_with fail
  refine HX'.out.mono ?_
  rintro e w2 ⟨v,rfl,hA⟩
  go_wp2
  go_ret2
  exact ⟨_,rfl,hA⟩
theorem P2000_big2:9223372036854775808 < P 2000:=by
  have:=P_le (show 3 <= 2000 by omega)
  have e:P 3=1237940039285380274899124224:=rfl
  omega
theorem dok_small {ng:Bool} {M e:Int} (h0:0 <= M) (h1:M < 9223372036854775808) (e0:-1074 <= e) (e1:e <= 971):Dok (sg ng M * pw e):=by
  by_cases hz:M=0
  . rw [hz,sg_zero,Int.zero_mul]; exact dok_zero
  . obtain ⟨l,hl⟩:=isLow_ex (show 0 < M by omega)
    have hy:=Dy.of ng hl (show 0 < M by omega) (show -4194304 <= e by omega)
    obtain ⟨c1,c2,c3⟩:=isLow_odd hl (show 0 < M by omega)
    have hp:=two_pos l
    have hl63:l < 63:=by
      have h3:(1:Int) * 2 ^ l <= M / 2 ^ l * 2 ^ l:=Int.mul_le_mul_of_nonneg_right (by omega) (by omega)
      rw [c3] at h3
      refine two_lt_iff ?_
      rw [show (2:Int) ^ 63=9223372036854775808 by decide]
      omega
    refine hy.ok.2 ⟨?_,by omega,by omega⟩
    have:M / 2 ^ l <= M:=Int.ediv_le_self _ h0
    have:=P2000_big2
    omega
set_option maxRecDepth 100000 in
set_option maxHeartbeats 1000000 in
theorem value_yes (ng:Bool) (M e:Int) (w:World) (hT:Tab w) (h0:0 <= M) (h1:M < 9223372036854775808) (e0:-1074 <= e) (e1:e <= 971) :
    Calls Tryd.prog 38 #[.bool ng,.int .i64 M,.int .i64 e,.bool true] w fun r w'=>∃ v,r=.returned (.tuple #[v,.int .i64 0])∧DAns w w' (sg ng M * pw e) v:=by
  have hok:=dok_small (ng:=ng) h0 h1 e0 e1
  go_enter Tryd.func38,Tryd.ntmps38
  go_wp2_with fail
  refine (ofNat_any M _ h0 h1).mono ?_
  rintro r w1 ⟨v,rfl,hA⟩
  obtain ⟨so,sn,sc,d,rfl,hR,hN,hv⟩:=hA.num
  have hsn:sn <= 100:=hA.num.len (k:=100) (by have:=P_le (show 3 <= 100 by omega); have:P 3=1237940039285380274899124224:=rfl; omega)
  have hbw:=bel_trans (bel_alloc w _) hA.below
  go_wp2_with fail
  refine (settle_any (V:=sg ng M * pw e) hR hN.1 (by omega) (hT.keeps hbw) (by omega) (by rw [hv])).mono ?_
  rintro r w7 (⟨_,v,rfl,hD⟩ | ⟨hno,_⟩)
  . have hb7:=hD.below
    obtain ⟨ng',s',m',e',rfl,hyy,hA2⟩:=id hD
    obtain ⟨so',sn',sc',rfl⟩:=hA2.num.shape
    have q0:=((bel_trans hA.below hb7).block w.heap.size (by rw [size1]; omega)).trans (heap_a1 _ _)
    have x0:=blkC q0 0 rfl
    have x1:=blkC q0 1 rfl
    have x2:=blkC q0 2 rfl
    have z0:=blkF q0 0
    have z1:=blkF q0 1
    have z2:=blkF q0 2
    go_wp2
    refine bodyPost_ret (v:=.tuple #[.agg #[.bool ng',.slice so' sn' sc',.int .i64 e'],.int .i64 0]) (by simp [results,Tryd.results38,go_sem,x0,x1,x2]) rfl ⟨_,rfl,?_⟩
    exact dans_res3 (g:=w.heap.size) hD hbw (Nat.le_refl _) (Nat.lt_of_lt_of_le (by rw [size1]; omega) hA.below.size) _ _ _
  . exact absurd hok hno
set_option maxRecDepth 100000 in
theorem value_no (ng:Bool) (M e:Int) (w:World) :
    Calls Tryd.prog 38 #[.bool ng,.int .i64 M,.int .i64 e,.bool false] w fun r w'=>r=.returned (.tuple #[zeroV,.int .i64 10])∧Below w.heap.size w w':=by
  go_enter Tryd.func38,Tryd.ntmps38
  go_wp2
  refine bodyPost_ret (v:=.tuple #[zeroV,.int .i64 10]) (by simp [results,Tryd.results38,go_sem,zeroV]) rfl ⟨rfl,?_⟩
  exact bel_alloc _ _
set_option maxRecDepth 100000 in
set_option maxHeartbeats 1000000 in
theorem dof_any (b:Int) (w:World) (L:Lay64 w) (hT:Tab w) :
    Calls Tryd.prog 19 #[.int .i64 b] w fun r w'=>∃ v er,r=.returned (.tuple #[v,.int .i64 er])∧Below w.heap.size w w'∧((pok b=true∧er=0∧DAns w w' (sg (pneg b) (pmag b) * pw (pexp b)) v)∨(pok b=false∧er=10∧v=zeroV)):=by
  have hVy:pok b=true->∀ W,Below w.heap.size w W->Calls Tryd.prog 38 #[.bool (pneg b),.int .i64 (pmag b),.int .i64 (pexp b),.bool true] W fun r w'=>∃ v,r=.returned (.tuple #[v,.int .i64 0])∧DAns W w' (sg (pneg b) (pmag b) * pw (pexp b)) v:=fun hp W hb=>by
    have hi:=pmag_in hp
    exact value_yes _ _ _ W (hT.keeps hb) (by omega) (by omega) (by omega) (by omega)
  have hP:=fun W hb=>bitsPartsA b W (L.keeps hb)
  generalize sg (pneg b) (pmag b) * pw (pexp b)=V at hVy ⊢
  generalize pneg b=ng at *
  generalize pmag b=mg at *
  generalize pexp b=ex at *
  clear L hT
  cases hp:pok b
  . rw [hp] at hP hVy
    go_enter Tryd.func19,Tryd.ntmps19
    go_wp2_with fail
    refine (hP _ (bel_alloc _ _)).mono ?_
    rintro r w1 ⟨rfl,hb1⟩
    go_wp2_with fail
    refine (value_no _ _ _ _).mono ?_
    unfold zeroV
    rintro r w2 ⟨rfl,hb2⟩
    have hbw:=bel_trans (bel_alloc w (.cells #[.bool false,.slice none 0 0,.int .i64 0] 30)) (bel_trans hb1 hb2)
    have q0:=((bel_trans hb1 hb2).block w.heap.size (by rw [size1]; omega)).trans (heap_a1 _ _)
    have x0:=blkC q0 0 rfl
    have x1:=blkC q0 1 rfl
    have x2:=blkC q0 2 rfl
    have z0:=blkF q0 0
    have z1:=blkF q0 1
    have z2:=blkF q0 2
    go_wp2
    refine bodyPost_ret (v:=.tuple #[zeroV,.int .i64 10]) (by simp [results,Tryd.results19,go_sem,x0,x1,x2,zeroV]) rfl ⟨_,_,rfl,?_,.inr ⟨by trivial,rfl,rfl⟩⟩
    exact bel_set3 hbw (Nat.le_refl _) _ _ _
  . rw [hp] at hP hVy
    go_enter Tryd.func19,Tryd.ntmps19
    go_wp2_with fail
    refine (hP _ (bel_alloc _ _)).mono ?_
    rintro r w1 ⟨rfl,hb1⟩
    have hbw:=bel_trans (bel_alloc w (.cells #[.bool false,.slice none 0 0,.int .i64 0] 30)) hb1
    go_wp2_with fail
    refine (hVy (by trivial) _ hbw).mono ?_
    rintro r w2 ⟨v,rfl,hD⟩
    obtain ⟨ng',s',m',e',rfl,hyy,hA2⟩:=id hD
    obtain ⟨so',sn',sc',rfl⟩:=hA2.num.shape
    have q0:=((bel_trans hb1 hD.below).block w.heap.size (by rw [size1]; omega)).trans (heap_a1 _ _)
    have x0:=blkC q0 0 rfl
    have x1:=blkC q0 1 rfl
    have x2:=blkC q0 2 rfl
    have z0:=blkF q0 0
    have z1:=blkF q0 1
    have z2:=blkF q0 2
    go_wp2
    refine bodyPost_ret (v:=.tuple #[.agg #[.bool ng',.slice so' sn' sc',.int .i64 e'],.int .i64 0]) (by simp [results,Tryd.results19,go_sem,x0,x1,x2]) rfl ⟨_,_,rfl,?_,.inl ⟨by trivial,rfl,?_⟩⟩
    . exact bel_set3 (bel_trans hbw hD.below) (Nat.le_refl _) _ _ _
    . exact dans_res3 (g:=w.heap.size) hD hbw (Nat.le_refl _) (Nat.lt_of_lt_of_le (by rw [size1]; omega) hb1.size) _ _ _
set_option maxRecDepth 100000 in
set_option maxHeartbeats 1000000 in
theorem dof32_any (b:Int) (w:World) (L:Lay32 w) (hT:Tab w) :
    Calls Tryd.prog 31 #[.int .i64 b] w fun r w'=>∃ v er,r=.returned (.tuple #[v,.int .i64 er])∧Below w.heap.size w w'∧((pok32 b=true∧er=0∧DAns w w' (sg (pneg32 b) (pmag32 b) * pw (pexp32 b)) v)∨(pok32 b=false∧er=10∧v=zeroV)):=by
  have hVy:pok32 b=true->∀ W,Below w.heap.size w W->Calls Tryd.prog 38 #[.bool (pneg32 b),.int .i64 (pmag32 b),.int .i64 (pexp32 b),.bool true] W fun r w'=>∃ v,r=.returned (.tuple #[v,.int .i64 0])∧DAns W w' (sg (pneg32 b) (pmag32 b) * pw (pexp32 b)) v:=fun hp W hb=>by
    have hi:=pmag32_in hp
    exact value_yes _ _ _ W (hT.keeps hb) (by omega) (by omega) (by omega) (by omega)
  have hP:=fun W hb=>bitsParts32A b W (L.keeps hb)
  generalize sg (pneg32 b) (pmag32 b) * pw (pexp32 b)=V at hVy ⊢
  generalize pneg32 b=ng at *
  generalize pmag32 b=mg at *
  generalize pexp32 b=ex at *
  clear L hT
  cases hp:pok32 b
  . rw [hp] at hP hVy
    go_enter Tryd.func31,Tryd.ntmps31
    go_wp2_with fail
    refine (hP _ (bel_alloc _ _)).mono ?_
    rintro r w1 ⟨rfl,hb1⟩
    go_wp2_with fail
    refine (value_no _ _ _ _).mono ?_
    unfold zeroV
    rintro r w2 ⟨rfl,hb2⟩
    have hbw:=bel_trans (bel_alloc w (.cells #[.bool false,.slice none 0 0,.int .i64 0] 30)) (bel_trans hb1 hb2)
    have q0:=((bel_trans hb1 hb2).block w.heap.size (by rw [size1]; omega)).trans (heap_a1 _ _)
    have x0:=blkC q0 0 rfl
    have x1:=blkC q0 1 rfl
    have x2:=blkC q0 2 rfl
    have z0:=blkF q0 0
    have z1:=blkF q0 1
    have z2:=blkF q0 2
    go_wp2
    refine bodyPost_ret (v:=.tuple #[zeroV,.int .i64 10]) (by simp [results,Tryd.results31,go_sem,x0,x1,x2,zeroV]) rfl ⟨_,_,rfl,?_,.inr ⟨by trivial,rfl,rfl⟩⟩
    exact bel_set3 hbw (Nat.le_refl _) _ _ _
  . rw [hp] at hP hVy
    go_enter Tryd.func31,Tryd.ntmps31
    go_wp2_with fail
    refine (hP _ (bel_alloc _ _)).mono ?_
    rintro r w1 ⟨rfl,hb1⟩
    have hbw:=bel_trans (bel_alloc w (.cells #[.bool false,.slice none 0 0,.int .i64 0] 30)) hb1
    go_wp2_with fail
    refine (hVy (by trivial) _ hbw).mono ?_
    rintro r w2 ⟨v,rfl,hD⟩
    obtain ⟨ng',s',m',e',rfl,hyy,hA2⟩:=id hD
    obtain ⟨so',sn',sc',rfl⟩:=hA2.num.shape
    have q0:=((bel_trans hb1 hD.below).block w.heap.size (by rw [size1]; omega)).trans (heap_a1 _ _)
    have x0:=blkC q0 0 rfl
    have x1:=blkC q0 1 rfl
    have x2:=blkC q0 2 rfl
    have z0:=blkF q0 0
    have z1:=blkF q0 1
    have z2:=blkF q0 2
    go_wp2
    refine bodyPost_ret (v:=.tuple #[.agg #[.bool ng',.slice so' sn' sc',.int .i64 e'],.int .i64 0]) (by simp [results,Tryd.results31,go_sem,x0,x1,x2]) rfl ⟨_,_,rfl,?_,.inl ⟨by trivial,rfl,?_⟩⟩
    . exact bel_set3 (bel_trans hbw hD.below) (Nat.le_refl _) _ _ _
    . exact dans_res3 (g:=w.heap.size) hD hbw (Nat.le_refl _) (Nat.lt_of_lt_of_le (by rw [size1]; omega) hb1.size) _ _ _
theorem DNum.open {w:World} {v:Value} {V:Int} (h:DNum w v V) (ok:Dok V):∃ x:NumR,v=x.v∧Row w x.ao x.n x.cap x.d∧okR x=true∧x.V=V:=by
  obtain ⟨ng,s,m,e,rfl,hy,ao,n,cap,d,rfl,hR,hN,rfl⟩:=h
  refine ⟨⟨ng,ao,n,cap,d,e⟩,rfl,hR,?_,hy.val.symm⟩
  obtain ⟨o1,o2,o3⟩:=hy.ok.1 ok
  refine decide_eq_true ?_
  by_cases h0:n=0
  . left
    have hz:val d n=0:=by rw [h0]; rfl
    rcases hy.form with ⟨_,f2,f3⟩ | ⟨f1,_⟩
    . exact ⟨h0,f2,f3⟩
    . omega
  . right
    have hp:=val_pos hN (show 0 < n by omega)
    rcases hy.form with ⟨f1,_⟩ | ⟨_,f2⟩
    . omega
    . refine ⟨by show 0 < n; omega,⟨?_,hN⟩,?_,o2,o3⟩
      . exact Num.len (w:=w) (ao:=ao) (cap:=cap) ⟨_,_,_,_,rfl,hR,hN,rfl⟩ o1
      . obtain ⟨k,hk⟩:∃ k,n=1 + k:=⟨n - 1,by omega⟩
        have:=val_split d 1 k
        rw [<- hk] at this
        rw [this,show val d 1=d 0 by show 0 + d 0 * 1=_; omega,show P 1=1073741824 from rfl] at f2
        show d 0 % 2=1
        omega
theorem DFit.yes {w w':World} {V er:Int} {v:Value} (h:DFit w w' V v er) (ok:Dok V):er=0∧DAns w w' V v:=by
  rcases h.2 with ⟨_,h1,h2⟩ | ⟨hn,_⟩
  . exact ⟨h1,h2⟩
  . exact absurd ok hn
theorem pw_step {e k:Int} {l:Nat} (h:-4194304 <= e) (hk:k=e + l):pw k=pw e * 2 ^ l:=by rw [hk,pw_add h]
def Bd (B:Nat) (V:Int):Prop:=∃ m:Int,V=m * pw (-(B:Int))∧-(2 ^ (2 * B)) < m∧m < 2 ^ (2 * B)
theorem Bd.ok {B:Nat} {V:Int} (h:Bd B V) (hB:B <= 29000):Dok V:=by
  obtain ⟨m,rfl,h1,h2⟩:=h
  by_cases h0:m=0
  . rw [h0,Int.zero_mul]; exact dok_zero
  . have key:∀ (ng:Bool) (M:Int),0 < M->M < 2 ^ (2 * B)->Dok (sg ng M * pw (-(B:Int))):=fun ng M hM hlt=>by
      obtain ⟨l,hl⟩:=isLow_ex hM
      have hy:=Dy.of ng hl hM (show -4194304 <= -(B:Int) by omega)
      obtain ⟨c1,c2,c3⟩:=isLow_odd hl hM
      have hl2:l < 2 * B:=by
        have h3:(1:Int) * 2 ^ l <= M / 2 ^ l * 2 ^ l:=Int.mul_le_mul_of_nonneg_right (by omega) (Int.le_of_lt (two_pos l))
        rw [c3] at h3
        exact two_lt_iff (by omega)
      refine hy.ok.2 ⟨?_,by omega,by omega⟩
      have h4:M / 2 ^ l <= M:=Int.ediv_le_self _ (by omega)
      have h5:(2:Int) ^ (2 * B) <= 2 ^ (30 * 2000):=two_le (by omega)
      rw [P_two]
      omega
    by_cases hp:0 < m
    . exact key false m hp h2
    . have:=key true (-m) (by omega) (by omega)
      rwa [show sg true (-m)=m by simp [sg]] at this
theorem Bd.up {B C:Nat} {V:Int} (h:Bd B V) (hBC:B <= C) (hC:C <= 4194304):Bd C V:=by
  obtain ⟨m,rfl,h1,h2⟩:=h
  have hp:=two_pos (C - B)
  have e:pw (-(B:Int))=pw (-(C:Int)) * 2 ^ (C - B):=by
    rw [<- pw_add (by omega)]; congr 1; omega
  have hle:(2:Int) ^ (2 * B) * 2 ^ (C - B) <= 2 ^ (2 * C):=by rw [<- Int.pow_add]; exact two_le (by omega)
  refine ⟨m * 2 ^ (C - B),by rw [e]; grind,?_,?_⟩
  . have:-(2 ^ (2 * B)) * 2 ^ (C - B) < m * 2 ^ (C - B):=Int.mul_lt_mul_of_pos_right h1 hp
    rw [Int.neg_mul] at this
    omega
  . have:=Int.mul_lt_mul_of_pos_right h2 hp
    omega
theorem Bd.add {B:Nat} {V W:Int} (h:Bd B V) (k:Bd B W) (hB:B < 4194304):Bd (B + 1) (V + W):=by
  obtain ⟨m,rfl,h1,h2⟩:=h
  obtain ⟨n,rfl,k1,k2⟩:=k
  have e:pw (-(B:Int))=pw (-((B + 1:Nat):Int)) * 2:=by
    have:=pw_add (e:=-((B + 1:Nat):Int)) (by omega) 1
    rw [Int.pow_succ,Int.pow_zero,Int.one_mul] at this
    rw [<- this]; congr 1; omega
  have e2:(2:Int) ^ (2 * (B + 1))=2 ^ (2 * B) * 4:=by rw [show 2 * (B + 1)=2 * B + 2 by omega,Int.pow_add]; rfl
  refine ⟨2 * (m + n),by rw [e]; grind,?_,?_⟩ <;> rw [e2] <;> omega
theorem Bd.neg {B:Nat} {V:Int} (h:Bd B V):Bd B (-V):=by
  obtain ⟨m,rfl,h1,h2⟩:=h
  exact ⟨-m,by rw [Int.neg_mul],by omega,by omega⟩
theorem Bd.mul {B:Nat} {V W U:Int} (h:Bd B V) (k:Bd B W) (hU:U * 2 ^ 4194304=V * W) (hB:B <= 1000000):Bd (2 * B) U:=by
  obtain ⟨m,rfl,h1,h2⟩:=h
  obtain ⟨n,rfl,k1,k2⟩:=k
  have e:U=m * n * pw (-((2 * B:Nat):Int)):=by
    refine scale_inj ?_
    rw [hU,Int.mul_assoc (m * n),show -((2 * B:Nat):Int)=-(B:Int) + -(B:Int) by omega,<- pw_mul (by omega) (by omega)]; grind
  refine ⟨m * n,e,?_,?_⟩
  all_goals
    have hab:(m * n).natAbs < ((2:Int) ^ (2 * (2 * B))).natAbs:=by
      rw [Int.natAbs_mul,show 2 * (2 * B)=2 * B + 2 * B by omega,Int.pow_add,Int.natAbs_mul]
      exact Nat.mul_lt_mul'' (by have:=two_pos (2 * B); omega) (by have:=two_pos (2 * B); omega)
    have:=two_pos (2 * (2 * B))
    omega
theorem bd_num {ng:Bool} {M e:Int} (h0:0 <= M) (h1:M < P 30) (e0:-3000 < e) (e1:e < 3000):Bd 4000 (sg ng M * pw e):=by
  have hs:pw e=pw (-((4000:Nat):Int)) * 2 ^ (e + 4000).toNat:=by
    rw [<- pw_add (by omega)]; congr 1; omega
  have hp:=two_pos (e + 4000).toNat
  have hlt:M * 2 ^ (e + 4000).toNat < 2 ^ (2 * 4000):=by
    have a:M * 2 ^ (e + 4000).toNat < P 30 * 2 ^ (e + 4000).toNat:=Int.mul_lt_mul_of_pos_right h1 hp
    rw [P_two,<- Int.pow_add] at a
    have b:(2:Int) ^ (30 * 30 + (e + 4000).toNat) <= 2 ^ (2 * 4000):=two_le (by omega)
    omega
  have hn:0 <= M * 2 ^ (e + 4000).toNat:=Int.mul_nonneg h0 (Int.le_of_lt hp)
  refine ⟨sg ng (M * 2 ^ (e + 4000).toNat),by rw [hs,sg_sgn,sg_sgn]; grind,?_,?_⟩
  all_goals
    generalize M * 2 ^ (e + 4000).toNat=X at *
    generalize (2:Int) ^ (2 * 4000)=T at *
    cases ng <;> simp only [sg] <;> simp <;> omega
end Go.Proofs.YtkajoieoggajiaaDoor
namespace Go.Proofs.YtkajoieoggajiaaDoor
open Go Go.ChangeShapes Go.WideShapes Go.ChangeAt Go.RowKit Go.Proofs.YtkajoieoggajiaaDoor.M
theorem rng_of {x:Int} (h:(Lit.int .i64 x).wf=true):rng x:=by
  simp [Lit.wf,IntKind.min,IntKind.max,IntKind.signed,IntKind.bits] at h
  unfold rng; omega
theorem row_of {H:Type} {enc:TypeId × Value->H} {W:World} {a:Option Addr} {len cap:Nat} {d:DataW H} {p:List MemPlace}
    (h0:DataW.Trod enc Tryd.prog W 0 (fun _=>true) true 22 (.slice a len cap) d p):∃ z:Nat->Int,Row W a len cap z∧∀ i,i < len->rng (z i):=by
  obtain ⟨fuel,hf⟩:=h0
  rcases open_ints Tryd.underlying22 Tryd.underlying3 (by kernel_rfl) hf with ⟨hcs,_⟩ | ⟨x,l,c,zs,hcs,_,hl,hm,hz,_,hcell,hwz⟩
  . simp [Value.cells] at hcs
    obtain ⟨rfl,rfl,rfl⟩:=hcs
    exact ⟨fun _=>0,Row.nil _ _,fun i hi=>by omega⟩
  . simp [Value.cells] at hcs
    obtain ⟨rfl,rfl,rfl⟩:=hcs
    have hz':zs.length=cap:=by simpa using hz
    refine ⟨fun i=>zs.getD i 0,⟨hl,by unfold maxLen at hm; exact hm,(fun e=>by cases e),fun hn=>?_⟩,fun i hi=>?_⟩
    . obtain ⟨b,off,spot⟩:=x
      have hc:=hcell 0 (by omega)
      have hspot:spot=none:=by simpa [Addr.add] using World.cell?_spot hc
      subst hspot
      refine ⟨b,off,rfl,World.block_lt_of_cell? W _ (by simpa [Addr.add] using hc),fun i hi=>?_⟩
      rw [<- add_none]; exact hcell i (by omega)
    . refine rng_of (hwz _ ?_)
      simp [List.getD,show i < zs.length by omega]
end Go.Proofs.YtkajoieoggajiaaDoor
namespace Go.Proofs.YtkajoieoggajiaaDoor
open Go Go.RowKit Go.ChangeShapes Go.Proofs.YtkajoieoggajiaaDoor.M
theorem gTab : Tryd.prog.globalNamed "math/bits.deBruijn64tab" = some 3 := by kernel_rfl
theorem gTabType:(Tryd.prog.globals[(3:Nat)]?).map (·.type)=some 127:=by kernel_rfl
theorem cellsTab:Tryd.prog.cellsOf 127=64:=by kernel_rfl
theorem cellsByte:Tryd.prog.cellsOf 5=1:=by kernel_rfl
def tabInts:List Int:=Lib.deBruijn64tab.map Int.ofNat
theorem tab_get:∀ j,j < 64->tabInts.getD j 0=((Lib.deBruijn64tab.getD j 0:Nat):Int):=by decide +kernel
theorem cellsInt:Tryd.prog.cellsOf 3=1:=by kernel_rfl
theorem cellsLayout:Tryd.prog.cellsOf 36=3:=by kernel_rfl
theorem g64 : Tryd.prog.globalNamed "plumb/bits.binary64" = some 2 := by kernel_rfl
theorem g64Type:(Tryd.prog.globals[(2:Nat)]?).map (·.type)=some 36:=by kernel_rfl
theorem g32 : Tryd.prog.globalNamed "plumb/bits.binary32" = some 0 := by kernel_rfl
theorem g32Type:(Tryd.prog.globals[(0:Nat)]?).map (·.type)=some 36:=by kernel_rfl
set_option maxRecDepth 100000 in
theorem three {W:World} {name:String} {g:Nat} {a b c:Int} {rest:List (String × DataW Unit)} (hg:Tryd.prog.globalNamed name=some g) (hty:(Tryd.prog.globals[g]?).map (·.type)=some 36)
    (h:laidMet Tryd.prog ((name,.agg [.lit (.int .i64 a),.lit (.int .i64 b),.lit (.int .i64 c)]) :: rest) W) :
    W.cell? ⟨g,0,none⟩=some (.int .i64 a)∧W.cell? ⟨g,1,none⟩=some (.int .i64 b)∧W.cell? ⟨g,2,none⟩=some (.int .i64 c):=by
  obtain ⟨ps,⟨g',t',cs,fuel,p,q,hg',ht',hvar,hd,_,_⟩,_⟩:=h
  obtain rfl:=Option.some.inj (hg.symm.trans hg')
  obtain rfl:=Option.some.inj (hty.symm.trans ht')
  obtain ⟨y0,y1,y2,n,hx,hl,h0,h1,h2⟩:=Go.Deep.trod_struct3 Tryd.underlying36 hd
  obtain ⟨k0,e0,f0,_⟩:=DataW.trod_int Tryd.underlying3 h0
  obtain ⟨k1,e1,f1,_⟩:=DataW.trod_int Tryd.underlying3 h1
  obtain ⟨k2,e2,f2,_⟩:=DataW.trod_int Tryd.underlying3 h2
  rw [f0,f1,f2] at hx
  simp only [Prod.mk.injEq,DataW.agg.injEq,List.cons.injEq,DataW.lit.injEq,Lit.int.injEq,true_and,and_true] at hx
  obtain ⟨⟨rfl,rfl,rfl⟩,_⟩:=hx
  rw [cellsLayout] at hl
  rw [cellsInt] at e0 e1 e2
  have v:=fun i=>World.var?_cell hg hvar i
  obtain ⟨l⟩:=cs
  simp only at hl e0 e1 e2
  match l,hl with
  | [c0,c1,c2],_=>
    simp at e0 e1 e2
    subst e0 e1 e2
    exact ⟨by simpa using v 0,by simpa using v 1,by simpa using v 2⟩
end Go.Proofs.YtkajoieoggajiaaDoor
namespace Go.Proofs.YtkajoieoggajiaaDoor
open Go Go.ChangeShapes Go.WideShapes Go.ChangeAt Go.RowKit Go.Proofs.YtkajoieoggajiaaDoor.M
structure Hold (w:World):Prop where
  lay:Lay64 w
  tab:Tab w
theorem Hold.keeps {w w':World} (h:Hold w) (hb:Below w.heap.size w w'):Hold w':=⟨h.lay.keeps hb,h.tab.keeps hb⟩
end Go.Proofs.YtkajoieoggajiaaDoor
namespace Go.Proofs.YtkajoieoggajiaaDoor
open Go Go.RowKit Go.Proofs.YtkajoieoggajiaaDoor.M
theorem dans_shape {w w':World} {V:Int} {v:Value} (h:DAns w w' V v):∃ ng so sn sc e,v=.agg #[.bool ng,.slice so sn sc,.int .i64 e]:=by
  obtain ⟨ng,s,m,e,h1,_,hA⟩:=h
  obtain ⟨so,sn,sc,rfl⟩:=hA.num.shape
  exact ⟨_,_,_,_,_,h1⟩
def DAn (B:Nat) (w:World) (V:Int) (v:Value):Prop:=∃ ng s m e,v=.agg #[.bool ng,s,.int .i64 e]∧Dy V ng m e∧An B w s m
def DFitA (B:Nat) (w:World) (V:Int) (v:Value) (er:Int):Prop:=(Dok V∧er=0∧DAn B w V v)∨(¬ Dok V∧er=2∧v=zeroV)
theorem DAns.dan {w w':World} {V:Int} {v:Value} (h:DAns w w' V v):DAn w.heap.size w' V v:=by
  obtain ⟨ng,s,m,e,h1,h2,h3⟩:=h
  exact ⟨ng,s,m,e,h1,h2,h3.an⟩
theorem An.wr {B:Nat} {w w':World} {v:Value} {V:Int} {g:Nat} (h:An B w v V) (hw:Wr g w w') (hg:g < B):An B w' v V:=by
  obtain ⟨t,d,h1,h2⟩:=h
  exact ⟨t,d,h1.of_block fun g' hg'=>hw.block g' (h1.ge hg').2 (by have:=(h1.ge hg').1; omega),h2⟩
theorem DAn.wr {B:Nat} {w w':World} {v:Value} {V:Int} {g:Nat} (h:DAn B w V v) (hw:Wr g w w') (hg:g < B):DAn B w' V v:=by
  obtain ⟨ng,s,m,e,h1,h2,h3⟩:=h
  exact ⟨ng,s,m,e,h1,h2,h3.wr hw hg⟩
theorem DAn.keeps {B:Nat} {w w':World} {v:Value} {V:Int} (h:DAn B w V v) (k:Below w.heap.size w w'):DAn B w' V v:=by
  obtain ⟨ng,s,m,e,h1,h2,h3⟩:=h
  exact ⟨ng,s,m,e,h1,h2,h3.keeps k⟩
theorem DAn.lower {B B':Nat} {w:World} {v:Value} {V:Int} (h:DAn B w V v) (hB:B' <= B):DAn B' w V v:=by
  obtain ⟨ng,s,m,e,h1,h2,h3⟩:=h
  exact ⟨ng,s,m,e,h1,h2,h3.lower hB⟩
theorem DAn.num {B:Nat} {w:World} {v:Value} {V:Int} (h:DAn B w V v):DNum w v V:=by
  obtain ⟨ng,s,m,e,h1,h2,h3⟩:=h
  exact ⟨ng,s,m,e,h1,h2,h3.num⟩
theorem DFitA.wr {B:Nat} {w w':World} {v:Value} {V er:Int} {g:Nat} (h:DFitA B w V v er) (hw:Wr g w w') (hg:g < B):DFitA B w' V v er:=by
  rcases h with ⟨h1,h2,h3⟩ | h
  . exact .inl ⟨h1,h2,h3.wr hw hg⟩
  . exact .inr h
theorem DFitA.keeps {B:Nat} {w w':World} {v:Value} {V er:Int} (h:DFitA B w V v er) (k:Below w.heap.size w w'):DFitA B w' V v er:=by
  rcases h with ⟨h1,h2,h3⟩ | h
  . exact .inl ⟨h1,h2,h3.keeps k⟩
  . exact .inr h
theorem DFitA.lower {B B':Nat} {w:World} {v:Value} {V er:Int} (h:DFitA B w V v er) (hB:B' <= B):DFitA B' w V v er:=by
  rcases h with ⟨h1,h2,h3⟩ | h
  . exact .inl ⟨h1,h2,h3.lower hB⟩
  . exact .inr h
theorem DFitA.shape {B:Nat} {w:World} {v:Value} {V er:Int} (h:DFitA B w V v er):∃ ng so sn sc e,v=.agg #[.bool ng,.slice so sn sc,.int .i64 e]:=by
  rcases h with ⟨_,_,ng,s,m,e,h1,_,h3⟩ | ⟨_,_,rfl⟩
  . obtain ⟨so,sn,sc,rfl⟩:=h3.shape
    exact ⟨_,_,_,_,_,h1⟩
  . exact ⟨_,_,_,_,_,rfl⟩
theorem DFitA.ge {B:Nat} {w:World} {ng:Bool} {so:Option Addr} {sn sc:Nat} {e V er:Int} (h:DFitA B w V (.agg #[.bool ng,.slice so sn sc,.int .i64 e]) er):Lies (.slice so sn sc) B w.heap.size:=by
  intro g hg
  rcases h with ⟨_,_,ng',s,m,e',h1,_,h3⟩ | ⟨_,_,h1⟩
  . simp only [Value.agg.injEq,Array.mk.injEq,List.cons.injEq,Value.bool.injEq,Value.int.injEq,and_true,true_and] at h1
    obtain ⟨_,h1,_⟩:=h1
    rw [<- h1] at h3
    exact h3.ge hg
  . simp only [zeroV,Value.agg.injEq,Array.mk.injEq,List.cons.injEq,Value.bool.injEq,Value.int.injEq,Value.slice.injEq,and_true,true_and] at h1
    obtain ⟨_,⟨rfl,_,_⟩,_⟩:=h1
    simp [Value.ownBlock] at hg
theorem DAn.parts {B:Nat} {w:World} {ng:Bool} {so:Option Addr} {sn sc:Nat} {e V:Int} (h:DAn B w V (.agg #[.bool ng,.slice so sn sc,.int .i64 e])):∃ m,Dy V ng m e∧An B w (.slice so sn sc) m:=by
  obtain ⟨ng',s,m,e',h1,h2,h3⟩:=h
  simp only [Value.agg.injEq,Array.mk.injEq,List.cons.injEq,Value.bool.injEq,Value.int.injEq,and_true,true_and] at h1
  obtain ⟨rfl,rfl,rfl⟩:=h1
  exact ⟨m,h2,h3⟩
end Go.Proofs.YtkajoieoggajiaaDoor
