/- Parts of the proof. -/
import Derived.Test.YtobofhgpidbpmaaDoorSt3
import Derived.Test.YtobofhgpidbpmaaDoorSt1
import Derived.Test.YtobofhgpidbpmaaDoorSt4
import Derived.Deep.RegionHeld3
import Derived.Test.YtobofhgpidbpmaaDoorSt2
import Derived.Deep.LoopGhost
import Derived.Deep.RegionWith
import Derived.Laws.Externs
import Derived.Laws.Cover2
set_option linter.unusedVariables false
set_option linter.unusedSimpArgs false
namespace Go.Proofs.YtobofhgpidbpmaaDoor
open Go Go.RowKit Go.Proofs.YtobofhgpidbpmaaDoor.M
set_option maxHeartbeats 1000000 in
theorem carry_low (g N:Nat) (r0:Nat->Int) (w:World) (hB0:Blk w g N r0) (hNm:N<=1000000) (hC0:∀ i,i<N->-2305843009213693952<=r0 i∧r0 i<=2305843009213693952) :
    Calls Tryd.prog 80 #[.slice (some ⟨g,0,none⟩) N N] w fun e w'=>∃ o r,e=.returned (.int .i64 o)∧Blk w' g N r∧Wr g w w'∧Dig r N∧val r N+o*P N=val r0 N:=by
  have HC:Hid (∀ i,i<N->-2305843009213693952<=r0 i∧r0 i<=2305843009213693952):=hC0
  clear hC0
  go_enter Tryd.func80,Tryd.ntmps80
  go_wp2
  go_loopw [3,7] (fun o i wr=>∃ (k:Nat) (o':Int) (r:Nat->Int),k<=N∧i=.int .i64 k∧o=.int .i64 o'∧-2305843009213693952<=o'∧o'<=2305843009213693952∧Blk wr g N r∧Hid (Dig r k)∧Hid (∀ i,k<=i->r i=r0 i)∧Hid (val r k+o'*P k=val r0 k)∧Wr g w wr) (fun _ i _=>N-(intOf i).toNat)
  case atStart=>exact ⟨0,0,r0,Nat.zero_le _,rfl,rfl,by omega,by omega,hB0,fun i hi=>by omega,fun _ _=>rfl,by show (0:Int)+0*1=0; omega,Wr.refl _ _⟩
  case round=>
    obtain ⟨k,o,r,hk,rfl,rfl,ho0,ho1,hB,HD,HZ,HV,hW⟩:=hrel
    by_cases hlt:k<N
    . have cg:=hB.cell hlt
      have fg:=hB.frozen k
      have hr:-2305843009213693952<=r k∧r k<=2305843009213693952:=by rw [HZ.out k (Nat.le_refl _)]; exact HC.out k hlt
      obtain ⟨hr0,hr1⟩:=hr
      have h30:=and_30 (o+r k)
      have hm:=mod_dig (o+r k)
      have HV2:Hid (val (upd r k ((o+r k) % 1073741824)) (k+1)+(o+r k)/1073741824*P (k+1)=val r0 (k+1)):=by
        show _=_
        rw [val_succ,upd_same,val_upd_ge _ _ (Nat.le_refl _),P_succ,carry_step,val_succ,<- HV.out,HZ.out k (Nat.le_refl _)]
      go_wp2
      go_roundw
      case rel=>exact ⟨k+1,(o+r k)/1073741824,upd r k ((o+r k) % 1073741824),by omega,by go_num,rfl,by omega,by omega,hB.store k _,fun i hi=>by
          by_cases e:i=k
          . rw [e,upd_same]; exact hm
          . rw [upd_other r _ e]; exact HD.out i (by omega),fun i hi=>by rw [upd_other r _ (by omega)]; exact HZ.out i (by omega),HV2,hW.setCell _ _⟩
      case measure=>simp [intOf]; omega
    . obtain rfl:k=N:=by omega
      go_wp2
      go_ret
      exact ⟨_,r,rfl,hB,hW,HD.out,HV.out⟩
theorem carry_sign {S R o Pn:Int} (hP:0<Pn) (h0:0<=R) (h1:R<Pn) (e:R+o*Pn=S) (hS:-Pn<S∧S<Pn):(0<=S∧o=0∧R=S)∨(S<0∧o=-1∧R=S+Pn):=by
  by_cases ho:0<=o
  . by_cases ho1:o=0
    . subst ho1; left; omega
    . have:1*Pn<=o*Pn:=Int.mul_le_mul_of_nonneg_right (by omega) (by omega)
      omega
  . by_cases ho1:o=-1
    . subst ho1; right; omega
    . have:o*Pn<=(-2)*Pn:=Int.mul_le_mul_of_nonneg_right (by omega) (by omega)
      omega
theorem val_neg (r:Nat->Int) (n:Nat):val (fun i=>-r i) n=-val r n:=by
  induction n with
  | zero=>rfl
  | succ n ih=>rw [val_succ,val_succ,ih,Int.neg_mul]; omega
set_option maxHeartbeats 1000000 in
theorem carry_any (g N:Nat) (r0:Nat->Int) (w:World) (hB0:Blk w g N r0) (hNm:N<=1000000) (hC0:∀ i,i<N->-2305843009213693952<=r0 i∧r0 i<=2305843009213693952) (hS:-P N<val r0 N∧val r0 N<P N) :
    Calls Tryd.prog 69 #[.slice (some ⟨g,0,none⟩) N N] w fun e w'=>∃ r,e=.returned (.bool (decide (val r0 N<0)))∧Blk w' g N r∧Wr g w w'∧Dig r N∧sg (decide (val r0 N<0)) (val r N)=val r0 N:=by
  have HS:Hid (-P N<val r0 N∧val r0 N<P N):=hS
  clear hS
  go_enter Tryd.func69,Tryd.ntmps69
  go_wp2_with fail
  refine (carry_low g N r0 w hB0 hNm hC0).mono ?_
  rintro e w1 ⟨o,r,rfl,hB1,hW1,hD1,hV1⟩
  rcases carry_sign (P_pos N) (val_nonneg hD1) (val_lt hD1) hV1 HS.out with ⟨hs,rfl,hR⟩ | ⟨hs,rfl,hR⟩
  . have HR:Hid (val r N=val r0 N):=hR
    have HH:Hid (0<=val r0 N):=hs
    clear hV1 hR hs hC0
    go_wp2
    go_ret
    have:decide (val r0 N<0)=false:=decide_eq_false (by have:=HH.out; omega)
    exact ⟨r,ret_bool this.symm,hB1,hW1,hD1,by rw [this]; exact HR.out⟩
  . have HR:Hid (val r N=val r0 N+P N):=hR
    have HH:Hid (val r0 N<0):=hs
    have HD:Hid (Dig r N):=hD1
    clear hV1 hR hs hC0 hD1
    go_wp2
    go_loopw [9] (fun i wr=>∃ (k:Nat) (r':Nat->Int),k<=N∧i=.int .i64 k∧Blk wr g N r'∧Hid (∀ i,i<k->r' i=-r i)∧Hid (∀ i,k<=i->r' i=r i)∧Wr g w wr) (fun i _=>N-(intOf i).toNat)
    case atStart=>exact ⟨0,r,Nat.zero_le _,rfl,hB1,fun i hi=>by omega,fun _ _=>rfl,hW1⟩
    case round=>
      obtain ⟨k,r',hk,rfl,hB,HX,HY,hW⟩:=hrel
      by_cases hlt:k<N
      . have cg:=hB.cell hlt
        have fg:=hB.frozen k
        have hr:0<=r' k∧r' k<1073741824:=by rw [HY.out k (Nat.le_refl _)]; exact HD.out k hlt
        obtain ⟨hr0,hr1⟩:=hr
        go_wp2
        go_roundw
        case rel=>exact ⟨k+1,upd r' k (-r' k),by omega,by go_num,hB.store k _,fun i hi=>by
            by_cases e:i=k
            . rw [e,upd_same,HY.out k (Nat.le_refl _)]
            . rw [upd_other r' _ e]; exact HX.out i (by omega),fun i hi=>by rw [upd_other r' _ (by omega)]; exact HY.out i (by omega),hW.setCell _ _⟩
        case measure=>simp [intOf]; omega
      . obtain rfl:k=N:=by omega
        go_wp2_with fail
        refine (carry_low g k r' _ hB hNm (fun i hi=>by rw [HX.out i hi]; have:=HD.out i hi; omega)).mono ?_
        rintro e w2 ⟨o2,r2,rfl,hB2,hW2,hD2,hV2⟩
        go_wp2
        go_ret
        have e1:val r' k=-val r k:=by rw [val_congr HX.out,val_neg]
        have hn:=HH.out
        have hR:=HR.out
        have hS:=HS.out.1
        rw [e1] at hV2
        have:decide (val r0 k<0)=true:=decide_eq_true hn
        refine ⟨r2,ret_bool this.symm,hB2,hW.trans hW2,hD2,?_⟩
        rw [this]
        show -val r2 k=val r0 k
        have a0:=val_nonneg hD2
        have a1:=val_lt hD2
        rcases carry_sign (P_pos k) a0 a1 hV2 (by omega) with ⟨c1,rfl,c3⟩ | ⟨c1,rfl,c3⟩ <;> omega
def sumV (r:Nat->NumR):Nat->Int | 0=>0 | k+1=>sumV r k+sg (r k).ng (val (r k).d (r k).n)*pw (r k).e
def DOut (w:World) (V:Int) (x:Ending) (w':World):Prop:=(Dok V∧∃ v,x=.returned v∧DAns w w' V v)∨(¬ Dok V∧x=gaveUp∧Below w.heap.size w w')
theorem settle_any {ng:Bool} {ao:Option Addr} {n cap:Nat} {d:Nat->Int} {e:Int} {w:World} (h:Row w ao n cap d) (hd:Dig d n) (hn:n<=100000) (hT:Tab w) (he:-4194304<=e) {V:Int} (hV:V=sg ng (val d n)*pw e) :
    Calls Tryd.prog 64 #[.agg #[.bool ng,.slice ao n cap,.int .i64 e]] w (DOut w V):=by
  by_cases hok:Dok V
  . refine (settle_ok h hd hn hT he hV hok).mono ?_
    rintro x w' ⟨v,rfl,hD⟩
    exact .inl ⟨hok,v,rfl,hD⟩
  . refine (settle_long h hd hn hT he hV hok).mono ?_
    rintro x w' ⟨rfl,hb⟩
    exact .inr ⟨hok,rfl,hb⟩
theorem told_any {F:Nat} {cap:Array Value} {w:World} {V:Int} (hE:∀ w,(callFunc F cap).run Tryd.prog w=.ok (.enter F cap) w) (h:∀ W,Below w.heap.size w W->Calls Tryd.prog F cap W (DOut W V)) :
    Calls Tryd.prog 56 #[.func (.func F) #[] cap] w fun r w'=>∃ v er,r=.returned (.tuple #[v,.int .i64 er])∧DFit w w' V v er:=by
  refine told_fit hE (fun hok W hW=>(h W hW).mono ?_) (fun hok W hW=>(h W hW).mono ?_)
  . rintro x w' (⟨_,v,rfl,hD⟩ | ⟨hn,_⟩)
    . exact ⟨v,rfl,hD⟩
    . exact absurd hok hn
  . rintro x w' (⟨hy,_⟩ | ⟨_,rfl,hb⟩)
    . exact absurd hy hok
    . exact ⟨rfl,hb⟩
theorem sumV_zero {r:Nat->NumR}:∀ {n:Nat},(∀ i,i<n->(r i).n=0)->sumV r n=0
  | 0,_=>rfl
  | n+1,h=>by
    show sumV r n+_=0
    rw [sumV_zero fun i hi=>h i (by omega),h n (by omega)]
    show 0+sg _ 0*_=0
    rw [sg_zero,Int.zero_mul,Int.add_zero]
theorem sum_bound {r:Nat->NumR} {k:Nat} {low high:Int} (hs:Sane (r k)) (ha:low<=(r k).e∧(r k).e+blen (val (r k).d (r k).n)<=high) :
    val (r k).d (r k).n*2^((r k).e-low).toNat<2^(high-low).toNat∧0<=val (r k).d (r k).n*2^((r k).e-low).toNat:=by
  have hv:=val_nonneg hs.1.1
  obtain ⟨a,b⟩:=ha
  have h1:=blen_lt (val (r k).d (r k).n)
  have h2:val (r k).d (r k).n*2^((r k).e-low).toNat<2^blen (val (r k).d (r k).n)*2^((r k).e-low).toNat:=Int.mul_lt_mul_of_pos_right h1 (two_pos _)
  rw [<- Int.pow_add] at h2
  have h3:(2:Int)^(blen (val (r k).d (r k).n)+((r k).e-low).toNat)<=2^(high-low).toNat:=two_le (by omega)
  exact ⟨by omega,Int.mul_nonneg hv (Int.le_of_lt (two_pos _))⟩
structure TotP (r:Nat->NumR) (low high:Int) (N k:Nat) (c:Nat->Int):Prop where
  sum:val c N*pw low=sumV r k
  bnd:∀ i,i<N->-((k:Int)*1073741823)<=c i∧c i<=k*1073741823
  lo:-((k:Int)*2^(high-low).toNat)<=val c N
  hi:val c N<=k*2^(high-low).toNat
theorem TotP.start (r:Nat->NumR) (low high:Int) (N:Nat):TotP r low high N 0 (fun _=>0):=by
  have e:val (fun _=>0) N=0:=val_zeros (Nat.zero_le _) (fun _ _ _=>rfl)
  exact ⟨by rw [e,Int.zero_mul]; rfl,fun i _=>⟨by omega,by omega⟩,by rw [e]; simp,by rw [e]; simp⟩
theorem TotP.skip {r:Nat->NumR} {low high:Int} {N k:Nat} {c:Nat->Int} (h:TotP r low high N k c) (h0:(r k).n=0):TotP r low high N (k+1) c:=by
  have e:sumV r (k+1)=sumV r k:=by
    show sumV r k+_=_
    rw [h0]
    show sumV r k+sg _ 0*_=_
    rw [sg_zero,Int.zero_mul,Int.add_zero]
  have hp:=two_pos (high-low).toNat
  have e2:((k+1:Nat):Int)*2^(high-low).toNat=k*2^(high-low).toNat+2^(high-low).toNat:=by rw [Int.natCast_add,Int.add_mul]; simp
  refine ⟨by rw [e]; exact h.sum,fun i hi=>?_,?_,?_⟩
  . have:=h.bnd i hi; omega
  . have:=h.lo; omega
  . have:=h.hi; omega
theorem sgn_sg (ng:Bool) {n:Nat} (h:0<n) (x:Int):sgn ng n*x=sg ng x∧(sgn ng n=1∨sgn ng n=-1):=by
  have:n≠0:=by omega
  cases ng <;> simp [sgn,sg,this]
theorem TotP.put {r:Nat->NumR} {low high:Int} {N k q p:Nat} {c c':Nat->Int} (h:TotP r low high N k c) (hs:Sane (r k)) (h0:0<(r k).n) (ha:low<=(r k).e∧(r k).e+blen (val (r k).d (r k).n)<=high) (hl:-4194304<=low) (hqp:(r k).e-low=30*q+p) (hp:p<30)
    (hP:Piled N c (sgn (r k).ng (r k).n) (P q*(2^p*val (r k).d (r k).n)) c'):TotP r low high N (k+1) c':=by
  obtain ⟨b1,b0⟩:=sum_bound hs ha
  obtain ⟨a1,a2⟩:=ha
  have e1:(2:Int)^((r k).e-low).toNat=P q*2^p:=by
    rw [show ((r k).e-low).toNat=30*q+p by omega,Int.pow_add,P_two]
  have e2:P q*(2^p*val (r k).d (r k).n)=val (r k).d (r k).n*2^((r k).e-low).toNat:=by rw [e1]; grind
  rw [e2] at hP
  generalize hX:val (r k).d (r k).n*2^((r k).e-low).toNat=X at *
  obtain ⟨s1,s2⟩:=sgn_sg (r k).ng h0 X
  have hsum:=hP.sum
  rw [s1] at hsum
  have hpp:=two_pos (high-low).toNat
  have e3:((k+1:Nat):Int)*2^(high-low).toNat=k*2^(high-low).toNat+2^(high-low).toNat:=by rw [Int.natCast_add,Int.add_mul]; simp
  have hsx:-X<=sg (r k).ng X∧sg (r k).ng X<=X:=by cases (r k).ng <;> simp [sg] <;> omega
  refine ⟨?_,fun i hi=>?_,?_,?_⟩
  . rw [hsum,Int.add_mul,h.sum]
    show _=sumV r k+sg (r k).ng (val (r k).d (r k).n)*pw (r k).e
    rw [pw_sub hl a1,<- hX,sg_sgn,sg_sgn]; grind
  . have h1:=h.bnd i hi
    have h2:=pile_near s2 (hP.near i) (C:=k*1073741823) h1
    omega
  . have:=h.lo; omega
  . have:=h.hi; omega
theorem len_blen {d:Nat->Int} {n:Nat} (h:Nrm d n) (h0:0<n):30*(n-1)+1<=blen (val d n):=by
  obtain ⟨m,rfl⟩:∃ m,n=m+1:=⟨n-1,by omega⟩
  rw [blen_val h]
  have hd:=h.1 m (by omega)
  have ht:d m≠0:=by
    rcases h.2 with h1 | h1
    . omega
    . rwa [Nat.add_sub_cancel] at h1
  have:=(blen_pos (show 0<d m by omega)).1
  omega
set_option maxRecDepth 100000 in
set_option maxHeartbeats 4000000 in
theorem total_any (ao:Option Addr) (n cap:Nat) (r:Nat->NumR) (w:World) (h:Nums w ao n cap r) (hs:∀ i,i<n->Sane (r i)) (hn:n<=100000) (hT:Tab w) :
    Calls Tryd.prog 58 #[.slice ao n cap] w (DOut w (sumV r n)):=by
  have hl:=h.le
  have hm:=h.max
  have HS:Hid (∀ i,i<n->Sane (r i)):=hs
  go_enter Tryd.func58,Tryd.ntmps58
  go_wp2_with fail
  refine (reach_any ao n cap r _ (h.keeps (bel_alloc _ _)) hs).mono ?_
  rintro x w1 ⟨low,high,rfl,hR,hb1⟩
  clear hs
  have q0:=(hb1.block w.heap.size (by rw [size1]; omega)).trans (heap_a1 _ _)
  have x0:=blkC q0 0 rfl
  have x1:=blkC q0 1 rfl
  have x2:=blkC q0 2 rfl
  have z0:=blkF q0 0
  have z1:=blkF q0 1
  have z2:=blkF q0 2
  have hbw1:=bel_trans (bel_alloc w _) hb1
  by_cases hz:∀ i,i<n->(r i).n=0
  . obtain ⟨rfl,rfl⟩:=hR.none hz
    go_wp2
    refine bodyPost_ret (v:=zeroV) (by simp [results,Tryd.results58,go_sem,x0,x1,x2,zeroV]) rfl ?_
    rw [sumV_zero hz]
    exact .inl ⟨dok_zero,_,rfl,DAns.zero (((hbw1.setCell (p:=⟨w.heap.size,0,none⟩) (Nat.le_refl _) _).setCell (p:=⟨w.heap.size,1,none⟩) (Nat.le_refl _) _).setCell (p:=⟨w.heap.size,2,none⟩) (Nat.le_refl _) _)⟩
  . have hsome:∃ i,i<n∧0<(r i).n:=by
      simp only [Classical.not_forall] at hz
      obtain ⟨i,hi,hp⟩:=hz
      exact ⟨i,hi,by omega⟩
    obtain ⟨l0,l1,l2,l3⟩:=hR.some hsome
    have hlh:low<=high:=by
      obtain ⟨i,hi,hp⟩:=hsome
      have:=hR.all i hi hp
      omega
    obtain ⟨N,hN⟩:∃ N:Nat,(high-low)/30+3=(N:Int):=⟨((high-low)/30+3).toNat,by omega⟩
    go_wp2_with (at_make; refine wpList_mk rfl _ _ rfl _ _ N rfl rfl (by omega) (by omega) (by omega) ?_; intro w2 hB2 hb2)
    have hlow:-4194304<=low:=by omega
    have hbw2:=bel_trans hbw1 hb2
    have hb2':=hb2
    have HN:=h.keeps hbw1
    have HA:Hid (∀ i,i<n->0<(r i).n->low<=(r i).e∧(r i).e+blen (val (r i).d (r i).n)<=high):=hR.all
    have HLH:Hid ((high-low)/30+3=(N:Int)∧low<=high):=⟨hN,hlh⟩
    have hN3:3<=N∧N<=90000:=by omega
    have gw:w1.heap.size<w2.heap.size:=hB2.lt
    clear hR hz hsome hb2 x0 x1 x2 z0 z1 z2
    go_loopw [26] (fun i wr=>∃ (k:Nat) (c:Nat->Int),k<=n∧i=.int .i64 k∧Blk wr w1.heap.size N c∧Hid (TotP r low high N k c)∧Below w1.heap.size w1 wr∧w2.heap.size<=wr.heap.size) (fun i _=>n-(intOf i).toNat)
    case atStart=>exact ⟨0,_,Nat.zero_le _,rfl,hB2,TotP.start _ _ _ _,hb2',Nat.le_refl _⟩
    case round=>
      obtain ⟨k,c,hk,rfl,hB,HT,hbw,hgw⟩:=hrel
      by_cases hlt:k<n
      . obtain ⟨b,off,rfl,hb,hc⟩:=HN.spot (by omega)
        obtain ⟨c0,c1,c2,hRow⟩:=(hc k hlt).keeps hbw hb
        have hRX:=RowX.of (hc k hlt).row (Nat.le_refl _)
        have hsk:=HS.out k hlt
        have hak:=HA.out k hlt
        have hput:=fun q p c' h0=>HT.out.put (q:=q) (p:=p) (c':=c') hsk h0 (hak h0) hlow
        have hskip:=fun h0=>HT.out.skip (k:=k) h0
        have hbnd:=HT.out.bnd
        clear hc
        generalize hr:r k=x at *
        obtain ⟨ng,xo,xn,xc,xd,xe⟩:=x
        obtain ⟨s1,s2,s3,s4⟩:=hsk
        simp only at c0 c1 c2 hRX hRow s1 s2 s3 s4 hput hskip hak
        by_cases h0:xn=0
        . subst h0
          have HZ:Hid (TotP r low high N (k+1) c):=hskip rfl
          clear hput hskip hak hbnd hN hlh hRX HN
          go_wp2
          go_roundw
          case rel=>exact ⟨k+1,c,by omega,by go_num,hB.alloc _,HZ,hbw.trans ((bel_alloc _ _).mono hbw.size),by rw [size1]; omega⟩
          case measure=>simp [intOf]; omega
        . have hlp:(0:Int)<xn:=by omega
          obtain ⟨a1,a2⟩:=hak (by omega)
          have hlb:=len_blen s1 (by omega)
          obtain ⟨q,p,hqp,hp⟩:∃ q p:Nat,xe-low=30*q+p∧p<30:=⟨((xe-low)/30).toNat,((xe-low) % 30).toNat,by omega,by omega⟩
          have hqN:q+xn+1<=N:=by omega
          have HP:Hid (∀ c',Piled N c (sgn ng xn) (P q*(2^p*val xd xn)) c'->TotP r low high N (k+1) c'):=fun c' hP=>hput q p c' (by omega) hqp hp hP
          obtain ⟨_,hsg⟩:=sgn_sg ng (show 0<xn by omega) 0
          have HSG:Hid (sgn ng xn=1∨sgn ng xn=-1):=hsg
          have HQP:Hid (xe-low=30*q+p):=hqp
          have HBD:Hid (∀ i,i<N->-((k:Int)*1073741823)<=c i∧c i<=k*1073741823):=hbnd
          have hw1:wrap64 (xe-low)=xe-low:=IntWalk.wrap64_in _ ⟨by omega,by omega⟩
          have hw2:IntKind.i64.wrap (xe-low)=xe-low:=by rw [wrap_i64_eq]; omega
          have hlen:xn<=100000:=by omega
          have q0:=heap_a1 wr (.cells #[.bool ng,.slice xo xn xc,.int .i64 xe] 35)
          have hsz:=size1 wr (.cells #[.bool ng,.slice xo xn xc,.int .i64 xe] 35)
          have hbx:Below w1.heap.size w1 (wr.alloc (.cells #[.bool ng,.slice xo xn xc,.int .i64 xe] 35)):=hbw.trans ((bel_alloc _ _).mono hbw.size)
          have hBx:=hB.alloc (.cells #[.bool ng,.slice xo xn xc,.int .i64 xe] 35)
          have hgx:wr.heap.size≠w1.heap.size:=by omega
          clear hput hskip hak hbnd hN hlh hsg hqp HN a1 a2 hlb
          go_wp2_with fail
          generalize wr.alloc (.cells #[.bool ng,.slice xo xn xc,.int .i64 xe] 35)=wx at q0 hsz hbx hBx ⊢
          have k0:=blkC q0 0 rfl
          have k1:=blkC q0 1 rfl
          have k2:=blkC q0 2 rfl
          have hb1:=bel_refl wx
          have C1:∀ W,Below wx.heap.size wx W->Calls Tryd.prog 52 #[.agg #[.bool ng,.slice xo xn xc,.int .i64 xe]] W fun y w'=>y=.returned (.int .i64 (sgn ng xn))∧Below W.heap.size W w':=fun W _=>dsign_any ng xo xn xc xe W (by omega)
          have C2:∀ W,Below wx.heap.size wx W->Calls Tryd.prog 68 #[.slice (some ⟨w1.heap.size,0,none⟩) N N,.slice xo xn xc,.int .i64 (xe-low),.int .i64 (sgn ng xn)] W fun y w'=>y=.returned (.tuple #[])∧∃ c4,Blk w' w1.heap.size N c4∧Wr w1.heap.size W w'∧Piled N c (sgn ng xn) (P q*(2^p*val xd xn)) c4:=fun W h=>
            pile_qp w1.heap.size N c xo xn xc q p xd W (hBx.keeps h) (hRX.keeps (wr_of (hbx.trans (h.mono hbx.size)))) s1.1 hlen hqN (by omega) hp _ HQP.out _ HSG.out (k*1073741823) HBD.out (by omega)
          go_region_held3 (fun W=>W.cell? ⟨wr.heap.size,0,none⟩=some (.bool ng)∧W.cell? ⟨wr.heap.size,1,none⟩=some (.slice xo xn xc)∧W.cell? ⟨wr.heap.size,2,none⟩=some (.int .i64 xe))
            (first | exact ⟨k0,k1,k2⟩ | exact keepB (by assumption) (by assumption) | exact keepW (by assumption) (by assumption) hgx)
            (first | (go_at_call 52; refine (C1 _ hb1.drew).mono ?_; rintro y w3 ⟨rfl,hbv1⟩) | (go_at_call 68; have _t:=hbv1; refine (C2 _ (bel_trans hb1.drew hbv1)).mono ?_; rintro y w4 ⟨rfl,c4,hB5,hW5,hP5⟩))
          go_wp2
          go_roundw
          case rel=>exact ⟨k+1,c4,by omega,by go_num,hB5,HP.out _ hP5,hW5.below (hbx.trans ((bel_trans hb1.drew hbv1).mono hbx.size)) (by have:=hbx.size; have:=hbv1.size; exact Nat.le_trans hbx.size hbv1.size) (Nat.le_refl _),by have:=hW5.size; have:wx.heap.size<=w3.heap.size:=hbv1.size; omega⟩
          case measure=>simp [intOf]; omega
      . obtain rfl:k=n:=by omega
        have hbig:-P N<val c N∧val c N<P N:=by
          have h1:=HT.out.lo
          have h2:=HT.out.hi
          obtain ⟨e1,e2⟩:=HLH.out
          have h3:((k:Int))*2^(high-low).toNat<2^60*2^(high-low).toNat:=Int.mul_lt_mul_of_pos_right (by omega) (two_pos _)
          rw [<- Int.pow_add] at h3
          have h4:(2:Int)^(60+(high-low).toNat)<=P N:=by rw [P_two]; exact two_le (by omega)
          omega
        go_wp2_with fail
        refine (carry_any w1.heap.size N c wr hB (by omega) (fun i hi=>by have:=HT.out.bnd i hi; omega) hbig).mono ?_
        rintro y w5 ⟨c5,rfl,hB5,hW5,hD5,hV5⟩
        have hbw5:Below w1.heap.size w1 w5:=hW5.below hbw hbw.size (Nat.le_refl _)
        have hbw6:=bel_trans hbw1 hbw5
        have hsum:sumV r k=sg (decide (val c N<0)) (val c5 N)*pw low:=by rw [hV5]; exact HT.out.sum.symm
        have HSUM:Hid (sumV r k=sg (decide (val c N<0)) (val c5 N)*pw low):=hsum
        clear hsum hbig hV5
        generalize hneg:decide (val c N<0)=neg at *
        go_wp2_with fail
        refine (settle_any (hB5.row0 (Nat.le_refl _) (by omega)) hD5 (by omega) (hT.keeps hbw6) hlow HSUM.out).mono ?_
        rintro y w7 (⟨hok,v,rfl,hD⟩ | ⟨hno,rfl,hb7⟩)
        . have hb7:=hD.below
          have hf7:=hD.from hbw6
          obtain ⟨ng',s',m',e',rfl,hy,hA⟩:=id hD
          obtain ⟨so,sn,sc,rfl⟩:=hA.num.shape
          have g0:=(hb7.block w.heap.size (Nat.lt_of_lt_of_le (Nat.lt_of_lt_of_le (by rw [size1]; omega) hb1.size) hbw5.size)).trans ((hbw5.block w.heap.size (Nat.lt_of_lt_of_le (by rw [size1]; omega) hb1.size)).trans q0)
          have x0:=blkC g0 0 rfl
          have x1:=blkC g0 1 rfl
          have x2:=blkC g0 2 rfl
          have z0:=blkF g0 0
          have z1:=blkF g0 1
          have z2:=blkF g0 2
          go_wp2
          refine bodyPost_ret (v:=.agg #[.bool ng',.slice so sn sc,.int .i64 e']) (by simp [results,Tryd.results58,go_sem,x0,x1,x2]) rfl ?_
          exact .inl ⟨hok,_,rfl,dans_res3 (g:=w.heap.size) hD hbw6 (Nat.le_refl _) (Nat.lt_of_lt_of_le (Nat.lt_of_lt_of_le (by rw [size1]; omega) hb1.size) hbw5.size) _ _ _⟩
        . exact ⟨rfl,.inr ⟨hno,rfl,bel_trans hbw6 hb7⟩⟩
def NumR.V (r:NumR):Int:=sg r.ng (val r.d r.n)*pw r.e
def pair2 (x y:NumR):Nat->NumR:=fun i=>if i=0 then x else y
theorem nums2 {w:World} {g:Nat} {x y:NumR} {t:TypeId} (h:w.heap[g]?=some (.cells #[.bool x.ng,.slice x.ao x.n x.cap,.int .i64 x.e,.bool y.ng,.slice y.ao y.n y.cap,.int .i64 y.e] t (0,0))) (hx:Row w x.ao x.n x.cap x.d) (hy:Row w y.ao y.n y.cap y.d) :
    Nums w (some ⟨g,0,none⟩) 2 2 (pair2 x y) :=
  ⟨Nat.le_refl _,by decide,fun _=>⟨g,0,rfl,(Array.getElem?_eq_some_iff.1 h).1,fun i hi=>by
    match i,hi with
    | 0,_=>exact ⟨blkC h 0 rfl,blkC h 1 rfl,blkC h 2 rfl,hx⟩
    | 1,_=>exact ⟨blkC h 3 rfl,blkC h 4 rfl,blkC h 5 rfl,hy⟩⟩⟩
theorem allOk2 (x y:NumR):allOk (pair2 x y) 2=(okR x && okR y):=by
  unfold allOk
  by_cases hx:okR x=true
  . by_cases hy:okR y=true
    . rw [hx,hy]
      exact decide_eq_true fun i hi=>by
        match i,hi with
        | 0,_=>exact hx
        | 1,_=>exact hy
    . have:okR y=false:=by simpa using hy
      rw [hx,this]
      exact decide_eq_false fun h=>hy (h 1 (by omega))
  . have:okR x=false:=by simpa using hx
    rw [this,Bool.false_and]
    exact decide_eq_false fun h=>hx (h 0 (by omega))
theorem sumV2 (x y:NumR):sumV (pair2 x y) 2=x.V+y.V:=by
  show 0+x.V+y.V=_
  rw [Int.zero_add]
theorem okR_sane {x:NumR} (h:okR x=true):Sane x:=by
  rcases of_decide_eq_true h with ⟨h1,h2,h3⟩ | ⟨h1,⟨h2,h3⟩,h4,h5,h6⟩
  . exact ⟨⟨fun i hi=>by omega,.inl h1⟩,by omega,by omega,by omega⟩
  . exact ⟨h3,by omega,by omega,by omega⟩
theorem okR_dy {x:NumR} (h:okR x=true):Dy x.V x.ng (val x.d x.n) x.e∧val x.d x.n<P 2000∧Dok x.V:=by
  have hd:Dy x.V x.ng (val x.d x.n) x.e∧val x.d x.n<P 2000∧-1048576<=x.e∧x.e<=1048576:=by
    rcases of_decide_eq_true h with ⟨h1,h2,h3⟩ | ⟨h1,⟨h2,h3⟩,h4,h5,h6⟩
    . exact ⟨⟨rfl,by omega,.inl ⟨by rw [h1]; rfl,h2,h3⟩⟩,by rw [h1]; show (0:Int)<P 2000; exact P_pos 2000,by omega,by omega⟩
    . refine ⟨⟨rfl,by omega,.inr ⟨val_pos h3 h1,?_⟩⟩,?_,h5,h6⟩
      . obtain ⟨m,hm⟩:∃ m,x.n=m+1:=⟨x.n-1,by omega⟩
        have:=val_split x.d 1 m
        rw [show 1+m=x.n by omega] at this
        rw [this]
        rw [show val x.d 1=x.d 0 by show 0+x.d 0*1=_; omega,show P 1=1073741824 from rfl]
        omega
      . exact Int.lt_of_lt_of_le (val_lt h3.1) (P_le h2)
  exact ⟨hd.1,hd.2.1,hd.1.ok.2 hd.2⟩
theorem bel_set3 {w w1:World} (h:Below w.heap.size w w1) {g:Nat} (hg:w.heap.size<=g) (a b c:Value):Below w.heap.size w (((w1.setCell ⟨g,0,none⟩ a).setCell ⟨g,1,none⟩ b).setCell ⟨g,2,none⟩ c) :=
  ((h.setCell (p:=⟨g,0,none⟩) hg a).setCell (p:=⟨g,1,none⟩) hg b).setCell (p:=⟨g,2,none⟩) hg c
theorem heap_set {w:World} {g:Nat} {xs:Array Value} {t:TypeId} (h:w.heap[g]?=some (.cells xs t (0,0))) (i:Nat) (v:Value):(w.setCell ⟨g,i,none⟩ v).heap[g]?=some (.cells (xs.setIfInBounds i v) t (0,0)):=by
  simp [World.setCell,Array.getElem?_modify,h]
theorem clone_num {w:World} {ao:Option Addr} {n cap:Nat} {A:Int} (hx:Num w (.slice ao n cap) A) (hn:n<=500000) :
    Calls Tryd.prog 82 #[.slice ao n cap] w fun e w'=>∃ v,e=.returned v∧Ans w w' A v:=by
  obtain ⟨ao',n',ca',d,e1,hR,h2,rfl⟩:=hx
  simp only [Value.slice.injEq] at e1
  obtain ⟨rfl,rfl,rfl⟩:=e1
  refine (clone_any _ _ _ _ _ hR hn).mono ?_
  rintro e w' ⟨v,rfl,h1,hb⟩
  exact ⟨v,rfl,n,d,h1,h2,rfl,hb⟩
structure Lay64 (w:World):Prop where
  a0:w.cell? ⟨1,0,none⟩=some (.int .i64 52)
  a1:w.cell? ⟨1,1,none⟩=some (.int .i64 2047)
  a2:w.cell? ⟨1,2,none⟩=some (.int .i64 (-1074))
theorem Lay64.keeps {w w':World} (h:Lay64 w) (hb:Below w.heap.size w w'):Lay64 w':=⟨cell_keeps h.a0 hb,cell_keeps h.a1 hb,cell_keeps h.a2 hb⟩
theorem bitsPartsA (b:Int) (w:World) (L:Lay64 w) :
    Calls Tryd.prog 54 #[.int .i64 b] w fun e w'=>e=.returned (.tuple #[.bool (pneg b),.int .i64 (pmag b),.int .i64 (pexp b),.bool (pok b)])∧Below w.heap.size w w':=by
  obtain ⟨a0,a1,a2⟩:=L
  by_cases h:pok b=true
  all_goals
    go_enter Tryd.func54,Tryd.ntmps54
    go_wp2_with (go_at_call 65; refine (parts64 _ _).mono ?_; rintro e w1 ⟨rfl,hg⟩)
    refine bodyPost_ret (v:=.tuple #[.bool (pneg b),.int .i64 (pmag b),.int .i64 (pexp b),.bool (pok b)]) (by simp [results,Tryd.results54,go_sem,pneg,h]) rfl ⟨rfl,hg.be⟩
theorem pmag_in {b:Int} (hp:pok b=true):0<=pmag b∧pmag b<9007199254740992∧-1074<=pexp b∧pexp b<=971:=by
  have hf:=fld_le b
  have hr:=frc_le b
  have h1:fld b≠2047:=by simpa [pok] using hp
  unfold pmag pexp
  rw [if_neg h1,if_neg h1]
  split <;> omega
theorem ofNat_any (x:Int) (w:World) (h0:0<=x) (h1:x<9223372036854775808) :
    Calls Tryd.prog 63 #[.int .i64 x] w fun e w'=>∃ v,e=.returned (.tuple #[v,.int .i64 0])∧Ans w w' x v:=by
  have HX:=digits_nat x w h0 h1
  have HX':Hid (Calls Tryd.prog 73 #[.int .i64 x] w fun e w'=>∃ v,e=.returned v∧Ans w w' x v):=HX
  clear HX h1
  go_enter Tryd.func63,Tryd.ntmps63
  go_wp2_with fail
  refine HX'.out.mono ?_
  rintro e w2 ⟨v,rfl,hA⟩
  go_wp2
  go_ret2
  exact ⟨_,rfl,hA⟩
theorem P2000_big2:9223372036854775808<P 2000:=by
  have:=P_le (show 3<=2000 by omega)
  have e:P 3=1237940039285380274899124224:=rfl
  omega
theorem dok_small {ng:Bool} {M e:Int} (h0:0<=M) (h1:M<9223372036854775808) (e0:-1074<=e) (e1:e<=971):Dok (sg ng M*pw e):=by
  by_cases hz:M=0
  . rw [hz,sg_zero,Int.zero_mul]; exact dok_zero
  . obtain ⟨l,hl⟩:=isLow_ex (show 0<M by omega)
    have hy:=Dy.of ng hl (show 0<M by omega) (show -4194304<=e by omega)
    obtain ⟨c1,c2,c3⟩:=isLow_odd hl (show 0<M by omega)
    have hp:=two_pos l
    have hl63:l<63:=by
      have h3:(1:Int)*2^l<=M/2^l*2^l:=Int.mul_le_mul_of_nonneg_right (by omega) (by omega)
      rw [c3] at h3
      refine two_lt_iff ?_
      rw [show (2:Int)^63=9223372036854775808 by decide]
      omega
    refine hy.ok.2 ⟨?_,by omega,by omega⟩
    have:M/2^l<=M:=Int.ediv_le_self _ h0
    have:=P2000_big2
    omega
set_option maxRecDepth 100000 in
set_option maxHeartbeats 1000000 in
theorem value_yes (ng:Bool) (M e:Int) (w:World) (hT:Tab w) (h0:0<=M) (h1:M<9223372036854775808) (e0:-1074<=e) (e1:e<=971) :
    Calls Tryd.prog 53 #[.bool ng,.int .i64 M,.int .i64 e,.bool true] w fun r w'=>∃ v,r=.returned (.tuple #[v,.int .i64 0])∧DAns w w' (sg ng M*pw e) v:=by
  have hok:=dok_small (ng:=ng) h0 h1 e0 e1
  go_enter Tryd.func53,Tryd.ntmps53
  go_wp2_with fail
  refine (ofNat_any M _ h0 h1).mono ?_
  rintro r w1 ⟨v,rfl,hA⟩
  obtain ⟨so,sn,sc,d,rfl,hR,hN,hv⟩:=hA.num
  have hsn:sn<=100:=hA.num.len (k:=100) (by have:=P_le (show 3<=100 by omega); have:P 3=1237940039285380274899124224:=rfl; omega)
  have hbw:=bel_trans (bel_alloc w _) hA.below
  go_wp2_with fail
  refine (settle_any (V:=sg ng M*pw e) hR hN.1 (by omega) (hT.keeps hbw) (by omega) (by rw [hv])).mono ?_
  rintro r w7 (⟨_,v,rfl,hD⟩ | ⟨hno,_⟩)
  . have hb7:=hD.below
    obtain ⟨ng',s',m',e',rfl,hyy,hA2⟩:=id hD
    obtain ⟨so',sn',sc',rfl⟩:=hA2.num.shape
    have q0:=((bel_trans hA.below hb7).block w.heap.size (by rw [size1]; omega)).trans (heap_a1 _ _)
    have x0:=blkC q0 0 rfl
    have x1:=blkC q0 1 rfl
    have x2:=blkC q0 2 rfl
    have z0:=blkF q0 0
    have z1:=blkF q0 1
    have z2:=blkF q0 2
    go_wp2
    refine bodyPost_ret (v:=.tuple #[.agg #[.bool ng',.slice so' sn' sc',.int .i64 e'],.int .i64 0]) (by simp [results,Tryd.results53,go_sem,x0,x1,x2]) rfl ⟨_,rfl,?_⟩
    exact dans_res3 (g:=w.heap.size) hD hbw (Nat.le_refl _) (Nat.lt_of_lt_of_le (by rw [size1]; omega) hA.below.size) _ _ _
  . exact absurd hok hno
set_option maxRecDepth 100000 in
theorem value_no (ng:Bool) (M e:Int) (w:World) :
    Calls Tryd.prog 53 #[.bool ng,.int .i64 M,.int .i64 e,.bool false] w fun r w'=>r=.returned (.tuple #[zeroV,.int .i64 10])∧Below w.heap.size w w':=by
  go_enter Tryd.func53,Tryd.ntmps53
  go_wp2
  refine bodyPost_ret (v:=.tuple #[zeroV,.int .i64 10]) (by simp [results,Tryd.results53,go_sem,zeroV]) rfl ⟨rfl,?_⟩
  exact bel_alloc _ _
set_option maxRecDepth 100000 in
set_option maxHeartbeats 1000000 in
theorem dof_any (b:Int) (w:World) (L:Lay64 w) (hT:Tab w) :
    Calls Tryd.prog 43 #[.int .i64 b] w fun r w'=>∃ v er,r=.returned (.tuple #[v,.int .i64 er])∧Below w.heap.size w w'∧((pok b=true∧er=0∧DAns w w' (sg (pneg b) (pmag b)*pw (pexp b)) v)∨(pok b=false∧er=10∧v=zeroV)):=by
  have hVy:pok b=true->∀ W,Below w.heap.size w W->Calls Tryd.prog 53 #[.bool (pneg b),.int .i64 (pmag b),.int .i64 (pexp b),.bool true] W fun r w'=>∃ v,r=.returned (.tuple #[v,.int .i64 0])∧DAns W w' (sg (pneg b) (pmag b)*pw (pexp b)) v:=fun hp W hb=>by
    have hi:=pmag_in hp
    exact value_yes _ _ _ W (hT.keeps hb) (by omega) (by omega) (by omega) (by omega)
  have hP:=fun W hb=>bitsPartsA b W (L.keeps hb)
  generalize sg (pneg b) (pmag b)*pw (pexp b)=V at hVy ⊢
  generalize pneg b=ng at *
  generalize pmag b=mg at *
  generalize pexp b=ex at *
  clear L hT
  cases hp:pok b
  . rw [hp] at hP hVy
    go_enter Tryd.func43,Tryd.ntmps43
    go_wp2_with fail
    refine (hP _ (bel_alloc _ _)).mono ?_
    rintro r w1 ⟨rfl,hb1⟩
    go_wp2_with fail
    refine (value_no _ _ _ _).mono ?_
    unfold zeroV
    rintro r w2 ⟨rfl,hb2⟩
    have hbw:=bel_trans (bel_alloc w (.cells #[.bool false,.slice none 0 0,.int .i64 0] 35)) (bel_trans hb1 hb2)
    have q0:=((bel_trans hb1 hb2).block w.heap.size (by rw [size1]; omega)).trans (heap_a1 _ _)
    have x0:=blkC q0 0 rfl
    have x1:=blkC q0 1 rfl
    have x2:=blkC q0 2 rfl
    have z0:=blkF q0 0
    have z1:=blkF q0 1
    have z2:=blkF q0 2
    go_wp2
    refine bodyPost_ret (v:=.tuple #[zeroV,.int .i64 10]) (by simp [results,Tryd.results43,go_sem,x0,x1,x2,zeroV]) rfl ⟨_,_,rfl,?_,.inr ⟨by trivial,rfl,rfl⟩⟩
    exact bel_set3 hbw (Nat.le_refl _) _ _ _
  . rw [hp] at hP hVy
    go_enter Tryd.func43,Tryd.ntmps43
    go_wp2_with fail
    refine (hP _ (bel_alloc _ _)).mono ?_
    rintro r w1 ⟨rfl,hb1⟩
    have hbw:=bel_trans (bel_alloc w (.cells #[.bool false,.slice none 0 0,.int .i64 0] 35)) hb1
    go_wp2_with fail
    refine (hVy (by trivial) _ hbw).mono ?_
    rintro r w2 ⟨v,rfl,hD⟩
    obtain ⟨ng',s',m',e',rfl,hyy,hA2⟩:=id hD
    obtain ⟨so',sn',sc',rfl⟩:=hA2.num.shape
    have q0:=((bel_trans hb1 hD.below).block w.heap.size (by rw [size1]; omega)).trans (heap_a1 _ _)
    have x0:=blkC q0 0 rfl
    have x1:=blkC q0 1 rfl
    have x2:=blkC q0 2 rfl
    have z0:=blkF q0 0
    have z1:=blkF q0 1
    have z2:=blkF q0 2
    go_wp2
    refine bodyPost_ret (v:=.tuple #[.agg #[.bool ng',.slice so' sn' sc',.int .i64 e'],.int .i64 0]) (by simp [results,Tryd.results43,go_sem,x0,x1,x2]) rfl ⟨_,_,rfl,?_,.inl ⟨by trivial,rfl,?_⟩⟩
    . exact bel_set3 (bel_trans hbw hD.below) (Nat.le_refl _) _ _ _
    . exact dans_res3 (g:=w.heap.size) hD hbw (Nat.le_refl _) (Nat.lt_of_lt_of_le (by rw [size1]; omega) hb1.size) _ _ _
def bRung (way:Int) (ng:Bool):Int:=if rUp way ng true 3 then 9218868437227405312 else 9218868437227405311
def patS (ng:Bool) (r:Int):Int:=if ng then r-9223372036854775808 else r
theorem Env.keeps {w w':World} (h:Env w) (hb:Below w.heap.size w w'):Env w' :=
  ⟨⟨cell_keeps h.lays.a0 hb,cell_keeps h.lays.a1 hb,cell_keeps h.lays.a2 hb,trivial,trivial,trivial⟩,fun j hj=>cell_keeps (h.tab j hj) hb⟩
def r64 (way:Int) (ng sd:Bool) (mag:Nat) (exp:Int) (cut:Bool):Int × Bool :=
  let E:=rE 53 (-1074) mag exp
  let u:=rU mag (E-exp)
  let left:=rL mag cut (E-exp)
  let U:=u+(if rUp way ng (decide (u % 2=1)) left then 1 else 0)
  let neg:=ng && (decide (0<U) || sd)
  if jk 52 2047 (-1074) U E then (jp neg U E,decide (left≠0)) else (patS neg (bRung way neg),true)
theorem Num.parts {w:World} {v:Value} {V:Int} (h:Num w v V) {k:Nat} (hV:V<P k):∃ ao n cap d,v=.slice ao n cap∧Row w ao n cap d∧Nrm d n∧val d n=V∧n<=k:=by
  obtain ⟨ao,n,cap,rfl⟩:=h.shape
  have hl:=h.len hV
  obtain ⟨ao',n',cap',d,e,hR,h2,h3⟩:=h
  simp only [Value.slice.injEq] at e
  obtain ⟨rfl,rfl,rfl⟩:=e
  exact ⟨ao,n,cap,d,rfl,hR,h2,h3,hl⟩
def vK (M:Int):Nat:=blen M-62
theorem vK_small {M:Int} (h:0<=M):0<=M/2^vK M∧M/2^vK M<4611686018427387904:=by
  have hp:=two_pos (vK M)
  refine ⟨Int.ediv_nonneg h (by omega),?_⟩
  have h1:=blen_lt M
  have h2:(2:Int)^blen M<=2^(62+vK M):=two_le (by unfold vK; omega)
  have e:(2:Int)^(62+vK M)=4611686018427387904*2^vK M:=by rw [Int.pow_add]; rfl
  exact Int.ediv_lt_of_lt_mul hp (by omega)
def scV (A k:Int):Int:=if 0<=k then A*2^k.toNat else A/2^(-k).toNat
def scC (A k:Int):Bool:=if 0<=k then false else decide (A % 2^(-k).toNat≠0)
def qK (A B:Int):Int:=62+(blen B:Int)-(blen A:Int)
def qR64 (way:Int) (a b:NumR):Int × Bool:=r64 way (a.ng != b.ng) false (scV (val a.d a.n) (qK (val a.d a.n) (val b.d b.n))/val b.d b.n).toNat (a.e-b.e-qK (val a.d a.n) (val b.d b.n)) (scC (val a.d a.n) (qK (val a.d a.n) (val b.d b.n)) || decide (scV (val a.d a.n) (qK (val a.d a.n) (val b.d b.n)) % val b.d b.n≠0))
theorem run_from64 (n:Int) (w:World):(callFunc 40 #[.int .u64 n]).run Tryd.prog w=.ok (.value (.float .f64 n.toNat)) w:=by
  rw [run_callFunc_extern Tryd.func40 (by kernel_rfl) (by kernel_rfl) (by kernel_rfl) (e:=Extern.MathFloatBits.float64frombits) (by kernel_rfl)]
  rfl
theorem ret_float {k:FloatKind} {a b:Nat} (h:a=b):Ending.returned (.float k a)=.returned (.float k b):=by rw [h]
theorem bitsFloat (b:Int) (w:World) :
    Calls Tryd.prog 39 #[.int .i64 b] w fun e w'=>e=.returned (.float .f64 (wd b))∧w'=w:=by
  have hd:=run_from64
  go_enter Tryd.func39,Tryd.ntmps39
  go_wp2
  go_ret
  exact ⟨ret_float (by rw [IntKind.wrap_u64]; rfl),rfl⟩
theorem hideIt {p:Prop} (h:p):Hid p:=h
def told (b:Int):Int:=if cls b=4 then 9221120237041090561 else b
theorem no64 {b:Int} (hb:rng b):(FloatKind.f64.format.order (wd b) (wd b) != some .eq)=decide (cls b=4):=by
  have:=same_order hb hb
  unfold bne
  rw [this]; unfold same
  by_cases h:cls b=4 <;> simp [h]
theorem run_bits64 (n:Nat) (w:World):(callFunc 41 #[.float .f64 n]).run Tryd.prog w=.ok (.value (.int .u64 n)) w:=by
  rw [run_callFunc_extern Tryd.func41 (by kernel_rfl) (by kernel_rfl) (by kernel_rfl) (e:=Extern.MathFloatBits.float64bits) (by kernel_rfl)]
  rfl
def litR (g:Nat) (x:Int):NumR:=⟨false,some ⟨g,0,none⟩,1,1,fun _=>x,0⟩
theorem third (g k:Nat):qR64 0 (litR g 1) (litR k 3)=(4599676419421066581,true):=by
  have e:qR64 0 (litR g 1) (litR k 3)=qR64 0 (litR 0 1) (litR 0 3):=rfl
  rw [e]
  decide +kernel
def NumR.neg (r:NumR):NumR:=⟨!r.ng,r.ao,r.n,r.cap,r.d,r.e⟩
theorem NumR.neg_V (r:NumR):r.neg.V=-r.V:=by
  show sg (!r.ng) _*_=_
  rw [sg_not,Int.neg_mul]; rfl
theorem NumR.neg_sane {r:NumR} (h:Sane r):Sane r.neg:=h
set_option maxRecDepth 100000 in
set_option maxHeartbeats 1000000 in
theorem sub1_any (x y:NumR) (g h:Nat) (w:World) (cg:w.heap[g]?=some (.cells #[.bool x.ng,.slice x.ao x.n x.cap,.int .i64 x.e] 35 (0,0))) (ch:w.heap[h]?=some (.cells #[.bool y.ng,.slice y.ao y.n y.cap,.int .i64 y.e] 35 (0,0)))
    (hx:Row w x.ao x.n x.cap x.d) (hy:Row w y.ao y.n y.cap y.d) (sx:Sane x) (sy:Sane y) (hT:Tab w) :
    Calls Tryd.prog 57 #[.pointer (some ⟨g,0,none⟩),.pointer (some ⟨h,0,none⟩)] w (DOut w (x.V+y.V)):=by
  obtain ⟨an,ao,n,ca,a,e⟩:=x
  obtain ⟨bn,bo,m,cb,b,f⟩:=y
  simp only at cg ch hx hy
  have hb:=bel_alloc w (.cells #[.bool false,.slice none 0 0,.int .i64 0] 35)
  have g0:=heap_past (.cells #[.bool false,.slice none 0 0,.int .i64 0] 35) cg
  have g1:=heap_past (.cells #[.bool false,.slice none 0 0,.int .i64 0] 35) ch
  have k0:=blkC g0 0 rfl
  have k1:=blkC g0 1 rfl
  have k2:=blkC g0 2 rfl
  have j0:=blkC g1 0 rfl
  have j1:=blkC g1 1 rfl
  have j2:=blkC g1 2 rfl
  have hN:=fun q=>nums2 (w:=(w.alloc (.cells #[.bool false,.slice none 0 0,.int .i64 0] 35)).alloc (.cells #[.bool an,.slice ao n ca,.int .i64 e,.bool bn,.slice bo m cb,.int .i64 f] 35)) (g:=w.heap.size+1) (x:=⟨an,ao,n,ca,a,e⟩) (y:=⟨bn,bo,m,cb,b,f⟩) (t:=35) q (hx.keeps (bel_alloc2 _ _ _)) (hy.keeps (bel_alloc2 _ _ _))
  go_enter Tryd.func57,Tryd.ntmps57
  go_wp2_with fail
  refine (total_any _ _ _ _ _ (hN (heap_b2 _ _ _)) (fun i hi=>?_) (by omega) (hT.keeps (bel_alloc2 _ _ _))).mono ?_
  . match i,hi with
    | 0,_=>exact sx
    | 1,_=>exact sy
  rw [sumV2]
  rintro r w7 (⟨hok,v,rfl,hD⟩ | ⟨hno,rfl,hb7⟩)
  . have hb7:=hD.below
    obtain ⟨ng',s',m',e',rfl,hyy,hA⟩:=id hD
    obtain ⟨so,sn,sc,rfl⟩:=hA.num.shape
    have q0:=(hb7.block w.heap.size (by rw [size2]; omega)).trans (heap_a2 _ _ _)
    have x0:=blkC q0 0 rfl
    have x1:=blkC q0 1 rfl
    have x2:=blkC q0 2 rfl
    have z0:=blkF q0 0
    have z1:=blkF q0 1
    have z2:=blkF q0 2
    go_wp2
    refine bodyPost_ret (v:=.agg #[.bool ng',.slice so sn sc,.int .i64 e']) (by simp [results,Tryd.results57,go_sem,x0,x1,x2]) rfl ?_
    exact .inl ⟨hok,_,rfl,dans_res3 (g:=w.heap.size) hD (bel_alloc2 _ _ _) (Nat.le_refl _) (by rw [size2]; omega) _ _ _⟩
  . exact ⟨rfl,.inr ⟨hno,rfl,bel_trans (bel_alloc2 _ _ _) hb7⟩⟩
set_option maxRecDepth 100000 in
set_option maxHeartbeats 1000000 in
theorem dsub_ok (x y:NumR) (w:World) (hx:Row w x.ao x.n x.cap x.d) (hy:Row w y.ao y.n y.cap y.d) (ox:okR x=true) (oy:okR y=true) (hT:Tab w) :
    Calls Tryd.prog 44 #[x.v,y.v] w fun r w'=>∃ v er,r=.returned (.tuple #[v,.int .i64 er])∧DFit w w' (x.V-y.V) v er:=by
  have hmf:∀ (fn:Fn) (first cap:Array Value) (w:World),(Instr.makeFunc fn first cap).run Tryd.prog w=.ok (.func fn first cap) w:=fun _ _ _ _=>rfl
  have hE:∀ (cap:Array Value) (w:World),(callFunc 57 cap).run Tryd.prog w=.ok (.enter 57 cap) w:=by
    intro cap w
    simp [go_sem]
  have hA:=allOk2 x y
  rw [ox,oy] at hA
  have hN:=fun W q hb=>nums2 (w:=W) (g:=w.heap.size+3) (x:=x) (y:=y) (t:=35) q (hx.keeps hb) (hy.keeps hb)
  have hC:=fun W hb cg ch=>sub1_any x y.neg w.heap.size (w.heap.size+1) W cg ch (hx.keeps hb) (hy.keeps hb) (okR_sane ox) (NumR.neg_sane (okR_sane oy)) (hT.keeps hb)
  generalize pair2 x y=pr at hA hN
  rw [show x.V-y.V=x.V+y.neg.V by rw [NumR.neg_V]; omega]
  generalize x.V+y.neg.V=V at hC ⊢
  clear ox oy
  obtain ⟨an,ao,n,ca,a,e⟩:=x
  obtain ⟨bn,bo,m,cb,b,f⟩:=y
  unfold NumR.v
  unfold NumR.neg at hC
  simp only at hx hy hN hC ⊢
  go_enter Tryd.func44,Tryd.ntmps44
  go_wp2_with fail
  refine (dvalids_any _ _ _ _ _ (hN _ (h4_3 _ _ _ _ _) (bel_a4 _ _ _ _ _))).mono ?_
  rw [hA]
  rintro r w1 ⟨rfl,hb1⟩
  have hbw:=bel_trans (bel_a4 w _ _ _ _) hb1
  have g0:=(hb1.block w.heap.size (by rw [size4]; omega)).trans (h4_0 _ _ _ _ _)
  have g1:=(hb1.block (w.heap.size+1) (by rw [size4]; omega)).trans (h4_1 _ _ _ _ _)
  have g2:=(hb1.block (w.heap.size+2) (by rw [size4]; omega)).trans (h4_2 _ _ _ _ _)
  have hs4:w.heap.size+4<=w1.heap.size:=by have:=hb1.size; rw [size4] at this; exact this
  have y0:=blkC g1 0 rfl
  have y1:=blkF g1 0
  go_wp2_with fail
  have hbw':Below w.heap.size w (w1.setCell ⟨w.heap.size+1,0,none⟩ (.bool (!bn))):=hbw.setCell (p:=⟨w.heap.size+1,0,none⟩) (Nat.le_succ _) _
  have u0:=(Below.heap_setCell w1 ⟨w.heap.size+1,0,none⟩ (.bool (!bn)) w.heap.size (by show w.heap.size≠w.heap.size+1; omega)).trans g0
  have u2:=(Below.heap_setCell w1 ⟨w.heap.size+1,0,none⟩ (.bool (!bn)) (w.heap.size+2) (by show w.heap.size+2≠w.heap.size+1; omega)).trans g2
  have u1:=heap_set g1 0 (.bool (!bn))
  have us:(w1.setCell ⟨w.heap.size+1,0,none⟩ (.bool (!bn))).heap.size=w1.heap.size:=by simp [World.setCell]
  generalize w1.setCell ⟨w.heap.size+1,0,none⟩ (.bool (!bn))=w9 at hbw' u0 u1 u2 us ⊢
  clear hbw g0 g1 g2 hb1 y0 y1
  have hbw:=hbw'
  have g0:=u0
  have g1:w9.heap[w.heap.size+1]?=some (.cells #[.bool (!bn),.slice bo m cb,.int .i64 f] 35 (0,0)):=u1
  have g2:=u2
  refine (told_any (V:=V) (hE _) (fun W hW=>hC W (bel_trans hbw hW) ((hW.block _ (by omega)).trans g0) ((hW.block _ (by omega)).trans g1))).mono ?_
  rintro r w2 ⟨v,er,rfl,hF⟩
  obtain ⟨ng',so,sn,sc,e',rfl⟩:=hF.shape
  have q0:=(hF.1.block (w.heap.size+2) (by omega)).trans g2
  have x0:=blkC q0 0 rfl
  have x1:=blkC q0 1 rfl
  have x2:=blkC q0 2 rfl
  have z0:=blkF q0 0
  have z1:=blkF q0 1
  have z2:=blkF q0 2
  go_wp2
  refine bodyPost_ret (v:=.tuple #[.agg #[.bool ng',.slice so sn sc,.int .i64 e'],.int .i64 er]) (by simp [results,Tryd.results44,go_sem,x0,x1,x2]) rfl ⟨_,_,rfl,?_⟩
  exact dfit_res (g:=w.heap.size+2) hF hbw (by omega) (by omega) _ _ _
end Go.Proofs.YtobofhgpidbpmaaDoor
