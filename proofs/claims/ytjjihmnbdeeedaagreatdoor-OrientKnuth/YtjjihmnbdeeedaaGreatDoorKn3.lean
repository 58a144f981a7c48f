/- Parts of the proof. -/
import Derived.Test.YtjjihmnbdeeedaaGreatDoorKn2
import Derived.Deep.OwnRows
import Derived.Deep.RegionWith
import Derived.Deep.CutRange
import Derived.Laws.CopyOwn
import Derived.WalkMore
import Derived.ScopeJumps
import Derived.Lib.BitFns
import Derived.Lib.TrailingZeros
import Derived.Laws.Bits64b
import Derived.Test.YtjjihmnbdeeedaaGreatDoorKn1
import Derived.WalkLawsBesides
import Derived.Deep.RegionHeld3
import Derived.Deep.LoopGhost
set_option maxRecDepth 100000
set_option maxHeartbeats 40000000
set_option linter.unusedVariables false
set_option linter.unusedSimpArgs false
namespace Go.Proofs.YtjjihmnbdeeedaaGreatDoor
open Go Go.RowKit Go.Proofs.YtjjihmnbdeeedaaGreatDoor.M
theorem Row.drew {w:World} {ao:Option Addr} {n cap:Nat} {d:Nat->Int} (h:Row w ao n cap d):Row w.drew ao n cap d:=⟨h.le,h.max,h.nl,h.spot⟩
theorem dig_zero {f:Nat->Int} {N M:Nat} (h:Dig f N) (hM:M<=N) (hv:val f N<P M):∀ i,M<=i->i<N->f i=0:=by
 have e:=val_split f M (N-M)
 rw [show M+(N-M)=N by omega] at e
 have a:=val_nonneg (h.le hM)
 have dh:Dig (fun i=>f (M+i)) (N-M):=fun i hi=>h (M+i) (by omega)
 have b:=val_nonneg dh
 have pm:=P_pos M
 have z:val (fun i=>f (M+i)) (N-M)=0:=by
  rcases Int.lt_or_eq_of_le b with q | q
  ·have:P M*1<=P M*val (fun i=>f (M+i)) (N-M):=mul_le_l (by omega) (by omega)
   omega
  ·exact q.symm
 have z2:val (fun _:Nat=>(0:Int)) (N-M)=0:=val_zeros (Nat.zero_le _) (fun _ _ _=>rfl)
 intro i hi hiN
 have:=val_inj dh (zero_dig (N-M)) (z.trans z2.symm) (i-M) (by omega)
 rwa [show M+(i-M)=i by omega] at this
theorem val_mid {r:Nat->Int} {at_ M N:Nat} (h:at_+M<=N) (hz:∀ i,at_+M<=i->i<N->r i=0):val r N=val r at_+P at_*val (fun i=>r (at_+i)) M:=by
 rw [val_zeros h hz,val_split]
theorem div_round {r:Nat->Int} {at_ m N:Nat} {V:Int} (hd:Dig r N) (h:at_+(m+1)<=N) (hV:V<P m) (hlt:val r N<V*P (at_+1)) :
  (∀ i,at_+(m+1)<=i->i<N->r i=0)∧val r N=val r at_+P at_*val (fun i=>r (at_+i)) (m+1)∧val (fun i=>r (at_+i)) (m+1)<1073741824*V:=by
 have pa:=P_pos at_
 have h1:V*P (at_+1)<=P m*P (at_+1):=mul_le_r (by omega) (Int.le_of_lt (P_pos _))
 rw [<- P_add,show m+(at_+1)=at_+(m+1) by omega] at h1
 have hz:=dig_zero hd h (by omega)
 have e:=val_mid h hz
 refine ⟨hz,e,?_⟩
 have lo:=val_nonneg (hd.le (show at_<=N by omega))
 rcases Int.lt_or_le (val (fun i=>r (at_+i)) (m+1)) (1073741824*V) with q | q
 ·exact q
 ·have:P at_*(1073741824*V)<=P at_*val (fun i=>r (at_+i)) (m+1):=mul_le_l q (by omega)
  rw [P_succ] at hlt
  have e2:V*(P at_*1073741824)=P at_*(1073741824*V):=by grind
  omega
def DivR (w0:World) (g gq n t K:Nat) (v:Nat->Int) (byo:Option Addr) (bcap:Nat) (AA V:Int) (k:Nat) (wr:World):Prop :=
 ∃ r qf,Blk wr g (n+1) r∧Dig r (n+1)∧Blk wr gq K qf∧Dig qf K∧(∀ i,i<K-k->qf i=0)∧AA=val qf K*V+val r (n+1)∧val r (n+1)<V*P (K-k)∧RowX g wr byo t bcap v∧Below w0.heap.size w0 wr
theorem DivR.step {w0:World} {g gq n t K:Nat} {v r qf:Nat->Int} {byo:Option Addr} {bcap:Nat} {AA V q:Int} {k at_:Nat} {wr w7:World} (hK:K=at_+1+k) (hK1:K+t<=n+1)
    (hBr:Blk wr g (n+1) r) (hDr:Dig r (n+1)) (hBq:Blk wr gq K qf) (hDq:Dig qf K) (hzq:∀ i,i<K-k->qf i=0) (hA:AA=val qf K*V+val r (n+1)) (hlt:val r (n+1)<V*P (K-k)) (hX:RowX g wr byo t bcap v) (hbw:Below w0.heap.size w0 wr)
    (hVt:V<P t) (hne:gq≠g) (hg:w0.heap.size<=g) (hgq:w0.heap.size<=gq) (hne2:0<t->∀ b off,byo=some ⟨b,off,none⟩->b≠gq) (hT:Tk g (n+1) at_ t r wr w7 (val (fun i=>r (at_+i)) (t+1)) V q) :
    DivR w0 g gq n t K v byo bcap AA V (k+1) (w7.setCell ⟨gq,at_,none⟩ (.int .i64 q)):=by
  obtain ⟨r',hB7,hS7,hD7,hU7,hlt7,hq0,hq1,hw7⟩:=hT
  obtain ⟨hz,e,_⟩:=div_round (at_:=at_) (m:=t) hDr (by omega) hVt (by rwa [show at_+1=K-k by omega])
  have hBq7:Blk w7 gq K qf:=hBq.of_block (hw7.block gq hBq.lt hne)
  have hz':∀ i,at_+(t+1)<=i->i<n+1->r' i=0:=fun i a b=>by rw [hS7 i (by omega)]; exact hz i a b
  have e':=val_mid (r:=r') (show at_+(t+1)<=n+1 by omega) hz'
  have elo:val r' at_=val r at_:=val_congr fun i hi=>hS7 i (by omega)
  have hD':Dig r' (n+1):=fun i hi=>by
    by_cases c:i<at_∨at_+t<i
    · rw [hS7 i c]; exact hDr i hi
    · have:=hD7 (i-at_) (by omega)
      simp only [show at_+(i-at_)=i by omega] at this
      exact this
  have lo0:=val_lt (hDr.le (show at_<=n+1 by omega))
  refine ⟨r',upd qf at_ q,hB7.apart (by simpa using hne.symm) _,hD',hBq7.store at_ q,hDq.upd _ ⟨hq0,hq1⟩,fun i hi=>?_,?_,?_,?_,?_⟩
  · rw [upd_other qf _ (by omega)]; exact hzq i (by omega)
  · rw [hA,val_upd qf q (show at_<K by omega),hzq at_ (by omega),e,e',elo,hU7]; grind
  · rw [show K-(k+1)=at_ by omega,e',elo]
    have h1:(val (fun i=>r' (at_+i)) (t+1)+1)*P at_<=V*P at_:=mul_le_r (by omega) (Int.le_of_lt (P_pos _))
    rw [Int.add_mul] at h1
    have h2:P at_*val (fun i=>r' (at_+i)) (t+1)=val (fun i=>r' (at_+i)) (t+1)*P at_:=Int.mul_comm _ _
    omega
  · have hx:=hX.keeps hw7
    refine ⟨hx.le,hx.max,fun hn=>?_⟩
    obtain ⟨b,off,eb,hlt,hbg,hc⟩:=hx.spot hn
    exact ⟨b,off,eb,by simpa using hlt,hbg,fun i hi=>by
      have:=World.cell?_of_block (w:=w7) (a:=⟨b,off+i,none⟩) (heap_setCell_other w7 ⟨gq,at_,none⟩ b (.int .i64 q) (hne2 hn b off eb))
      rw [this]; exact hc i hi⟩
  · exact (hw7.below hbw (by exact hbw.size) hg).setCell hgq _
theorem DivR.done {w0:World} {g gq n t K:Nat} {v:Nat->Int} {byo:Option Addr} {bcap:Nat} {AA V:Int} {wr:World} (h:DivR w0 g gq n t K v byo bcap AA V K wr) :
  ∃ r qf,Blk wr g (n+1) r∧Dig r (n+1)∧Blk wr gq K qf∧Dig qf K∧AA=val qf K*V+val r (n+1)∧val r (n+1)<V∧Below w0.heap.size w0 wr:=by
 obtain ⟨r,qf,h1,h2,h3,h4,_,h5,h6,_,h7⟩:=h
 rw [Nat.sub_self] at h6
 have e:V*P 0=V:=by show V*1=V; omega
 exact ⟨r,qf,h1,h2,h3,h4,h5,by omega,h7⟩
theorem Out.cutV {B:Nat} {w:World} {ao:Option Addr} {n cap t:Nat} {d:Nat->Int} (h:Out B w (.slice ao n cap) n d) (ht:t<=n):Out B w (cutV ao t cap) t d:=by
 unfold Go.Proofs.YtjjihmnbdeeedaaGreatDoor.cutV
 split
 ·rename_i e; subst e; exact Out.nil _ _ _
 ·exact h.cut ht
def Tab (w:World):Prop:=∀ j,j<64->w.cell? ⟨3,j,none⟩=some (.int .u8 ((Lib.deBruijn64tab.getD j 0:Nat):Int))
theorem Tab.keeps {w w':World} (h:Tab w) (hb:Below w.heap.size w w'):Tab w':=fun j hj=>
 (hb.cell (p:=⟨3,j,none⟩) (World.block_lt_of_cell? w _ (h j hj))).trans (h j hj)
theorem tz_key (x a:Nat) (hx:x<18446744073709551616) (hx0:x≠0) (hlow:x &&& (18446744073709551616-x)=a) :
  IntKind.u64.wrap (bits .and .u64 (x:Int) (IntKind.u64.wrap (-(x:Int)))*285870213051353865)/288230376151711744=((a*285870213051353865 % 18446744073709551616/288230376151711744:Nat):Int):=by
 have e1:IntKind.u64.wrap (-(x:Int))=((18446744073709551616-x:Nat):Int):=by rw [IntKind.wrap_u64]; omega
 rw [e1,bits_and_u64_nat x _ hx (by omega),hlow,IntKind.wrap_u64]
 omega
theorem tz_core (x k idx:Nat) (w:World) (hx0:((x:Int) == 0)=false)
  (key:IntKind.u64.wrap (bits .and .u64 (x:Int) (IntKind.u64.wrap (-(x:Int)))*285870213051353865)/288230376151711744=(idx:Int))
  (hi:idx<64) (hk:k<64) (hcell:w.cell? ⟨3,idx,none⟩=some (.int .u8 k)) :
  Calls Tryz.prog 286 #[.int .u64 x] w fun e w'=>e=.returned (.int .i64 k)∧w'=w:=by
 go_enter Tryz.func286,Tryz.ntmps286
 go_wp2_with (simp only [key])
 go_ret
 exact ⟨rfl,rfl⟩
theorem trailing64 (x:Nat) (hx:x<18446744073709551616) (h0:x≠0) (w:World) (hT:Tab w) :
  Calls Tryz.prog 286 #[.int .u64 x] w fun e w'=>e=.returned (.int .i64 (Lib.ctz 64 x))∧w'=w:=by
 obtain ⟨hlow,hk⟩:=Lib.lowest_bit 64 x h0 hx
 obtain ⟨hi,htab⟩:=Lib.deBruijn64_at _ hk
 have hcell:=hT _ hi
 rw [htab] at hcell
 exact tz_core x _ _ w (by simp; omega) (tz_key x _ hx h0 hlow) hi hk hcell
theorem trailing64I (x:Int) (hx0:0<x) (hx:x<1073741824) (w:World) (hT:Tab w) :
  Calls Tryz.prog 286 #[.int .u64 x] w fun e w'=>∃ l:Nat,e=.returned (.int .i64 l)∧(l<64∧IsLow x l)∧w'=w:=by
 obtain ⟨n,rfl⟩:=Int.eq_ofNat_of_zero_le (Int.le_of_lt hx0)
 obtain ⟨m,hm,hk⟩:=Lib.ctzFrom_spec 64 n (by omega) (by omega)
 have e:Lib.ctz 64 n=Lib.ctzFrom 64 n:=by simp [Lib.ctz]; omega
 rw [<- e] at hm hk
 refine (trailing64 n (by omega) (by omega) _ hT).mono ?_
 rintro e w' ⟨rfl,rfl⟩
 refine ⟨_,rfl,⟨hk,m,?_⟩,rfl⟩
 have:((n:Nat):Int)=((2^Lib.ctz 64 n*(2*m+1):Nat):Int):=congrArg _ hm
 rw [this,Int.natCast_mul,Int.mul_comm]; simp
theorem trailing (x:Int) (hx0:0<x) (hx:x<1073741824) (w:World) (hT:Tab w) :
  Calls Tryz.prog 244 #[.int .u64 x] w fun e w'=>∃ l:Nat,e=.returned (.int .i64 l)∧(l<64∧IsLow x l)∧w'=w:=by
 go_enter Tryz.func244,Tryz.ntmps244
 go_wp2_with fail
 refine (trailing64I x hx0 hx _ hT).mono ?_
 rintro e w' ⟨l,rfl,hl,rfl⟩
 go_wp2
 go_ret
 exact ⟨_,rfl,hl,rfl⟩
theorem low_unique {V:Int} {l k:Nat} (h:IsLow V l) (h':IsLow V k):l=k:=by
 have key:∀ (l k:Nat) (V:Int),IsLow V l->IsLow V k->¬ l<k:=fun l k V ⟨m,hm⟩ ⟨m',hm'⟩ hlt=>by
  obtain ⟨d,rfl⟩:∃ d,k=l+1+d:=⟨k-l-1,by omega⟩
  rw [hm,Int.pow_add,Int.pow_add] at hm'
  have e:(2*m+1)*2^l=((2*m'+1)*(2^d*2))*2^l:=by rw [hm']; grind
  have e2:=Int.eq_of_mul_eq_mul_right (Int.ne_of_gt (two_pos l)) e
  have e3:(2*m'+1)*(2^d*2)=2*((2*m'+1)*2^d):=by grind
  rw [e3] at e2
  generalize (2*m'+1)*2^d=Z at e2
  omega
 rcases Nat.lt_trichotomy l k with q | q | q
 ·exact absurd q (key l k V h h')
 ·exact q
 ·exact absurd q (key k l V h' h)
theorem isLow_val {d:Nat->Int} {n i l:Nat} (hi:i<n) (hz:∀ j,j<i->d j=0) (h:IsLow (d i) l) (hl:l<30):IsLow (val d n) (30*i+l):=by
 obtain ⟨m,hm⟩:=h
 have e1:val d n=P i*val (fun j=>d (i+j)) (n-i):=by
  have:=val_shift0 d i (n-i) hz
  rwa [show i+(n-i)=n by omega] at this
 obtain ⟨r,hr⟩:∃ r,n-i=r+1:=⟨n-i-1,by omega⟩
 have e2:val (fun j=>d (i+j)) (n-i)=d i+1073741824*val (fun j=>d (i+(j+1))) r:=by
  rw [hr]
  have h:=val_split (fun j=>d (i+j)) 1 r
  rw [Nat.add_comm 1 r] at h
  rw [h]
  have e:(fun j=>d (i+(1+j)))=fun j=>d (i+(j+1)):=by funext j; rw [Nat.add_comm 1 j]
  show 0+d (i+0)*1+1*1073741824*_=_
  rw [e,Nat.add_zero]; omega
 have e3:(1073741824:Int)=2^l*(2*2^(29-l)):=by
  rw [<- Int.mul_assoc,Int.mul_comm (2^l) 2,Int.mul_assoc,<- Int.pow_add,show l+(29-l)=29 by omega]; rfl
 refine ⟨m+2^(29-l)*val (fun j=>d (i+(j+1))) r,?_⟩
 rw [e1,e2,hm,e3,Int.pow_add,<- P_two]
 grind
theorem low_lt {x:Int} {l:Nat} (h0:0<x) (h1:x<1073741824) (h:IsLow x l):l<30:=by
 obtain ⟨m,hm⟩:=h
 rcases Nat.lt_or_ge l 30 with q | q
 ·exact q
 ·have h2:(2:Int)^30<=2^l:=two_le q
  have h3:0<2*m+1:=by
   rcases Int.lt_or_le 0 (2*m+1) with r | r
   ·exact r
   ·have:=Int.mul_nonneg (show 0 <= -(2*m+1) by omega) (Int.le_of_lt (two_pos l))
    rw [Int.neg_mul,<- hm] at this
    omega
  have h4:1*2^l<=(2*m+1)*2^l:=mul_le_r (by omega) (Int.le_of_lt (two_pos l))
  have h5:(2:Int)^30=1073741824:=rfl
  omega
def LowA (V l:Int):Prop:=(V=0∧l=-1)∨∃ k:Nat,l=k∧IsLow V k
theorem lowest_any (ao:Option Addr) (n cap:Nat) (d:Nat->Int) (w:World) (h:Row w ao n cap d) (hd:Dig d n) (hn:n<=100000) (hT:Tab w) :
  Calls Tryz.prog 223 #[.slice ao n cap] w fun e w'=>∃ l,e=.returned (.int .i64 l)∧LowA (val d n) l∧w'=w:=by
 have hl:=h.le
 have hm:=h.max
 go_enter Tryz.func223,Tryz.ntmps223
 go_wp2
 go_loop [6] (fun i=>∃ k:Nat,k<=n∧i=.int .i64 k∧Hid (∀ j,j<k->d j=0)) (fun i=>n-(intOf i).toNat)
 case atStart=>exact ⟨0,Nat.zero_le _,rfl,fun j hj=>by omega⟩
 case round=>
  obtain ⟨k,hk,rfl,HZ⟩:=hrel
  by_cases hlt:k<n
  ·obtain ⟨b,off,rfl,hb,hc⟩:=h.spot (by omega)
   have c:=hc k hlt
   have dk:=hd k hlt
   by_cases hz:d k=0
   ·go_wp2
    go_round
    case rel=>exact ⟨k+1,by omega,by go_num,fun j hj=>by by_cases e:j=k; (· rw [e]; exact hz); (· exact HZ.out j (by omega))⟩
    case measure=>simp [intOf]; omega
   ·have hp:0<d k:=by omega
    go_wp2_with fail
    refine (trailing (d k) hp dk.2 _ hT).mono ?_
    rintro e w' ⟨l,rfl,⟨hl64,hlow⟩,rfl⟩
    go_wp2
    go_ret
    exact ⟨_,rfl,.inr ⟨30*k+l,by omega,isLow_val hlt HZ.out hlow (low_lt hp dk.2 hlow)⟩,rfl⟩
  ·obtain rfl:k=n:=by omega
   go_wp2
   go_ret
   exact ⟨_,rfl,.inl ⟨val_zeros (Nat.zero_le k) (fun i _ hi=>HZ.out i hi),rfl⟩,rfl⟩
theorem lowA_pos {V l:Int} (h:LowA V l) (h0:0<V):∃ k:Nat,l=k∧IsLow V k:=by
 rcases h with ⟨h1,_⟩ | h
 ·omega
 ·exact h
theorem isLow_lt {d:Nat->Int} {n k:Nat} (hd:Dig d n) (h0:0<val d n) (h:IsLow (val d n) k):k<30*n:=by
 have h1:=val_lt hd
 rw [P_two] at h1
 obtain ⟨a,b,c⟩:=isLow_odd h h0
 have h2:(1:Int)*2^k<=val d n/2^k*2^k:=Int.mul_le_mul_of_nonneg_right (by omega) (Int.le_of_lt (two_pos k))
 exact two_lt_iff (by omega)
theorem ans_res {w W w3:World} {V:Int} {v:Value} (hv:Ans W w3 V v) (hb:Below w.heap.size w W) {g:Nat} (h0:w.heap.size<=g) (h1:g<W.heap.size) (a b c:Value) :
  Ans w (((w3.setCell ⟨g,0,none⟩ a).setCell ⟨g,1,none⟩ b).setCell ⟨g,2,none⟩ c) V v:=by
 obtain ⟨t,d,hO,hN,hV,hB⟩:=hv
 refine ⟨t,d,?_,hN,hV,?_⟩
 ·exact (((hO.set_below (a:=⟨g,0,none⟩) h1 a).set_below (a:=⟨g,1,none⟩) h1 b).set_below (a:=⟨g,2,none⟩) h1 c).lower hb.size
 ·exact (((hb.trans (hB.mono hb.size)).setCell (p:=⟨g,0,none⟩) h0 a).setCell (p:=⟨g,1,none⟩) h0 b).setCell (p:=⟨g,2,none⟩) h0 c
theorem settle_zero (ng:Bool) (ao:Option Addr) (n cap:Nat) (d:Nat->Int) (e:Int) (w:World) (h:Row w ao n cap d) (hd:Dig d n) (h0:val d n=0) :
  Calls Tryz.prog 168 #[.agg #[.bool ng,.slice ao n cap,.int .i64 e]] w fun r w'=>r=.returned zeroV∧Below w.heap.size w w':=by
 have hR:=h.keeps (bel_alloc2 w (.cells #[.bool ng,.slice ao n cap,.int .i64 e] 40) (.cells #[.bool false,.slice none 0 0,.int .i64 0] 40))
 go_enter Tryz.func168,Tryz.ntmps168
 go_wp2_with fail
 refine (trim_any _ _ _ _ _ hR).mono ?_
 rintro r w1 ⟨t,ht,htop,hz,rfl,rfl⟩
 obtain ⟨hN,hv⟩:=nrm_of_top hd ht htop hz
 have ht0:t=0:=(val_zero hN).1 (by rw [hv]; exact h0)
 subst ht0
 rw [show cutV ao 0 cap=.slice none 0 0 from rfl]
 go_wp2
 refine bodyPost_ret (v:=zeroV) (by simp [results,Tryz.results168,go_sem,zeroV]) rfl ⟨rfl,?_⟩
 exact bel_alloc2 _ _ _
theorem settle_yes (ng:Bool) (ao:Option Addr) (n cap:Nat) (d:Nat->Int) (e:Int) (w:World) (h:Row w ao n cap d) (hd:Dig d n) (hn:n<=100000) (hT:Tab w) (h0:0<val d n) (l:Nat) (hl:IsLow (val d n) l)
    (he0:-1048576<=e+l) (he1:e+l<=1048576) (hs:val d n/2^l<P 2000) :
    Calls Tryz.prog 168 #[.agg #[.bool ng,.slice ao n cap,.int .i64 e]] w fun r w'=>∃ s,r=.returned (.agg #[.bool ng,s,.int .i64 (e+l)])∧Ans w w' (val d n/2^l) s:=by
  have hR:=h.keeps (bel_alloc2 w (.cells #[.bool ng,.slice ao n cap,.int .i64 e] 40) (.cells #[.bool false,.slice none 0 0,.int .i64 0] 40))
  have hln:=isLow_lt hd h0 hl
  have hb1:=bel_alloc2 w (.cells #[.bool ng,.slice ao n cap,.int .i64 e] 40) (.cells #[.bool false,.slice none 0 0,.int .i64 0] 40)
  go_enter Tryz.func168,Tryz.ntmps168
  go_wp2_with fail
  refine (trim_any _ _ _ _ _ hR).mono ?_
  rintro r w1 ⟨t,ht,htop,hz,rfl,rfl⟩
  obtain ⟨hN,hv⟩:=nrm_of_top hd ht htop hz
  have ht0:t≠0:=by rintro rfl; have:=(val_zero hN).2 rfl; omega
  rw [show cutV ao t cap=.slice ao t cap by unfold cutV; rw [if_neg ht0]]
  have hn0:((t:Int) == 0)=false:=by simp; omega
  obtain ⟨bb,fb,rfl,hbb,hcb⟩:=h.spot (by omega)
  have hRt:Row ((w.alloc (.cells #[.bool ng,.slice (some ⟨bb,fb,none⟩) n cap,.int .i64 e] 40)).alloc (.cells #[.bool false,.slice none 0 0,.int .i64 0] 40)) (some ⟨bb,fb,none⟩) t cap d:=⟨by have:=h.le; omega,h.max,fun hx=>by simp at hx,fun _=>by
    obtain ⟨b',f',e',q1,q2⟩:=hR.spot (by omega)
    exact ⟨b',f',e',q1,fun i hi=>q2 i (by omega)⟩⟩
  have hbl:blen (val d n)<=60000+l:=by
    refine blen_le ?_
    obtain ⟨_,_,c⟩:=isLow_odd hl h0
    have:(val d n/2^l)*2^l<P 2000*2^l:=Int.mul_lt_mul_of_pos_right hs (two_pos l)
    rw [c,P_two,<- Int.pow_add] at this
    exact this
  have HS:Hid (val d n/2^l<P 2000):=hs
  clear hs
  go_wp2_with fail
  refine (lowest_any _ _ _ _ _ hRt hN.1 (by omega) (hT.keeps hb1)).mono ?_
  rintro r w1 ⟨lo,rfl,hlo,rfl⟩
  rw [hv] at hlo
  obtain ⟨k,rfl,hk⟩:=lowA_pos hlo h0
  obtain rfl:=low_unique hk hl
  have HL:Hid (IsLow (val d n) k):=hl
  clear hlo hk hl
  have HV:Hid (val d t=val d n):=hv
  go_wp2_with fail
  refine (bitLength_any _ _ _ _ _ hRt hN (by omega)).mono ?_
  rw [hv]
  rintro r w1 ⟨rfl,rfl⟩
  go_wp2_with fail
  have hwr:IntKind.i64.wrap (e+(k:Int))=e+k:=by rw [wrap_i64_eq]; omega
  have hb2:Below w.heap.size w ((w.alloc (.cells #[.bool ng,.slice (some ⟨bb,fb,none⟩) n cap,.int .i64 e] 40)).alloc (.cells #[.bool false,.slice none 0 0,.int .i64 0] 40)).drew:=hb1.drew
  have q0:((w.alloc (.cells #[.bool ng,.slice (some ⟨bb,fb,none⟩) n cap,.int .i64 e] 40)).alloc (.cells #[.bool false,.slice none 0 0,.int .i64 0] 40)).drew.heap[w.heap.size]?=some (.cells #[.bool ng,.slice (some ⟨bb,fb,none⟩) n cap,.int .i64 e] 40):=heap_a2 _ _ _
  have q1:((w.alloc (.cells #[.bool ng,.slice (some ⟨bb,fb,none⟩) n cap,.int .i64 e] 40)).alloc (.cells #[.bool false,.slice none 0 0,.int .i64 0] 40)).drew.heap[w.heap.size+1]?=some (.cells #[.bool false,.slice none 0 0,.int .i64 0] 40):=heap_b2 _ _ _
  have qs:((w.alloc (.cells #[.bool ng,.slice (some ⟨bb,fb,none⟩) n cap,.int .i64 e] 40)).alloc (.cells #[.bool false,.slice none 0 0,.int .i64 0] 40)).drew.heap.size=w.heap.size+2:=size2 _ _ _
  go_region_with (go_at_call 225; refine (lower_any _ _ _ k d _ hRt.drew hN.1 (by omega) (by omega)).mono ?_; rintro r w3 ⟨v,rfl,hv⟩; obtain ⟨vo,vn,vc,rfl⟩:=hv.num.shape; have g0:=(hv.below.block w.heap.size (by omega)).trans q0; have g1:=(hv.below.block (w.heap.size+1) (by omega)).trans q1; have k0:=blkC g0 0 rfl; have k2:=blkC g0 2 rfl; have k3:=blkC g1 0 rfl; have k4:=blkC g1 1 rfl; have k5:=blkC g1 2 rfl; have f0:=blkF g1 0; have f1:=blkF g1 1; have f2:=blkF g1 2; have hvv:=hv.from hb2)
  all_goals go_wp2
  all_goals refine bodyPost_ret (v:=.agg #[.bool ng,.slice vo vn vc,.int .i64 (e+k)]) (by simp [results,Tryz.results168,go_sem,k3,k4,k5,hwr]) rfl ⟨_,rfl,?_⟩
  all_goals (rw [<- HV.out]; exact ans_res (g:=w.heap.size+1) hv hb2 (Nat.le_succ _) (by omega) _ _ _)
theorem settle_no (ng:Bool) (ao:Option Addr) (n cap:Nat) (d:Nat->Int) (e:Int) (w:World) (h:Row w ao n cap d) (hd:Dig d n) (hn:n<=100000) (hT:Tab w) (h0:0<val d n) (l:Nat) (hl:IsLow (val d n) l)
    (hbad:e+l < -1048576∨1048576<e+l∨P 2000<=val d n/2^l) :
    Calls Tryz.prog 168 #[.agg #[.bool ng,.slice ao n cap,.int .i64 e]] w fun r w'=>r=.panicked [{ v:=.iface 29 (.int .i64 2),recovered:=false }]∧Below w.heap.size w w':=by
  have hR:=h.keeps (bel_alloc2 w (.cells #[.bool ng,.slice ao n cap,.int .i64 e] 40) (.cells #[.bool false,.slice none 0 0,.int .i64 0] 40))
  have hln:=isLow_lt hd h0 hl
  have hb1:=bel_alloc2 w (.cells #[.bool ng,.slice ao n cap,.int .i64 e] 40) (.cells #[.bool false,.slice none 0 0,.int .i64 0] 40)
  have HB:Hid (e+l < -1048576∨1048576<e+l∨P 2000<=val d n/2^l):=hbad
  clear hbad
  go_enter Tryz.func168,Tryz.ntmps168
  go_wp2_with fail
  refine (trim_any _ _ _ _ _ hR).mono ?_
  rintro r w1 ⟨t,ht,htop,hz,rfl,rfl⟩
  obtain ⟨hN,hv⟩:=nrm_of_top hd ht htop hz
  have ht0:t≠0:=by rintro rfl; have:=(val_zero hN).2 rfl; omega
  rw [show cutV ao t cap=.slice ao t cap by unfold cutV; rw [if_neg ht0]]
  have hn0:((t:Int) == 0)=false:=by simp; omega
  obtain ⟨bb,fb,rfl,hbb,hcb⟩:=h.spot (by omega)
  have hRt:Row ((w.alloc (.cells #[.bool ng,.slice (some ⟨bb,fb,none⟩) n cap,.int .i64 e] 40)).alloc (.cells #[.bool false,.slice none 0 0,.int .i64 0] 40)) (some ⟨bb,fb,none⟩) t cap d:=⟨by have:=h.le; omega,h.max,fun hx=>by simp at hx,fun _=>by
    obtain ⟨b',f',e',q1,q2⟩:=hR.spot (by omega)
    exact ⟨b',f',e',q1,fun i hi=>q2 i (by omega)⟩⟩
  go_wp2_with fail
  refine (lowest_any _ _ _ _ _ hRt hN.1 (by omega) (hT.keeps hb1)).mono ?_
  rintro r w1 ⟨lo,rfl,hlo,rfl⟩
  rw [hv] at hlo
  obtain ⟨k,rfl,hk⟩:=lowA_pos hlo h0
  obtain rfl:=low_unique hk hl
  have HL:Hid (IsLow (val d n) k):=hl
  clear hlo hk hl
  by_cases c0:e < -1048576-k
  · go_wp2
    exact ⟨rfl,rfl,hb1⟩
  · by_cases c1:1048576-k<e
    · go_wp2
      exact ⟨rfl,rfl,hb1⟩
    · have hbl:60000<(blen (val d n):Int)-k:=by
        obtain ⟨_,_,c⟩:=isLow_odd HL.out h0
        have h2:P 2000<=val d n/2^k:=by rcases HB.out with x | x | x <;> first | omega | exact x
        have:P 2000*2^k<=(val d n/2^k)*2^k:=Int.mul_le_mul_of_nonneg_right h2 (Int.le_of_lt (two_pos k))
        rw [c,P_two,<- Int.pow_add] at this
        have:=blen_ge this
        omega
      go_wp2_with fail
      refine (bitLength_any _ _ _ _ _ hRt hN (by omega)).mono ?_
      rw [hv]
      rintro r w1 ⟨rfl,rfl⟩
      have hb30:blen (val d n)<=30*n:=blen_le (by rw [<- P_two]; exact val_lt hd)
      go_wp2
      exact ⟨rfl,rfl,hb1⟩
theorem low_ex:∀ (n:Nat) (M:Int),M.natAbs<=n->0<M->∃ l,IsLow M l:=by
 intro n
 induction n with
 | zero=>intro M h h0; omega
 | succ n ih=>
  intro M h h0
  by_cases hp:M % 2=1
  ·exact ⟨0,M/2,by rw [Int.pow_zero]; omega⟩
  ·obtain ⟨l,m,hm⟩:=ih (M/2) (by omega) (by omega)
   refine ⟨l+1,m,?_⟩
   rw [Int.pow_succ,<- Int.mul_assoc,<- hm]; omega
theorem isLow_ex {M:Int} (h:0<M):∃ l,IsLow M l:=low_ex M.natAbs M (Nat.le_refl _) h
def gaveUp:Ending:=.panicked [{ v:=.iface 29 (.int .i64 2),recovered:=false }]
theorem settle_ok {ng:Bool} {ao:Option Addr} {n cap:Nat} {d:Nat->Int} {e:Int} {w:World} (h:Row w ao n cap d) (hd:Dig d n) (hn:n<=100000) (hT:Tab w) (he:-4194304<=e) {V:Int} (hV:V=sg ng (val d n)*pw e) (hok:Dok V) :
  Calls Tryz.prog 168 #[.agg #[.bool ng,.slice ao n cap,.int .i64 e]] w fun r w'=>∃ v,r=.returned v∧DAns w w' V v:=by
 by_cases h0:val d n=0
 ·refine (settle_zero ng ao n cap d e w h hd h0).mono ?_
  rintro r w' ⟨rfl,hb⟩
  exact ⟨_,rfl,by rw [hV,h0,sg_zero,Int.zero_mul]; exact DAns.zero hb⟩
 ·have hp:0<val d n:=by have:=val_nonneg hd; omega
  obtain ⟨l,hl⟩:=isLow_ex hp
  have hy:=Dy.of ng hl hp he
  rw [<- hV] at hy
  obtain ⟨o1,o2,o3⟩:=hy.ok.1 hok
  refine (settle_yes ng ao n cap d e w h hd hn hT hp l hl o2 o3 o1).mono ?_
  rintro r w' ⟨s,rfl,hA⟩
  exact ⟨_,rfl,_,_,_,_,rfl,hy,hA⟩
theorem settle_long {ng:Bool} {ao:Option Addr} {n cap:Nat} {d:Nat->Int} {e:Int} {w:World} (h:Row w ao n cap d) (hd:Dig d n) (hn:n<=100000) (hT:Tab w) (he:-4194304<=e) {V:Int} (hV:V=sg ng (val d n)*pw e) (hok:¬ Dok V) :
    Calls Tryz.prog 168 #[.agg #[.bool ng,.slice ao n cap,.int .i64 e]] w fun r w'=>r=gaveUp∧Below w.heap.size w w':=by
  by_cases h0:val d n=0
  · exact absurd (by rw [hV,h0,sg_zero,Int.zero_mul]; exact dok_zero) hok
  · have hp:0<val d n:=by have:=val_nonneg hd; omega
    obtain ⟨l,hl⟩:=isLow_ex hp
    have hy:=Dy.of ng hl hp he
    rw [<- hV] at hy
    have hno:=fun x=>hok (hy.ok.2 x)
    refine settle_no ng ao n cap d e w h hd hn hT hp l hl ?_
    by_cases c1:e+l < -1048576
    · exact .inl c1
    · by_cases c2:1048576<e+l
      · exact .inr (.inl c2)
      · exact .inr (.inr (by
          by_cases c3:P 2000<=val d n/2^l
          · exact c3
          · exact absurd ⟨by omega,by omega,by omega⟩ hno))
theorem DFit.shape {w w':World} {V er:Int} {v:Value} (h:DFit w w' V v er):∃ ng so sn sc e,v=.agg #[.bool ng,.slice so sn sc,.int .i64 e]:=by
 rcases h.2 with ⟨_,_,ng,s,m,e,h1,_,hA⟩ | ⟨_,_,h1⟩
 ·obtain ⟨so,sn,sc,rfl⟩:=hA.num.shape
  exact ⟨_,_,_,_,_,h1⟩
 ·exact ⟨_,_,_,_,_,h1⟩
theorem dans_res3 {w W w3:World} {V:Int} {v:Value} (hv:DAns W w3 V v) (hb:Below w.heap.size w W) {g:Nat} (h0:w.heap.size<=g) (h1:g<W.heap.size) (a b c:Value) :
  DAns w (((w3.setCell ⟨g,0,none⟩ a).setCell ⟨g,1,none⟩ b).setCell ⟨g,2,none⟩ c) V v:=by
 obtain ⟨ng,s,m,e,h2,h3,hA⟩:=hv
 exact ⟨ng,s,m,e,h2,h3,ans_res hA hb h0 h1 a b c⟩
theorem dfit_res {w W w3:World} {V er:Int} {v:Value} (hv:DFit W w3 V v er) (hb:Below w.heap.size w W) {g:Nat} (h0:w.heap.size<=g) (h1:g<W.heap.size) (a b c:Value) :
  DFit w (((w3.setCell ⟨g,0,none⟩ a).setCell ⟨g,1,none⟩ b).setCell ⟨g,2,none⟩ c) V v er:=by
 refine ⟨(((hb.trans (hv.1.mono hb.size)).setCell (p:=⟨g,0,none⟩) h0 a).setCell (p:=⟨g,1,none⟩) h0 b).setCell (p:=⟨g,2,none⟩) h0 c,?_⟩
 rcases hv.2 with ⟨o1,o2,o3⟩ | o
 ·exact .inl ⟨o1,o2,dans_res3 o3 hb h0 h1 a b c⟩
 ·exact .inr o
theorem told_fit {F:Nat} {cap:Array Value} {w:World} {V:Int} (hE:∀ w,(callFunc F cap).run Tryz.prog w=.ok (.enter F cap) w)
  (hy:Dok V->∀ W,Below w.heap.size w W->Calls Tryz.prog F cap W fun r W'=>∃ v,r=.returned v∧DAns W W' V v)
  (hn:¬ Dok V->∀ W,Below w.heap.size w W->Calls Tryz.prog F cap W fun r W'=>r=gaveUp∧Below W.heap.size W W') :
  Calls Tryz.prog 163 #[.func (.func F) #[] cap] w fun r w'=>∃ v er,r=.returned (.tuple #[v,.int .i64 er])∧DFit w w' V v er:=by
 by_cases h:Dok V
 ·refine (told_yes F cap w V hE (hy h)).mono ?_
  rintro r w' ⟨v,rfl,hD⟩
  exact ⟨v,0,rfl,hD.below,.inl ⟨h,rfl,hD⟩⟩
 ·refine (told_no F cap w hE (hn h)).mono ?_
  rintro r w' ⟨rfl,hb⟩
  exact ⟨_,2,rfl,hb,.inr ⟨h,rfl,rfl⟩⟩
theorem heap_a1 (w:World) (a:Obj):(w.alloc a).heap[w.heap.size]?=some a:=by
 show (w.heap.push a)[w.heap.size]?=some a
 simp
theorem size1 (w:World) (a:Obj):(w.alloc a).heap.size=w.heap.size+1:=by
 show (w.heap.push a).size=_
 simp
theorem cell_keeps {w w':World} {p:Addr} {v:Value} (h:w.cell? p=some v) (hb:Below w.heap.size w w'):w'.cell? p=some v :=
 (hb.cell (World.block_lt_of_cell? w _ h)).trans h
theorem size_alloc (w:World) (a:Obj):(w.alloc a).heap.size=w.heap.size+1:=size1 w a
theorem heap_past {w:World} {k:Nat} {x:Obj} (o:Obj) (h:w.heap[k]?=some x):(w.alloc o).heap[k]?=some x :=
 (Below.heap_alloc w o k (Array.getElem?_eq_some_iff.1 h).1).trans h
theorem heap_new {w:World} {k:Nat} (o:Obj) (h:k=w.heap.size):(w.alloc o).heap[k]?=some o:=by rw [h]; exact heap_a1 w o
theorem h4_0 (w:World) (a b c d:Obj):((((w.alloc a).alloc b).alloc c).alloc d).heap[w.heap.size]?=some a:=heap_past _ (heap_past _ (heap_past _ (heap_a1 w a)))
theorem h4_1 (w:World) (a b c d:Obj):((((w.alloc a).alloc b).alloc c).alloc d).heap[w.heap.size+1]?=some b:=heap_past _ (heap_past _ (heap_new _ (by rw [size_alloc])))
theorem h4_2 (w:World) (a b c d:Obj):((((w.alloc a).alloc b).alloc c).alloc d).heap[w.heap.size+2]?=some c:=heap_past _ (heap_new _ (by rw [size_alloc,size_alloc]))
theorem h4_3 (w:World) (a b c d:Obj):((((w.alloc a).alloc b).alloc c).alloc d).heap[w.heap.size+3]?=some d:=heap_new _ (by rw [size_alloc,size_alloc,size_alloc])
theorem h3_0 (w:World) (a b c:Obj):(((w.alloc a).alloc b).alloc c).heap[w.heap.size]?=some a:=heap_past _ (heap_past _ (heap_a1 w a))
theorem h3_1 (w:World) (a b c:Obj):(((w.alloc a).alloc b).alloc c).heap[w.heap.size+1]?=some b:=heap_past _ (heap_new _ (by rw [size_alloc]))
theorem h3_2 (w:World) (a b c:Obj):(((w.alloc a).alloc b).alloc c).heap[w.heap.size+2]?=some c:=heap_new _ (by rw [size_alloc,size_alloc])
theorem bel_a3 (w:World) (a b c:Obj):Below w.heap.size w (((w.alloc a).alloc b).alloc c):=(bel_alloc2 w a b).alloc (by rw [size2]; omega) _
theorem size3 (w:World) (a b c:Obj):(((w.alloc a).alloc b).alloc c).heap.size=w.heap.size+3:=by rw [size_alloc,size2]
theorem bel_a4 (w:World) (a b c d:Obj):Below w.heap.size w ((((w.alloc a).alloc b).alloc c).alloc d):=(bel_a3 w a b c).alloc (by rw [size3]; omega) _
theorem size4 (w:World) (a b c d:Obj):((((w.alloc a).alloc b).alloc c).alloc d).heap.size=w.heap.size+4:=by rw [size_alloc,size3]
theorem keepB {W w':World} {g:Nat} {a b c:Value} (h:W.cell? ⟨g,0,none⟩=some a∧W.cell? ⟨g,1,none⟩=some b∧W.cell? ⟨g,2,none⟩=some c) (hb:Below W.heap.size W w') :
  w'.cell? ⟨g,0,none⟩=some a∧w'.cell? ⟨g,1,none⟩=some b∧w'.cell? ⟨g,2,none⟩=some c:=⟨cell_keeps h.1 hb,cell_keeps h.2.1 hb,cell_keeps h.2.2 hb⟩
theorem keepW {W w':World} {g o:Nat} {a b c:Value} (h:W.cell? ⟨g,0,none⟩=some a∧W.cell? ⟨g,1,none⟩=some b∧W.cell? ⟨g,2,none⟩=some c) (hw:Wr o W w') (hg:g≠o) :
  w'.cell? ⟨g,0,none⟩=some a∧w'.cell? ⟨g,1,none⟩=some b∧w'.cell? ⟨g,2,none⟩=some c :=
 ⟨(hw.cell (World.block_lt_of_cell? W _ h.1) hg).trans h.1,(hw.cell (World.block_lt_of_cell? W _ h.2.1) hg).trans h.2.1,(hw.cell (World.block_lt_of_cell? W _ h.2.2) hg).trans h.2.2⟩
theorem keepS {W:World} {g o:Nat} {a b c:Value} (h:W.cell? ⟨g,0,none⟩=some a∧W.cell? ⟨g,1,none⟩=some b∧W.cell? ⟨g,2,none⟩=some c) (hg:g≠o) (x y z:Value) :
  (((W.setCell ⟨o,0,none⟩ x).setCell ⟨o,1,none⟩ y).setCell ⟨o,2,none⟩ z).cell? ⟨g,0,none⟩=some a∧(((W.setCell ⟨o,0,none⟩ x).setCell ⟨o,1,none⟩ y).setCell ⟨o,2,none⟩ z).cell? ⟨g,1,none⟩=some b∧(((W.setCell ⟨o,0,none⟩ x).setCell ⟨o,1,none⟩ y).setCell ⟨o,2,none⟩ z).cell? ⟨g,2,none⟩=some c :=
 keepW h (((Wr.refl o W).setCell 0 x |>.setCell 1 y).setCell 2 z) hg
def Sane (r:NumR):Prop:=Nrm r.d r.n∧r.n<=5000∧-1100000<=r.e∧r.e<=1100000
structure Rch (r:Nat->NumR) (k:Nat) (low high:Int):Prop where
 none:(∀ i,i<k->(r i).n=0)->low=9223372036854775807∧high=-9223372036854775808
 some:(∃ i,i<k∧0<(r i).n)->-1100000<=low∧low<=1100000∧-1100000<=high∧high<=1250000
 all:∀ i,i<k->0<(r i).n->low<=(r i).e∧(r i).e+blen (val (r i).d (r i).n)<=high
theorem Sane.len {x:NumR} (h:Sane x):blen (val x.d x.n)<=150000:=by
 have:=blen_le (V:=val x.d x.n) (k:=30*x.n) (by rw [<- P_two]; exact val_lt h.1.1)
 have:=h.2.1
 omega
theorem Rch.zero {r:Nat->NumR} {k:Nat} {low high:Int} (h:Rch r k low high) (h0:(r k).n=0):Rch r (k+1) low high :=
  ⟨fun hx=>h.none fun i hi=>hx i (by omega),fun ⟨i,hi,hp⟩=>h.some ⟨i,by
    by_cases e:i=k
    · subst e; omega
    · omega,hp⟩,fun i hi hp=>by
    by_cases e:i=k
    · subst e; omega
    · exact h.all i (by omega) hp⟩
theorem Rch.step {r:Nat->NumR} {k:Nat} {low high:Int} (h:Rch r k low high) (h0:0<(r k).n) (hs:Sane (r k)):Rch r (k+1) (min low (r k).e) (max high ((r k).e+blen (val (r k).d (r k).n))):=by
 obtain ⟨s1,s2,s3,s4⟩:=id hs
 have s5:=hs.len
 refine ⟨fun hx=>by have:=hx k (by omega); omega,fun _=>?_,fun i hi hp=>?_⟩
 ·by_cases hx:∀ i,i<k->(r i).n=0
  ·obtain ⟨a,b⟩:=h.none hx
   subst a b
   omega
  ·have:∃ i,i<k∧0<(r i).n:=by
    simp only [Classical.not_forall] at hx
    obtain ⟨i,hi,hp⟩:=hx
    exact ⟨i,hi,by omega⟩
   have:=h.some this
   omega
 ·by_cases e:i=k
  ·subst e; omega
  ·have:=h.all i (by omega) hp; omega
theorem reach_any (ao:Option Addr) (n cap:Nat) (r:Nat->NumR) (w:World) (h:Nums w ao n cap r) (hs:∀ i,i<n->Sane (r i)) :
  Calls Tryz.prog 219 #[.slice ao n cap] w fun x w'=>∃ low high,x=.returned (.tuple #[.int .i64 low,.int .i64 high])∧Rch r n low high∧Below w.heap.size w w':=by
 have hl:=h.le
 have hm:=h.max
 have HS:Hid (∀ i,i<n->Sane (r i)):=hs
 clear hs
 have hmin:∀ (ts:Array TypeId) (t:TypeId) (x y:Int) (w:World),(Builtin.min_ ts t #[.int .i64 x,.int .i64 y]).run Tryz.prog w=.ok (.int .i64 (min x y)) w:=fun ts t x y w=>by rw [run_min_int2]; congr 2; omega
 have hmax:∀ (ts:Array TypeId) (t:TypeId) (x y:Int) (w:World),(Builtin.max_ ts t #[.int .i64 x,.int .i64 y]).run Tryz.prog w=.ok (.int .i64 (max x y)) w:=fun ts t x y w=>by rw [run_max_int2]; congr 2; omega
 go_enter Tryz.func219,Tryz.ntmps219
 go_wp2_with fail
 go_loopw [2,3,8] (fun lo hi i wr=>∃ (k:Nat) (low high:Int),k<=n∧i=.int .i64 k∧lo=.int .i64 low∧hi=.int .i64 high∧Hid (Rch r k low high)∧Below w.heap.size w wr) (fun _ _ i _=>n-(intOf i).toNat)
 case atStart=>exact ⟨0,_,_,Nat.zero_le _,rfl,rfl,rfl,⟨fun _=>⟨rfl,rfl⟩,fun ⟨i,hi,_⟩=>by omega,fun i hi=>by omega⟩,bel_refl _⟩
 case round=>
  obtain ⟨k,low,high,hk,rfl,rfl,rfl,HR,hbw⟩:=hrel
  by_cases hlt:k<n
  ·obtain ⟨b,off,rfl,hb,hc⟩:=h.spot (by omega)
   obtain ⟨c0,c1,c2,hR⟩:=(hc k hlt).keeps hbw hb
   have hsk:=HS.out k hlt
   have hst:=fun h0=>HR.out.step (k:=k) h0 hsk
   have hze:=fun h0=>HR.out.zero (k:=k) h0
   have hlen:=hsk.len
   generalize hr:r k=x at *
   obtain ⟨ng,xo,xn,xc,xd,xe⟩:=x
   obtain ⟨s1,s2,s3,s4⟩:=hsk
   simp only at c0 c1 c2 hR s1 s2 s3 s4 hst hze hlen
   by_cases h0:xn=0
   ·subst h0
    have HZ:Hid (Rch r (k+1) low high):=hze rfl
    clear hst hze
    go_wp2
    go_roundw
    case rel=>exact ⟨k+1,low,high,by omega,by go_num,rfl,rfl,HZ,hbw.trans ((bel_alloc _ _).mono hbw.size)⟩
    case measure=>simp [intOf]; omega
   ·have HZ:Hid (Rch r (k+1) (min low xe) (max high (xe+blen (val xd xn)))):=hst (by omega)
    have hlp:(0:Int)<xn:=by omega
    have HM:Hid (∀ L H,L=min low xe->H=max high (xe+blen (val xd xn))->Rch r (k+1) L H):=fun L H e1 e2=>by rw [e1,e2]; exact HZ.out
    have q0:=heap_a1 wr (.cells #[.bool ng,.slice xo xn xc,.int .i64 xe] 40)
    have hbx:Below w.heap.size w (wr.alloc (.cells #[.bool ng,.slice xo xn xc,.int .i64 xe] 40)):=hbw.trans ((bel_alloc _ _).mono hbw.size)
    have hRx:=hR.alloc (.cells #[.bool ng,.slice xo xn xc,.int .i64 xe] 40)
    clear HZ hst hze
    go_wp2_with fail
    generalize wr.alloc (.cells #[.bool ng,.slice xo xn xc,.int .i64 xe] 40)=wx at q0 hbx hRx ⊢
    have k0:=blkC q0 0 rfl
    have k1:=blkC q0 1 rfl
    have k2:=blkC q0 2 rfl
    have hb1:=bel_refl wx
    have C1:∀ W,Below wx.heap.size wx W->Calls Tryz.prog 270 #[.agg #[.bool ng,.slice xo xn xc,.int .i64 xe]] W fun y w'=>y=.returned (.int .i64 (xe+blen (val xd xn)))∧Below W.heap.size W w':=fun W h=>dtop_any ng xo xn xc xd xe W (hRx.keeps h) s1 (by omega) (by omega) (by omega)
    go_region_held3 (fun W=>W.cell? ⟨wr.heap.size,0,none⟩=some (.bool ng)∧W.cell? ⟨wr.heap.size,1,none⟩=some (.slice xo xn xc)∧W.cell? ⟨wr.heap.size,2,none⟩=some (.int .i64 xe))
     (first | exact ⟨k0,k1,k2⟩ | assumption | exact keepB (W:=wx.drew) ⟨k0,k1,k2⟩ hbv1)
     (first | (go_at_call 270; refine (C1 _ hb1.drew).mono ?_; rintro y w3 ⟨rfl,hbv1⟩) | fail)
    all_goals go_wp2
    all_goals
     go_roundw
     case rel=>exact ⟨k+1,_,_,by omega,by go_num,rfl,rfl,HM.out _ _ (by omega) (by omega),hbx.trans ((bel_trans hb1.drew hbv1).mono hbx.size)⟩
     case measure=>simp [intOf]; omega
  ·obtain rfl:k=n:=by omega
   go_wp2
   go_ret2
   exact ⟨_,_,rfl,HR.out,hbw⟩
theorem carry_low (g N:Nat) (r0:Nat->Int) (w:World) (hB0:Blk w g N r0) (hNm:N<=1000000) (hC0:∀ i,i<N->-2305843009213693952<=r0 i∧r0 i<=2305843009213693952) :
    Calls Tryz.prog 271 #[.slice (some ⟨g,0,none⟩) N N] w fun e w'=>∃ o r,e=.returned (.int .i64 o)∧Blk w' g N r∧Wr g w w'∧Dig r N∧val r N+o*P N=val r0 N:=by
  have HC:Hid (∀ i,i<N->-2305843009213693952<=r0 i∧r0 i<=2305843009213693952):=hC0
  clear hC0
  go_enter Tryz.func271,Tryz.ntmps271
  go_wp2
  go_loopw [3,7] (fun o i wr=>∃ (k:Nat) (o':Int) (r:Nat->Int),k<=N∧i=.int .i64 k∧o=.int .i64 o'∧-2305843009213693952<=o'∧o'<=2305843009213693952∧Blk wr g N r∧Hid (Dig r k)∧Hid (∀ i,k<=i->r i=r0 i)∧Hid (val r k+o'*P k=val r0 k)∧Wr g w wr) (fun _ i _=>N-(intOf i).toNat)
  case atStart=>exact ⟨0,0,r0,Nat.zero_le _,rfl,rfl,by omega,by omega,hB0,fun i hi=>by omega,fun _ _=>rfl,by show (0:Int)+0*1=0; omega,Wr.refl _ _⟩
  case round=>
    obtain ⟨k,o,r,hk,rfl,rfl,ho0,ho1,hB,HD,HZ,HV,hW⟩:=hrel
    by_cases hlt:k<N
    · have cg:=hB.cell hlt
      have fg:=hB.frozen k
      have hr:-2305843009213693952<=r k∧r k<=2305843009213693952:=by rw [HZ.out k (Nat.le_refl _)]; exact HC.out k hlt
      obtain ⟨hr0,hr1⟩:=hr
      have h30:=and_30 (o+r k)
      have hm:=mod_dig (o+r k)
      have HV2:Hid (val (upd r k ((o+r k) % 1073741824)) (k+1)+(o+r k)/1073741824*P (k+1)=val r0 (k+1)):=by
        show _=_
        rw [val_succ,upd_same,val_upd_ge _ _ (Nat.le_refl _),P_succ,carry_step,val_succ,<- HV.out,HZ.out k (Nat.le_refl _)]
      go_wp2
      go_roundw
      case rel=>exact ⟨k+1,(o+r k)/1073741824,upd r k ((o+r k) % 1073741824),by omega,by go_num,rfl,by omega,by omega,hB.store k _,fun i hi=>by
          by_cases e:i=k
          · rw [e,upd_same]; exact hm
          · rw [upd_other r _ e]; exact HD.out i (by omega),fun i hi=>by rw [upd_other r _ (by omega)]; exact HZ.out i (by omega),HV2,hW.setCell _ _⟩
      case measure=>simp [intOf]; omega
    · obtain rfl:k=N:=by omega
      go_wp2
      go_ret
      exact ⟨_,r,rfl,hB,hW,HD.out,HV.out⟩
theorem carry_sign {S R o Pn:Int} (hP:0<Pn) (h0:0<=R) (h1:R<Pn) (e:R+o*Pn=S) (hS:-Pn<S∧S<Pn):(0<=S∧o=0∧R=S)∨(S<0∧o=-1∧R=S+Pn):=by
 by_cases ho:0<=o
 ·by_cases ho1:o=0
  ·subst ho1; left; omega
  ·have:1*Pn<=o*Pn:=Int.mul_le_mul_of_nonneg_right (by omega) (by omega)
   omega
 ·by_cases ho1:o=-1
  ·subst ho1; right; omega
  ·have:o*Pn<=(-2)*Pn:=Int.mul_le_mul_of_nonneg_right (by omega) (by omega)
   omega
theorem val_neg (r:Nat->Int) (n:Nat):val (fun i=>-r i) n=-val r n:=by
 induction n with
 | zero=>rfl
 | succ n ih=>rw [val_succ,val_succ,ih,Int.neg_mul]; omega
theorem carry_any (g N:Nat) (r0:Nat->Int) (w:World) (hB0:Blk w g N r0) (hNm:N<=1000000) (hC0:∀ i,i<N->-2305843009213693952<=r0 i∧r0 i<=2305843009213693952) (hS:-P N<val r0 N∧val r0 N<P N) :
    Calls Tryz.prog 221 #[.slice (some ⟨g,0,none⟩) N N] w fun e w'=>∃ r,e=.returned (.bool (decide (val r0 N<0)))∧Blk w' g N r∧Wr g w w'∧Dig r N∧sg (decide (val r0 N<0)) (val r N)=val r0 N:=by
  have HS:Hid (-P N<val r0 N∧val r0 N<P N):=hS
  clear hS
  go_enter Tryz.func221,Tryz.ntmps221
  go_wp2_with fail
  refine (carry_low g N r0 w hB0 hNm hC0).mono ?_
  rintro e w1 ⟨o,r,rfl,hB1,hW1,hD1,hV1⟩
  rcases carry_sign (P_pos N) (val_nonneg hD1) (val_lt hD1) hV1 HS.out with ⟨hs,rfl,hR⟩ | ⟨hs,rfl,hR⟩
  · have HR:Hid (val r N=val r0 N):=hR
    have HH:Hid (0<=val r0 N):=hs
    clear hV1 hR hs hC0
    go_wp2
    go_ret
    have:decide (val r0 N<0)=false:=decide_eq_false (by have:=HH.out; omega)
    exact ⟨r,ret_bool this.symm,hB1,hW1,hD1,by rw [this]; exact HR.out⟩
  · have HR:Hid (val r N=val r0 N+P N):=hR
    have HH:Hid (val r0 N<0):=hs
    have HD:Hid (Dig r N):=hD1
    clear hV1 hR hs hC0 hD1
    go_wp2
    go_loopw [9] (fun i wr=>∃ (k:Nat) (r':Nat->Int),k<=N∧i=.int .i64 k∧Blk wr g N r'∧Hid (∀ i,i<k->r' i=-r i)∧Hid (∀ i,k<=i->r' i=r i)∧Wr g w wr) (fun i _=>N-(intOf i).toNat)
    case atStart=>exact ⟨0,r,Nat.zero_le _,rfl,hB1,fun i hi=>by omega,fun _ _=>rfl,hW1⟩
    case round=>
      obtain ⟨k,r',hk,rfl,hB,HX,HY,hW⟩:=hrel
      by_cases hlt:k<N
      · have cg:=hB.cell hlt
        have fg:=hB.frozen k
        have hr:0<=r' k∧r' k<1073741824:=by rw [HY.out k (Nat.le_refl _)]; exact HD.out k hlt
        obtain ⟨hr0,hr1⟩:=hr
        go_wp2
        go_roundw
        case rel=>exact ⟨k+1,upd r' k (-r' k),by omega,by go_num,hB.store k _,fun i hi=>by
            by_cases e:i=k
            · rw [e,upd_same,HY.out k (Nat.le_refl _)]
            · rw [upd_other r' _ e]; exact HX.out i (by omega),fun i hi=>by rw [upd_other r' _ (by omega)]; exact HY.out i (by omega),hW.setCell _ _⟩
        case measure=>simp [intOf]; omega
      · obtain rfl:k=N:=by omega
        go_wp2_with fail
        refine (carry_low g k r' _ hB hNm (fun i hi=>by rw [HX.out i hi]; have:=HD.out i hi; omega)).mono ?_
        rintro e w2 ⟨o2,r2,rfl,hB2,hW2,hD2,hV2⟩
        go_wp2
        go_ret
        have e1:val r' k=-val r k:=by rw [val_congr HX.out,val_neg]
        have hn:=HH.out
        have hR:=HR.out
        have hS:=HS.out.1
        rw [e1] at hV2
        have:decide (val r0 k<0)=true:=decide_eq_true hn
        refine ⟨r2,ret_bool this.symm,hB2,hW.trans hW2,hD2,?_⟩
        rw [this]
        show -val r2 k=val r0 k
        have a0:=val_nonneg hD2
        have a1:=val_lt hD2
        rcases carry_sign (P_pos k) a0 a1 hV2 (by omega) with ⟨c1,rfl,c3⟩ | ⟨c1,rfl,c3⟩ <;> omega
def sumV (r:Nat->NumR):Nat->Int | 0=>0 | k+1=>sumV r k+sg (r k).ng (val (r k).d (r k).n)*pw (r k).e
def DOut (w:World) (V:Int) (x:Ending) (w':World):Prop:=(Dok V∧∃ v,x=.returned v∧DAns w w' V v)∨(¬ Dok V∧x=gaveUp∧Below w.heap.size w w')
theorem settle_any {ng:Bool} {ao:Option Addr} {n cap:Nat} {d:Nat->Int} {e:Int} {w:World} (h:Row w ao n cap d) (hd:Dig d n) (hn:n<=100000) (hT:Tab w) (he:-4194304<=e) {V:Int} (hV:V=sg ng (val d n)*pw e) :
  Calls Tryz.prog 168 #[.agg #[.bool ng,.slice ao n cap,.int .i64 e]] w (DOut w V):=by
 by_cases hok:Dok V
 ·refine (settle_ok h hd hn hT he hV hok).mono ?_
  rintro x w' ⟨v,rfl,hD⟩
  exact .inl ⟨hok,v,rfl,hD⟩
 ·refine (settle_long h hd hn hT he hV hok).mono ?_
  rintro x w' ⟨rfl,hb⟩
  exact .inr ⟨hok,rfl,hb⟩
theorem told_any {F:Nat} {cap:Array Value} {w:World} {V:Int} (hE:∀ w,(callFunc F cap).run Tryz.prog w=.ok (.enter F cap) w) (h:∀ W,Below w.heap.size w W->Calls Tryz.prog F cap W (DOut W V)) :
  Calls Tryz.prog 163 #[.func (.func F) #[] cap] w fun r w'=>∃ v er,r=.returned (.tuple #[v,.int .i64 er])∧DFit w w' V v er:=by
 refine told_fit hE (fun hok W hW=>(h W hW).mono ?_) (fun hok W hW=>(h W hW).mono ?_)
 ·rintro x w' (⟨_,v,rfl,hD⟩ | ⟨hn,_⟩)
  ·exact ⟨v,rfl,hD⟩
  ·exact absurd hok hn
 ·rintro x w' (⟨hy,_⟩ | ⟨_,rfl,hb⟩)
  ·exact absurd hy hok
  ·exact ⟨rfl,hb⟩
theorem sumV_zero {r:Nat->NumR}:∀ {n:Nat},(∀ i,i<n->(r i).n=0)->sumV r n=0
 | 0,_=>rfl
 | n+1,h=>by
  show sumV r n+_=0
  rw [sumV_zero fun i hi=>h i (by omega),h n (by omega)]
  show 0+sg _ 0*_=0
  rw [sg_zero,Int.zero_mul,Int.add_zero]
theorem sum_bound {r:Nat->NumR} {k:Nat} {low high:Int} (hs:Sane (r k)) (ha:low<=(r k).e∧(r k).e+blen (val (r k).d (r k).n)<=high) :
  val (r k).d (r k).n*2^((r k).e-low).toNat<2^(high-low).toNat∧0<=val (r k).d (r k).n*2^((r k).e-low).toNat:=by
 have hv:=val_nonneg hs.1.1
 obtain ⟨a,b⟩:=ha
 have h1:=blen_lt (val (r k).d (r k).n)
 have h2:val (r k).d (r k).n*2^((r k).e-low).toNat<2^blen (val (r k).d (r k).n)*2^((r k).e-low).toNat:=Int.mul_lt_mul_of_pos_right h1 (two_pos _)
 rw [<- Int.pow_add] at h2
 have h3:(2:Int)^(blen (val (r k).d (r k).n)+((r k).e-low).toNat)<=2^(high-low).toNat:=two_le (by omega)
 exact ⟨by omega,Int.mul_nonneg hv (Int.le_of_lt (two_pos _))⟩
structure TotP (r:Nat->NumR) (low high:Int) (N k:Nat) (c:Nat->Int):Prop where
 sum:val c N*pw low=sumV r k
 bnd:∀ i,i<N->-((k:Int)*1073741823)<=c i∧c i<=k*1073741823
 lo:-((k:Int)*2^(high-low).toNat)<=val c N
 hi:val c N<=k*2^(high-low).toNat
theorem TotP.start (r:Nat->NumR) (low high:Int) (N:Nat):TotP r low high N 0 (fun _=>0):=by
 have e:val (fun _=>0) N=0:=val_zeros (Nat.zero_le _) (fun _ _ _=>rfl)
 exact ⟨by rw [e,Int.zero_mul]; rfl,fun i _=>⟨by omega,by omega⟩,by rw [e]; simp,by rw [e]; simp⟩
theorem TotP.skip {r:Nat->NumR} {low high:Int} {N k:Nat} {c:Nat->Int} (h:TotP r low high N k c) (h0:(r k).n=0):TotP r low high N (k+1) c:=by
 have e:sumV r (k+1)=sumV r k:=by
  show sumV r k+_=_
  rw [h0]
  show sumV r k+sg _ 0*_=_
  rw [sg_zero,Int.zero_mul,Int.add_zero]
 have hp:=two_pos (high-low).toNat
 have e2:((k+1:Nat):Int)*2^(high-low).toNat=k*2^(high-low).toNat+2^(high-low).toNat:=by rw [Int.natCast_add,Int.add_mul]; simp
 refine ⟨by rw [e]; exact h.sum,fun i hi=>?_,?_,?_⟩
 ·have:=h.bnd i hi; omega
 ·have:=h.lo; omega
 ·have:=h.hi; omega
theorem sgn_sg (ng:Bool) {n:Nat} (h:0<n) (x:Int):sgn ng n*x=sg ng x∧(sgn ng n=1∨sgn ng n=-1):=by
 have:n≠0:=by omega
 cases ng <;> simp [sgn,sg,this]
theorem TotP.put {r:Nat->NumR} {low high:Int} {N k q p:Nat} {c c':Nat->Int} (h:TotP r low high N k c) (hs:Sane (r k)) (h0:0<(r k).n) (ha:low<=(r k).e∧(r k).e+blen (val (r k).d (r k).n)<=high) (hl:-4194304<=low) (hqp:(r k).e-low=30*q+p) (hp:p<30)
  (hP:Piled N c (sgn (r k).ng (r k).n) (P q*(2^p*val (r k).d (r k).n)) c'):TotP r low high N (k+1) c':=by
 obtain ⟨b1,b0⟩:=sum_bound hs ha
 obtain ⟨a1,a2⟩:=ha
 have e1:(2:Int)^((r k).e-low).toNat=P q*2^p:=by
  rw [show ((r k).e-low).toNat=30*q+p by omega,Int.pow_add,P_two]
 have e2:P q*(2^p*val (r k).d (r k).n)=val (r k).d (r k).n*2^((r k).e-low).toNat:=by rw [e1]; grind
 rw [e2] at hP
 generalize hX:val (r k).d (r k).n*2^((r k).e-low).toNat=X at *
 obtain ⟨s1,s2⟩:=sgn_sg (r k).ng h0 X
 have hsum:=hP.sum
 rw [s1] at hsum
 have hpp:=two_pos (high-low).toNat
 have e3:((k+1:Nat):Int)*2^(high-low).toNat=k*2^(high-low).toNat+2^(high-low).toNat:=by rw [Int.natCast_add,Int.add_mul]; simp
 have hsx:-X<=sg (r k).ng X∧sg (r k).ng X<=X:=by cases (r k).ng <;> simp [sg] <;> omega
 refine ⟨?_,fun i hi=>?_,?_,?_⟩
 ·rw [hsum,Int.add_mul,h.sum]
  show _=sumV r k+sg (r k).ng (val (r k).d (r k).n)*pw (r k).e
  rw [pw_sub hl a1,<- hX,sg_sgn,sg_sgn]; grind
 ·have h1:=h.bnd i hi
  have h2:=pile_near s2 (hP.near i) (C:=k*1073741823) h1
  omega
 ·have:=h.lo; omega
 ·have:=h.hi; omega
theorem len_blen {d:Nat->Int} {n:Nat} (h:Nrm d n) (h0:0<n):30*(n-1)+1<=blen (val d n):=by
 obtain ⟨m,rfl⟩:∃ m,n=m+1:=⟨n-1,by omega⟩
 rw [blen_val h]
 have hd:=h.1 m (by omega)
 have ht:d m≠0:=by
  rcases h.2 with h1 | h1
  ·omega
  ·rwa [Nat.add_sub_cancel] at h1
 have:=(blen_pos (show 0<d m by omega)).1
 omega
theorem total_any (ao:Option Addr) (n cap:Nat) (r:Nat->NumR) (w:World) (h:Nums w ao n cap r) (hs:∀ i,i<n->Sane (r i)) (hn:n<=100000) (hT:Tab w) :
  Calls Tryz.prog 165 #[.slice ao n cap] w (DOut w (sumV r n)):=by
 have hl:=h.le
 have hm:=h.max
 have HS:Hid (∀ i,i<n->Sane (r i)):=hs
 go_enter Tryz.func165,Tryz.ntmps165
 go_wp2_with fail
 refine (reach_any ao n cap r _ (h.keeps (bel_alloc _ _)) hs).mono ?_
 rintro x w1 ⟨low,high,rfl,hR,hb1⟩
 clear hs
 have q0:=(hb1.block w.heap.size (by rw [size1]; omega)).trans (heap_a1 _ _)
 have x0:=blkC q0 0 rfl
 have x1:=blkC q0 1 rfl
 have x2:=blkC q0 2 rfl
 have z0:=blkF q0 0
 have z1:=blkF q0 1
 have z2:=blkF q0 2
 have hbw1:=bel_trans (bel_alloc w _) hb1
 by_cases hz:∀ i,i<n->(r i).n=0
 ·obtain ⟨rfl,rfl⟩:=hR.none hz
  go_wp2
  refine bodyPost_ret (v:=zeroV) (by simp [results,Tryz.results165,go_sem,x0,x1,x2,zeroV]) rfl ?_
  rw [sumV_zero hz]
  exact .inl ⟨dok_zero,_,rfl,DAns.zero (((hbw1.setCell (p:=⟨w.heap.size,0,none⟩) (Nat.le_refl _) _).setCell (p:=⟨w.heap.size,1,none⟩) (Nat.le_refl _) _).setCell (p:=⟨w.heap.size,2,none⟩) (Nat.le_refl _) _)⟩
 ·have hsome:∃ i,i<n∧0<(r i).n:=by
   simp only [Classical.not_forall] at hz
   obtain ⟨i,hi,hp⟩:=hz
   exact ⟨i,hi,by omega⟩
  obtain ⟨l0,l1,l2,l3⟩:=hR.some hsome
  have hlh:low<=high:=by
   obtain ⟨i,hi,hp⟩:=hsome
   have:=hR.all i hi hp
   omega
  obtain ⟨N,hN⟩:∃ N:Nat,(high-low)/30+3=(N:Int):=⟨((high-low)/30+3).toNat,by omega⟩
  go_wp2_with (at_make; refine wpList_mk rfl _ _ rfl _ _ N rfl rfl (by omega) (by omega) (by omega) ?_; intro w2 hB2 hb2)
  have hlow:-4194304<=low:=by omega
  have hbw2:=bel_trans hbw1 hb2
  have hb2':=hb2
  have HN:=h.keeps hbw1
  have HA:Hid (∀ i,i<n->0<(r i).n->low<=(r i).e∧(r i).e+blen (val (r i).d (r i).n)<=high):=hR.all
  have HLH:Hid ((high-low)/30+3=(N:Int)∧low<=high):=⟨hN,hlh⟩
  have hN3:3<=N∧N<=90000:=by omega
  have gw:w1.heap.size<w2.heap.size:=hB2.lt
  clear hR hz hsome hb2 x0 x1 x2 z0 z1 z2
  go_loopw [26] (fun i wr=>∃ (k:Nat) (c:Nat->Int),k<=n∧i=.int .i64 k∧Blk wr w1.heap.size N c∧Hid (TotP r low high N k c)∧Below w1.heap.size w1 wr∧w2.heap.size<=wr.heap.size) (fun i _=>n-(intOf i).toNat)
  case atStart=>exact ⟨0,_,Nat.zero_le _,rfl,hB2,TotP.start _ _ _ _,hb2',Nat.le_refl _⟩
  case round=>
   obtain ⟨k,c,hk,rfl,hB,HT,hbw,hgw⟩:=hrel
   by_cases hlt:k<n
   ·obtain ⟨b,off,rfl,hb,hc⟩:=HN.spot (by omega)
    obtain ⟨c0,c1,c2,hRow⟩:=(hc k hlt).keeps hbw hb
    have hRX:=RowX.of (hc k hlt).row (Nat.le_refl _)
    have hsk:=HS.out k hlt
    have hak:=HA.out k hlt
    have hput:=fun q p c' h0=>HT.out.put (q:=q) (p:=p) (c':=c') hsk h0 (hak h0) hlow
    have hskip:=fun h0=>HT.out.skip (k:=k) h0
    have hbnd:=HT.out.bnd
    clear hc
    generalize hr:r k=x at *
    obtain ⟨ng,xo,xn,xc,xd,xe⟩:=x
    obtain ⟨s1,s2,s3,s4⟩:=hsk
    simp only at c0 c1 c2 hRX hRow s1 s2 s3 s4 hput hskip hak
    by_cases h0:xn=0
    ·subst h0
     have HZ:Hid (TotP r low high N (k+1) c):=hskip rfl
     clear hput hskip hak hbnd hN hlh hRX HN
     go_wp2
     go_roundw
     case rel=>exact ⟨k+1,c,by omega,by go_num,hB.alloc _,HZ,hbw.trans ((bel_alloc _ _).mono hbw.size),by rw [size1]; omega⟩
     case measure=>simp [intOf]; omega
    ·have hlp:(0:Int)<xn:=by omega
     obtain ⟨a1,a2⟩:=hak (by omega)
     have hlb:=len_blen s1 (by omega)
     obtain ⟨q,p,hqp,hp⟩:∃ q p:Nat,xe-low=30*q+p∧p<30:=⟨((xe-low)/30).toNat,((xe-low) % 30).toNat,by omega,by omega⟩
     have hqN:q+xn+1<=N:=by omega
     have HP:Hid (∀ c',Piled N c (sgn ng xn) (P q*(2^p*val xd xn)) c'->TotP r low high N (k+1) c'):=fun c' hP=>hput q p c' (by omega) hqp hp hP
     obtain ⟨_,hsg⟩:=sgn_sg ng (show 0<xn by omega) 0
     have HSG:Hid (sgn ng xn=1∨sgn ng xn=-1):=hsg
     have HQP:Hid (xe-low=30*q+p):=hqp
     have HBD:Hid (∀ i,i<N->-((k:Int)*1073741823)<=c i∧c i<=k*1073741823):=hbnd
     have hw1:wrap64 (xe-low)=xe-low:=IntWalk.wrap64_in _ ⟨by omega,by omega⟩
     have hw2:IntKind.i64.wrap (xe-low)=xe-low:=by rw [wrap_i64_eq]; omega
     have hlen:xn<=100000:=by omega
     have q0:=heap_a1 wr (.cells #[.bool ng,.slice xo xn xc,.int .i64 xe] 40)
     have hsz:=size1 wr (.cells #[.bool ng,.slice xo xn xc,.int .i64 xe] 40)
     have hbx:Below w1.heap.size w1 (wr.alloc (.cells #[.bool ng,.slice xo xn xc,.int .i64 xe] 40)):=hbw.trans ((bel_alloc _ _).mono hbw.size)
     have hBx:=hB.alloc (.cells #[.bool ng,.slice xo xn xc,.int .i64 xe] 40)
     have hgx:wr.heap.size≠w1.heap.size:=by omega
     clear hput hskip hak hbnd hN hlh hsg hqp HN a1 a2 hlb
     go_wp2_with fail
     generalize wr.alloc (.cells #[.bool ng,.slice xo xn xc,.int .i64 xe] 40)=wx at q0 hsz hbx hBx ⊢
     have k0:=blkC q0 0 rfl
     have k1:=blkC q0 1 rfl
     have k2:=blkC q0 2 rfl
     have hb1:=bel_refl wx
     have C1:∀ W,Below wx.heap.size wx W->Calls Tryz.prog 136 #[.agg #[.bool ng,.slice xo xn xc,.int .i64 xe]] W fun y w'=>y=.returned (.int .i64 (sgn ng xn))∧Below W.heap.size W w':=fun W _=>dsign_any ng xo xn xc xe W (by omega)
     have C2:∀ W,Below wx.heap.size wx W->Calls Tryz.prog 220 #[.slice (some ⟨w1.heap.size,0,none⟩) N N,.slice xo xn xc,.int .i64 (xe-low),.int .i64 (sgn ng xn)] W fun y w'=>y=.returned (.tuple #[])∧∃ c4,Blk w' w1.heap.size N c4∧Wr w1.heap.size W w'∧Piled N c (sgn ng xn) (P q*(2^p*val xd xn)) c4:=fun W h=>
      pile_qp w1.heap.size N c xo xn xc q p xd W (hBx.keeps h) (hRX.keeps (wr_of (hbx.trans (h.mono hbx.size)))) s1.1 hlen hqN (by omega) hp _ HQP.out _ HSG.out (k*1073741823) HBD.out (by omega)
     go_region_held3 (fun W=>W.cell? ⟨wr.heap.size,0,none⟩=some (.bool ng)∧W.cell? ⟨wr.heap.size,1,none⟩=some (.slice xo xn xc)∧W.cell? ⟨wr.heap.size,2,none⟩=some (.int .i64 xe))
      (first | exact ⟨k0,k1,k2⟩ | exact keepB (by assumption) (by assumption) | exact keepW (by assumption) (by assumption) hgx)
      (first | (go_at_call 136; refine (C1 _ hb1.drew).mono ?_; rintro y w3 ⟨rfl,hbv1⟩) | (go_at_call 220; have _t:=hbv1; refine (C2 _ (bel_trans hb1.drew hbv1)).mono ?_; rintro y w4 ⟨rfl,c4,hB5,hW5,hP5⟩))
     go_wp2
     go_roundw
     case rel=>exact ⟨k+1,c4,by omega,by go_num,hB5,HP.out _ hP5,hW5.below (hbx.trans ((bel_trans hb1.drew hbv1).mono hbx.size)) (by have:=hbx.size; have:=hbv1.size; exact Nat.le_trans hbx.size hbv1.size) (Nat.le_refl _),by have:=hW5.size; have:wx.heap.size<=w3.heap.size:=hbv1.size; omega⟩
     case measure=>simp [intOf]; omega
   ·obtain rfl:k=n:=by omega
    have hbig:-P N<val c N∧val c N<P N:=by
     have h1:=HT.out.lo
     have h2:=HT.out.hi
     obtain ⟨e1,e2⟩:=HLH.out
     have h3:((k:Int))*2^(high-low).toNat<2^60*2^(high-low).toNat:=Int.mul_lt_mul_of_pos_right (by omega) (two_pos _)
     rw [<- Int.pow_add] at h3
     have h4:(2:Int)^(60+(high-low).toNat)<=P N:=by rw [P_two]; exact two_le (by omega)
     omega
    go_wp2_with fail
    refine (carry_any w1.heap.size N c wr hB (by omega) (fun i hi=>by have:=HT.out.bnd i hi; omega) hbig).mono ?_
    rintro y w5 ⟨c5,rfl,hB5,hW5,hD5,hV5⟩
    have hbw5:Below w1.heap.size w1 w5:=hW5.below hbw hbw.size (Nat.le_refl _)
    have hbw6:=bel_trans hbw1 hbw5
    have hsum:sumV r k=sg (decide (val c N<0)) (val c5 N)*pw low:=by rw [hV5]; exact HT.out.sum.symm
    have HSUM:Hid (sumV r k=sg (decide (val c N<0)) (val c5 N)*pw low):=hsum
    clear hsum hbig hV5
    generalize hneg:decide (val c N<0)=neg at *
    go_wp2_with fail
    refine (settle_any (hB5.row0 (Nat.le_refl _) (by omega)) hD5 (by omega) (hT.keeps hbw6) hlow HSUM.out).mono ?_
    rintro y w7 (⟨hok,v,rfl,hD⟩ | ⟨hno,rfl,hb7⟩)
    ·have hb7:=hD.below
     have hf7:=hD.from hbw6
     obtain ⟨ng',s',m',e',rfl,hy,hA⟩:=id hD
     obtain ⟨so,sn,sc,rfl⟩:=hA.num.shape
     have g0:=(hb7.block w.heap.size (Nat.lt_of_lt_of_le (Nat.lt_of_lt_of_le (by rw [size1]; omega) hb1.size) hbw5.size)).trans ((hbw5.block w.heap.size (Nat.lt_of_lt_of_le (by rw [size1]; omega) hb1.size)).trans q0)
     have x0:=blkC g0 0 rfl
     have x1:=blkC g0 1 rfl
     have x2:=blkC g0 2 rfl
     have z0:=blkF g0 0
     have z1:=blkF g0 1
     have z2:=blkF g0 2
     go_wp2
     refine bodyPost_ret (v:=.agg #[.bool ng',.slice so sn sc,.int .i64 e']) (by simp [results,Tryz.results165,go_sem,x0,x1,x2]) rfl ?_
     exact .inl ⟨hok,_,rfl,dans_res3 (g:=w.heap.size) hD hbw6 (Nat.le_refl _) (Nat.lt_of_lt_of_le (Nat.lt_of_lt_of_le (by rw [size1]; omega) hb1.size) hbw5.size) _ _ _⟩
    ·exact ⟨rfl,.inr ⟨hno,rfl,bel_trans hbw6 hb7⟩⟩
def NumR.V (r:NumR):Int:=sg r.ng (val r.d r.n)*pw r.e
def pair2 (x y:NumR):Nat->NumR:=fun i=>if i=0 then x else y
theorem nums2 {w:World} {g:Nat} {x y:NumR} {t:TypeId} (h:w.heap[g]?=some (.cells #[.bool x.ng,.slice x.ao x.n x.cap,.int .i64 x.e,.bool y.ng,.slice y.ao y.n y.cap,.int .i64 y.e] t (0,0))) (hx:Row w x.ao x.n x.cap x.d) (hy:Row w y.ao y.n y.cap y.d) :
    Nums w (some ⟨g,0,none⟩) 2 2 (pair2 x y) :=
  ⟨Nat.le_refl _,by decide,fun _=>⟨g,0,rfl,(Array.getElem?_eq_some_iff.1 h).1,fun i hi=>by
    match i,hi with
    | 0,_=>exact ⟨blkC h 0 rfl,blkC h 1 rfl,blkC h 2 rfl,hx⟩
    | 1,_=>exact ⟨blkC h 3 rfl,blkC h 4 rfl,blkC h 5 rfl,hy⟩⟩⟩
theorem allOk2 (x y:NumR):allOk (pair2 x y) 2=(okR x && okR y):=by
 unfold allOk
 by_cases hx:okR x=true
 ·by_cases hy:okR y=true
  ·rw [hx,hy]
   exact decide_eq_true fun i hi=>by
    match i,hi with
    | 0,_=>exact hx
    | 1,_=>exact hy
  ·have:okR y=false:=by simpa using hy
   rw [hx,this]
   exact decide_eq_false fun h=>hy (h 1 (by omega))
 ·have:okR x=false:=by simpa using hx
  rw [this,Bool.false_and]
  exact decide_eq_false fun h=>hx (h 0 (by omega))
theorem sumV2 (x y:NumR):sumV (pair2 x y) 2=x.V+y.V:=by
 show 0+x.V+y.V=_
 rw [Int.zero_add]
theorem okR_sane {x:NumR} (h:okR x=true):Sane x:=by
 rcases of_decide_eq_true h with ⟨h1,h2,h3⟩ | ⟨h1,⟨h2,h3⟩,h4,h5,h6⟩
 ·exact ⟨⟨fun i hi=>by omega,.inl h1⟩,by omega,by omega,by omega⟩
 ·exact ⟨h3,by omega,by omega,by omega⟩
theorem okR_dy {x:NumR} (h:okR x=true):Dy x.V x.ng (val x.d x.n) x.e∧val x.d x.n<P 2000∧Dok x.V:=by
 have hd:Dy x.V x.ng (val x.d x.n) x.e∧val x.d x.n<P 2000∧-1048576<=x.e∧x.e<=1048576:=by
  rcases of_decide_eq_true h with ⟨h1,h2,h3⟩ | ⟨h1,⟨h2,h3⟩,h4,h5,h6⟩
  ·exact ⟨⟨rfl,by omega,.inl ⟨by rw [h1]; rfl,h2,h3⟩⟩,by rw [h1]; show (0:Int)<P 2000; exact P_pos 2000,by omega,by omega⟩
  ·refine ⟨⟨rfl,by omega,.inr ⟨val_pos h3 h1,?_⟩⟩,?_,h5,h6⟩
   ·obtain ⟨m,hm⟩:∃ m,x.n=m+1:=⟨x.n-1,by omega⟩
    have:=val_split x.d 1 m
    rw [show 1+m=x.n by omega] at this
    rw [this]
    rw [show val x.d 1=x.d 0 by show 0+x.d 0*1=_; omega,show P 1=1073741824 from rfl]
    omega
   ·exact Int.lt_of_lt_of_le (val_lt h3.1) (P_le h2)
 exact ⟨hd.1,hd.2.1,hd.1.ok.2 hd.2⟩
theorem bel_set3 {w w1:World} (h:Below w.heap.size w w1) {g:Nat} (hg:w.heap.size<=g) (a b c:Value):Below w.heap.size w (((w1.setCell ⟨g,0,none⟩ a).setCell ⟨g,1,none⟩ b).setCell ⟨g,2,none⟩ c) :=
 ((h.setCell (p:=⟨g,0,none⟩) hg a).setCell (p:=⟨g,1,none⟩) hg b).setCell (p:=⟨g,2,none⟩) hg c
theorem heap_set {w:World} {g:Nat} {xs:Array Value} {t:TypeId} (h:w.heap[g]?=some (.cells xs t (0,0))) (i:Nat) (v:Value):(w.setCell ⟨g,i,none⟩ v).heap[g]?=some (.cells (xs.setIfInBounds i v) t (0,0)):=by
 simp [World.setCell,Array.getElem?_modify,h]
theorem bitsClass (b:Int) (w:World) (L:Lays w) :
  Calls Tryz.prog 265 #[.int .i64 b] w fun e w'=>e=.returned (.int .i64 (cls b))∧Gr w w':=by
 obtain ⟨a0,a1,a2,b0,b1,b2⟩:=L
 go_enter Tryz.func265,Tryz.ntmps265
 go_wp2_with (go_at_call 306; refine (class64 _ _).mono ?_; rintro e w1 ⟨rfl,hg⟩)
 go_ret
 exact ⟨rfl,hg⟩
theorem bitsNeg (b:Int) (w:World) (L:Lays w) (hb:rng b) :
  Calls Tryz.prog 215 #[.int .i64 b] w fun e w'=>e=.returned (.int .i64 (neg b))∧Gr w w':=by
 unfold rng at hb
 by_cases h:cls b=4
 all_goals
  go_enter Tryz.func215,Tryz.ntmps215
  go_wp2_with (go_at_call 265; refine (bitsClass _ _ L).mono ?_; rintro e w1 ⟨rfl,hg⟩)
  go_ret
  exact ⟨b_ret_int (by first | (simp [neg,h]; done) | (rw [xor_i64_sign _ hb.1 hb.2]; simp [neg,h])),hg⟩
theorem bitsCanon (b:Int) (w:World) (L:Lays w) :
    Calls Tryz.prog 246 #[.int .i64 b] w fun e w'=>e=.returned (.int .i64 (canon b))∧Gr w w':=by
  by_cases h:cls b=4 <;> by_cases h0:cls b=0
  all_goals first
    | (exfalso; omega)
    | (go_enter Tryz.func246,Tryz.ntmps246
       go_wp2_with (go_at_call 265; refine (bitsClass _ _ L).mono ?_; rintro e w1 ⟨rfl,hg⟩)
       go_ret
       exact ⟨b_ret_int (by simp [canon,h,h0]),hg⟩)
theorem val_mono {d:Nat->Int} {n m:Nat} (h:Dig d n) (hm:m<=n):val d m<=val d n:=by
 have e:=val_split d m (n-m)
 rw [show m+(n-m)=n by omega] at e
 have a:=val_nonneg (show Dig (fun i=>d (m+i)) (n-m) from fun i hi=>h (m+i) (by omega))
 have:=Int.mul_nonneg (Int.le_of_lt (P_pos m)) a
 omega
theorem small_any (ao:Option Addr) (n cap:Nat) (d:Nat->Int) (w:World) (h:Row w ao n cap d) (hd:Dig d n) (hn:n<=3) (hv:val d n<9223372036854775808) :
  Calls Tryz.prog 327 #[.slice ao n cap] w fun e w'=>e=.returned (.int .i64 (val d n))∧w'=w:=by
 have hl:=h.le
 have hm:=h.max
 have HV:Hid (val d n<9223372036854775808):=hv
 clear hv
 go_enter Tryz.func327,Tryz.ntmps327
 go_wp2
 go_loop [3,7] (fun v i=>∃ k:Nat,k<=n∧i=.int .i64 k∧v=.int .i64 (val d k)) (fun _ i=>n-(intOf i).toNat)
 case atStart=>exact ⟨0,Nat.zero_le _,rfl,rfl⟩
 case round=>
  obtain ⟨k,hk,rfl,rfl⟩:=hrel
  by_cases hlt:k<n
  ·obtain ⟨b,off,rfl,hb,hc⟩:=h.spot (by omega)
   have c:=hc k hlt
   have dk:=hd k hlt
   have v0:=val_nonneg (hd.le (show k<=n by omega))
   have v1:=val_lt (hd.le (show k<=n by omega))
   have m1:=val_mono hd (show k+1<=n by omega)
   have hv2:=HV.out
   rw [P_two] at v1
   have e1:val d (k+1)=val d k+d k*2^(30*k):=by rw [val_succ,P_two]
   have m0:0<=d k*2^(30*k):=Int.mul_nonneg dk.1 (Int.le_of_lt (two_pos _))
   have hw:wrap64 (d k*2^(30*k))=d k*2^(30*k):=IntWalk.wrap64_in _ ⟨by omega,by omega⟩
   have hor:bits .or .i64 (val d k) (d k*2^(30*k))=val d (k+1):=(or_add _ _ _ v0 v1 dk.1 (by omega)).trans e1.symm
   clear e1 m0 m1 hv2 v0 v1
   go_wp2
   go_round
   case rel=>exact ⟨k+1,by omega,by go_num,rfl⟩
   case measure=>simp [intOf]; omega
  ·obtain rfl:k=n:=by omega
   go_wp2
   go_ret
   exact ⟨rfl,rfl⟩
structure Lay64 (w:World):Prop where
 a0:w.cell? ⟨1,0,none⟩=some (.int .i64 52)
 a1:w.cell? ⟨1,1,none⟩=some (.int .i64 2047)
 a2:w.cell? ⟨1,2,none⟩=some (.int .i64 (-1074))
theorem Lay64.keeps {w w':World} (h:Lay64 w) (hb:Below w.heap.size w w'):Lay64 w':=⟨cell_keeps h.a0 hb,cell_keeps h.a1 hb,cell_keeps h.a2 hb⟩
theorem bitsPartsA (b:Int) (w:World) (L:Lay64 w) :
  Calls Tryz.prog 190 #[.int .i64 b] w fun e w'=>e=.returned (.tuple #[.bool (pneg b),.int .i64 (pmag b),.int .i64 (pexp b),.bool (pok b)])∧Below w.heap.size w w':=by
 obtain ⟨a0,a1,a2⟩:=L
 by_cases h:pok b=true
 all_goals
  go_enter Tryz.func190,Tryz.ntmps190
  go_wp2_with (go_at_call 250; refine (parts64 _ _).mono ?_; rintro e w1 ⟨rfl,hg⟩)
  refine bodyPost_ret (v:=.tuple #[.bool (pneg b),.int .i64 (pmag b),.int .i64 (pexp b),.bool (pok b)]) (by simp [results,Tryz.results190,go_sem,pneg,h]) rfl ⟨rfl,hg.be⟩
theorem pmag_in {b:Int} (hp:pok b=true):0<=pmag b∧pmag b<9007199254740992∧-1074<=pexp b∧pexp b<=971:=by
 have hf:=fld_le b
 have hr:=frc_le b
 have h1:fld b≠2047:=by simpa [pok] using hp
 unfold pmag pexp
 rw [if_neg h1,if_neg h1]
 split <;> omega
theorem ofNat_any (x:Int) (w:World) (h0:0<=x) (h1:x<9223372036854775808) :
  Calls Tryz.prog 258 #[.int .i64 x] w fun e w'=>∃ v,e=.returned (.tuple #[v,.int .i64 0])∧Ans w w' x v:=by
 have HX:=digits_nat x w h0 h1
 have HX':Hid (Calls Tryz.prog 304 #[.int .i64 x] w fun e w'=>∃ v,e=.returned v∧Ans w w' x v):=HX
 clear HX h1
 go_enter Tryz.func258,Tryz.ntmps258
 go_wp2_with fail
 refine HX'.out.mono ?_
 rintro e w2 ⟨v,rfl,hA⟩
 go_wp2
 go_ret2
 exact ⟨_,rfl,hA⟩
theorem P2000_big2:9223372036854775808<P 2000:=by
 have:=P_le (show 3<=2000 by omega)
 have e:P 3=1237940039285380274899124224:=rfl
 omega
theorem dok_small {ng:Bool} {M e:Int} (h0:0<=M) (h1:M<9223372036854775808) (e0:-1074<=e) (e1:e<=971):Dok (sg ng M*pw e):=by
 by_cases hz:M=0
 ·rw [hz,sg_zero,Int.zero_mul]; exact dok_zero
 ·obtain ⟨l,hl⟩:=isLow_ex (show 0<M by omega)
  have hy:=Dy.of ng hl (show 0<M by omega) (show -4194304<=e by omega)
  obtain ⟨c1,c2,c3⟩:=isLow_odd hl (show 0<M by omega)
  have hp:=two_pos l
  have hl63:l<63:=by
   have h3:(1:Int)*2^l<=M/2^l*2^l:=Int.mul_le_mul_of_nonneg_right (by omega) (by omega)
   rw [c3] at h3
   refine two_lt_iff ?_
   rw [show (2:Int)^63=9223372036854775808 by decide]
   omega
  refine hy.ok.2 ⟨?_,by omega,by omega⟩
  have:M/2^l<=M:=Int.ediv_le_self _ h0
  have:=P2000_big2
  omega
theorem value_yes (ng:Bool) (M e:Int) (w:World) (hT:Tab w) (h0:0<=M) (h1:M<9223372036854775808) (e0:-1074<=e) (e1:e<=971) :
  Calls Tryz.prog 201 #[.bool ng,.int .i64 M,.int .i64 e,.bool true] w fun r w'=>∃ v,r=.returned (.tuple #[v,.int .i64 0])∧DAns w w' (sg ng M*pw e) v:=by
 have hok:=dok_small (ng:=ng) h0 h1 e0 e1
 go_enter Tryz.func201,Tryz.ntmps201
 go_wp2_with fail
 refine (ofNat_any M _ h0 h1).mono ?_
 rintro r w1 ⟨v,rfl,hA⟩
 obtain ⟨so,sn,sc,d,rfl,hR,hN,hv⟩:=hA.num
 have hsn:sn<=100:=hA.num.len (k:=100) (by have:=P_le (show 3<=100 by omega); have:P 3=1237940039285380274899124224:=rfl; omega)
 have hbw:=bel_trans (bel_alloc w _) hA.below
 go_wp2_with fail
 refine (settle_any (V:=sg ng M*pw e) hR hN.1 (by omega) (hT.keeps hbw) (by omega) (by rw [hv])).mono ?_
 rintro r w7 (⟨_,v,rfl,hD⟩ | ⟨hno,_⟩)
 ·have hb7:=hD.below
  obtain ⟨ng',s',m',e',rfl,hyy,hA2⟩:=id hD
  obtain ⟨so',sn',sc',rfl⟩:=hA2.num.shape
  have q0:=((bel_trans hA.below hb7).block w.heap.size (by rw [size1]; omega)).trans (heap_a1 _ _)
  have x0:=blkC q0 0 rfl
  have x1:=blkC q0 1 rfl
  have x2:=blkC q0 2 rfl
  have z0:=blkF q0 0
  have z1:=blkF q0 1
  have z2:=blkF q0 2
  go_wp2
  refine bodyPost_ret (v:=.tuple #[.agg #[.bool ng',.slice so' sn' sc',.int .i64 e'],.int .i64 0]) (by simp [results,Tryz.results201,go_sem,x0,x1,x2]) rfl ⟨_,rfl,?_⟩
  exact dans_res3 (g:=w.heap.size) hD hbw (Nat.le_refl _) (Nat.lt_of_lt_of_le (by rw [size1]; omega) hA.below.size) _ _ _
 ·exact absurd hok hno
theorem value_no (ng:Bool) (M e:Int) (w:World) :
  Calls Tryz.prog 201 #[.bool ng,.int .i64 M,.int .i64 e,.bool false] w fun r w'=>r=.returned (.tuple #[zeroV,.int .i64 10])∧Below w.heap.size w w':=by
 go_enter Tryz.func201,Tryz.ntmps201
 go_wp2
 refine bodyPost_ret (v:=.tuple #[zeroV,.int .i64 10]) (by simp [results,Tryz.results201,go_sem,zeroV]) rfl ⟨rfl,?_⟩
 exact bel_alloc _ _
theorem dof_any (b:Int) (w:World) (L:Lay64 w) (hT:Tab w) :
  Calls Tryz.prog 150 #[.int .i64 b] w fun r w'=>∃ v er,r=.returned (.tuple #[v,.int .i64 er])∧Below w.heap.size w w'∧((pok b=true∧er=0∧DAns w w' (sg (pneg b) (pmag b)*pw (pexp b)) v)∨(pok b=false∧er=10∧v=zeroV)):=by
 have hVy:pok b=true->∀ W,Below w.heap.size w W->Calls Tryz.prog 201 #[.bool (pneg b),.int .i64 (pmag b),.int .i64 (pexp b),.bool true] W fun r w'=>∃ v,r=.returned (.tuple #[v,.int .i64 0])∧DAns W w' (sg (pneg b) (pmag b)*pw (pexp b)) v:=fun hp W hb=>by
  have hi:=pmag_in hp
  exact value_yes _ _ _ W (hT.keeps hb) (by omega) (by omega) (by omega) (by omega)
 have hP:=fun W hb=>bitsPartsA b W (L.keeps hb)
 generalize sg (pneg b) (pmag b)*pw (pexp b)=V at hVy ⊢
 generalize pneg b=ng at *
 generalize pmag b=mg at *
 generalize pexp b=ex at *
 clear L hT
 cases hp:pok b
 ·rw [hp] at hP hVy
  go_enter Tryz.func150,Tryz.ntmps150
  go_wp2_with fail
  refine (hP _ (bel_alloc _ _)).mono ?_
  rintro r w1 ⟨rfl,hb1⟩
  go_wp2_with fail
  refine (value_no _ _ _ _).mono ?_
  unfold zeroV
  rintro r w2 ⟨rfl,hb2⟩
  have hbw:=bel_trans (bel_alloc w (.cells #[.bool false,.slice none 0 0,.int .i64 0] 40)) (bel_trans hb1 hb2)
  have q0:=((bel_trans hb1 hb2).block w.heap.size (by rw [size1]; omega)).trans (heap_a1 _ _)
  have x0:=blkC q0 0 rfl
  have x1:=blkC q0 1 rfl
  have x2:=blkC q0 2 rfl
  have z0:=blkF q0 0
  have z1:=blkF q0 1
  have z2:=blkF q0 2
  go_wp2
  refine bodyPost_ret (v:=.tuple #[zeroV,.int .i64 10]) (by simp [results,Tryz.results150,go_sem,x0,x1,x2,zeroV]) rfl ⟨_,_,rfl,?_,.inr ⟨by trivial,rfl,rfl⟩⟩
  exact bel_set3 hbw (Nat.le_refl _) _ _ _
 ·rw [hp] at hP hVy
  go_enter Tryz.func150,Tryz.ntmps150
  go_wp2_with fail
  refine (hP _ (bel_alloc _ _)).mono ?_
  rintro r w1 ⟨rfl,hb1⟩
  have hbw:=bel_trans (bel_alloc w (.cells #[.bool false,.slice none 0 0,.int .i64 0] 40)) hb1
  go_wp2_with fail
  refine (hVy (by trivial) _ hbw).mono ?_
  rintro r w2 ⟨v,rfl,hD⟩
  obtain ⟨ng',s',m',e',rfl,hyy,hA2⟩:=id hD
  obtain ⟨so',sn',sc',rfl⟩:=hA2.num.shape
  have q0:=((bel_trans hb1 hD.below).block w.heap.size (by rw [size1]; omega)).trans (heap_a1 _ _)
  have x0:=blkC q0 0 rfl
  have x1:=blkC q0 1 rfl
  have x2:=blkC q0 2 rfl
  have z0:=blkF q0 0
  have z1:=blkF q0 1
  have z2:=blkF q0 2
  go_wp2
  refine bodyPost_ret (v:=.tuple #[.agg #[.bool ng',.slice so' sn' sc',.int .i64 e'],.int .i64 0]) (by simp [results,Tryz.results150,go_sem,x0,x1,x2]) rfl ⟨_,_,rfl,?_,.inl ⟨by trivial,rfl,?_⟩⟩
  ·exact bel_set3 (bel_trans hbw hD.below) (Nat.le_refl _) _ _ _
  ·exact dans_res3 (g:=w.heap.size) hD hbw (Nat.le_refl _) (Nat.lt_of_lt_of_le (by rw [size1]; omega) hb1.size) _ _ _
def bRung (way:Int) (ng:Bool):Int:=if rUp way ng true 3 then 9218868437227405312 else 9218868437227405311
def patS (ng:Bool) (r:Int):Int:=if ng then r-9223372036854775808 else r
theorem or_inf:bits BinOp.or IntKind.i64 9218868437227405312 (-9223372036854775808)=-4503599627370496:=by decide +kernel
theorem or_most:bits BinOp.or IntKind.i64 9218868437227405311 (-9223372036854775808)=-4503599627370497:=by decide +kernel
theorem Env.keeps {w w':World} (h:Env w) (hb:Below w.heap.size w w'):Env w' :=
 ⟨⟨cell_keeps h.lays.a0 hb,cell_keeps h.lays.a1 hb,cell_keeps h.lays.a2 hb,trivial,trivial,trivial⟩,fun j hj=>cell_keeps (h.tab j hj) hb⟩
theorem beyond_any (way:Int) (hw:0<=way∧way<=3) (ng:Bool) (w:World) :
  Calls Tryz.prog 302 #[wayV way,.bool ng,.int .i64 9218868437227405312,.int .i64 (-9223372036854775808)] w fun e w'=>e=.returned (.int .i64 (patS ng (bRung way ng)))∧Below w.heap.size w w':=by
 have hF:=wraise_any way hw
 have hE:=wraise_enter way
 unfold wayV bRung
 generalize wayF way=F at hF hE ⊢
 have q0:=heap_alloc_new w (.cells #[.func (.func F) #[] #[]] 282)
 have k0:=blkC q0 0 rfl
 have o1:=or_inf
 have o2:=or_most
 obtain ⟨R,hR⟩:∃ R,rUp way ng true 3=R:=⟨_,rfl⟩
 have hFF:=hF ng true 3
 rw [hR] at hFF ⊢
 clear hR hF
 cases ng <;> cases R
 all_goals
  unfold patS
  go_enter Tryz.func302,Tryz.ntmps302
  go_wp2_with (first | (refine (hFF _).mono ?_; rintro _ _ ⟨rfl,rfl⟩))
  all_goals go_ret
  all_goals exact ⟨by simp,bel_alloc _ _⟩
def r64 (way:Int) (ng sd:Bool) (mag:Nat) (exp:Int) (cut:Bool):Int × Bool :=
 let E:=rE 53 (-1074) mag exp
 let u:=rU mag (E-exp)
 let left:=rL mag cut (E-exp)
 let U:=u+(if rUp way ng (decide (u % 2=1)) left then 1 else 0)
 let neg:=ng && (decide (0<U) || sd)
 if jk 52 2047 (-1074) U E then (jp neg U E,decide (left≠0)) else (patS neg (bRung way neg),true)
theorem binary64_any (way:Int) (hw:0<=way∧way<=3) (ng sd:Bool) (mag:Nat) (exp:Int) (cut:Bool) (w:World) (Ev:Env w) (hm:mag<18446744073709551616) (he:-4500000<=exp∧exp<=4500000) :
    Calls Tryz.prog 255 #[valV ng mag exp cut sd,wayV way] w fun e w'=>e=.returned (.tuple #[.int .i64 (r64 way ng sd mag exp cut).1,.bool (r64 way ng sd mag exp cut).2])∧Below w.heap.size w w':=by
  have e64:(2:Nat)^64=18446744073709551616:=by decide
  have e53:(2:Nat)^(53:Int).toNat=9007199254740992:=by decide
  have hE:-5000000<=rE 53 (-1074) mag exp∧rE 53 (-1074) mag exp<=5000000:=by
    have hbl:Lib.bitLen mag<=64:=by
      by_cases h0:mag=0
      · rw [h0]; decide
      · exact (M.bitLen_spec mag (by omega) h0).2.2.2
    unfold rE
    omega
  have hu:rU mag (rE 53 (-1074) mag exp-exp)<=9007199254740991:=by
    by_cases h0:mag=0
    · rw [h0]; unfold rU; split <;> simp
    · have:=(rU_bits (size:=53) (low:=-1074) (exp:=exp) (by decide) (by omega) h0).1
      rw [e53] at this
      omega
  have hUn:=fun W=>units_any way hw ng mag exp (rE 53 (-1074) mag exp) cut sd W hm hE (by omega) (by omega)
  have HR:r64 way ng sd mag exp cut=(let E:=rE 53 (-1074) mag exp
    let u:=rU mag (E-exp)
    let left:=rL mag cut (E-exp)
    let U:=u+(if rUp way ng (decide (u % 2=1)) left then 1 else 0)
    let neg:=ng && (decide (0<U) || sd)
    if jk 52 2047 (-1074) U E then (jp neg U E,decide (left≠0)) else (patS neg (bRung way neg),true)):=rfl
  simp only at HR
  have hEE:rE 53 (-1074) mag exp=rE 53 (-1074) mag exp:=rfl
  obtain ⟨E,hEq⟩:∃ E,rE 53 (-1074) mag exp=E:=⟨_,rfl⟩
  rw [hEq] at hE hu hUn HR
  obtain ⟨left,hleft⟩:∃ l,rL mag cut (E-exp)=l:=⟨_,rfl⟩
  rw [hleft] at hUn HR
  obtain ⟨U,hU⟩:∃ U,rU mag (E-exp)+(if rUp way ng (decide (rU mag (E-exp) % 2=1)) left then 1 else 0)=U:=⟨_,rfl⟩
  rw [hU] at hUn HR
  have hU2:U<=9007199254740992:=by rw [<- hU]; split <;> omega
  obtain ⟨neg,hneg⟩:∃ n,(ng && (decide (0<U) || sd))=n:=⟨_,rfl⟩
  have hFl:=fun W=>float_F (wayF way) ng mag exp 53 (-1074) cut sd U E (decide (left≠0)) W hm he (by omega) (by omega) hEq (by omega) hUn
  rw [hneg] at hFl HR
  have hJ:=fun W (EW:Env W)=>bitsJoin neg (U:Int) E W EW (by unfold rng; omega) (by unfold rng; omega)
  have hB:=fun W=>beyond_any way hw neg W
  obtain ⟨other,hoth⟩:∃ o,decide (left≠0)=o:=⟨_,rfl⟩
  rw [hoth] at hFl HR
  obtain ⟨fin,hfin⟩:∃ f,jk 52 2047 (-1074) (U:Int) E=f:=⟨_,rfl⟩
  obtain ⟨pt,hpt⟩:∃ p,jp neg (U:Int) E=p:=⟨_,rfl⟩
  rw [hpt] at hJ HR
  rw [hfin] at hJ HR
  obtain ⟨by1,hby⟩:∃ b,patS neg (bRung way neg)=b:=⟨_,rfl⟩
  rw [hby] at hB HR
  rw [HR]
  have hUi:((U:Nat):Int)=((U:Nat):Int):=rfl
  have hb2:=bel_alloc2 w (.cells #[.bool ng,.int .u64 mag,.int .i64 exp,.bool cut,.bool sd] 264) (.cells #[.func (.func (wayF way)) #[] #[]] 282)
  have q1:=heap_b2 w (.cells #[.bool ng,.int .u64 mag,.int .i64 exp,.bool cut,.bool sd] 264) (.cells #[.func (.func (wayF way)) #[] #[]] 282)
  have k1:=blkC q1 0 rfl
  have HEV:Hid (Env w):=Ev
  clear Ev HR hUn hEq hleft hU hneg hoth hfin hpt hby hU2 hu hE hEE hUi e64 e53
  unfold wayV valV at *
  generalize wayF way=F at *
  go_enter Tryz.func255,Tryz.ntmps255
  go_wp2_with fail
  refine (hFl _).mono ?_
  rintro _ w1 ⟨rfl,hb1⟩
  have hbw:=bel_trans hb2 hb1
  have p1:=(hb1.block _ (Array.getElem?_eq_some_iff.1 q1).1).trans q1
  have k2:=blkC p1 0 rfl
  clear hFl hb2 hb1 q1 k1
  go_wp2_with fail
  refine (hJ _ (HEV.out.keeps hbw)).mono ?_
  rintro _ w2 ⟨rfl,hg⟩
  have hb2:=hg.be
  have hbw2:=bel_trans hbw hb2
  have p2:=(hb2.block _ (Array.getElem?_eq_some_iff.1 p1).1).trans p1
  have k3:=blkC p2 0 rfl
  clear hJ hg p1 p2 k2 hb2 hbw
  cases fin
  · go_wp2_with fail
    refine (hB _).mono ?_
    rintro _ w3 ⟨rfl,hb3⟩
    go_wp2
    all_goals go_ret2
    all_goals exact ⟨by simp,bel_trans hbw2 hb3⟩
  · go_wp2
    all_goals go_ret2
    all_goals exact ⟨by simp,hbw2⟩
theorem Num.parts {w:World} {v:Value} {V:Int} (h:Num w v V) {k:Nat} (hV:V<P k):∃ ao n cap d,v=.slice ao n cap∧Row w ao n cap d∧Nrm d n∧val d n=V∧n<=k:=by
 obtain ⟨ao,n,cap,rfl⟩:=h.shape
 have hl:=h.len hV
 obtain ⟨ao',n',cap',d,e,hR,h2,h3⟩:=h
 simp only [Value.slice.injEq] at e
 obtain ⟨rfl,rfl,rfl⟩:=e
 exact ⟨ao,n,cap,d,rfl,hR,h2,h3,hl⟩
theorem low_mod {V l:Int} (h:LowA V l) (h0:0<V) (k:Nat):decide (l<(k:Int))=decide (V % 2^k≠0):=by
 obtain ⟨j,rfl,q,hq⟩:=lowA_pos h h0
 by_cases hjk:j<k
 ·rw [decide_eq_true (by omega)]
  refine (decide_eq_true ?_).symm
  intro hz
  obtain ⟨d,hd⟩:∃ d,k=j+1+d:=⟨k-j-1,by omega⟩
  have h1:(2:Int)^k ∣ V:=Int.dvd_of_emod_eq_zero hz
  obtain ⟨c,hc⟩:=h1
  rw [hq,hd,Int.pow_add,Int.pow_succ] at hc
  have hp:=two_pos j
  have e:(2:Int)^j*(2*q+1)=2^j*(2*(2^d*c)):=by
   rw [Int.mul_comm,hc]
   simp only [Int.mul_assoc]
  have:=Int.eq_of_mul_eq_mul_left (by omega) e
  omega
 ·rw [decide_eq_false (by omega)]
  refine (decide_eq_false ?_).symm
  intro hz
  apply hz
  obtain ⟨d,hd⟩:∃ d,j=k+d:=⟨j-k,by omega⟩
  rw [hq,hd,Int.pow_add,Int.mul_comm,Int.mul_assoc]
  exact Int.mul_emod_right _ _
theorem scaled_low (ao:Option Addr) (n ca:Nat) (a:Nat->Int) (k:Nat) (w:World) (ha:Row w ao n ca a) (na:Nrm a n) (hn:n<=5000) (hk0:0<k) (hk:k<=1000000) (h0:0<val a n) (hT:Tab w) :
  Calls Tryz.prog 326 #[.slice ao n ca,.int .i64 (-(k:Int))] w fun e w'=>∃ v,e=.returned (.tuple #[v,.bool (decide (val a n % 2^k≠0))])∧Ans w w' (val a n/2^k) v:=by
 have CL:Hid (∀ W,Below w.heap.size w W->_):=fun W hb=>lower_any ao n ca k a W (ha.keeps hb) na.1 (by omega) (by omega)
 have CW:Hid (∀ W,Below w.heap.size w W->_):=fun W hb=>lowest_any ao n ca a W (ha.keeps hb) na.1 (by omega) (hT.keeps hb)
 have HM:Hid (∀ l,LowA (val a n) l->decide (l<(k:Int))=decide (val a n % 2^k≠0)):=fun l h=>low_mod h h0 k
 generalize decide (val a n % 2^k≠0)=R at HM ⊢
 generalize val a n/2^k=Q at CL ⊢
 have w1:IntKind.i64.wrap (k:Int)=(k:Int):=by rw [wrap_i64_eq]; omega
 go_enter Tryz.func326,Tryz.ntmps326
 go_wp2_with fail
 refine (CL.out _ (bel_refl _)).mono ?_
 rintro _ w2 ⟨v,rfl,hA⟩
 have hb2:=hA.below
 have HA:Hid (Ans w w2 Q v):=hA
 obtain ⟨so,sn,sc,rfl⟩:=hA.num.shape
 clear hA CL
 go_wp2_with fail
 refine (CW.out _ hb2).mono ?_
 rintro _ w3 ⟨l,rfl,hl,rfl⟩
 have hr:=HM.out l hl
 go_wp2
 all_goals refine bodyPost_ret (v:=.tuple #[.slice so sn sc,.bool R]) (by simp [results,Tryz.results326,go_sem]) rfl ⟨_,rfl,HA.out⟩
theorem scaled_zero (ao:Option Addr) (n ca:Nat) (a:Nat->Int) (w:World) (ha:Row w ao n ca a) (na:Nrm a n) (hn:n<=5000) :
  Calls Tryz.prog 326 #[.slice ao n ca,.int .i64 0] w fun e w'=>∃ v,e=.returned (.tuple #[v,.bool false])∧Ans w w' (val a n) v:=by
 have CR:Hid (Calls Tryz.prog 332 #[.slice ao n ca,.int .i64 0] w fun e w'=>∃ v,e=.returned v∧Ans w w' (val a n) v):=by
  have h:=raise_any ao n ca 0 a w ha na.1 (by omega) (by omega)
  rw [Int.pow_zero,Int.mul_one] at h
  exact h
 go_enter Tryz.func326,Tryz.ntmps326
 go_wp2_with fail
 refine CR.out.mono ?_
 rintro _ w2 ⟨v,rfl,hA⟩
 have HA:Hid (Ans w w2 (val a n) v):=hA
 obtain ⟨so,sn,sc,rfl⟩:=hA.num.shape
 clear hA CR
 go_wp2
 all_goals refine bodyPost_ret (v:=.tuple #[.slice so sn sc,.bool false]) (by simp [results,Tryz.results326,go_sem]) rfl ⟨_,rfl,HA.out⟩
theorem wr5 (W:World) (g:Nat) (a b c d e:Value):Wr g W (((((W.setCell ⟨g,0,none⟩ a).setCell ⟨g,1,none⟩ b).setCell ⟨g,2,none⟩ c).setCell ⟨g,3,none⟩ d).setCell ⟨g,4,none⟩ e):=(((((Wr.refl g W).setCell 0 a).setCell 1 b).setCell 2 c).setCell 3 d).setCell 4 e
def vK (M:Int):Nat:=blen M-62
theorem vK_small {M:Int} (h:0<=M):0<=M/2^vK M∧M/2^vK M<4611686018427387904:=by
 have hp:=two_pos (vK M)
 refine ⟨Int.ediv_nonneg h (by omega),?_⟩
 have h1:=blen_lt M
 have h2:(2:Int)^blen M<=2^(62+vK M):=two_le (by unfold vK; omega)
 have e:(2:Int)^(62+vK M)=4611686018427387904*2^vK M:=by rw [Int.pow_add]; rfl
 exact Int.ediv_lt_of_lt_mul hp (by omega)
theorem blen_nrm {a:Nat->Int} {n:Nat} (na:Nrm a n):blen (val a n)<=30*n:=by
 cases n with
 | zero=>show blen 0<=_; rw [blen_zero]; omega
 | succ m=>
  rw [blen_val na]
  have h:blen (a m)<=30:=blen_le (by show a m<1073741824; exact (na.1 m (by omega)).2)
  omega
theorem valueOf_any (ng:Bool) (ao:Option Addr) (n ca:Nat) (a:Nat->Int) (e:Int) (w:World) (ha:Row w ao n ca a) (na:Nrm a n) (hn:n<=5000) (he:-1100000<=e∧e<=1100000) (hT:Tab w) :
  Calls Tryz.prog 303 #[.agg #[.bool ng,.slice ao n ca,.int .i64 e]] w fun r w'=>r=.returned (valV ng (val a n/2^vK (val a n)).toNat (e+vK (val a n)) (decide (val a n % 2^vK (val a n)≠0)) false)∧Below w.heap.size w w':=by
 have hv0:=val_nonneg na.1
 have hbl:blen (val a n)<=150000:=by have:=blen_nrm na; omega
 have CB:Hid (∀ W,Below w.heap.size w W->_):=fun W hb=>bitLength_any ao n ca a W (ha.keeps hb) na (by omega)
 obtain ⟨k,hk⟩:∃ k,vK (val a n)=k:=⟨_,rfl⟩
 have hsm:=vK_small hv0
 rw [hk] at hsm ⊢
 have CS:Hid (∀ W,Below w.heap.size w W->Calls Tryz.prog 326 #[.slice ao n ca,.int .i64 (-(k:Int))] W fun e w'=>∃ v,e=.returned (.tuple #[v,.bool (decide (val a n % 2^k≠0))])∧Ans W w' (val a n/2^k) v):=fun W hb=>by
  by_cases h0:k=0
  ·subst h0
   have h:=scaled_zero ao n ca a W (ha.keeps hb) na hn
   simpa using h
  ·have hp:0<val a n:=by
    rcases Int.lt_or_eq_of_le hv0 with h | h
    ·exact h
    ·exfalso; rw [<- h] at hk; apply h0; rw [<- hk]; decide
   exact scaled_low ao n ca a k W (ha.keeps hb) na hn (by omega) (by unfold vK at hk; omega) hp (hT.keeps hb)
 have hbk:min (62-(blen (val a n):Int)) 0=-(k:Int):=by unfold vK at hk; omega
 obtain ⟨B,hB⟩:∃ B:Int,(blen (val a n):Int)=B:=⟨_,rfl⟩
 have hB0:0<=B∧B<=150000:=by omega
 rw [hB] at CB hbk
 have hk2:k<=150000:=by unfold vK at hk; omega
 generalize decide (val a n % 2^k≠0)=R at CS ⊢
 obtain ⟨Q,hQ⟩:∃ Q:Nat,val a n/2^k=(Q:Int):=Int.eq_ofNat_of_zero_le hsm.1
 rw [hQ] at CS hsm ⊢
 rw [Int.toNat_natCast]
 have CM:Hid (∀ (W':World) so sn sc,Num W' (.slice so sn sc) (Q:Int)->Calls Tryz.prog 327 #[.slice so sn sc] W' fun e w'=>e=.returned (.int .i64 (Q:Int))∧w'=W'):=fun W' so sn sc hA=>by
  obtain ⟨ao',n',ca',d',hs,hR,hN,hV,hl⟩:=hA.parts (k:=3) (by rw [show P 3=1237940039285380274899124224 by decide]; omega)
  simp only [Value.slice.injEq] at hs
  obtain ⟨rfl,rfl,rfl⟩:=hs
  rw [<- hV]
  exact small_any _ _ _ _ _ hR hN.1 hl (by omega)
 have w1:IntKind.i64.wrap (62-B)=62-B:=by rw [wrap_i64_eq]; omega
 have w2:IntKind.i64.wrap (e+k)=e+k:=by rw [wrap_i64_eq]; omega
 have w3:IntKind.u64.wrap (Q:Int)=(Q:Int):=by rw [IntKind.wrap_u64]; omega
 have hmin:∀ (ts:Array TypeId) (t:TypeId) (x y:Int) (w:World),(Builtin.min_ ts t #[.int .i64 x,.int .i64 y]).run Tryz.prog w=.ok (.int .i64 (min x y)) w:=fun ts t x y w=>by rw [run_min_int2]; congr 2; omega
 have q0:=heap_a2 w (.cells #[.bool ng,.slice ao n ca,.int .i64 e] 40) (.cells #[.bool false,.int .u64 0,.int .i64 0,.bool false,.bool false] 264)
 have q1:=heap_b2 w (.cells #[.bool ng,.slice ao n ca,.int .i64 e] 40) (.cells #[.bool false,.int .u64 0,.int .i64 0,.bool false,.bool false] 264)
 have hb1:=bel_alloc2 w (.cells #[.bool ng,.slice ao n ca,.int .i64 e] 40) (.cells #[.bool false,.int .u64 0,.int .i64 0,.bool false,.bool false] 264)
 clear hQ hk hB hbl hv0 hsm hT
 unfold valV
 go_enter Tryz.func303,Tryz.ntmps303
 go_wp2_with fail
 generalize (w.alloc (.cells #[.bool ng,.slice ao n ca,.int .i64 e] 40)).alloc (.cells #[.bool false,.int .u64 0,.int .i64 0,.bool false,.bool false] 264)=wx at q0 q1 hb1 ⊢
 refine (CB.out _ hb1).mono ?_
 rintro _ _ ⟨rfl,rfl⟩
 have k1:=blkC q0 1 rfl
 go_wp2_with fail
 refine (CS.out _ hb1).mono ?_
 rintro _ w4 ⟨v,rfl,hA⟩
 have hb4:=hA.below
 obtain ⟨so,sn,sc,rfl⟩:=hA.num.shape
 have CM1:Hid (Calls Tryz.prog 327 #[.slice so sn sc] w4.drew fun e w'=>e=.returned (.int .i64 (Q:Int))∧w'=w4.drew):=CM.out w4.drew so sn sc (hA.num.keeps (bel_refl w4).drew)
 have hbw:=bel_trans hb1 hb4
 have p0:=(hb4.block _ (Array.getElem?_eq_some_iff.1 q0).1).trans q0
 have p1:=(hb4.block _ (Array.getElem?_eq_some_iff.1 q1).1).trans q1
 clear CB CS k1 hA CM
 have c0:=blkC p0 0 rfl
 have c2:=blkC p0 2 rfl
 have x0:=blkC p1 0 rfl
 have x1:=blkC p1 1 rfl
 have x2:=blkC p1 2 rfl
 have x3:=blkC p1 3 rfl
 have x4:=blkC p1 4 rfl
 have z0:=blkF p1 0
 have z1:=blkF p1 1
 have z2:=blkF p1 2
 have z3:=blkF p1 3
 have z4:=blkF p1 4
 go_wp2_with fail
 have c1:=blkC p0 1 rfl
 go_region_with (go_at_call 327; refine CM1.out.mono ?_; rintro _ _ ⟨rfl,rfl⟩)
 all_goals go_wp2
 all_goals refine bodyPost_ret (v:=.agg #[.bool ng,.int .u64 Q,.int .i64 (e+k),.bool R,.bool false]) (by simp [results,Tryz.results303,go_sem,x0,x1,x2,x3,x4]) rfl ⟨rfl,?_⟩
 all_goals exact ((wr5 w4 (w.heap.size+1) _ _ _ _ _).below hbw hbw.size (Nat.le_succ _)).drew
end Go.Proofs.YtjjihmnbdeeedaaGreatDoor
