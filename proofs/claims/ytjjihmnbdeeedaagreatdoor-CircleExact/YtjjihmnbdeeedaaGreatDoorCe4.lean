/- Parts of the proof. -/
import Derived.Test.YtjjihmnbdeeedaaGreatDoorCe3
import Derived.Deep.OwnRows
import Derived.Deep.RegionWith
import Derived.Deep.CutRange
import Derived.Laws.CopyOwn
import Derived.WalkMore
import Derived.ScopeJumps
import Derived.Lib.BitFns
import Derived.Lib.TrailingZeros
import Derived.Laws.Bits64b
import Derived.Test.YtjjihmnbdeeedaaGreatDoorCe2
import Derived.WalkLawsBesides
import Derived.Deep.RegionHeld3
import Derived.Test.YtjjihmnbdeeedaaGreatDoorCe1
set_option linter.unusedVariables false
set_option linter.unusedSimpArgs false
namespace Go.Proofs.YtjjihmnbdeeedaaGreatDoor
open Go Go.RowKit Go.Proofs.YtjjihmnbdeeedaaGreatDoor.M
def Gs (U V t:Int):Prop:=0<=t∧t<1073741824∧(t-1)*V<=U∧U<(t+1)*V
structure Stp (u v:Nat->Int) (L:Nat) (U V:Int):Prop where
  du:Dig u (L+3)
  dv:Dig v (L+2)
  top:536870912<=v (L+1)
  eU:U=val u (L+3)
  eV:V=val v (L+2)
  lt:U<1073741824*V
theorem Stp.splitV {u v:Nat->Int} {L:Nat} {U V:Int} (h:Stp u v L U V):V=(v (L+1)*1073741824+v L)*P L+val v L:=by
  rw [h.eV,val_succ,val_succ,P_succ]; grind
theorem Stp.splitU {u v:Nat->Int} {L:Nat} {U V:Int} (h:Stp u v L U V):U=((u (L+2)*1073741824+u (L+1))*1073741824+u L)*P L+val u L:=by
  rw [h.eU,val_succ,val_succ,val_succ,show P (L+2)=P L*1073741824*1073741824 from rfl,show P (L+1)=P L*1073741824 from rfl]; grind
theorem Stp.topU {u v:Nat->Int} {L:Nat} {U V:Int} (h:Stp u v L U V):u (L+2)<=v (L+1):=by
  have h1:val u (L+3)=val u (L+2)+u (L+2)*P (L+2):=val_succ _ _
  have h2:val v (L+2)=val v (L+1)+v (L+1)*P (L+1):=val_succ _ _
  have a:=val_nonneg (h.du.le (show L+2<=L+3 by omega))
  have b:=val_lt (h.dv.le (show L+1<=L+2 by omega))
  have c:=h.lt
  rw [h.eU,h.eV,h1,h2] at c
  have p:=P_pos (L+1)
  have e:P (L+2)=P (L+1)*1073741824:=P_succ _
  rw [e] at c
  rcases Int.lt_or_le (v (L+1)) (u (L+2)) with q | q
  . have f:(v (L+1)+1)*(P (L+1)*1073741824)<=u (L+2)*(P (L+1)*1073741824):=mul_le_r (by omega) (by omega)
    have g:(v (L+1)+1)*(P (L+1)*1073741824)=1073741824*(v (L+1)*P (L+1))+1073741824*P (L+1):=by grind
    omega
  . exact q
theorem Stp.start {u v:Nat->Int} {L:Nat} {U V:Int} (h:Stp u v L U V) {t l:Int} (ht:0<=t) (hh:u (L+2)*1073741824+u (L+1)=t*v (L+1)+l) (hl:l<v (L+1)):U<(t+1)*V:=by
  have sU:=h.splitU
  have sV:=h.splitV
  have p:=P_pos L
  have a:=val_lt (h.du.le (show L<=L+3 by omega))
  have b:=val_nonneg (h.dv.le (show L<=L+2 by omega))
  have dL:=h.du L (by omega)
  have vL:=h.dv L (by omega)
  have e1:(u (L+2)*1073741824+u (L+1)+1)*(1073741824*P L)<=(t+1)*v (L+1)*(1073741824*P L):=mul_le_r (by rw [Int.add_mul]; omega) (by omega)
  have e2:0<=(t+1)*(v L*P L+val v L):=Int.mul_nonneg (by omega) (by have:=Int.mul_nonneg vL.1 (Int.le_of_lt p); omega)
  have e3:(t+1)*V=(t+1)*v (L+1)*(1073741824*P L)+(t+1)*(v L*P L+val v L):=by rw [sV]; grind
  have e4:U=(u (L+2)*1073741824+u (L+1)+1)*(1073741824*P L)-1073741824*P L+u L*P L+val u L:=by rw [sU]; grind
  have e5:u L*P L<=1073741823*P L:=mul_le_r (by omega) (by omega)
  omega
theorem Stp.small {u v:Nat->Int} {L:Nat} {U V:Int} (h:Stp u v L U V) {t l:Int} (hh:u (L+2)*1073741824+u (L+1)=t*v (L+1)+l) (hl:1073741823<l):t<1073741824:=by
  rcases Int.lt_or_le t 1073741824 with q | q
  . exact q
  . have a:=h.topU
    have b:=(h.du (L+1) (by omega)).2
    have c:=(h.dv (L+1) (by omega)).1
    have e:1073741824*v (L+1)<=t*v (L+1):=mul_le_r q c
    omega
theorem Stp.long {u v:Nat->Int} {L:Nat} {U V:Int} (h:Stp u v L U V) {t l:Int} (ht:0<=t) (hh:u (L+2)*1073741824+u (L+1)=t*v (L+1)+l) (hl:1073741823<l) (hU:U<(t+1)*V):Gs U V t:=by
  have a:=knuth_long h.splitV (val_lt (h.dv.le (by omega))) (h.dv L (by omega)).2 h.splitU (val_nonneg (h.du.le (by omega))) (h.du L (by omega)).1 (P_pos L) hh ht (h.small hh hl) (by omega)
  have:=val_nonneg h.dv
  rw [<- h.eV] at this
  exact ⟨ht,h.small hh hl,by rw [Int.sub_mul]; omega,hU⟩
theorem Stp.done {u v:Nat->Int} {L:Nat} {U V:Int} (h:Stp u v L U V) {t l:Int} (ht:0<=t) (hh:u (L+2)*1073741824+u (L+1)=t*v (L+1)+l) (h1:t<1073741824) (hc:t*v L<=l*1073741824+u L) (hU:U<(t+1)*V):Gs U V t :=
  ⟨ht,h1,knuth_short h.splitV (val_nonneg (h.dv.le (by omega))) (val_lt (h.dv.le (by omega))) (by have:=h.top; omega) (h.dv L (by omega)).1 h.splitU (val_nonneg (h.du.le (by omega))) (P_pos L) hh ht h1 hc,hU⟩
theorem RowX.row {g:Nat} {w:World} {ao:Option Addr} {n cap:Nat} {d:Nat->Int} (h:RowX g w ao n cap d) (hn:0<n):Row w ao n cap d :=
  ⟨h.le,h.max,(fun e=>by obtain ⟨b,off,q,_⟩:=h.spot hn; rw [q] at e; cases e),fun _=>by
    obtain ⟨b,off,q,hlt,_,hc⟩:=h.spot hn
    exact ⟨b,off,q,hlt,hc⟩⟩
def Tk (g N at_ M:Nat) (r:Nat->Int) (w w':World) (U V t:Int):Prop :=
  ∃ r',Blk w' g N r'∧(∀ i,i<at_∨at_+M<i->r' i=r i)∧Dig (fun i=>r' (at_+i)) (M+1)∧U=t*V+val (fun i=>r' (at_+i)) (M+1)∧val (fun i=>r' (at_+i)) (M+1)<V∧0<=t∧t<1073741824∧Wr g w w'
theorem Blk.cells {w:World} {g N:Nat} {r:Nat->Int} (h:Blk w g N r) {at_ n:Nat} (hn:at_+n<=N):∀ i,i<n->w.cell? ⟨g,at_+i,none⟩=some (.int .i64 ((fun j=>r (at_+j)) i)):=fun i hi=>h.cell (by omega)
theorem Out.cut {B:Nat} {w:World} {ao:Option Addr} {n cap m:Nat} {d:Nat->Int} (h:Out B w (.slice ao n cap) n d) (hm:m<=n):Out B w (.slice ao m cap) m d:=by
  refine ⟨by rw [vals_length]; omega,?_⟩
  rcases h.2 with ⟨hn,h0⟩ | ⟨g,cap',cur,hv,hB,hg,hnc,hcm,hs,ht⟩
  . simp only [Value.slice.injEq] at hn
    obtain ⟨rfl,rfl,rfl⟩:=hn
    obtain rfl:m=0:=by omega
    exact .inl ⟨rfl,rfl⟩
  . simp only [Value.slice.injEq] at hv
    obtain ⟨rfl,_,rfl⟩:=hv
    refine .inr ⟨g,cap,cur,rfl,hB,hg,by omega,hcm,hs,?_⟩
    apply vals_ext (by simp; omega)
    intro i hi
    have e:(cur.toList.take (n*1))[i]?=(vals d n)[i]?:=by rw [ht]
    rw [List.getElem?_take,if_pos (by omega),vals_get d (by omega)] at e
    rw [List.getElem?_take,if_pos (by omega)]; exact e
theorem Row.drew {w:World} {ao:Option Addr} {n cap:Nat} {d:Nat->Int} (h:Row w ao n cap d):Row w.drew ao n cap d:=⟨h.le,h.max,h.nl,h.spot⟩
theorem dig_zero {f:Nat->Int} {N M:Nat} (h:Dig f N) (hM:M<=N) (hv:val f N<P M):∀ i,M<=i->i<N->f i=0:=by
  have e:=val_split f M (N-M)
  rw [show M+(N-M)=N by omega] at e
  have a:=val_nonneg (h.le hM)
  have dh:Dig (fun i=>f (M+i)) (N-M):=fun i hi=>h (M+i) (by omega)
  have b:=val_nonneg dh
  have pm:=P_pos M
  have z:val (fun i=>f (M+i)) (N-M)=0:=by
    rcases Int.lt_or_eq_of_le b with q | q
    . have:P M*1<=P M*val (fun i=>f (M+i)) (N-M):=mul_le_l (by omega) (by omega)
      omega
    . exact q.symm
  have z2:val (fun _:Nat=>(0:Int)) (N-M)=0:=val_zeros (Nat.zero_le _) (fun _ _ _=>rfl)
  intro i hi hiN
  have:=val_inj dh (zero_dig (N-M)) (z.trans z2.symm) (i-M) (by omega)
  rwa [show M+(i-M)=i by omega] at this
theorem val_mid {r:Nat->Int} {at_ M N:Nat} (h:at_+M<=N) (hz:∀ i,at_+M<=i->i<N->r i=0):val r N=val r at_+P at_*val (fun i=>r (at_+i)) M:=by
  rw [val_zeros h hz,val_split]
theorem div_round {r:Nat->Int} {at_ m N:Nat} {V:Int} (hd:Dig r N) (h:at_+(m+1)<=N) (hV:V<P m) (hlt:val r N<V*P (at_+1)) :
    (∀ i,at_+(m+1)<=i->i<N->r i=0)∧val r N=val r at_+P at_*val (fun i=>r (at_+i)) (m+1)∧val (fun i=>r (at_+i)) (m+1)<1073741824*V:=by
  have pa:=P_pos at_
  have h1:V*P (at_+1)<=P m*P (at_+1):=mul_le_r (by omega) (Int.le_of_lt (P_pos _))
  rw [<- P_add,show m+(at_+1)=at_+(m+1) by omega] at h1
  have hz:=dig_zero hd h (by omega)
  have e:=val_mid h hz
  refine ⟨hz,e,?_⟩
  have lo:=val_nonneg (hd.le (show at_<=N by omega))
  rcases Int.lt_or_le (val (fun i=>r (at_+i)) (m+1)) (1073741824*V) with q | q
  . exact q
  . have:P at_*(1073741824*V)<=P at_*val (fun i=>r (at_+i)) (m+1):=mul_le_l q (by omega)
    rw [P_succ] at hlt
    have e2:V*(P at_*1073741824)=P at_*(1073741824*V):=by grind
    omega
def DivR (w0:World) (g gq n t K:Nat) (v:Nat->Int) (byo:Option Addr) (bcap:Nat) (AA V:Int) (k:Nat) (wr:World):Prop :=
  ∃ r qf,Blk wr g (n+1) r∧Dig r (n+1)∧Blk wr gq K qf∧Dig qf K∧(∀ i,i<K-k->qf i=0)∧AA=val qf K*V+val r (n+1)∧val r (n+1)<V*P (K-k)∧RowX g wr byo t bcap v∧Below w0.heap.size w0 wr
theorem DivR.step {w0:World} {g gq n t K:Nat} {v r qf:Nat->Int} {byo:Option Addr} {bcap:Nat} {AA V q:Int} {k at_:Nat} {wr w7:World} (hK:K=at_+1+k) (hK1:K+t<=n+1)
    (hBr:Blk wr g (n+1) r) (hDr:Dig r (n+1)) (hBq:Blk wr gq K qf) (hDq:Dig qf K) (hzq:∀ i,i<K-k->qf i=0) (hA:AA=val qf K*V+val r (n+1)) (hlt:val r (n+1)<V*P (K-k)) (hX:RowX g wr byo t bcap v) (hbw:Below w0.heap.size w0 wr)
    (hVt:V<P t) (hne:gq≠g) (hg:w0.heap.size<=g) (hgq:w0.heap.size<=gq) (hne2:0<t->∀ b off,byo=some ⟨b,off,none⟩->b≠gq) (hT:Tk g (n+1) at_ t r wr w7 (val (fun i=>r (at_+i)) (t+1)) V q) :
    DivR w0 g gq n t K v byo bcap AA V (k+1) (w7.setCell ⟨gq,at_,none⟩ (.int .i64 q)):=by
  obtain ⟨r',hB7,hS7,hD7,hU7,hlt7,hq0,hq1,hw7⟩:=hT
  obtain ⟨hz,e,_⟩:=div_round (at_:=at_) (m:=t) hDr (by omega) hVt (by rwa [show at_+1=K-k by omega])
  have hBq7:Blk w7 gq K qf:=hBq.of_block (hw7.block gq hBq.lt hne)
  have hz':∀ i,at_+(t+1)<=i->i<n+1->r' i=0:=fun i a b=>by rw [hS7 i (by omega)]; exact hz i a b
  have e':=val_mid (r:=r') (show at_+(t+1)<=n+1 by omega) hz'
  have elo:val r' at_=val r at_:=val_congr fun i hi=>hS7 i (by omega)
  have hD':Dig r' (n+1):=fun i hi=>by
    by_cases c:i<at_∨at_+t<i
    . rw [hS7 i c]; exact hDr i hi
    . have:=hD7 (i-at_) (by omega)
      simp only [show at_+(i-at_)=i by omega] at this
      exact this
  have lo0:=val_lt (hDr.le (show at_<=n+1 by omega))
  refine ⟨r',upd qf at_ q,hB7.apart (by simpa using hne.symm) _,hD',hBq7.store at_ q,hDq.upd _ ⟨hq0,hq1⟩,fun i hi=>?_,?_,?_,?_,?_⟩
  . rw [upd_other qf _ (by omega)]; exact hzq i (by omega)
  . rw [hA,val_upd qf q (show at_<K by omega),hzq at_ (by omega),e,e',elo,hU7]; grind
  . rw [show K-(k+1)=at_ by omega,e',elo]
    have h1:(val (fun i=>r' (at_+i)) (t+1)+1)*P at_<=V*P at_:=mul_le_r (by omega) (Int.le_of_lt (P_pos _))
    rw [Int.add_mul] at h1
    have h2:P at_*val (fun i=>r' (at_+i)) (t+1)=val (fun i=>r' (at_+i)) (t+1)*P at_:=Int.mul_comm _ _
    omega
  . have hx:=hX.keeps hw7
    refine ⟨hx.le,hx.max,fun hn=>?_⟩
    obtain ⟨b,off,eb,hlt,hbg,hc⟩:=hx.spot hn
    exact ⟨b,off,eb,by simpa using hlt,hbg,fun i hi=>by
      have:=World.cell?_of_block (w:=w7) (a:=⟨b,off+i,none⟩) (heap_setCell_other w7 ⟨gq,at_,none⟩ b (.int .i64 q) (hne2 hn b off eb))
      rw [this]; exact hc i hi⟩
  . exact (hw7.below hbw (by exact hbw.size) hg).setCell hgq _
theorem DivR.done {w0:World} {g gq n t K:Nat} {v:Nat->Int} {byo:Option Addr} {bcap:Nat} {AA V:Int} {wr:World} (h:DivR w0 g gq n t K v byo bcap AA V K wr) :
    ∃ r qf,Blk wr g (n+1) r∧Dig r (n+1)∧Blk wr gq K qf∧Dig qf K∧AA=val qf K*V+val r (n+1)∧val r (n+1)<V∧Below w0.heap.size w0 wr:=by
  obtain ⟨r,qf,h1,h2,h3,h4,_,h5,h6,_,h7⟩:=h
  rw [Nat.sub_self] at h6
  have e:V*P 0=V:=by show V*1=V; omega
  exact ⟨r,qf,h1,h2,h3,h4,h5,by omega,h7⟩
theorem Out.cutV {B:Nat} {w:World} {ao:Option Addr} {n cap t:Nat} {d:Nat->Int} (h:Out B w (.slice ao n cap) n d) (ht:t<=n):Out B w (cutV ao t cap) t d:=by
  unfold Go.Proofs.YtjjihmnbdeeedaaGreatDoor.cutV
  split
  . rename_i e; subst e; exact Out.nil _ _ _
  . exact h.cut ht
def Tab (w:World):Prop:=∀ j,j<64->w.cell? ⟨3,j,none⟩=some (.int .u8 ((Lib.deBruijn64tab.getD j 0:Nat):Int))
theorem Tab.keeps {w w':World} (h:Tab w) (hb:Below w.heap.size w w'):Tab w':=fun j hj=>
  (hb.cell (p:=⟨3,j,none⟩) (World.block_lt_of_cell? w _ (h j hj))).trans (h j hj)
theorem tz_key (x a:Nat) (hx:x<18446744073709551616) (hx0:x≠0) (hlow:x &&& (18446744073709551616-x)=a) :
    IntKind.u64.wrap (bits .and .u64 (x:Int) (IntKind.u64.wrap (-(x:Int)))*285870213051353865)/288230376151711744=((a*285870213051353865 % 18446744073709551616/288230376151711744:Nat):Int):=by
  have e1:IntKind.u64.wrap (-(x:Int))=((18446744073709551616-x:Nat):Int):=by rw [IntKind.wrap_u64]; omega
  rw [e1,bits_and_u64_nat x _ hx (by omega),hlow,IntKind.wrap_u64]
  omega
set_option maxHeartbeats 1000000 in
theorem tz_core (x k idx:Nat) (w:World) (hx0:((x:Int) == 0)=false)
    (key:IntKind.u64.wrap (bits .and .u64 (x:Int) (IntKind.u64.wrap (-(x:Int)))*285870213051353865)/288230376151711744=(idx:Int))
    (hi:idx<64) (hk:k<64) (hcell:w.cell? ⟨3,idx,none⟩=some (.int .u8 k)) :
    Calls Tryz.prog 286 #[.int .u64 x] w fun e w'=>e=.returned (.int .i64 k)∧w'=w:=by
  go_enter Tryz.func286,Tryz.ntmps286
  go_wp2_with (simp only [key])
  go_ret
  exact ⟨rfl,rfl⟩
theorem trailing64 (x:Nat) (hx:x<18446744073709551616) (h0:x≠0) (w:World) (hT:Tab w) :
    Calls Tryz.prog 286 #[.int .u64 x] w fun e w'=>e=.returned (.int .i64 (Lib.ctz 64 x))∧w'=w:=by
  obtain ⟨hlow,hk⟩:=Lib.lowest_bit 64 x h0 hx
  obtain ⟨hi,htab⟩:=Lib.deBruijn64_at _ hk
  have hcell:=hT _ hi
  rw [htab] at hcell
  exact tz_core x _ _ w (by simp; omega) (tz_key x _ hx h0 hlow) hi hk hcell
theorem trailing64I (x:Int) (hx0:0<x) (hx:x<1073741824) (w:World) (hT:Tab w) :
    Calls Tryz.prog 286 #[.int .u64 x] w fun e w'=>∃ l:Nat,e=.returned (.int .i64 l)∧(l<64∧IsLow x l)∧w'=w:=by
  obtain ⟨n,rfl⟩:=Int.eq_ofNat_of_zero_le (Int.le_of_lt hx0)
  obtain ⟨m,hm,hk⟩:=Lib.ctzFrom_spec 64 n (by omega) (by omega)
  have e:Lib.ctz 64 n=Lib.ctzFrom 64 n:=by simp [Lib.ctz]; omega
  rw [<- e] at hm hk
  refine (trailing64 n (by omega) (by omega) _ hT).mono ?_
  rintro e w' ⟨rfl,rfl⟩
  refine ⟨_,rfl,⟨hk,m,?_⟩,rfl⟩
  have:((n:Nat):Int)=((2^Lib.ctz 64 n*(2*m+1):Nat):Int):=congrArg _ hm
  rw [this,Int.natCast_mul,Int.mul_comm]; simp
theorem trailing (x:Int) (hx0:0<x) (hx:x<1073741824) (w:World) (hT:Tab w) :
    Calls Tryz.prog 244 #[.int .u64 x] w fun e w'=>∃ l:Nat,e=.returned (.int .i64 l)∧(l<64∧IsLow x l)∧w'=w:=by
  go_enter Tryz.func244,Tryz.ntmps244
  go_wp2_with fail
  refine (trailing64I x hx0 hx _ hT).mono ?_
  rintro e w' ⟨l,rfl,hl,rfl⟩
  go_wp2
  go_ret
  exact ⟨_,rfl,hl,rfl⟩
theorem low_unique {V:Int} {l k:Nat} (h:IsLow V l) (h':IsLow V k):l=k:=by
  have key:∀ (l k:Nat) (V:Int),IsLow V l->IsLow V k->¬ l<k:=fun l k V ⟨m,hm⟩ ⟨m',hm'⟩ hlt=>by
    obtain ⟨d,rfl⟩:∃ d,k=l+1+d:=⟨k-l-1,by omega⟩
    rw [hm,Int.pow_add,Int.pow_add] at hm'
    have e:(2*m+1)*2^l=((2*m'+1)*(2^d*2))*2^l:=by rw [hm']; grind
    have e2:=Int.eq_of_mul_eq_mul_right (Int.ne_of_gt (two_pos l)) e
    have e3:(2*m'+1)*(2^d*2)=2*((2*m'+1)*2^d):=by grind
    rw [e3] at e2
    generalize (2*m'+1)*2^d=Z at e2
    omega
  rcases Nat.lt_trichotomy l k with q | q | q
  . exact absurd q (key l k V h h')
  . exact q
  . exact absurd q (key k l V h' h)
theorem isLow_val {d:Nat->Int} {n i l:Nat} (hi:i<n) (hz:∀ j,j<i->d j=0) (h:IsLow (d i) l) (hl:l<30):IsLow (val d n) (30*i+l):=by
  obtain ⟨m,hm⟩:=h
  have e1:val d n=P i*val (fun j=>d (i+j)) (n-i):=by
    have:=val_shift0 d i (n-i) hz
    rwa [show i+(n-i)=n by omega] at this
  obtain ⟨r,hr⟩:∃ r,n-i=r+1:=⟨n-i-1,by omega⟩
  have e2:val (fun j=>d (i+j)) (n-i)=d i+1073741824*val (fun j=>d (i+(j+1))) r:=by
    rw [hr]
    have h:=val_split (fun j=>d (i+j)) 1 r
    rw [Nat.add_comm 1 r] at h
    rw [h]
    have e:(fun j=>d (i+(1+j)))=fun j=>d (i+(j+1)):=by funext j; rw [Nat.add_comm 1 j]
    show 0+d (i+0)*1+1*1073741824*_=_
    rw [e,Nat.add_zero]; omega
  have e3:(1073741824:Int)=2^l*(2*2^(29-l)):=by
    rw [<- Int.mul_assoc,Int.mul_comm (2^l) 2,Int.mul_assoc,<- Int.pow_add,show l+(29-l)=29 by omega]; rfl
  refine ⟨m+2^(29-l)*val (fun j=>d (i+(j+1))) r,?_⟩
  rw [e1,e2,hm,e3,Int.pow_add,<- P_two]
  grind
theorem low_lt {x:Int} {l:Nat} (h0:0<x) (h1:x<1073741824) (h:IsLow x l):l<30:=by
  obtain ⟨m,hm⟩:=h
  rcases Nat.lt_or_ge l 30 with q | q
  . exact q
  . have h2:(2:Int)^30<=2^l:=two_le q
    have h3:0<2*m+1:=by
      rcases Int.lt_or_le 0 (2*m+1) with r | r
      . exact r
      . have:=Int.mul_nonneg (show 0 <= -(2*m+1) by omega) (Int.le_of_lt (two_pos l))
        rw [Int.neg_mul,<- hm] at this
        omega
    have h4:1*2^l<=(2*m+1)*2^l:=mul_le_r (by omega) (Int.le_of_lt (two_pos l))
    have h5:(2:Int)^30=1073741824:=rfl
    omega
def LowA (V l:Int):Prop:=(V=0∧l=-1)∨∃ k:Nat,l=k∧IsLow V k
set_option maxHeartbeats 400000 in
theorem lowest_any (ao:Option Addr) (n cap:Nat) (d:Nat->Int) (w:World) (h:Row w ao n cap d) (hd:Dig d n) (hn:n<=100000) (hT:Tab w) :
    Calls Tryz.prog 223 #[.slice ao n cap] w fun e w'=>∃ l,e=.returned (.int .i64 l)∧LowA (val d n) l∧w'=w:=by
  have hl:=h.le
  have hm:=h.max
  go_enter Tryz.func223,Tryz.ntmps223
  go_wp2
  go_loop [6] (fun i=>∃ k:Nat,k<=n∧i=.int .i64 k∧Hid (∀ j,j<k->d j=0)) (fun i=>n-(intOf i).toNat)
  case atStart=>exact ⟨0,Nat.zero_le _,rfl,fun j hj=>by omega⟩
  case round=>
    obtain ⟨k,hk,rfl,HZ⟩:=hrel
    by_cases hlt:k<n
    . obtain ⟨b,off,rfl,hb,hc⟩:=h.spot (by omega)
      have c:=hc k hlt
      have dk:=hd k hlt
      by_cases hz:d k=0
      . go_wp2
        go_round
        case rel=>exact ⟨k+1,by omega,by go_num,fun j hj=>by by_cases e:j=k; (· rw [e]; exact hz); (· exact HZ.out j (by omega))⟩
        case measure=>simp [intOf]; omega
      . have hp:0<d k:=by omega
        go_wp2_with fail
        refine (trailing (d k) hp dk.2 _ hT).mono ?_
        rintro e w' ⟨l,rfl,⟨hl64,hlow⟩,rfl⟩
        go_wp2
        go_ret
        exact ⟨_,rfl,.inr ⟨30*k+l,by omega,isLow_val hlt HZ.out hlow (low_lt hp dk.2 hlow)⟩,rfl⟩
    . obtain rfl:k=n:=by omega
      go_wp2
      go_ret
      exact ⟨_,rfl,.inl ⟨val_zeros (Nat.zero_le k) (fun i _ hi=>HZ.out i hi),rfl⟩,rfl⟩
theorem lowA_pos {V l:Int} (h:LowA V l) (h0:0<V):∃ k:Nat,l=k∧IsLow V k:=by
  rcases h with ⟨h1,_⟩ | h
  . omega
  . exact h
theorem isLow_lt {d:Nat->Int} {n k:Nat} (hd:Dig d n) (h0:0<val d n) (h:IsLow (val d n) k):k<30*n:=by
  have h1:=val_lt hd
  rw [P_two] at h1
  obtain ⟨a,b,c⟩:=isLow_odd h h0
  have h2:(1:Int)*2^k<=val d n/2^k*2^k:=Int.mul_le_mul_of_nonneg_right (by omega) (Int.le_of_lt (two_pos k))
  exact two_lt_iff (by omega)
theorem ans_res {w W w3:World} {V:Int} {v:Value} (hv:Ans W w3 V v) (hb:Below w.heap.size w W) {g:Nat} (h0:w.heap.size<=g) (h1:g<W.heap.size) (a b c:Value) :
    Ans w (((w3.setCell ⟨g,0,none⟩ a).setCell ⟨g,1,none⟩ b).setCell ⟨g,2,none⟩ c) V v:=by
  obtain ⟨t,d,hO,hN,hV,hB⟩:=hv
  refine ⟨t,d,?_,hN,hV,?_⟩
  . exact (((hO.set_below (a:=⟨g,0,none⟩) h1 a).set_below (a:=⟨g,1,none⟩) h1 b).set_below (a:=⟨g,2,none⟩) h1 c).lower hb.size
  . exact (((hb.trans (hB.mono hb.size)).setCell (p:=⟨g,0,none⟩) h0 a).setCell (p:=⟨g,1,none⟩) h0 b).setCell (p:=⟨g,2,none⟩) h0 c
set_option maxHeartbeats 1000000 in
theorem settle_zero (ng:Bool) (ao:Option Addr) (n cap:Nat) (d:Nat->Int) (e:Int) (w:World) (h:Row w ao n cap d) (hd:Dig d n) (h0:val d n=0) :
    Calls Tryz.prog 168 #[.agg #[.bool ng,.slice ao n cap,.int .i64 e]] w fun r w'=>r=.returned zeroV∧Below w.heap.size w w':=by
  have hR:=h.keeps (bel_alloc2 w (.cells #[.bool ng,.slice ao n cap,.int .i64 e] 40) (.cells #[.bool false,.slice none 0 0,.int .i64 0] 40))
  go_enter Tryz.func168,Tryz.ntmps168
  go_wp2_with fail
  refine (trim_any _ _ _ _ _ hR).mono ?_
  rintro r w1 ⟨t,ht,htop,hz,rfl,rfl⟩
  obtain ⟨hN,hv⟩:=nrm_of_top hd ht htop hz
  have ht0:t=0:=(val_zero hN).1 (by rw [hv]; exact h0)
  subst ht0
  rw [show cutV ao 0 cap=.slice none 0 0 from rfl]
  go_wp2
  refine bodyPost_ret (v:=zeroV) (by simp [results,Tryz.results168,go_sem,zeroV]) rfl ⟨rfl,?_⟩
  exact bel_alloc2 _ _ _
set_option maxRecDepth 100000 in
set_option maxHeartbeats 4000000 in
theorem settle_yes (ng:Bool) (ao:Option Addr) (n cap:Nat) (d:Nat->Int) (e:Int) (w:World) (h:Row w ao n cap d) (hd:Dig d n) (hn:n<=100000) (hT:Tab w) (h0:0<val d n) (l:Nat) (hl:IsLow (val d n) l)
    (he0:-1048576<=e+l) (he1:e+l<=1048576) (hs:val d n/2^l<P 2000) :
    Calls Tryz.prog 168 #[.agg #[.bool ng,.slice ao n cap,.int .i64 e]] w fun r w'=>∃ s,r=.returned (.agg #[.bool ng,s,.int .i64 (e+l)])∧Ans w w' (val d n/2^l) s:=by
  have hR:=h.keeps (bel_alloc2 w (.cells #[.bool ng,.slice ao n cap,.int .i64 e] 40) (.cells #[.bool false,.slice none 0 0,.int .i64 0] 40))
  have hln:=isLow_lt hd h0 hl
  have hb1:=bel_alloc2 w (.cells #[.bool ng,.slice ao n cap,.int .i64 e] 40) (.cells #[.bool false,.slice none 0 0,.int .i64 0] 40)
  go_enter Tryz.func168,Tryz.ntmps168
  go_wp2_with fail
  refine (trim_any _ _ _ _ _ hR).mono ?_
  rintro r w1 ⟨t,ht,htop,hz,rfl,rfl⟩
  obtain ⟨hN,hv⟩:=nrm_of_top hd ht htop hz
  have ht0:t≠0:=by rintro rfl; have:=(val_zero hN).2 rfl; omega
  rw [show cutV ao t cap=.slice ao t cap by unfold cutV; rw [if_neg ht0]]
  have hn0:((t:Int) == 0)=false:=by simp; omega
  obtain ⟨bb,fb,rfl,hbb,hcb⟩:=h.spot (by omega)
  have hRt:Row ((w.alloc (.cells #[.bool ng,.slice (some ⟨bb,fb,none⟩) n cap,.int .i64 e] 40)).alloc (.cells #[.bool false,.slice none 0 0,.int .i64 0] 40)) (some ⟨bb,fb,none⟩) t cap d:=⟨by have:=h.le; omega,h.max,fun hx=>by simp at hx,fun _=>by
    obtain ⟨b',f',e',q1,q2⟩:=hR.spot (by omega)
    exact ⟨b',f',e',q1,fun i hi=>q2 i (by omega)⟩⟩
  have hbl:blen (val d n)<=60000+l:=by
    refine blen_le ?_
    obtain ⟨_,_,c⟩:=isLow_odd hl h0
    have:(val d n/2^l)*2^l<P 2000*2^l:=Int.mul_lt_mul_of_pos_right hs (two_pos l)
    rw [c,P_two,<- Int.pow_add] at this
    exact this
  have HS:Hid (val d n/2^l<P 2000):=hs
  clear hs
  go_wp2_with fail
  refine (lowest_any _ _ _ _ _ hRt hN.1 (by omega) (hT.keeps hb1)).mono ?_
  rintro r w1 ⟨lo,rfl,hlo,rfl⟩
  rw [hv] at hlo
  obtain ⟨k,rfl,hk⟩:=lowA_pos hlo h0
  obtain rfl:=low_unique hk hl
  have HL:Hid (IsLow (val d n) k):=hl
  clear hlo hk hl
  have HV:Hid (val d t=val d n):=hv
  go_wp2_with fail
  refine (bitLength_any _ _ _ _ _ hRt hN (by omega)).mono ?_
  rw [hv]
  rintro r w1 ⟨rfl,rfl⟩
  go_wp2_with fail
  have hwr:IntKind.i64.wrap (e+(k:Int))=e+k:=by rw [wrap_i64_eq]; omega
  have hb2:Below w.heap.size w ((w.alloc (.cells #[.bool ng,.slice (some ⟨bb,fb,none⟩) n cap,.int .i64 e] 40)).alloc (.cells #[.bool false,.slice none 0 0,.int .i64 0] 40)).drew:=hb1.drew
  have q0:((w.alloc (.cells #[.bool ng,.slice (some ⟨bb,fb,none⟩) n cap,.int .i64 e] 40)).alloc (.cells #[.bool false,.slice none 0 0,.int .i64 0] 40)).drew.heap[w.heap.size]?=some (.cells #[.bool ng,.slice (some ⟨bb,fb,none⟩) n cap,.int .i64 e] 40):=heap_a2 _ _ _
  have q1:((w.alloc (.cells #[.bool ng,.slice (some ⟨bb,fb,none⟩) n cap,.int .i64 e] 40)).alloc (.cells #[.bool false,.slice none 0 0,.int .i64 0] 40)).drew.heap[w.heap.size+1]?=some (.cells #[.bool false,.slice none 0 0,.int .i64 0] 40):=heap_b2 _ _ _
  have qs:((w.alloc (.cells #[.bool ng,.slice (some ⟨bb,fb,none⟩) n cap,.int .i64 e] 40)).alloc (.cells #[.bool false,.slice none 0 0,.int .i64 0] 40)).drew.heap.size=w.heap.size+2:=size2 _ _ _
  go_region_with (go_at_call 225; refine (lower_any _ _ _ k d _ hRt.drew hN.1 (by omega) (by omega)).mono ?_; rintro r w3 ⟨v,rfl,hv⟩; obtain ⟨vo,vn,vc,rfl⟩:=hv.num.shape; have g0:=(hv.below.block w.heap.size (by omega)).trans q0; have g1:=(hv.below.block (w.heap.size+1) (by omega)).trans q1; have k0:=blkC g0 0 rfl; have k2:=blkC g0 2 rfl; have k3:=blkC g1 0 rfl; have k4:=blkC g1 1 rfl; have k5:=blkC g1 2 rfl; have f0:=blkF g1 0; have f1:=blkF g1 1; have f2:=blkF g1 2; have hvv:=hv.from hb2)
  all_goals go_wp2
  all_goals refine bodyPost_ret (v:=.agg #[.bool ng,.slice vo vn vc,.int .i64 (e+k)]) (by simp [results,Tryz.results168,go_sem,k3,k4,k5,hwr]) rfl ⟨_,rfl,?_⟩
  all_goals (rw [<- HV.out]; exact ans_res (g:=w.heap.size+1) hv hb2 (Nat.le_succ _) (by omega) _ _ _)
set_option maxRecDepth 100000 in
set_option maxHeartbeats 1000000 in
theorem settle_no (ng:Bool) (ao:Option Addr) (n cap:Nat) (d:Nat->Int) (e:Int) (w:World) (h:Row w ao n cap d) (hd:Dig d n) (hn:n<=100000) (hT:Tab w) (h0:0<val d n) (l:Nat) (hl:IsLow (val d n) l)
    (hbad:e+l < -1048576∨1048576<e+l∨P 2000<=val d n/2^l) :
    Calls Tryz.prog 168 #[.agg #[.bool ng,.slice ao n cap,.int .i64 e]] w fun r w'=>r=.panicked [{ v:=.iface 29 (.int .i64 2),recovered:=false }]∧Below w.heap.size w w':=by
  have hR:=h.keeps (bel_alloc2 w (.cells #[.bool ng,.slice ao n cap,.int .i64 e] 40) (.cells #[.bool false,.slice none 0 0,.int .i64 0] 40))
  have hln:=isLow_lt hd h0 hl
  have hb1:=bel_alloc2 w (.cells #[.bool ng,.slice ao n cap,.int .i64 e] 40) (.cells #[.bool false,.slice none 0 0,.int .i64 0] 40)
  have HB:Hid (e+l < -1048576∨1048576<e+l∨P 2000<=val d n/2^l):=hbad
  clear hbad
  go_enter Tryz.func168,Tryz.ntmps168
  go_wp2_with fail
  refine (trim_any _ _ _ _ _ hR).mono ?_
  rintro r w1 ⟨t,ht,htop,hz,rfl,rfl⟩
  obtain ⟨hN,hv⟩:=nrm_of_top hd ht htop hz
  have ht0:t≠0:=by rintro rfl; have:=(val_zero hN).2 rfl; omega
  rw [show cutV ao t cap=.slice ao t cap by unfold cutV; rw [if_neg ht0]]
  have hn0:((t:Int) == 0)=false:=by simp; omega
  obtain ⟨bb,fb,rfl,hbb,hcb⟩:=h.spot (by omega)
  have hRt:Row ((w.alloc (.cells #[.bool ng,.slice (some ⟨bb,fb,none⟩) n cap,.int .i64 e] 40)).alloc (.cells #[.bool false,.slice none 0 0,.int .i64 0] 40)) (some ⟨bb,fb,none⟩) t cap d:=⟨by have:=h.le; omega,h.max,fun hx=>by simp at hx,fun _=>by
    obtain ⟨b',f',e',q1,q2⟩:=hR.spot (by omega)
    exact ⟨b',f',e',q1,fun i hi=>q2 i (by omega)⟩⟩
  go_wp2_with fail
  refine (lowest_any _ _ _ _ _ hRt hN.1 (by omega) (hT.keeps hb1)).mono ?_
  rintro r w1 ⟨lo,rfl,hlo,rfl⟩
  rw [hv] at hlo
  obtain ⟨k,rfl,hk⟩:=lowA_pos hlo h0
  obtain rfl:=low_unique hk hl
  have HL:Hid (IsLow (val d n) k):=hl
  clear hlo hk hl
  by_cases c0:e < -1048576-k
  . go_wp2
    exact ⟨rfl,rfl,hb1⟩
  . by_cases c1:1048576-k<e
    . go_wp2
      exact ⟨rfl,rfl,hb1⟩
    . have hbl:60000<(blen (val d n):Int)-k:=by
        obtain ⟨_,_,c⟩:=isLow_odd HL.out h0
        have h2:P 2000<=val d n/2^k:=by rcases HB.out with x | x | x <;> first | omega | exact x
        have:P 2000*2^k<=(val d n/2^k)*2^k:=Int.mul_le_mul_of_nonneg_right h2 (Int.le_of_lt (two_pos k))
        rw [c,P_two,<- Int.pow_add] at this
        have:=blen_ge this
        omega
      go_wp2_with fail
      refine (bitLength_any _ _ _ _ _ hRt hN (by omega)).mono ?_
      rw [hv]
      rintro r w1 ⟨rfl,rfl⟩
      have hb30:blen (val d n)<=30*n:=blen_le (by rw [<- P_two]; exact val_lt hd)
      go_wp2
      exact ⟨rfl,rfl,hb1⟩
theorem low_ex:∀ (n:Nat) (M:Int),M.natAbs<=n->0<M->∃ l,IsLow M l:=by
  intro n
  induction n with
  | zero=>intro M h h0; omega
  | succ n ih=>
    intro M h h0
    by_cases hp:M % 2=1
    . exact ⟨0,M/2,by rw [Int.pow_zero]; omega⟩
    . obtain ⟨l,m,hm⟩:=ih (M/2) (by omega) (by omega)
      refine ⟨l+1,m,?_⟩
      rw [Int.pow_succ,<- Int.mul_assoc,<- hm]; omega
theorem isLow_ex {M:Int} (h:0<M):∃ l,IsLow M l:=low_ex M.natAbs M (Nat.le_refl _) h
def gaveUp:Ending:=.panicked [{ v:=.iface 29 (.int .i64 2),recovered:=false }]
theorem settle_ok {ng:Bool} {ao:Option Addr} {n cap:Nat} {d:Nat->Int} {e:Int} {w:World} (h:Row w ao n cap d) (hd:Dig d n) (hn:n<=100000) (hT:Tab w) (he:-4194304<=e) {V:Int} (hV:V=sg ng (val d n)*pw e) (hok:Dok V) :
    Calls Tryz.prog 168 #[.agg #[.bool ng,.slice ao n cap,.int .i64 e]] w fun r w'=>∃ v,r=.returned v∧DAns w w' V v:=by
  by_cases h0:val d n=0
  . refine (settle_zero ng ao n cap d e w h hd h0).mono ?_
    rintro r w' ⟨rfl,hb⟩
    exact ⟨_,rfl,by rw [hV,h0,sg_zero,Int.zero_mul]; exact DAns.zero hb⟩
  . have hp:0<val d n:=by have:=val_nonneg hd; omega
    obtain ⟨l,hl⟩:=isLow_ex hp
    have hy:=Dy.of ng hl hp he
    rw [<- hV] at hy
    obtain ⟨o1,o2,o3⟩:=hy.ok.1 hok
    refine (settle_yes ng ao n cap d e w h hd hn hT hp l hl o2 o3 o1).mono ?_
    rintro r w' ⟨s,rfl,hA⟩
    exact ⟨_,rfl,_,_,_,_,rfl,hy,hA⟩
theorem settle_long {ng:Bool} {ao:Option Addr} {n cap:Nat} {d:Nat->Int} {e:Int} {w:World} (h:Row w ao n cap d) (hd:Dig d n) (hn:n<=100000) (hT:Tab w) (he:-4194304<=e) {V:Int} (hV:V=sg ng (val d n)*pw e) (hok:¬ Dok V) :
    Calls Tryz.prog 168 #[.agg #[.bool ng,.slice ao n cap,.int .i64 e]] w fun r w'=>r=gaveUp∧Below w.heap.size w w':=by
  by_cases h0:val d n=0
  . exact absurd (by rw [hV,h0,sg_zero,Int.zero_mul]; exact dok_zero) hok
  . have hp:0<val d n:=by have:=val_nonneg hd; omega
    obtain ⟨l,hl⟩:=isLow_ex hp
    have hy:=Dy.of ng hl hp he
    rw [<- hV] at hy
    have hno:=fun x=>hok (hy.ok.2 x)
    refine settle_no ng ao n cap d e w h hd hn hT hp l hl ?_
    by_cases c1:e+l < -1048576
    . exact .inl c1
    . by_cases c2:1048576<e+l
      . exact .inr (.inl c2)
      . exact .inr (.inr (by
          by_cases c3:P 2000<=val d n/2^l
          . exact c3
          . exact absurd ⟨by omega,by omega,by omega⟩ hno))
theorem DFit.shape {w w':World} {V er:Int} {v:Value} (h:DFit w w' V v er):∃ ng so sn sc e,v=.agg #[.bool ng,.slice so sn sc,.int .i64 e]:=by
  rcases h.2 with ⟨_,_,ng,s,m,e,h1,_,hA⟩ | ⟨_,_,h1⟩
  . obtain ⟨so,sn,sc,rfl⟩:=hA.num.shape
    exact ⟨_,_,_,_,_,h1⟩
  . exact ⟨_,_,_,_,_,h1⟩
theorem dans_res3 {w W w3:World} {V:Int} {v:Value} (hv:DAns W w3 V v) (hb:Below w.heap.size w W) {g:Nat} (h0:w.heap.size<=g) (h1:g<W.heap.size) (a b c:Value) :
    DAns w (((w3.setCell ⟨g,0,none⟩ a).setCell ⟨g,1,none⟩ b).setCell ⟨g,2,none⟩ c) V v:=by
  obtain ⟨ng,s,m,e,h2,h3,hA⟩:=hv
  exact ⟨ng,s,m,e,h2,h3,ans_res hA hb h0 h1 a b c⟩
theorem dfit_res {w W w3:World} {V er:Int} {v:Value} (hv:DFit W w3 V v er) (hb:Below w.heap.size w W) {g:Nat} (h0:w.heap.size<=g) (h1:g<W.heap.size) (a b c:Value) :
    DFit w (((w3.setCell ⟨g,0,none⟩ a).setCell ⟨g,1,none⟩ b).setCell ⟨g,2,none⟩ c) V v er:=by
  refine ⟨(((hb.trans (hv.1.mono hb.size)).setCell (p:=⟨g,0,none⟩) h0 a).setCell (p:=⟨g,1,none⟩) h0 b).setCell (p:=⟨g,2,none⟩) h0 c,?_⟩
  rcases hv.2 with ⟨o1,o2,o3⟩ | o
  . exact .inl ⟨o1,o2,dans_res3 o3 hb h0 h1 a b c⟩
  . exact .inr o
theorem told_fit {F:Nat} {cap:Array Value} {w:World} {V:Int} (hE:∀ w,(callFunc F cap).run Tryz.prog w=.ok (.enter F cap) w)
    (hy:Dok V->∀ W,Below w.heap.size w W->Calls Tryz.prog F cap W fun r W'=>∃ v,r=.returned v∧DAns W W' V v)
    (hn:¬ Dok V->∀ W,Below w.heap.size w W->Calls Tryz.prog F cap W fun r W'=>r=gaveUp∧Below W.heap.size W W') :
    Calls Tryz.prog 163 #[.func (.func F) #[] cap] w fun r w'=>∃ v er,r=.returned (.tuple #[v,.int .i64 er])∧DFit w w' V v er:=by
  by_cases h:Dok V
  . refine (told_yes F cap w V hE (hy h)).mono ?_
    rintro r w' ⟨v,rfl,hD⟩
    exact ⟨v,0,rfl,hD.below,.inl ⟨h,rfl,hD⟩⟩
  . refine (told_no F cap w hE (hn h)).mono ?_
    rintro r w' ⟨rfl,hb⟩
    exact ⟨_,2,rfl,hb,.inr ⟨h,rfl,rfl⟩⟩
theorem heap_a1 (w:World) (a:Obj):(w.alloc a).heap[w.heap.size]?=some a:=by
  show (w.heap.push a)[w.heap.size]?=some a
  simp
theorem size1 (w:World) (a:Obj):(w.alloc a).heap.size=w.heap.size+1:=by
  show (w.heap.push a).size=_
  simp
theorem cell_keeps {w w':World} {p:Addr} {v:Value} (h:w.cell? p=some v) (hb:Below w.heap.size w w'):w'.cell? p=some v :=
  (hb.cell (World.block_lt_of_cell? w _ h)).trans h
theorem size_alloc (w:World) (a:Obj):(w.alloc a).heap.size=w.heap.size+1:=size1 w a
theorem heap_past {w:World} {k:Nat} {x:Obj} (o:Obj) (h:w.heap[k]?=some x):(w.alloc o).heap[k]?=some x :=
  (Below.heap_alloc w o k (Array.getElem?_eq_some_iff.1 h).1).trans h
theorem heap_new {w:World} {k:Nat} (o:Obj) (h:k=w.heap.size):(w.alloc o).heap[k]?=some o:=by rw [h]; exact heap_a1 w o
theorem h4_0 (w:World) (a b c d:Obj):((((w.alloc a).alloc b).alloc c).alloc d).heap[w.heap.size]?=some a:=heap_past _ (heap_past _ (heap_past _ (heap_a1 w a)))
theorem h4_1 (w:World) (a b c d:Obj):((((w.alloc a).alloc b).alloc c).alloc d).heap[w.heap.size+1]?=some b:=heap_past _ (heap_past _ (heap_new _ (by rw [size_alloc])))
theorem h4_2 (w:World) (a b c d:Obj):((((w.alloc a).alloc b).alloc c).alloc d).heap[w.heap.size+2]?=some c:=heap_past _ (heap_new _ (by rw [size_alloc,size_alloc]))
theorem h4_3 (w:World) (a b c d:Obj):((((w.alloc a).alloc b).alloc c).alloc d).heap[w.heap.size+3]?=some d:=heap_new _ (by rw [size_alloc,size_alloc,size_alloc])
theorem h3_0 (w:World) (a b c:Obj):(((w.alloc a).alloc b).alloc c).heap[w.heap.size]?=some a:=heap_past _ (heap_past _ (heap_a1 w a))
theorem h3_1 (w:World) (a b c:Obj):(((w.alloc a).alloc b).alloc c).heap[w.heap.size+1]?=some b:=heap_past _ (heap_new _ (by rw [size_alloc]))
theorem h3_2 (w:World) (a b c:Obj):(((w.alloc a).alloc b).alloc c).heap[w.heap.size+2]?=some c:=heap_new _ (by rw [size_alloc,size_alloc])
theorem bel_a3 (w:World) (a b c:Obj):Below w.heap.size w (((w.alloc a).alloc b).alloc c):=(bel_alloc2 w a b).alloc (by rw [size2]; omega) _
theorem size3 (w:World) (a b c:Obj):(((w.alloc a).alloc b).alloc c).heap.size=w.heap.size+3:=by rw [size_alloc,size2]
theorem bel_a4 (w:World) (a b c d:Obj):Below w.heap.size w ((((w.alloc a).alloc b).alloc c).alloc d):=(bel_a3 w a b c).alloc (by rw [size3]; omega) _
theorem size4 (w:World) (a b c d:Obj):((((w.alloc a).alloc b).alloc c).alloc d).heap.size=w.heap.size+4:=by rw [size_alloc,size3]
theorem keepB {W w':World} {g:Nat} {a b c:Value} (h:W.cell? ⟨g,0,none⟩=some a∧W.cell? ⟨g,1,none⟩=some b∧W.cell? ⟨g,2,none⟩=some c) (hb:Below W.heap.size W w') :
    w'.cell? ⟨g,0,none⟩=some a∧w'.cell? ⟨g,1,none⟩=some b∧w'.cell? ⟨g,2,none⟩=some c:=⟨cell_keeps h.1 hb,cell_keeps h.2.1 hb,cell_keeps h.2.2 hb⟩
theorem keepW {W w':World} {g o:Nat} {a b c:Value} (h:W.cell? ⟨g,0,none⟩=some a∧W.cell? ⟨g,1,none⟩=some b∧W.cell? ⟨g,2,none⟩=some c) (hw:Wr o W w') (hg:g≠o) :
    w'.cell? ⟨g,0,none⟩=some a∧w'.cell? ⟨g,1,none⟩=some b∧w'.cell? ⟨g,2,none⟩=some c :=
  ⟨(hw.cell (World.block_lt_of_cell? W _ h.1) hg).trans h.1,(hw.cell (World.block_lt_of_cell? W _ h.2.1) hg).trans h.2.1,(hw.cell (World.block_lt_of_cell? W _ h.2.2) hg).trans h.2.2⟩
theorem keepS {W:World} {g o:Nat} {a b c:Value} (h:W.cell? ⟨g,0,none⟩=some a∧W.cell? ⟨g,1,none⟩=some b∧W.cell? ⟨g,2,none⟩=some c) (hg:g≠o) (x y z:Value) :
    (((W.setCell ⟨o,0,none⟩ x).setCell ⟨o,1,none⟩ y).setCell ⟨o,2,none⟩ z).cell? ⟨g,0,none⟩=some a∧(((W.setCell ⟨o,0,none⟩ x).setCell ⟨o,1,none⟩ y).setCell ⟨o,2,none⟩ z).cell? ⟨g,1,none⟩=some b∧(((W.setCell ⟨o,0,none⟩ x).setCell ⟨o,1,none⟩ y).setCell ⟨o,2,none⟩ z).cell? ⟨g,2,none⟩=some c :=
  keepW h (((Wr.refl o W).setCell 0 x |>.setCell 1 y).setCell 2 z) hg
def Sane (r:NumR):Prop:=Nrm r.d r.n∧r.n<=5000∧-1100000<=r.e∧r.e<=1100000
structure Rch (r:Nat->NumR) (k:Nat) (low high:Int):Prop where
  none:(∀ i,i<k->(r i).n=0)->low=9223372036854775807∧high=-9223372036854775808
  some:(∃ i,i<k∧0<(r i).n)->-1100000<=low∧low<=1100000∧-1100000<=high∧high<=1250000
  all:∀ i,i<k->0<(r i).n->low<=(r i).e∧(r i).e+blen (val (r i).d (r i).n)<=high
theorem Sane.len {x:NumR} (h:Sane x):blen (val x.d x.n)<=150000:=by
  have:=blen_le (V:=val x.d x.n) (k:=30*x.n) (by rw [<- P_two]; exact val_lt h.1.1)
  have:=h.2.1
  omega
theorem Rch.zero {r:Nat->NumR} {k:Nat} {low high:Int} (h:Rch r k low high) (h0:(r k).n=0):Rch r (k+1) low high :=
  ⟨fun hx=>h.none fun i hi=>hx i (by omega),fun ⟨i,hi,hp⟩=>h.some ⟨i,by
    by_cases e:i=k
    . subst e; omega
    . omega,hp⟩,fun i hi hp=>by
    by_cases e:i=k
    . subst e; omega
    . exact h.all i (by omega) hp⟩
theorem Rch.step {r:Nat->NumR} {k:Nat} {low high:Int} (h:Rch r k low high) (h0:0<(r k).n) (hs:Sane (r k)):Rch r (k+1) (min low (r k).e) (max high ((r k).e+blen (val (r k).d (r k).n))):=by
  obtain ⟨s1,s2,s3,s4⟩:=id hs
  have s5:=hs.len
  refine ⟨fun hx=>by have:=hx k (by omega); omega,fun _=>?_,fun i hi hp=>?_⟩
  . by_cases hx:∀ i,i<k->(r i).n=0
    . obtain ⟨a,b⟩:=h.none hx
      subst a b
      omega
    . have:∃ i,i<k∧0<(r i).n:=by
        simp only [Classical.not_forall] at hx
        obtain ⟨i,hi,hp⟩:=hx
        exact ⟨i,hi,by omega⟩
      have:=h.some this
      omega
  . by_cases e:i=k
    . subst e; omega
    . have:=h.all i (by omega) hp; omega
set_option maxRecDepth 100000 in
set_option maxHeartbeats 1000000 in
theorem reach_any (ao:Option Addr) (n cap:Nat) (r:Nat->NumR) (w:World) (h:Nums w ao n cap r) (hs:∀ i,i<n->Sane (r i)) :
    Calls Tryz.prog 219 #[.slice ao n cap] w fun x w'=>∃ low high,x=.returned (.tuple #[.int .i64 low,.int .i64 high])∧Rch r n low high∧Below w.heap.size w w':=by
  have hl:=h.le
  have hm:=h.max
  have HS:Hid (∀ i,i<n->Sane (r i)):=hs
  clear hs
  have hmin:∀ (ts:Array TypeId) (t:TypeId) (x y:Int) (w:World),(Builtin.min_ ts t #[.int .i64 x,.int .i64 y]).run Tryz.prog w=.ok (.int .i64 (min x y)) w:=fun ts t x y w=>by rw [run_min_int2]; congr 2; omega
  have hmax:∀ (ts:Array TypeId) (t:TypeId) (x y:Int) (w:World),(Builtin.max_ ts t #[.int .i64 x,.int .i64 y]).run Tryz.prog w=.ok (.int .i64 (max x y)) w:=fun ts t x y w=>by rw [run_max_int2]; congr 2; omega
  go_enter Tryz.func219,Tryz.ntmps219
  go_wp2_with fail
  go_loopw [2,3,8] (fun lo hi i wr=>∃ (k:Nat) (low high:Int),k<=n∧i=.int .i64 k∧lo=.int .i64 low∧hi=.int .i64 high∧Hid (Rch r k low high)∧Below w.heap.size w wr) (fun _ _ i _=>n-(intOf i).toNat)
  case atStart=>exact ⟨0,_,_,Nat.zero_le _,rfl,rfl,rfl,⟨fun _=>⟨rfl,rfl⟩,fun ⟨i,hi,_⟩=>by omega,fun i hi=>by omega⟩,bel_refl _⟩
  case round=>
    obtain ⟨k,low,high,hk,rfl,rfl,rfl,HR,hbw⟩:=hrel
    by_cases hlt:k<n
    . obtain ⟨b,off,rfl,hb,hc⟩:=h.spot (by omega)
      obtain ⟨c0,c1,c2,hR⟩:=(hc k hlt).keeps hbw hb
      have hsk:=HS.out k hlt
      have hst:=fun h0=>HR.out.step (k:=k) h0 hsk
      have hze:=fun h0=>HR.out.zero (k:=k) h0
      have hlen:=hsk.len
      generalize hr:r k=x at *
      obtain ⟨ng,xo,xn,xc,xd,xe⟩:=x
      obtain ⟨s1,s2,s3,s4⟩:=hsk
      simp only at c0 c1 c2 hR s1 s2 s3 s4 hst hze hlen
      by_cases h0:xn=0
      . subst h0
        have HZ:Hid (Rch r (k+1) low high):=hze rfl
        clear hst hze
        go_wp2
        go_roundw
        case rel=>exact ⟨k+1,low,high,by omega,by go_num,rfl,rfl,HZ,hbw.trans ((bel_alloc _ _).mono hbw.size)⟩
        case measure=>simp [intOf]; omega
      . have HZ:Hid (Rch r (k+1) (min low xe) (max high (xe+blen (val xd xn)))):=hst (by omega)
        have hlp:(0:Int)<xn:=by omega
        have HM:Hid (∀ L H,L=min low xe->H=max high (xe+blen (val xd xn))->Rch r (k+1) L H):=fun L H e1 e2=>by rw [e1,e2]; exact HZ.out
        have q0:=heap_a1 wr (.cells #[.bool ng,.slice xo xn xc,.int .i64 xe] 40)
        have hbx:Below w.heap.size w (wr.alloc (.cells #[.bool ng,.slice xo xn xc,.int .i64 xe] 40)):=hbw.trans ((bel_alloc _ _).mono hbw.size)
        have hRx:=hR.alloc (.cells #[.bool ng,.slice xo xn xc,.int .i64 xe] 40)
        clear HZ hst hze
        go_wp2_with fail
        generalize wr.alloc (.cells #[.bool ng,.slice xo xn xc,.int .i64 xe] 40)=wx at q0 hbx hRx ⊢
        have k0:=blkC q0 0 rfl
        have k1:=blkC q0 1 rfl
        have k2:=blkC q0 2 rfl
        have hb1:=bel_refl wx
        have C1:∀ W,Below wx.heap.size wx W->Calls Tryz.prog 270 #[.agg #[.bool ng,.slice xo xn xc,.int .i64 xe]] W fun y w'=>y=.returned (.int .i64 (xe+blen (val xd xn)))∧Below W.heap.size W w':=fun W h=>dtop_any ng xo xn xc xd xe W (hRx.keeps h) s1 (by omega) (by omega) (by omega)
        go_region_held3 (fun W=>W.cell? ⟨wr.heap.size,0,none⟩=some (.bool ng)∧W.cell? ⟨wr.heap.size,1,none⟩=some (.slice xo xn xc)∧W.cell? ⟨wr.heap.size,2,none⟩=some (.int .i64 xe))
          (first | exact ⟨k0,k1,k2⟩ | assumption | exact keepB (W:=wx.drew) ⟨k0,k1,k2⟩ hbv1)
          (first | (go_at_call 270; refine (C1 _ hb1.drew).mono ?_; rintro y w3 ⟨rfl,hbv1⟩) | fail)
        all_goals go_wp2
        all_goals
          go_roundw
          case rel=>exact ⟨k+1,_,_,by omega,by go_num,rfl,rfl,HM.out _ _ (by omega) (by omega),hbx.trans ((bel_trans hb1.drew hbv1).mono hbx.size)⟩
          case measure=>simp [intOf]; omega
    . obtain rfl:k=n:=by omega
      go_wp2
      go_ret2
      exact ⟨_,_,rfl,HR.out,hbw⟩
set_option maxHeartbeats 1000000 in
theorem carry_low (g N:Nat) (r0:Nat->Int) (w:World) (hB0:Blk w g N r0) (hNm:N<=1000000) (hC0:∀ i,i<N->-2305843009213693952<=r0 i∧r0 i<=2305843009213693952) :
    Calls Tryz.prog 271 #[.slice (some ⟨g,0,none⟩) N N] w fun e w'=>∃ o r,e=.returned (.int .i64 o)∧Blk w' g N r∧Wr g w w'∧Dig r N∧val r N+o*P N=val r0 N:=by
  have HC:Hid (∀ i,i<N->-2305843009213693952<=r0 i∧r0 i<=2305843009213693952):=hC0
  clear hC0
  go_enter Tryz.func271,Tryz.ntmps271
  go_wp2
  go_loopw [3,7] (fun o i wr=>∃ (k:Nat) (o':Int) (r:Nat->Int),k<=N∧i=.int .i64 k∧o=.int .i64 o'∧-2305843009213693952<=o'∧o'<=2305843009213693952∧Blk wr g N r∧Hid (Dig r k)∧Hid (∀ i,k<=i->r i=r0 i)∧Hid (val r k+o'*P k=val r0 k)∧Wr g w wr) (fun _ i _=>N-(intOf i).toNat)
  case atStart=>exact ⟨0,0,r0,Nat.zero_le _,rfl,rfl,by omega,by omega,hB0,fun i hi=>by omega,fun _ _=>rfl,by show (0:Int)+0*1=0; omega,Wr.refl _ _⟩
  case round=>
    obtain ⟨k,o,r,hk,rfl,rfl,ho0,ho1,hB,HD,HZ,HV,hW⟩:=hrel
    by_cases hlt:k<N
    . have cg:=hB.cell hlt
      have fg:=hB.frozen k
      have hr:-2305843009213693952<=r k∧r k<=2305843009213693952:=by rw [HZ.out k (Nat.le_refl _)]; exact HC.out k hlt
      obtain ⟨hr0,hr1⟩:=hr
      have h30:=and_30 (o+r k)
      have hm:=mod_dig (o+r k)
      have HV2:Hid (val (upd r k ((o+r k) % 1073741824)) (k+1)+(o+r k)/1073741824*P (k+1)=val r0 (k+1)):=by
        show _=_
        rw [val_succ,upd_same,val_upd_ge _ _ (Nat.le_refl _),P_succ,carry_step,val_succ,<- HV.out,HZ.out k (Nat.le_refl _)]
      go_wp2
      go_roundw
      case rel=>exact ⟨k+1,(o+r k)/1073741824,upd r k ((o+r k) % 1073741824),by omega,by go_num,rfl,by omega,by omega,hB.store k _,fun i hi=>by
          by_cases e:i=k
          . rw [e,upd_same]; exact hm
          . rw [upd_other r _ e]; exact HD.out i (by omega),fun i hi=>by rw [upd_other r _ (by omega)]; exact HZ.out i (by omega),HV2,hW.setCell _ _⟩
      case measure=>simp [intOf]; omega
    . obtain rfl:k=N:=by omega
      go_wp2
      go_ret
      exact ⟨_,r,rfl,hB,hW,HD.out,HV.out⟩
theorem carry_sign {S R o Pn:Int} (hP:0<Pn) (h0:0<=R) (h1:R<Pn) (e:R+o*Pn=S) (hS:-Pn<S∧S<Pn):(0<=S∧o=0∧R=S)∨(S<0∧o=-1∧R=S+Pn):=by
  by_cases ho:0<=o
  . by_cases ho1:o=0
    . subst ho1; left; omega
    . have:1*Pn<=o*Pn:=Int.mul_le_mul_of_nonneg_right (by omega) (by omega)
      omega
  . by_cases ho1:o=-1
    . subst ho1; right; omega
    . have:o*Pn<=(-2)*Pn:=Int.mul_le_mul_of_nonneg_right (by omega) (by omega)
      omega
theorem val_neg (r:Nat->Int) (n:Nat):val (fun i=>-r i) n=-val r n:=by
  induction n with
  | zero=>rfl
  | succ n ih=>rw [val_succ,val_succ,ih,Int.neg_mul]; omega
set_option maxHeartbeats 1000000 in
theorem carry_any (g N:Nat) (r0:Nat->Int) (w:World) (hB0:Blk w g N r0) (hNm:N<=1000000) (hC0:∀ i,i<N->-2305843009213693952<=r0 i∧r0 i<=2305843009213693952) (hS:-P N<val r0 N∧val r0 N<P N) :
    Calls Tryz.prog 221 #[.slice (some ⟨g,0,none⟩) N N] w fun e w'=>∃ r,e=.returned (.bool (decide (val r0 N<0)))∧Blk w' g N r∧Wr g w w'∧Dig r N∧sg (decide (val r0 N<0)) (val r N)=val r0 N:=by
  have HS:Hid (-P N<val r0 N∧val r0 N<P N):=hS
  clear hS
  go_enter Tryz.func221,Tryz.ntmps221
  go_wp2_with fail
  refine (carry_low g N r0 w hB0 hNm hC0).mono ?_
  rintro e w1 ⟨o,r,rfl,hB1,hW1,hD1,hV1⟩
  rcases carry_sign (P_pos N) (val_nonneg hD1) (val_lt hD1) hV1 HS.out with ⟨hs,rfl,hR⟩ | ⟨hs,rfl,hR⟩
  . have HR:Hid (val r N=val r0 N):=hR
    have HH:Hid (0<=val r0 N):=hs
    clear hV1 hR hs hC0
    go_wp2
    go_ret
    have:decide (val r0 N<0)=false:=decide_eq_false (by have:=HH.out; omega)
    exact ⟨r,ret_bool this.symm,hB1,hW1,hD1,by rw [this]; exact HR.out⟩
  . have HR:Hid (val r N=val r0 N+P N):=hR
    have HH:Hid (val r0 N<0):=hs
    have HD:Hid (Dig r N):=hD1
    clear hV1 hR hs hC0 hD1
    go_wp2
    go_loopw [9] (fun i wr=>∃ (k:Nat) (r':Nat->Int),k<=N∧i=.int .i64 k∧Blk wr g N r'∧Hid (∀ i,i<k->r' i=-r i)∧Hid (∀ i,k<=i->r' i=r i)∧Wr g w wr) (fun i _=>N-(intOf i).toNat)
    case atStart=>exact ⟨0,r,Nat.zero_le _,rfl,hB1,fun i hi=>by omega,fun _ _=>rfl,hW1⟩
    case round=>
      obtain ⟨k,r',hk,rfl,hB,HX,HY,hW⟩:=hrel
      by_cases hlt:k<N
      . have cg:=hB.cell hlt
        have fg:=hB.frozen k
        have hr:0<=r' k∧r' k<1073741824:=by rw [HY.out k (Nat.le_refl _)]; exact HD.out k hlt
        obtain ⟨hr0,hr1⟩:=hr
        go_wp2
        go_roundw
        case rel=>exact ⟨k+1,upd r' k (-r' k),by omega,by go_num,hB.store k _,fun i hi=>by
            by_cases e:i=k
            . rw [e,upd_same,HY.out k (Nat.le_refl _)]
            . rw [upd_other r' _ e]; exact HX.out i (by omega),fun i hi=>by rw [upd_other r' _ (by omega)]; exact HY.out i (by omega),hW.setCell _ _⟩
        case measure=>simp [intOf]; omega
      . obtain rfl:k=N:=by omega
        go_wp2_with fail
        refine (carry_low g k r' _ hB hNm (fun i hi=>by rw [HX.out i hi]; have:=HD.out i hi; omega)).mono ?_
        rintro e w2 ⟨o2,r2,rfl,hB2,hW2,hD2,hV2⟩
        go_wp2
        go_ret
        have e1:val r' k=-val r k:=by rw [val_congr HX.out,val_neg]
        have hn:=HH.out
        have hR:=HR.out
        have hS:=HS.out.1
        rw [e1] at hV2
        have:decide (val r0 k<0)=true:=decide_eq_true hn
        refine ⟨r2,ret_bool this.symm,hB2,hW.trans hW2,hD2,?_⟩
        rw [this]
        show -val r2 k=val r0 k
        have a0:=val_nonneg hD2
        have a1:=val_lt hD2
        rcases carry_sign (P_pos k) a0 a1 hV2 (by omega) with ⟨c1,rfl,c3⟩ | ⟨c1,rfl,c3⟩ <;> omega
end Go.Proofs.YtjjihmnbdeeedaaGreatDoor
