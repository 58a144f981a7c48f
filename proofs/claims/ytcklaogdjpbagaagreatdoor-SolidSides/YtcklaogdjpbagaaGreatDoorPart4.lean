/- Parts of the proof. -/
import Derived.Test.YtcklaogdjpbagaaGreatDoorPart3
import Derived.Deep.OwnRows
import Derived.Deep.RegionWith
import Derived.Deep.CutRange
import Derived.Laws.CopyOwn
import Derived.WalkMore
import Derived.ScopeJumps
import Derived.Lib.BitFns
import Derived.Lib.TrailingZeros
import Derived.Laws.Bits64b
import Derived.Test.YtcklaogdjpbagaaGreatDoorPart2
import Derived.WalkLawsBesides
import Derived.Deep.RegionHeld3
import Derived.Test.YtcklaogdjpbagaaGreatDoorPart1
set_option maxRecDepth 100000
set_option maxHeartbeats 8000000
set_option linter.unusedVariables false
set_option linter.unusedSimpArgs false
namespace Go.Proofs.YtcklaogdjpbagaaGreatDoor
open Go Go.Proofs.Tryz Go.RowKit Go.Proofs.YtcklaogdjpbagaaGreatDoor.M
def Gs (U V t:Int):Prop:=0<=t∧t<1073741824∧(t-1)*V<=U∧U<(t+1)*V
structure gW (u v:Nat->Int) (L:Nat) (U V:Int):Prop where
 du:aZ u (L+3)
 dv:aZ v (L+2)
 top:536870912<=v (L+1)
 eU:U=val u (L+3)
 eV:V=val v (L+2)
 lt:U<1073741824*V
theorem gW.splitV {u v:Nat->Int} {L:Nat} {U V:Int} (h:gW u v L U V):V=(v (L+1)*1073741824+v L)*P L+val v L:=by
 rw[h.eV,aJ,aJ,d9];grind
theorem gW.splitU {u v:Nat->Int} {L:Nat} {U V:Int} (h:gW u v L U V):U=((u (L+2)*1073741824+u (L+1))*1073741824+u L)*P L+val u L:=by
 rw[h.eU,aJ,aJ,aJ,show P (L+2)=P L*1073741824*1073741824 from rfl,show P (L+1)=P L*1073741824 from rfl];grind
theorem gW.topU {u v:Nat->Int} {L:Nat} {U V:Int} (h:gW u v L U V):u (L+2)<=v (L+1):=by
 have h1:val u (L+3)=val u (L+2)+u (L+2)*P (L+2):=aJ _ _
 have h2:val v (L+2)=val v (L+1)+v (L+1)*P (L+1):=aJ _ _
 have a:=aP (h.du.le (show L+2<=L+3 by omega))
 have b:=bO (h.dv.le (show L+1<=L+2 by omega))
 have c:=h.lt
 rw[h.eU,h.eV,h1,h2] at c
 have p:=bH (L+1)
 have e:P (L+2)=P (L+1)*1073741824:=d9 _
 rw[e] at c
 rcases Int.lt_or_le (v (L+1)) (u (L+2)) with q|q
 ·have f:(v (L+1)+1)*(P (L+1)*1073741824)<=u (L+2)*(P (L+1)*1073741824):=co (by omega) (by omega)
  have g:(v (L+1)+1)*(P (L+1)*1073741824)=1073741824*(v (L+1)*P (L+1))+1073741824*P (L+1):=by grind
  omega
 ·exact q
theorem gW.start {u v:Nat->Int} {L:Nat} {U V:Int} (h:gW u v L U V) {t l:Int} (ht:0<=t) (hh:u (L+2)*1073741824+u (L+1)=t*v (L+1)+l) (hl:l<v (L+1)):U<(t+1)*V:=by
 have sU:=h.splitU
 have sV:=h.splitV
 have p:=bH L
 have a:=bO (h.du.le (show L<=L+3 by omega))
 have b:=aP (h.dv.le (show L<=L+2 by omega))
 have dL:=h.du L (by omega)
 have vL:=h.dv L (by omega)
 have e1:(u (L+2)*1073741824+u (L+1)+1)*(1073741824*P L)<=(t+1)*v (L+1)*(1073741824*P L):=co (by rw[Int.add_mul];omega) (by omega)
 have e2:0<=(t+1)*(v L*P L+val v L):=Int.mul_nonneg (by omega) (by have:=Int.mul_nonneg vL.1 (Int.le_of_lt p);omega)
 have e3:(t+1)*V=(t+1)*v (L+1)*(1073741824*P L)+(t+1)*(v L*P L+val v L):=by rw[sV];grind
 have e4:U=(u (L+2)*1073741824+u (L+1)+1)*(1073741824*P L)-1073741824*P L+u L*P L+val u L:=by rw[sU];grind
 have e5:u L*P L<=1073741823*P L:=co (by omega) (by omega)
 omega
theorem gW.small {u v:Nat->Int} {L:Nat} {U V:Int} (h:gW u v L U V) {t l:Int} (hh:u (L+2)*1073741824+u (L+1)=t*v (L+1)+l) (hl:1073741823<l):t<1073741824:=by
 rcases Int.lt_or_le t 1073741824 with q|q
 ·exact q
 ·have a:=h.topU
  have b:=(h.du (L+1) (by omega)).2
  have c:=(h.dv (L+1) (by omega)).1
  have e:1073741824*v (L+1)<=t*v (L+1):=co q c
  omega
theorem gW.long {u v:Nat->Int} {L:Nat} {U V:Int} (h:gW u v L U V) {t l:Int} (ht:0<=t) (hh:u (L+2)*1073741824+u (L+1)=t*v (L+1)+l) (hl:1073741823<l) (hU:U<(t+1)*V):Gs U V t:=by
 have a:=rB h.splitV (bO (h.dv.le (by omega))) (h.dv L (by omega)).2 h.splitU (aP (h.du.le (by omega))) (h.du L (by omega)).1 (bH L) hh ht (h.small hh hl) (by omega)
 have:=aP h.dv
 rw[<- h.eV] at this
 exact⟨ht,h.small hh hl,by rw[Int.sub_mul];omega,hU⟩
theorem gW.done {u v:Nat->Int} {L:Nat} {U V:Int} (h:gW u v L U V) {t l:Int} (ht:0<=t) (hh:u (L+2)*1073741824+u (L+1)=t*v (L+1)+l) (h1:t<1073741824) (hc:t*v L<=l*1073741824+u L) (hU:U<(t+1)*V):Gs U V t :=
 ⟨ht,h1,p7 h.splitV (aP (h.dv.le (by omega))) (bO (h.dv.le (by omega))) (by have:=h.top;omega) (h.dv L (by omega)).1 h.splitU (aP (h.du.le (by omega))) (bH L) hh ht h1 hc,hU⟩
theorem ik.row {g:Nat} {w:World} {ao:Option Addr} {n cap:Nat} {d:Nat->Int} (h:ik g w ao n cap d) (hn:0<n):aE w ao n cap d :=
  ⟨h.le,h.max,(fun e=>by obtain ⟨b,off,q,_⟩:=h.spot hn; rw [q] at e; cases e),fun _=>by
    obtain⟨b,off,q,hlt,_,hc⟩:=h.spot hn
    exact ⟨b,off,q,hlt,hc⟩⟩
def Tk (g N at_ M:Nat) (r:Nat->Int) (w w':World) (U V t:Int):Prop :=
 ∃ r',bw w' g N r'∧(∀ i,i<at_∨at_+M<i->r' i=r i)∧aZ (fun i=>r' (at_+i)) (M+1)∧U=t*V+val (fun i=>r' (at_+i)) (M+1)∧val (fun i=>r' (at_+i)) (M+1)<V∧0<=t∧t<1073741824∧Wr g w w'
theorem gW.facts {u v:Nat->Int} {L M:Nat} {U V:Int} (hM:M=L+2) (h:gW u v L U V):aZ v M∧aZ u (M+1)∧V=val v M∧U=val u M+u M*P M∧V<P M∧0<=U:=by
 subst hM
 have e1:=h.eU
 have e2:=aP h.du
 have e3:=bO h.dv
 have e4:=h.eV
 refine⟨h.dv,h.du,e4,?_,by omega,by omega⟩
 rw[e1];exact aJ u (L+2)
theorem bw.cells {w:World} {g N:Nat} {r:Nat->Int} (h:bw w g N r) {at_ n:Nat} (hn:at_+n<=N):∀ i,i<n->w.cell? ⟨g,at_+i,none⟩=some (.int .i64 ((fun j=>r (at_+j)) i)):=fun i hi=>h.cell (by omega)
theorem bc.cut {B:Nat} {w:World} {ao:Option Addr} {n cap m:Nat} {d:Nat->Int} (h:bc B w (.slice ao n cap) n d) (hm:m<=n):bc B w (.slice ao m cap) m d:=by
 refine⟨by rw[ck];omega,?_⟩
 rcases h.2 with⟨hn,h0⟩|⟨g,cap',cur,hv,hB,hg,hnc,hcm,hs,ht⟩
 ·simp only[Value.slice.injEq] at hn
  obtain⟨rfl,rfl,rfl⟩:=hn
  obtain rfl:m=0:=by omega
  exact .inl ⟨rfl,rfl⟩
 ·simp only[Value.slice.injEq] at hv
  obtain⟨rfl,_,rfl⟩:=hv
  refine .inr ⟨g,cap,cur,rfl,hB,hg,by omega,hcm,hs,?_⟩
  apply gj (by simp;omega)
  intro i hi
  have e:(cur.toList.take (n*1))[i]?=(ed d n)[i]?:=by rw[ht]
  rw[List.getElem?_take,if_pos (by omega),eA d (by omega)] at e
  rw[List.getElem?_take,if_pos (by omega)];exact e
theorem aE.drew {w:World} {ao:Option Addr} {n cap:Nat} {d:Nat->Int} (h:aE w ao n cap d):aE w.drew ao n cap d:=⟨h.le,h.max,h.nl,h.spot⟩
theorem u9 {f:Nat->Int} {N M:Nat} (h:aZ f N) (hM:M<=N) (hv:val f N<P M):∀ i,M<=i->i<N->f i=0:=by
 have e:=dz f M (N-M)
 rw[show M+(N-M)=N by omega] at e
 have a:=aP (h.le hM)
 have dh:aZ (fun i=>f (M+i)) (N-M):=fun i hi=>h (M+i) (by omega)
 have b:=aP dh
 have pm:=bH M
 have z:val (fun i=>f (M+i)) (N-M)=0:=by
  rcases Int.lt_or_eq_of_le b with q|q
  ·have:P M*1<=P M*val (fun i=>f (M+i)) (N-M):=eW (by omega) (by omega)
   omega
  ·exact q.symm
 have z2:val (fun _:Nat=>(0:Int)) (N-M)=0:=dC (Nat.zero_le _) (fun _ _ _=>rfl)
 intro i hi hiN
 have:=qv dh (jy (N-M)) (z.trans z2.symm) (i-M) (by omega)
 rwa [show M+(i-M)=i by omega] at this
theorem qG {r:Nat->Int} {at_ M N:Nat} (h:at_+M<=N) (hz:∀ i,at_+M<=i->i<N->r i=0):val r N=val r at_+P at_*val (fun i=>r (at_+i)) M:=by
 rw[dC h hz,dz]
theorem tk {r:Nat->Int} {at_ m N:Nat} {V:Int} (hd:aZ r N) (h:at_+(m+1)<=N) (hV:V<P m) (hlt:val r N<V*P (at_+1)) :
  (∀ i,at_+(m+1)<=i->i<N->r i=0)∧val r N=val r at_+P at_*val (fun i=>r (at_+i)) (m+1)∧val (fun i=>r (at_+i)) (m+1)<1073741824*V:=by
 have pa:=bH at_
 have h1:V*P (at_+1)<=P m*P (at_+1):=co (by omega) (Int.le_of_lt (bH _))
 rw[<- jm,show m+(at_+1)=at_+(m+1) by omega] at h1
 have hz:=u9 hd h (by omega)
 have e:=qG h hz
 refine⟨hz,e,?_⟩
 have lo:=aP (hd.le (show at_<=N by omega))
 rcases Int.lt_or_le (val (fun i=>r (at_+i)) (m+1)) (1073741824*V) with q|q
 ·exact q
 ·have:P at_*(1073741824*V)<=P at_*val (fun i=>r (at_+i)) (m+1):=eW q (by omega)
  rw[d9] at hlt
  have e2:V*(P at_*1073741824)=P at_*(1073741824*V):=by grind
  omega
def rH (w0:World) (g gq n t K:Nat) (v:Nat->Int) (byo:Option Addr) (bcap:Nat) (AA V:Int) (k:Nat) (wr:World):Prop :=
 ∃ r qf,bw wr g (n+1) r∧aZ r (n+1)∧bw wr gq K qf∧aZ qf K∧(∀ i,i<K-k->qf i=0)∧AA=val qf K*V+val r (n+1)∧val r (n+1)<V*P (K-k)∧ik g wr byo t bcap v∧Below w0.heap.size w0 wr
theorem rH.step {w0:World} {g gq n t K:Nat} {v r qf:Nat->Int} {byo:Option Addr} {bcap:Nat} {AA V q:Int} {k at_:Nat} {wr w7:World} (hK:K=at_+1+k) (hK1:K+t<=n+1)
    (hBr:bw wr g (n+1) r) (hDr:aZ r (n+1)) (hBq:bw wr gq K qf) (hDq:aZ qf K) (hzq:∀ i,i<K-k->qf i=0) (hA:AA=val qf K*V+val r (n+1)) (hlt:val r (n+1)<V*P (K-k)) (hX:ik g wr byo t bcap v) (hbw:Below w0.heap.size w0 wr)
    (hVt:V<P t) (hne:gq≠g) (hg:w0.heap.size<=g) (hgq:w0.heap.size<=gq) (hne2:0<t->∀ b off,byo=some ⟨b,off,none⟩->b≠gq) (hT:Tk g (n+1) at_ t r wr w7 (val (fun i=>r (at_+i)) (t+1)) V q) :
    rH w0 g gq n t K v byo bcap AA V (k+1) (w7.setCell ⟨gq,at_,none⟩ (.int .i64 q)):=by
  obtain⟨r',hB7,hS7,hD7,hU7,hlt7,hq0,hq1,hw7⟩:=hT
  obtain⟨hz,e,_⟩:=tk (at_:=at_) (m:=t) hDr (by omega) hVt (by rwa [show at_+1=K-k by omega])
  have hBq7:bw w7 gq K qf:=hBq.of_block (hw7.block gq hBq.lt hne)
  have hz':∀ i,at_+(t+1)<=i->i<n+1->r' i=0:=fun i a b=>by rw[hS7 i (by omega)];exact hz i a b
  have e':=qG (r:=r') (show at_+(t+1)<=n+1 by omega) hz'
  have elo:val r' at_=val r at_:=cV fun i hi=>hS7 i (by omega)
  have hD':aZ r' (n+1):=fun i hi=>by
    by_cases c:i<at_∨at_+t<i
    · rw[hS7 i c];exact hDr i hi
    · have:=hD7 (i-at_) (by omega)
      simp only[show at_+(i-at_)=i by omega] at this
      exact this
  have lo0:=bO (hDr.le (show at_<=n+1 by omega))
  refine⟨r',bP qf at_ q,hB7.apart (by simpa using hne.symm) _,hD',hBq7.store at_ q,hDq.upd _ ⟨hq0,hq1⟩,fun i hi=>?_,?_,?_,?_,?_⟩
  · rw[aU qf _ (by omega)];exact hzq i (by omega)
  · rw[hA,mA qf q (show at_<K by omega),hzq at_ (by omega),e,e',elo,hU7];grind
  · rw[show K-(k+1)=at_ by omega,e',elo]
    have h1:(val (fun i=>r' (at_+i)) (t+1)+1)*P at_<=V*P at_:=co (by omega) (Int.le_of_lt (bH _))
    rw[Int.add_mul] at h1
    have h2:P at_*val (fun i=>r' (at_+i)) (t+1)=val (fun i=>r' (at_+i)) (t+1)*P at_:=Int.mul_comm _ _
    omega
  · have hx:=hX.keeps hw7
    refine⟨hx.le,hx.max,fun hn=>?_⟩
    obtain⟨b,off,eb,hlt,hbg,hc⟩:=hx.spot hn
    exact ⟨b,off,eb,by simpa using hlt,hbg,fun i hi=>by
      have:=World.cell?_of_block (w:=w7) (a:=⟨b,off+i,none⟩) (heap_setCell_other w7 ⟨gq,at_,none⟩ b (.int .i64 q) (hne2 hn b off eb))
      rw [this]; exact hc i hi⟩
  · exact(hw7.below hbw (by exact hbw.size) hg).setCell hgq _
theorem rH.done {w0:World} {g gq n t K:Nat} {v:Nat->Int} {byo:Option Addr} {bcap:Nat} {AA V:Int} {wr:World} (h:rH w0 g gq n t K v byo bcap AA V K wr) :
  ∃ r qf,bw wr g (n+1) r∧aZ r (n+1)∧bw wr gq K qf∧aZ qf K∧AA=val qf K*V+val r (n+1)∧val r (n+1)<V∧Below w0.heap.size w0 wr:=by
 obtain⟨r,qf,h1,h2,h3,h4,_,h5,h6,_,h7⟩:=h
 rw[Nat.sub_self] at h6
 have e:V*P 0=V:=by show V*1=V;omega
 exact⟨r,qf,h1,h2,h3,h4,h5,by omega,h7⟩
theorem bc.cutV {B:Nat} {w:World} {ao:Option Addr} {n cap t:Nat} {d:Nat->Int} (h:bc B w (.slice ao n cap) n d) (ht:t<=n):bc B w (iR ao t cap) t d:=by
 unfold Go.Proofs.YtcklaogdjpbagaaGreatDoor.iR
 split
 ·rename_i e;subst e;exact bc.nil _ _ _
 ·exact h.cut ht
def dU (w:World):Prop:=∀ j,j<64->w.cell? ⟨3,j,none⟩=some (.int .u8 ((Lib.deBruijn64tab.getD j 0:Nat):Int))
theorem dU.keeps {w w':World} (h:dU w) (hb:Below w.heap.size w w'):dU w':=fun j hj=>
 (hb.cell (p:=⟨3,j,none⟩) (World.block_lt_of_cell? w _ (h j hj))).trans (h j hj)
theorem yD (x a:Nat) (hx:x<18446744073709551616) (hx0:x≠0) (hlow:x &&& (18446744073709551616-x)=a) :
  IntKind.u64.wrap (bits .and .u64 (x:Int) (IntKind.u64.wrap (-(x:Int)))*285870213051353865)/288230376151711744=((a*285870213051353865 % 18446744073709551616/288230376151711744:Nat):Int):=by
 have e1:IntKind.u64.wrap (-(x:Int))=((18446744073709551616-x:Nat):Int):=by rw[IntKind.wrap_u64];omega
 rw[e1,bits_and_u64_nat x _ hx (by omega),hlow,IntKind.wrap_u64]
 omega
theorem xq (x k idx:Nat) (w:World) (hx0:((x:Int) == 0)=false)
  (aT:IntKind.u64.wrap (bits .and .u64 (x:Int) (IntKind.u64.wrap (-(x:Int)))*285870213051353865)/288230376151711744=(idx:Int))
  (hi:idx<64) (hk:k<64) (hcell:w.cell? ⟨3,idx,none⟩=some (.int .u8 k)) :
  Calls prog 163 #[.int .u64 x] w fun e w'=>e=.returned (.int .i64 k)∧w'=w:=by
 go_enter func163,ntmps163
 go_wp2_with (simp only[aT])
 go_ret
 exact⟨rfl,rfl⟩
theorem rI (x:Nat) (hx:x<18446744073709551616) (h0:x≠0) (w:World) (hT:dU w) :
  Calls prog 163 #[.int .u64 x] w fun e w'=>e=.returned (.int .i64 (Lib.ctz 64 x))∧w'=w:=by
 obtain⟨hlow,hk⟩:=Lib.lowest_bit 64 x h0 hx
 obtain⟨hi,htab⟩:=Lib.deBruijn64_at _ hk
 have hcell:=hT _ hi
 rw[htab] at hcell
 exact xq x _ _ w (by simp;omega) (yD x _ hx h0 hlow) hi hk hcell
theorem p9 (x:Int) (hx0:0<x) (hx:x<1073741824) (w:World) (hT:dU w) :
  Calls prog 163 #[.int .u64 x] w fun e w'=>∃ l:Nat,e=.returned (.int .i64 l)∧(l<64∧cI x l)∧w'=w:=by
 obtain⟨n,rfl⟩:=Int.eq_ofNat_of_zero_le (Int.le_of_lt hx0)
 obtain⟨m,hm,hk⟩:=Lib.ctzFrom_spec 64 n (by omega) (by omega)
 have e:Lib.ctz 64 n=Lib.ctzFrom 64 n:=by simp[Lib.ctz];omega
 rw[<- e] at hm hk
 refine(rI n (by omega) (by omega) _ hT).mono ?_
 rintro e w' ⟨rfl,rfl⟩
 refine⟨_,rfl,⟨hk,m,?_⟩,rfl⟩
 have:((n:Nat):Int)=((2^Lib.ctz 64 n*(2*m+1):Nat):Int):=congrArg _ hm
 rw[this,Int.natCast_mul,Int.mul_comm];simp
theorem lq (x:Int) (hx0:0<x) (hx:x<1073741824) (w:World) (hT:dU w) :
  Calls prog 157 #[.int .u64 x] w fun e w'=>∃ l:Nat,e=.returned (.int .i64 l)∧(l<64∧cI x l)∧w'=w:=by
 go_enter func157,ntmps157
 go_wp2_with fail
 refine(p9 x hx0 hx _ hT).mono ?_
 rintro e w' ⟨l,rfl,hl,rfl⟩
 go_wp2
 go_ret
 exact⟨_,rfl,hl,rfl⟩
theorem jE {V:Int} {l k:Nat} (h:cI V l) (h':cI V k):l=k:=by
 have aT:∀ (l k:Nat) (V:Int),cI V l->cI V k->¬ l<k:=fun l k V ⟨m,hm⟩ ⟨m',hm'⟩ hlt=>by
  obtain⟨d,rfl⟩:∃ d,k=l+1+d:=⟨k-l-1,by omega⟩
  rw[hm,Int.pow_add,Int.pow_add] at hm'
  have e:(2*m+1)*2^l=((2*m'+1)*(2^d*2))*2^l:=by rw[hm'];grind
  have e2:=Int.eq_of_mul_eq_mul_right (Int.ne_of_gt (aB l)) e
  have e3:(2*m'+1)*(2^d*2)=2*((2*m'+1)*2^d):=by grind
  rw[e3] at e2
  generalize (2*m'+1)*2^d=Z at e2
  omega
 rcases Nat.lt_trichotomy l k with q|q|q
 ·exact absurd q (aT l k V h h')
 ·exact q
 ·exact absurd q (aT k l V h' h)
theorem nc {d:Nat->Int} {n i l:Nat} (hi:i<n) (hz:∀ j,j<i->d j=0) (h:cI (d i) l) (hl:l<30):cI (val d n) (30*i+l):=by
 obtain⟨m,hm⟩:=h
 have e1:val d n=P i*val (fun j=>d (i+j)) (n-i):=by
  have:=lL d i (n-i) hz
  rwa [show i+(n-i)=n by omega] at this
 obtain⟨r,hr⟩:∃ r,n-i=r+1:=⟨n-i-1,by omega⟩
 have e2:val (fun j=>d (i+j)) (n-i)=d i+1073741824*val (fun j=>d (i+(j+1))) r:=by
  rw[hr]
  have h:=dz (fun j=>d (i+j)) 1 r
  rw[Nat.add_comm 1 r] at h
  rw[h]
  have e:(fun j=>d (i+(1+j)))=fun j=>d (i+(j+1)):=by funext j;rw[Nat.add_comm 1 j]
  show 0+d (i+0)*1+1*1073741824*_=_
  rw[e,Nat.add_zero];omega
 have e3:(1073741824:Int)=2^l*(2*2^(29-l)):=by
  rw[<- Int.mul_assoc,Int.mul_comm (2^l) 2,Int.mul_assoc,<- Int.pow_add,show l+(29-l)=29 by omega];rfl
 refine⟨m+2^(29-l)*val (fun j=>d (i+(j+1))) r,?_⟩
 rw[e1,e2,hm,e3,Int.pow_add,<- cP]
 grind
theorem tl {x:Int} {l:Nat} (h0:0<x) (h1:x<1073741824) (h:cI x l):l<30:=by
 obtain⟨m,hm⟩:=h
 rcases Nat.lt_or_ge l 30 with q|q
 ·exact q
 ·have h2:(2:Int)^30<=2^l:=cF q
  have h3:0<2*m+1:=by
   rcases Int.lt_or_le 0 (2*m+1) with r|r
   ·exact r
   ·have:=Int.mul_nonneg (show 0 <= -(2*m+1) by omega) (Int.le_of_lt (aB l))
    rw[Int.neg_mul,<- hm] at this
    omega
  have h4:1*2^l<=(2*m+1)*2^l:=co (by omega) (Int.le_of_lt (aB l))
  have h5:(2:Int)^30=1073741824:=rfl
  omega
def lr (V l:Int):Prop:=(V=0∧l=-1)∨∃ k:Nat,l=k∧cI V k
theorem lR (ao:Option Addr) (n cap:Nat) (d:Nat->Int) (w:World) (h:aE w ao n cap d) (hd:aZ d n) (hn:n<=100000) (hT:dU w) :
  Calls prog 141 #[.slice ao n cap] w fun e w'=>∃ l,e=.returned (.int .i64 l)∧lr (val d n) l∧w'=w:=by
 have hl:=h.le
 have hm:=h.max
 go_enter func141,ntmps141
 go_wp2
 go_loop [6] (fun i=>∃ k:Nat,k<=n∧i=.int .i64 k∧Hid (∀ j,j<k->d j=0)) (fun i=>n-(intOf i).toNat)
 case atStart=>exact⟨0,Nat.zero_le _,rfl,fun j hj=>by omega⟩
 case round=>
  obtain⟨k,hk,rfl,HZ⟩:=hrel
  by_cases hlt:k<n
  ·obtain⟨b,off,rfl,hb,hc⟩:=h.spot (by omega)
   have c:=hc k hlt
   have dk:=hd k hlt
   by_cases hz:d k=0
   ·go_wp2
    go_round
    case rel=>exact⟨k+1,by omega,by go_num,fun j hj=>by by_cases e:j=k;(· rw[e];exact hz);(· exact HZ.out j (by omega))⟩
    case measure=>simp[intOf];omega
   ·have hp:0<d k:=by omega
    go_wp2_with fail
    refine(lq (d k) hp dk.2 _ hT).mono ?_
    rintro e w' ⟨l,rfl,⟨hl64,hlow⟩,rfl⟩
    go_wp2
    go_ret
    exact⟨_,rfl,.inr ⟨30*k+l,by omega,nc hlt HZ.out hlow (tl hp dk.2 hlow)⟩,rfl⟩
  ·obtain rfl:k=n:=by omega
   go_wp2
   go_ret
   exact⟨_,rfl,.inl ⟨dC (Nat.zero_le k) (fun i _ hi=>HZ.out i hi),rfl⟩,rfl⟩
def jF (V:Int) (i:Nat):Bool:=V/2^i % 2 == 1
theorem xr {d:Nat->Int} {n q p:Nat} (hd:aZ d n) (hq:q<n) (hp:p<30):val d n/2^(30*q+p) % 2=d q/2^p % 2:=by
 have hpw:=bH q
 rw[Int.pow_add,<- cP,<- Int.ediv_ediv_of_nonneg (Int.le_of_lt hpw),<- lk d (by omega) hd]
 obtain⟨r,hr⟩:∃ r,n-q=r+1:=⟨n-q-1,by omega⟩
 have h:=dz (fun j=>d (q+j)) 1 r
 rw[Nat.add_comm 1 r] at h
 rw[hr,h]
 have e3:(1073741824:Int)=2*2^(29-p)*2^p:=by
  rw[Int.mul_assoc,<- Int.pow_add,show 29-p+p=29 by omega];rfl
 have e4:val (fun j=>d (q+j)) 1+P 1*val (fun i=>d (q+(1+i))) r=d q+(2*2^(29-p)*val (fun i=>d (q+(1+i))) r)*2^p:=by
  show 0+d (q+0)*1+1*1073741824*_=_
  rw[Nat.add_zero,e3];grind
 rw[e4,Int.add_mul_ediv_right _ _ (Int.ne_of_gt (aB p)),Int.mul_assoc 2,Int.add_mul_emod_self_left]
theorem va {V:Int} {i:Nat} (h0:0<=V) (h:ax V<=i):jF V i=false:=by
 have h1:=gk V
 have h2:(2:Int)^ax V<=2^i:=cF h
 unfold jF
 rw[Int.ediv_eq_zero_of_lt h0 (Int.lt_of_lt_of_le h1 h2)];rfl
theorem oD {V l:Int} (h:lr V l) (h0:0<V):∃ k:Nat,l=k∧cI V k:=by
 rcases h with⟨h1,_⟩|h
 ·omega
 ·exact h
theorem oE {d:Nat->Int} {n k:Nat} (hd:aZ d n) (h0:0<val d n) (h:cI (val d n) k):k<30*n:=by
 have h1:=bO hd
 rw[cP] at h1
 obtain⟨a,b,c⟩:=el h h0
 have h2:(1:Int)*2^k<=val d n/2^k*2^k:=Int.mul_le_mul_of_nonneg_right (by omega) (Int.le_of_lt (aB k))
 exact dT (by omega)
theorem gu {w W w3:World} {V:Int} {v:Value} (hv:cn W w3 V v) (hb:Below w.heap.size w W) {g:Nat} (h0:w.heap.size<=g) (h1:g<W.heap.size) (a b c:Value) :
  cn w (((w3.setCell ⟨g,0,none⟩ a).setCell ⟨g,1,none⟩ b).setCell ⟨g,2,none⟩ c) V v:=by
 obtain⟨t,d,hO,hN,hV,hB⟩:=hv
 refine⟨t,d,?_,hN,hV,?_⟩
 ·exact(((hO.set_below (a:=⟨g,0,none⟩) h1 a).set_below (a:=⟨g,1,none⟩) h1 b).set_below (a:=⟨g,2,none⟩) h1 c).lower hb.size
 ·exact(((hb.trans (hB.mono hb.size)).setCell (p:=⟨g,0,none⟩) h0 a).setCell (p:=⟨g,1,none⟩) h0 b).setCell (p:=⟨g,2,none⟩) h0 c
theorem qb (ng:Bool) (ao:Option Addr) (n cap:Nat) (d:Nat->Int) (e:Int) (w:World) (h:aE w ao n cap d) (hd:aZ d n) (h0:val d n=0) :
  Calls prog 121 #[.agg #[.bool ng,.slice ao n cap,.int .i64 e]] w fun r w'=>r=.returned dc∧Below w.heap.size w w':=by
 have hR:=h.keeps (aL w (.cells #[.bool ng,.slice ao n cap,.int .i64 e] 33) (.cells #[.bool false,.slice none 0 0,.int .i64 0] 33))
 go_enter func121,ntmps121
 go_wp2_with fail
 refine(ij _ _ _ _ _ hR).mono ?_
 rintro r w1 ⟨t,ht,htop,hz,rfl,rfl⟩
 obtain⟨hN,hv⟩:=fh hd ht htop hz
 have ht0:t=0:=(jn hN).1 (by rw[hv];exact h0)
 subst ht0
 rw[show iR ao 0 cap=.slice none 0 0 from rfl]
 go_wp2
 refine bodyPost_ret (v:=dc) (by simp[results,results121,go_sem,dc]) rfl ⟨rfl,?_⟩
 exact aL _ _ _
theorem rJ (ng:Bool) (ao:Option Addr) (n cap:Nat) (d:Nat->Int) (e:Int) (w:World) (h:aE w ao n cap d) (hd:aZ d n) (hn:n<=100000) (hT:dU w) (h0:0<val d n) (l:Nat) (hl:cI (val d n) l)
    (he0:-1048576<=e+l) (he1:e+l<=1048576) (hs:val d n/2^l<P 2000) :
    Calls prog 121 #[.agg #[.bool ng,.slice ao n cap,.int .i64 e]] w fun r w'=>∃ s,r=.returned (.agg #[.bool ng,s,.int .i64 (e+l)])∧cn w w' (val d n/2^l) s:=by
  have hR:=h.keeps (aL w (.cells #[.bool ng,.slice ao n cap,.int .i64 e] 33) (.cells #[.bool false,.slice none 0 0,.int .i64 0] 33))
  have hln:=oE hd h0 hl
  have hb1:=aL w (.cells #[.bool ng,.slice ao n cap,.int .i64 e] 33) (.cells #[.bool false,.slice none 0 0,.int .i64 0] 33)
  go_enter func121,ntmps121
  go_wp2_with fail
  refine(ij _ _ _ _ _ hR).mono ?_
  rintro r w1 ⟨t,ht,htop,hz,rfl,rfl⟩
  obtain⟨hN,hv⟩:=fh hd ht htop hz
  have ht0:t≠0:=by rintro rfl;have:=(jn hN).2 rfl;omega
  rw[show iR ao t cap=.slice ao t cap by unfold iR;rw[if_neg ht0]]
  have hn0:((t:Int) == 0)=false:=by simp;omega
  obtain⟨bb,fb,rfl,hbb,hcb⟩:=h.spot (by omega)
  have hRt:aE ((w.alloc (.cells #[.bool ng,.slice (some ⟨bb,fb,none⟩) n cap,.int .i64 e] 33)).alloc (.cells #[.bool false,.slice none 0 0,.int .i64 0] 33)) (some ⟨bb,fb,none⟩) t cap d:=⟨by have:=h.le; omega,h.max,fun hx=>by simp at hx,fun _=>by
    obtain⟨b',f',e',q1,q2⟩:=hR.spot (by omega)
    exact ⟨b',f',e',q1,fun i hi=>q2 i (by omega)⟩⟩
  have hbl:ax (val d n)<=60000+l:=by
    refine cz ?_
    obtain⟨_,_,c⟩:=el hl h0
    have:(val d n/2^l)*2^l<P 2000*2^l:=Int.mul_lt_mul_of_pos_right hs (aB l)
    rw[c,cP,<- Int.pow_add] at this
    exact this
  have HS:Hid (val d n/2^l<P 2000):=hs
  clear hs
  go_wp2_with fail
  refine(lR _ _ _ _ _ hRt hN.1 (by omega) (hT.keeps hb1)).mono ?_
  rintro r w1 ⟨lo,rfl,hlo,rfl⟩
  rw[hv] at hlo
  obtain⟨k,rfl,hk⟩:=oD hlo h0
  obtain rfl:=jE hk hl
  have HL:Hid (cI (val d n) k):=hl
  clear hlo hk hl
  have HV:Hid (val d t=val d n):=hv
  go_wp2_with fail
  refine(gP _ _ _ _ _ hRt hN (by omega)).mono ?_
  rw[hv]
  rintro r w1 ⟨rfl,rfl⟩
  go_wp2_with fail
  have hwr:IntKind.i64.wrap (e+(k:Int))=e+k:=by rw[a7];omega
  have hb2:Below w.heap.size w ((w.alloc (.cells #[.bool ng,.slice (some ⟨bb,fb,none⟩) n cap,.int .i64 e] 33)).alloc (.cells #[.bool false,.slice none 0 0,.int .i64 0] 33)).drew:=hb1.drew
  have q0:((w.alloc (.cells #[.bool ng,.slice (some ⟨bb,fb,none⟩) n cap,.int .i64 e] 33)).alloc (.cells #[.bool false,.slice none 0 0,.int .i64 0] 33)).drew.heap[w.heap.size]?=some (.cells #[.bool ng,.slice (some ⟨bb,fb,none⟩) n cap,.int .i64 e] 33):=cl _ _ _
  have q1:((w.alloc (.cells #[.bool ng,.slice (some ⟨bb,fb,none⟩) n cap,.int .i64 e] 33)).alloc (.cells #[.bool false,.slice none 0 0,.int .i64 0] 33)).drew.heap[w.heap.size+1]?=some (.cells #[.bool false,.slice none 0 0,.int .i64 0] 33):=bR _ _ _
  have qs:((w.alloc (.cells #[.bool ng,.slice (some ⟨bb,fb,none⟩) n cap,.int .i64 e] 33)).alloc (.cells #[.bool false,.slice none 0 0,.int .i64 0] 33)).drew.heap.size=w.heap.size+2:=eQ _ _ _
  go_region_with (go_at_call 143;refine(ti _ _ _ k d _ hRt.drew hN.1 (by omega) (by omega)).mono ?_;rintro r w3 ⟨v,rfl,hv⟩;obtain⟨vo,vn,vc,rfl⟩:=hv.num.shape;have g0:=(hv.below.block w.heap.size (by omega)).trans q0;have g1:=(hv.below.block (w.heap.size+1) (by omega)).trans q1;have k0:=ac g0 0 rfl;have k2:=ac g0 2 rfl;have k3:=ac g1 0 rfl;have k4:=ac g1 1 rfl;have k5:=ac g1 2 rfl;have f0:=aq g1 0;have f1:=aq g1 1;have f2:=aq g1 2;have hvv:=hv.from hb2)
  all_goals go_wp2
  all_goals refine bodyPost_ret (v:=.agg #[.bool ng,.slice vo vn vc,.int .i64 (e+k)]) (by simp[results,results121,go_sem,k3,k4,k5,hwr]) rfl ⟨_,rfl,?_⟩
  all_goals (rw[<- HV.out];exact gu (g:=w.heap.size+1) hv hb2 (Nat.le_succ _) (by omega) _ _ _)
theorem tm (ng:Bool) (ao:Option Addr) (n cap:Nat) (d:Nat->Int) (e:Int) (w:World) (h:aE w ao n cap d) (hd:aZ d n) (hn:n<=100000) (hT:dU w) (h0:0<val d n) (l:Nat) (hl:cI (val d n) l)
    (hbad:e+l < -1048576∨1048576<e+l∨P 2000<=val d n/2^l) :
    Calls prog 121 #[.agg #[.bool ng,.slice ao n cap,.int .i64 e]] w fun r w'=>r=.panicked [{ v:=.iface 28 (.int .i64 2),recovered:=false }]∧Below w.heap.size w w':=by
  have hR:=h.keeps (aL w (.cells #[.bool ng,.slice ao n cap,.int .i64 e] 33) (.cells #[.bool false,.slice none 0 0,.int .i64 0] 33))
  have hln:=oE hd h0 hl
  have hb1:=aL w (.cells #[.bool ng,.slice ao n cap,.int .i64 e] 33) (.cells #[.bool false,.slice none 0 0,.int .i64 0] 33)
  have HB:Hid (e+l < -1048576∨1048576<e+l∨P 2000<=val d n/2^l):=hbad
  clear hbad
  go_enter func121,ntmps121
  go_wp2_with fail
  refine(ij _ _ _ _ _ hR).mono ?_
  rintro r w1 ⟨t,ht,htop,hz,rfl,rfl⟩
  obtain⟨hN,hv⟩:=fh hd ht htop hz
  have ht0:t≠0:=by rintro rfl;have:=(jn hN).2 rfl;omega
  rw[show iR ao t cap=.slice ao t cap by unfold iR;rw[if_neg ht0]]
  have hn0:((t:Int) == 0)=false:=by simp;omega
  obtain⟨bb,fb,rfl,hbb,hcb⟩:=h.spot (by omega)
  have hRt:aE ((w.alloc (.cells #[.bool ng,.slice (some ⟨bb,fb,none⟩) n cap,.int .i64 e] 33)).alloc (.cells #[.bool false,.slice none 0 0,.int .i64 0] 33)) (some ⟨bb,fb,none⟩) t cap d:=⟨by have:=h.le; omega,h.max,fun hx=>by simp at hx,fun _=>by
    obtain⟨b',f',e',q1,q2⟩:=hR.spot (by omega)
    exact ⟨b',f',e',q1,fun i hi=>q2 i (by omega)⟩⟩
  go_wp2_with fail
  refine(lR _ _ _ _ _ hRt hN.1 (by omega) (hT.keeps hb1)).mono ?_
  rintro r w1 ⟨lo,rfl,hlo,rfl⟩
  rw[hv] at hlo
  obtain⟨k,rfl,hk⟩:=oD hlo h0
  obtain rfl:=jE hk hl
  have HL:Hid (cI (val d n) k):=hl
  clear hlo hk hl
  by_cases c0:e < -1048576-k
  · go_wp2
    exact⟨rfl,rfl,hb1⟩
  · by_cases c1:1048576-k<e
    · go_wp2
      exact⟨rfl,rfl,hb1⟩
    · have hbl:60000<(ax (val d n):Int)-k:=by
        obtain⟨_,_,c⟩:=el HL.out h0
        have h2:P 2000<=val d n/2^k:=by rcases HB.out with x|x|x<;>first|omega|exact x
        have:P 2000*2^k<=(val d n/2^k)*2^k:=Int.mul_le_mul_of_nonneg_right h2 (Int.le_of_lt (aB k))
        rw[c,cP,<- Int.pow_add] at this
        have:=mD this
        omega
      go_wp2_with fail
      refine(gP _ _ _ _ _ hRt hN (by omega)).mono ?_
      rw[hv]
      rintro r w1 ⟨rfl,rfl⟩
      have hb30:ax (val d n)<=30*n:=cz (by rw[<- cP];exact bO hd)
      go_wp2
      exact⟨rfl,rfl,hb1⟩
theorem yE:∀ (n:Nat) (M:Int),M.natAbs<=n->0<M->∃ l,cI M l:=by
 intro n
 induction n with
 | zero=>intro M h h0;omega
 | succ n ih=>
  intro M h h0
  by_cases hp:M % 2=1
  ·exact⟨0,M/2,by rw[Int.pow_zero];omega⟩
  ·obtain⟨l,m,hm⟩:=ih (M/2) (by omega) (by omega)
   refine⟨l+1,m,?_⟩
   rw[Int.pow_succ,<- Int.mul_assoc,<- hm];omega
theorem gx {M:Int} (h:0<M):∃ l,cI M l:=yE M.natAbs M (Nat.le_refl _) h
def oF:Ending:=.panicked [{ v:=.iface 28 (.int .i64 2),recovered:=false }]
theorem tn {ng:Bool} {ao:Option Addr} {n cap:Nat} {d:Nat->Int} {e:Int} {w:World} (h:aE w ao n cap d) (hd:aZ d n) (hn:n<=100000) (hT:dU w) (he:-4194304<=e) {V:Int} (hV:V=sg ng (val d n)*pw e) (hok:cK V) :
  Calls prog 121 #[.agg #[.bool ng,.slice ao n cap,.int .i64 e]] w fun r w'=>∃ v,r=.returned v∧aR w w' V v:=by
 by_cases h0:val d n=0
 ·refine(qb ng ao n cap d e w h hd h0).mono ?_
  rintro r w' ⟨rfl,hb⟩
  exact⟨_,rfl,by rw[hV,h0,dG,Int.zero_mul];exact aR.zero hb⟩
 ·have hp:0<val d n:=by have:=aP hd;omega
  obtain⟨l,hl⟩:=gx hp
  have hy:=Dy.of ng hl hp he
  rw[<- hV] at hy
  obtain⟨o1,o2,o3⟩:=hy.ok.1 hok
  refine(rJ ng ao n cap d e w h hd hn hT hp l hl o2 o3 o1).mono ?_
  rintro r w' ⟨s,rfl,hA⟩
  exact⟨_,rfl,_,_,_,_,rfl,hy,hA⟩
theorem qd {ng:Bool} {ao:Option Addr} {n cap:Nat} {d:Nat->Int} {e:Int} {w:World} (h:aE w ao n cap d) (hd:aZ d n) (hn:n<=100000) (hT:dU w) (he:-4194304<=e) {V:Int} (hV:V=sg ng (val d n)*pw e) (hok:¬ cK V) :
    Calls prog 121 #[.agg #[.bool ng,.slice ao n cap,.int .i64 e]] w fun r w'=>r=oF∧Below w.heap.size w w':=by
  by_cases h0:val d n=0
  · exact absurd (by rw[hV,h0,dG,Int.zero_mul];exact jq) hok
  · have hp:0<val d n:=by have:=aP hd;omega
    obtain⟨l,hl⟩:=gx hp
    have hy:=Dy.of ng hl hp he
    rw[<- hV] at hy
    have hno:=fun x=>hok (hy.ok.2 x)
    refine tm ng ao n cap d e w h hd hn hT hp l hl ?_
    by_cases c1:e+l < -1048576
    · exact .inl c1
    · by_cases c2:1048576<e+l
      · exact .inr (.inl c2)
      · exact .inr (.inr (by
          by_cases c3:P 2000<=val d n/2^l
          · exact c3
          · exact absurd ⟨by omega,by omega,by omega⟩ hno))
theorem fG.shape {w w':World} {V er:Int} {v:Value} (h:fG w w' V v er):∃ ng so sn sc e,v=.agg #[.bool ng,.slice so sn sc,.int .i64 e]:=by
 rcases h.2 with⟨_,_,ng,s,m,e,h1,_,hA⟩|⟨_,_,h1⟩
 ·obtain⟨so,sn,sc,rfl⟩:=hA.num.shape
  exact⟨_,_,_,_,_,h1⟩
 ·exact⟨_,_,_,_,_,h1⟩
theorem bD {w W w3:World} {V:Int} {v:Value} (hv:aR W w3 V v) (hb:Below w.heap.size w W) {g:Nat} (h0:w.heap.size<=g) (h1:g<W.heap.size) (a b c:Value) :
  aR w (((w3.setCell ⟨g,0,none⟩ a).setCell ⟨g,1,none⟩ b).setCell ⟨g,2,none⟩ c) V v:=by
 obtain⟨ng,s,m,e,h2,h3,hA⟩:=hv
 exact⟨ng,s,m,e,h2,h3,gu hA hb h0 h1 a b c⟩
theorem oG {w W w3:World} {V er:Int} {v:Value} (hv:fG W w3 V v er) (hb:Below w.heap.size w W) {g:Nat} (h0:w.heap.size<=g) (h1:g<W.heap.size) (a b c:Value) :
  fG w (((w3.setCell ⟨g,0,none⟩ a).setCell ⟨g,1,none⟩ b).setCell ⟨g,2,none⟩ c) V v er:=by
 refine⟨(((hb.trans (hv.1.mono hb.size)).setCell (p:=⟨g,0,none⟩) h0 a).setCell (p:=⟨g,1,none⟩) h0 b).setCell (p:=⟨g,2,none⟩) h0 c,?_⟩
 rcases hv.2 with⟨o1,o2,o3⟩|o
 ·exact .inl ⟨o1,o2,bD o3 hb h0 h1 a b c⟩
 ·exact .inr o
theorem vb {F:Nat} {cap:Array Value} {w:World} {V:Int} (hE:∀ w,(callFunc F cap).run prog w=.ok (.enter F cap) w)
  (hy:cK V->∀ W,Below w.heap.size w W->Calls prog F cap W fun r W'=>∃ v,r=.returned v∧aR W W' V v)
  (hn:¬ cK V->∀ W,Below w.heap.size w W->Calls prog F cap W fun r W'=>r=oF∧Below W.heap.size W W') :
  Calls prog 105 #[.func (.func F) #[] cap] w fun r w'=>∃ v er,r=.returned (.tuple #[v,.int .i64 er])∧fG w w' V v er:=by
 by_cases h:cK V
 ·refine(uW F cap w V hE (hy h)).mono ?_
  rintro r w' ⟨v,rfl,hD⟩
  exact⟨v,0,rfl,hD.below,.inl ⟨h,rfl,hD⟩⟩
 ·refine(xi F cap w hE (hn h)).mono ?_
  rintro r w' ⟨rfl,hb⟩
  exact⟨_,2,rfl,hb,.inr ⟨h,rfl,rfl⟩⟩
theorem aK (w:World) (a:Obj):(w.alloc a).heap[w.heap.size]?=some a:=by
 show(w.heap.push a)[w.heap.size]?=some a
 simp
theorem dV (w:World) (a:Obj):(w.alloc a).heap.size=w.heap.size+1:=by
 show(w.heap.push a).size=_
 simp
theorem aG {w w':World} {p:Addr} {v:Value} (h:w.cell? p=some v) (hb:Below w.heap.size w w'):w'.cell? p=some v :=
 (hb.cell (World.block_lt_of_cell? w _ h)).trans h
theorem aH (w:World) (a:Obj):(w.alloc a).heap.size=w.heap.size+1:=dV w a
theorem av {w:World} {k:Nat} {x:Obj} (o:Obj) (h:w.heap[k]?=some x):(w.alloc o).heap[k]?=some x :=
 (Below.heap_alloc w o k (aGe h).1).trans h
theorem aX {w:World} {k:Nat} (o:Obj) (h:k=w.heap.size):(w.alloc o).heap[k]?=some o:=by rw[h];exact aK w o
theorem gQ (w:World) (a b c d:Obj):((((w.alloc a).alloc b).alloc c).alloc d).heap[w.heap.size]?=some a:=av _ (av _ (av _ (aK w a)))
theorem gR (w:World) (a b c d:Obj):((((w.alloc a).alloc b).alloc c).alloc d).heap[w.heap.size+1]?=some b:=av _ (av _ (aX _ (by rw[aH])))
theorem gy (w:World) (a b c d:Obj):((((w.alloc a).alloc b).alloc c).alloc d).heap[w.heap.size+2]?=some c:=av _ (aX _ (by rw[aH,aH]))
theorem gz (w:World) (a b c d:Obj):((((w.alloc a).alloc b).alloc c).alloc d).heap[w.heap.size+3]?=some d:=aX _ (by rw[aH,aH,aH])
theorem kh (w:World) (a b c:Obj):(((w.alloc a).alloc b).alloc c).heap[w.heap.size]?=some a:=av _ (av _ (aK w a))
theorem ki (w:World) (a b c:Obj):(((w.alloc a).alloc b).alloc c).heap[w.heap.size+1]?=some b:=av _ (aX _ (by rw[aH]))
theorem il (w:World) (a b c:Obj):(((w.alloc a).alloc b).alloc c).heap[w.heap.size+2]?=some c:=aX _ (by rw[aH,aH])
theorem cB (w:World) (a b c:Obj):Below w.heap.size w (((w.alloc a).alloc b).alloc c):=(aL w a b).alloc (by rw[eQ];omega) _
theorem gZ (w:World) (a b c:Obj):(((w.alloc a).alloc b).alloc c).heap.size=w.heap.size+3:=by rw[aH,eQ]
theorem eH (w:World) (a b c d:Obj):Below w.heap.size w ((((w.alloc a).alloc b).alloc c).alloc d):=(cB w a b c).alloc (by rw[gZ];omega) _
theorem jG (w:World) (a b c d:Obj):((((w.alloc a).alloc b).alloc c).alloc d).heap.size=w.heap.size+4:=by rw[aH,gZ]
theorem fY {W w':World} {g:Nat} {a b c:Value} (h:W.cell? ⟨g,0,none⟩=some a∧W.cell? ⟨g,1,none⟩=some b∧W.cell? ⟨g,2,none⟩=some c) (hb:Below W.heap.size W w') :
  w'.cell? ⟨g,0,none⟩=some a∧w'.cell? ⟨g,1,none⟩=some b∧w'.cell? ⟨g,2,none⟩=some c:=⟨aG h.1 hb,aG h.2.1 hb,aG h.2.2 hb⟩
theorem wy {W w':World} {g o:Nat} {a b c:Value} (h:W.cell? ⟨g,0,none⟩=some a∧W.cell? ⟨g,1,none⟩=some b∧W.cell? ⟨g,2,none⟩=some c) (hw:Wr o W w') (hg:g≠o) :
  w'.cell? ⟨g,0,none⟩=some a∧w'.cell? ⟨g,1,none⟩=some b∧w'.cell? ⟨g,2,none⟩=some c :=
 ⟨(hw.cell (World.block_lt_of_cell? W _ h.1) hg).trans h.1,(hw.cell (World.block_lt_of_cell? W _ h.2.1) hg).trans h.2.1,(hw.cell (World.block_lt_of_cell? W _ h.2.2) hg).trans h.2.2⟩
theorem eR {W:World} {g o:Nat} {a b c:Value} (h:W.cell? ⟨g,0,none⟩=some a∧W.cell? ⟨g,1,none⟩=some b∧W.cell? ⟨g,2,none⟩=some c) (hg:g≠o) (x y z:Value) :
  (((W.setCell ⟨o,0,none⟩ x).setCell ⟨o,1,none⟩ y).setCell ⟨o,2,none⟩ z).cell? ⟨g,0,none⟩=some a∧(((W.setCell ⟨o,0,none⟩ x).setCell ⟨o,1,none⟩ y).setCell ⟨o,2,none⟩ z).cell? ⟨g,1,none⟩=some b∧(((W.setCell ⟨o,0,none⟩ x).setCell ⟨o,1,none⟩ y).setCell ⟨o,2,none⟩ z).cell? ⟨g,2,none⟩=some c :=
 wy h (((Wr.refl o W).setCell 0 x |>.setCell 1 y).setCell 2 z) hg
def df (r:aA):Prop:=bK r.d r.n∧r.n<=5000∧-1100000<=r.e∧r.e<=1100000
structure kj (r:Nat->aA) (k:Nat) (low high:Int):Prop where
 none:(∀ i,i<k->(r i).n=0)->low=9223372036854775807∧high=-9223372036854775808
 some:(∃ i,i<k∧0<(r i).n)->-1100000<=low∧low<=1100000∧-1100000<=high∧high<=1250000
 all:∀ i,i<k->0<(r i).n->low<=(r i).e∧(r i).e+ax (val (r i).d (r i).n)<=high
theorem df.len {x:aA} (h:df x):ax (val x.d x.n)<=150000:=by
 have:=cz (V:=val x.d x.n) (k:=30*x.n) (by rw[<- cP];exact bO h.1.1)
 have:=h.2.1
 omega
theorem kj.zero {r:Nat->aA} {k:Nat} {low high:Int} (h:kj r k low high) (h0:(r k).n=0):kj r (k+1) low high :=
  ⟨fun hx=>h.none fun i hi=>hx i (by omega),fun ⟨i,hi,hp⟩=>h.some ⟨i,by
    by_cases e:i=k
    · subst e;omega
    · omega,hp⟩,fun i hi hp=>by
    by_cases e:i=k
    · subst e;omega
    · exact h.all i (by omega) hp⟩
theorem kj.step {r:Nat->aA} {k:Nat} {low high:Int} (h:kj r k low high) (h0:0<(r k).n) (hs:df (r k)):kj r (k+1) (min low (r k).e) (max high ((r k).e+ax (val (r k).d (r k).n))):=by
 obtain⟨s1,s2,s3,s4⟩:=id hs
 have s5:=hs.len
 refine⟨fun hx=>by have:=hx k (by omega);omega,fun _=>?_,fun i hi hp=>?_⟩
 ·by_cases hx:∀ i,i<k->(r i).n=0
  ·obtain⟨a,b⟩:=h.none hx
   subst a b
   omega
  ·have:∃ i,i<k∧0<(r i).n:=by
    simp only[Classical.not_forall] at hx
    obtain⟨i,hi,hp⟩:=hx
    exact⟨i,hi,by omega⟩
   have:=h.some this
   omega
 ·by_cases e:i=k
  ·subst e;omega
  ·have:=h.all i (by omega) hp;omega
theorem tp (ao:Option Addr) (n cap:Nat) (r:Nat->aA) (w:World) (h:ef w ao n cap r) (hs:∀ i,i<n->df (r i)) :
  Calls prog 124 #[.slice ao n cap] w fun x w'=>∃ low high,x=.returned (.tuple #[.int .i64 low,.int .i64 high])∧kj r n low high∧Below w.heap.size w w':=by
 have hl:=h.le
 have hm:=h.max
 have HS:Hid (∀ i,i<n->df (r i)):=hs
 clear hs
 have hmin:∀ (ts:Array TypeId) (t:TypeId) (x y:Int) (w:World),(Builtin.min_ ts t #[.int .i64 x,.int .i64 y]).run prog w=.ok (.int .i64 (min x y)) w:=fun ts t x y w=>by rw[run_min_int2];congr 2;omega
 have hmax:∀ (ts:Array TypeId) (t:TypeId) (x y:Int) (w:World),(Builtin.max_ ts t #[.int .i64 x,.int .i64 y]).run prog w=.ok (.int .i64 (max x y)) w:=fun ts t x y w=>by rw[run_max_int2];congr 2;omega
 go_enter func124,ntmps124
 go_wp2_with fail
 go_loopw [2,3,8] (fun lo hi i wr=>∃ (k:Nat) (low high:Int),k<=n∧i=.int .i64 k∧lo=.int .i64 low∧hi=.int .i64 high∧Hid (kj r k low high)∧Below w.heap.size w wr) (fun _ _ i _=>n-(intOf i).toNat)
 case atStart=>exact⟨0,_,_,Nat.zero_le _,rfl,rfl,rfl,⟨fun _=>⟨rfl,rfl⟩,fun ⟨i,hi,_⟩=>by omega,fun i hi=>by omega⟩,ap _⟩
 case round=>
  obtain⟨k,low,high,hk,rfl,rfl,rfl,HR,hbw⟩:=hrel
  by_cases hlt:k<n
  ·obtain⟨b,off,rfl,hb,hc⟩:=h.spot (by omega)
   obtain⟨c0,c1,c2,hR⟩:=(hc k hlt).keeps hbw hb
   have hsk:=HS.out k hlt
   have hst:=fun h0=>HR.out.step (k:=k) h0 hsk
   have hze:=fun h0=>HR.out.zero (k:=k) h0
   have hlen:=hsk.len
   generalize hr:r k=x at *
   obtain⟨ng,xo,xn,xc,xd,xe⟩:=x
   obtain⟨s1,s2,s3,s4⟩:=hsk
   simp only at c0 c1 c2 hR s1 s2 s3 s4 hst hze hlen
   by_cases h0:xn=0
   ·subst h0
    have HZ:Hid (kj r (k+1) low high):=hze rfl
    clear hst hze
    go_wp2
    go_roundw
    case rel=>exact⟨k+1,low,high,by omega,by go_num,rfl,rfl,HZ,hbw.trans ((ah _ _).mono hbw.size)⟩
    case measure=>simp[intOf];omega
   ·have HZ:Hid (kj r (k+1) (min low xe) (max high (xe+ax (val xd xn)))):=hst (by omega)
    have hlp:(0:Int)<xn:=by omega
    have HM:Hid (∀ L H,L=min low xe->H=max high (xe+ax (val xd xn))->kj r (k+1) L H):=fun L H e1 e2=>by rw[e1,e2];exact HZ.out
    have q0:=aK wr (.cells #[.bool ng,.slice xo xn xc,.int .i64 xe] 33)
    have hbx:Below w.heap.size w (wr.alloc (.cells #[.bool ng,.slice xo xn xc,.int .i64 xe] 33)):=hbw.trans ((ah _ _).mono hbw.size)
    have hRx:=hR.alloc (.cells #[.bool ng,.slice xo xn xc,.int .i64 xe] 33)
    clear HZ hst hze
    go_wp2_with fail
    generalize wr.alloc (.cells #[.bool ng,.slice xo xn xc,.int .i64 xe] 33)=wx at q0 hbx hRx ⊢
    have k0:=ac q0 0 rfl
    have k1:=ac q0 1 rfl
    have k2:=ac q0 2 rfl
    have hb1:=ap wx
    have C1:∀ W,Below wx.heap.size wx W->Calls prog 145 #[.agg #[.bool ng,.slice xo xn xc,.int .i64 xe]] W fun y w'=>y=.returned (.int .i64 (xe+ax (val xd xn)))∧Below W.heap.size W w':=fun W h=>u6 ng xo xn xc xd xe W (hRx.keeps h) s1 (by omega) (by omega) (by omega)
    go_region_held3 (fun W=>W.cell? ⟨wr.heap.size,0,none⟩=some (.bool ng)∧W.cell? ⟨wr.heap.size,1,none⟩=some (.slice xo xn xc)∧W.cell? ⟨wr.heap.size,2,none⟩=some (.int .i64 xe))
     (first|exact⟨k0,k1,k2⟩|assumption|exact fY (W:=wx.drew) ⟨k0,k1,k2⟩ hbv1)
     (first|(go_at_call 145;refine(C1 _ hb1.drew).mono ?_;rintro y w3 ⟨rfl,hbv1⟩)|fail)
    all_goals go_wp2
    all_goals
     go_roundw
     case rel=>exact⟨k+1,_,_,by omega,by go_num,rfl,rfl,HM.out _ _ (by omega) (by omega),hbx.trans ((af hb1.drew hbv1).mono hbx.size)⟩
     case measure=>simp[intOf];omega
  ·obtain rfl:k=n:=by omega
   go_wp2
   go_ret2
   exact⟨_,_,rfl,HR.out,hbw⟩
theorem nf (g N:Nat) (r0:Nat->Int) (w:World) (hB0:bw w g N r0) (hNm:N<=1000000) (hC0:∀ i,i<N->-2305843009213693952<=r0 i∧r0 i<=2305843009213693952) :
    Calls prog 146 #[.slice (some ⟨g,0,none⟩) N N] w fun e w'=>∃ o r,e=.returned (.int .i64 o)∧bw w' g N r∧Wr g w w'∧aZ r N∧val r N+o*P N=val r0 N:=by
  have HC:Hid (∀ i,i<N->-2305843009213693952<=r0 i∧r0 i<=2305843009213693952):=hC0
  clear hC0
  go_enter func146,ntmps146
  go_wp2
  go_loopw [3,7] (fun o i wr=>∃ (k:Nat) (o':Int) (r:Nat->Int),k<=N∧i=.int .i64 k∧o=.int .i64 o'∧-2305843009213693952<=o'∧o'<=2305843009213693952∧bw wr g N r∧Hid (aZ r k)∧Hid (∀ i,k<=i->r i=r0 i)∧Hid (val r k+o'*P k=val r0 k)∧Wr g w wr) (fun _ i _=>N-(intOf i).toNat)
  case atStart=>exact⟨0,0,r0,Nat.zero_le _,rfl,rfl,by omega,by omega,hB0,fun i hi=>by omega,fun _ _=>rfl,by show(0:Int)+0*1=0;omega,Wr.refl _ _⟩
  case round=>
    obtain⟨k,o,r,hk,rfl,rfl,ho0,ho1,hB,HD,HZ,HV,hW⟩:=hrel
    by_cases hlt:k<N
    · have cg:=hB.cell hlt
      have fg:=hB.frozen k
      have hr:-2305843009213693952<=r k∧r k<=2305843009213693952:=by rw[HZ.out k (Nat.le_refl _)];exact HC.out k hlt
      obtain⟨hr0,hr1⟩:=hr
      have h30:=j6 (o+r k)
      have hm:=eK (o+r k)
      have HV2:Hid (val (bP r k ((o+r k) % 1073741824)) (k+1)+(o+r k)/1073741824*P (k+1)=val r0 (k+1)):=by
        show _=_
        rw[aJ,bh,fT _ _ (Nat.le_refl _),d9,lK,aJ,<- HV.out,HZ.out k (Nat.le_refl _)]
      go_wp2
      go_roundw
      case rel=>exact ⟨k+1,(o+r k)/1073741824,bP r k ((o+r k) % 1073741824),by omega,by go_num,rfl,by omega,by omega,hB.store k _,fun i hi=>by
          by_cases e:i=k
          · rw[e,bh];exact hm
          · rw [aU r _ e]; exact HD.out i (by omega),fun i hi=>by rw [aU r _ (by omega)]; exact HZ.out i (by omega),HV2,hW.setCell _ _⟩
      case measure=>simp[intOf];omega
    · obtain rfl:k=N:=by omega
      go_wp2
      go_ret
      exact⟨_,r,rfl,hB,hW,HD.out,HV.out⟩
theorem lS {S R o Pn:Int} (hP:0<Pn) (h0:0<=R) (h1:R<Pn) (e:R+o*Pn=S) (hS:-Pn<S∧S<Pn):(0<=S∧o=0∧R=S)∨(S<0∧o=-1∧R=S+Pn):=by
 by_cases ho:0<=o
 ·by_cases ho1:o=0
  ·subst ho1;left;omega
  ·have:1*Pn<=o*Pn:=Int.mul_le_mul_of_nonneg_right (by omega) (by omega)
   omega
 ·by_cases ho1:o=-1
  ·subst ho1;right;omega
  ·have:o*Pn<=(-2)*Pn:=Int.mul_le_mul_of_nonneg_right (by omega) (by omega)
   omega
theorem xt (r:Nat->Int) (n:Nat):val (fun i=>-r i) n=-val r n:=by
 induction n with
 | zero=>rfl
 | succ n ih=>rw[aJ,aJ,ih,Int.neg_mul];omega
theorem tq (g N:Nat) (r0:Nat->Int) (w:World) (hB0:bw w g N r0) (hNm:N<=1000000) (hC0:∀ i,i<N->-2305843009213693952<=r0 i∧r0 i<=2305843009213693952) (hS:-P N<val r0 N∧val r0 N<P N) :
    Calls prog 126 #[.slice (some ⟨g,0,none⟩) N N] w fun e w'=>∃ r,e=.returned (.bool (decide (val r0 N<0)))∧bw w' g N r∧Wr g w w'∧aZ r N∧sg (decide (val r0 N<0)) (val r N)=val r0 N:=by
  have HS:Hid (-P N<val r0 N∧val r0 N<P N):=hS
  clear hS
  go_enter func126,ntmps126
  go_wp2_with fail
  refine(nf g N r0 w hB0 hNm hC0).mono ?_
  rintro e w1 ⟨o,r,rfl,hB1,hW1,hD1,hV1⟩
  rcases lS (bH N) (aP hD1) (bO hD1) hV1 HS.out with⟨hs,rfl,hR⟩|⟨hs,rfl,hR⟩
  · have HR:Hid (val r N=val r0 N):=hR
    have HH:Hid (0<=val r0 N):=hs
    clear hV1 hR hs hC0
    go_wp2
    go_ret
    have:decide (val r0 N<0)=false:=decide_eq_false (by have:=HH.out;omega)
    exact⟨r,a8 this.symm,hB1,hW1,hD1,by rw[this];exact HR.out⟩
  · have HR:Hid (val r N=val r0 N+P N):=hR
    have HH:Hid (val r0 N<0):=hs
    have HD:Hid (aZ r N):=hD1
    clear hV1 hR hs hC0 hD1
    go_wp2
    go_loopw [9] (fun i wr=>∃ (k:Nat) (r':Nat->Int),k<=N∧i=.int .i64 k∧bw wr g N r'∧Hid (∀ i,i<k->r' i=-r i)∧Hid (∀ i,k<=i->r' i=r i)∧Wr g w wr) (fun i _=>N-(intOf i).toNat)
    case atStart=>exact⟨0,r,Nat.zero_le _,rfl,hB1,fun i hi=>by omega,fun _ _=>rfl,hW1⟩
    case round=>
      obtain⟨k,r',hk,rfl,hB,HX,HY,hW⟩:=hrel
      by_cases hlt:k<N
      · have cg:=hB.cell hlt
        have fg:=hB.frozen k
        have hr:0<=r' k∧r' k<1073741824:=by rw[HY.out k (Nat.le_refl _)];exact HD.out k hlt
        obtain⟨hr0,hr1⟩:=hr
        go_wp2
        go_roundw
        case rel=>exact ⟨k+1,bP r' k (-r' k),by omega,by go_num,hB.store k _,fun i hi=>by
            by_cases e:i=k
            · rw[e,bh,HY.out k (Nat.le_refl _)]
            · rw [aU r' _ e]; exact HX.out i (by omega),fun i hi=>by rw [aU r' _ (by omega)]; exact HY.out i (by omega),hW.setCell _ _⟩
        case measure=>simp[intOf];omega
      · obtain rfl:k=N:=by omega
        go_wp2_with fail
        refine(nf g k r' _ hB hNm (fun i hi=>by rw[HX.out i hi];have:=HD.out i hi;omega)).mono ?_
        rintro e w2 ⟨o2,r2,rfl,hB2,hW2,hD2,hV2⟩
        go_wp2
        go_ret
        have e1:val r' k=-val r k:=by rw[cV HX.out,xt]
        have hn:=HH.out
        have hR:=HR.out
        have hS:=HS.out.1
        rw[e1] at hV2
        have:decide (val r0 k<0)=true:=decide_eq_true hn
        refine⟨r2,a8 this.symm,hB2,hW.trans hW2,hD2,?_⟩
        rw[this]
        show -val r2 k=val r0 k
        have a0:=aP hD2
        have a1:=bO hD2
        rcases lS (bH k) a0 a1 hV2 (by omega) with⟨c1,rfl,c3⟩|⟨c1,rfl,c3⟩<;>omega
end Go.Proofs.YtcklaogdjpbagaaGreatDoor
