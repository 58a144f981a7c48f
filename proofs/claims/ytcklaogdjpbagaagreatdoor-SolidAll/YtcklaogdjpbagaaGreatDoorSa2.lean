/- Parts of the proof. -/
import Derived.Test.YtcklaogdjpbagaaGreatDoorSa1
import Derived.Lib.BitFns
import Derived.Lib.ItoaNum
import Derived.Laws.Bits64b
import Derived.Deep.Cut
import Derived.BigRegion
import Derived.Lib.SliceRun
import Derived.Deep.OwnRows
import Derived.Deep.RegionWith
import Derived.Deep.CutRange
import Derived.Laws.CopyOwn
import Derived.WalkMore
import Derived.ScopeJumps
import Derived.Lib.TrailingZeros
import Derived.WalkLawsBesides
import Derived.Deep.RegionHeld3
set_option maxRecDepth 100000
set_option maxHeartbeats 8000000
set_option linter.unusedVariables false
set_option linter.unusedSimpArgs false
namespace Go.Proofs.YtcklaogdjpbagaaGreatDoor.M
open Go Go.Proofs.Tryz
theorem tn {x y:Int} (hx:0<=x∧x<1073741824) (hy:0<=y∧y<1073741824):0<=x*y∧x*y<=1152921502459363329:=by
 refine⟨Int.mul_nonneg hx.1 hy.1,?_⟩
 have h1:x*y<=1073741823*y:=Int.mul_le_mul_of_nonneg_right (by omega) hy.1
 omega
theorem mu (n:Nat):bF (fun _=>0) n:=fun i _=>⟨Int.le_refl 0,show(0:Int)<1073741824 by decide⟩
theorem fu (x:Int):0<=x % 1073741824∧x % 1073741824<1073741824:=by omega
theorem dP {r:Nat->Int} {k:Nat} {c x V:Int} (h:val r k+c*P k=V):val (cW r k ((c+x) % 1073741824)) (k+1)+(c+x)/1073741824*P (k+1)=V+x*P k:=by
 rw[bc,gG r _ (Nat.le_refl k),ck,fZ,mV,h]
theorem qw {r r0 b:Nat->Int} {i j:Nat} {c ai:Int} (h:val r (i+j)+c*P (i+j)=val r0 (i+j)+ai*val b j*P i) (hr:r (i+j)=r0 (i+j)) :
  val (cW r (i+j) ((c+(ai*b j+r (i+j))) % 1073741824)) (i+(j+1))+(c+(ai*b j+r (i+j)))/1073741824*P (i+(j+1))=val r0 (i+(j+1))+ai*val b (j+1)*P i:=by
 have e:=dP (x:=ai*b j+r (i+j)) h
 rw[<- Nat.add_assoc,e,bc,bc,lN,hr]
 grind
theorem tq {r r0 b:Nat->Int} {i m:Nat} {c ai A:Int} (h:val r (i+m)+c*P (i+m)=val r0 (i+m)+ai*val b m*P i) (h0:val r0 (i+m)=A*val b m) :
  val (cW r (i+m) c) (i+1+m)=(A+ai*P i)*val b m:=by
 rw[show i+1+m=i+m+1 by omega,bc,ck,gG r _ (Nat.le_refl _),h,h0]
 grind
theorem fR {d:Nat->Int} {n t:Nat} (hd:bF d n) (ht:t<=n) (htop:kT d t) (hz:∀ i,t<=i->i<n->d i=0):cf d t∧val d t=val d n :=
 ⟨⟨hd.le ht,htop⟩,(eY ht hz).symm⟩
theorem tr {d e:Nat->Int} {n k:Nat} (hd:bF d n) (he:bF e n) (hk:k<n) (hs:∀ i,k<i->i<n->d i=e i) (hlt:d k<e k):val d n<val e n:=by
 have s1:=eW d (k+1) (n-(k+1))
 have s2:=eW e (k+1) (n-(k+1))
 rw[show k+1+(n-(k+1))=n by omega] at s1 s2
 have e1:val (fun i=>d (k+1+i)) (n-(k+1))=val (fun i=>e (k+1+i)) (n-(k+1)):=dY fun i hi=>hs _ (by omega) (by omega)
 rw[s1,s2,e1,bc,bc]
 have a:=cV (hd.le (show k<=n by omega))
 have b:=bz (he.le (show k<=n by omega))
 have c:(d k+1)*P k<=e k*P k:=Int.mul_le_mul_of_nonneg_right (by omega) (Int.le_of_lt (cA k))
 rw[Int.add_mul] at c
 omega
def aT (a b:Int):Int:=if a<b then -1 else if b<a then 1 else 0
theorem dL {a b:Int} (h:a<b):aT a b=-1:=by simp[aT,h]
theorem dM {a b:Int} (h:b<a):aT a b=1:=by simp[aT,h];omega
theorem fm {a b:Int} (h:a=b):aT a b=0:=by simp[aT,h]
end Go.Proofs.YtcklaogdjpbagaaGreatDoor.M
namespace Go.Proofs.YtcklaogdjpbagaaGreatDoor
open Go Go.Proofs.Tryz Go.RowKit Go.Proofs.YtcklaogdjpbagaaGreatDoor.M
instance (d:Nat->Int) (n:Nat):Decidable (bF d n):=by unfold bF;infer_instance
instance (d:Nat->Int) (n:Nat):Decidable (kT d n):=by unfold kT;infer_instance
instance (d:Nat->Int) (n:Nat):Decidable (cf d n):=by unfold cf;infer_instance
def qx (d:Nat->Int) (n:Nat):Bool:=decide (n<=2000∧cf d n)
theorem tv {d:Nat->Int} {n:Nat} (h:n<=2000) (k:cf d n):qx d n=true:=by simp[qx,h,k]
theorem nf {d:Nat->Int} {n:Nat} (h:¬ (n<=2000∧cf d n)):qx d n=false:=by simp only[qx,h,decide_false]
theorem bt {a b:Bool} (h:a=b):Ending.returned (.bool a)=.returned (.bool b):=by rw[h]
theorem cz {k:IntKind} {a b:Int} (h:a=b):Ending.returned (.int k a)=.returned (.int k b):=by rw[h]
theorem qy {d:Nat->Int} {k:Nat} (h:bF d k) (h0:0<=d k) (h1:d k<1073741824):bF d (k+1):=fun i hi=>by
 by_cases e:i=k
 ·rw[e];exact⟨h0,h1⟩
 ·exact h i (by omega)
theorem vw (ao:Option Addr) (n cap:Nat) (d:Nat->Int) (w:World) (h:aS w ao n cap d) :
  Calls prog 119 #[.slice ao n cap] w fun e w'=>e=.returned (.bool (qx d n))∧w'=w:=by
 have hl:=h.le
 have hm:=h.max
 by_cases h2k:n<=2000
 ·go_enter func119,ntmps119
  go_wp2
  go_loop [9] (fun i=>∃ k:Nat,k<=n∧i=.int .i64 k∧bF d k) (fun i=>n-(intOf i).toNat)
  case atStart=>exact⟨0,Nat.zero_le _,rfl,fun i hi=>absurd hi (by omega)⟩
  case round=>
   obtain⟨k,hk,rfl,hd⟩:=hrel
   by_cases hlt:k<n
   ·obtain⟨b,off,rfl,hb,hc⟩:=h.spot (by omega)
    have c:=hc k hlt
    by_cases h0:d k<0
    ·go_wp2
     go_ret
     exact⟨bt (nf (fun ⟨_,q⟩=>by have:=(q.1 k hlt).1;omega)).symm,rfl⟩
    ·by_cases h1:1073741823<d k
     ·go_wp2
      go_ret
      exact⟨bt (nf (fun ⟨_,q⟩=>by have:=(q.1 k hlt).2;omega)).symm,rfl⟩
     ·go_wp2
      go_round
      case rel=>exact⟨k+1,by omega,by go_num,qy hd (by omega) (by omega)⟩
      case measure=>simp[intOf];omega
   ·obtain rfl:k=n:=by omega
    by_cases h0:k=0
    ·subst h0
     go_wp2
     go_ret
     exact⟨bt (tv h2k ⟨hd,.inl rfl⟩).symm,rfl⟩
    ·obtain⟨b,off,rfl,hb,hc⟩:=h.spot (by omega)
     have c:=hc (k-1) (by omega)
     by_cases h1:d (k-1)=0
     ·go_wp2
      go_ret
      exact⟨bt ((show _=false by simp;omega).trans (nf (fun ⟨_,q⟩=>by rcases q.2 with e|e<;>omega)).symm),rfl⟩
     ·go_wp2
      go_ret
      exact⟨bt ((show _=true by simp;omega).trans (tv h2k ⟨hd,.inr h1⟩).symm),rfl⟩
 ·go_enter func119,ntmps119
  go_wp2
  go_ret
  exact⟨bt (nf (fun ⟨q,_⟩=>h2k q)).symm,rfl⟩
theorem jb (ao:Option Addr) (n cap:Nat) (d:Nat->Int) (w:World) (h:aS w ao n cap d) :
  Calls prog 140 #[.slice ao n cap] w fun e w'=>∃ t:Nat,t<=n∧kT d t∧(∀ i,t<=i->i<n->d i=0)∧e=.returned (km ao t cap)∧w'=w:=by
 have hl:=h.le
 have hm:=h.max
 go_enter func140,ntmps140
 go_wp2
 go_loop [3] (fun i=>∃ k:Nat,k<=n∧i=.int .i64 k∧∀ i,k<=i->i<n->d i=0) (fun i=>(intOf i).toNat)
 case atStart=>exact⟨n,Nat.le_refl _,rfl,fun i a b=>by omega⟩
 case round=>
  obtain⟨k,hk,rfl,hz⟩:=hrel
  have HZ:Hid (∀ i,k<=i->i<n->d i=0):=hz
  clear hz
  by_cases h0:k=0
  ·subst h0
   go_wp2
   go_ret
   exact⟨0,by omega,.inl rfl,HZ.out,rfl,rfl⟩
  ·obtain⟨b,off,rfl,hb,hc⟩:=h.spot (by omega)
   have c:=hc (k-1) (by omega)
   by_cases h1:d (k-1)=0
   ·go_wp2
    go_round
    case rel=>exact⟨k-1,by omega,by go_num,fun i a b=>by by_cases e:i=k-1;(· rw[e];exact h1);(· exact HZ.out i (by omega) b)⟩
    case measure=>simp[intOf];omega
   ·go_wp2
    go_ret
    exact⟨k,hk,.inr h1,HZ.out,by unfold km;rw[if_neg h0];simp,rfl⟩
end Go.Proofs.YtcklaogdjpbagaaGreatDoor
namespace Go.Proofs.YtcklaogdjpbagaaGreatDoor.M
open Go Go.Proofs.Tryz
def aG (V:Int):Nat:=if V<=0 then 0 else Nat.log2 V.toNat+1
theorem oJ:aG 0=0:=by decide
theorem gS (V:Int):V<2^aG V:=by
 unfold aG
 split
 ·show V<1;omega
 ·have h:=@Nat.lt_log2_self V.toNat
  have e:((V.toNat:Nat):Int)<((2^(Nat.log2 V.toNat+1):Nat):Int):=Int.ofNat_lt.2 h
  rw[Int.toNat_of_nonneg (by omega)] at e
  simpa using e
theorem gT {V:Int} (h:0<V):1<=aG V∧2^(aG V-1)<=V:=by
 unfold aG
 rw[if_neg (by omega)]
 refine⟨by omega,?_⟩
 have h1:=Nat.log2_self_le (n:=V.toNat) (by omega)
 have e:((2^Nat.log2 V.toNat:Nat):Int)<=((V.toNat:Nat):Int):=Int.ofNat_le.2 h1
 rw[Int.toNat_of_nonneg (by omega)] at e
 simpa using e
theorem eE {j k:Nat} (h:(2:Int)^j<2^k):j<k:=by
 rcases Nat.lt_or_ge j k with h1|h1
 ·exact h1
 ·have:=dp h1;omega
theorem df {V:Int} {k:Nat} (h:V<2^k):aG V<=k:=by
 by_cases h0:0<V
 ·obtain⟨h1,h2⟩:=gT h0
  have:=eE (show(2:Int)^(aG V-1)<2^k by omega)
  omega
 ·unfold aG;rw[if_pos (by omega)];omega
theorem oh {V:Int} {k:Nat} (h:2^k<=V):k<aG V:=by
 have h1:=gS V
 exact eE (by omega)
theorem jQ {V:Int} {k:Nat} (h1:2^k<=V) (h2:V<2^(k+1)):aG V=k+1:=by
 have a:=oh h1
 have b:=df h2
 omega
theorem vx {x:Int} (h0:0<=x) (h1:x<18446744073709551616):(Lib.bitLen x.toNat:Int)=aG x:=by
 by_cases hx:x=0
 ·subst hx;decide
 ·obtain⟨a,b,c⟩:=Lib.bitLenAux_bounds 64 x.toNat (by omega) (by omega)
  have e:aG x=Lib.bitLen x.toNat:=by
   have hb:Lib.bitLen x.toNat=Lib.bitLenAux 64 x.toNat:=rfl
   rw[<- hb] at a b c
   obtain⟨k,hk⟩:∃ k,Lib.bitLen x.toNat=k+1:=⟨Lib.bitLen x.toNat-1,by omega⟩
   rw[hk] at b c ⊢
   have b':((2^k:Nat):Int)<=((x.toNat:Nat):Int):=Int.ofNat_le.2 (by simpa using b)
   have c':((x.toNat:Nat):Int)<((2^(k+1):Nat):Int):=Int.ofNat_lt.2 c
   rw[Int.toNat_of_nonneg h0] at b' c'
   exact jQ (by simpa using b') (by simpa using c')
  rw[e]
theorem mw {d:Nat->Int} {n:Nat} (h:cf d (n+1)):aG (val d (n+1))=30*n+aG (d n):=by
 have hd:=h.1 n (by omega)
 have ht:d n≠0:=by rcases h.2 with e|e;(· omega);(· simpa using e)
 have hp:0<d n:=by omega
 obtain⟨a,b⟩:=gT hp
 have c:=gS (d n)
 have v0:=bz (h.1.le (Nat.le_succ n))
 have v1:=cV (h.1.le (Nat.le_succ n))
 have pp:=cA n
 obtain⟨k,hk⟩:∃ k,aG (d n)=k+1:=⟨aG (d n)-1,by omega⟩
 rw[hk] at b c ⊢
 rw[show 30*n+(k+1)=(30*n+k)+1 by omega]
 have e1:(2:Int)^(30*n+k)=2^k*P n:=by rw[Int.pow_add,dG,Int.mul_comm]
 have e2:(2:Int)^(30*n+k+1)=2^(k+1)*P n:=by rw[show 30*n+k+1=30*n+(k+1) by omega,Int.pow_add,dG,Int.mul_comm]
 have f1:(2:Int)^k*P n<=d n*P n:=Int.mul_le_mul_of_nonneg_right (by simpa using b) (by omega)
 have f2:(d n+1)*P n<=2^(k+1)*P n:=Int.mul_le_mul_of_nonneg_right (by omega) (by omega)
 rw[Int.add_mul] at f2
 apply jQ
 ·rw[e1,bc];omega
 ·rw[e2,bc];omega
end Go.Proofs.YtcklaogdjpbagaaGreatDoor.M
namespace Go.Proofs.YtcklaogdjpbagaaGreatDoor
open Go Go.Proofs.Tryz Go.RowKit Go.Proofs.YtcklaogdjpbagaaGreatDoor.M
theorem fc (x q:Int) (s:Nat) (h:q.toNat<Lib.len8tab.size) (hq0:0<=q) (hq:q<=255) (hs:s<=56) (hb:Lib.bitLen x.toNat=s+Lib.bitLen q.toNat) :
  wrap64 ((s:Int)+wrap64 ((Lib.len8tab[q.toNat]'h).toNat:Int))=(Lib.bitLen x.toNat:Int):=by
 have e:=Lib.len8_of q hq0 hq
 have l:=Lib.bitLen_le8' q hq0 hq
 unfold Lib.len8 at e
 rw[getElem?_pos Lib.len8tab q.toNat h] at e
 simp only[Option.getD_some] at e
 rw[e,hb]
 unfold wrap64
 omega
theorem ui (x:Int) (h:x.toNat<Lib.len8tab.size) (hq0:0<=x) (hq:x<=255) :
  wrap64 (wrap64 ((Lib.len8tab[x.toNat]'h).toNat:Int))=(Lib.bitLen x.toNat:Int):=by
 have:=fc x x 0 h hq0 hq (by omega) (by omega)
 simpa using this
theorem kr (x q:Int) (s:Nat) (h0:0<=x) (h1:x<=18446744073709551615) (hx:((2^s:Nat):Int)<=x) (e:q=x/((2^s:Nat):Int)):Lib.bitLen x.toNat=s+Lib.bitLen q.toNat:=by
 rw[Lib.bitLen_shift s x.toNat (by omega) (by omega),e]
 congr 2
 obtain⟨n,rfl⟩:=Int.eq_ofNat_of_zero_le h0
 rw[<- Int.natCast_ediv,Int.toNat_natCast,Int.toNat_natCast]
theorem Cc (x:Int) (w:World) (h0:0<=x) (h1:x<=18446744073709551615) :
  Calls prog 167 #[.int .u64 x] w fun e w'=>e=.returned (.int .i64 (Lib.bitLen x.toNat))∧w'=w:=by
 have hs:Lib.len8tab.size=256:=by decide +kernel
 go_enter func167,ntmps167
 go_wp2
 all_goals go_ret
 ·exact⟨cz (fc x _ 56 _ (by omega) (by omega) (by omega) (kr x _ 56 h0 h1 (by omega) (by omega))),rfl⟩
 ·exact⟨cz (fc x _ 48 _ (by omega) (by omega) (by omega) (kr x _ 48 h0 h1 (by omega) (by omega))),rfl⟩
 ·exact⟨cz (fc x _ 40 _ (by omega) (by omega) (by omega) (kr x _ 40 h0 h1 (by omega) (by omega))),rfl⟩
 ·exact⟨cz (fc x _ 32 _ (by omega) (by omega) (by omega) (kr x _ 32 h0 h1 (by omega) (by omega))),rfl⟩
 ·exact⟨cz (fc x _ 24 _ (by omega) (by omega) (by omega) (kr x _ 24 h0 h1 (by omega) (by omega))),rfl⟩
 ·exact⟨cz (fc x _ 16 _ (by omega) (by omega) (by omega) (kr x _ 16 h0 h1 (by omega) (by omega))),rfl⟩
 ·exact⟨cz (fc x _ 8 _ (by omega) (by omega) (by omega) (kr x _ 8 h0 h1 (by omega) (by omega))),rfl⟩
 ·exact⟨cz (ui x _ (by omega) (by omega)),rfl⟩
theorem zR (x:Int) (w:World) (h0:0<=x) (h1:x<=18446744073709551615) :
  Calls prog 164 #[.int .u64 x] w fun e w'=>e=.returned (.int .i64 (aG x))∧w'=w:=by
 go_enter func164,ntmps164
 go_wp2_with (go_at_call 167;refine(Cc _ _ (by omega) (by omega)).mono ?_;rintro e w' ⟨rfl,rfl⟩)
 go_ret
 exact⟨cz (vx h0 (by omega)),rfl⟩
theorem vy (x:Int) (w:World) (h0:0<=x) (h1:x<9223372036854775808) :
  Calls prog 158 #[.int .i64 x] w fun e w'=>e=.returned (.int .i64 (aG x))∧w'=w:=by
 go_enter func158,ntmps158
 go_wp2_with (go_at_call 164;refine(zR _ _ (by omega) (by omega)).mono ?_;rintro e w' ⟨rfl,rfl⟩)
 go_ret
 exact⟨rfl,rfl⟩
theorem iB (ao:Option Addr) (n cap:Nat) (d:Nat->Int) (w:World) (h:aS w ao n cap d) (hd:cf d n) (hn:n<=1000000) :
  Calls prog 142 #[.slice ao n cap] w fun e w'=>e=.returned (.int .i64 (aG (val d n)))∧w'=w:=by
 have hl:=h.le
 have hm:=h.max
 by_cases h0:n=0
 ·subst h0
  go_enter func142,ntmps142
  go_wp2
  go_ret
  exact⟨rfl,rfl⟩
 ·obtain⟨k,rfl⟩:∃ k,n=k+1:=⟨n-1,by omega⟩
  obtain⟨b,off,rfl,hb,hc⟩:=h.spot (by omega)
  have c:=hc k (by omega)
  have dk:=hd.1 k (by omega)
  have hbl:aG (d k)<=30:=df (by show d k<1073741824;exact dk.2)
  go_enter func142,ntmps142
  go_wp2_with (go_at_call 158;refine(vy _ _ (by omega) (by omega)).mono ?_;rintro e w' ⟨rfl,rfl⟩)
  go_ret
  exact⟨cz (by rw[mw hd];omega),rfl⟩
end Go.Proofs.YtcklaogdjpbagaaGreatDoor
namespace Go.Proofs.YtcklaogdjpbagaaGreatDoor.M
open Go Go.Proofs.Tryz
theorem xB {a b c:Int} (h:a<=b) (hc:0<=c):a*c<=b*c:=Int.mul_le_mul_of_nonneg_right h hc
end Go.Proofs.YtcklaogdjpbagaaGreatDoor.M
namespace Go.Proofs.YtcklaogdjpbagaaGreatDoor
open Go Go.Proofs.Tryz Go.RowKit Go.Proofs.YtcklaogdjpbagaaGreatDoor.M
structure Wr (g:Nat) (w w':World):Prop where
 os:w'.os=w.os
 tape:w'.tape=w.tape
 output:w'.output=w.output
 size:w.heap.size<=w'.heap.size
 block:∀ k,k<w.heap.size->k≠g->w'.heap[k]?=w.heap[k]?
theorem Wr.refl (g:Nat) (w:World):Wr g w w:=⟨rfl,rfl,rfl,Nat.le_refl _,fun _ _ _=>rfl⟩
theorem Wr.trans {g:Nat} {a b c:World} (h:Wr g a b) (k:Wr g b c):Wr g a c :=
 ⟨k.os.trans h.os,k.tape.trans h.tape,k.output.trans h.output,Nat.le_trans h.size k.size,fun i hi hg=>(k.block i (Nat.lt_of_lt_of_le hi h.size) hg).trans (h.block i hi hg)⟩
theorem Wr.setCell {g:Nat} {a w:World} (h:Wr g a w) (o:Nat) (u:Value):Wr g a (w.setCell ⟨g,o,none⟩ u) :=
 ⟨h.os,h.tape,h.output,by simp[World.setCell];exact h.size,fun k hk hg=>(Below.heap_setCell _ _ _ _ hg).trans (h.block k hk hg)⟩
theorem Cd {g:Nat} {a w:World} (h:Below a.heap.size a w):Wr g a w:=⟨h.os,h.tape,h.output,h.size,fun k hk _=>h.block k hk⟩
theorem Wr.below {B g:Nat} {a w w':World} (h:Wr g w w') (hb:Below B a w) (hB:B<=w.heap.size) (hg:B<=g):Below B a w' :=
 hb.trans ⟨h.os,h.tape,h.output,h.size,fun k hk=>h.block k (by omega) (by omega)⟩
theorem Wr.cell {g:Nat} {w w':World} (h:Wr g w w') {p:Addr} (hp:p.block<w.heap.size) (hg:p.block≠g):w'.cell? p=w.cell? p:=World.cell?_of_block (w:=w) (h.block p.block hp hg)
structure mz (g:Nat) (w:World) (ao:Option Addr) (n cap:Nat) (d:Nat->Int):Prop where
 le:n<=cap
 max:cap<=9223372036854775807
 spot:0<n->∃ b off,ao=some ⟨b,off,none⟩∧b<w.heap.size∧b≠g∧∀ i,i<n->w.cell? ⟨b,off+i,none⟩=some (.int .i64 (d i))
theorem mz.keeps {g:Nat} {w w':World} {ao:Option Addr} {n cap:Nat} {d:Nat->Int} (h:mz g w ao n cap d) (hw:Wr g w w'):mz g w' ao n cap d :=
  ⟨h.le,h.max,fun hn=>by
    obtain⟨b,off,rfl,hlt,hg,hc⟩:=h.spot hn
    exact ⟨b,off,rfl,Nat.lt_of_lt_of_le hlt hw.size,hg,fun i hi=>(hw.cell (p:=⟨b,off+i,none⟩) hlt hg).trans (hc i hi)⟩⟩
theorem mz.of {g:Nat} {w:World} {ao:Option Addr} {n cap:Nat} {d:Nat->Int} (h:aS w ao n cap d) (hg:w.heap.size<=g):mz g w ao n cap d :=
  ⟨h.le,h.max,fun hn=>by
    obtain⟨b,off,rfl,hlt,hc⟩:=h.spot hn
    exact ⟨b,off,rfl,hlt,by omega,hc⟩⟩
theorem oK (r:Nat->Int) (q k:Nat) (x:Int):(fun i=>cW r (q+k) x (q+i))=cW (fun i=>r (q+i)) k x:=by
 funext i
 unfold cW
 by_cases h:i=k
 ·simp[h]
 ·simp[h]
theorem oi {x:Int} {p:Nat} (hx:0<=x∧x<1073741824) (hp:p<=30):0<=x*2^p∧x*2^p<=1073741823*2^p∧(2:Int)^p<=1073741824:=by
 have h:=aJ p
 exact⟨Int.mul_nonneg hx.1 (by omega),Int.mul_le_mul_of_nonneg_right (by omega) (by omega),dp hp⟩
structure ks (q p N n:Nat) (a r0:Nat->Int) (s:Int) (k:Nat) (c:Int) (r:Nat->Int):Prop where
 rest:∀ i,q+k<=i->r i=r0 i
 near:∀ i,0<=s*(r i-r0 i)∧s*(r i-r0 i)<1073741824
 sum:∃ T,val r N=val r0 N+s*(P q*T)∧T+c*P k=2^p*val a k
theorem ks.put {q p N n:Nat} {a r0:Nat->Int} {s:Int} {k:Nat} {c:Int} {r:Nat->Int} (h:ks q p N n a r0 s k c r) (hs:s*s=1) (hN:q+k<N) {m c':Int} (hm:0<=m∧m<1073741824) (e:m+c'*1073741824=c+a k*2^p) :
  ks q p N n a r0 s (k+1) c' (cW r (q+k) (r (q+k)+s*m)):=by
 refine⟨fun i hi=>by rw[bD r _ (by omega)];exact h.rest i (by omega),fun i=>?_,?_⟩
 ·by_cases hi:i=q+k
  ·subst hi
   rw[ck,h.rest _ (Nat.le_refl _),show s*(r0 (q+k)+s*m-r0 (q+k))=s*s*m by grind,hs]
   omega
  ·rw[bD r _ hi];exact h.near i
 ·obtain⟨T,e1,e2⟩:=h.sum
  refine⟨T+m*P k,?_,?_⟩
  ·rw[tg r _ hN,e1,lN];grind
  ·rw[bc,fZ]
   have:c'*(P k*1073741824)=(c+a k*2^p-m)*P k:=by rw[show c+a k*2^p-m=c'*1073741824 by omega];grind
   rw[this,show T+m*P k+(c+a k*2^p-m)*P k=(T+c*P k)+a k*2^p*P k by grind,e2];grind
structure lR (N:Nat) (r0:Nat->Int) (s V:Int) (r:Nat->Int):Prop where
 near:∀ i,0<=s*(r i-r0 i)∧s*(r i-r0 i)<1073741824
 sum:val r N=val r0 N+s*V
theorem ks.done {q p N n:Nat} {a r0:Nat->Int} {s:Int} {c:Int} {r:Nat->Int} (h:ks q p N n a r0 s n c r) (hs:s*s=1) (hN:q+n<N) (hc:0<=c∧c<1073741824) :
  lR N r0 s (P q*(2^p*val a n)) (cW r (q+n) (r (q+n)+s*c)):=by
 refine⟨fun i=>?_,?_⟩
 ·by_cases hi:i=q+n
  ·subst hi
   rw[ck,h.rest _ (Nat.le_refl _),show s*(r0 (q+n)+s*c-r0 (q+n))=s*s*c by grind,hs]
   omega
  ·rw[bD r _ hi];exact h.near i
 ·obtain⟨T,e1,e2⟩:=h.sum
  rw[tg r _ hN,e1,lN,<- e2];grind
theorem vz {s x y C:Int} (hs:s=1∨s=-1) (h:0<=s*(x-y)∧s*(x-y)<1073741824) (hy:-C<=y∧y<=C):-(C+1073741823)<=x∧x<=C+1073741823:=by
 rcases hs with rfl|rfl<;>omega
theorem tw {s m:Int} (hs:s=1∨s=-1) (hm:0<=m∧m<1073741824):-1073741823<=s*m∧s*m<=1073741823:=by
 rcases hs with rfl|rfl<;>omega
theorem Ba {s:Int} (hs:s=1∨s=-1):s*s=1:=by rcases hs with rfl|rfl<;>rfl
theorem zS (g N:Nat) (r0:Nat->Int) (ao:Option Addr) (n ca q p:Nat) (a:Nat->Int) (w:World) (hB0:cF w g N r0) (ha:mz g w ao n ca a) (da:bF a n) (hn:n<=100000) (hqN:q+n+1<=N) (hNm:N<=1000000) (hp:p<30) (k:Int) (hk:k=30*q+p)
  (s:Int) (hs:s=1∨s=-1) (C:Int) (hC0:∀ i,i<N->-C<=r0 i∧r0 i<=C) (hC1:C<=4611686018427387904) :
  Calls prog 125 #[.slice (some ⟨g,0,none⟩) N N,.slice ao n ca,.int .i64 k,.int .i64 s] w fun e w'=>e=.returned (.tuple #[])∧∃ r,cF w' g N r∧Wr g w w'∧lR N r0 s (P q*(2^p*val a n)) r:=by
 have hla:=ha.le
 have hma:=ha.max
 have e1:k/30=q:=by omega
 have e2:k % 30=p:=by omega
 have hk0:0<=k:=by omega
 have hk1:k<=40000000:=by omega
 clear hk
 have hu:=aJ p
 have hu2:(2:Int)^p<=2^29:=dp (by omega)
 have HC:Hid (∀ i,i<N->-C<=r0 i∧r0 i<=C):=hC0
 have hss:=Ba hs
 have HS:Hid (s=1∨s=-1):=hs
 clear hC0 hs
 go_enter func125,ntmps125
 go_wp2
 go_loopw [10,18] (fun c i wr=>∃ (k:Nat) (c':Int) (r:Nat->Int),k<=n∧i=.int .i64 k∧c=.int .i64 c'∧0<=c'∧c'<2^p∧cF wr g N r∧Hid (ks q p N n a r0 s k c' r)∧Wr g w wr) (fun _ i _=>n-(intOf i).toNat)
 case atStart=>exact⟨0,0,r0,Nat.zero_le _,rfl,rfl,by omega,hu,hB0,⟨fun _ _=>rfl,fun i=>by rw[Int.sub_self,Int.mul_zero];omega,0,by rw[Int.mul_zero,Int.mul_zero,Int.add_zero],by show(0:Int)+0*1=2^p*0;omega⟩,Wr.refl _ _⟩
 case round=>
  obtain⟨k,c,r,hk,rfl,rfl,hc0,hc1,hB,HI,hW⟩:=hrel
  have hcap:-4611686018427387904-1073741823<=r (q+k)∧r (q+k)<=4611686018427387904+1073741823:=by
   have h1:=HC.out (q+k) (by omega)
   have h2:=HI.out.rest (q+k) (Nat.le_refl _)
   rw[h2];omega
  by_cases hlt:k<n
  ·obtain⟨ba,fa,rfl,hba,hbg,hca⟩:=ha.spot (by omega)
   have c1:=(hW.cell (p:=⟨ba,fa+k,none⟩) hba hbg).trans (hca k hlt)
   have cg:=hB.cell (show q+k<N by omega)
   have fg:=hB.frozen (q+k)
   have dk:=da k hlt
   obtain⟨s0,s1,s2⟩:=oi dk (show p<=30 by omega)
   have hw:wrap64 (a k*2^p)=a k*2^p:=IntWalk.wrap64_in _ ⟨by omega,by omega⟩
   have hor:bits .or .i64 c (a k*2^p)=c+a k*2^p:=vg c (a k) p hc0 hc1 dk.1 (by omega)
   have h30:=kV (c+a k*2^p)
   have hm:=fu (c+a k*2^p)
   have hc2:(c+a k*2^p)/1073741824<2^p:=by omega
   have hc3:0<=(c+a k*2^p)/1073741824:=by omega
   obtain⟨m0,m1⟩:=tw HS.out hm
   have e4:(c+a k*2^p) % 1073741824+(c+a k*2^p)/1073741824*1073741824=c+a k*2^p:=by omega
   have HI2:Hid (ks q p N n a r0 s (k+1) ((c+a k*2^p)/1073741824) (cW r (q+k) (r (q+k)+s*((c+a k*2^p) % 1073741824)))):=HI.out.put hss (by omega) hm e4
   clear e4
   generalize hM:(c+a k*2^p) % 1073741824=M at *
   generalize hSM:s*M=SM at *
   go_wp2
   go_roundw
   case rel=>exact⟨k+1,_,_,by omega,by go_num,rfl,hc3,hc2,hB.store (q+k) _,HI2,hW.setCell _ _⟩
   case measure=>simp[intOf];omega
  ·obtain rfl:k=n:=by omega
   have cg:=hB.cell (show q+k<N by omega)
   have fg:=hB.frozen (q+k)
   have hc4:c<1073741824:=by omega
   obtain⟨m0,m1⟩:=tw HS.out ⟨hc0,hc4⟩
   have HD:Hid (lR N r0 s (P q*(2^p*val a k)) (cW r (q+k) (r (q+k)+s*c))):=HI.out.done hss (by omega) ⟨hc0,hc4⟩
   generalize hSM:s*c=SM at *
   go_wp2
   first|go_end0|refine bodyPost_ret (results_none rfl _ _ _) rfl ?_
   exact⟨rfl,_,hB.store (q+k) _,hW.setCell _ _,HD.out⟩
theorem mA {x y:Int} {p:Nat} (hx:0<=x∧x<1073741824) (hy:0<=y∧y<1073741824) (hp:p<30) :
  0<=x/2^p∧x/2^p<2^(30-p)∧y*2^(30-p) % 1073741824=y % 2^p*2^(30-p)∧0<=y % 2^p∧y % 2^p*2^(30-p)<1073741824:=by
 have hu:=aJ p
 have hv:=aJ (30-p)
 have huv:(2:Int)^p*2^(30-p)=1073741824:=by rw[<- Int.pow_add,show p+(30-p)=30 by omega];rfl
 have m0:=Int.emod_nonneg y (show(2:Int)^p≠0 by omega)
 have m1:=Int.emod_lt_of_pos y hu
 refine⟨Int.ediv_nonneg hx.1 (by omega),(Int.ediv_lt_iff_lt_mul hu).2 (by rw[Int.mul_comm,huv];exact hx.2),?_,m0,?_⟩
 ·rw[<- huv,Int.mul_comm y,Int.mul_comm (2^p:Int),Int.mul_emod_mul_of_pos _ _ hv,Int.mul_comm]
 ·have h1:(y % 2^p+1)*2^(30-p)<=2^p*2^(30-p):=Int.mul_le_mul_of_nonneg_right (by omega) (by omega)
  rw[huv,Int.add_mul] at h1
  omega
theorem qz {s:Nat->Int} {u v:Int} {k:Nat} (h:s (k+1)=0):low s u v k=s k/u:=by
 unfold low;rw[h,Int.zero_emod,Int.zero_mul,Int.add_zero]
theorem xC (ao:Option Addr) (n ca q p:Nat) (a:Nat->Int) (w:World) (ha:aS w ao n ca a) (da:bF a n) (hn:n<=100000) (hp:p<30) (k:Int) (hk:k=30*q+p) (hkm:k<9223372036854775808) :
    Calls prog 143 #[.slice ao n ca,.int .i64 k] w fun e w'=>∃ v,e=.returned v∧cN w w' (val a n/P q/2^p) v:=by
  have hla:=ha.le
  have hma:=ha.max
  have e1:k/30=q:=by omega
  have e2:k % 30=p:=by omega
  have hk0:0<=k:=by omega
  have hqm:(q:Int)<9223372036854775808:=by omega
  clear hk
  have hu:=aJ p
  have huv:(2:Int)^p*2^(30-p)=1073741824:=by rw[<- Int.pow_add,show p+(30-p)=30 by omega];rfl
  have HU:Hid ((2:Int)^p*2^(30-p)=1073741824):=huv
  clear huv
  by_cases hqn:n<=q
  · have h0:val a n/P q/2^p=0:=by
      rw[Int.ediv_eq_zero_of_lt (bz da) (by have:=cV da;have:=iz hqn;omega)];exact Int.zero_ediv _
    have H0:Hid (val a n/P q/2^p=0):=h0
    clear h0
    go_enter func143,ntmps143
    go_wp2
    go_ret
    exact⟨_,rfl,by rw[H0.out];exact cN.nil (al _)⟩
  · obtain⟨ba,fa,rfl,hba,hca⟩:=ha.spot (by omega)
    have sp:(((30:Int)-p).toNat)=30-p:=by omega
    obtain⟨N,hN⟩:∃ N,n=q+N:=⟨n-q,by omega⟩
    have HN:Hid (n=q+N):=hN
    have hn1:q+N<=n:=by omega
    have hn2:n<=q+N:=by omega
    have hN0:0<N:=by omega
    have hq1:q<=100000:=by omega
    have hk1:k<=4000000:=by omega
    clear hN hqn hqm hkm
    go_enter func143,ntmps143
    go_wp2_with (at_make;refine im rfl _ _ rfl _ _ N rfl rfl (by omega) (by omega) (by omega) ?_;intro w1 hB1 hb1)
    go_loopw [24] (fun i wr=>∃ (k:Nat) (r:Nat->Int),k<=N∧i=.int .i64 k∧cF wr w.heap.size N r∧Hid (∀ i,i<k->r i=low (fun j=>bI a n (q+j)) (2^p) (2^(30-p)) i)∧Below w.heap.size w wr) (fun i _=>N-(intOf i).toNat)
    case atStart=>exact⟨0,fun _=>0,Nat.zero_le _,rfl,hB1,fun i hi=>by omega,hb1⟩
    case round=>
      obtain⟨k,r,hk,rfl,hB,HV,hbw⟩:=hrel
      by_cases hlt:k<N
      · have c1:=(hbw.cell (p:=⟨ba,fa+(q+k),none⟩) hba).trans (hca (q+k) (by omega))
        have cg:=hB.cell hlt
        have fg:=hB.frozen k
        have hB2:=hB.store k (a (q+k)/2^p)
        by_cases hl2:q+k+1<n
        · have dx:=da (q+k) (by omega)
          have dy:=da (q+k+1) (by omega)
          obtain⟨s0,s1,s2,s3,s4⟩:=mA dx dy hp
          obtain⟨t0,t1,t2⟩:=oi dy (show 30-p<=30 by omega)
          have hw:wrap64 (a (q+k+1)*2^(30-p))=a (q+k+1)*2^(30-p):=IntWalk.wrap64_in _ ⟨by omega,by omega⟩
          have h30:bits .and .i64 (a (q+k+1)*2^(30-p)) 1073741823=a (q+k+1) % 2^p*2^(30-p):=(kV _).trans s2
          have hor:bits .or .i64 (a (q+k)/2^p) (a (q+k+1) % 2^p*2^(30-p))=a (q+k)/2^p+a (q+k+1) % 2^p*2^(30-p):=vg _ _ _ s0 s1 s3 (by have:(2:Int)^(30-p)<=2^30:=dp (by omega);omega)
          have c2:=(hbw.cell (p:=⟨ba,fa+(q+k+1),none⟩) hba).trans (hca (q+k+1) (by omega))
          clear s2
          go_wp2
          go_region
          go_wp2
          go_roundw
          case rel=>exact ⟨k+1,cW (cW r k (a (q+k)/2^p)) k (a (q+k)/2^p+a (q+k+1) % 2^p*2^(30-p)),by omega,by go_num,(hB2.store k _).of_block rfl,fun i hi=>by
              by_cases e:i=k
              · rw[e,ck]
                show _=bI a n (q+k)/2^p+bI a n (q+(k+1)) % 2^p*2^(30-p)
                rw[dK a (by omega),dK a (by omega),Nat.add_assoc]
              · rw [bD _ _ e,bD r _ e]; exact HV.out i (by omega),((hbw.setCell (Nat.le_refl _) _).setCell (Nat.le_refl _) _).drew⟩
          case measure=>simp[intOf];omega
        · go_wp2
          go_roundw
          case rel=>exact ⟨k+1,cW r k (a (q+k)/2^p),by omega,by go_num,hB2,fun i hi=>by
              by_cases e:i=k
              · rw[e,ck,qz (s:=fun j=>bI a n (q+j)) (fF a (by omega)),dK a (by omega)]
              · rw [bD r _ e]; exact HV.out i (by omega),hbw.setCell (Nat.le_refl _) _⟩
          case measure=>simp[intOf];omega
      · obtain rfl:k=N:=by omega
        go_wp2_with (go_at_call 140;refine(jb _ _ _ _ _ (hB.row0 (Nat.le_refl _) (by omega))).mono ?_;rintro e w3 ⟨t,ht,htop,hz,rfl,rfl⟩)
        go_ret
        have DS:bF (fun j=>bI a n (q+j)) (k+1):=fun i hi=>ti da (q+k+1) (q+i) (by omega)
        have D2:bF r k:=(tj hu HU.out DS).congr fun i hi=>(HV.out i hi).symm
        obtain⟨hNr,hv⟩:=fR D2 ht htop hz
        refine⟨_,rfl,t,r,hB.cut (Nat.le_refl _) ht (by omega),hNr,?_,hbw⟩
        rw[hv,dY HV.out,vh (s:=fun j=>bI a n (q+j)) hu HU.out (fF a (by omega))]
        have e3:=mq a (show q<=n by omega) da
        rw[<- e3,show n-q=k by omega]
        congr 1
        exact dY fun i hi=>dK a (by omega)
theorem vA (ao:Option Addr) (n ca k:Nat) (a:Nat->Int) (w:World) (ha:aS w ao n ca a) (da:bF a n) (hn:n<=100000) (hk:(k:Int)<9223372036854775808) :
  Calls prog 143 #[.slice ao n ca,.int .i64 k] w fun e w'=>∃ v,e=.returned v∧cN w w' (val a n/2^k) v:=by
 refine(xC ao n ca (k/30) (k % 30) a w ha da hn (by omega) k (by omega) hk).mono ?_
 rintro e w' ⟨v,he,h⟩
 refine⟨v,he,?_⟩
 rw[kW k,<- Int.ediv_ediv_of_nonneg (Int.le_of_lt (cA _))]
 exact h
def iD (ng:Bool) (d:Nat->Int) (n:Nat) (e:Int):Bool:=decide ((n=0∧ng=false∧e=0)∨(0<n∧(n<=2000∧cf d n)∧d 0 % 2=1∧-1048576<=e∧e<=1048576))
theorem zT (x:Int):bits .and .i64 x 1=x % 2:=eP x 1 (by decide)
theorem iG (ng:Bool) (ao:Option Addr) (n cap:Nat) (d:Nat->Int) (e:Int) (w:World) (h:aS w ao n cap d) :
  Calls prog 100 #[.agg #[.bool ng,.slice ao n cap,.int .i64 e]] w fun r w'=>r=.returned (.bool (iD ng d n e))∧Below w.heap.size w w':=by
 have hl:=h.le
 have hm:=h.max
 by_cases h0:n=0
 ·subst h0
  have e0:iD ng d 0 e=(!ng&&(e == 0)):=by
   by_cases he:e=0<;>cases ng<;>simp[iD,he]
  cases ng
  ·go_enter func100,ntmps100
   go_wp2
   go_ret
   exact⟨bt (by rw[e0];rfl),ah _ _⟩
  ·go_enter func100,ntmps100
   go_wp2
   go_ret
   exact⟨bt (by rw[e0];rfl),ah _ _⟩
 ·obtain⟨b,off,rfl,hb,hc⟩:=h.spot (by omega)
  have c0:(w.alloc (.cells #[.bool ng,.slice (some ⟨b,off,none⟩) n cap,.int .i64 e] 33)).cell? ⟨b,off,none⟩=some (.int .i64 (d 0)):=((ah w _).cell (p:=⟨b,off,none⟩) hb).trans (hc 0 (by omega))
  have hA:=zT (d 0)
  have hn0:((n:Int) == 0)=false:=by simp;omega
  have hR:=h.alloc (.cells #[.bool ng,.slice (some ⟨b,off,none⟩) n cap,.int .i64 e] 33)
  by_cases h1:d 0 % 2=1
  ·by_cases h2:-1048576<=e
   ·by_cases h3:e<=1048576
    ·have e0:iD ng d n e=qx d n:=by simp[iD,qx,h0,h1,h2,h3];omega
     go_enter func100,ntmps100
     go_wp2_with (go_at_call 119;refine(vw _ _ _ _ _ hR).mono ?_;rintro r w1 ⟨rfl,rfl⟩)
     go_ret
     exact⟨bt e0.symm,ah _ _⟩
    ·have e0:iD ng d n e=false:=by simp[iD];omega
     go_enter func100,ntmps100
     go_wp2
     go_ret
     exact⟨bt (by first|rfl|rw[e0]),ah _ _⟩
   ·have e0:iD ng d n e=false:=by simp[iD];omega
    go_enter func100,ntmps100
    go_wp2
    go_ret
    exact⟨bt (by first|rfl|rw[e0]),ah _ _⟩
  ·have e0:iD ng d n e=false:=by simp[iD];omega
   go_enter func100,ntmps100
   go_wp2
   go_ret
   exact⟨bt (by first|rfl|rw[e0]),ah _ _⟩
def dT (ng:Bool) (n:Nat):Int:=if n=0 then 0 else if ng then -1 else 1
theorem oL (ng:Bool) (ao:Option Addr) (n cap:Nat) (e:Int) (w:World) (hm:n<=9223372036854775807) :
  Calls prog 101 #[.agg #[.bool ng,.slice ao n cap,.int .i64 e]] w fun r w'=>r=.returned (.int .i64 (dT ng n))∧Below w.heap.size w w':=by
 by_cases h0:n=0
 ·subst h0
  go_enter func101,ntmps101
  go_wp2
  go_ret
  exact⟨rfl,ah _ _⟩
 ·have hn0:((n:Int) == 0)=false:=by simp;omega
  cases ng
  ·go_enter func101,ntmps101
   go_wp2
   go_ret
   exact⟨cz (by simp[dT,h0]),ah _ _⟩
  ·go_enter func101,ntmps101
   go_wp2
   go_ret
   exact⟨cz (by simp[dT,h0]),ah _ _⟩
theorem xD (ng:Bool) (ao:Option Addr) (n cap:Nat) (d:Nat->Int) (e:Int) (w:World) (h:aS w ao n cap d) (hd:cf d n) (hn:n<=100000) (he0:-8388608<=e) (he1:e<=8388608) :
  Calls prog 145 #[.agg #[.bool ng,.slice ao n cap,.int .i64 e]] w fun r w'=>r=.returned (.int .i64 (e+aG (val d n)))∧Below w.heap.size w w':=by
 have hR:=h.alloc (.cells #[.bool ng,.slice ao n cap,.int .i64 e] 33)
 have hb:aG (val d n)<=30*n:=df (by rw[<- dG];exact cV hd.1)
 go_enter func145,ntmps145
 go_wp2
 go_quiet ((refine(iB _ _ _ _ _ (hR.keeps (aO (al _) _)) hd (by omega)).mono ?_;rintro _ _ ⟨rfl,rfl⟩;exact⟨rfl,_,rfl⟩))
 go_wp2
 go_ret
 exact⟨rfl,aO (ah _ _) _⟩
structure aI where
 ng:Bool
 ao:Option Addr
 n:Nat
 cap:Nat
 d:Nat->Int
 e:Int
instance:Inhabited aI:=⟨⟨false,none,0,0,fun _=>0,0⟩⟩
def aI.v (r:aI):Value:=.agg #[.bool r.ng,.slice r.ao r.n r.cap,.int .i64 r.e]
structure qA (w:World) (b o:Nat) (r:aI):Prop where
 c0:w.cell? ⟨b,o,none⟩=some (.bool r.ng)
 c1:w.cell? ⟨b,o+1,none⟩=some (.slice r.ao r.n r.cap)
 c2:w.cell? ⟨b,o+2,none⟩=some (.int .i64 r.e)
 row:aS w r.ao r.n r.cap r.d
structure fG (w:World) (ao:Option Addr) (n cap:Nat) (r:Nat->aI):Prop where
 le:n<=cap
 max:cap<=9223372036854775807
 spot:0<n->∃ b off,ao=some ⟨b,off,none⟩∧b<w.heap.size∧∀ i,i<n->qA w b (off+i*3) (r i)
theorem qA.keeps {w w':World} {b o:Nat} {r:aI} (h:qA w b o r) (hb:Below w.heap.size w w') (hlt:b<w.heap.size):qA w' b o r :=
 ⟨(hb.cell (p:=⟨b,o,none⟩) hlt).trans h.c0,(hb.cell (p:=⟨b,o+1,none⟩) hlt).trans h.c1,(hb.cell (p:=⟨b,o+2,none⟩) hlt).trans h.c2,h.row.keeps hb⟩
theorem fG.keeps {w w':World} {ao:Option Addr} {n cap:Nat} {r:Nat->aI} (h:fG w ao n cap r) (hb:Below w.heap.size w w'):fG w' ao n cap r :=
  ⟨h.le,h.max,fun hn=>by
    obtain⟨b,off,rfl,hlt,hc⟩:=h.spot hn
    exact ⟨b,off,rfl,Nat.lt_of_lt_of_le hlt hb.size,fun i hi=>(hc i hi).keeps hb hlt⟩⟩
def dI (r:aI):Bool:=iD r.ng r.d r.n r.e
def kt (r:Nat->aI) (n:Nat):Bool:=decide (∀ i,i<n->dI (r i)=true)
theorem jJ (ao:Option Addr) (n cap:Nat) (r:Nat->aI) (w:World) (h:fG w ao n cap r) :
    Calls prog 104 #[.slice ao n cap] w fun x w'=>x=.returned (.bool (kt r n))∧Below w.heap.size w w':=by
  have hl:=h.le
  have hm:=h.max
  go_enter func104,ntmps104
  go_wp2_with fail
  go_loopw [7] (fun i wr=>∃ k:Nat,k<=n∧i=.int .i64 k∧Hid (∀ j,j<k->dI (r j)=true)∧Below w.heap.size w wr) (fun i _=>n-(intOf i).toNat)
  case atStart=>exact⟨0,Nat.zero_le _,rfl,fun j hj=>by omega,al _⟩
  case round=>
    obtain⟨k,hk,rfl,HO,hbw⟩:=hrel
    by_cases hlt:k<n
    · obtain⟨b,off,rfl,hb,hc⟩:=h.spot (by omega)
      obtain⟨c0,c1,c2,hR⟩:=(hc k hlt).keeps hbw hb
      generalize hr:r k=x at *
      obtain⟨ng,xo,xn,xc,xd,xe⟩:=x
      simp only at c0 c1 c2 hR
      by_cases hok:iD ng xd xn xe=true
      · go_wp2_with (go_at_call 100;refine(iG ng xo xn xc xd xe _ (hR.alloc _)).mono ?_;rintro x w1 ⟨rfl,hb1⟩)
        go_roundw
        case rel=>exact ⟨k+1,by omega,by go_num,fun j hj=>by
            by_cases e:j=k
            · subst e;rw[hr];exact hok
            · exact HO.out j (by omega),hbw.trans ((ac (ah _ _) hb1).mono hbw.size)⟩
        case measure=>simp[intOf];omega
      · have hok':iD ng xd xn xe=false:=by simpa using hok
        go_wp2_with (go_at_call 100;refine(iG ng xo xn xc xd xe _ (hR.alloc _)).mono ?_;rintro x w1 ⟨rfl,hb1⟩)
        go_ret
        exact ⟨bt (by
          symm
          refine decide_eq_false fun hx=>?_
          have:=hx k hlt
          rw[hr] at this
          exact hok this),hbw.trans ((ac (ah _ _) hb1).mono hbw.size)⟩
    · obtain rfl:k=n:=by omega
      go_wp2
      go_ret
      exact⟨bt (decide_eq_true HO.out).symm,hbw⟩
theorem sH (ao bo:Option Addr) (n m ca cb:Nat) (a b:Nat->Int) (w:World) (ha:aS w ao n ca a) (hb:aS w bo m cb b) (da:bF a n) (db:bF b m) (hn:n<=100000) (hm:m<=100000) :
  Calls prog 161 #[.slice ao n ca,.slice bo m cb] w fun e w'=>∃ v,e=.returned v∧cN w w' (val a n*val b m) v:=by
 have hla:=ha.le
 have hma:=ha.max
 have hlb:=hb.le
 have hmb:=hb.max
 go_enter func161,ntmps161
 go_wp2_with (at_make;refine im rfl _ _ rfl _ _ (n+m) rfl rfl (by omega) (by omega) (by omega) ?_;intro w1 hB1 hb1)
 go_loopw [18] (fun i wr=>∃ (k:Nat) (r:Nat->Int),k<=n∧i=.int .i64 k∧cF wr w.heap.size (n+m) r∧bF r (n+m)∧Hid (∀ t,k+m<=t->r t=0)∧Hid (val r (k+m)=val a k*val b m)∧Below w.heap.size w wr) (fun i _=>n-(intOf i).toNat)
 case atStart=>exact⟨0,fun _=>0,Nat.zero_le _,rfl,hB1,mu _,fun _ _=>rfl,by show _=_;rw[eY (Nat.zero_le (0+m)) (fun _ _ _=>rfl)];show 0=0*val b m;omega,hb1⟩
 case round=>
  obtain⟨i,r0,hi,rfl,hB0,hD0,HZ0,HV0,hbw0⟩:=hrel
  by_cases hlt:i<n
  ·obtain⟨ba,fa,rfl,hba,hca⟩:=ha.spot (by omega)
   have dai:=da i hlt
   go_wp2
   go_loopw [8,30] (fun c j wr=>∃ (k:Nat) (q:Int) (r:Nat->Int),k<=m∧j=.int .i64 k∧c=.int .i64 q∧0<=q∧q<1073741824∧cF wr w.heap.size (n+m) r∧bF r (n+m)∧Hid (∀ t,i+k<=t->r t=r0 t)∧Hid (val r (i+k)+q*P (i+k)=val r0 (i+k)+a i*val b k*P i)∧Below w.heap.size w wr) (fun _ j _=>m-(intOf j).toNat)
   case atStart=>exact⟨0,0,r0,Nat.zero_le _,rfl,rfl,by omega,by omega,hB0,hD0,fun _ _=>rfl,by show _=_;show val r0 i+0*P i=val r0 i+a i*0*P i;grind,hbw0⟩
   case round=>
    obtain⟨k,q,r,hk,rfl,rfl,hq0,hq1,hB,hD,HS,HV,hbw⟩:=hrel
    have c1:=(hbw.cell (p:=⟨ba,fa+i,none⟩) hba).trans (hca i hlt)
    by_cases hkm:k<m
    ·obtain⟨bb,fb,rfl,hbb,hcb⟩:=hb.spot (by omega)
     have c2:=(hbw.cell (p:=⟨bb,fb+k,none⟩) hbb).trans (hcb k hkm)
     have c3:=hB.cell (show i+k<n+m by omega)
     have fg:=hB.frozen (i+k)
     have drk:=hD (i+k) (by omega)
     have hmul:=tn dai (db k hkm)
     have h30:=kV (q+(a i*b k+r (i+k)))
     go_wp2
     go_quiet (fail)
     go_wp2
     have hs:=qw (b:=b) (j:=k) HV.out (HS.out (i+k) (Nat.le_refl _))
     go_roundw
     case rel=>exact⟨k+1,_,cW r (i+k) ((q+(a i*b k+r (i+k))) % 1073741824),by omega,by go_num,rfl,by omega,by omega,hB.store (i+k) _,hD.upd _ (fu _),fun t ht=>by rw[bD r _ (by omega)];exact HS.out t (by omega),hs,(aO hbw _).setCell (Nat.le_refl _) _⟩
     case measure=>simp[intOf];omega
    ·obtain rfl:k=m:=by omega
     have c3:=hB.cell (show i+k<n+k by omega)
     have fg:=hB.frozen (i+k)
     go_wp2
     have hr:=tq HV.out HV0.out
     go_roundw
     case rel=>exact⟨i+1,cW r (i+k) q,by omega,by go_num,hB.store (i+k) _,hD.upd _ ⟨hq0,hq1⟩,fun t ht=>by rw[bD r _ (by omega),HS.out t (by omega)];exact HZ0.out t (by omega),by show _=_;rw[hr,bc],hbw.setCell (Nat.le_refl _) _⟩
     case measure=>simp[intOf];omega
  ·obtain rfl:i=n:=by omega
   go_wp2_with (go_at_call 140;refine(jb _ _ _ _ _ (hB0.row0 (Nat.le_refl _) (by omega))).mono ?_;rintro e w3 ⟨t,ht,htop,hz,rfl,rfl⟩)
   go_ret
   obtain⟨hN,hv⟩:=fR hD0 ht htop hz
   exact⟨_,rfl,t,r0,hB0.cut (Nat.le_refl _) ht (by omega),hN,by rw[hv,HV0.out],hbw0⟩
theorem tx {d e:Nat->Int} {n k:Nat} (hd:bF d n) (he:bF e n) (hk:k<n) (hs:∀ i,k<i->i<n->d i=e i) (hne:d k≠e k):aT (d k) (e k)=aT (val d n) (val e n):=by
 rcases Int.lt_or_gt_of_ne hne with h1|h1
 ·rw[dL h1,dL (tr hd he hk hs h1)]
 ·rw[dM h1,dM (tr he hd hk (fun i a b=>(hs i a b).symm) h1)]
structure zc (w:World) (ao bo:Option Addr) (n m ca cb:Nat) (a b:Nat->Int):Prop where
 ra:aS w ao n ca a
 rb:aS w bo m cb b
instance (n:Nat) (a b:Nat->Int):Decidable (∀ i,i<n->a i=b i):=by infer_instance
def DO (w w':World) (v:Value) (n:Nat) (d:Nat->Int):Prop:=cy w.heap.size w' v n d∧Below w.heap.size w w'
theorem oM (w:World) (d:Nat->Int) {g:Nat} (hg:g=w.heap.size):cy w.heap.size (w.alloc (.cells #[] 3)) (.slice (some ⟨g,0,none⟩) 0 0) 0 d:=by
 subst hg
 exact⟨by simp[fz],.inr ⟨w.heap.size,0,#[],rfl,Nat.le_refl _,heap_alloc_new w _,Nat.le_refl _,by decide,rfl,rfl⟩⟩
theorem vC (ao:Option Addr) (n cap:Nat) (d:Nat->Int) (w:World) (h:aS w ao n cap d) (hn:n<=500000) :
  Calls prog 156 #[.slice ao n cap] w fun e w'=>∃ v,e=.returned v∧DO w w' v n d:=by
 cases ao with
 | none=>
  have hc:=h.nl rfl
  have hl:=h.le
  subst hc
  obtain rfl:n=0:=by omega
  have hnil:=fun w':World=>Lib.run_eql_slice_nil (P:=prog) w' 31 3 none 0 0 0 0 underlying31
  go_enter func156,ntmps156
  go_wp2
  go_ret
  exact⟨_,rfl,cy.nil _ _ _,al _⟩
 | some ad=>
  have hnil:=fun w':World=>Lib.run_eql_slice_nil (P:=prog) w' 31 3 (some ad) n cap 0 0 underlying31
  go_enter func156,ntmps156
  go_wp2_with (at_builtin;refine cB rfl _ _ rfl w.heap.size _ 0 d rfl (oM w d rfl) _ n cap d rfl (h.alloc _) (by omega) (by simp) ?_;intro v' w1 hO1 hg1)
  go_ret
  refine⟨_,rfl,?_,?_⟩
  ·rw[Nat.zero_add] at hO1
   exact hO1.congr fun i hi=>by simp[kP]
  ·exact(ah w _).grown hg1 (by simp) (dS (oM w d rfl))
theorem uj (V:Int) (w:World) (h0:0<=V) (h1:V<9223372036854775808) :
    Calls prog 139 #[.int .i64 V] w fun e w'=>∃ v,e=.returned v∧cN w w' V v:=by
  have HM:Hid (V<9223372036854775808):=h1
  clear h1
  go_enter func139,ntmps139
  go_wp2
  go_loopw [0,3] (fun i v wr=>∃ (x:Int) (k:Nat) (r:Nat->Int),i=.int .i64 x∧0<=x∧k<=3∧cy w.heap.size wr v k r∧bF r k∧Hid (x*P k<=V)∧Hid (x=0->kT r k)∧Hid (val r k+x*P k=V)∧Below w.heap.size w wr) (fun i _ _=>(intOf i).toNat)
  case atStart=>exact⟨V,0,fun _=>0,rfl,h0,by omega,cy.nil _ _ _,fun i hi=>by omega,by show _<=_;show V*1<=V;omega,fun _=>.inl rfl,by show _=_;show 0+V*1=V;omega,al _⟩
  case round=>
    obtain⟨x,k,r,rfl,hx,hk3,hO,hD,HB,HT,HV,hbw⟩:=hrel
    by_cases hp:0<x
    · have h30:=kV x
      have hk2:k<=2:=by
        by_cases e:k=3
        · subst e
          have a:=HB.out
          have b:=HM.out
          have c:P 3=1073741824*1073741824*1073741824:=by decide
          have d:1*P 3<=x*P 3:=Int.mul_le_mul_of_nonneg_right (by omega) (Int.le_of_lt (cA 3))
          omega
        · omega
      go_wp2_with (at_builtin;refine cB rfl _ _ rfl w.heap.size _ k r rfl (hO.stays (ah _ _)) _ 1 1 (fun _=>x % 1073741824) rfl (gI _ _ rfl) (by omega) (by have:=hbw.size;simp;omega) ?_;intro v' w1 hO1 hg1)
      have hb1:Below w.heap.size w w1:=(hbw.alloc hbw.size _).grown hg1 (by have:=hbw.size;simp;omega) (dS hO)
      have e1:∀ i,i<k+1->kP r k (fun _=>x % 1073741824) i=cW r k (x % 1073741824) i:=fun i hi=>by
        by_cases e:i<k
        · simp[kP,e,bD r _ (show i≠k by omega)]
        · obtain rfl:i=k:=by omega
          simp[kP,ck]
      have hs:=dP (c:=0) (x:=x) (show val r k+0*P k=val r k by omega)
      rw[Int.zero_add] at hs
      go_roundw
      case rel=>exact ⟨x/1073741824,k+1,cW r k (x % 1073741824),rfl,by omega,by omega,hO1.congr e1,qy ((hD.congr (fun i hi=>(bD r _ (by omega)).symm))) (by rw [ck]; omega) (by rw [ck]; omega),by
          show _<=_
          have a:=HB.out
          rw[fZ,show x/1073741824*(P k*1073741824)=(x/1073741824*1073741824)*P k by grind]
          have b:(x/1073741824*1073741824)*P k<=x*P k:=Int.mul_le_mul_of_nonneg_right (by omega) (Int.le_of_lt (cA k))
          omega,fun e=>.inr (by rw [Nat.add_sub_cancel,ck]; omega),by show _=_; rw [hs]; exact HV.out,hb1⟩
      case measure=>simp[intOf];omega
    · obtain rfl:x=0:=by omega
      go_wp2
      go_ret
      exact⟨_,rfl,k,r,hO,⟨hD,HT.out (by first|rfl|trivial)⟩,by have:=HV.out;omega,hbw⟩
theorem cy.cut {B:Nat} {w:World} {ao:Option Addr} {n cap m:Nat} {d:Nat->Int} (h:cy B w (.slice ao n cap) n d) (hm:m<=n):cy B w (.slice ao m cap) m d:=by
 refine⟨by rw[dw];omega,?_⟩
 rcases h.2 with⟨hn,h0⟩|⟨g,cap',cur,hv,hB,hg,hnc,hcm,hs,ht⟩
 ·simp only[Value.slice.injEq] at hn
  obtain⟨rfl,rfl,rfl⟩:=hn
  obtain rfl:m=0:=by omega
  exact .inl ⟨rfl,rfl⟩
 ·simp only[Value.slice.injEq] at hv
  obtain⟨rfl,_,rfl⟩:=hv
  refine .inr ⟨g,cap,cur,rfl,hB,hg,by omega,hcm,hs,?_⟩
  apply kl (by simp;omega)
  intro i hi
  have e:(cur.toList.take (n*1))[i]?=(fz d n)[i]?:=by rw[ht]
  rw[List.getElem?_take,if_pos (by omega),gi d (by omega)] at e
  rw[List.getElem?_take,if_pos (by omega)];exact e
theorem aS.drew {w:World} {ao:Option Addr} {n cap:Nat} {d:Nat->Int} (h:aS w ao n cap d):aS w.drew ao n cap d:=⟨h.le,h.max,h.nl,h.spot⟩
def dZ (w:World):Prop:=∀ j,j<64->w.cell? ⟨3,j,none⟩=some (.int .u8 ((Lib.deBruijn64tab.getD j 0:Nat):Int))
theorem dZ.keeps {w w':World} (h:dZ w) (hb:Below w.heap.size w w'):dZ w':=fun j hj=>
 (hb.cell (p:=⟨3,j,none⟩) (World.block_lt_of_cell? w _ (h j hj))).trans (h j hj)
theorem Bb (x a:Nat) (hx:x<18446744073709551616) (hx0:x≠0) (hlow:x &&& (18446744073709551616-x)=a) :
  IntKind.u64.wrap (bits .and .u64 (x:Int) (IntKind.u64.wrap (-(x:Int)))*285870213051353865)/288230376151711744=((a*285870213051353865 % 18446744073709551616/288230376151711744:Nat):Int):=by
 have e1:IntKind.u64.wrap (-(x:Int))=((18446744073709551616-x:Nat):Int):=by rw[IntKind.wrap_u64];omega
 rw[e1,bits_and_u64_nat x _ hx (by omega),hlow,IntKind.wrap_u64]
 omega
theorem zU (x k idx:Nat) (w:World) (hx0:((x:Int) == 0)=false)
  (bl:IntKind.u64.wrap (bits .and .u64 (x:Int) (IntKind.u64.wrap (-(x:Int)))*285870213051353865)/288230376151711744=(idx:Int))
  (hi:idx<64) (hk:k<64) (hcell:w.cell? ⟨3,idx,none⟩=some (.int .u8 k)) :
  Calls prog 163 #[.int .u64 x] w fun e w'=>e=.returned (.int .i64 k)∧w'=w:=by
 go_enter func163,ntmps163
 go_wp2_with (simp only[bl])
 go_ret
 exact⟨rfl,rfl⟩
theorem uk (x:Nat) (hx:x<18446744073709551616) (h0:x≠0) (w:World) (hT:dZ w) :
  Calls prog 163 #[.int .u64 x] w fun e w'=>e=.returned (.int .i64 (Lib.ctz 64 x))∧w'=w:=by
 obtain⟨hlow,hk⟩:=Lib.lowest_bit 64 x h0 hx
 obtain⟨hi,htab⟩:=Lib.deBruijn64_at _ hk
 have hcell:=hT _ hi
 rw[htab] at hcell
 exact zU x _ _ w (by simp;omega) (Bb x _ hx h0 hlow) hi hk hcell
theorem sI (x:Int) (hx0:0<x) (hx:x<1073741824) (w:World) (hT:dZ w) :
  Calls prog 163 #[.int .u64 x] w fun e w'=>∃ l:Nat,e=.returned (.int .i64 l)∧(l<64∧dz x l)∧w'=w:=by
 obtain⟨n,rfl⟩:=Int.eq_ofNat_of_zero_le (Int.le_of_lt hx0)
 obtain⟨m,hm,hk⟩:=Lib.ctzFrom_spec 64 n (by omega) (by omega)
 have e:Lib.ctz 64 n=Lib.ctzFrom 64 n:=by simp[Lib.ctz];omega
 rw[<- e] at hm hk
 refine(uk n (by omega) (by omega) _ hT).mono ?_
 rintro e w' ⟨rfl,rfl⟩
 refine⟨_,rfl,⟨hk,m,?_⟩,rfl⟩
 have:((n:Nat):Int)=((2^Lib.ctz 64 n*(2*m+1):Nat):Int):=congrArg _ hm
 rw[this,Int.natCast_mul,Int.mul_comm];simp
theorem mB (x:Int) (hx0:0<x) (hx:x<1073741824) (w:World) (hT:dZ w) :
  Calls prog 157 #[.int .u64 x] w fun e w'=>∃ l:Nat,e=.returned (.int .i64 l)∧(l<64∧dz x l)∧w'=w:=by
 go_enter func157,ntmps157
 go_wp2_with fail
 refine(sI x hx0 hx _ hT).mono ?_
 rintro e w' ⟨l,rfl,hl,rfl⟩
 go_wp2
 go_ret
 exact⟨_,rfl,hl,rfl⟩
theorem ku {V:Int} {l k:Nat} (h:dz V l) (h':dz V k):l=k:=by
 have bl:∀ (l k:Nat) (V:Int),dz V l->dz V k->¬ l<k:=fun l k V ⟨m,hm⟩ ⟨m',hm'⟩ hlt=>by
  obtain⟨d,rfl⟩:∃ d,k=l+1+d:=⟨k-l-1,by omega⟩
  rw[hm,Int.pow_add,Int.pow_add] at hm'
  have e:(2*m+1)*2^l=((2*m'+1)*(2^d*2))*2^l:=by rw[hm'];grind
  have e2:=Int.eq_of_mul_eq_mul_right (Int.ne_of_gt (aJ l)) e
  have e3:(2*m'+1)*(2^d*2)=2*((2*m'+1)*2^d):=by grind
  rw[e3] at e2
  generalize (2*m'+1)*2^d=Z at e2
  omega
 rcases Nat.lt_trichotomy l k with q|q|q
 ·exact absurd q (bl l k V h h')
 ·exact q
 ·exact absurd q (bl k l V h' h)
theorem oN {d:Nat->Int} {n i l:Nat} (hi:i<n) (hz:∀ j,j<i->d j=0) (h:dz (d i) l) (hl:l<30):dz (val d n) (30*i+l):=by
 obtain⟨m,hm⟩:=h
 have e1:val d n=P i*val (fun j=>d (i+j)) (n-i):=by
  have:=mW d i (n-i) hz
  rwa [show i+(n-i)=n by omega] at this
 obtain⟨r,hr⟩:∃ r,n-i=r+1:=⟨n-i-1,by omega⟩
 have e2:val (fun j=>d (i+j)) (n-i)=d i+1073741824*val (fun j=>d (i+(j+1))) r:=by
  rw[hr]
  have h:=eW (fun j=>d (i+j)) 1 r
  rw[Nat.add_comm 1 r] at h
  rw[h]
  have e:(fun j=>d (i+(1+j)))=fun j=>d (i+(j+1)):=by funext j;rw[Nat.add_comm 1 j]
  show 0+d (i+0)*1+1*1073741824*_=_
  rw[e,Nat.add_zero];omega
 have e3:(1073741824:Int)=2^l*(2*2^(29-l)):=by
  rw[<- Int.mul_assoc,Int.mul_comm (2^l) 2,Int.mul_assoc,<- Int.pow_add,show l+(29-l)=29 by omega];rfl
 refine⟨m+2^(29-l)*val (fun j=>d (i+(j+1))) r,?_⟩
 rw[e1,e2,hm,e3,Int.pow_add,<- dG]
 grind
theorem vD {x:Int} {l:Nat} (h0:0<x) (h1:x<1073741824) (h:dz x l):l<30:=by
 obtain⟨m,hm⟩:=h
 rcases Nat.lt_or_ge l 30 with q|q
 ·exact q
 ·have h2:(2:Int)^30<=2^l:=dp q
  have h3:0<2*m+1:=by
   rcases Int.lt_or_le 0 (2*m+1) with r|r
   ·exact r
   ·have:=Int.mul_nonneg (show 0 <= -(2*m+1) by omega) (Int.le_of_lt (aJ l))
    rw[Int.neg_mul,<- hm] at this
    omega
  have h4:1*2^l<=(2*m+1)*2^l:=xB (by omega) (Int.le_of_lt (aJ l))
  have h5:(2:Int)^30=1073741824:=rfl
  omega
def mC (V l:Int):Prop:=(V=0∧l=-1)∨∃ k:Nat,l=k∧dz V k
theorem nj (ao:Option Addr) (n cap:Nat) (d:Nat->Int) (w:World) (h:aS w ao n cap d) (hd:bF d n) (hn:n<=100000) (hT:dZ w) :
  Calls prog 141 #[.slice ao n cap] w fun e w'=>∃ l,e=.returned (.int .i64 l)∧mC (val d n) l∧w'=w:=by
 have hl:=h.le
 have hm:=h.max
 go_enter func141,ntmps141
 go_wp2
 go_loop [6] (fun i=>∃ k:Nat,k<=n∧i=.int .i64 k∧Hid (∀ j,j<k->d j=0)) (fun i=>n-(intOf i).toNat)
 case atStart=>exact⟨0,Nat.zero_le _,rfl,fun j hj=>by omega⟩
 case round=>
  obtain⟨k,hk,rfl,HZ⟩:=hrel
  by_cases hlt:k<n
  ·obtain⟨b,off,rfl,hb,hc⟩:=h.spot (by omega)
   have c:=hc k hlt
   have dk:=hd k hlt
   by_cases hz:d k=0
   ·go_wp2
    go_round
    case rel=>exact⟨k+1,by omega,by go_num,fun j hj=>by by_cases e:j=k;(· rw[e];exact hz);(· exact HZ.out j (by omega))⟩
    case measure=>simp[intOf];omega
   ·have hp:0<d k:=by omega
    go_wp2_with fail
    refine(mB (d k) hp dk.2 _ hT).mono ?_
    rintro e w' ⟨l,rfl,⟨hl64,hlow⟩,rfl⟩
    go_wp2
    go_ret
    exact⟨_,rfl,.inr ⟨30*k+l,by omega,oN hlt HZ.out hlow (vD hp dk.2 hlow)⟩,rfl⟩
  ·obtain rfl:k=n:=by omega
   go_wp2
   go_ret
   exact⟨_,rfl,.inl ⟨eY (Nat.zero_le k) (fun i _ hi=>HZ.out i hi),rfl⟩,rfl⟩
def kv (V:Int) (i:Nat):Bool:=V/2^i % 2 == 1
theorem zV {d:Nat->Int} {n q p:Nat} (hd:bF d n) (hq:q<n) (hp:p<30):val d n/2^(30*q+p) % 2=d q/2^p % 2:=by
 have hpw:=cA q
 rw[Int.pow_add,<- dG,<- Int.ediv_ediv_of_nonneg (Int.le_of_lt hpw),<- mq d (by omega) hd]
 obtain⟨r,hr⟩:∃ r,n-q=r+1:=⟨n-q-1,by omega⟩
 have h:=eW (fun j=>d (q+j)) 1 r
 rw[Nat.add_comm 1 r] at h
 rw[hr,h]
 have e3:(1073741824:Int)=2*2^(29-p)*2^p:=by
  rw[Int.mul_assoc,<- Int.pow_add,show 29-p+p=29 by omega];rfl
 have e4:val (fun j=>d (q+j)) 1+P 1*val (fun i=>d (q+(1+i))) r=d q+(2*2^(29-p)*val (fun i=>d (q+(1+i))) r)*2^p:=by
  show 0+d (q+0)*1+1*1073741824*_=_
  rw[Nat.add_zero,e3];grind
 rw[e4,Int.add_mul_ediv_right _ _ (Int.ne_of_gt (aJ p)),Int.mul_assoc 2,Int.add_mul_emod_self_left]
theorem xE {V:Int} {i:Nat} (h0:0<=V) (h:aG V<=i):kv V i=false:=by
 have h1:=gS V
 have h2:(2:Int)^aG V<=2^i:=dp h
 unfold kv
 rw[Int.ediv_eq_zero_of_lt h0 (Int.lt_of_lt_of_le h1 h2)];rfl
theorem qB {V l:Int} (h:mC V l) (h0:0<V):∃ k:Nat,l=k∧dz V k:=by
 rcases h with⟨h1,_⟩|h
 ·omega
 ·exact h
theorem qC {d:Nat->Int} {n k:Nat} (hd:bF d n) (h0:0<val d n) (h:dz (val d n) k):k<30*n:=by
 have h1:=cV hd
 rw[dG] at h1
 obtain⟨a,b,c⟩:=eZ h h0
 have h2:(1:Int)*2^k<=val d n/2^k*2^k:=Int.mul_le_mul_of_nonneg_right (by omega) (Int.le_of_lt (aJ k))
 exact eE (by omega)
theorem gU {w W w3:World} {V:Int} {v:Value} (hv:cN W w3 V v) (hb:Below w.heap.size w W) {g:Nat} (h0:w.heap.size<=g) (h1:g<W.heap.size) (a b c:Value) :
  cN w (((w3.setCell ⟨g,0,none⟩ a).setCell ⟨g,1,none⟩ b).setCell ⟨g,2,none⟩ c) V v:=by
 obtain⟨t,d,hO,hN,hV,hB⟩:=hv
 refine⟨t,d,?_,hN,hV,?_⟩
 ·exact(((hO.set_below (a:=⟨g,0,none⟩) h1 a).set_below (a:=⟨g,1,none⟩) h1 b).set_below (a:=⟨g,2,none⟩) h1 c).lower hb.size
 ·exact(((hb.trans (hB.mono hb.size)).setCell (p:=⟨g,0,none⟩) h0 a).setCell (p:=⟨g,1,none⟩) h0 b).setCell (p:=⟨g,2,none⟩) h0 c
theorem sJ (ng:Bool) (ao:Option Addr) (n cap:Nat) (d:Nat->Int) (e:Int) (w:World) (h:aS w ao n cap d) (hd:bF d n) (h0:val d n=0) :
  Calls prog 121 #[.agg #[.bool ng,.slice ao n cap,.int .i64 e]] w fun r w'=>r=.returned eC∧Below w.heap.size w w':=by
 have hR:=h.keeps (aL w (.cells #[.bool ng,.slice ao n cap,.int .i64 e] 33) (.cells #[.bool false,.slice none 0 0,.int .i64 0] 33))
 go_enter func121,ntmps121
 go_wp2_with fail
 refine(jb _ _ _ _ _ hR).mono ?_
 rintro r w1 ⟨t,ht,htop,hz,rfl,rfl⟩
 obtain⟨hN,hv⟩:=fR hd ht htop hz
 have ht0:t=0:=(mp hN).1 (by rw[hv];exact h0)
 subst ht0
 rw[show km ao 0 cap=.slice none 0 0 from rfl]
 go_wp2
 refine bodyPost_ret (v:=eC) (by simp[results,results121,go_sem,eC]) rfl ⟨rfl,?_⟩
 exact aL _ _ _
theorem ul (ng:Bool) (ao:Option Addr) (n cap:Nat) (d:Nat->Int) (e:Int) (w:World) (h:aS w ao n cap d) (hd:bF d n) (hn:n<=100000) (hT:dZ w) (h0:0<val d n) (l:Nat) (hl:dz (val d n) l)
    (he0:-1048576<=e+l) (he1:e+l<=1048576) (hs:val d n/2^l<P 2000) :
    Calls prog 121 #[.agg #[.bool ng,.slice ao n cap,.int .i64 e]] w fun r w'=>∃ s,r=.returned (.agg #[.bool ng,s,.int .i64 (e+l)])∧cN w w' (val d n/2^l) s:=by
  have hR:=h.keeps (aL w (.cells #[.bool ng,.slice ao n cap,.int .i64 e] 33) (.cells #[.bool false,.slice none 0 0,.int .i64 0] 33))
  have hln:=qC hd h0 hl
  have hb1:=aL w (.cells #[.bool ng,.slice ao n cap,.int .i64 e] 33) (.cells #[.bool false,.slice none 0 0,.int .i64 0] 33)
  go_enter func121,ntmps121
  go_wp2_with fail
  refine(jb _ _ _ _ _ hR).mono ?_
  rintro r w1 ⟨t,ht,htop,hz,rfl,rfl⟩
  obtain⟨hN,hv⟩:=fR hd ht htop hz
  have ht0:t≠0:=by rintro rfl;have:=(mp hN).2 rfl;omega
  rw[show km ao t cap=.slice ao t cap by unfold km;rw[if_neg ht0]]
  have hn0:((t:Int) == 0)=false:=by simp;omega
  obtain⟨bb,fb,rfl,hbb,hcb⟩:=h.spot (by omega)
  have hRt:aS ((w.alloc (.cells #[.bool ng,.slice (some ⟨bb,fb,none⟩) n cap,.int .i64 e] 33)).alloc (.cells #[.bool false,.slice none 0 0,.int .i64 0] 33)) (some ⟨bb,fb,none⟩) t cap d:=⟨by have:=h.le; omega,h.max,fun hx=>by simp at hx,fun _=>by
    obtain⟨b',f',e',q1,q2⟩:=hR.spot (by omega)
    exact ⟨b',f',e',q1,fun i hi=>q2 i (by omega)⟩⟩
  have hbl:aG (val d n)<=60000+l:=by
    refine df ?_
    obtain⟨_,_,c⟩:=eZ hl h0
    have:(val d n/2^l)*2^l<P 2000*2^l:=Int.mul_lt_mul_of_pos_right hs (aJ l)
    rw[c,dG,<- Int.pow_add] at this
    exact this
  have HS:Hid (val d n/2^l<P 2000):=hs
  clear hs
  go_wp2_with fail
  refine(nj _ _ _ _ _ hRt hN.1 (by omega) (hT.keeps hb1)).mono ?_
  rintro r w1 ⟨lo,rfl,hlo,rfl⟩
  rw[hv] at hlo
  obtain⟨k,rfl,hk⟩:=qB hlo h0
  obtain rfl:=ku hk hl
  have HL:Hid (dz (val d n) k):=hl
  clear hlo hk hl
  have HV:Hid (val d t=val d n):=hv
  go_wp2_with fail
  refine(iB _ _ _ _ _ hRt hN (by omega)).mono ?_
  rw[hv]
  rintro r w1 ⟨rfl,rfl⟩
  go_wp2_with fail
  have hwr:IntKind.i64.wrap (e+(k:Int))=e+k:=by rw[bs];omega
  have hb2:Below w.heap.size w ((w.alloc (.cells #[.bool ng,.slice (some ⟨bb,fb,none⟩) n cap,.int .i64 e] 33)).alloc (.cells #[.bool false,.slice none 0 0,.int .i64 0] 33)).drew:=hb1.drew
  have q0:((w.alloc (.cells #[.bool ng,.slice (some ⟨bb,fb,none⟩) n cap,.int .i64 e] 33)).alloc (.cells #[.bool false,.slice none 0 0,.int .i64 0] 33)).drew.heap[w.heap.size]?=some (.cells #[.bool ng,.slice (some ⟨bb,fb,none⟩) n cap,.int .i64 e] 33):=bO _ _ _
  have q1:((w.alloc (.cells #[.bool ng,.slice (some ⟨bb,fb,none⟩) n cap,.int .i64 e] 33)).alloc (.cells #[.bool false,.slice none 0 0,.int .i64 0] 33)).drew.heap[w.heap.size+1]?=some (.cells #[.bool false,.slice none 0 0,.int .i64 0] 33):=bH _ _ _
  have qs:((w.alloc (.cells #[.bool ng,.slice (some ⟨bb,fb,none⟩) n cap,.int .i64 e] 33)).alloc (.cells #[.bool false,.slice none 0 0,.int .i64 0] 33)).drew.heap.size=w.heap.size+2:=fA _ _ _
  go_region_with (go_at_call 143;refine(vA _ _ _ k d _ hRt.drew hN.1 (by omega) (by omega)).mono ?_;rintro r w3 ⟨v,rfl,hv⟩;obtain⟨vo,vn,vc,rfl⟩:=hv.num.shape;have g0:=(hv.below.block w.heap.size (by omega)).trans q0;have g1:=(hv.below.block (w.heap.size+1) (by omega)).trans q1;have k0:=af g0 0 rfl;have k2:=af g0 2 rfl;have k3:=af g1 0 rfl;have k4:=af g1 1 rfl;have k5:=af g1 2 rfl;have f0:=ar g1 0;have f1:=ar g1 1;have f2:=ar g1 2;have hvv:=hv.from hb2)
  all_goals go_wp2
  all_goals refine bodyPost_ret (v:=.agg #[.bool ng,.slice vo vn vc,.int .i64 (e+k)]) (by simp[results,results121,go_sem,k3,k4,k5,hwr]) rfl ⟨_,rfl,?_⟩
  all_goals (rw[<- HV.out];exact gU (g:=w.heap.size+1) hv hb2 (Nat.le_succ _) (by omega) _ _ _)
theorem vE (ng:Bool) (ao:Option Addr) (n cap:Nat) (d:Nat->Int) (e:Int) (w:World) (h:aS w ao n cap d) (hd:bF d n) (hn:n<=100000) (hT:dZ w) (h0:0<val d n) (l:Nat) (hl:dz (val d n) l)
    (hbad:e+l < -1048576∨1048576<e+l∨P 2000<=val d n/2^l) :
    Calls prog 121 #[.agg #[.bool ng,.slice ao n cap,.int .i64 e]] w fun r w'=>r=.panicked [{ v:=.iface 28 (.int .i64 2),recovered:=false }]∧Below w.heap.size w w':=by
  have hR:=h.keeps (aL w (.cells #[.bool ng,.slice ao n cap,.int .i64 e] 33) (.cells #[.bool false,.slice none 0 0,.int .i64 0] 33))
  have hln:=qC hd h0 hl
  have hb1:=aL w (.cells #[.bool ng,.slice ao n cap,.int .i64 e] 33) (.cells #[.bool false,.slice none 0 0,.int .i64 0] 33)
  have HB:Hid (e+l < -1048576∨1048576<e+l∨P 2000<=val d n/2^l):=hbad
  clear hbad
  go_enter func121,ntmps121
  go_wp2_with fail
  refine(jb _ _ _ _ _ hR).mono ?_
  rintro r w1 ⟨t,ht,htop,hz,rfl,rfl⟩
  obtain⟨hN,hv⟩:=fR hd ht htop hz
  have ht0:t≠0:=by rintro rfl;have:=(mp hN).2 rfl;omega
  rw[show km ao t cap=.slice ao t cap by unfold km;rw[if_neg ht0]]
  have hn0:((t:Int) == 0)=false:=by simp;omega
  obtain⟨bb,fb,rfl,hbb,hcb⟩:=h.spot (by omega)
  have hRt:aS ((w.alloc (.cells #[.bool ng,.slice (some ⟨bb,fb,none⟩) n cap,.int .i64 e] 33)).alloc (.cells #[.bool false,.slice none 0 0,.int .i64 0] 33)) (some ⟨bb,fb,none⟩) t cap d:=⟨by have:=h.le; omega,h.max,fun hx=>by simp at hx,fun _=>by
    obtain⟨b',f',e',q1,q2⟩:=hR.spot (by omega)
    exact ⟨b',f',e',q1,fun i hi=>q2 i (by omega)⟩⟩
  go_wp2_with fail
  refine(nj _ _ _ _ _ hRt hN.1 (by omega) (hT.keeps hb1)).mono ?_
  rintro r w1 ⟨lo,rfl,hlo,rfl⟩
  rw[hv] at hlo
  obtain⟨k,rfl,hk⟩:=qB hlo h0
  obtain rfl:=ku hk hl
  have HL:Hid (dz (val d n) k):=hl
  clear hlo hk hl
  by_cases c0:e < -1048576-k
  · go_wp2
    exact⟨rfl,rfl,hb1⟩
  · by_cases c1:1048576-k<e
    · go_wp2
      exact⟨rfl,rfl,hb1⟩
    · have hbl:60000<(aG (val d n):Int)-k:=by
        obtain⟨_,_,c⟩:=eZ HL.out h0
        have h2:P 2000<=val d n/2^k:=by rcases HB.out with x|x|x<;>first|omega|exact x
        have:P 2000*2^k<=(val d n/2^k)*2^k:=Int.mul_le_mul_of_nonneg_right h2 (Int.le_of_lt (aJ k))
        rw[c,dG,<- Int.pow_add] at this
        have:=oh this
        omega
      go_wp2_with fail
      refine(iB _ _ _ _ _ hRt hN (by omega)).mono ?_
      rw[hv]
      rintro r w1 ⟨rfl,rfl⟩
      have hb30:aG (val d n)<=30*n:=df (by rw[<- dG];exact cV hd)
      go_wp2
      exact⟨rfl,rfl,hb1⟩
theorem Bc:∀ (n:Nat) (M:Int),M.natAbs<=n->0<M->∃ l,dz M l:=by
 intro n
 induction n with
 | zero=>intro M h h0;omega
 | succ n ih=>
  intro M h h0
  by_cases hp:M % 2=1
  ·exact⟨0,M/2,by rw[Int.pow_zero];omega⟩
  ·obtain⟨l,m,hm⟩:=ih (M/2) (by omega) (by omega)
   refine⟨l+1,m,?_⟩
   rw[Int.pow_succ,<- Int.mul_assoc,<- hm];omega
theorem gV {M:Int} (h:0<M):∃ l,dz M l:=Bc M.natAbs M (Nat.le_refl _) h
def qD:Ending:=.panicked [{ v:=.iface 28 (.int .i64 2),recovered:=false }]
theorem vF {ng:Bool} {ao:Option Addr} {n cap:Nat} {d:Nat->Int} {e:Int} {w:World} (h:aS w ao n cap d) (hd:bF d n) (hn:n<=100000) (hT:dZ w) (he:-4194304<=e) {V:Int} (hV:V=sg ng (val d n)*pw e) (hok:cY V) :
  Calls prog 121 #[.agg #[.bool ng,.slice ao n cap,.int .i64 e]] w fun r w'=>∃ v,r=.returned v∧aW w w' V v:=by
 by_cases h0:val d n=0
 ·refine(sJ ng ao n cap d e w h hd h0).mono ?_
  rintro r w' ⟨rfl,hb⟩
  exact⟨_,rfl,by rw[hV,h0,ed,Int.zero_mul];exact aW.zero hb⟩
 ·have hp:0<val d n:=by have:=bz hd;omega
  obtain⟨l,hl⟩:=gV hp
  have hy:=Dy.of ng hl hp he
  rw[<- hV] at hy
  obtain⟨o1,o2,o3⟩:=hy.ok.1 hok
  refine(ul ng ao n cap d e w h hd hn hT hp l hl o2 o3 o1).mono ?_
  rintro r w' ⟨s,rfl,hA⟩
  exact⟨_,rfl,_,_,_,_,rfl,hy,hA⟩
theorem sK {ng:Bool} {ao:Option Addr} {n cap:Nat} {d:Nat->Int} {e:Int} {w:World} (h:aS w ao n cap d) (hd:bF d n) (hn:n<=100000) (hT:dZ w) (he:-4194304<=e) {V:Int} (hV:V=sg ng (val d n)*pw e) (hok:¬ cY V) :
    Calls prog 121 #[.agg #[.bool ng,.slice ao n cap,.int .i64 e]] w fun r w'=>r=qD∧Below w.heap.size w w':=by
  by_cases h0:val d n=0
  · exact absurd (by rw[hV,h0,ed,Int.zero_mul];exact ke) hok
  · have hp:0<val d n:=by have:=bz hd;omega
    obtain⟨l,hl⟩:=gV hp
    have hy:=Dy.of ng hl hp he
    rw[<- hV] at hy
    have hno:=fun x=>hok (hy.ok.2 x)
    refine vE ng ao n cap d e w h hd hn hT hp l hl ?_
    by_cases c1:e+l < -1048576
    · exact .inl c1
    · by_cases c2:1048576<e+l
      · exact .inr (.inl c2)
      · exact .inr (.inr (by
          by_cases c3:P 2000<=val d n/2^l
          · exact c3
          · exact absurd ⟨by omega,by omega,by omega⟩ hno))
theorem ja.shape {w w':World} {V er:Int} {v:Value} (h:ja w w' V v er):∃ ng so sn sc e,v=.agg #[.bool ng,.slice so sn sc,.int .i64 e]:=by
 rcases h.2 with⟨_,_,ng,s,m,e,h1,_,hA⟩|⟨_,_,h1⟩
 ·obtain⟨so,sn,sc,rfl⟩:=hA.num.shape
  exact⟨_,_,_,_,_,h1⟩
 ·exact⟨_,_,_,_,_,h1⟩
theorem bG {w W w3:World} {V:Int} {v:Value} (hv:aW W w3 V v) (hb:Below w.heap.size w W) {g:Nat} (h0:w.heap.size<=g) (h1:g<W.heap.size) (a b c:Value) :
  aW w (((w3.setCell ⟨g,0,none⟩ a).setCell ⟨g,1,none⟩ b).setCell ⟨g,2,none⟩ c) V v:=by
 obtain⟨ng,s,m,e,h2,h3,hA⟩:=hv
 exact⟨ng,s,m,e,h2,h3,gU hA hb h0 h1 a b c⟩
theorem qE {w W w3:World} {V er:Int} {v:Value} (hv:ja W w3 V v er) (hb:Below w.heap.size w W) {g:Nat} (h0:w.heap.size<=g) (h1:g<W.heap.size) (a b c:Value) :
  ja w (((w3.setCell ⟨g,0,none⟩ a).setCell ⟨g,1,none⟩ b).setCell ⟨g,2,none⟩ c) V v er:=by
 refine⟨(((hb.trans (hv.1.mono hb.size)).setCell (p:=⟨g,0,none⟩) h0 a).setCell (p:=⟨g,1,none⟩) h0 b).setCell (p:=⟨g,2,none⟩) h0 c,?_⟩
 rcases hv.2 with⟨o1,o2,o3⟩|o
 ·exact .inl ⟨o1,o2,bG o3 hb h0 h1 a b c⟩
 ·exact .inr o
theorem xF {F:Nat} {cap:Array Value} {w:World} {V:Int} (hE:∀ w,(callFunc F cap).run prog w=.ok (.enter F cap) w)
  (hy:cY V->∀ W,Below w.heap.size w W->Calls prog F cap W fun r W'=>∃ v,r=.returned v∧aW W W' V v)
  (hn:¬ cY V->∀ W,Below w.heap.size w W->Calls prog F cap W fun r W'=>r=qD∧Below W.heap.size W W') :
  Calls prog 105 #[.func (.func F) #[] cap] w fun r w'=>∃ v er,r=.returned (.tuple #[v,.int .i64 er])∧ja w w' V v er:=by
 by_cases h:cY V
 ·refine(xz F cap w V hE (hy h)).mono ?_
  rintro r w' ⟨v,rfl,hD⟩
  exact⟨v,0,rfl,hD.below,.inl ⟨h,rfl,hD⟩⟩
 ·refine(zO F cap w hE (hn h)).mono ?_
  rintro r w' ⟨rfl,hb⟩
  exact⟨_,2,rfl,hb,.inr ⟨h,rfl,rfl⟩⟩
theorem aA (w:World) (a:Obj):(w.alloc a).heap[w.heap.size]?=some a:=by
 show(w.heap.push a)[w.heap.size]?=some a
 simp
theorem eF (w:World) (a:Obj):(w.alloc a).heap.size=w.heap.size+1:=by
 show(w.heap.push a).size=_
 simp
theorem aX {w w':World} {p:Addr} {v:Value} (h:w.cell? p=some v) (hb:Below w.heap.size w w'):w'.cell? p=some v :=
 (hb.cell (World.block_lt_of_cell? w _ h)).trans h
theorem aC (w:World) (a:Obj):(w.alloc a).heap.size=w.heap.size+1:=eF w a
theorem ap {w:World} {k:Nat} {x:Obj} (o:Obj) (h:w.heap[k]?=some x):(w.alloc o).heap[k]?=some x :=
 (Below.heap_alloc w o k (aGe h).1).trans h
theorem aK {w:World} {k:Nat} (o:Obj) (h:k=w.heap.size):(w.alloc o).heap[k]?=some o:=by rw[h];exact aA w o
theorem gW (w:World) (a b c d:Obj):((((w.alloc a).alloc b).alloc c).alloc d).heap[w.heap.size]?=some a:=ap _ (ap _ (ap _ (aA w a)))
theorem gX (w:World) (a b c d:Obj):((((w.alloc a).alloc b).alloc c).alloc d).heap[w.heap.size+1]?=some b:=ap _ (ap _ (aK _ (by rw[aC])))
theorem gJ (w:World) (a b c d:Obj):((((w.alloc a).alloc b).alloc c).alloc d).heap[w.heap.size+2]?=some c:=ap _ (aK _ (by rw[aC,aC]))
theorem gK (w:World) (a b c d:Obj):((((w.alloc a).alloc b).alloc c).alloc d).heap[w.heap.size+3]?=some d:=aK _ (by rw[aC,aC,aC])
theorem lj (w:World) (a b c:Obj):(((w.alloc a).alloc b).alloc c).heap[w.heap.size]?=some a:=ap _ (ap _ (aA w a))
theorem lk (w:World) (a b c:Obj):(((w.alloc a).alloc b).alloc c).heap[w.heap.size+1]?=some b:=ap _ (aK _ (by rw[aC]))
theorem jc (w:World) (a b c:Obj):(((w.alloc a).alloc b).alloc c).heap[w.heap.size+2]?=some c:=aK _ (by rw[aC,aC])
theorem dn (w:World) (a b c:Obj):Below w.heap.size w (((w.alloc a).alloc b).alloc c):=(aL w a b).alloc (by rw[fA];omega) _
theorem iH (w:World) (a b c:Obj):(((w.alloc a).alloc b).alloc c).heap.size=w.heap.size+3:=by rw[aC,fA]
theorem eS (w:World) (a b c d:Obj):Below w.heap.size w ((((w.alloc a).alloc b).alloc c).alloc d):=(dn w a b c).alloc (by rw[iH];omega) _
theorem kw (w:World) (a b c d:Obj):((((w.alloc a).alloc b).alloc c).alloc d).heap.size=w.heap.size+4:=by rw[aC,iH]
theorem gL {W w':World} {g:Nat} {a b c:Value} (h:W.cell? ⟨g,0,none⟩=some a∧W.cell? ⟨g,1,none⟩=some b∧W.cell? ⟨g,2,none⟩=some c) (hb:Below W.heap.size W w') :
  w'.cell? ⟨g,0,none⟩=some a∧w'.cell? ⟨g,1,none⟩=some b∧w'.cell? ⟨g,2,none⟩=some c:=⟨aX h.1 hb,aX h.2.1 hb,aX h.2.2 hb⟩
theorem zd {W w':World} {g o:Nat} {a b c:Value} (h:W.cell? ⟨g,0,none⟩=some a∧W.cell? ⟨g,1,none⟩=some b∧W.cell? ⟨g,2,none⟩=some c) (hw:Wr o W w') (hg:g≠o) :
  w'.cell? ⟨g,0,none⟩=some a∧w'.cell? ⟨g,1,none⟩=some b∧w'.cell? ⟨g,2,none⟩=some c :=
 ⟨(hw.cell (World.block_lt_of_cell? W _ h.1) hg).trans h.1,(hw.cell (World.block_lt_of_cell? W _ h.2.1) hg).trans h.2.1,(hw.cell (World.block_lt_of_cell? W _ h.2.2) hg).trans h.2.2⟩
theorem fB {W:World} {g o:Nat} {a b c:Value} (h:W.cell? ⟨g,0,none⟩=some a∧W.cell? ⟨g,1,none⟩=some b∧W.cell? ⟨g,2,none⟩=some c) (hg:g≠o) (x y z:Value) :
  (((W.setCell ⟨o,0,none⟩ x).setCell ⟨o,1,none⟩ y).setCell ⟨o,2,none⟩ z).cell? ⟨g,0,none⟩=some a∧(((W.setCell ⟨o,0,none⟩ x).setCell ⟨o,1,none⟩ y).setCell ⟨o,2,none⟩ z).cell? ⟨g,1,none⟩=some b∧(((W.setCell ⟨o,0,none⟩ x).setCell ⟨o,1,none⟩ y).setCell ⟨o,2,none⟩ z).cell? ⟨g,2,none⟩=some c :=
 zd h (((Wr.refl o W).setCell 0 x |>.setCell 1 y).setCell 2 z) hg
def dR (r:aI):Prop:=cf r.d r.n∧r.n<=5000∧-1100000<=r.e∧r.e<=1100000
structure ll (r:Nat->aI) (k:Nat) (low high:Int):Prop where
 none:(∀ i,i<k->(r i).n=0)->low=9223372036854775807∧high=-9223372036854775808
 some:(∃ i,i<k∧0<(r i).n)->-1100000<=low∧low<=1100000∧-1100000<=high∧high<=1250000
 all:∀ i,i<k->0<(r i).n->low<=(r i).e∧(r i).e+aG (val (r i).d (r i).n)<=high
theorem dR.len {x:aI} (h:dR x):aG (val x.d x.n)<=150000:=by
 have:=df (V:=val x.d x.n) (k:=30*x.n) (by rw[<- dG];exact cV h.1.1)
 have:=h.2.1
 omega
theorem ll.zero {r:Nat->aI} {k:Nat} {low high:Int} (h:ll r k low high) (h0:(r k).n=0):ll r (k+1) low high :=
  ⟨fun hx=>h.none fun i hi=>hx i (by omega),fun ⟨i,hi,hp⟩=>h.some ⟨i,by
    by_cases e:i=k
    · subst e;omega
    · omega,hp⟩,fun i hi hp=>by
    by_cases e:i=k
    · subst e;omega
    · exact h.all i (by omega) hp⟩
theorem ll.step {r:Nat->aI} {k:Nat} {low high:Int} (h:ll r k low high) (h0:0<(r k).n) (hs:dR (r k)):ll r (k+1) (min low (r k).e) (max high ((r k).e+aG (val (r k).d (r k).n))):=by
 obtain⟨s1,s2,s3,s4⟩:=id hs
 have s5:=hs.len
 refine⟨fun hx=>by have:=hx k (by omega);omega,fun _=>?_,fun i hi hp=>?_⟩
 ·by_cases hx:∀ i,i<k->(r i).n=0
  ·obtain⟨a,b⟩:=h.none hx
   subst a b
   omega
  ·have:∃ i,i<k∧0<(r i).n:=by
    simp only[Classical.not_forall] at hx
    obtain⟨i,hi,hp⟩:=hx
    exact⟨i,hi,by omega⟩
   have:=h.some this
   omega
 ·by_cases e:i=k
  ·subst e;omega
  ·have:=h.all i (by omega) hp;omega
theorem vG (ao:Option Addr) (n cap:Nat) (r:Nat->aI) (w:World) (h:fG w ao n cap r) (hs:∀ i,i<n->dR (r i)) :
  Calls prog 124 #[.slice ao n cap] w fun x w'=>∃ low high,x=.returned (.tuple #[.int .i64 low,.int .i64 high])∧ll r n low high∧Below w.heap.size w w':=by
 have hl:=h.le
 have hm:=h.max
 have HS:Hid (∀ i,i<n->dR (r i)):=hs
 clear hs
 have hmin:∀ (ts:Array TypeId) (t:TypeId) (x y:Int) (w:World),(Builtin.min_ ts t #[.int .i64 x,.int .i64 y]).run prog w=.ok (.int .i64 (min x y)) w:=fun ts t x y w=>by rw[run_min_int2];congr 2;omega
 have hmax:∀ (ts:Array TypeId) (t:TypeId) (x y:Int) (w:World),(Builtin.max_ ts t #[.int .i64 x,.int .i64 y]).run prog w=.ok (.int .i64 (max x y)) w:=fun ts t x y w=>by rw[run_max_int2];congr 2;omega
 go_enter func124,ntmps124
 go_wp2_with fail
 go_loopw [2,3,8] (fun lo hi i wr=>∃ (k:Nat) (low high:Int),k<=n∧i=.int .i64 k∧lo=.int .i64 low∧hi=.int .i64 high∧Hid (ll r k low high)∧Below w.heap.size w wr) (fun _ _ i _=>n-(intOf i).toNat)
 case atStart=>exact⟨0,_,_,Nat.zero_le _,rfl,rfl,rfl,⟨fun _=>⟨rfl,rfl⟩,fun ⟨i,hi,_⟩=>by omega,fun i hi=>by omega⟩,al _⟩
 case round=>
  obtain⟨k,low,high,hk,rfl,rfl,rfl,HR,hbw⟩:=hrel
  by_cases hlt:k<n
  ·obtain⟨b,off,rfl,hb,hc⟩:=h.spot (by omega)
   obtain⟨c0,c1,c2,hR⟩:=(hc k hlt).keeps hbw hb
   have hsk:=HS.out k hlt
   have hst:=fun h0=>HR.out.step (k:=k) h0 hsk
   have hze:=fun h0=>HR.out.zero (k:=k) h0
   have hlen:=hsk.len
   generalize hr:r k=x at *
   obtain⟨ng,xo,xn,xc,xd,xe⟩:=x
   obtain⟨s1,s2,s3,s4⟩:=hsk
   simp only at c0 c1 c2 hR s1 s2 s3 s4 hst hze hlen
   by_cases h0:xn=0
   ·subst h0
    have HZ:Hid (ll r (k+1) low high):=hze rfl
    clear hst hze
    go_wp2
    go_roundw
    case rel=>exact⟨k+1,low,high,by omega,by go_num,rfl,rfl,HZ,hbw.trans ((ah _ _).mono hbw.size)⟩
    case measure=>simp[intOf];omega
   ·have HZ:Hid (ll r (k+1) (min low xe) (max high (xe+aG (val xd xn)))):=hst (by omega)
    have hlp:(0:Int)<xn:=by omega
    have HM:Hid (∀ L H,L=min low xe->H=max high (xe+aG (val xd xn))->ll r (k+1) L H):=fun L H e1 e2=>by rw[e1,e2];exact HZ.out
    have q0:=aA wr (.cells #[.bool ng,.slice xo xn xc,.int .i64 xe] 33)
    have hbx:Below w.heap.size w (wr.alloc (.cells #[.bool ng,.slice xo xn xc,.int .i64 xe] 33)):=hbw.trans ((ah _ _).mono hbw.size)
    have hRx:=hR.alloc (.cells #[.bool ng,.slice xo xn xc,.int .i64 xe] 33)
    clear HZ hst hze
    go_wp2_with fail
    generalize wr.alloc (.cells #[.bool ng,.slice xo xn xc,.int .i64 xe] 33)=wx at q0 hbx hRx ⊢
    have k0:=af q0 0 rfl
    have k1:=af q0 1 rfl
    have k2:=af q0 2 rfl
    have hb1:=al wx
    have C1:∀ W,Below wx.heap.size wx W->Calls prog 145 #[.agg #[.bool ng,.slice xo xn xc,.int .i64 xe]] W fun y w'=>y=.returned (.int .i64 (xe+aG (val xd xn)))∧Below W.heap.size W w':=fun W h=>xD ng xo xn xc xd xe W (hRx.keeps h) s1 (by omega) (by omega) (by omega)
    go_region_held3 (fun W=>W.cell? ⟨wr.heap.size,0,none⟩=some (.bool ng)∧W.cell? ⟨wr.heap.size,1,none⟩=some (.slice xo xn xc)∧W.cell? ⟨wr.heap.size,2,none⟩=some (.int .i64 xe))
     (first|exact⟨k0,k1,k2⟩|assumption|exact gL (W:=wx.drew) ⟨k0,k1,k2⟩ hbv1)
     (first|(go_at_call 145;refine(C1 _ hb1.drew).mono ?_;rintro y w3 ⟨rfl,hbv1⟩)|fail)
    all_goals go_wp2
    all_goals
     go_roundw
     case rel=>exact⟨k+1,_,_,by omega,by go_num,rfl,rfl,HM.out _ _ (by omega) (by omega),hbx.trans ((ac hb1.drew hbv1).mono hbx.size)⟩
     case measure=>simp[intOf];omega
  ·obtain rfl:k=n:=by omega
   go_wp2
   go_ret2
   exact⟨_,_,rfl,HR.out,hbw⟩
theorem oO (g N:Nat) (r0:Nat->Int) (w:World) (hB0:cF w g N r0) (hNm:N<=1000000) (hC0:∀ i,i<N->-2305843009213693952<=r0 i∧r0 i<=2305843009213693952) :
    Calls prog 146 #[.slice (some ⟨g,0,none⟩) N N] w fun e w'=>∃ o r,e=.returned (.int .i64 o)∧cF w' g N r∧Wr g w w'∧bF r N∧val r N+o*P N=val r0 N:=by
  have HC:Hid (∀ i,i<N->-2305843009213693952<=r0 i∧r0 i<=2305843009213693952):=hC0
  clear hC0
  go_enter func146,ntmps146
  go_wp2
  go_loopw [3,7] (fun o i wr=>∃ (k:Nat) (o':Int) (r:Nat->Int),k<=N∧i=.int .i64 k∧o=.int .i64 o'∧-2305843009213693952<=o'∧o'<=2305843009213693952∧cF wr g N r∧Hid (bF r k)∧Hid (∀ i,k<=i->r i=r0 i)∧Hid (val r k+o'*P k=val r0 k)∧Wr g w wr) (fun _ i _=>N-(intOf i).toNat)
  case atStart=>exact⟨0,0,r0,Nat.zero_le _,rfl,rfl,by omega,by omega,hB0,fun i hi=>by omega,fun _ _=>rfl,by show(0:Int)+0*1=0;omega,Wr.refl _ _⟩
  case round=>
    obtain⟨k,o,r,hk,rfl,rfl,ho0,ho1,hB,HD,HZ,HV,hW⟩:=hrel
    by_cases hlt:k<N
    · have cg:=hB.cell hlt
      have fg:=hB.frozen k
      have hr:-2305843009213693952<=r k∧r k<=2305843009213693952:=by rw[HZ.out k (Nat.le_refl _)];exact HC.out k hlt
      obtain⟨hr0,hr1⟩:=hr
      have h30:=kV (o+r k)
      have hm:=fu (o+r k)
      have HV2:Hid (val (cW r k ((o+r k) % 1073741824)) (k+1)+(o+r k)/1073741824*P (k+1)=val r0 (k+1)):=by
        show _=_
        rw[bc,ck,gG _ _ (Nat.le_refl _),fZ,mV,bc,<- HV.out,HZ.out k (Nat.le_refl _)]
      go_wp2
      go_roundw
      case rel=>exact ⟨k+1,(o+r k)/1073741824,cW r k ((o+r k) % 1073741824),by omega,by go_num,rfl,by omega,by omega,hB.store k _,fun i hi=>by
          by_cases e:i=k
          · rw[e,ck];exact hm
          · rw [bD r _ e]; exact HD.out i (by omega),fun i hi=>by rw [bD r _ (by omega)]; exact HZ.out i (by omega),HV2,hW.setCell _ _⟩
      case measure=>simp[intOf];omega
    · obtain rfl:k=N:=by omega
      go_wp2
      go_ret
      exact⟨_,r,rfl,hB,hW,HD.out,HV.out⟩
theorem nk {S R o Pn:Int} (hP:0<Pn) (h0:0<=R) (h1:R<Pn) (e:R+o*Pn=S) (hS:-Pn<S∧S<Pn):(0<=S∧o=0∧R=S)∨(S<0∧o=-1∧R=S+Pn):=by
 by_cases ho:0<=o
 ·by_cases ho1:o=0
  ·subst ho1;left;omega
  ·have:1*Pn<=o*Pn:=Int.mul_le_mul_of_nonneg_right (by omega) (by omega)
   omega
 ·by_cases ho1:o=-1
  ·subst ho1;right;omega
  ·have:o*Pn<=(-2)*Pn:=Int.mul_le_mul_of_nonneg_right (by omega) (by omega)
   omega
theorem zW (r:Nat->Int) (n:Nat):val (fun i=>-r i) n=-val r n:=by
 induction n with
 | zero=>rfl
 | succ n ih=>rw[bc,bc,ih,Int.neg_mul];omega
theorem vH (g N:Nat) (r0:Nat->Int) (w:World) (hB0:cF w g N r0) (hNm:N<=1000000) (hC0:∀ i,i<N->-2305843009213693952<=r0 i∧r0 i<=2305843009213693952) (hS:-P N<val r0 N∧val r0 N<P N) :
    Calls prog 126 #[.slice (some ⟨g,0,none⟩) N N] w fun e w'=>∃ r,e=.returned (.bool (decide (val r0 N<0)))∧cF w' g N r∧Wr g w w'∧bF r N∧sg (decide (val r0 N<0)) (val r N)=val r0 N:=by
  have HS:Hid (-P N<val r0 N∧val r0 N<P N):=hS
  clear hS
  go_enter func126,ntmps126
  go_wp2_with fail
  refine(oO g N r0 w hB0 hNm hC0).mono ?_
  rintro e w1 ⟨o,r,rfl,hB1,hW1,hD1,hV1⟩
  rcases nk (cA N) (bz hD1) (cV hD1) hV1 HS.out with⟨hs,rfl,hR⟩|⟨hs,rfl,hR⟩
  · have HR:Hid (val r N=val r0 N):=hR
    have HH:Hid (0<=val r0 N):=hs
    clear hV1 hR hs hC0
    go_wp2
    go_ret
    have:decide (val r0 N<0)=false:=decide_eq_false (by have:=HH.out;omega)
    exact⟨r,bt this.symm,hB1,hW1,hD1,by rw[this];exact HR.out⟩
  · have HR:Hid (val r N=val r0 N+P N):=hR
    have HH:Hid (val r0 N<0):=hs
    have HD:Hid (bF r N):=hD1
    clear hV1 hR hs hC0 hD1
    go_wp2
    go_loopw [9] (fun i wr=>∃ (k:Nat) (r':Nat->Int),k<=N∧i=.int .i64 k∧cF wr g N r'∧Hid (∀ i,i<k->r' i=-r i)∧Hid (∀ i,k<=i->r' i=r i)∧Wr g w wr) (fun i _=>N-(intOf i).toNat)
    case atStart=>exact⟨0,r,Nat.zero_le _,rfl,hB1,fun i hi=>by omega,fun _ _=>rfl,hW1⟩
    case round=>
      obtain⟨k,r',hk,rfl,hB,HX,HY,hW⟩:=hrel
      by_cases hlt:k<N
      · have cg:=hB.cell hlt
        have fg:=hB.frozen k
        have hr:0<=r' k∧r' k<1073741824:=by rw[HY.out k (Nat.le_refl _)];exact HD.out k hlt
        obtain⟨hr0,hr1⟩:=hr
        go_wp2
        go_roundw
        case rel=>exact ⟨k+1,cW r' k (-r' k),by omega,by go_num,hB.store k _,fun i hi=>by
            by_cases e:i=k
            · rw[e,ck,HY.out k (Nat.le_refl _)]
            · rw [bD r' _ e]; exact HX.out i (by omega),fun i hi=>by rw [bD r' _ (by omega)]; exact HY.out i (by omega),hW.setCell _ _⟩
        case measure=>simp[intOf];omega
      · obtain rfl:k=N:=by omega
        go_wp2_with fail
        refine(oO g k r' _ hB hNm (fun i hi=>by rw[HX.out i hi];have:=HD.out i hi;omega)).mono ?_
        rintro e w2 ⟨o2,r2,rfl,hB2,hW2,hD2,hV2⟩
        go_wp2
        go_ret
        have e1:val r' k=-val r k:=by rw[dY HX.out,zW]
        have hn:=HH.out
        have hR:=HR.out
        have hS:=HS.out.1
        rw[e1] at hV2
        have:decide (val r0 k<0)=true:=decide_eq_true hn
        refine⟨r2,bt this.symm,hB2,hW.trans hW2,hD2,?_⟩
        rw[this]
        show -val r2 k=val r0 k
        have a0:=bz hD2
        have a1:=cV hD2
        rcases nk (cA k) a0 a1 hV2 (by omega) with⟨c1,rfl,c3⟩|⟨c1,rfl,c3⟩<;>omega
end Go.Proofs.YtcklaogdjpbagaaGreatDoor
