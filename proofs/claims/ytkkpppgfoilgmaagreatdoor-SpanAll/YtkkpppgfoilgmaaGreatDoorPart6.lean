/- Parts of the proof. -/
import Derived.Test.YtkkpppgfoilgmaaGreatDoorPart5
import Derived.Test.YtkkpppgfoilgmaaGreatDoorPart4
import Derived.Test.YtkkpppgfoilgmaaGreatDoorPart3
import Derived.Deep.LoopGhost
import Derived.Deep.RegionWith
import Derived.Laws.Externs
import Derived.Laws.Cover2
import Derived.Test.YtkkpppgfoilgmaaGreatDoorPart1
set_option maxRecDepth 100000
set_option maxHeartbeats 8000000
set_option linter.unusedVariables false
set_option linter.unusedSimpArgs false
namespace Go.Proofs.YtkkpppgfoilgmaaGreatDoor
open Go Go.Proofs.Tryz Go.RowKit Go.Proofs.YtkkpppgfoilgmaaGreatDoor.M
theorem kt {x:Int} (h:0<x):aH x=aH (x/2)+1:=by
 obtain⟨h1,h2⟩:=gX h
 have h3:=iP x
 obtain⟨k,hk⟩:∃ k,aH x=k+1:=⟨aH x-1,by omega⟩
 rw[hk] at h2 h3 ⊢
 rw[Nat.add_sub_cancel] at h2
 rw[Int.pow_succ] at h3
 cases k with
 | zero=>
  have:x=1:=by simp at h3 h2;omega
  subst this;decide
 | succ j=>
  rw[Int.pow_succ] at h2
  have e1:(2:Int)^j<=x/2:=by omega
  have e2:x/2<2^(j+1):=by omega
  rw[kR e1 e2]
theorem wK (V:Int) (w:World) (h0:0<=V) (h1:V<9223372036854775808) :
    Calls prog 81 #[.int .i64 V] w fun e w'=>∃ v,e=.returned v∧cd w w' V v:=by
  have HM:Hid (V<9223372036854775808):=h1
  clear h1
  go_enter func81,ntmps81
  go_wp2
  go_loopw [0,3] (fun i v wr=>∃ (x:Int) (k:Nat) (r:Nat->Int),i=.int .i64 x∧0<=x∧k<=3∧bh w.heap.size wr v k r∧aY r k∧Hid (x*P k<=V)∧Hid (x=0->lV r k)∧Hid (val r k+x*P k=V)∧Below w.heap.size w wr) (fun i _ _=>(intOf i).toNat)
  case atStart=>exact⟨V,0,fun _=>0,rfl,h0,by omega,bh.nil _ _ _,fun i hi=>by omega,by show _<=_;show V*1<=V;omega,fun _=>.inl rfl,by show _=_;show 0+V*1=V;omega,ap _⟩
  case round=>
    obtain⟨x,k,r,rfl,hx,hk3,hO,hD,HB,HT,HV,hbw⟩:=hrel
    by_cases hp:0<x
    · have hk2:k<=2:=by
        by_cases e:k=3
        · subst e
          have a:=HB.out
          have b:=HM.out
          have c:P 3=1073741824*1073741824*1073741824:=by decide
          have d:1*P 3<=x*P 3:=Int.mul_le_mul_of_nonneg_right (by omega) (Int.le_of_lt (bR 3))
          omega
        · omega
      have hx2:x<=9223372036854775807:=by
        have a:=HB.out
        have b:=HM.out
        have c:x*1<=x*P k:=Int.mul_le_mul_of_nonneg_left (by have:=bR k;omega) (by omega)
        omega
      go_wp2_with (at_builtin;refine cq rfl _ _ rfl w.heap.size _ k r rfl (hO.stays (ae _ _)) _ 1 1 (fun _=>x % 1073741824) rfl (iC _ _ rfl) (by omega) (by have:=hbw.size;simp;omega) ?_;intro v' w1 hO1 hg1)
      have hb1:Below w.heap.size w w1:=(hbw.alloc hbw.size _).grown hg1 (by have:=hbw.size;simp;omega) (ef hO)
      have hs:=dN (c:=0) (x:=x) (show val r k+0*P k=val r k by omega)
      rw[Int.zero_add] at hs
      go_roundw
      case rel=>exact ⟨x/1073741824,k+1,b8 r k (x % 1073741824),rfl,by omega,by omega,hO1.congr (d9 r k _),eu hD (gv _),by
          show _<=_
          have a:=HB.out
          rw[fJ,show x/1073741824*(P k*1073741824)=(x/1073741824*1073741824)*P k by grind]
          have b:(x/1073741824*1073741824)*P k<=x*P k:=Int.mul_le_mul_of_nonneg_right (by omega) (Int.le_of_lt (bR k))
          omega,fun e=>.inr (by rw [Nat.add_sub_cancel,bD]; omega),by show _=_; rw [hs]; exact HV.out,hb1⟩
      case measure=>simp[intOf];omega
    · obtain rfl:x=0:=by omega
      go_wp2
      go_ret
      exact⟨_,rfl,k,r,hO,⟨hD,HT.out (by first|rfl|trivial)⟩,by have:=HV.out;omega,hbw⟩
theorem qa (ao:Option Addr) (n cap:Nat) (d:Nat->Int) (w:World) (h:aL w ao n cap d) (hd:bV d n) (hn:n<=1000000) :
  Calls prog 136 #[.slice ao n cap] w fun e w'=>e=.returned (.int .i64 (aH (val d n)))∧w'=w:=by
 have hl:=h.le
 have hm:=h.max
 by_cases h0:n=0
 ·subst h0
  go_enter func136,ntmps136
  go_wp2
  go_ret
  exact⟨rfl,rfl⟩
 ·obtain⟨k,rfl⟩:∃ k,n=k+1:=⟨n-1,by omega⟩
  obtain⟨b,off,rfl,hb,hc⟩:=h.spot (by omega)
  have c:=hc k (by omega)
  have dk:=hd.1 k (by omega)
  have HV:Hid (aH (val d (k+1))=30*k+aH (d k)):=nM hd
  have hbl:aH (d k)<=30:=dr (by show d k<1073741824;exact dk.2)
  go_enter func136,ntmps136
  go_wp2
  go_loop [3,4] (fun s v=>∃ (x:Int) (t:Nat),s=.int .i64 t∧v=.int .i64 x∧0<=x∧x<1073741824∧t<=30*k+30∧Hid (t+aH x=30*k+aH (d k))) (fun _ v=>(intOf v).toNat)
  case atStart=>exact⟨d k,30*k,by go_num,rfl,dk.1,dk.2,by omega,rfl⟩
  case round=>
   obtain⟨x,t,rfl,rfl,hx0,hx1,ht,HT⟩:=hrel
   by_cases hp:0<x
   ·have ht2:t+1<=30*k+30:=by have:=HT.out;have:=kt hp;omega
    go_wp2
    go_round
    case rel=>exact⟨x/2,t+1,by go_num,rfl,by omega,by omega,ht2,by show _=_;have:=HT.out;have:=kt hp;omega⟩
    case measure=>simp[intOf];omega
   ·obtain rfl:x=0:=by omega
    go_wp2
    go_ret
    exact⟨ck (by have:=HT.out;rw[mc] at this;rw[HV.out];omega),rfl⟩
theorem yI (ao:Option Addr) (n cap:Nat) (d:Nat->Int) (w:World) (h:aL w ao n cap d) (hd:bV d n) (hn:n<=100000) (i:Nat) (hi:i<=4000000) :
    Calls prog 137 #[.slice ao n cap,.int .i64 i] w fun e w'=>e=.returned (.bool (lx (val d n) i))∧w'=w:=by
  have hl:=h.le
  have hm:=h.max
  obtain⟨q,p,hq,hp⟩:∃ q p:Nat,i=30*q+p∧p<30:=⟨i/30,i % 30,by omega,by omega⟩
  have e1:(i:Int)/30=q:=by omega
  have e2:(i:Int) % 30=p:=by omega
  by_cases hqn:q<n
  · have HV:Hid (lx (val d n) i=(d q/2^p % 2 == 1)):=by unfold lx;show _=_;rw[hq,Be hd.1 hqn hp]
    clear hq
    obtain⟨b,off,rfl,hb,hc⟩:=h.spot (by omega)
    have c:=hc q hqn
    have dq:=hd.1 q hqn
    have hd0:0<=d q/2^p:=Int.ediv_nonneg dq.1 (Int.le_of_lt (aJ p))
    go_enter func137,ntmps137
    go_wp2
    go_ret
    exact⟨bF HV.out.symm,rfl⟩
  · have HV:Hid (lx (val d n) i=false):=yC (aP hd.1) (by
      refine Nat.le_trans (dr (k:=30*n) (by rw [<- di]; exact bX hd.1)) (by omega))
    clear hq
    go_enter func137,ntmps137
    go_wp2
    go_ret
    exact⟨bF HV.out.symm,rfl⟩
theorem yJ {d:Nat->Int} {n m:Nat} (h:aY d n) (hm:m<=n):val d m<=val d n:=by
 have e:=dz d m (n-m)
 rw[show m+(n-m)=n by omega] at e
 have a:=aP (show aY (fun i=>d (m+i)) (n-m) from fun i hi=>h (m+i) (by omega))
 have:=Int.mul_nonneg (Int.le_of_lt (bR m)) a
 omega
theorem wL (ao:Option Addr) (n cap:Nat) (d:Nat->Int) (w:World) (h:aL w ao n cap d) (hd:aY d n) (hn:n<=3) (hv:val d n<9223372036854775808) :
  Calls prog 117 #[.slice ao n cap] w fun e w'=>e=.returned (.int .i64 (val d n))∧w'=w:=by
 have hl:=h.le
 have hm:=h.max
 have HV:Hid (val d n<9223372036854775808):=hv
 clear hv
 go_enter func117,ntmps117
 go_wp2
 go_loop [3,7] (fun v i=>∃ k:Nat,k<=n∧i=.int .i64 k∧v=.int .i64 (val d k)) (fun _ i=>n-(intOf i).toNat)
 case atStart=>exact⟨0,Nat.zero_le _,rfl,rfl⟩
 case round=>
  obtain⟨k,hk,rfl,rfl⟩:=hrel
  by_cases hlt:k<n
  ·obtain⟨b,off,rfl,hb,hc⟩:=h.spot (by omega)
   have c:=hc k hlt
   have dk:=hd k hlt
   have v0:=aP (hd.le (show k<=n by omega))
   have v1:=bX (hd.le (show k<=n by omega))
   have m1:=yJ hd (show k+1<=n by omega)
   have hv2:=HV.out
   rw[di] at v1
   have e1:val d (k+1)=val d k+d k*2^(30*k):=by rw[aN,di]
   have m0:0<=d k*2^(30*k):=Int.mul_nonneg dk.1 (Int.le_of_lt (aJ _))
   have hw:wrap64 (d k*2^(30*k))=d k*2^(30*k):=IntWalk.wrap64_in _ ⟨by omega,by omega⟩
   have hor:bits .or .i64 (val d k) (d k*2^(30*k))=val d (k+1):=(ru _ _ _ v0 v1 dk.1 (by omega)).trans e1.symm
   clear e1 m0 m1 hv2 v0 v1
   go_wp2
   go_round
   case rel=>exact⟨k+1,by omega,by go_num,rfl⟩
   case measure=>simp[intOf];omega
  ·obtain rfl:k=n:=by omega
   go_wp2
   go_ret
   exact⟨rfl,rfl⟩
structure lz (w:World):Prop where
 a0:w.cell? ⟨0,0,none⟩=some (.int .i64 52)
 a1:w.cell? ⟨0,1,none⟩=some (.int .i64 2047)
 a2:w.cell? ⟨0,2,none⟩=some (.int .i64 (-1074))
theorem lz.keeps {w w':World} (h:lz w) (hb:Below w.heap.size w w'):lz w':=⟨aG h.a0 hb,aG h.a1 hb,aG h.a2 hb⟩
theorem lA (b:Int) (w:World) (L:lz w) :
  Calls prog 45 #[.int .i64 b] w fun e w'=>e=.returned (.tuple #[.bool (c8 b),.int .i64 (bO b),.int .i64 (b7 b),.bool (aC b)])∧Below w.heap.size w w':=by
 obtain⟨a0,a1,a2⟩:=L
 by_cases h:aC b=true
 all_goals
  go_enter func45,ntmps45
  go_wp2_with (go_at_call 67;refine(AZ _ _).mono ?_;rintro e w1 ⟨rfl,hg⟩)
  refine bodyPost_ret (v:=.tuple #[.bool (c8 b),.int .i64 (bO b),.int .i64 (b7 b),.bool (aC b)]) (by simp[results,results45,go_sem,c8,h]) rfl ⟨rfl,hg.be⟩
theorem iS {b:Int} (hp:aC b=true):0<=bO b∧bO b<9007199254740992∧-1074<=b7 b∧b7 b<=971:=by
 have hf:=jP b
 have hr:=jc b
 have h1:bN b≠2047:=by simpa [aC] using hp
 unfold bO b7
 rw[if_neg h1,if_neg h1]
 split<;>omega
theorem wM (x:Int) (w:World) (h0:0<=x) (h1:x<9223372036854775808) :
  Calls prog 156 #[.int .i64 x] w fun e w'=>∃ v,e=.returned (.tuple #[v,.int .i64 0])∧cd w w' x v:=by
 have HX:=uW x w h0 h1
 have HX':Hid (Calls prog 159 #[.int .i64 x] w fun e w'=>∃ v,e=.returned v∧cd w w' x v):=HX
 clear HX h1
 go_enter func156,ntmps156
 go_wp2_with fail
 refine HX'.out.mono ?_
 rintro e w2 ⟨v,rfl,hA⟩
 go_wp2
 go_ret2
 exact⟨_,rfl,hA⟩
theorem u9:9223372036854775808<P 2000:=by
 have:=gW (show 3<=2000 by omega)
 have e:P 3=1237940039285380274899124224:=rfl
 omega
theorem qd {ng:Bool} {M e:Int} (h0:0<=M) (h1:M<9223372036854775808) (e0:-1074<=e) (e1:e<=971):cB (sg ng M*pw e):=by
 by_cases hz:M=0
 ·rw[hz,fi,Int.zero_mul];exact nJ
 ·obtain⟨l,hl⟩:=iQ (show 0<M by omega)
  have hy:=Dy.of ng hl (show 0<M by omega) (show -4194304<=e by omega)
  obtain⟨c1,c2,c3⟩:=fl hl (show 0<M by omega)
  have hp:=aJ l
  have hl63:l<63:=by
   have h3:(1:Int)*2^l<=M/2^l*2^l:=Int.mul_le_mul_of_nonneg_right (by omega) (by omega)
   rw[c3] at h3
   refine eO ?_
   rw[show(2:Int)^63=9223372036854775808 by decide]
   omega
  refine hy.ok.2 ⟨?_,by omega,by omega⟩
  have:M/2^l<=M:=Int.ediv_le_self _ h0
  have:=u9
  omega
theorem wN (ng:Bool) (M e:Int) (w:World) (hT:fM w) (h0:0<=M) (h1:M<9223372036854775808) (e0:-1074<=e) (e1:e<=971) :
  Calls prog 148 #[.bool ng,.int .i64 M,.int .i64 e,.bool true] w fun r w'=>∃ v,r=.returned (.tuple #[v,.int .i64 0])∧bv w w' (sg ng M*pw e) v:=by
 have hok:=qd (ng:=ng) h0 h1 e0 e1
 go_enter func148,ntmps148
 go_wp2_with fail
 refine(wM M _ h0 h1).mono ?_
 rintro r w1 ⟨v,rfl,hA⟩
 obtain⟨so,sn,sc,d,rfl,hR,hN,hv⟩:=hA.num
 have hsn:sn<=100:=hA.num.len (k:=100) (by have:=gW (show 3<=100 by omega);have:P 3=1237940039285380274899124224:=rfl;omega)
 have hbw:=ab (ae w _) hA.below
 go_wp2_with fail
 refine(ow (V:=sg ng M*pw e) hR hN.1 (by omega) (hT.keeps hbw) (by omega) (by rw[hv])).mono ?_
 rintro r w7 (⟨_,v,rfl,hD⟩|⟨hno,_⟩)
 ·have hb7:=hD.below
  obtain⟨ng',s',m',e',rfl,hyy,hA2⟩:=id hD
  obtain⟨so',sn',sc',rfl⟩:=hA2.num.shape
  have q0:=((ab hA.below hb7).block w.heap.size (by rw[gU];omega)).trans (aB _ _)
  have x0:=aa q0 0 rfl
  have x1:=aa q0 1 rfl
  have x2:=aa q0 2 rfl
  have z0:=af q0 0
  have z1:=af q0 1
  have z2:=af q0 2
  go_wp2
  refine bodyPost_ret (v:=.tuple #[.agg #[.bool ng',.slice so' sn' sc',.int .i64 e'],.int .i64 0]) (by simp[results,results148,go_sem,x0,x1,x2]) rfl ⟨_,rfl,?_⟩
  exact cD (g:=w.heap.size) hD hbw (Nat.le_refl _) (Nat.lt_of_lt_of_le (by rw[gU];omega) hA.below.size) _ _ _
 ·exact absurd hok hno
theorem yK (ng:Bool) (M e:Int) (w:World) :
  Calls prog 148 #[.bool ng,.int .i64 M,.int .i64 e,.bool false] w fun r w'=>r=.returned (.tuple #[eD,.int .i64 10])∧Below w.heap.size w w':=by
 go_enter func148,ntmps148
 go_wp2
 refine bodyPost_ret (v:=.tuple #[eD,.int .i64 10]) (by simp[results,results148,go_sem,eD]) rfl ⟨rfl,?_⟩
 exact ae _ _
theorem tW (b:Int) (w:World) (L:lz w) (hT:fM w) :
  Calls prog 140 #[.int .i64 b] w fun r w'=>∃ v er,r=.returned (.tuple #[v,.int .i64 er])∧Below w.heap.size w w'∧((aC b=true∧er=0∧bv w w' (sg (c8 b) (bO b)*pw (b7 b)) v)∨(aC b=false∧er=10∧v=eD)):=by
 have hVy:aC b=true->∀ W,Below w.heap.size w W->Calls prog 148 #[.bool (c8 b),.int .i64 (bO b),.int .i64 (b7 b),.bool true] W fun r w'=>∃ v,r=.returned (.tuple #[v,.int .i64 0])∧bv W w' (sg (c8 b) (bO b)*pw (b7 b)) v:=fun hp W hb=>by
  have hi:=iS hp
  exact wN _ _ _ W (hT.keeps hb) (by omega) (by omega) (by omega) (by omega)
 have hP:=fun W hb=>lA b W (L.keeps hb)
 generalize sg (c8 b) (bO b)*pw (b7 b)=V at hVy ⊢
 generalize c8 b=ng at *
 generalize bO b=mg at *
 generalize b7 b=ex at *
 clear L hT
 cases hp:aC b
 ·rw[hp] at hP hVy
  go_enter func140,ntmps140
  go_wp2_with fail
  refine(hP _ (ae _ _)).mono ?_
  rintro r w1 ⟨rfl,hb1⟩
  go_wp2_with fail
  refine(yK _ _ _ _).mono ?_
  unfold eD
  rintro r w2 ⟨rfl,hb2⟩
  have hbw:=ab (ae w (.cells #[.bool false,.slice none 0 0,.int .i64 0] 26)) (ab hb1 hb2)
  have q0:=((ab hb1 hb2).block w.heap.size (by rw[gU];omega)).trans (aB _ _)
  have x0:=aa q0 0 rfl
  have x1:=aa q0 1 rfl
  have x2:=aa q0 2 rfl
  have z0:=af q0 0
  have z1:=af q0 1
  have z2:=af q0 2
  go_wp2
  refine bodyPost_ret (v:=.tuple #[eD,.int .i64 10]) (by simp[results,results140,go_sem,x0,x1,x2,eD]) rfl ⟨_,_,rfl,?_,.inr ⟨by trivial,rfl,rfl⟩⟩
  exact nR hbw (Nat.le_refl _) _ _ _
 ·rw[hp] at hP hVy
  go_enter func140,ntmps140
  go_wp2_with fail
  refine(hP _ (ae _ _)).mono ?_
  rintro r w1 ⟨rfl,hb1⟩
  have hbw:=ab (ae w (.cells #[.bool false,.slice none 0 0,.int .i64 0] 26)) hb1
  go_wp2_with fail
  refine(hVy (by trivial) _ hbw).mono ?_
  rintro r w2 ⟨v,rfl,hD⟩
  obtain⟨ng',s',m',e',rfl,hyy,hA2⟩:=id hD
  obtain⟨so',sn',sc',rfl⟩:=hA2.num.shape
  have q0:=((ab hb1 hD.below).block w.heap.size (by rw[gU];omega)).trans (aB _ _)
  have x0:=aa q0 0 rfl
  have x1:=aa q0 1 rfl
  have x2:=aa q0 2 rfl
  have z0:=af q0 0
  have z1:=af q0 1
  have z2:=af q0 2
  go_wp2
  refine bodyPost_ret (v:=.tuple #[.agg #[.bool ng',.slice so' sn' sc',.int .i64 e'],.int .i64 0]) (by simp[results,results140,go_sem,x0,x1,x2]) rfl ⟨_,_,rfl,?_,.inl ⟨by trivial,rfl,?_⟩⟩
  ·exact nR (ab hbw hD.below) (Nat.le_refl _) _ _ _
  ·exact cD (g:=w.heap.size) hD hbw (Nat.le_refl _) (Nat.lt_of_lt_of_le (by rw[gU];omega) hb1.size) _ _ _
def cL (way:Int) (ng:Bool):Int:=if bm way ng true 3 then 9218868437227405312 else 9218868437227405311
def ay (ng:Bool) (r:Int):Int:=if ng then r-9223372036854775808 else r
theorem Do:bits BinOp.or IntKind.i64 9218868437227405312 (-9223372036854775808)=-4503599627370496:=by decide +kernel
theorem Bf:bits BinOp.or IntKind.i64 9218868437227405311 (-9223372036854775808)=-4503599627370497:=by decide +kernel
theorem lX.keeps {w w':World} (h:lX w) (hb:Below w.heap.size w w'):lX w' :=
 ⟨⟨aG h.lays.a0 hb,aG h.lays.a1 hb,aG h.lays.a2 hb,trivial,trivial,trivial⟩,fun j hj=>aG (h.tab j hj) hb⟩
theorem ve (way:Int) (hw:0<=way∧way<=3) (ng:Bool) (w:World) :
  Calls prog 92 #[gb way,.bool ng,.int .i64 9218868437227405312,.int .i64 (-9223372036854775808)] w fun e w'=>e=.returned (.int .i64 (ay ng (cL way ng)))∧Below w.heap.size w w':=by
 have hF:=ot way hw
 have hE:=ma way
 unfold gb cL
 generalize fZ way=F at hF hE ⊢
 have q0:=heap_alloc_new w (.cells #[.func (.func F) #[] #[]] 124)
 have k0:=aa q0 0 rfl
 have o1:=Do
 have o2:=Bf
 obtain⟨R,hR⟩:∃ R,bm way ng true 3=R:=⟨_,rfl⟩
 have hFF:=hF ng true 3
 rw[hR] at hFF ⊢
 clear hR hF
 cases ng<;>cases R
 all_goals
  unfold ay
  go_enter func92,ntmps92
  go_wp2_with (first|(refine(hFF _).mono ?_;rintro _ _ ⟨rfl,rfl⟩))
  all_goals go_ret
  all_goals exact⟨by simp,ae _ _⟩
def ij (way:Int) (ng sd:Bool) (mag:Nat) (exp:Int) (cut:Bool):Int × Bool :=
 let E:=rE 53 (-1074) mag exp
 let u:=rU mag (E-exp)
 let left:=rL mag cut (E-exp)
 let U:=u+(if bm way ng (decide (u % 2=1)) left then 1 else 0)
 let neg:=ng&&(decide (0<U)||sd)
 if jk 52 2047 (-1074) U E then (jp neg U E,decide (left≠0)) else (ay neg (cL way neg),true)
theorem mf (way:Int) (hw:0<=way∧way<=3) (ng sd:Bool) (mag:Nat) (exp:Int) (cut:Bool) (w:World) (Ev:lX w) (hm:mag<18446744073709551616) (he:-4500000<=exp∧exp<=4500000) :
    Calls prog 70 #[dp ng mag exp cut sd,gb way] w fun e w'=>e=.returned (.tuple #[.int .i64 (ij way ng sd mag exp cut).1,.bool (ij way ng sd mag exp cut).2])∧Below w.heap.size w w':=by
  have e64:(2:Nat)^64=18446744073709551616:=by decide
  have e53:(2:Nat)^(53:Int).toNat=9007199254740992:=by decide
  have hE:-5000000<=rE 53 (-1074) mag exp∧rE 53 (-1074) mag exp<=5000000:=by
    have hbl:Lib.bitLen mag<=64:=by
      by_cases h0:mag=0
      · rw[h0];decide
      · exact(M.eY mag (by omega) h0).2.2.2
    unfold rE
    omega
  have hu:rU mag (rE 53 (-1074) mag exp-exp)<=9007199254740991:=by
    by_cases h0:mag=0
    · rw[h0];unfold rU;split<;>simp
    · have:=(tL (size:=53) (low:=-1074) (exp:=exp) (by decide) (by omega) h0).1
      rw[e53] at this
      omega
  have hUn:=fun W=>wo way hw ng mag exp (rE 53 (-1074) mag exp) cut sd W hm hE (by omega) (by omega)
  have HR:ij way ng sd mag exp cut=(let E:=rE 53 (-1074) mag exp
    let u:=rU mag (E-exp)
    let left:=rL mag cut (E-exp)
    let U:=u+(if bm way ng (decide (u % 2=1)) left then 1 else 0)
    let neg:=ng&&(decide (0<U)||sd)
    if jk 52 2047 (-1074) U E then (jp neg U E,decide (left≠0)) else (ay neg (cL way neg),true)):=rfl
  simp only at HR
  have hEE:rE 53 (-1074) mag exp=rE 53 (-1074) mag exp:=rfl
  obtain⟨E,hEq⟩:∃ E,rE 53 (-1074) mag exp=E:=⟨_,rfl⟩
  rw[hEq] at hE hu hUn HR
  obtain⟨left,hleft⟩:∃ l,rL mag cut (E-exp)=l:=⟨_,rfl⟩
  rw[hleft] at hUn HR
  obtain⟨U,hU⟩:∃ U,rU mag (E-exp)+(if bm way ng (decide (rU mag (E-exp) % 2=1)) left then 1 else 0)=U:=⟨_,rfl⟩
  rw[hU] at hUn HR
  have hU2:U<=9007199254740992:=by rw[<- hU];split<;>omega
  obtain⟨neg,hneg⟩:∃ n,(ng&&(decide (0<U)||sd))=n:=⟨_,rfl⟩
  have hFl:=fun W=>A4 (fZ way) ng mag exp 53 (-1074) cut sd U E (decide (left≠0)) W hm he (by omega) (by omega) hEq (by omega) hUn
  rw[hneg] at hFl HR
  have hJ:=fun W (EW:lX W)=>yu neg (U:Int) E W EW (by unfold au;omega) (by unfold au;omega)
  have hB:=fun W=>ve way hw neg W
  obtain⟨other,hoth⟩:∃ o,decide (left≠0)=o:=⟨_,rfl⟩
  rw[hoth] at hFl HR
  obtain⟨fin,hfin⟩:∃ f,jk 52 2047 (-1074) (U:Int) E=f:=⟨_,rfl⟩
  obtain⟨pt,hpt⟩:∃ p,jp neg (U:Int) E=p:=⟨_,rfl⟩
  rw[hpt] at hJ HR
  rw[hfin] at hJ HR
  obtain⟨by1,hby⟩:∃ b,ay neg (cL way neg)=b:=⟨_,rfl⟩
  rw[hby] at hB HR
  rw[HR]
  have hUi:((U:Nat):Int)=((U:Nat):Int):=rfl
  have hb2:=ar w (.cells #[.bool ng,.int .u64 mag,.int .i64 exp,.bool cut,.bool sd] 104) (.cells #[.func (.func (fZ way)) #[] #[]] 124)
  have q1:=aR w (.cells #[.bool ng,.int .u64 mag,.int .i64 exp,.bool cut,.bool sd] 104) (.cells #[.func (.func (fZ way)) #[] #[]] 124)
  have k1:=aa q1 0 rfl
  have HEV:Hid (lX w):=Ev
  clear Ev HR hUn hEq hleft hU hneg hoth hfin hpt hby hU2 hu hE hEE hUi e64 e53
  unfold gb dp at *
  generalize fZ way=F at *
  go_enter func70,ntmps70
  go_wp2_with fail
  refine(hFl _).mono ?_
  rintro _ w1 ⟨rfl,hb1⟩
  have hbw:=ab hb2 hb1
  have p1:=(hb1.block _ (aGe q1).1).trans q1
  have k2:=aa p1 0 rfl
  clear hFl hb2 hb1 q1 k1
  go_wp2_with fail
  refine(hJ _ (HEV.out.keeps hbw)).mono ?_
  rintro _ w2 ⟨rfl,hg⟩
  have hb2:=hg.be
  have hbw2:=ab hbw hb2
  have p2:=(hb2.block _ (aGe p1).1).trans p1
  have k3:=aa p2 0 rfl
  clear hJ hg p1 p2 k2 hb2 hbw
  cases fin
  · go_wp2_with fail
    refine(hB _).mono ?_
    rintro _ w3 ⟨rfl,hb3⟩
    go_wp2
    all_goals go_ret2
    all_goals exact⟨by simp,ab hbw2 hb3⟩
  · go_wp2
    all_goals go_ret2
    all_goals exact⟨by simp,hbw2⟩
theorem bd.parts {w:World} {v:Value} {V:Int} (h:bd w v V) {k:Nat} (hV:V<P k):∃ ao n cap d,v=.slice ao n cap∧aL w ao n cap d∧bV d n∧val d n=V∧n<=k:=by
 obtain⟨ao,n,cap,rfl⟩:=h.shape
 have hl:=h.len hV
 obtain⟨ao',n',cap',d,e,hR,h2,h3⟩:=h
 simp only[Value.slice.injEq] at e
 obtain⟨rfl,rfl,rfl⟩:=e
 exact⟨ao,n,cap,d,rfl,hR,h2,h3,hl⟩
theorem Bg {V l:Int} (h:lu V l) (h0:0<V) (k:Nat):decide (l<(k:Int))=decide (V % 2^k≠0):=by
 obtain⟨j,rfl,q,hq⟩:=nP h h0
 by_cases hjk:j<k
 ·rw[decide_eq_true (by omega)]
  refine(decide_eq_true ?_).symm
  intro hz
  obtain⟨d,hd⟩:∃ d,k=j+1+d:=⟨k-j-1,by omega⟩
  have h1:(2:Int)^k ∣ V:=Int.dvd_of_emod_eq_zero hz
  obtain⟨c,hc⟩:=h1
  rw[hq,hd,Int.pow_add,Int.pow_succ] at hc
  have hp:=aJ j
  have e:(2:Int)^j*(2*q+1)=2^j*(2*(2^d*c)):=by
   rw[Int.mul_comm,hc]
   simp only[Int.mul_assoc]
  have:=Int.eq_of_mul_eq_mul_left (by omega) e
  omega
 ·rw[decide_eq_false (by omega)]
  refine(decide_eq_false ?_).symm
  intro hz
  apply hz
  obtain⟨d,hd⟩:∃ d,j=k+d:=⟨j-k,by omega⟩
  rw[hq,hd,Int.pow_add,Int.mul_comm,Int.mul_assoc]
  exact Int.mul_emod_right _ _
theorem vf (ao:Option Addr) (n ca:Nat) (a:Nat->Int) (k:Nat) (w:World) (ha:aL w ao n ca a) (na:bV a n) (hn:n<=5000) (hk0:0<k) (hk:k<=1000000) (h0:0<val a n) (hT:fM w) :
  Calls prog 116 #[.slice ao n ca,.int .i64 (-(k:Int))] w fun e w'=>∃ v,e=.returned (.tuple #[v,.bool (decide (val a n % 2^k≠0))])∧cd w w' (val a n/2^k) v:=by
 have CL:Hid (∀ W,Below w.heap.size w W->_):=fun W hb=>p6 ao n ca k a W (ha.keeps hb) na.1 (by omega) (by omega)
 have CW:Hid (∀ W,Below w.heap.size w W->_):=fun W hb=>lv ao n ca a W (ha.keeps hb) na.1 (by omega) (hT.keeps hb)
 have HM:Hid (∀ l,lu (val a n) l->decide (l<(k:Int))=decide (val a n % 2^k≠0)):=fun l h=>Bg h h0 k
 generalize decide (val a n % 2^k≠0)=R at HM ⊢
 generalize val a n/2^k=Q at CL ⊢
 have w1:IntKind.i64.wrap (k:Int)=(k:Int):=by rw[a9];omega
 go_enter func116,ntmps116
 go_wp2_with fail
 refine(CL.out _ (ap _)).mono ?_
 rintro _ w2 ⟨v,rfl,hA⟩
 have hb2:=hA.below
 have HA:Hid (cd w w2 Q v):=hA
 obtain⟨so,sn,sc,rfl⟩:=hA.num.shape
 clear hA CL
 go_wp2_with fail
 refine(CW.out _ hb2).mono ?_
 rintro _ w3 ⟨l,rfl,hl,rfl⟩
 have hr:=HM.out l hl
 go_wp2
 all_goals refine bodyPost_ret (v:=.tuple #[.slice so sn sc,.bool R]) (by simp[results,results116,go_sem]) rfl ⟨_,rfl,HA.out⟩
theorem tv (ao:Option Addr) (n ca:Nat) (a:Nat->Int) (w:World) (ha:aL w ao n ca a) (na:bV a n) (hn:n<=5000) :
  Calls prog 116 #[.slice ao n ca,.int .i64 0] w fun e w'=>∃ v,e=.returned (.tuple #[v,.bool false])∧cd w w' (val a n) v:=by
 have CR:Hid (Calls prog 133 #[.slice ao n ca,.int .i64 0] w fun e w'=>∃ v,e=.returned v∧cd w w' (val a n) v):=by
  have h:=wA ao n ca 0 a w ha na.1 (by omega) (by omega)
  rw[Int.pow_zero,Int.mul_one] at h
  exact h
 go_enter func116,ntmps116
 go_wp2_with fail
 refine CR.out.mono ?_
 rintro _ w2 ⟨v,rfl,hA⟩
 have HA:Hid (cd w w2 (val a n) v):=hA
 obtain⟨so,sn,sc,rfl⟩:=hA.num.shape
 clear hA CR
 go_wp2
 all_goals refine bodyPost_ret (v:=.tuple #[.slice so sn sc,.bool false]) (by simp[results,results116,go_sem]) rfl ⟨_,rfl,HA.out⟩
theorem Ak (W:World) (g:Nat) (a b c d e:Value):Wr g W (((((W.setCell ⟨g,0,none⟩ a).setCell ⟨g,1,none⟩ b).setCell ⟨g,2,none⟩ c).setCell ⟨g,3,none⟩ d).setCell ⟨g,4,none⟩ e):=(((((Wr.refl g W).setCell 0 a).setCell 1 b).setCell 2 c).setCell 3 d).setCell 4 e
def vK (M:Int):Nat:=aH M-62
theorem jW {M:Int} (h:0<=M):0<=M/2^vK M∧M/2^vK M<4611686018427387904:=by
 have hp:=aJ (vK M)
 refine⟨Int.ediv_nonneg h (by omega),?_⟩
 have h1:=iP M
 have h2:(2:Int)^aH M<=2^(62+vK M):=cJ (by unfold vK;omega)
 have e:(2:Int)^(62+vK M)=4611686018427387904*2^vK M:=by rw[Int.pow_add];rfl
 exact Int.ediv_lt_of_lt_mul hp (by omega)
theorem rS {a:Nat->Int} {n:Nat} (na:bV a n):aH (val a n)<=30*n:=by
 cases n with
 | zero=>show aH 0<=_;rw[mc];omega
 | succ m=>
  rw[nM na]
  have h:aH (a m)<=30:=dr (by show a m<1073741824;exact(na.1 m (by omega)).2)
  omega
theorem nf (ng:Bool) (ao:Option Addr) (n ca:Nat) (a:Nat->Int) (e:Int) (w:World) (ha:aL w ao n ca a) (na:bV a n) (hn:n<=5000) (he:-1100000<=e∧e<=1100000) (hT:fM w) :
  Calls prog 93 #[.agg #[.bool ng,.slice ao n ca,.int .i64 e]] w fun r w'=>r=.returned (dp ng (val a n/2^vK (val a n)).toNat (e+vK (val a n)) (decide (val a n % 2^vK (val a n)≠0)) false)∧Below w.heap.size w w':=by
 have hv0:=aP na.1
 have hbl:aH (val a n)<=150000:=by have:=rS na;omega
 have CB:Hid (∀ W,Below w.heap.size w W->_):=fun W hb=>jt ao n ca a W (ha.keeps hb) na (by omega)
 obtain⟨k,hk⟩:∃ k,vK (val a n)=k:=⟨_,rfl⟩
 have hsm:=jW hv0
 rw[hk] at hsm ⊢
 have CS:Hid (∀ W,Below w.heap.size w W->Calls prog 116 #[.slice ao n ca,.int .i64 (-(k:Int))] W fun e w'=>∃ v,e=.returned (.tuple #[v,.bool (decide (val a n % 2^k≠0))])∧cd W w' (val a n/2^k) v):=fun W hb=>by
  by_cases h0:k=0
  ·subst h0
   have h:=tv ao n ca a W (ha.keeps hb) na hn
   simpa using h
  ·have hp:0<val a n:=by
    rcases Int.lt_or_eq_of_le hv0 with h|h
    ·exact h
    ·exfalso;rw[<- h] at hk;apply h0;rw[<- hk];decide
   exact vf ao n ca a k W (ha.keeps hb) na hn (by omega) (by unfold vK at hk;omega) hp (hT.keeps hb)
 have hbk:min (62-(aH (val a n):Int)) 0=-(k:Int):=by unfold vK at hk;omega
 obtain⟨B,hB⟩:∃ B:Int,(aH (val a n):Int)=B:=⟨_,rfl⟩
 have hB0:0<=B∧B<=150000:=by omega
 rw[hB] at CB hbk
 have hk2:k<=150000:=by unfold vK at hk;omega
 generalize decide (val a n % 2^k≠0)=R at CS ⊢
 obtain⟨Q,hQ⟩:∃ Q:Nat,val a n/2^k=(Q:Int):=Int.eq_ofNat_of_zero_le hsm.1
 rw[hQ] at CS hsm ⊢
 rw[Int.toNat_natCast]
 have CM:Hid (∀ (W':World) so sn sc,bd W' (.slice so sn sc) (Q:Int)->Calls prog 117 #[.slice so sn sc] W' fun e w'=>e=.returned (.int .i64 (Q:Int))∧w'=W'):=fun W' so sn sc hA=>by
  obtain⟨ao',n',ca',d',hs,hR,hN,hV,hl⟩:=hA.parts (k:=3) (by rw[show P 3=1237940039285380274899124224 by decide];omega)
  simp only[Value.slice.injEq] at hs
  obtain⟨rfl,rfl,rfl⟩:=hs
  rw[<- hV]
  exact wL _ _ _ _ _ hR hN.1 hl (by omega)
 have w1:IntKind.i64.wrap (62-B)=62-B:=by rw[a9];omega
 have w2:IntKind.i64.wrap (e+k)=e+k:=by rw[a9];omega
 have w3:IntKind.u64.wrap (Q:Int)=(Q:Int):=by rw[IntKind.wrap_u64];omega
 have hmin:∀ (ts:Array TypeId) (t:TypeId) (x y:Int) (w:World),(Builtin.min_ ts t #[.int .i64 x,.int .i64 y]).run prog w=.ok (.int .i64 (min x y)) w:=fun ts t x y w=>by rw[run_min_int2];congr 2;omega
 have q0:=aU w (.cells #[.bool ng,.slice ao n ca,.int .i64 e] 26) (.cells #[.bool false,.int .u64 0,.int .i64 0,.bool false,.bool false] 104)
 have q1:=aR w (.cells #[.bool ng,.slice ao n ca,.int .i64 e] 26) (.cells #[.bool false,.int .u64 0,.int .i64 0,.bool false,.bool false] 104)
 have hb1:=ar w (.cells #[.bool ng,.slice ao n ca,.int .i64 e] 26) (.cells #[.bool false,.int .u64 0,.int .i64 0,.bool false,.bool false] 104)
 clear hQ hk hB hbl hv0 hsm hT
 unfold dp
 go_enter func93,ntmps93
 go_wp2_with fail
 generalize (w.alloc (.cells #[.bool ng,.slice ao n ca,.int .i64 e] 26)).alloc (.cells #[.bool false,.int .u64 0,.int .i64 0,.bool false,.bool false] 104)=wx at q0 q1 hb1 ⊢
 refine(CB.out _ hb1).mono ?_
 rintro _ _ ⟨rfl,rfl⟩
 have k1:=aa q0 1 rfl
 go_wp2_with fail
 refine(CS.out _ hb1).mono ?_
 rintro _ w4 ⟨v,rfl,hA⟩
 have hb4:=hA.below
 obtain⟨so,sn,sc,rfl⟩:=hA.num.shape
 have CM1:Hid (Calls prog 117 #[.slice so sn sc] w4.drew fun e w'=>e=.returned (.int .i64 (Q:Int))∧w'=w4.drew):=CM.out w4.drew so sn sc (hA.num.keeps (ap w4).drew)
 have hbw:=ab hb1 hb4
 have p0:=(hb4.block _ (aGe q0).1).trans q0
 have p1:=(hb4.block _ (aGe q1).1).trans q1
 clear CB CS k1 hA CM
 have c0:=aa p0 0 rfl
 have c2:=aa p0 2 rfl
 have x0:=aa p1 0 rfl
 have x1:=aa p1 1 rfl
 have x2:=aa p1 2 rfl
 have x3:=aa p1 3 rfl
 have x4:=aa p1 4 rfl
 have z0:=af p1 0
 have z1:=af p1 1
 have z2:=af p1 2
 have z3:=af p1 3
 have z4:=af p1 4
 go_wp2_with fail
 have c1:=aa p0 1 rfl
 go_region_with (go_at_call 117;refine CM1.out.mono ?_;rintro _ _ ⟨rfl,rfl⟩)
 all_goals go_wp2
 all_goals refine bodyPost_ret (v:=.agg #[.bool ng,.int .u64 Q,.int .i64 (e+k),.bool R,.bool false]) (by simp[results,results93,go_sem,x0,x1,x2,x3,x4]) rfl ⟨rfl,?_⟩
 all_goals exact((Ak w4 (w.heap.size+1) _ _ _ _ _).below hbw hbw.size (Nat.le_succ _)).drew
theorem vg (p:Nat) (off cap len:Nat) (ng:Bool) (ao:Option Addr) (n ca:Nat) (a:Nat->Int) (e:Int) (w:World) (c0:w.cell? ⟨p,off,none⟩=some (.bool ng)) (c1:w.cell? ⟨p,off+1,none⟩=some (.slice ao n ca)) (c2:w.cell? ⟨p,off+2,none⟩=some (.int .i64 e)) (hl:0<len) (ha:aL w ao n ca a) (na:bV a n) (hn:n<=5000) (he:-1100000<=e∧e<=1100000) (hT:fM w) :
  Calls prog 71 #[.slice (some ⟨p,off,none⟩) len cap] w fun r w'=>r=.returned (.tuple #[dp ng (val a n/2^vK (val a n)).toNat (e+vK (val a n)) (decide (val a n % 2^vK (val a n)≠0)) false,.int .i64 0])∧Below w.heap.size w w':=by
 have CV:Hid (∀ W,Below w.heap.size w W->_):=fun W hb=>nf ng ao n ca a e W (ha.keeps hb) na hn he (hT.keeps hb)
 unfold dp at *
 generalize (val a n/2^vK (val a n)).toNat=Q at CV ⊢
 generalize e+vK (val a n)=E at CV ⊢
 generalize decide (val a n % 2^vK (val a n)≠0)=R at CV ⊢
 have q0:=heap_alloc_new w (.cells #[.bool false,.int .u64 0,.int .i64 0,.bool false,.bool false] 104)
 have hb1:=ae w (.cells #[.bool false,.int .u64 0,.int .i64 0,.bool false,.bool false] 104)
 have d0:=aG c0 hb1
 have d1:=aG c1 hb1
 have d2:=aG c2 hb1
 go_enter func71,ntmps71
 go_wp2_with fail
 refine(CV.out _ hb1).mono ?_
 rintro _ w2 ⟨rfl,hb2⟩
 have p1:=(hb2.block _ (aGe q0).1).trans q0
 have hbw:=ab hb1 hb2
 clear d0 d1 d2 c0 c1 c2 CV
 have x0:=aa p1 0 rfl
 have x1:=aa p1 1 rfl
 have x2:=aa p1 2 rfl
 have x3:=aa p1 3 rfl
 have x4:=aa p1 4 rfl
 have z0:=af p1 0
 have z1:=af p1 1
 have z2:=af p1 2
 have z3:=af p1 3
 have z4:=af p1 4
 go_wp2
 all_goals refine bodyPost_ret (v:=.tuple #[.agg #[.bool ng,.int .u64 Q,.int .i64 E,.bool R,.bool false],.int .i64 0]) (by simp[results,results71,go_sem,x0,x1,x2,x3,x4]) rfl ⟨rfl,?_⟩
 all_goals exact(Ak w2 w.heap.size _ _ _ _ _).below hbw hbw.size (Nat.le_refl _)
theorem vh (way:Int) (hw:0<=way∧way<=3) (F G:Nat) (lo:Option Addr) (ln lc:Nat) (r:Nat->aI) (w:World) (hl:gf w lo ln lc r) (ok:∀ i,i<ln->cr (r i)=true) (ng:Bool) (mag:Nat) (exp:Int) (cut sd:Bool) (b:Int) (o:Bool)
  (hEF:∀ (cap:Array Value) (w:World),(callFunc F cap).run prog w=.ok (.enter F cap) w) (hEG:∀ (cap:Array Value) (w:World),(callFunc G cap).run prog w=.ok (.enter G cap) w)
  (hG:∀ W,Below w.heap.size w W->Calls prog G #[.slice lo ln lc] W fun e w'=>e=.returned (.tuple #[dp ng mag exp cut sd,.int .i64 0])∧Below W.heap.size W w')
  (hF:∀ W,Below w.heap.size w W->Calls prog F #[dp ng mag exp cut sd,gb way] W fun e w'=>e=.returned (.tuple #[.int .i64 b,.bool o])∧Below W.heap.size W w') :
  Calls prog 69 #[.int .i64 way,.func (.func F) #[] #[],.func (.func G) #[] #[],.slice lo ln lc] w fun e w'=>e=.returned (.tuple #[.int .i64 b,.bool o,.int .i64 0])∧Below w.heap.size w w':=by
 have hst:∀ (p:Addr) (F:Nat) (m:Mode) (w:World),(store p (.func (.func F) #[] #[]) m).run prog w=stored prog w p (.func (.func F) #[] #[]) m:=fun p F m w=>run_store _ w p _ m rfl
 have hle:=hl.le
 have hma:=hl.max
 unfold dp gb at *
 have CW:=jg way w
 rw[if_pos hw,decide_eq_true hw] at CW
 unfold gb at CW
 generalize fZ way=K at *
 go_enter func69,ntmps69
 go_wp2_with fail
 refine CW.mono ?_
 rintro _ w1 ⟨rfl,hb1⟩
 have q1:=heap_alloc_new w1 (.cells #[.nilFunc] 124)
 have y0:=aa q1 0 rfl
 have y1:=af q1 0
 go_wp2_with fail
 have q2:=heap_alloc_new w1 (.cells #[.func (.func K) #[] #[]] 124)
 have hb2:=ab hb1 (ae w1 (.cells #[.func (.func K) #[] #[]] 124))
 generalize w1.alloc (.cells #[.func (.func K) #[] #[]] 124)=w2 at q2 hb2 ⊢
 clear q1 y0 y1 CW
 go_loopw [28] (fun iv wr=>∃ k:Nat,iv=.int .i64 k∧k<=ln∧Hid (wr.heap[w1.heap.size]?=some (.cells #[.func (.func K) #[] #[]] 124 (0,0)))∧Below w.heap.size w wr) (fun iv _=>ln-(intOf iv).toNat)
 case atStart=>exact⟨0,rfl,Nat.zero_le _,q2,hb2⟩
 case round=>
  clear q2 hb2
  obtain⟨k,rfl,hk,HQ,hbw⟩:=hrel
  by_cases hlt:k<ln
  ·obtain⟨ba,oa,rfl,hba,hca⟩:=hl.spot (by omega)
   obtain⟨c0,c1,c2,hR⟩:=(hca k hlt).keeps hbw hba
   have hok:=ok k hlt
   have CV:=fun W (hb:Below wr.heap.size wr W)=>jE (r k).ng (r k).ao (r k).n (r k).cap (r k).d (r k).e W (hR.keeps hb)
   unfold cr at hok
   rw[hok] at CV
   clear hok hR hca
   generalize r k=x at c0 c1 c2 CV
   obtain⟨x_g,x_o,x_n,x_c,x_d,x_e⟩:=x
   simp only at c0 c1 c2 CV
   have hb3:=ae wr (.cells #[.bool x_g,.slice x_o x_n x_c,.int .i64 x_e] 26)
   have HQ3:Hid ((wr.alloc (.cells #[.bool x_g,.slice x_o x_n x_c,.int .i64 x_e] 26)).heap[w1.heap.size]?=some (.cells #[.func (.func K) #[] #[]] 124 (0,0))):=(hb3.block _ (aGe HQ.out).1).trans HQ.out
   go_wp2_with fail
   refine(CV _ hb3).mono ?_
   rintro _ w4 ⟨rfl,hb4⟩
   have HQ4:Hid (w4.heap[w1.heap.size]?=some (.cells #[.func (.func K) #[] #[]] 124 (0,0))):=(hb4.block _ (aGe HQ3.out).1).trans HQ3.out
   have hbw4:=hbw.trans ((ab hb3 hb4).mono hbw.size)
   clear CV HQ3 hb3 hb4 c0 c1 c2
   go_wp2
   go_roundw
   case rel=>exact⟨k+1,by go_num,by omega,HQ4.out,hbw4⟩
   case measure=>simp[intOf];omega
  ·obtain rfl:k=ln:=by omega
   go_wp2_with fail
   refine(hG _ hbw).mono ?_
   rintro _ w4 ⟨rfl,hb4⟩
   have p4:=(hb4.block _ (aGe HQ.out).1).trans HQ.out
   have hbw4:=hbw.trans (hb4.mono hbw.size)
   have hb5:=ae w4 (.cells #[.bool ng,.int .u64 mag,.int .i64 exp,.bool cut,.bool sd] 104)
   have kw:=aG (aa p4 0 rfl) hb5
   have hbw5:=hbw4.trans (hb5.mono hbw4.size)
   clear hG hb4
   go_wp2_with fail
   refine(hF _ hbw5).mono ?_
   rintro _ w6 ⟨rfl,hb6⟩
   go_wp2
   all_goals refine bodyPost_ret (v:=.tuple #[.int .i64 b,.bool o,.int .i64 0]) (by simp[results,results69,go_sem]) rfl ⟨rfl,hbw5.trans (hb6.mono hbw5.size)⟩
theorem EO (way:Int) (hw:0<=way∧way<=3) (x:aI) (w:World) (hx:aL w x.ao x.n x.cap x.d) (ok:cr x=true) (Ev:lX w) (hT:fM w) :
    Calls prog 47 #[x.v,.int .i64 way] w fun e w'=>e=.returned (.tuple #[.int .i64 (ij way x.ng false (val x.d x.n/2^vK (val x.d x.n)).toNat (x.e+vK (val x.d x.n)) (decide (val x.d x.n % 2^vK (val x.d x.n)≠0))).1,.bool (ij way x.ng false (val x.d x.n/2^vK (val x.d x.n)).toNat (x.e+vK (val x.d x.n)) (decide (val x.d x.n % 2^vK (val x.d x.n)≠0))).2,.int .i64 0])∧Below w.heap.size w w':=by
  have hS:=bG ok
  obtain⟨na,hn,he0,he1⟩:=hS
  have hv0:=aP na.1
  have hbl:vK (val x.d x.n)<=150000:=by have:=rS na;unfold vK;omega
  have hsm:=jW hv0
  have hEF:∀ (cap:Array Value) (w:World),(callFunc 70 cap).run prog w=.ok (.enter 70 cap) w:=by
    intro cap w
    simp[go_sem]
  have hEG:∀ (cap:Array Value) (w:World),(callFunc 71 cap).run prog w=.ok (.enter 71 cap) w:=by
    intro cap w
    simp[go_sem]
  have hmf:∀ (fn:Fn) (first cap:Array Value) (w:World),(Instr.makeFunc fn first cap).run prog w=.ok (.func fn first cap) w:=fun _ _ _ _=>rfl
  have CR:=fun W (hb:Below w.heap.size w W) (g:Nat) (hg:W.heap[g]?=some (.cells #[.bool x.ng,.slice x.ao x.n x.cap,.int .i64 x.e] 26 (0,0)))=>vh way hw 70 71 (some ⟨g,0,none⟩) 1 1 (fun _=>x) W
    ⟨Nat.le_refl _,by decide,fun _=>⟨g,0,rfl,(Array.getElem?_eq_some_iff.1 hg).1,fun i hi=>by
      obtain rfl:i=0:=by omega
      exact ⟨aa hg 0 rfl,aa hg 1 rfl,aa hg 2 rfl,hx.keeps hb⟩⟩⟩ (fun _ _=>ok) x.ng (val x.d x.n/2^vK (val x.d x.n)).toNat (x.e+vK (val x.d x.n)) (decide (val x.d x.n % 2^vK (val x.d x.n)≠0)) false _ _ hEF hEG
    (fun W2 hb2=>vg g 0 1 1 x.ng x.ao x.n x.cap x.d x.e W2 (aG (aa hg 0 rfl) hb2) (aG (aa hg 1 rfl) hb2) (aG (aa hg 2 rfl) hb2) (by decide) ((hx.keeps hb).keeps hb2) na hn ⟨he0,he1⟩ ((hT.keeps hb).keeps hb2))
    (fun W2 hb2=>mf way hw x.ng false _ _ _ W2 ((Ev.keeps hb).keeps hb2) (by omega) (by omega))
  generalize ij way x.ng false (val x.d x.n/2^vK (val x.d x.n)).toNat (x.e+vK (val x.d x.n)) (decide (val x.d x.n % 2^vK (val x.d x.n)≠0))=R at CR ⊢
  have HCR:Hid _:=CR
  unfold aI.v
  clear ok hsm hbl hv0 he0 he1 hn na hx
  obtain⟨x_g,x_o,x_n,x_c,x_d,x_e⟩:=x
  simp only at *
  clear HCR
  have hb2:=ar w (.cells #[.bool x_g,.slice x_o x_n x_c,.int .i64 x_e] 26) (.cells #[.bool x_g,.slice x_o x_n x_c,.int .i64 x_e] 26)
  have q1:=aR w (.cells #[.bool x_g,.slice x_o x_n x_c,.int .i64 x_e] 26) (.cells #[.bool x_g,.slice x_o x_n x_c,.int .i64 x_e] 26)
  go_enter func47,ntmps47
  go_wp2_with fail
  refine(CR _ hb2 _ q1).mono ?_
  rintro _ w2 ⟨rfl,hb3⟩
  go_wp2
  all_goals refine bodyPost_ret (v:=.tuple #[.int .i64 R.1,.bool R.2,.int .i64 0]) (by simp[results,results47,go_sem]) rfl ⟨rfl,ab hb2 hb3⟩
def FK (A k:Int):Int:=if 0<=k then A*2^k.toNat else A/2^(-k).toNat
def Gf (A k:Int):Bool:=if 0<=k then false else decide (A % 2^(-k).toNat≠0)
def qK (A B:Int):Int:=62+(aH B:Int)-(aH A:Int)
def yL (way:Int) (a b:aI):Int × Bool:=ij way (a.ng != b.ng) false (FK (val a.d a.n) (qK (val a.d a.n) (val b.d b.n))/val b.d b.n).toNat (a.e-b.e-qK (val a.d a.n) (val b.d b.n)) (Gf (val a.d a.n) (qK (val a.d a.n) (val b.d b.n))||decide (FK (val a.d a.n) (qK (val a.d a.n) (val b.d b.n)) % val b.d b.n≠0))
theorem rT (F G:Value) (hF:∃ f,F=.func f #[] #[]) (hG:∃ f,G=.func f #[] #[]) (near:Int) (R:Value) (o:Option Addr) (n c:Nat) (w:World) :
  Calls prog 125 #[.agg #[F,G],.int .i64 near,.int .i64 0,R,.slice o n c] w fun e w'=>e=.returned (.tuple #[.int .i64 near,.int .i64 0])∧Below w.heap.size w w':=by
 obtain⟨f,rfl⟩:=hF
 obtain⟨g,rfl⟩:=hG
 have CW:=fun W=>jg 0 W
 unfold gb fZ at CW
 simp only[if_true] at CW
 have hst:∀ (p:Addr) (F:Nat) (m:Mode) (w:World),(store p (.func (.func F) #[] #[]) m).run prog w=stored prog w p (.func (.func F) #[] #[]) m:=fun p F m w=>run_store _ w p _ m rfl
 go_enter func125,ntmps125
 go_wp2_with fail
 refine(CW _).mono ?_
 rintro _ w2 ⟨rfl,hb2⟩
 have hb1:=ae w (.cells #[.func f #[] #[],.func g #[] #[]] 157)
 have hbw:=ab hb1 hb2
 have q1:=heap_alloc_new w2 (.cells #[.nilFunc] 124)
 have y0:=aa q1 0 rfl
 have y1:=af q1 0
 clear CW
 go_wp2
 all_goals refine bodyPost_ret (v:=.tuple #[.int .i64 near,.int .i64 0]) (by simp[results,results125,go_sem]) rfl ⟨rfl,?_⟩
 all_goals exact ab hbw (ae _ _)
theorem vi (w:World):Calls prog 124 #[] w fun e w'=>e=.returned (.agg #[.func (.func 140) #[] #[],.func (.func 70) #[] #[]])∧Below w.heap.size w w':=by
 have hmf:∀ (fn:Fn) (first cap:Array Value) (w:World),(Instr.makeFunc fn first cap).run prog w=.ok (.func fn first cap) w:=fun _ _ _ _=>rfl
 have hst:∀ (p:Addr) (F:Nat) (m:Mode) (w:World),(store p (.func (.func F) #[] #[]) m).run prog w=stored prog w p (.func (.func F) #[] #[]) m:=fun p F m w=>run_store _ w p _ m rfl
 have q1:=heap_alloc_new w (.cells #[.nilFunc,.nilFunc] 157)
 have x0:=aa q1 0 rfl
 have x1:=aa q1 1 rfl
 have z0:=af q1 0
 have z1:=af q1 1
 go_enter func124,ntmps124
 go_wp2
 all_goals refine bodyPost_ret (v:=.agg #[.func (.func 140) #[] #[],.func (.func 70) #[] #[]]) (by simp[results,results124,go_sem]) rfl ⟨rfl,?_⟩
 all_goals exact ae _ _
theorem eP (n:Int) (w:World):(callFunc 68 #[.int .u64 n]).run prog w=.ok (.value (.float .f64 n.toNat)) w:=by
 rw[run_callFunc_extern func68 (by kernel_rfl) (by kernel_rfl) (by kernel_rfl) (e:=Extern.MathFloatBits.float64frombits) (by kernel_rfl)]
 rfl
theorem dY {k:FloatKind} {a b:Nat} (h:a=b):Ending.returned (.float k a)=.returned (.float k b):=by rw[h]
theorem ik (b:Int) (w:World) :
  Calls prog 46 #[.int .i64 b] w fun e w'=>e=.returned (.float .f64 (wd b))∧w'=w:=by
 have hd:=eP
 go_enter func46,ntmps46
 go_wp2
 go_ret
 exact⟨dY (by rw[IntKind.wrap_u64];rfl),rfl⟩
theorem aA {p:Prop} (h:p):Hid p:=h
theorem mh (b:Int) (w:World) (hb:au b) :
  Calls prog 60 #[.int .i64 b] w fun e w'=>e=.returned (.tuple #[.bool (decide (b<0)),.int .i64 (bN b),.int .i64 (bZ b)])∧w'=w:=by
 unfold au at hb
 by_cases h:b<0
 all_goals
  go_enter func60,ntmps60
  go_wp2
  go_ret3
  exact⟨AX (by simp;try omega) (by unfold bN;omega) (by unfold bZ;omega),rfl⟩
theorem Dp (f t most:Int) (w:World) (hf:0<=f) (ht:0<=t) :
  Calls prog 61 #[.int .i64 f,.int .i64 t,.int .i64 most] w fun e w'=>e=.returned (.int .i64 (ro f t most))∧w'=w:=by
 by_cases h1:f=most
 ·subst h1
  by_cases h2:t=0
  all_goals
   go_enter func61,ntmps61
   go_wp2
   go_ret
   exact⟨cv (by simp[ro,h2]),rfl⟩
 ·by_cases h2:0<f<;>by_cases h3:0<t
  all_goals
   go_enter func61,ntmps61
   go_wp2
   go_ret
   exact⟨cv (by simp[ro,h1];omega),rfl⟩
theorem gg (b:Int) (w:World) (hb:au b) :
    Calls prog 39 #[.int .i64 b] w fun e w'=>e=.returned (.int .i64 (aE b))∧w'=w:=by
  have hf:=jP b
  have ht:=jc b
  go_enter func39,ntmps39
  go_wp2_with (first
    | (go_at_call 60;refine(mh _ _ hb).mono ?_;rintro e w1 ⟨rfl,rfl⟩)
    | (go_at_call 61; refine (Dp _ _ _ _ hf.1 ht.1).mono ?_; rintro e w1 ⟨rfl,rfl⟩))
  go_ret
  exact⟨cv (yn b),rfl⟩
theorem yM (b:Int) (w:World) (hb:au b) :
    Calls prog 79 #[.int .i64 b] w fun e w'=>e=.returned (.tuple #[.bool (c8 b),.int .i64 (bO b),.int .i64 (b7 b),.bool (aC b)])∧w'=w:=by
  have hf:=jP b
  have ht:=jc b
  by_cases h0:aE b=0
  · have k:=aA (pS (.inl h0))
    go_enter func79,ntmps79
    go_wp2_with (first
      | (go_at_call 60;refine(mh _ _ hb).mono ?_;rintro e w1 ⟨rfl,rfl⟩)
      | (go_at_call 39; refine (gg _ _ hb).mono ?_; rintro e w1 ⟨rfl,rfl⟩))
    refine bodyPost_ret (v:=.tuple #[.bool (decide (b<0)),.int .i64 (bZ b),.int .i64 (-1074),.bool true]) (by simp[results,results79,go_sem]) rfl ⟨lj k.out.1 k.out.2.1 k.out.2.2.1 k.out.2.2.2,rfl⟩
  · by_cases h1:aE b=1
    · have k:=aA (pS (.inr h1))
      go_enter func79,ntmps79
      go_wp2_with (first
        | (go_at_call 60;refine(mh _ _ hb).mono ?_;rintro e w1 ⟨rfl,rfl⟩)
        | (go_at_call 39; refine (gg _ _ hb).mono ?_; rintro e w1 ⟨rfl,rfl⟩))
      refine bodyPost_ret (v:=.tuple #[.bool (decide (b<0)),.int .i64 (bZ b),.int .i64 (-1074),.bool true]) (by simp[results,results79,go_sem]) rfl ⟨lj k.out.1 k.out.2.1 k.out.2.2.1 k.out.2.2.2,rfl⟩
    · by_cases h2:aE b=2
      · have k:=aA (uK h2)
        go_enter func79,ntmps79
        go_wp2_with (first
          | (go_at_call 60;refine(mh _ _ hb).mono ?_;rintro e w1 ⟨rfl,rfl⟩)
          | (go_at_call 39; refine (gg _ _ hb).mono ?_; rintro e w1 ⟨rfl,rfl⟩))
        refine bodyPost_ret (v:=.tuple #[.bool (decide (b<0)),.int .i64 (4503599627370496+bZ b),.int .i64 (bN b-1075),.bool true]) (by simp[results,results79,go_sem]) rfl ⟨lj k.out.1 k.out.2.1 k.out.2.2.1 k.out.2.2.2,rfl⟩
      · have k:=aA (wa h0 h1 h2)
        go_enter func79,ntmps79
        go_wp2_with (first
          | (go_at_call 60;refine(mh _ _ hb).mono ?_;rintro e w1 ⟨rfl,rfl⟩)
          | (go_at_call 39; refine (gg _ _ hb).mono ?_; rintro e w1 ⟨rfl,rfl⟩))
        refine bodyPost_ret (v:=.tuple #[.bool false,.int .i64 0,.int .i64 0,.bool false]) (by simp[results,results79,go_sem]) rfl ⟨lj k.out.1 k.out.2.1 k.out.2.2.1 k.out.2.2.2,rfl⟩
def bQ (b:Int):Int:=if aE b=4 then 9221120237041090561 else b
theorem Dq {b:Int} (hb:au b):(FloatKind.f64.format.order (wd b) (wd b) != some .eq)=decide (aE b=4):=by
 have:=li hb hb
 unfold bne
 rw[this];unfold fj
 by_cases h:aE b=4<;>simp[h]
theorem gw (n:Nat) (w:World):(callFunc 84 #[.float .f64 n]).run prog w=.ok (.value (.int .u64 n)) w:=by
 rw[run_callFunc_extern func84 (by kernel_rfl) (by kernel_rfl) (by kernel_rfl) (e:=Extern.MathFloatBits.float64bits) (by kernel_rfl)]
 rfl
theorem mi (b:Int) (w:World) (hb:au b) :
  Calls prog 65 #[.float .f64 (wd b)] w fun e w'=>e=.returned (.int .i64 (bQ b))∧w'=w:=by
 have hd:=gw
 have hn:=Dq hb
 have hw:Hid (wrap64 (wd b:Int)=b):=by unfold Hid wrap64 wd;unfold au at hb;omega
 by_cases h:aE b=4
 ·have hn':(FloatKind.f64.format.order (wd b) (wd b) != some .eq)=true:=by rw[hn];simp[h]
  clear hn
  go_enter func65,ntmps65
  go_wp2
  go_ret
  exact⟨cv (by simp[bQ,h]),rfl⟩
 ·have hn':(FloatKind.f64.format.order (wd b) (wd b) != some .eq)=false:=by rw[hn];simp[h]
  clear hn
  go_enter func65,ntmps65
  go_wp2
  go_ret
  exact⟨cv (by rw[hw.out];simp[bQ,h]),rfl⟩
def pk (g:Nat) (x:Int):aI:=⟨false,some ⟨g,0,none⟩,1,1,fun _=>x,0⟩
theorem EP (g k:Nat):yL 0 (pk g 1) (pk k 3)=(4599676419421066581,true):=by
 have e:yL 0 (pk g 1) (pk k 3)=yL 0 (pk 0 1) (pk 0 3):=rfl
 rw[e]
 decide +kernel
def aI.neg (r:aI):aI:=⟨!r.ng,r.ao,r.n,r.cap,r.d,r.e⟩
end Go.Proofs.YtkkpppgfoilgmaaGreatDoor
