/- Parts of the proof. -/
import Derived.Test.YtkkpppgfoilgmaaGreatDoorPart5
import Derived.Test.YtkkpppgfoilgmaaGreatDoorPart4
import Derived.Test.YtkkpppgfoilgmaaGreatDoorPart3
import Derived.Deep.LoopGhost
import Derived.Deep.RegionWith
import Derived.Laws.Externs
import Derived.Laws.Cover2
import Derived.Test.YtkkpppgfoilgmaaGreatDoorPart1
set_option maxRecDepth 100000
set_option maxHeartbeats 8000000
set_option linter.unusedVariables false
set_option linter.unusedSimpArgs false
namespace Go.Proofs.YtkkpppgfoilgmaaGreatDoor
open Go Go.Proofs.Tryz Go.RowKit Go.Proofs.YtkkpppgfoilgmaaGreatDoor.M
theorem i9 {x:Int} (h:0<x):aC x=aC (x/2)+1:=by
 obtain⟨h1,h2⟩:=fK h
 have h3:=gE x
 obtain⟨k,hk⟩:∃ k,aC x=k+1:=⟨aC x-1,by omega⟩
 rw[hk] at h2 h3 ⊢
 rw[Nat.add_sub_cancel] at h2
 rw[Int.pow_succ] at h3
 cases k with
 | zero=>
  have:x=1:=by simp at h3 h2;omega
  subst this;decide
 | succ j=>
  rw[Int.pow_succ] at h2
  have e1:(2:Int)^j<=x/2:=by omega
  have e2:x/2<2^(j+1):=by omega
  rw[jy e1 e2]
theorem uo (V:Int) (w:World) (h0:0<=V) (h1:V<9223372036854775808) :
    Calls prog 81 #[.int .i64 V] w fun e w'=>∃ v,e=.returned v∧bO w w' V v:=by
  have HM:Hid (V<9223372036854775808):=h1
  clear h1
  go_enter func81,ntmps81
  go_wp2
  go_loopw [0,3] (fun i v wr=>∃ (x:Int) (k:Nat) (r:Nat->Int),i=.int .i64 x∧0<=x∧k<=3∧aV w.heap.size wr v k r∧aO r k∧Hid (x*P k<=V)∧Hid (x=0->kF r k)∧Hid (val r k+x*P k=V)∧Below w.heap.size w wr) (fun i _ _=>(intOf i).toNat)
  case atStart=>exact⟨V,0,fun _=>0,rfl,h0,by omega,aV.nil _ _ _,fun i hi=>by omega,by show _<=_;show V*1<=V;omega,fun _=>.inl rfl,by show _=_;show 0+V*1=V;omega,aq _⟩
  case round=>
    obtain⟨x,k,r,rfl,hx,hk3,hO,hD,HB,HT,HV,hbw⟩:=hrel
    by_cases hp:0<x
    · have hk2:k<=2:=by
        by_cases e:k=3
        · subst e
          have a:=HB.out
          have b:=HM.out
          have c:P 3=1073741824*1073741824*1073741824:=by decide
          have d:1*P 3<=x*P 3:=Int.mul_le_mul_of_nonneg_right (by omega) (Int.le_of_lt (bp 3))
          omega
        · omega
      have hx2:x<=9223372036854775807:=by
        have a:=HB.out
        have b:=HM.out
        have c:x*1<=x*P k:=Int.mul_le_mul_of_nonneg_left (by have:=bp k;omega) (by omega)
        omega
      go_wp2_with (at_builtin;refine bU rfl _ _ rfl w.heap.size _ k r rfl (hO.stays (ae _ _)) _ 1 1 (fun _=>x % 1073741824) rfl (gf _ _ rfl) (by omega) (by have:=hbw.size;simp;omega) ?_;intro v' w1 hO1 hg1)
      have hb1:Below w.heap.size w w1:=(hbw.alloc hbw.size _).grown hg1 (by have:=hbw.size;simp;omega) (c7 hO)
      have hs:=cM (c:=0) (x:=x) (show val r k+0*P k=val r k by omega)
      rw[Int.zero_add] at hs
      go_roundw
      case rel=>exact ⟨x/1073741824,k+1,bK r k (x % 1073741824),rfl,by omega,by omega,hO1.congr (c6 r k _),c8 hD (fk _),by
          show _<=_
          have a:=HB.out
          rw[eD,show x/1073741824*(P k*1073741824)=(x/1073741824*1073741824)*P k by grind]
          have b:(x/1073741824*1073741824)*P k<=x*P k:=Int.mul_le_mul_of_nonneg_right (by omega) (Int.le_of_lt (bp k))
          omega,fun e=>.inr (by rw [Nat.add_sub_cancel,a6]; omega),by show _=_; rw [hs]; exact HV.out,hb1⟩
      case measure=>simp[intOf];omega
    · obtain rfl:x=0:=by omega
      go_wp2
      go_ret
      exact⟨_,rfl,k,r,hO,⟨hD,HT.out (by first|rfl|trivial)⟩,by have:=HV.out;omega,hbw⟩
theorem n7 (ao:Option Addr) (n cap:Nat) (d:Nat->Int) (w:World) (h:aG w ao n cap d) (hd:bt d n) (hn:n<=1000000) :
  Calls prog 136 #[.slice ao n cap] w fun e w'=>e=.returned (.int .i64 (aC (val d n)))∧w'=w:=by
 have hl:=h.le
 have hm:=h.max
 by_cases h0:n=0
 ·subst h0
  go_enter func136,ntmps136
  go_wp2
  go_ret
  exact⟨rfl,rfl⟩
 ·obtain⟨k,rfl⟩:∃ k,n=k+1:=⟨n-1,by omega⟩
  obtain⟨b,off,rfl,hb,hc⟩:=h.spot (by omega)
  have c:=hc k (by omega)
  have dk:=hd.1 k (by omega)
  have HV:Hid (aC (val d (k+1))=30*k+aC (d k)):=l9 hd
  have hbl:aC (d k)<=30:=cw (by show d k<1073741824;exact dk.2)
  go_enter func136,ntmps136
  go_wp2
  go_loop [3,4] (fun s v=>∃ (x:Int) (t:Nat),s=.int .i64 t∧v=.int .i64 x∧0<=x∧x<1073741824∧t<=30*k+30∧Hid (t+aC x=30*k+aC (d k))) (fun _ v=>(intOf v).toNat)
  case atStart=>exact⟨d k,30*k,by go_num,rfl,dk.1,dk.2,by omega,rfl⟩
  case round=>
   obtain⟨x,t,rfl,rfl,hx0,hx1,ht,HT⟩:=hrel
   by_cases hp:0<x
   ·have ht2:t+1<=30*k+30:=by have:=HT.out;have:=i9 hp;omega
    go_wp2
    go_round
    case rel=>exact⟨x/2,t+1,by go_num,rfl,by omega,by omega,ht2,by show _=_;have:=HT.out;have:=i9 hp;omega⟩
    case measure=>simp[intOf];omega
   ·obtain rfl:x=0:=by omega
    go_wp2
    go_ret
    exact⟨bS (by have:=HT.out;rw[kR] at this;rw[HV.out];omega),rfl⟩
theorem wc (ao:Option Addr) (n cap:Nat) (d:Nat->Int) (w:World) (h:aG w ao n cap d) (hd:bt d n) (hn:n<=100000) (i:Nat) (hi:i<=4000000) :
    Calls prog 137 #[.slice ao n cap,.int .i64 i] w fun e w'=>e=.returned (.bool (jV (val d n) i))∧w'=w:=by
  have hl:=h.le
  have hm:=h.max
  obtain⟨q,p,hq,hp⟩:∃ q p:Nat,i=30*q+p∧p<30:=⟨i/30,i % 30,by omega,by omega⟩
  have e1:(i:Int)/30=q:=by omega
  have e2:(i:Int) % 30=p:=by omega
  by_cases hqn:q<n
  · have HV:Hid (jV (val d n) i=(d q/2^p % 2 == 1)):=by unfold jV;show _=_;rw[hq,yo hd.1 hqn hp]
    clear hq
    obtain⟨b,off,rfl,hb,hc⟩:=h.spot (by omega)
    have c:=hc q hqn
    have dq:=hd.1 q hqn
    have hd0:0<=d q/2^p:=Int.ediv_nonneg dq.1 (Int.le_of_lt (aF p))
    go_enter func137,ntmps137
    go_wp2
    go_ret
    exact⟨a7 HV.out.symm,rfl⟩
  · have HV:Hid (jV (val d n) i=false):=v6 (aJ hd.1) (by
      refine Nat.le_trans (cw (k:=30*n) (by rw [<- cr]; exact bz hd.1)) (by omega))
    clear hq
    go_enter func137,ntmps137
    go_wp2
    go_ret
    exact⟨a7 HV.out.symm,rfl⟩
theorem we {d:Nat->Int} {n m:Nat} (h:aO d n) (hm:m<=n):val d m<=val d n:=by
 have e:=cA d m (n-m)
 rw[show m+(n-m)=n by omega] at e
 have a:=aJ (show aO (fun i=>d (m+i)) (n-m) from fun i hi=>h (m+i) (by omega))
 have:=Int.mul_nonneg (Int.le_of_lt (bp m)) a
 omega
theorem uq (ao:Option Addr) (n cap:Nat) (d:Nat->Int) (w:World) (h:aG w ao n cap d) (hd:aO d n) (hn:n<=3) (hv:val d n<9223372036854775808) :
  Calls prog 117 #[.slice ao n cap] w fun e w'=>e=.returned (.int .i64 (val d n))∧w'=w:=by
 have hl:=h.le
 have hm:=h.max
 have HV:Hid (val d n<9223372036854775808):=hv
 clear hv
 go_enter func117,ntmps117
 go_wp2
 go_loop [3,7] (fun v i=>∃ k:Nat,k<=n∧i=.int .i64 k∧v=.int .i64 (val d k)) (fun _ i=>n-(intOf i).toNat)
 case atStart=>exact⟨0,Nat.zero_le _,rfl,rfl⟩
 case round=>
  obtain⟨k,hk,rfl,rfl⟩:=hrel
  by_cases hlt:k<n
  ·obtain⟨b,off,rfl,hb,hc⟩:=h.spot (by omega)
   have c:=hc k hlt
   have dk:=hd k hlt
   have v0:=aJ (hd.le (show k<=n by omega))
   have v1:=bz (hd.le (show k<=n by omega))
   have m1:=we hd (show k+1<=n by omega)
   have hv2:=HV.out
   rw[cr] at v1
   have e1:val d (k+1)=val d k+d k*2^(30*k):=by rw[aI,cr]
   have m0:0<=d k*2^(30*k):=Int.mul_nonneg dk.1 (Int.le_of_lt (aF _))
   have hw:wrap64 (d k*2^(30*k))=d k*2^(30*k):=IntWalk.wrap64_in _ ⟨by omega,by omega⟩
   have hor:bits .or .i64 (val d k) (d k*2^(30*k))=val d (k+1):=(o9 _ _ _ v0 v1 dk.1 (by omega)).trans e1.symm
   clear e1 m0 m1 hv2 v0 v1
   go_wp2
   go_round
   case rel=>exact⟨k+1,by omega,by go_num,rfl⟩
   case measure=>simp[intOf];omega
  ·obtain rfl:k=n:=by omega
   go_wp2
   go_ret
   exact⟨rfl,rfl⟩
structure jX (w:World):Prop where
 a0:w.cell? ⟨0,0,none⟩=some (.int .i64 52)
 a1:w.cell? ⟨0,1,none⟩=some (.int .i64 2047)
 a2:w.cell? ⟨0,2,none⟩=some (.int .i64 (-1074))
theorem jX.keeps {w w':World} (h:jX w) (hb:Below w.heap.size w w'):jX w':=⟨az h.a0 hb,az h.a1 hb,az h.a2 hb⟩
theorem jY (b:Int) (w:World) (L:jX w) :
  Calls prog 45 #[.int .i64 b] w fun e w'=>e=.returned (.tuple #[.bool (cl b),.int .i64 (bl b),.int .i64 (bJ b),.bool (aB b)])∧Below w.heap.size w w':=by
 obtain⟨a0,a1,a2⟩:=L
 by_cases h:aB b=true
 all_goals
  go_enter func45,ntmps45
  go_wp2_with (go_at_call 67;refine(yh _ _).mono ?_;rintro e w1 ⟨rfl,hg⟩)
  refine bodyPost_ret (v:=.tuple #[.bool (cl b),.int .i64 (bl b),.int .i64 (bJ b),.bool (aB b)]) (by simp[results,results45,go_sem,cl,h]) rfl ⟨rfl,hg.be⟩
theorem gH {b:Int} (hp:aB b=true):0<=bl b∧bl b<9007199254740992∧-1074<=bJ b∧bJ b<=971:=by
 have hf:=iM b
 have hr:=gU b
 have h1:bk b≠2047:=by simpa [aB] using hp
 unfold bl bJ
 rw[if_neg h1,if_neg h1]
 split<;>omega
theorem ur (x:Int) (w:World) (h0:0<=x) (h1:x<9223372036854775808) :
  Calls prog 156 #[.int .i64 x] w fun e w'=>∃ v,e=.returned (.tuple #[v,.int .i64 0])∧bO w w' x v:=by
 have HX:=s8 x w h0 h1
 have HX':Hid (Calls prog 159 #[.int .i64 x] w fun e w'=>∃ v,e=.returned v∧bO w w' x v):=HX
 clear HX h1
 go_enter func156,ntmps156
 go_wp2_with fail
 refine HX'.out.mono ?_
 rintro e w2 ⟨v,rfl,hA⟩
 go_wp2
 go_ret2
 exact⟨_,rfl,hA⟩
theorem te:9223372036854775808<P 2000:=by
 have:=fJ (show 3<=2000 by omega)
 have e:P 3=1237940039285380274899124224:=rfl
 omega
theorem n8 {ng:Bool} {M e:Int} (h0:0<=M) (h1:M<9223372036854775808) (e0:-1074<=e) (e1:e<=971):b7 (sg ng M*pw e):=by
 by_cases hz:M=0
 ·rw[hz,dN,Int.zero_mul];exact l5
 ·obtain⟨l,hl⟩:=gF (show 0<M by omega)
  have hy:=Dy.of ng hl (show 0<M by omega) (show -4194304<=e by omega)
  obtain⟨c1,c2,c3⟩:=dW hl (show 0<M by omega)
  have hp:=aF l
  have hl63:l<63:=by
   have h3:(1:Int)*2^l<=M/2^l*2^l:=Int.mul_le_mul_of_nonneg_right (by omega) (by omega)
   rw[c3] at h3
   refine dt ?_
   rw[show(2:Int)^63=9223372036854775808 by decide]
   omega
  refine hy.ok.2 ⟨?_,by omega,by omega⟩
  have:M/2^l<=M:=Int.ediv_le_self _ h0
  have:=te
  omega
theorem us (ng:Bool) (M e:Int) (w:World) (hT:eF w) (h0:0<=M) (h1:M<9223372036854775808) (e0:-1074<=e) (e1:e<=971) :
  Calls prog 148 #[.bool ng,.int .i64 M,.int .i64 e,.bool true] w fun r w'=>∃ v,r=.returned (.tuple #[v,.int .i64 0])∧aZ w w' (sg ng M*pw e) v:=by
 have hok:=n8 (ng:=ng) h0 h1 e0 e1
 go_enter func148,ntmps148
 go_wp2_with fail
 refine(ur M _ h0 h1).mono ?_
 rintro r w1 ⟨v,rfl,hA⟩
 obtain⟨so,sn,sc,d,rfl,hR,hN,hv⟩:=hA.num
 have hsn:sn<=100:=hA.num.len (k:=100) (by have:=fJ (show 3<=100 by omega);have:P 3=1237940039285380274899124224:=rfl;omega)
 have hbw:=aa (ae w _) hA.below
 go_wp2_with fail
 refine(mE (V:=sg ng M*pw e) hR hN.1 (by omega) (hT.keeps hbw) (by omega) (by rw[hv])).mono ?_
 rintro r w7 (⟨_,v,rfl,hD⟩|⟨hno,_⟩)
 ·have hb7:=hD.below
  obtain⟨ng',s',m',e',rfl,hyy,hA2⟩:=id hD
  obtain⟨so',sn',sc',rfl⟩:=hA2.num.shape
  have q0:=((aa hA.below hb7).block w.heap.size (by rw[fG];omega)).trans (a9 _ _)
  have x0:=ab q0 0 rfl
  have x1:=ab q0 1 rfl
  have x2:=ab q0 2 rfl
  have z0:=ak q0 0
  have z1:=ak q0 1
  have z2:=ak q0 2
  go_wp2
  refine bodyPost_ret (v:=.tuple #[.agg #[.bool ng',.slice so' sn' sc',.int .i64 e'],.int .i64 0]) (by simp[results,results148,go_sem,x0,x1,x2]) rfl ⟨_,rfl,?_⟩
  exact b8 (g:=w.heap.size) hD hbw (Nat.le_refl _) (Nat.lt_of_lt_of_le (by rw[fG];omega) hA.below.size) _ _ _
 ·exact absurd hok hno
theorem wg (ng:Bool) (M e:Int) (w:World) :
  Calls prog 148 #[.bool ng,.int .i64 M,.int .i64 e,.bool false] w fun r w'=>r=.returned (.tuple #[de,.int .i64 10])∧Below w.heap.size w w':=by
 go_enter func148,ntmps148
 go_wp2
 refine bodyPost_ret (v:=.tuple #[de,.int .i64 10]) (by simp[results,results148,go_sem,de]) rfl ⟨rfl,?_⟩
 exact ae _ _
theorem rN (b:Int) (w:World) (L:jX w) (hT:eF w) :
  Calls prog 140 #[.int .i64 b] w fun r w'=>∃ v er,r=.returned (.tuple #[v,.int .i64 er])∧Below w.heap.size w w'∧((aB b=true∧er=0∧aZ w w' (sg (cl b) (bl b)*pw (bJ b)) v)∨(aB b=false∧er=10∧v=de)):=by
 have hVy:aB b=true->∀ W,Below w.heap.size w W->Calls prog 148 #[.bool (cl b),.int .i64 (bl b),.int .i64 (bJ b),.bool true] W fun r w'=>∃ v,r=.returned (.tuple #[v,.int .i64 0])∧aZ W w' (sg (cl b) (bl b)*pw (bJ b)) v:=fun hp W hb=>by
  have hi:=gH hp
  exact us _ _ _ W (hT.keeps hb) (by omega) (by omega) (by omega) (by omega)
 have hP:=fun W hb=>jY b W (L.keeps hb)
 generalize sg (cl b) (bl b)*pw (bJ b)=V at hVy ⊢
 generalize cl b=ng at *
 generalize bl b=mg at *
 generalize bJ b=ex at *
 clear L hT
 cases hp:aB b
 ·rw[hp] at hP hVy
  go_enter func140,ntmps140
  go_wp2_with fail
  refine(hP _ (ae _ _)).mono ?_
  rintro r w1 ⟨rfl,hb1⟩
  go_wp2_with fail
  refine(wg _ _ _ _).mono ?_
  unfold de
  rintro r w2 ⟨rfl,hb2⟩
  have hbw:=aa (ae w (.cells #[.bool false,.slice none 0 0,.int .i64 0] 26)) (aa hb1 hb2)
  have q0:=((aa hb1 hb2).block w.heap.size (by rw[fG];omega)).trans (a9 _ _)
  have x0:=ab q0 0 rfl
  have x1:=ab q0 1 rfl
  have x2:=ab q0 2 rfl
  have z0:=ak q0 0
  have z1:=ak q0 1
  have z2:=ak q0 2
  go_wp2
  refine bodyPost_ret (v:=.tuple #[de,.int .i64 10]) (by simp[results,results140,go_sem,x0,x1,x2,de]) rfl ⟨_,_,rfl,?_,.inr ⟨by trivial,rfl,rfl⟩⟩
  exact me hbw (Nat.le_refl _) _ _ _
 ·rw[hp] at hP hVy
  go_enter func140,ntmps140
  go_wp2_with fail
  refine(hP _ (ae _ _)).mono ?_
  rintro r w1 ⟨rfl,hb1⟩
  have hbw:=aa (ae w (.cells #[.bool false,.slice none 0 0,.int .i64 0] 26)) hb1
  go_wp2_with fail
  refine(hVy (by trivial) _ hbw).mono ?_
  rintro r w2 ⟨v,rfl,hD⟩
  obtain⟨ng',s',m',e',rfl,hyy,hA2⟩:=id hD
  obtain⟨so',sn',sc',rfl⟩:=hA2.num.shape
  have q0:=((aa hb1 hD.below).block w.heap.size (by rw[fG];omega)).trans (a9 _ _)
  have x0:=ab q0 0 rfl
  have x1:=ab q0 1 rfl
  have x2:=ab q0 2 rfl
  have z0:=ak q0 0
  have z1:=ak q0 1
  have z2:=ak q0 2
  go_wp2
  refine bodyPost_ret (v:=.tuple #[.agg #[.bool ng',.slice so' sn' sc',.int .i64 e'],.int .i64 0]) (by simp[results,results140,go_sem,x0,x1,x2]) rfl ⟨_,_,rfl,?_,.inl ⟨by trivial,rfl,?_⟩⟩
  ·exact me (aa hbw hD.below) (Nat.le_refl _) _ _ _
  ·exact b8 (g:=w.heap.size) hD hbw (Nat.le_refl _) (Nat.lt_of_lt_of_le (by rw[fG];omega) hb1.size) _ _ _
def ce (way:Int) (ng:Bool):Int:=if aW way ng true 3 then 9218868437227405312 else 9218868437227405311
def aw (ng:Bool) (r:Int):Int:=if ng then r-9223372036854775808 else r
theorem Ao:bits BinOp.or IntKind.i64 9218868437227405312 (-9223372036854775808)=-4503599627370496:=by decide +kernel
theorem yp:bits BinOp.or IntKind.i64 9218868437227405311 (-9223372036854775808)=-4503599627370497:=by decide +kernel
theorem kH.keeps {w w':World} (h:kH w) (hb:Below w.heap.size w w'):kH w' :=
 ⟨⟨az h.lays.a0 hb,az h.lays.a1 hb,az h.lays.a2 hb,trivial,trivial,trivial⟩,fun j hj=>az (h.tab j hj) hb⟩
theorem tf (way:Int) (hw:0<=way∧way<=3) (ng:Bool) (w:World) :
  Calls prog 92 #[eP way,.bool ng,.int .i64 9218868437227405312,.int .i64 (-9223372036854775808)] w fun e w'=>e=.returned (.int .i64 (aw ng (ce way ng)))∧Below w.heap.size w w':=by
 have hF:=mB way hw
 have hE:=kP way
 unfold eP ce
 generalize eO way=F at hF hE ⊢
 have q0:=heap_alloc_new w (.cells #[.func (.func F) #[] #[]] 124)
 have k0:=ab q0 0 rfl
 have o1:=Ao
 have o2:=yp
 obtain⟨R,hR⟩:∃ R,aW way ng true 3=R:=⟨_,rfl⟩
 have hFF:=hF ng true 3
 rw[hR] at hFF ⊢
 clear hR hF
 cases ng<;>cases R
 all_goals
  unfold aw
  go_enter func92,ntmps92
  go_wp2_with (first|(refine(hFF _).mono ?_;rintro _ _ ⟨rfl,rfl⟩))
  all_goals go_ret
  all_goals exact⟨by simp,ae _ _⟩
def fS (way:Int) (ng sd:Bool) (mag:Nat) (exp:Int) (cut:Bool):Int × Bool :=
 let E:=rE 53 (-1074) mag exp
 let u:=rU mag (E-exp)
 let left:=rL mag cut (E-exp)
 let U:=u+(if aW way ng (decide (u % 2=1)) left then 1 else 0)
 let neg:=ng&&(decide (0<U)||sd)
 if jk 52 2047 (-1074) U E then (jp neg U E,decide (left≠0)) else (aw neg (ce way neg),true)
theorem kU (way:Int) (hw:0<=way∧way<=3) (ng sd:Bool) (mag:Nat) (exp:Int) (cut:Bool) (w:World) (Ev:kH w) (hm:mag<18446744073709551616) (he:-4500000<=exp∧exp<=4500000) :
    Calls prog 70 #[cv ng mag exp cut sd,eP way] w fun e w'=>e=.returned (.tuple #[.int .i64 (fS way ng sd mag exp cut).1,.bool (fS way ng sd mag exp cut).2])∧Below w.heap.size w w':=by
  have e64:(2:Nat)^64=18446744073709551616:=by decide
  have e53:(2:Nat)^(53:Int).toNat=9007199254740992:=by decide
  have hE:-5000000<=rE 53 (-1074) mag exp∧rE 53 (-1074) mag exp<=5000000:=by
    have hbl:Lib.bitLen mag<=64:=by
      by_cases h0:mag=0
      · rw[h0];decide
      · exact(M.dE mag (by omega) h0).2.2.2
    unfold rE
    omega
  have hu:rU mag (rE 53 (-1074) mag exp-exp)<=9007199254740991:=by
    by_cases h0:mag=0
    · rw[h0];unfold rU;split<;>simp
    · have:=(rA (size:=53) (low:=-1074) (exp:=exp) (by decide) (by omega) h0).1
      rw[e53] at this
      omega
  have hUn:=fun W=>t7 way hw ng mag exp (rE 53 (-1074) mag exp) cut sd W hm hE (by omega) (by omega)
  have HR:fS way ng sd mag exp cut=(let E:=rE 53 (-1074) mag exp
    let u:=rU mag (E-exp)
    let left:=rL mag cut (E-exp)
    let U:=u+(if aW way ng (decide (u % 2=1)) left then 1 else 0)
    let neg:=ng&&(decide (0<U)||sd)
    if jk 52 2047 (-1074) U E then (jp neg U E,decide (left≠0)) else (aw neg (ce way neg),true)):=rfl
  simp only at HR
  have hEE:rE 53 (-1074) mag exp=rE 53 (-1074) mag exp:=rfl
  obtain⟨E,hEq⟩:∃ E,rE 53 (-1074) mag exp=E:=⟨_,rfl⟩
  rw[hEq] at hE hu hUn HR
  obtain⟨left,hleft⟩:∃ l,rL mag cut (E-exp)=l:=⟨_,rfl⟩
  rw[hleft] at hUn HR
  obtain⟨U,hU⟩:∃ U,rU mag (E-exp)+(if aW way ng (decide (rU mag (E-exp) % 2=1)) left then 1 else 0)=U:=⟨_,rfl⟩
  rw[hU] at hUn HR
  have hU2:U<=9007199254740992:=by rw[<- hU];split<;>omega
  obtain⟨neg,hneg⟩:∃ n,(ng&&(decide (0<U)||sd))=n:=⟨_,rfl⟩
  have hFl:=fun W=>yi (eO way) ng mag exp 53 (-1074) cut sd U E (decide (left≠0)) W hm he (by omega) (by omega) hEq (by omega) hUn
  rw[hneg] at hFl HR
  have hJ:=fun W (EW:kH W)=>vV neg (U:Int) E W EW (by unfold au;omega) (by unfold au;omega)
  have hB:=fun W=>tf way hw neg W
  obtain⟨other,hoth⟩:∃ o,decide (left≠0)=o:=⟨_,rfl⟩
  rw[hoth] at hFl HR
  obtain⟨fin,hfin⟩:∃ f,jk 52 2047 (-1074) (U:Int) E=f:=⟨_,rfl⟩
  obtain⟨pt,hpt⟩:∃ p,jp neg (U:Int) E=p:=⟨_,rfl⟩
  rw[hpt] at hJ HR
  rw[hfin] at hJ HR
  obtain⟨by1,hby⟩:∃ b,aw neg (ce way neg)=b:=⟨_,rfl⟩
  rw[hby] at hB HR
  rw[HR]
  have hUi:((U:Nat):Int)=((U:Nat):Int):=rfl
  have hb2:=ax w (.cells #[.bool ng,.int .u64 mag,.int .i64 exp,.bool cut,.bool sd] 104) (.cells #[.func (.func (eO way)) #[] #[]] 124)
  have q1:=bh w (.cells #[.bool ng,.int .u64 mag,.int .i64 exp,.bool cut,.bool sd] 104) (.cells #[.func (.func (eO way)) #[] #[]] 124)
  have k1:=ab q1 0 rfl
  have HEV:Hid (kH w):=Ev
  clear Ev HR hUn hEq hleft hU hneg hoth hfin hpt hby hU2 hu hE hEE hUi e64 e53
  unfold eP cv at *
  generalize eO way=F at *
  go_enter func70,ntmps70
  go_wp2_with fail
  refine(hFl _).mono ?_
  rintro _ w1 ⟨rfl,hb1⟩
  have hbw:=aa hb2 hb1
  have p1:=(hb1.block _ (aGe q1).1).trans q1
  have k2:=ab p1 0 rfl
  clear hFl hb2 hb1 q1 k1
  go_wp2_with fail
  refine(hJ _ (HEV.out.keeps hbw)).mono ?_
  rintro _ w2 ⟨rfl,hg⟩
  have hb2:=hg.be
  have hbw2:=aa hbw hb2
  have p2:=(hb2.block _ (aGe p1).1).trans p1
  have k3:=ab p2 0 rfl
  clear hJ hg p1 p2 k2 hb2 hbw
  cases fin
  · go_wp2_with fail
    refine(hB _).mono ?_
    rintro _ w3 ⟨rfl,hb3⟩
    go_wp2
    all_goals go_ret2
    all_goals exact⟨by simp,aa hbw2 hb3⟩
  · go_wp2
    all_goals go_ret2
    all_goals exact⟨by simp,hbw2⟩
theorem aT.parts {w:World} {v:Value} {V:Int} (h:aT w v V) {k:Nat} (hV:V<P k):∃ ao n cap d,v=.slice ao n cap∧aG w ao n cap d∧bt d n∧val d n=V∧n<=k:=by
 obtain⟨ao,n,cap,rfl⟩:=h.shape
 have hl:=h.len hV
 obtain⟨ao',n',cap',d,e,hR,h2,h3⟩:=h
 simp only[Value.slice.injEq] at e
 obtain⟨rfl,rfl,rfl⟩:=e
 exact⟨ao,n,cap,d,rfl,hR,h2,h3,hl⟩
theorem yq {V l:Int} (h:jT V l) (h0:0<V) (k:Nat):decide (l<(k:Int))=decide (V % 2^k≠0):=by
 obtain⟨j,rfl,q,hq⟩:=mc h h0
 by_cases hjk:j<k
 ·rw[decide_eq_true (by omega)]
  refine(decide_eq_true ?_).symm
  intro hz
  obtain⟨d,hd⟩:∃ d,k=j+1+d:=⟨k-j-1,by omega⟩
  have h1:(2:Int)^k ∣ V:=Int.dvd_of_emod_eq_zero hz
  obtain⟨c,hc⟩:=h1
  rw[hq,hd,Int.pow_add,Int.pow_succ] at hc
  have hp:=aF j
  have e:(2:Int)^j*(2*q+1)=2^j*(2*(2^d*c)):=by
   rw[Int.mul_comm,hc]
   simp only[Int.mul_assoc]
  have:=Int.eq_of_mul_eq_mul_left (by omega) e
  omega
 ·rw[decide_eq_false (by omega)]
  refine(decide_eq_false ?_).symm
  intro hz
  apply hz
  obtain⟨d,hd⟩:∃ d,j=k+d:=⟨j-k,by omega⟩
  rw[hq,hd,Int.pow_add,Int.mul_comm,Int.mul_assoc]
  exact Int.mul_emod_right _ _
theorem tg (ao:Option Addr) (n ca:Nat) (a:Nat->Int) (k:Nat) (w:World) (ha:aG w ao n ca a) (na:bt a n) (hn:n<=5000) (hk0:0<k) (hk:k<=1000000) (h0:0<val a n) (hT:eF w) :
  Calls prog 116 #[.slice ao n ca,.int .i64 (-(k:Int))] w fun e w'=>∃ v,e=.returned (.tuple #[v,.bool (decide (val a n % 2^k≠0))])∧bO w w' (val a n/2^k) v:=by
 have CL:Hid (∀ W,Below w.heap.size w W->_):=fun W hb=>nX ao n ca k a W (ha.keeps hb) na.1 (by omega) (by omega)
 have CW:Hid (∀ W,Below w.heap.size w W->_):=fun W hb=>jU ao n ca a W (ha.keeps hb) na.1 (by omega) (hT.keeps hb)
 have HM:Hid (∀ l,jT (val a n) l->decide (l<(k:Int))=decide (val a n % 2^k≠0)):=fun l h=>yq h h0 k
 generalize decide (val a n % 2^k≠0)=R at HM ⊢
 generalize val a n/2^k=Q at CL ⊢
 have w1:IntKind.i64.wrap (k:Int)=(k:Int):=by rw[aR];omega
 go_enter func116,ntmps116
 go_wp2_with fail
 refine(CL.out _ (aq _)).mono ?_
 rintro _ w2 ⟨v,rfl,hA⟩
 have hb2:=hA.below
 have HA:Hid (bO w w2 Q v):=hA
 obtain⟨so,sn,sc,rfl⟩:=hA.num.shape
 clear hA CL
 go_wp2_with fail
 refine(CW.out _ hb2).mono ?_
 rintro _ w3 ⟨l,rfl,hl,rfl⟩
 have hr:=HM.out l hl
 go_wp2
 all_goals refine bodyPost_ret (v:=.tuple #[.slice so sn sc,.bool R]) (by simp[results,results116,go_sem]) rfl ⟨_,rfl,HA.out⟩
theorem qU (ao:Option Addr) (n ca:Nat) (a:Nat->Int) (w:World) (ha:aG w ao n ca a) (na:bt a n) (hn:n<=5000) :
  Calls prog 116 #[.slice ao n ca,.int .i64 0] w fun e w'=>∃ v,e=.returned (.tuple #[v,.bool false])∧bO w w' (val a n) v:=by
 have CR:Hid (Calls prog 133 #[.slice ao n ca,.int .i64 0] w fun e w'=>∃ v,e=.returned v∧bO w w' (val a n) v):=by
  have h:=ud ao n ca 0 a w ha na.1 (by omega) (by omega)
  rw[Int.pow_zero,Int.mul_one] at h
  exact h
 go_enter func116,ntmps116
 go_wp2_with fail
 refine CR.out.mono ?_
 rintro _ w2 ⟨v,rfl,hA⟩
 have HA:Hid (bO w w2 (val a n) v):=hA
 obtain⟨so,sn,sc,rfl⟩:=hA.num.shape
 clear hA CR
 go_wp2
 all_goals refine bodyPost_ret (v:=.tuple #[.slice so sn sc,.bool false]) (by simp[results,results116,go_sem]) rfl ⟨_,rfl,HA.out⟩
theorem xE (W:World) (g:Nat) (a b c d e:Value):Wr g W (((((W.setCell ⟨g,0,none⟩ a).setCell ⟨g,1,none⟩ b).setCell ⟨g,2,none⟩ c).setCell ⟨g,3,none⟩ d).setCell ⟨g,4,none⟩ e):=(((((Wr.refl g W).setCell 0 a).setCell 1 b).setCell 2 c).setCell 3 d).setCell 4 e
def vK (M:Int):Nat:=aC M-62
theorem iR {M:Int} (h:0<=M):0<=M/2^vK M∧M/2^vK M<4611686018427387904:=by
 have hp:=aF (vK M)
 refine⟨Int.ediv_nonneg h (by omega),?_⟩
 have h1:=gE M
 have h2:(2:Int)^aC M<=2^(62+vK M):=cc (by unfold vK;omega)
 have e:(2:Int)^(62+vK M)=4611686018427387904*2^vK M:=by rw[Int.pow_add];rfl
 exact Int.ediv_lt_of_lt_mul hp (by omega)
theorem pK {a:Nat->Int} {n:Nat} (na:bt a n):aC (val a n)<=30*n:=by
 cases n with
 | zero=>show aC 0<=_;rw[kR];omega
 | succ m=>
  rw[l9 na]
  have h:aC (a m)<=30:=cw (by show a m<1073741824;exact(na.1 m (by omega)).2)
  omega
theorem lP (ng:Bool) (ao:Option Addr) (n ca:Nat) (a:Nat->Int) (e:Int) (w:World) (ha:aG w ao n ca a) (na:bt a n) (hn:n<=5000) (he:-1100000<=e∧e<=1100000) (hT:eF w) :
  Calls prog 93 #[.agg #[.bool ng,.slice ao n ca,.int .i64 e]] w fun r w'=>r=.returned (cv ng (val a n/2^vK (val a n)).toNat (e+vK (val a n)) (decide (val a n % 2^vK (val a n)≠0)) false)∧Below w.heap.size w w':=by
 have hv0:=aJ na.1
 have hbl:aC (val a n)<=150000:=by have:=pK na;omega
 have CB:Hid (∀ W,Below w.heap.size w W->_):=fun W hb=>ik ao n ca a W (ha.keeps hb) na (by omega)
 obtain⟨k,hk⟩:∃ k,vK (val a n)=k:=⟨_,rfl⟩
 have hsm:=iR hv0
 rw[hk] at hsm ⊢
 have CS:Hid (∀ W,Below w.heap.size w W->Calls prog 116 #[.slice ao n ca,.int .i64 (-(k:Int))] W fun e w'=>∃ v,e=.returned (.tuple #[v,.bool (decide (val a n % 2^k≠0))])∧bO W w' (val a n/2^k) v):=fun W hb=>by
  by_cases h0:k=0
  ·subst h0
   have h:=qU ao n ca a W (ha.keeps hb) na hn
   simpa using h
  ·have hp:0<val a n:=by
    rcases Int.lt_or_eq_of_le hv0 with h|h
    ·exact h
    ·exfalso;rw[<- h] at hk;apply h0;rw[<- hk];decide
   exact tg ao n ca a k W (ha.keeps hb) na hn (by omega) (by unfold vK at hk;omega) hp (hT.keeps hb)
 have hbk:min (62-(aC (val a n):Int)) 0=-(k:Int):=by unfold vK at hk;omega
 obtain⟨B,hB⟩:∃ B:Int,(aC (val a n):Int)=B:=⟨_,rfl⟩
 have hB0:0<=B∧B<=150000:=by omega
 rw[hB] at CB hbk
 have hk2:k<=150000:=by unfold vK at hk;omega
 generalize decide (val a n % 2^k≠0)=R at CS ⊢
 obtain⟨Q,hQ⟩:∃ Q:Nat,val a n/2^k=(Q:Int):=Int.eq_ofNat_of_zero_le hsm.1
 rw[hQ] at CS hsm ⊢
 rw[Int.toNat_natCast]
 have CM:Hid (∀ (W':World) so sn sc,aT W' (.slice so sn sc) (Q:Int)->Calls prog 117 #[.slice so sn sc] W' fun e w'=>e=.returned (.int .i64 (Q:Int))∧w'=W'):=fun W' so sn sc hA=>by
  obtain⟨ao',n',ca',d',hs,hR,hN,hV,hl⟩:=hA.parts (k:=3) (by rw[show P 3=1237940039285380274899124224 by decide];omega)
  simp only[Value.slice.injEq] at hs
  obtain⟨rfl,rfl,rfl⟩:=hs
  rw[<- hV]
  exact uq _ _ _ _ _ hR hN.1 hl (by omega)
 have w1:IntKind.i64.wrap (62-B)=62-B:=by rw[aR];omega
 have w2:IntKind.i64.wrap (e+k)=e+k:=by rw[aR];omega
 have w3:IntKind.u64.wrap (Q:Int)=(Q:Int):=by rw[IntKind.wrap_u64];omega
 have hmin:∀ (ts:Array TypeId) (t:TypeId) (x y:Int) (w:World),(Builtin.min_ ts t #[.int .i64 x,.int .i64 y]).run prog w=.ok (.int .i64 (min x y)) w:=fun ts t x y w=>by rw[run_min_int2];congr 2;omega
 have q0:=bv w (.cells #[.bool ng,.slice ao n ca,.int .i64 e] 26) (.cells #[.bool false,.int .u64 0,.int .i64 0,.bool false,.bool false] 104)
 have q1:=bh w (.cells #[.bool ng,.slice ao n ca,.int .i64 e] 26) (.cells #[.bool false,.int .u64 0,.int .i64 0,.bool false,.bool false] 104)
 have hb1:=ax w (.cells #[.bool ng,.slice ao n ca,.int .i64 e] 26) (.cells #[.bool false,.int .u64 0,.int .i64 0,.bool false,.bool false] 104)
 clear hQ hk hB hbl hv0 hsm hT
 unfold cv
 go_enter func93,ntmps93
 go_wp2_with fail
 generalize (w.alloc (.cells #[.bool ng,.slice ao n ca,.int .i64 e] 26)).alloc (.cells #[.bool false,.int .u64 0,.int .i64 0,.bool false,.bool false] 104)=wx at q0 q1 hb1 ⊢
 refine(CB.out _ hb1).mono ?_
 rintro _ _ ⟨rfl,rfl⟩
 have k1:=ab q0 1 rfl
 go_wp2_with fail
 refine(CS.out _ hb1).mono ?_
 rintro _ w4 ⟨v,rfl,hA⟩
 have hb4:=hA.below
 obtain⟨so,sn,sc,rfl⟩:=hA.num.shape
 have CM1:Hid (Calls prog 117 #[.slice so sn sc] w4.drew fun e w'=>e=.returned (.int .i64 (Q:Int))∧w'=w4.drew):=CM.out w4.drew so sn sc (hA.num.keeps (aq w4).drew)
 have hbw:=aa hb1 hb4
 have p0:=(hb4.block _ (aGe q0).1).trans q0
 have p1:=(hb4.block _ (aGe q1).1).trans q1
 clear CB CS k1 hA CM
 have c0:=ab p0 0 rfl
 have c2:=ab p0 2 rfl
 have x0:=ab p1 0 rfl
 have x1:=ab p1 1 rfl
 have x2:=ab p1 2 rfl
 have x3:=ab p1 3 rfl
 have x4:=ab p1 4 rfl
 have z0:=ak p1 0
 have z1:=ak p1 1
 have z2:=ak p1 2
 have z3:=ak p1 3
 have z4:=ak p1 4
 go_wp2_with fail
 have c1:=ab p0 1 rfl
 go_region_with (go_at_call 117;refine CM1.out.mono ?_;rintro _ _ ⟨rfl,rfl⟩)
 all_goals go_wp2
 all_goals refine bodyPost_ret (v:=.agg #[.bool ng,.int .u64 Q,.int .i64 (e+k),.bool R,.bool false]) (by simp[results,results93,go_sem,x0,x1,x2,x3,x4]) rfl ⟨rfl,?_⟩
 all_goals exact((xE w4 (w.heap.size+1) _ _ _ _ _).below hbw hbw.size (Nat.le_succ _)).drew
theorem th (p:Nat) (off cap len:Nat) (ng:Bool) (ao:Option Addr) (n ca:Nat) (a:Nat->Int) (e:Int) (w:World) (c0:w.cell? ⟨p,off,none⟩=some (.bool ng)) (c1:w.cell? ⟨p,off+1,none⟩=some (.slice ao n ca)) (c2:w.cell? ⟨p,off+2,none⟩=some (.int .i64 e)) (hl:0<len) (ha:aG w ao n ca a) (na:bt a n) (hn:n<=5000) (he:-1100000<=e∧e<=1100000) (hT:eF w) :
  Calls prog 71 #[.slice (some ⟨p,off,none⟩) len cap] w fun r w'=>r=.returned (.tuple #[cv ng (val a n/2^vK (val a n)).toNat (e+vK (val a n)) (decide (val a n % 2^vK (val a n)≠0)) false,.int .i64 0])∧Below w.heap.size w w':=by
 have CV:Hid (∀ W,Below w.heap.size w W->_):=fun W hb=>lP ng ao n ca a e W (ha.keeps hb) na hn he (hT.keeps hb)
 unfold cv at *
 generalize (val a n/2^vK (val a n)).toNat=Q at CV ⊢
 generalize e+vK (val a n)=E at CV ⊢
 generalize decide (val a n % 2^vK (val a n)≠0)=R at CV ⊢
 have q0:=heap_alloc_new w (.cells #[.bool false,.int .u64 0,.int .i64 0,.bool false,.bool false] 104)
 have hb1:=ae w (.cells #[.bool false,.int .u64 0,.int .i64 0,.bool false,.bool false] 104)
 have d0:=az c0 hb1
 have d1:=az c1 hb1
 have d2:=az c2 hb1
 go_enter func71,ntmps71
 go_wp2_with fail
 refine(CV.out _ hb1).mono ?_
 rintro _ w2 ⟨rfl,hb2⟩
 have p1:=(hb2.block _ (aGe q0).1).trans q0
 have hbw:=aa hb1 hb2
 clear d0 d1 d2 c0 c1 c2 CV
 have x0:=ab p1 0 rfl
 have x1:=ab p1 1 rfl
 have x2:=ab p1 2 rfl
 have x3:=ab p1 3 rfl
 have x4:=ab p1 4 rfl
 have z0:=ak p1 0
 have z1:=ak p1 1
 have z2:=ak p1 2
 have z3:=ak p1 3
 have z4:=ak p1 4
 go_wp2
 all_goals refine bodyPost_ret (v:=.tuple #[.agg #[.bool ng,.int .u64 Q,.int .i64 E,.bool R,.bool false],.int .i64 0]) (by simp[results,results71,go_sem,x0,x1,x2,x3,x4]) rfl ⟨rfl,?_⟩
 all_goals exact(xE w2 w.heap.size _ _ _ _ _).below hbw hbw.size (Nat.le_refl _)
theorem ti (way:Int) (hw:0<=way∧way<=3) (F G:Nat) (lo:Option Addr) (ln lc:Nat) (r:Nat->aE) (w:World) (hl:eS w lo ln lc r) (ok:∀ i,i<ln->bV (r i)=true) (ng:Bool) (mag:Nat) (exp:Int) (cut sd:Bool) (b:Int) (o:Bool)
  (hEF:∀ (cap:Array Value) (w:World),(callFunc F cap).run prog w=.ok (.enter F cap) w) (hEG:∀ (cap:Array Value) (w:World),(callFunc G cap).run prog w=.ok (.enter G cap) w)
  (hG:∀ W,Below w.heap.size w W->Calls prog G #[.slice lo ln lc] W fun e w'=>e=.returned (.tuple #[cv ng mag exp cut sd,.int .i64 0])∧Below W.heap.size W w')
  (hF:∀ W,Below w.heap.size w W->Calls prog F #[cv ng mag exp cut sd,eP way] W fun e w'=>e=.returned (.tuple #[.int .i64 b,.bool o])∧Below W.heap.size W w') :
  Calls prog 69 #[.int .i64 way,.func (.func F) #[] #[],.func (.func G) #[] #[],.slice lo ln lc] w fun e w'=>e=.returned (.tuple #[.int .i64 b,.bool o,.int .i64 0])∧Below w.heap.size w w':=by
 have hst:∀ (p:Addr) (F:Nat) (m:Mode) (w:World),(store p (.func (.func F) #[] #[]) m).run prog w=stored prog w p (.func (.func F) #[] #[]) m:=fun p F m w=>run_store _ w p _ m rfl
 have hle:=hl.le
 have hma:=hl.max
 unfold cv eP at *
 have CW:=gY way w
 rw[if_pos hw,decide_eq_true hw] at CW
 unfold eP at CW
 generalize eO way=K at *
 go_enter func69,ntmps69
 go_wp2_with fail
 refine CW.mono ?_
 rintro _ w1 ⟨rfl,hb1⟩
 have q1:=heap_alloc_new w1 (.cells #[.nilFunc] 124)
 have y0:=ab q1 0 rfl
 have y1:=ak q1 0
 go_wp2_with fail
 have q2:=heap_alloc_new w1 (.cells #[.func (.func K) #[] #[]] 124)
 have hb2:=aa hb1 (ae w1 (.cells #[.func (.func K) #[] #[]] 124))
 generalize w1.alloc (.cells #[.func (.func K) #[] #[]] 124)=w2 at q2 hb2 ⊢
 clear q1 y0 y1 CW
 go_loopw [28] (fun iv wr=>∃ k:Nat,iv=.int .i64 k∧k<=ln∧Hid (wr.heap[w1.heap.size]?=some (.cells #[.func (.func K) #[] #[]] 124 (0,0)))∧Below w.heap.size w wr) (fun iv _=>ln-(intOf iv).toNat)
 case atStart=>exact⟨0,rfl,Nat.zero_le _,q2,hb2⟩
 case round=>
  clear q2 hb2
  obtain⟨k,rfl,hk,HQ,hbw⟩:=hrel
  by_cases hlt:k<ln
  ·obtain⟨ba,oa,rfl,hba,hca⟩:=hl.spot (by omega)
   obtain⟨c0,c1,c2,hR⟩:=(hca k hlt).keeps hbw hba
   have hok:=ok k hlt
   have CV:=fun W (hb:Below wr.heap.size wr W)=>iB (r k).ng (r k).ao (r k).n (r k).cap (r k).d (r k).e W (hR.keeps hb)
   unfold bV at hok
   rw[hok] at CV
   clear hok hR hca
   generalize r k=x at c0 c1 c2 CV
   obtain⟨x_g,x_o,x_n,x_c,x_d,x_e⟩:=x
   simp only at c0 c1 c2 CV
   have hb3:=ae wr (.cells #[.bool x_g,.slice x_o x_n x_c,.int .i64 x_e] 26)
   have HQ3:Hid ((wr.alloc (.cells #[.bool x_g,.slice x_o x_n x_c,.int .i64 x_e] 26)).heap[w1.heap.size]?=some (.cells #[.func (.func K) #[] #[]] 124 (0,0))):=(hb3.block _ (aGe HQ.out).1).trans HQ.out
   go_wp2_with fail
   refine(CV _ hb3).mono ?_
   rintro _ w4 ⟨rfl,hb4⟩
   have HQ4:Hid (w4.heap[w1.heap.size]?=some (.cells #[.func (.func K) #[] #[]] 124 (0,0))):=(hb4.block _ (aGe HQ3.out).1).trans HQ3.out
   have hbw4:=hbw.trans ((aa hb3 hb4).mono hbw.size)
   clear CV HQ3 hb3 hb4 c0 c1 c2
   go_wp2
   go_roundw
   case rel=>exact⟨k+1,by go_num,by omega,HQ4.out,hbw4⟩
   case measure=>simp[intOf];omega
  ·obtain rfl:k=ln:=by omega
   go_wp2_with fail
   refine(hG _ hbw).mono ?_
   rintro _ w4 ⟨rfl,hb4⟩
   have p4:=(hb4.block _ (aGe HQ.out).1).trans HQ.out
   have hbw4:=hbw.trans (hb4.mono hbw.size)
   have hb5:=ae w4 (.cells #[.bool ng,.int .u64 mag,.int .i64 exp,.bool cut,.bool sd] 104)
   have kw:=az (ab p4 0 rfl) hb5
   have hbw5:=hbw4.trans (hb5.mono hbw4.size)
   clear hG hb4
   go_wp2_with fail
   refine(hF _ hbw5).mono ?_
   rintro _ w6 ⟨rfl,hb6⟩
   go_wp2
   all_goals refine bodyPost_ret (v:=.tuple #[.int .i64 b,.bool o,.int .i64 0]) (by simp[results,results69,go_sem]) rfl ⟨rfl,hbw5.trans (hb6.mono hbw5.size)⟩
theorem BK (way:Int) (hw:0<=way∧way<=3) (x:aE) (w:World) (hx:aG w x.ao x.n x.cap x.d) (ok:bV x=true) (Ev:kH w) (hT:eF w) :
    Calls prog 47 #[x.v,.int .i64 way] w fun e w'=>e=.returned (.tuple #[.int .i64 (fS way x.ng false (val x.d x.n/2^vK (val x.d x.n)).toNat (x.e+vK (val x.d x.n)) (decide (val x.d x.n % 2^vK (val x.d x.n)≠0))).1,.bool (fS way x.ng false (val x.d x.n/2^vK (val x.d x.n)).toNat (x.e+vK (val x.d x.n)) (decide (val x.d x.n % 2^vK (val x.d x.n)≠0))).2,.int .i64 0])∧Below w.heap.size w w':=by
  have hS:=a8 ok
  obtain⟨na,hn,he0,he1⟩:=hS
  have hv0:=aJ na.1
  have hbl:vK (val x.d x.n)<=150000:=by have:=pK na;unfold vK;omega
  have hsm:=iR hv0
  have hEF:∀ (cap:Array Value) (w:World),(callFunc 70 cap).run prog w=.ok (.enter 70 cap) w:=by
    intro cap w
    simp[go_sem]
  have hEG:∀ (cap:Array Value) (w:World),(callFunc 71 cap).run prog w=.ok (.enter 71 cap) w:=by
    intro cap w
    simp[go_sem]
  have hmf:∀ (fn:Fn) (first cap:Array Value) (w:World),(Instr.makeFunc fn first cap).run prog w=.ok (.func fn first cap) w:=fun _ _ _ _=>rfl
  have CR:=fun W (hb:Below w.heap.size w W) (g:Nat) (hg:W.heap[g]?=some (.cells #[.bool x.ng,.slice x.ao x.n x.cap,.int .i64 x.e] 26 (0,0)))=>ti way hw 70 71 (some ⟨g,0,none⟩) 1 1 (fun _=>x) W
    ⟨Nat.le_refl _,by decide,fun _=>⟨g,0,rfl,(Array.getElem?_eq_some_iff.1 hg).1,fun i hi=>by
      obtain rfl:i=0:=by omega
      exact ⟨ab hg 0 rfl,ab hg 1 rfl,ab hg 2 rfl,hx.keeps hb⟩⟩⟩ (fun _ _=>ok) x.ng (val x.d x.n/2^vK (val x.d x.n)).toNat (x.e+vK (val x.d x.n)) (decide (val x.d x.n % 2^vK (val x.d x.n)≠0)) false _ _ hEF hEG
    (fun W2 hb2=>th g 0 1 1 x.ng x.ao x.n x.cap x.d x.e W2 (az (ab hg 0 rfl) hb2) (az (ab hg 1 rfl) hb2) (az (ab hg 2 rfl) hb2) (by decide) ((hx.keeps hb).keeps hb2) na hn ⟨he0,he1⟩ ((hT.keeps hb).keeps hb2))
    (fun W2 hb2=>kU way hw x.ng false _ _ _ W2 ((Ev.keeps hb).keeps hb2) (by omega) (by omega))
  generalize fS way x.ng false (val x.d x.n/2^vK (val x.d x.n)).toNat (x.e+vK (val x.d x.n)) (decide (val x.d x.n % 2^vK (val x.d x.n)≠0))=R at CR ⊢
  have HCR:Hid _:=CR
  unfold aE.v
  clear ok hsm hbl hv0 he0 he1 hn na hx
  obtain⟨x_g,x_o,x_n,x_c,x_d,x_e⟩:=x
  simp only at *
  clear HCR
  have hb2:=ax w (.cells #[.bool x_g,.slice x_o x_n x_c,.int .i64 x_e] 26) (.cells #[.bool x_g,.slice x_o x_n x_c,.int .i64 x_e] 26)
  have q1:=bh w (.cells #[.bool x_g,.slice x_o x_n x_c,.int .i64 x_e] 26) (.cells #[.bool x_g,.slice x_o x_n x_c,.int .i64 x_e] 26)
  go_enter func47,ntmps47
  go_wp2_with fail
  refine(CR _ hb2 _ q1).mono ?_
  rintro _ w2 ⟨rfl,hb3⟩
  go_wp2
  all_goals refine bodyPost_ret (v:=.tuple #[.int .i64 R.1,.bool R.2,.int .i64 0]) (by simp[results,results47,go_sem]) rfl ⟨rfl,aa hb2 hb3⟩
def C9 (A k:Int):Int:=if 0<=k then A*2^k.toNat else A/2^(-k).toNat
def DC (A k:Int):Bool:=if 0<=k then false else decide (A % 2^(-k).toNat≠0)
def qK (A B:Int):Int:=62+(aC B:Int)-(aC A:Int)
def wh (way:Int) (a b:aE):Int × Bool:=fS way (a.ng != b.ng) false (C9 (val a.d a.n) (qK (val a.d a.n) (val b.d b.n))/val b.d b.n).toNat (a.e-b.e-qK (val a.d a.n) (val b.d b.n)) (DC (val a.d a.n) (qK (val a.d a.n) (val b.d b.n))||decide (C9 (val a.d a.n) (qK (val a.d a.n) (val b.d b.n)) % val b.d b.n≠0))
theorem pL (F G:Value) (hF:∃ f,F=.func f #[] #[]) (hG:∃ f,G=.func f #[] #[]) (near:Int) (R:Value) (o:Option Addr) (n c:Nat) (w:World) :
  Calls prog 125 #[.agg #[F,G],.int .i64 near,.int .i64 0,R,.slice o n c] w fun e w'=>e=.returned (.tuple #[.int .i64 near,.int .i64 0])∧Below w.heap.size w w':=by
 obtain⟨f,rfl⟩:=hF
 obtain⟨g,rfl⟩:=hG
 have CW:=fun W=>gY 0 W
 unfold eP eO at CW
 simp only[if_true] at CW
 have hst:∀ (p:Addr) (F:Nat) (m:Mode) (w:World),(store p (.func (.func F) #[] #[]) m).run prog w=stored prog w p (.func (.func F) #[] #[]) m:=fun p F m w=>run_store _ w p _ m rfl
 go_enter func125,ntmps125
 go_wp2_with fail
 refine(CW _).mono ?_
 rintro _ w2 ⟨rfl,hb2⟩
 have hb1:=ae w (.cells #[.func f #[] #[],.func g #[] #[]] 157)
 have hbw:=aa hb1 hb2
 have q1:=heap_alloc_new w2 (.cells #[.nilFunc] 124)
 have y0:=ab q1 0 rfl
 have y1:=ak q1 0
 clear CW
 go_wp2
 all_goals refine bodyPost_ret (v:=.tuple #[.int .i64 near,.int .i64 0]) (by simp[results,results125,go_sem]) rfl ⟨rfl,?_⟩
 all_goals exact aa hbw (ae _ _)
theorem tj (w:World):Calls prog 124 #[] w fun e w'=>e=.returned (.agg #[.func (.func 140) #[] #[],.func (.func 70) #[] #[]])∧Below w.heap.size w w':=by
 have hmf:∀ (fn:Fn) (first cap:Array Value) (w:World),(Instr.makeFunc fn first cap).run prog w=.ok (.func fn first cap) w:=fun _ _ _ _=>rfl
 have hst:∀ (p:Addr) (F:Nat) (m:Mode) (w:World),(store p (.func (.func F) #[] #[]) m).run prog w=stored prog w p (.func (.func F) #[] #[]) m:=fun p F m w=>run_store _ w p _ m rfl
 have q1:=heap_alloc_new w (.cells #[.nilFunc,.nilFunc] 157)
 have x0:=ab q1 0 rfl
 have x1:=ab q1 1 rfl
 have z0:=ak q1 0
 have z1:=ak q1 1
 go_enter func124,ntmps124
 go_wp2
 all_goals refine bodyPost_ret (v:=.agg #[.func (.func 140) #[] #[],.func (.func 70) #[] #[]]) (by simp[results,results124,go_sem]) rfl ⟨rfl,?_⟩
 all_goals exact ae _ _
theorem dw (n:Int) (w:World):(callFunc 68 #[.int .u64 n]).run prog w=.ok (.value (.float .f64 n.toNat)) w:=by
 rw[run_callFunc_extern func68 (by kernel_rfl) (by kernel_rfl) (by kernel_rfl) (e:=Extern.MathFloatBits.float64frombits) (by kernel_rfl)]
 rfl
theorem cZ {k:FloatKind} {a b:Nat} (h:a=b):Ending.returned (.float k a)=.returned (.float k b):=by rw[h]
theorem fT (b:Int) (w:World) :
  Calls prog 46 #[.int .i64 b] w fun e w'=>e=.returned (.float .f64 (wd b))∧w'=w:=by
 have hd:=dw
 go_enter func46,ntmps46
 go_wp2
 go_ret
 exact⟨cZ (by rw[IntKind.wrap_u64];rfl),rfl⟩
theorem ay {p:Prop} (h:p):Hid p:=h
theorem kV (b:Int) (w:World) (hb:au b) :
  Calls prog 60 #[.int .i64 b] w fun e w'=>e=.returned (.tuple #[.bool (decide (b<0)),.int .i64 (bk b),.int .i64 (bF b)])∧w'=w:=by
 unfold au at hb
 by_cases h:b<0
 all_goals
  go_enter func60,ntmps60
  go_wp2
  go_ret3
  exact⟨ye (by simp;try omega) (by unfold bk;omega) (by unfold bF;omega),rfl⟩
theorem Ap (f t most:Int) (w:World) (hf:0<=f) (ht:0<=t) :
  Calls prog 61 #[.int .i64 f,.int .i64 t,.int .i64 most] w fun e w'=>e=.returned (.int .i64 (o7 f t most))∧w'=w:=by
 by_cases h1:f=most
 ·subst h1
  by_cases h2:t=0
  all_goals
   go_enter func61,ntmps61
   go_wp2
   go_ret
   exact⟨bZ (by simp[o7,h2]),rfl⟩
 ·by_cases h2:0<f<;>by_cases h3:0<t
  all_goals
   go_enter func61,ntmps61
   go_wp2
   go_ret
   exact⟨bZ (by simp[o7,h1];omega),rfl⟩
theorem eT (b:Int) (w:World) (hb:au b) :
    Calls prog 39 #[.int .i64 b] w fun e w'=>e=.returned (.int .i64 (aD b))∧w'=w:=by
  have hf:=iM b
  have ht:=gU b
  go_enter func39,ntmps39
  go_wp2_with (first
    | (go_at_call 60;refine(kV _ _ hb).mono ?_;rintro e w1 ⟨rfl,rfl⟩)
    | (go_at_call 61; refine (Ap _ _ _ _ hf.1 ht.1).mono ?_; rintro e w1 ⟨rfl,rfl⟩))
  go_ret
  exact⟨bZ (vO b),rfl⟩
theorem wi (b:Int) (w:World) (hb:au b) :
    Calls prog 79 #[.int .i64 b] w fun e w'=>e=.returned (.tuple #[.bool (cl b),.int .i64 (bl b),.int .i64 (bJ b),.bool (aB b)])∧w'=w:=by
  have hf:=iM b
  have ht:=gU b
  by_cases h0:aD b=0
  · have k:=ay (nR (.inl h0))
    go_enter func79,ntmps79
    go_wp2_with (first
      | (go_at_call 60;refine(kV _ _ hb).mono ?_;rintro e w1 ⟨rfl,rfl⟩)
      | (go_at_call 39; refine (eT _ _ hb).mono ?_; rintro e w1 ⟨rfl,rfl⟩))
    refine bodyPost_ret (v:=.tuple #[.bool (decide (b<0)),.int .i64 (bF b),.int .i64 (-1074),.bool true]) (by simp[results,results79,go_sem]) rfl ⟨jM k.out.1 k.out.2.1 k.out.2.2.1 k.out.2.2.2,rfl⟩
  · by_cases h1:aD b=1
    · have k:=ay (nR (.inr h1))
      go_enter func79,ntmps79
      go_wp2_with (first
        | (go_at_call 60;refine(kV _ _ hb).mono ?_;rintro e w1 ⟨rfl,rfl⟩)
        | (go_at_call 39; refine (eT _ _ hb).mono ?_; rintro e w1 ⟨rfl,rfl⟩))
      refine bodyPost_ret (v:=.tuple #[.bool (decide (b<0)),.int .i64 (bF b),.int .i64 (-1074),.bool true]) (by simp[results,results79,go_sem]) rfl ⟨jM k.out.1 k.out.2.1 k.out.2.2.1 k.out.2.2.2,rfl⟩
    · by_cases h2:aD b=2
      · have k:=ay (sN h2)
        go_enter func79,ntmps79
        go_wp2_with (first
          | (go_at_call 60;refine(kV _ _ hb).mono ?_;rintro e w1 ⟨rfl,rfl⟩)
          | (go_at_call 39; refine (eT _ _ hb).mono ?_; rintro e w1 ⟨rfl,rfl⟩))
        refine bodyPost_ret (v:=.tuple #[.bool (decide (b<0)),.int .i64 (4503599627370496+bF b),.int .i64 (bk b-1075),.bool true]) (by simp[results,results79,go_sem]) rfl ⟨jM k.out.1 k.out.2.1 k.out.2.2.1 k.out.2.2.2,rfl⟩
      · have k:=ay (tR h0 h1 h2)
        go_enter func79,ntmps79
        go_wp2_with (first
          | (go_at_call 60;refine(kV _ _ hb).mono ?_;rintro e w1 ⟨rfl,rfl⟩)
          | (go_at_call 39; refine (eT _ _ hb).mono ?_; rintro e w1 ⟨rfl,rfl⟩))
        refine bodyPost_ret (v:=.tuple #[.bool false,.int .i64 0,.int .i64 0,.bool false]) (by simp[results,results79,go_sem]) rfl ⟨jM k.out.1 k.out.2.1 k.out.2.2.1 k.out.2.2.2,rfl⟩
def bs (b:Int):Int:=if aD b=4 then 9221120237041090561 else b
theorem Aq {b:Int} (hb:au b):(FloatKind.f64.format.order (wd b) (wd b) != some .eq)=decide (aD b=4):=by
 have:=jL hb hb
 unfold bne
 rw[this];unfold dO
 by_cases h:aD b=4<;>simp[h]
theorem fl (n:Nat) (w:World):(callFunc 84 #[.float .f64 n]).run prog w=.ok (.value (.int .u64 n)) w:=by
 rw[run_callFunc_extern func84 (by kernel_rfl) (by kernel_rfl) (by kernel_rfl) (e:=Extern.MathFloatBits.float64bits) (by kernel_rfl)]
 rfl
theorem kW (b:Int) (w:World) (hb:au b) :
  Calls prog 65 #[.float .f64 (wd b)] w fun e w'=>e=.returned (.int .i64 (bs b))∧w'=w:=by
 have hd:=fl
 have hn:=Aq hb
 have hw:Hid (wrap64 (wd b:Int)=b):=by unfold Hid wrap64 wd;unfold au at hb;omega
 by_cases h:aD b=4
 ·have hn':(FloatKind.f64.format.order (wd b) (wd b) != some .eq)=true:=by rw[hn];simp[h]
  clear hn
  go_enter func65,ntmps65
  go_wp2
  go_ret
  exact⟨bZ (by simp[bs,h]),rfl⟩
 ·have hn':(FloatKind.f64.format.order (wd b) (wd b) != some .eq)=false:=by rw[hn];simp[h]
  clear hn
  go_enter func65,ntmps65
  go_wp2
  go_ret
  exact⟨bZ (by rw[hw.out];simp[bs,h]),rfl⟩
def nt (g:Nat) (x:Int):aE:=⟨false,some ⟨g,0,none⟩,1,1,fun _=>x,0⟩
theorem BL (g k:Nat):wh 0 (nt g 1) (nt k 3)=(4599676419421066581,true):=by
 have e:wh 0 (nt g 1) (nt k 3)=wh 0 (nt 0 1) (nt 0 3):=rfl
 rw[e]
 decide +kernel
def aE.neg (r:aE):aE:=⟨!r.ng,r.ao,r.n,r.cap,r.d,r.e⟩
end Go.Proofs.YtkkpppgfoilgmaaGreatDoor
