/- Parts of the proof. -/
import Derived.Test.YtcklaogdjpbagaaGreatDoorPart5
import Derived.Test.YtcklaogdjpbagaaGreatDoorPart2
import Derived.Test.YtcklaogdjpbagaaGreatDoorPart3
import Derived.Test.YtcklaogdjpbagaaGreatDoorPart4
import Derived.Deep.LoopGhost
import Derived.Deep.RegionWith
import Derived.Laws.Externs
import Derived.Laws.Cover2
import Derived.Test.YtcklaogdjpbagaaGreatDoorPart1
import Derived.Deep.RegionHeld3
set_option maxRecDepth 100000
set_option maxHeartbeats 8000000
set_option linter.unusedVariables false
set_option linter.unusedSimpArgs false
namespace Go.Proofs.YtcklaogdjpbagaaGreatDoor
open Go Go.Proofs.Tryz Go.RowKit Go.Proofs.YtcklaogdjpbagaaGreatDoor.M
structure jH (w:World):Prop where
 a0:w.cell? ⟨1,0,none⟩=some (.int .i64 52)
 a1:w.cell? ⟨1,1,none⟩=some (.int .i64 2047)
 a2:w.cell? ⟨1,2,none⟩=some (.int .i64 (-1074))
theorem jH.keeps {w w':World} (h:jH w) (hb:Below w.heap.size w w'):jH w':=⟨aG h.a0 hb,aG h.a1 hb,aG h.a2 hb⟩
theorem rK (b:Int) (w:World) (L:jH w) :
  Calls prog 103 #[.int .i64 b] w fun e w'=>e=.returned (.tuple #[.bool (dw b),.int .i64 (bl b),.int .i64 (bs b),.bool (ay b)])∧Below w.heap.size w w':=by
 obtain⟨a0,a1,a2⟩:=L
 by_cases h:ay b=true
 all_goals
  go_enter func103,ntmps103
  go_wp2_with (go_at_call 122;refine(xk _ _).mono ?_;rintro e w1 ⟨rfl,hg⟩)
  refine bodyPost_ret (v:=.tuple #[.bool (dw b),.int .i64 (bl b),.int .i64 (bs b),.bool (ay b)]) (by simp[results,results103,go_sem,dw,h]) rfl ⟨rfl,hg.be⟩
theorem fi {b:Int} (hp:ay b=true):0<=bl b∧bl b<9007199254740992∧-1074<=bs b∧bs b<=971:=by
 have hf:=ig b
 have hr:=gI b
 have h1:bG b≠2047:=by simpa [ay] using hp
 unfold bl bs
 rw[if_neg h1,if_neg h1]
 split<;>omega
theorem tA (x:Int) (w:World) (h0:0<=x) (h1:x<9223372036854775808) :
  Calls prog 120 #[.int .i64 x] w fun e w'=>∃ v,e=.returned (.tuple #[v,.int .i64 0])∧cn w w' x v:=by
 have HX:=rG x w h0 h1
 have HX':Hid (Calls prog 139 #[.int .i64 x] w fun e w'=>∃ v,e=.returned v∧cn w w' x v):=HX
 clear HX h1
 go_enter func120,ntmps120
 go_wp2_with fail
 refine HX'.out.mono ?_
 rintro e w2 ⟨v,rfl,hA⟩
 go_wp2
 go_ret2
 exact⟨_,rfl,hA⟩
theorem rN:9223372036854775808<P 2000:=by
 have:=fF (show 3<=2000 by omega)
 have e:P 3=1237940039285380274899124224:=rfl
 omega
theorem tB {ng:Bool} {M e:Int} (h0:0<=M) (h1:M<9223372036854775808) (e0:-1074<=e) (e1:e<=971):cK (sg ng M*pw e):=by
 by_cases hz:M=0
 ·rw[hz,dG,Int.zero_mul];exact jq
 ·obtain⟨l,hl⟩:=gx (show 0<M by omega)
  have hy:=Dy.of ng hl (show 0<M by omega) (show -4194304<=e by omega)
  obtain⟨c1,c2,c3⟩:=el hl (show 0<M by omega)
  have hp:=aB l
  have hl63:l<63:=by
   have h3:(1:Int)*2^l<=M/2^l*2^l:=Int.mul_le_mul_of_nonneg_right (by omega) (by omega)
   rw[c3] at h3
   refine dT ?_
   rw[show(2:Int)^63=9223372036854775808 by decide]
   omega
  refine hy.ok.2 ⟨?_,by omega,by omega⟩
  have:M/2^l<=M:=Int.ediv_le_self _ h0
  have:=rN
  omega
theorem tC (ng:Bool) (M e:Int) (w:World) (hT:dU w) (h0:0<=M) (h1:M<9223372036854775808) (e0:-1074<=e) (e1:e<=971) :
  Calls prog 102 #[.bool ng,.int .i64 M,.int .i64 e,.bool true] w fun r w'=>∃ v,r=.returned (.tuple #[v,.int .i64 0])∧aR w w' (sg ng M*pw e) v:=by
 have hok:=tB (ng:=ng) h0 h1 e0 e1
 go_enter func102,ntmps102
 go_wp2_with fail
 refine(tA M _ h0 h1).mono ?_
 rintro r w1 ⟨v,rfl,hA⟩
 obtain⟨so,sn,sc,d,rfl,hR,hN,hv⟩:=hA.num
 have hsn:sn<=100:=hA.num.len (k:=100) (by have:=fF (show 3<=100 by omega);have:P 3=1237940039285380274899124224:=rfl;omega)
 have hbw:=af (ah w _) hA.below
 go_wp2_with fail
 refine(lT (V:=sg ng M*pw e) hR hN.1 (by omega) (hT.keeps hbw) (by omega) (by rw[hv])).mono ?_
 rintro r w7 (⟨_,v,rfl,hD⟩|⟨hno,_⟩)
 ·have hb7:=hD.below
  obtain⟨ng',s',m',e',rfl,hyy,hA2⟩:=id hD
  obtain⟨so',sn',sc',rfl⟩:=hA2.num.shape
  have q0:=((af hA.below hb7).block w.heap.size (by rw[dV];omega)).trans (aK _ _)
  have x0:=ac q0 0 rfl
  have x1:=ac q0 1 rfl
  have x2:=ac q0 2 rfl
  have z0:=aq q0 0
  have z1:=aq q0 1
  have z2:=aq q0 2
  go_wp2
  refine bodyPost_ret (v:=.tuple #[.agg #[.bool ng',.slice so' sn' sc',.int .i64 e'],.int .i64 0]) (by simp[results,results102,go_sem,x0,x1,x2]) rfl ⟨_,rfl,?_⟩
  exact bD (g:=w.heap.size) hD hbw (Nat.le_refl _) (Nat.lt_of_lt_of_le (by rw[dV];omega) hA.below.size) _ _ _
 ·exact absurd hok hno
theorem vi (ng:Bool) (M e:Int) (w:World) :
  Calls prog 102 #[.bool ng,.int .i64 M,.int .i64 e,.bool false] w fun r w'=>r=.returned (.tuple #[dc,.int .i64 10])∧Below w.heap.size w w':=by
 go_enter func102,ntmps102
 go_wp2
 refine bodyPost_ret (v:=.tuple #[dc,.int .i64 10]) (by simp[results,results102,go_sem,dc]) rfl ⟨rfl,?_⟩
 exact ah _ _
theorem xu (b:Int) (w:World) (L:jH w) (hT:dU w) :
  Calls prog 78 #[.int .i64 b] w fun r w'=>∃ v er,r=.returned (.tuple #[v,.int .i64 er])∧Below w.heap.size w w'∧((ay b=true∧er=0∧aR w w' (sg (dw b) (bl b)*pw (bs b)) v)∨(ay b=false∧er=10∧v=dc)):=by
 have hVy:ay b=true->∀ W,Below w.heap.size w W->Calls prog 102 #[.bool (dw b),.int .i64 (bl b),.int .i64 (bs b),.bool true] W fun r w'=>∃ v,r=.returned (.tuple #[v,.int .i64 0])∧aR W w' (sg (dw b) (bl b)*pw (bs b)) v:=fun hp W hb=>by
  have hi:=fi hp
  exact tC _ _ _ W (hT.keeps hb) (by omega) (by omega) (by omega) (by omega)
 have hP:=fun W hb=>rK b W (L.keeps hb)
 generalize sg (dw b) (bl b)*pw (bs b)=V at hVy ⊢
 generalize dw b=ng at *
 generalize bl b=mg at *
 generalize bs b=ex at *
 clear L hT
 cases hp:ay b
 ·rw[hp] at hP hVy
  go_enter func78,ntmps78
  go_wp2_with fail
  refine(hP _ (ah _ _)).mono ?_
  rintro r w1 ⟨rfl,hb1⟩
  go_wp2_with fail
  refine(vi _ _ _ _).mono ?_
  unfold dc
  rintro r w2 ⟨rfl,hb2⟩
  have hbw:=af (ah w (.cells #[.bool false,.slice none 0 0,.int .i64 0] 33)) (af hb1 hb2)
  have q0:=((af hb1 hb2).block w.heap.size (by rw[dV];omega)).trans (aK _ _)
  have x0:=ac q0 0 rfl
  have x1:=ac q0 1 rfl
  have x2:=ac q0 2 rfl
  have z0:=aq q0 0
  have z1:=aq q0 1
  have z2:=aq q0 2
  go_wp2
  refine bodyPost_ret (v:=.tuple #[dc,.int .i64 10]) (by simp[results,results78,go_sem,x0,x1,x2,dc]) rfl ⟨_,_,rfl,?_,.inr ⟨by trivial,rfl,rfl⟩⟩
  exact di hbw (Nat.le_refl _) _ _ _
 ·rw[hp] at hP hVy
  go_enter func78,ntmps78
  go_wp2_with fail
  refine(hP _ (ah _ _)).mono ?_
  rintro r w1 ⟨rfl,hb1⟩
  have hbw:=af (ah w (.cells #[.bool false,.slice none 0 0,.int .i64 0] 33)) hb1
  go_wp2_with fail
  refine(hVy (by trivial) _ hbw).mono ?_
  rintro r w2 ⟨v,rfl,hD⟩
  obtain⟨ng',s',m',e',rfl,hyy,hA2⟩:=id hD
  obtain⟨so',sn',sc',rfl⟩:=hA2.num.shape
  have q0:=((af hb1 hD.below).block w.heap.size (by rw[dV];omega)).trans (aK _ _)
  have x0:=ac q0 0 rfl
  have x1:=ac q0 1 rfl
  have x2:=ac q0 2 rfl
  have z0:=aq q0 0
  have z1:=aq q0 1
  have z2:=aq q0 2
  go_wp2
  refine bodyPost_ret (v:=.tuple #[.agg #[.bool ng',.slice so' sn' sc',.int .i64 e'],.int .i64 0]) (by simp[results,results78,go_sem,x0,x1,x2]) rfl ⟨_,_,rfl,?_,.inl ⟨by trivial,rfl,?_⟩⟩
  ·exact di (af hbw hD.below) (Nat.le_refl _) _ _ _
  ·exact bD (g:=w.heap.size) hD hbw (Nat.le_refl _) (Nat.lt_of_lt_of_le (by rw[dV];omega) hb1.size) _ _ _
def fD (way:Int) (ng:Bool):Int:=if cu way ng true 3 then 9218868437227405312 else 9218868437227405311
def aC (ng:Bool) (r:Int):Int:=if ng then r-9223372036854775808 else r
theorem ov.keeps {w w':World} (h:ov w) (hb:Below w.heap.size w w'):ov w' :=
 ⟨⟨aG h.lays.a0 hb,aG h.lays.a1 hb,aG h.lays.a2 hb,trivial,trivial,trivial⟩,fun j hj=>aG (h.tab j hj) hb⟩
def nm (way:Int) (ng sd:Bool) (mag:Nat) (exp:Int) (cut:Bool):Int × Bool :=
 let E:=rE 53 (-1074) mag exp
 let u:=rU mag (E-exp)
 let left:=rL mag cut (E-exp)
 let U:=u+(if cu way ng (decide (u % 2=1)) left then 1 else 0)
 let neg:=ng&&(decide (0<U)||sd)
 if jk 52 2047 (-1074) U E then (jp neg U E,decide (left≠0)) else (aC neg (fD way neg),true)
theorem bz.parts {w:World} {v:Value} {V:Int} (h:bz w v V) {k:Nat} (hV:V<P k):∃ ao n cap d,v=.slice ao n cap∧aE w ao n cap d∧bK d n∧val d n=V∧n<=k:=by
 obtain⟨ao,n,cap,rfl⟩:=h.shape
 have hl:=h.len hV
 obtain⟨ao',n',cap',d,e,hR,h2,h3⟩:=h
 simp only[Value.slice.injEq] at e
 obtain⟨rfl,rfl,rfl⟩:=e
 exact⟨ao,n,cap,d,rfl,hR,h2,h3,hl⟩
def vK (M:Int):Nat:=ax M-62
theorem vj {M:Int} (h:0<=M):0<=M/2^vK M∧M/2^vK M<4611686018427387904:=by
 have hp:=aB (vK M)
 refine⟨Int.ediv_nonneg h (by omega),?_⟩
 have h1:=gk M
 have h2:(2:Int)^ax M<=2^(62+vK M):=cF (by unfold vK;omega)
 have e:(2:Int)^(62+vK M)=4611686018427387904*2^vK M:=by rw[Int.pow_add];rfl
 exact Int.ediv_lt_of_lt_mul hp (by omega)
def AL (A k:Int):Int:=if 0<=k then A*2^k.toNat else A/2^(-k).toNat
def Bh (A k:Int):Bool:=if 0<=k then false else decide (A % 2^(-k).toNat≠0)
def qK (A B:Int):Int:=62+(ax B:Int)-(ax A:Int)
def vk (way:Int) (a b:aA):Int × Bool:=nm way (a.ng != b.ng) false (AL (val a.d a.n) (qK (val a.d a.n) (val b.d b.n))/val b.d b.n).toNat (a.e-b.e-qK (val a.d a.n) (val b.d b.n)) (Bh (val a.d a.n) (qK (val a.d a.n) (val b.d b.n))||decide (AL (val a.d a.n) (qK (val a.d a.n) (val b.d b.n)) % val b.d b.n≠0))
theorem lU (n:Int) (w:World):(callFunc 75 #[.int .u64 n]).run prog w=.ok (.value (.float .f64 n.toNat)) w:=by
 rw[run_callFunc_extern func75 (by kernel_rfl) (by kernel_rfl) (by kernel_rfl) (e:=Extern.MathFloatBits.float64frombits) (by kernel_rfl)]
 rfl
theorem ns {k:FloatKind} {a b:Nat} (h:a=b):Ending.returned (.float k a)=.returned (.float k b):=by rw[h]
theorem cZ (b:Int) (w:World) :
  Calls prog 74 #[.int .i64 b] w fun e w'=>e=.returned (.float .f64 (wd b))∧w'=w:=by
 have hd:=lU
 go_enter func74,ntmps74
 go_wp2
 go_ret
 exact⟨ns (by rw[IntKind.wrap_u64];rfl),rfl⟩
theorem gL {p:Prop} (h:p):Hid p:=h
theorem kl (b:Int) (w:World) (hb:ar b) :
  Calls prog 147 #[.int .i64 b] w fun e w'=>e=.returned (.tuple #[.bool (decide (b<0)),.int .i64 (bG b),.int .i64 (bT b)])∧w'=w:=by
 unfold ar at hb
 by_cases h:b<0
 all_goals
  go_enter func147,ntmps147
  go_wp2
  go_ret3
  exact⟨xj (by simp;try omega) (by unfold bG;omega) (by unfold bT;omega),rfl⟩
theorem yH (f t most:Int) (w:World) (hf:0<=f) (ht:0<=t) :
  Calls prog 152 #[.int .i64 f,.int .i64 t,.int .i64 most] w fun e w'=>e=.returned (.int .i64 (oh f t most))∧w'=w:=by
 by_cases h1:f=most
 ·subst h1
  by_cases h2:t=0
  all_goals
   go_enter func152,ntmps152
   go_wp2
   go_ret
   exact⟨dS (by simp[oh,h2]),rfl⟩
 ·by_cases h2:0<f<;>by_cases h3:0<t
  all_goals
   go_enter func152,ntmps152
   go_wp2
   go_ret
   exact⟨dS (by simp[oh,h1];omega),rfl⟩
theorem io (b:Int) (w:World) (hb:ar b) :
    Calls prog 133 #[.int .i64 b] w fun e w'=>e=.returned (.int .i64 (aF b))∧w'=w:=by
  have hf:=ig b
  have ht:=gI b
  go_enter func133,ntmps133
  go_wp2_with (first
    | (go_at_call 147;refine(kl _ _ hb).mono ?_;rintro e w1 ⟨rfl,rfl⟩)
    | (go_at_call 152; refine (yH _ _ _ _ hf.1 ht.1).mono ?_; rintro e w1 ⟨rfl,rfl⟩))
  go_ret
  exact⟨dS (uP b),rfl⟩
theorem vm (b:Int) (w:World) (hb:ar b) :
    Calls prog 127 #[.int .i64 b] w fun e w'=>e=.returned (.tuple #[.bool (dw b),.int .i64 (bl b),.int .i64 (bs b),.bool (ay b)])∧w'=w:=by
  have hf:=ig b
  have ht:=gI b
  by_cases h0:aF b=0
  · have k:=gL (mT (.inl h0))
    go_enter func127,ntmps127
    go_wp2_with (first
      | (go_at_call 147;refine(kl _ _ hb).mono ?_;rintro e w1 ⟨rfl,rfl⟩)
      | (go_at_call 133; refine (io _ _ hb).mono ?_; rintro e w1 ⟨rfl,rfl⟩))
    refine bodyPost_ret (v:=.tuple #[.bool (decide (b<0)),.int .i64 (bT b),.int .i64 (-1074),.bool true]) (by simp[results,results127,go_sem]) rfl ⟨jw k.out.1 k.out.2.1 k.out.2.2.1 k.out.2.2.2,rfl⟩
  · by_cases h1:aF b=1
    · have k:=gL (mT (.inr h1))
      go_enter func127,ntmps127
      go_wp2_with (first
        | (go_at_call 147;refine(kl _ _ hb).mono ?_;rintro e w1 ⟨rfl,rfl⟩)
        | (go_at_call 133; refine (io _ _ hb).mono ?_; rintro e w1 ⟨rfl,rfl⟩))
      refine bodyPost_ret (v:=.tuple #[.bool (decide (b<0)),.int .i64 (bT b),.int .i64 (-1074),.bool true]) (by simp[results,results127,go_sem]) rfl ⟨jw k.out.1 k.out.2.1 k.out.2.2.1 k.out.2.2.2,rfl⟩
    · by_cases h2:aF b=2
      · have k:=gL (ri h2)
        go_enter func127,ntmps127
        go_wp2_with (first
          | (go_at_call 147;refine(kl _ _ hb).mono ?_;rintro e w1 ⟨rfl,rfl⟩)
          | (go_at_call 133; refine (io _ _ hb).mono ?_; rintro e w1 ⟨rfl,rfl⟩))
        refine bodyPost_ret (v:=.tuple #[.bool (decide (b<0)),.int .i64 (4503599627370496+bT b),.int .i64 (bG b-1075),.bool true]) (by simp[results,results127,go_sem]) rfl ⟨jw k.out.1 k.out.2.1 k.out.2.2.1 k.out.2.2.2,rfl⟩
      · have k:=gL (sR h0 h1 h2)
        go_enter func127,ntmps127
        go_wp2_with (first
          | (go_at_call 147;refine(kl _ _ hb).mono ?_;rintro e w1 ⟨rfl,rfl⟩)
          | (go_at_call 133; refine (io _ _ hb).mono ?_; rintro e w1 ⟨rfl,rfl⟩))
        refine bodyPost_ret (v:=.tuple #[.bool false,.int .i64 0,.int .i64 0,.bool false]) (by simp[results,results127,go_sem]) rfl ⟨jw k.out.1 k.out.2.1 k.out.2.2.1 k.out.2.2.2,rfl⟩
def eO (b:Int):Int:=if aF b=4 then 9221120237041090561 else b
theorem AS {b:Int} (hb:ar b):(FloatKind.f64.format.order (wd b) (wd b) != some .eq)=decide (aF b=4):=by
 have:=lM hb hb
 unfold bne
 rw[this];unfold eT
 by_cases h:aF b=4<;>simp[h]
theorem rO (n:Nat) (w:World):(callFunc 76 #[.float .f64 n]).run prog w=.ok (.value (.int .u64 n)) w:=by
 rw[run_callFunc_extern func76 (by kernel_rfl) (by kernel_rfl) (by kernel_rfl) (e:=Extern.MathFloatBits.float64bits) (by kernel_rfl)]
 rfl
def mF (g:Nat) (x:Int):aA:=⟨false,some ⟨g,0,none⟩,1,1,fun _=>x,0⟩
theorem zY (g k:Nat):vk 0 (mF g 1) (mF k 3)=(4599676419421066581,true):=by
 have e:vk 0 (mF g 1) (mF k 3)=vk 0 (mF 0 1) (mF 0 3):=rfl
 rw[e]
 decide +kernel
def aA.neg (r:aA):aA:=⟨!r.ng,r.ao,r.n,r.cap,r.d,r.e⟩
theorem aA.neg_V (r:aA):r.neg.V=-r.V:=by
 show sg (!r.ng) _*_=_
 rw[oi,Int.neg_mul];rfl
theorem aA.neg_sane {r:aA} (h:df r):df r.neg:=h
theorem vr (x y:aA) (g h:Nat) (w:World) (cg:w.heap[g]?=some (.cells #[.bool x.ng,.slice x.ao x.n x.cap,.int .i64 x.e] 33 (0,0))) (ch:w.heap[h]?=some (.cells #[.bool y.ng,.slice y.ao y.n y.cap,.int .i64 y.e] 33 (0,0)))
  (hx:aE w x.ao x.n x.cap x.d) (hy:aE w y.ao y.n y.cap y.d) (sx:df x) (sy:df y) (hT:dU w) :
  Calls prog 106 #[.pointer (some ⟨g,0,none⟩),.pointer (some ⟨h,0,none⟩)] w (ls w (x.V+y.V)):=by
 obtain⟨an,ao,n,ca,a,e⟩:=x
 obtain⟨bn,bo,m,cb,b,f⟩:=y
 simp only at cg ch hx hy
 have hb:=ah w (.cells #[.bool false,.slice none 0 0,.int .i64 0] 33)
 have g0:=av (.cells #[.bool false,.slice none 0 0,.int .i64 0] 33) cg
 have g1:=av (.cells #[.bool false,.slice none 0 0,.int .i64 0] 33) ch
 have k0:=ac g0 0 rfl
 have k1:=ac g0 1 rfl
 have k2:=ac g0 2 rfl
 have j0:=ac g1 0 rfl
 have j1:=ac g1 1 rfl
 have j2:=ac g1 2 rfl
 have hN:=fun q=>wA (w:=(w.alloc (.cells #[.bool false,.slice none 0 0,.int .i64 0] 33)).alloc (.cells #[.bool an,.slice ao n ca,.int .i64 e,.bool bn,.slice bo m cb,.int .i64 f] 33)) (g:=w.heap.size+1) (x:=⟨an,ao,n,ca,a,e⟩) (y:=⟨bn,bo,m,cb,b,f⟩) (t:=33) q (hx.keeps (aL _ _ _)) (hy.keeps (aL _ _ _))
 go_enter func106,ntmps106
 go_wp2_with fail
 refine(nk _ _ _ _ _ (hN (bR _ _ _)) (fun i hi=>?_) (by omega) (hT.keeps (aL _ _ _))).mono ?_
 ·match i,hi with
  | 0,_=>exact sx
  | 1,_=>exact sy
 rw[zX]
 rintro r w7 (⟨hok,v,rfl,hD⟩|⟨hno,rfl,hb7⟩)
 ·have hb7:=hD.below
  obtain⟨ng',s',m',e',rfl,hyy,hA⟩:=id hD
  obtain⟨so,sn,sc,rfl⟩:=hA.num.shape
  have q0:=(hb7.block w.heap.size (by rw[eQ];omega)).trans (cl _ _ _)
  have x0:=ac q0 0 rfl
  have x1:=ac q0 1 rfl
  have x2:=ac q0 2 rfl
  have z0:=aq q0 0
  have z1:=aq q0 1
  have z2:=aq q0 2
  go_wp2
  refine bodyPost_ret (v:=.agg #[.bool ng',.slice so sn sc,.int .i64 e']) (by simp[results,results106,go_sem,x0,x1,x2]) rfl ?_
  exact .inl ⟨hok,_,rfl,bD (g:=w.heap.size) hD (aL _ _ _) (Nat.le_refl _) (by rw[eQ];omega) _ _ _⟩
 ·exact⟨rfl,.inr ⟨hno,rfl,af (aL _ _ _) hb7⟩⟩
theorem xw (x y:aA) (w:World) (hx:aE w x.ao x.n x.cap x.d) (hy:aE w y.ao y.n y.cap y.d) (ox:cQ x=true) (oy:cQ y=true) (hT:dU w) :
  Calls prog 79 #[x.v,y.v] w fun r w'=>∃ v er,r=.returned (.tuple #[v,.int .i64 er])∧fG w w' (x.V-y.V) v er:=by
 have hmf:∀ (fn:Fn) (first cap:Array Value) (w:World),(Instr.makeFunc fn first cap).run prog w=.ok (.func fn first cap) w:=fun _ _ _ _=>rfl
 have hE:∀ (cap:Array Value) (w:World),(callFunc 106 cap).run prog w=.ok (.enter 106 cap) w:=by
  intro cap w
  simp[go_sem]
 have hA:=yF x y
 rw[ox,oy] at hA
 have hN:=fun W q hb=>wA (w:=W) (g:=w.heap.size+3) (x:=x) (y:=y) (t:=33) q (hx.keeps hb) (hy.keeps hb)
 have hC:=fun W hb cg ch=>vr x y.neg w.heap.size (w.heap.size+1) W cg ch (hx.keeps hb) (hy.keeps hb) (cd ox) (aA.neg_sane (cd oy)) (hT.keeps hb)
 generalize n9 x y=pr at hA hN
 rw[show x.V-y.V=x.V+y.neg.V by rw[aA.neg_V];omega]
 generalize x.V+y.neg.V=V at hC ⊢
 clear ox oy
 obtain⟨an,ao,n,ca,a,e⟩:=x
 obtain⟨bn,bo,m,cb,b,f⟩:=y
 unfold aA.v
 unfold aA.neg at hC
 simp only at hx hy hN hC ⊢
 go_enter func79,ntmps79
 go_wp2_with fail
 refine(iS _ _ _ _ _ (hN _ (gz _ _ _ _ _) (eH _ _ _ _ _))).mono ?_
 rw[hA]
 rintro r w1 ⟨rfl,hb1⟩
 have hbw:=af (eH w _ _ _ _) hb1
 have g0:=(hb1.block w.heap.size (by rw[jG];omega)).trans (gQ _ _ _ _ _)
 have g1:=(hb1.block (w.heap.size+1) (by rw[jG];omega)).trans (gR _ _ _ _ _)
 have g2:=(hb1.block (w.heap.size+2) (by rw[jG];omega)).trans (gy _ _ _ _ _)
 have hs4:w.heap.size+4<=w1.heap.size:=by have:=hb1.size;rw[jG] at this;exact this
 have y0:=ac g1 0 rfl
 have y1:=aq g1 0
 go_wp2_with fail
 have hbw':Below w.heap.size w (w1.setCell ⟨w.heap.size+1,0,none⟩ (.bool (!bn))):=hbw.setCell (p:=⟨w.heap.size+1,0,none⟩) (Nat.le_succ _) _
 have u0:=(Below.heap_setCell w1 ⟨w.heap.size+1,0,none⟩ (.bool (!bn)) w.heap.size (by show w.heap.size≠w.heap.size+1;omega)).trans g0
 have u2:=(Below.heap_setCell w1 ⟨w.heap.size+1,0,none⟩ (.bool (!bn)) (w.heap.size+2) (by show w.heap.size+2≠w.heap.size+1;omega)).trans g2
 have u1:=am g1 0 (.bool (!bn))
 have us:(w1.setCell ⟨w.heap.size+1,0,none⟩ (.bool (!bn))).heap.size=w1.heap.size:=by simp[World.setCell]
 generalize w1.setCell ⟨w.heap.size+1,0,none⟩ (.bool (!bn))=w9 at hbw' u0 u1 u2 us ⊢
 clear hbw g0 g1 g2 hb1 y0 y1
 have hbw:=hbw'
 have g0:=u0
 have g1:w9.heap[w.heap.size+1]?=some (.cells #[.bool (!bn),.slice bo m cb,.int .i64 f] 33 (0,0)):=u1
 have g2:=u2
 refine(oH (V:=V) (hE _) (fun W hW=>hC W (af hbw hW) ((hW.block _ (by omega)).trans g0) ((hW.block _ (by omega)).trans g1))).mono ?_
 rintro r w2 ⟨v,er,rfl,hF⟩
 obtain⟨ng',so,sn,sc,e',rfl⟩:=hF.shape
 have q0:=(hF.1.block (w.heap.size+2) (by omega)).trans g2
 have x0:=ac q0 0 rfl
 have x1:=ac q0 1 rfl
 have x2:=ac q0 2 rfl
 have z0:=aq q0 0
 have z1:=aq q0 1
 have z2:=aq q0 2
 go_wp2
 refine bodyPost_ret (v:=.tuple #[.agg #[.bool ng',.slice so sn sc,.int .i64 e'],.int .i64 er]) (by simp[results,results79,go_sem,x0,x1,x2]) rfl ⟨_,_,rfl,?_⟩
 exact oG (g:=w.heap.size+2) hF hbw (by omega) (by omega) _ _ _
def km (x y:aA):Int:=sg (x.ng != y.ng) (val x.d x.n*val y.d y.n)*pw (x.e+y.e)
theorem kN {x y:aA} (hx:-2097152<=x.e) (hy:-2097152<=y.e):km x y*2^4194304=x.V*y.V:=by
 unfold km aA.V
 rw[Int.mul_assoc,<- j8 hx hy,<- sW];grind
theorem oJ (x y:aA) (w:World) (hx:aE w x.ao x.n x.cap x.d) (hy:aE w y.ao y.n y.cap y.d) (sx:df x) (sy:df y) :
  Calls prog 155 #[x.v,y.v] w fun r w'=>∃ s,r=.returned (.agg #[.bool (x.ng != y.ng),s,.int .i64 (x.e+y.e)])∧cn w w' (val x.d x.n*val y.d y.n) s:=by
 obtain⟨an,ao,n,ca,a,e⟩:=x
 obtain⟨bn,bo,m,cb,b,f⟩:=y
 obtain⟨s1,s2,s3,s4⟩:=sx
 obtain⟨t1,t2,t3,t4⟩:=sy
 unfold aA.v
 simp only at *
 have hw:IntKind.i64.wrap (e+f)=e+f:=by rw[a7];omega
 have hb3:=cB w (.cells #[.bool an,.slice ao n ca,.int .i64 e] 33) (.cells #[.bool bn,.slice bo m cb,.int .i64 f] 33) (.cells #[.bool false,.slice none 0 0,.int .i64 0] 33)
 have g0:=kh w (.cells #[.bool an,.slice ao n ca,.int .i64 e] 33) (.cells #[.bool bn,.slice bo m cb,.int .i64 f] 33) (.cells #[.bool false,.slice none 0 0,.int .i64 0] 33)
 have g1:=ki w (.cells #[.bool an,.slice ao n ca,.int .i64 e] 33) (.cells #[.bool bn,.slice bo m cb,.int .i64 f] 33) (.cells #[.bool false,.slice none 0 0,.int .i64 0] 33)
 have g2:=il w (.cells #[.bool an,.slice ao n ca,.int .i64 e] 33) (.cells #[.bool bn,.slice bo m cb,.int .i64 f] 33) (.cells #[.bool false,.slice none 0 0,.int .i64 0] 33)
 have hs3:=gZ w (.cells #[.bool an,.slice ao n ca,.int .i64 e] 33) (.cells #[.bool bn,.slice bo m cb,.int .i64 f] 33) (.cells #[.bool false,.slice none 0 0,.int .i64 0] 33)
 go_enter func155,ntmps155
 go_wp2_with fail
 have HX:=hx.keeps hb3
 have HY:=hy.keeps hb3
 generalize ((w.alloc (.cells #[.bool an,.slice ao n ca,.int .i64 e] 33)).alloc (.cells #[.bool bn,.slice bo m cb,.int .i64 f] 33)).alloc (.cells #[.bool false,.slice none 0 0,.int .i64 0] 33)=wx at hb3 g0 g1 g2 hs3 HX HY ⊢
 have k0:=ac g0 0 rfl
 have k1:=ac g0 1 rfl
 have k2:=ac g0 2 rfl
 have j0:=ac g1 0 rfl
 have j1:=ac g1 1 rfl
 have j2:=ac g1 2 rfl
 have hb1:=ap wx
 have C1:∀ W,Below wx.heap.size wx W->Calls prog 161 #[.slice ao n ca,.slice bo m cb] W fun r w'=>∃ so sn sc,r=.returned (.slice so sn sc)∧cn W w' (val a n*val b m) (.slice so sn sc)∧Below W.heap.size W w':=fun W h=>by
  refine(p8 ao bo n m ca cb a b W (HX.keeps h) (HY.keeps h) s1.1 t1.1 (by omega) (by omega)).mono ?_
  rintro r w' ⟨v,rfl,hA⟩
  obtain⟨so,sn,sc,rfl⟩:=hA.num.shape
  exact⟨so,sn,sc,rfl,hA,hA.below⟩
 go_region_held3 (fun W=>(W.cell? ⟨w.heap.size,0,none⟩=some (.bool an)∧W.cell? ⟨w.heap.size,1,none⟩=some (.slice ao n ca)∧W.cell? ⟨w.heap.size,2,none⟩=some (.int .i64 e))∧W.cell? ⟨w.heap.size+1,0,none⟩=some (.bool bn)∧W.cell? ⟨w.heap.size+1,1,none⟩=some (.slice bo m cb)∧W.cell? ⟨w.heap.size+1,2,none⟩=some (.int .i64 f))
  (first|assumption|exact⟨⟨k0,k1,k2⟩,j0,j1,j2⟩|exact⟨fY (W:=wx.drew) ⟨k0,k1,k2⟩ hbv1,fY (W:=wx.drew) ⟨j0,j1,j2⟩ hbv1⟩|exact⟨eR (fY (W:=wx.drew) ⟨k0,k1,k2⟩ hbv1) (by omega) _ _ _,eR (fY (W:=wx.drew) ⟨j0,j1,j2⟩ hbv1) (by omega) _ _ _⟩)
  (first|(go_at_call 161;refine(C1 _ hb1.drew).mono ?_;rintro y w3 ⟨so,sn,sc,rfl,hv,hbv1⟩;have q0:=(hbv1.block (w.heap.size+2) (by show _<wx.heap.size;omega)).trans g2;have x0:=ac q0 0 rfl;have x1:=ac q0 1 rfl;have x2:=ac q0 2 rfl;have z0:=aq q0 0;have z1:=aq q0 1;have z2:=aq q0 2)|fail)
 all_goals go_wp2
 all_goals
  refine bodyPost_ret (v:=.agg #[.bool (!(an == bn)),.slice so sn sc,.int .i64 (e+f)]) (by simp[results,results155,go_sem,x0,x1,x2]) rfl ⟨_,rfl,?_⟩
  exact gu (g:=w.heap.size+2) (hv.from hb1.drew) hb3 (by omega) (by omega) _ _ _
theorem rP (x:aA) (w:World) (hx:aE w x.ao x.n x.cap x.d) :
  Calls prog 73 #[x.v] w fun r w'=>r=.returned (.tuple #[.int .i64 (if cQ x then sgn x.ng x.n else 0),.int .i64 (if cQ x then 0 else 11)])∧Below w.heap.size w w':=by
 have hV:=fun W hb=>gY x.ng x.ao x.n x.cap x.d x.e W (hx.keeps hb)
 have hS:=fun W=>m6 x.ng x.ao x.n x.cap x.e W (by have:=hx.le;have:=hx.max;omega)
 have hk:gV x.ng x.d x.n x.e=cQ x:=rfl
 rw[hk] at hV
 unfold aA.v
 generalize cQ x=ok at *
 obtain⟨an,ao,n,ca,a,e⟩:=x
 simp only at *
 cases ok
 ·go_enter func73,ntmps73
  go_wp2_with fail
  refine(hV _ (ah _ _)).mono ?_
  rintro r w1 ⟨rfl,hb1⟩
  go_wp2
  go_ret2
  exact⟨rfl,af (ah _ _) hb1⟩
 ·go_enter func73,ntmps73
  go_wp2_with fail
  refine(hV _ (ah _ _)).mono ?_
  rintro r w1 ⟨rfl,hb1⟩
  have g0:=(hb1.block w.heap.size (by rw[dV];omega)).trans (aK _ _)
  have k0:=ac g0 0 rfl
  have k1:=ac g0 1 rfl
  have k2:=ac g0 2 rfl
  go_wp2_with fail
  refine(hS _).mono ?_
  rintro r w2 ⟨rfl,hb2⟩
  go_wp2
  go_ret2
  exact⟨rfl,af (af (ah _ _) hb1) hb2⟩
theorem oK (ng:Bool) (x:aA) (w:World) (hx:aE w x.ao x.n x.cap x.d) (sx:df x) :
  Calls prog 138 #[.bool ng,x.v] w fun r w'=>∃ s,r=.returned (.agg #[.bool (ng&&decide (0<x.n)),s,.int .i64 x.e])∧cn w w' (val x.d x.n) s:=by
 have hC:∀ W,Below w.heap.size w W->Calls prog 156 #[.slice x.ao x.n x.cap] W fun r w'=>∃ so sn sc,r=.returned (.slice so sn sc)∧cn W w' (val x.d x.n) (.slice so sn sc)∧Below W.heap.size W w':=fun W hb=>by
  refine(tv (w:=W) (ao:=x.ao) (n:=x.n) (cap:=x.cap) (A:=val x.d x.n) ⟨_,_,_,_,rfl,hx.keeps hb,sx.1,rfl⟩ (by have:=sx.2.1;omega)).mono ?_
  rintro r w' ⟨v,rfl,hA⟩
  obtain⟨so,sn,sc,rfl⟩:=hA.num.shape
  exact⟨so,sn,sc,rfl,hA,hA.below⟩
 obtain⟨an,ao,n,ca,a,e⟩:=x
 unfold aA.v
 simp only at *
 have hb2:=aL w (.cells #[.bool an,.slice ao n ca,.int .i64 e] 33) (.cells #[.bool false,.slice none 0 0,.int .i64 0] 33)
 have g0:=cl w (.cells #[.bool an,.slice ao n ca,.int .i64 e] 33) (.cells #[.bool false,.slice none 0 0,.int .i64 0] 33)
 have g1:=bR w (.cells #[.bool an,.slice ao n ca,.int .i64 e] 33) (.cells #[.bool false,.slice none 0 0,.int .i64 0] 33)
 have hs:=eQ w (.cells #[.bool an,.slice ao n ca,.int .i64 e] 33) (.cells #[.bool false,.slice none 0 0,.int .i64 0] 33)
 have hdn:decide ((0:Int)<n)=decide (0<n):=by simp
 cases ng
 ·
  go_enter func138,ntmps138
  go_wp2_with fail
  generalize (w.alloc (.cells #[.bool an,.slice ao n ca,.int .i64 e] 33)).alloc (.cells #[.bool false,.slice none 0 0,.int .i64 0] 33)=wx at hb2 g0 g1 hs ⊢
  have k0:=ac g0 0 rfl
  have k1:=ac g0 1 rfl
  have k2:=ac g0 2 rfl
  have hb1:=ap wx
  refine wp_region_held_drew (S:=fun W=>W.cell? ⟨w.heap.size,0,none⟩=some (.bool an)∧W.cell? ⟨w.heap.size,1,none⟩=some (.slice ao n ca)∧W.cell? ⟨w.heap.size,2,none⟩=some (.int .i64 e)) (by kernel_rfl) ⟨k0,k1,k2⟩ (fun hHeld=>?_)
  refine wpAnyH_take (i:=0) (v:=?_) rfl (by kernel_rfl) (by kernel_rfl) (by kernel_rfl) (fun _ _ _ h=>h) (Or.inl ⟨by rfl,?_⟩) (by assumption) ?_
  rotate_left
  ·intro w hSw;(try dsimp only at hSw);go_simp;first|done|with_reducible rfl
  simp only[Act.put,List.setIfInBounds_toArray,List.set_cons_zero,List.set_cons_succ]
  refine wpAnyH_take (i:=1) (v:=?_) rfl (by kernel_rfl) (by kernel_rfl) (by kernel_rfl) (fun _ _ _ h=>h) (Or.inl ⟨by rfl,?_⟩) (by assumption) ?_
  rotate_left
  ·intro w hSw;(try dsimp only at hSw);go_simp;first|done|with_reducible rfl
  simp only[Act.put,List.setIfInBounds_toArray,List.set_cons_zero,List.set_cons_succ]
  refine wpAnyH_take (i:=2) (v:=undef) rfl (by kernel_rfl) (by kernel_rfl) (by kernel_rfl) (fun _ _ _ h=>h) (Or.inr ⟨by rfl,rfl⟩) (by assumption) ?_
  simp only[Act.put,List.setIfInBounds_toArray,List.set_cons_zero,List.set_cons_succ]
  refine wpAnyH_take (i:=3) (v:=undef) rfl (by kernel_rfl) (by kernel_rfl) (by kernel_rfl) (fun _ _ _ h=>h) (Or.inr ⟨by rfl,rfl⟩) (by assumption) ?_
  simp only[Act.put,List.setIfInBounds_toArray,List.set_cons_zero,List.set_cons_succ]
  refine wpAnyH_take (i:=4) (v:=undef) rfl (by kernel_rfl) (by kernel_rfl) (by kernel_rfl) (fun _ _ _ h=>h) (Or.inr ⟨by rfl,rfl⟩) (by assumption) ?_
  simp only[Act.put,List.setIfInBounds_toArray,List.set_cons_zero,List.set_cons_succ]
  refine wpAnyH_take (i:=5) (v:=undef) rfl (by kernel_rfl) (by kernel_rfl) (by kernel_rfl) (fun _ _ _ h=>h) (Or.inr ⟨by rfl,rfl⟩) (by assumption) ?_
  simp only[Act.put,List.setIfInBounds_toArray,List.set_cons_zero,List.set_cons_succ]
  refine wpAnyH_take (i:=6) (v:=?_) rfl (by kernel_rfl) (by kernel_rfl) (by kernel_rfl) (fun _ _ _ h=>h) (Or.inl ⟨by rfl,?_⟩) (by assumption) ?_
  rotate_left
  ·intro w hSw;(try dsimp only at hSw);go_simp;first|done|with_reducible rfl
  simp only[Act.put,List.setIfInBounds_toArray,List.set_cons_zero,List.set_cons_succ]
  refine wpAnyH_take (i:=7) (v:=?_) rfl (by kernel_rfl) (by kernel_rfl) (by kernel_rfl) (fun _ _ _ h=>h) (Or.inl ⟨by rfl,?_⟩) (by assumption) ?_
  rotate_left
  ·intro w hSw;(try dsimp only at hSw);go_simp;first|done|with_reducible rfl
  simp only[Act.put,List.setIfInBounds_toArray,List.set_cons_zero,List.set_cons_succ]
  refine wpAnyH_take (i:=8) (v:=?_) rfl (by kernel_rfl) (by kernel_rfl) (by kernel_rfl) (fun _ _ _ h=>h) (Or.inl ⟨by rfl,?_⟩) (by assumption) ?_
  rotate_left
  ·intro w hSw;(try dsimp only at hSw);go_simp;first|done|with_reducible rfl
  simp only[Act.put,List.setIfInBounds_toArray,List.set_cons_zero,List.set_cons_succ]
  refine wpAnyH_take (i:=10) (v:=?_) rfl (by kernel_rfl) (by kernel_rfl) (by kernel_rfl) (fun _ _ _ h=>h) (Or.inl ⟨by rfl,?_⟩) (by assumption) ?_
  rotate_left
  ·intro w hSw;(try dsimp only at hSw);go_simp;first|done|with_reducible rfl
  simp only[Act.put,List.setIfInBounds_toArray,List.set_cons_zero,List.set_cons_succ]
  refine wpAnyH_take (i:=11) (v:=?_) rfl (by kernel_rfl) (by kernel_rfl) (by kernel_rfl) (fun _ _ _ h=>h) (Or.inl ⟨by rfl,?_⟩) (by assumption) ?_
  rotate_left
  ·intro w hSw;(try dsimp only at hSw);go_simp;first|done|with_reducible rfl
  simp only[Act.put,List.setIfInBounds_toArray,List.set_cons_zero,List.set_cons_succ]
  refine wpAnyH_ready (rs:=[9]) (by kernel_rfl) (by simp) ?_
  refine AllReadyH.cons rfl (fun K hK=>?_) AllReadyH.nil
  go_simp
  refine(hC _ (af hb2 hb1.drew)).mono ?_
  rintro y w3 ⟨so,sn,sc,rfl,hv,hbv1⟩
  have q0:=(hbv1.block (w.heap.size+1) (by show _<wx.heap.size;omega)).trans g1
  have x0:=ac q0 0 rfl
  have x1:=ac q0 1 rfl
  have x2:=ac q0 2 rfl
  have z0:=aq q0 0
  have z1:=aq q0 1
  have z2:=aq q0 2
  refine hK.out _ _ (fY (W:=wx.drew) ⟨k0,k1,k2⟩ hbv1) (fun hHeld2=>?_)
  clear hK K hHeld
  try simp only[Act.put,List.setIfInBounds_toArray,List.set_cons_zero,List.set_cons_succ]
  refine wpAnyH_take (i:=12) (v:=?_) rfl (by kernel_rfl) (by kernel_rfl) (by kernel_rfl) (fun _ _ _ h=>h) (Or.inl ⟨by rfl,?_⟩) (by assumption) ?_
  rotate_left
  ·intro w hSw;(try dsimp only at hSw);go_simp;first|done|with_reducible rfl
  simp only[Act.put,List.setIfInBounds_toArray,List.set_cons_zero,List.set_cons_succ]
  refine wpAnyH_ready (rs:=[13]) (by kernel_rfl) (by simp) ?_
  refine AllReadyH.cons rfl (fun K hK=>?_) AllReadyH.nil
  go_simp
  refine hK.out _ _ (eR hHeld2 (by omega) _ _ _) (fun hHeld3=>?_)
  clear hK K
  refine wpAnyH_done (by kernel_rfl) ?_ _
  all_goals go_wp2
  all_goals
   refine bodyPost_ret (v:=.agg #[.bool false,.slice so sn sc,.int .i64 e]) (by simp[results,results138,go_sem,x0,x1,x2]) rfl ⟨_,rfl,?_⟩
   exact gu (g:=w.heap.size+1) (hv.from hb1.drew) hb2 (by omega) (by omega) _ _ _
 ·
  go_enter func138,ntmps138
  go_wp2_with fail
  generalize (w.alloc (.cells #[.bool an,.slice ao n ca,.int .i64 e] 33)).alloc (.cells #[.bool false,.slice none 0 0,.int .i64 0] 33)=wx at hb2 g0 g1 hs ⊢
  have k0:=ac g0 0 rfl
  have k1:=ac g0 1 rfl
  have k2:=ac g0 2 rfl
  have hb1:=ap wx
  go_region_held3 (fun W=>W.cell? ⟨w.heap.size,0,none⟩=some (.bool an)∧W.cell? ⟨w.heap.size,1,none⟩=some (.slice ao n ca)∧W.cell? ⟨w.heap.size,2,none⟩=some (.int .i64 e))
   (first|assumption|exact⟨k0,k1,k2⟩|exact fY (W:=wx.drew) ⟨k0,k1,k2⟩ hbv1|exact eR (fY (W:=wx.drew) ⟨k0,k1,k2⟩ hbv1) (by omega) _ _ _)
   (first|(go_at_call 156;refine(hC _ (af hb2 hb1.drew)).mono ?_;rintro y w3 ⟨so,sn,sc,rfl,hv,hbv1⟩;have q0:=(hbv1.block (w.heap.size+1) (by show _<wx.heap.size;omega)).trans g1;have x0:=ac q0 0 rfl;have x1:=ac q0 1 rfl;have x2:=ac q0 2 rfl;have z0:=aq q0 0;have z1:=aq q0 1;have z2:=aq q0 2)|fail)
  all_goals go_wp2
  all_goals
   refine bodyPost_ret (v:=.agg #[.bool (decide (0<n)),.slice so sn sc,.int .i64 e]) (by simp[results,results138,go_sem,x0,x1,x2]) rfl ⟨_,rfl,?_⟩
   exact gu (g:=w.heap.size+1) (hv.from hb1.drew) hb2 (by omega) (by omega) _ _ _
theorem yI {x:aA} (h:cQ x=true):Dy (-x.V) (!x.ng&&decide (0<x.n)) (val x.d x.n) x.e:=by
 have hd:=(im h).1
 by_cases h0:0<x.n
 ·have hv:=eJ (cd h).1 h0
  have:=hd.neg hv
  simpa [h0] using this
 ·rcases of_decide_eq_true h with⟨h1,h2,h3⟩|⟨h1,_⟩
  ·have hv:val x.d x.n=0:=by rw[h1];rfl
   have:=hd.eq_zero.2 hv
   rw[this,hv,h3]
   simpa [h0] using Dy.zero
  ·omega
theorem xx (x:aA) (w:World) (hx:aE w x.ao x.n x.cap x.d) (ok:cQ x=true) :
  Calls prog 114 #[x.v] w fun r w'=>∃ v,r=.returned (.tuple #[v,.int .i64 0])∧aR w w' (-x.V) v:=by
 have hV:=fun W hb=>gY x.ng x.ao x.n x.cap x.d x.e W (hx.keeps hb)
 have hS:=fun W hb=>oK (!x.ng) x W (hx.keeps hb) (cd ok)
 have hy:Dy (-x.V) (!x.ng&&decide (0<x.n)) (val x.d x.n) x.e:=yI ok
 have hk:gV x.ng x.d x.n x.e=cQ x:=rfl
 rw[hk,ok] at hV
 clear ok hk
 generalize -x.V=V at hy ⊢
 unfold aA.v at hS ⊢
 obtain⟨an,ao,n,ca,a,e⟩:=x
 simp only at *
 go_enter func114,ntmps114
 go_wp2_with fail
 refine(hV _ (aL _ _ _)).mono ?_
 rintro r w1 ⟨rfl,hb1⟩
 have hbw:=af (aL w _ _) hb1
 have g0:=(hb1.block w.heap.size (by rw[eQ];omega)).trans (cl _ _ _)
 have g1:=(hb1.block (w.heap.size+1) (by rw[eQ];omega)).trans (bR _ _ _)
 have hs2:w.heap.size+2<=w1.heap.size:=by have:=hb1.size;rw[eQ] at this;exact this
 have k0:=ac g0 0 rfl
 have k1:=ac g0 1 rfl
 have k2:=ac g0 2 rfl
 go_wp2_with fail
 refine(hS _ hbw).mono ?_
 rintro r w3 ⟨s,rfl,hA⟩
 obtain⟨so,sn,sc,rfl⟩:=hA.num.shape
 have q0:=(hA.below.block (w.heap.size+1) (by omega)).trans g1
 have x0:=ac q0 0 rfl
 have x1:=ac q0 1 rfl
 have x2:=ac q0 2 rfl
 have z0:=aq q0 0
 have z1:=aq q0 1
 have z2:=aq q0 2
 generalize hsg:(!an&&decide (0<n))=sgx at *
 go_wp2
 refine bodyPost_ret (v:=.tuple #[.agg #[.bool sgx,.slice so sn sc,.int .i64 e],.int .i64 0]) (by simp[results,results114,go_sem,x0,x1,x2]) rfl ⟨_,rfl,?_⟩
 exact⟨_,_,_,_,rfl,hy,gu (g:=w.heap.size+1) hA hbw (by omega) (by omega) _ _ _⟩
theorem nt {a b p:Int} (hp:0<p):aW (a*p) (b*p)=aW a b:=by
 rcases Int.lt_trichotomy a b with h|h|h
 ·rw[cX h,cX (Int.mul_lt_mul_of_pos_right h hp)]
 ·rw[eG h,eG (by rw[h])]
 ·rw[cY h,cY (Int.mul_lt_mul_of_pos_right h hp)]
theorem bt {W w':World} {g h:Nat} {a b c d e f:Value} (hb:Below W.heap.size W w') (hS:(W.cell? ⟨g,0,none⟩=some a∧W.cell? ⟨g,1,none⟩=some b∧W.cell? ⟨g,2,none⟩=some c)∧W.cell? ⟨h,0,none⟩=some d∧W.cell? ⟨h,1,none⟩=some e∧W.cell? ⟨h,2,none⟩=some f) :
  (w'.cell? ⟨g,0,none⟩=some a∧w'.cell? ⟨g,1,none⟩=some b∧w'.cell? ⟨g,2,none⟩=some c)∧w'.cell? ⟨h,0,none⟩=some d∧w'.cell? ⟨h,1,none⟩=some e∧w'.cell? ⟨h,2,none⟩=some f :=
 ⟨fY hS.1 hb,fY hS.2 hb⟩
theorem zZ {x:aA} (sx:df x):(sgn x.ng x.n=0∧x.V=0∧x.n=0)∨(sgn x.ng x.n=1∧0<x.V∧0<x.n∧x.ng=false)∨(sgn x.ng x.n=-1∧x.V<0∧0<x.n∧x.ng=true):=by
 by_cases h0:x.n=0
 ·left
  refine⟨by simp[sgn,h0],?_,h0⟩
  show sg x.ng (val x.d x.n)*_=0
  rw[h0]
  show sg x.ng 0*_=0
  rw[dG,Int.zero_mul]
 ·right
  have hp:=Int.mul_pos (eJ sx.1 (show 0<x.n by omega)) (bX x.e)
  have hV:x.V=sg x.ng (val x.d x.n)*pw x.e:=rfl
  cases hg:x.ng
  ·left
   rw[hg] at hV
   exact⟨by simp[sgn,h0],by rw[hV];exact hp,by omega,rfl⟩
  ·right
   rw[hg] at hV
   refine⟨by simp[sgn,h0],?_,by omega,rfl⟩
   rw[hV]
   show -val x.d x.n*pw x.e<0
   rw[Int.neg_mul];omega
theorem qH (a b:Int):aW (-a) (-b)=-aW a b:=by
 rcases Int.lt_trichotomy a b with h|h|h
 ·rw[cX h,cY (by omega)];rfl
 ·rw[eG h,eG (by omega)];rfl
 ·rw[cY h,cX (by omega)]
theorem aM.open {w:World} {v:Value} {V:Int} (h:aM w v V) (ok:cK V):∃ x:aA,v=x.v∧aE w x.ao x.n x.cap x.d∧cQ x=true∧x.V=V:=by
 obtain⟨ng,s,m,e,rfl,hy,ao,n,cap,d,rfl,hR,hN,rfl⟩:=h
 refine⟨⟨ng,ao,n,cap,d,e⟩,rfl,hR,?_,hy.val.symm⟩
 obtain⟨o1,o2,o3⟩:=hy.ok.1 ok
 refine decide_eq_true ?_
 by_cases h0:n=0
 ·left
  have hz:val d n=0:=by rw[h0];rfl
  rcases hy.form with⟨_,f2,f3⟩|⟨f1,_⟩
  ·exact⟨h0,f2,f3⟩
  ·omega
 ·right
  have hp:=eJ hN (show 0<n by omega)
  rcases hy.form with⟨f1,_⟩|⟨_,f2⟩
  ·omega
  ·refine⟨by show 0<n;omega,⟨?_,hN⟩,?_,o2,o3⟩
   ·exact bz.len (w:=w) (ao:=ao) (cap:=cap) ⟨_,_,_,_,rfl,hR,hN,rfl⟩ o1
   ·obtain⟨k,hk⟩:∃ k,n=1+k:=⟨n-1,by omega⟩
    have:=dz d 1 k
    rw[<- hk] at this
    rw[this,show val d 1=d 0 by show 0+d 0*1=_;omega,show P 1=1073741824 from rfl] at f2
    show d 0 % 2=1
    omega
theorem fG.yes {w w':World} {V er:Int} {v:Value} (h:fG w w' V v er) (ok:cK V):er=0∧aR w w' V v:=by
 rcases h.2 with⟨_,h1,h2⟩|⟨hn,_⟩
 ·exact⟨h1,h2⟩
 ·exact absurd ok hn
theorem z9 {w:World} {x y:Value} {A B:Int} (hx:aM w x A) (hy:aM w y B) (oA:cK A) (oB:cK B) (hT:dU w) :
  Calls prog 79 #[x,y] w fun r w'=>∃ v er,r=.returned (.tuple #[v,.int .i64 er])∧fG w w' (A-B) v er:=by
 obtain⟨x,rfl,hR,ok,rfl⟩:=hx.open oA
 obtain⟨y,rfl,hR',ok',rfl⟩:=hy.open oB
 exact xw x y w hR hR' ok ok' hT
theorem yJ {w:World} {x:Value} {A:Int} (hx:aM w x A) (oA:cK A) :
  Calls prog 73 #[x] w fun r w'=>r=.returned (.tuple #[.int .i64 (aW A 0),.int .i64 0])∧Below w.heap.size w w':=by
 obtain⟨x,rfl,hR,ok,rfl⟩:=hx.open oA
 have:=rP x w hR
 rw[ok] at this
 have e:sgn x.ng x.n=aW x.V 0:=by
  rcases zZ (cd ok) with⟨a,b,_⟩|⟨a,b,_⟩|⟨a,b,_⟩
  ·rw[a,b,eG rfl]
  ·rw[a,cY b]
  ·rw[a,cX b]
 rw[<- e]
 exact this
theorem Aa {w:World} {x:Value} {A:Int} (hx:aM w x A) (oA:cK A) :
  Calls prog 114 #[x] w fun r w'=>∃ v,r=.returned (.tuple #[v,.int .i64 0])∧aR w w' (-A) v:=by
 obtain⟨x,rfl,hR,ok,rfl⟩:=hx.open oA
 exact xx x w hR ok
end Go.Proofs.YtcklaogdjpbagaaGreatDoor
