/- Parts of the proof. -/
import Derived.Test.YtcklaogdjpbagaaGreatDoorSp5
import Derived.Test.YtcklaogdjpbagaaGreatDoorSp2
import Derived.Test.YtcklaogdjpbagaaGreatDoorSp3
import Derived.Test.YtcklaogdjpbagaaGreatDoorSp4
import Derived.Deep.LoopGhost
import Derived.Deep.RegionWith
import Derived.Laws.Externs
import Derived.Laws.Cover2
import Derived.Test.YtcklaogdjpbagaaGreatDoorSp1
import Derived.Deep.RegionHeld3
set_option maxRecDepth 100000
set_option maxHeartbeats 8000000
set_option linter.unusedVariables false
set_option linter.unusedSimpArgs false
namespace Go.Proofs.YtcklaogdjpbagaaGreatDoor
open Go Go.RowKit Go.Proofs.YtcklaogdjpbagaaGreatDoor.M
structure kS (w:World):Prop where
 a0:w.cell? ⟨1,0,none⟩=some (.int .i64 52)
 a1:w.cell? ⟨1,1,none⟩=some (.int .i64 2047)
 a2:w.cell? ⟨1,2,none⟩=some (.int .i64 (-1074))
theorem kS.keeps {w w':World} (h:kS w) (hb:Below w.heap.size w w'):kS w':=⟨aP h.a0 hb,aP h.a1 hb,aP h.a2 hb⟩
theorem uU (b:Int) (w:World) (L:kS w) :
  Calls Tryz.prog 103 #[.int .i64 b] w fun e w'=>e=.returned (.tuple #[.bool (dV b),.int .i64 (bI b),.int .i64 (bK b),.bool (aF b)])∧Below w.heap.size w w':=by
 obtain⟨a0,a1,a2⟩:=L
 by_cases h:aF b=true
 all_goals
  go_enter Tryz.func103,Tryz.ntmps103
  go_wp2_with (go_at_call 122;refine(AC _ _).mono ?_;rintro e w1 ⟨rfl,hg⟩)
  refine bodyPost_ret (v:=.tuple #[.bool (dV b),.int .i64 (bI b),.int .i64 (bK b),.bool (aF b)]) (by simp[results,Tryz.results103,go_sem,dV,h]) rfl ⟨rfl,hg.be⟩
theorem gd {b:Int} (hp:aF b=true):0<=bI b∧bI b<9007199254740992∧-1074<=bK b∧bK b<=971:=by
 have hf:=jr b
 have hr:=iD b
 have h1:bT b≠2047:=by simpa [aF] using hp
 unfold bI bK
 rw[if_neg h1,if_neg h1]
 split<;>omega
theorem wA (x:Int) (w:World) (h0:0<=x) (h1:x<9223372036854775808) :
  Calls Tryz.prog 120 #[.int .i64 x] w fun e w'=>∃ v,e=.returned (.tuple #[v,.int .i64 0])∧cP w w' x v:=by
 have HX:=uP x w h0 h1
 have HX':Hid (Calls Tryz.prog 139 #[.int .i64 x] w fun e w'=>∃ v,e=.returned v∧cP w w' x v):=HX
 clear HX h1
 go_enter Tryz.func120,Tryz.ntmps120
 go_wp2_with fail
 refine HX'.out.mono ?_
 rintro e w2 ⟨v,rfl,hA⟩
 go_wp2
 go_ret2
 exact⟨_,rfl,hA⟩
theorem uV:9223372036854775808<P 2000:=by
 have:=gD (show 3<=2000 by omega)
 have e:P 3=1237940039285380274899124224:=rfl
 omega
theorem wB {ng:Bool} {M e:Int} (h0:0<=M) (h1:M<9223372036854775808) (e0:-1074<=e) (e1:e<=971):de (sg ng M*pw e):=by
 by_cases hz:M=0
 ·rw[hz,eg,Int.zero_mul];exact kC
 ·obtain⟨l,hl⟩:=ii (show 0<M by omega)
  have hy:=Dy.of ng hl (show 0<M by omega) (show -4194304<=e by omega)
  obtain⟨c1,c2,c3⟩:=ff hl (show 0<M by omega)
  have hp:=aJ l
  have hl63:l<63:=by
   have h3:(1:Int)*2^l<=M/2^l*2^l:=Int.mul_le_mul_of_nonneg_right (by omega) (by omega)
   rw[c3] at h3
   refine eG ?_
   rw[show(2:Int)^63=9223372036854775808 by decide]
   omega
  refine hy.ok.2 ⟨?_,by omega,by omega⟩
  have:M/2^l<=M:=Int.ediv_le_self _ h0
  have:=uV
  omega
theorem wC (ng:Bool) (M e:Int) (w:World) (hT:ec w) (h0:0<=M) (h1:M<9223372036854775808) (e0:-1074<=e) (e1:e<=971) :
  Calls Tryz.prog 102 #[.bool ng,.int .i64 M,.int .i64 e,.bool true] w fun r w'=>∃ v,r=.returned (.tuple #[v,.int .i64 0])∧aX w w' (sg ng M*pw e) v:=by
 have hok:=wB (ng:=ng) h0 h1 e0 e1
 go_enter Tryz.func102,Tryz.ntmps102
 go_wp2_with fail
 refine(wA M _ h0 h1).mono ?_
 rintro r w1 ⟨v,rfl,hA⟩
 obtain⟨so,sn,sc,d,rfl,hR,hN,hv⟩:=hA.num
 have hsn:sn<=100:=hA.num.len (k:=100) (by have:=gD (show 3<=100 by omega);have:P 3=1237940039285380274899124224:=rfl;omega)
 have hbw:=ac (ah w _) hA.below
 go_wp2_with fail
 refine(nM (V:=sg ng M*pw e) hR hN.1 (by omega) (hT.keeps hbw) (by omega) (by rw[hv])).mono ?_
 rintro r w7 (⟨_,v,rfl,hD⟩|⟨hno,_⟩)
 ·have hb7:=hD.below
  obtain⟨ng',s',m',e',rfl,hyy,hA2⟩:=id hD
  obtain⟨so',sn',sc',rfl⟩:=hA2.num.shape
  have q0:=((ac hA.below hb7).block w.heap.size (by rw[eH];omega)).trans (aC _ _)
  have x0:=af q0 0 rfl
  have x1:=af q0 1 rfl
  have x2:=af q0 2 rfl
  have z0:=av q0 0
  have z1:=av q0 1
  have z2:=av q0 2
  go_wp2
  refine bodyPost_ret (v:=.tuple #[.agg #[.bool ng',.slice so' sn' sc',.int .i64 e'],.int .i64 0]) (by simp[results,Tryz.results102,go_sem,x0,x1,x2]) rfl ⟨_,rfl,?_⟩
  exact bM (g:=w.heap.size) hD hbw (Nat.le_refl _) (Nat.lt_of_lt_of_le (by rw[eH];omega) hA.below.size) _ _ _
 ·exact absurd hok hno
theorem yx (ng:Bool) (M e:Int) (w:World) :
  Calls Tryz.prog 102 #[.bool ng,.int .i64 M,.int .i64 e,.bool false] w fun r w'=>r=.returned (.tuple #[dN,.int .i64 10])∧Below w.heap.size w w':=by
 go_enter Tryz.func102,Tryz.ntmps102
 go_wp2
 refine bodyPost_ret (v:=.tuple #[dN,.int .i64 10]) (by simp[results,Tryz.results102,go_sem,dN]) rfl ⟨rfl,?_⟩
 exact ah _ _
theorem AJ (b:Int) (w:World) (L:kS w) (hT:ec w) :
  Calls Tryz.prog 78 #[.int .i64 b] w fun r w'=>∃ v er,r=.returned (.tuple #[v,.int .i64 er])∧Below w.heap.size w w'∧((aF b=true∧er=0∧aX w w' (sg (dV b) (bI b)*pw (bK b)) v)∨(aF b=false∧er=10∧v=dN)):=by
 have hVy:aF b=true->∀ W,Below w.heap.size w W->Calls Tryz.prog 102 #[.bool (dV b),.int .i64 (bI b),.int .i64 (bK b),.bool true] W fun r w'=>∃ v,r=.returned (.tuple #[v,.int .i64 0])∧aX W w' (sg (dV b) (bI b)*pw (bK b)) v:=fun hp W hb=>by
  have hi:=gd hp
  exact wC _ _ _ W (hT.keeps hb) (by omega) (by omega) (by omega) (by omega)
 have hP:=fun W hb=>uU b W (L.keeps hb)
 generalize sg (dV b) (bI b)*pw (bK b)=V at hVy ⊢
 generalize dV b=ng at *
 generalize bI b=mg at *
 generalize bK b=ex at *
 clear L hT
 cases hp:aF b
 ·rw[hp] at hP hVy
  go_enter Tryz.func78,Tryz.ntmps78
  go_wp2_with fail
  refine(hP _ (ah _ _)).mono ?_
  rintro r w1 ⟨rfl,hb1⟩
  go_wp2_with fail
  refine(yx _ _ _ _).mono ?_
  unfold dN
  rintro r w2 ⟨rfl,hb2⟩
  have hbw:=ac (ah w (.cells #[.bool false,.slice none 0 0,.int .i64 0] 33)) (ac hb1 hb2)
  have q0:=((ac hb1 hb2).block w.heap.size (by rw[eH];omega)).trans (aC _ _)
  have x0:=af q0 0 rfl
  have x1:=af q0 1 rfl
  have x2:=af q0 2 rfl
  have z0:=av q0 0
  have z1:=av q0 1
  have z2:=av q0 2
  go_wp2
  refine bodyPost_ret (v:=.tuple #[dN,.int .i64 10]) (by simp[results,Tryz.results78,go_sem,x0,x1,x2,dN]) rfl ⟨_,_,rfl,?_,.inr ⟨by trivial,rfl,rfl⟩⟩
  exact dE hbw (Nat.le_refl _) _ _ _
 ·rw[hp] at hP hVy
  go_enter Tryz.func78,Tryz.ntmps78
  go_wp2_with fail
  refine(hP _ (ah _ _)).mono ?_
  rintro r w1 ⟨rfl,hb1⟩
  have hbw:=ac (ah w (.cells #[.bool false,.slice none 0 0,.int .i64 0] 33)) hb1
  go_wp2_with fail
  refine(hVy (by trivial) _ hbw).mono ?_
  rintro r w2 ⟨v,rfl,hD⟩
  obtain⟨ng',s',m',e',rfl,hyy,hA2⟩:=id hD
  obtain⟨so',sn',sc',rfl⟩:=hA2.num.shape
  have q0:=((ac hb1 hD.below).block w.heap.size (by rw[eH];omega)).trans (aC _ _)
  have x0:=af q0 0 rfl
  have x1:=af q0 1 rfl
  have x2:=af q0 2 rfl
  have z0:=av q0 0
  have z1:=av q0 1
  have z2:=av q0 2
  go_wp2
  refine bodyPost_ret (v:=.tuple #[.agg #[.bool ng',.slice so' sn' sc',.int .i64 e'],.int .i64 0]) (by simp[results,Tryz.results78,go_sem,x0,x1,x2]) rfl ⟨_,_,rfl,?_,.inl ⟨by trivial,rfl,?_⟩⟩
  ·exact dE (ac hbw hD.below) (Nat.le_refl _) _ _ _
  ·exact bM (g:=w.heap.size) hD hbw (Nat.le_refl _) (Nat.lt_of_lt_of_le (by rw[eH];omega) hb1.size) _ _ _
def fK (way:Int) (ng:Bool):Int:=if cK way ng true 3 then 9218868437227405312 else 9218868437227405311
def aK (ng:Bool) (r:Int):Int:=if ng then r-9223372036854775808 else r
theorem qU.keeps {w w':World} (h:qU w) (hb:Below w.heap.size w w'):qU w' :=
 ⟨⟨aP h.lays.a0 hb,aP h.lays.a1 hb,aP h.lays.a2 hb,trivial,trivial,trivial⟩,fun j hj=>aP (h.tab j hj) hb⟩
def pI (way:Int) (ng sd:Bool) (mag:Nat) (exp:Int) (cut:Bool):Int × Bool :=
 let E:=rE 53 (-1074) mag exp
 let u:=rU mag (E-exp)
 let left:=rL mag cut (E-exp)
 let U:=u+(if cK way ng (decide (u % 2=1)) left then 1 else 0)
 let neg:=ng&&(decide (0<U)||sd)
 if jk 52 2047 (-1074) U E then (jp neg U E,decide (left≠0)) else (aK neg (fK way neg),true)
theorem bQ.parts {w:World} {v:Value} {V:Int} (h:bQ w v V) {k:Nat} (hV:V<P k):∃ ao n cap d,v=.slice ao n cap∧aM w ao n cap d∧bZ d n∧val d n=V∧n<=k:=by
 obtain⟨ao,n,cap,rfl⟩:=h.shape
 have hl:=h.len hV
 obtain⟨ao',n',cap',d,e,hR,h2,h3⟩:=h
 simp only[Value.slice.injEq] at e
 obtain⟨rfl,rfl,rfl⟩:=e
 exact⟨ao,n,cap,d,rfl,hR,h2,h3,hl⟩
def vK (M:Int):Nat:=aH M-62
theorem yy {M:Int} (h:0<=M):0<=M/2^vK M∧M/2^vK M<4611686018427387904:=by
 have hp:=aJ (vK M)
 refine⟨Int.ediv_nonneg h (by omega),?_⟩
 have h1:=ic M
 have h2:(2:Int)^aH M<=2^(62+vK M):=di (by unfold vK;omega)
 have e:(2:Int)^(62+vK M)=4611686018427387904*2^vK M:=by rw[Int.pow_add];rfl
 exact Int.ediv_lt_of_lt_mul hp (by omega)
def Ej (A k:Int):Int:=if 0<=k then A*2^k.toNat else A/2^(-k).toNat
def EL (A k:Int):Bool:=if 0<=k then false else decide (A % 2^(-k).toNat≠0)
def qK (A B:Int):Int:=62+(aH B:Int)-(aH A:Int)
def yz (way:Int) (a b:aG):Int × Bool:=pI way (a.ng != b.ng) false (Ej (val a.d a.n) (qK (val a.d a.n) (val b.d b.n))/val b.d b.n).toNat (a.e-b.e-qK (val a.d a.n) (val b.d b.n)) (EL (val a.d a.n) (qK (val a.d a.n) (val b.d b.n))||decide (Ej (val a.d a.n) (qK (val a.d a.n) (val b.d b.n)) % val b.d b.n≠0))
theorem nN (n:Int) (w:World):(callFunc 75 #[.int .u64 n]).run Tryz.prog w=.ok (.value (.float .f64 n.toNat)) w:=by
 rw[run_callFunc_extern Tryz.func75 (by kernel_rfl) (by kernel_rfl) (by kernel_rfl) (e:=Extern.MathFloatBits.float64frombits) (by kernel_rfl)]
 rfl
theorem pJ {k:FloatKind} {a b:Nat} (h:a=b):Ending.returned (.float k a)=.returned (.float k b):=by rw[h]
theorem dM (b:Int) (w:World) :
  Calls Tryz.prog 74 #[.int .i64 b] w fun e w'=>e=.returned (.float .f64 (wd b))∧w'=w:=by
 have hd:=nN
 go_enter Tryz.func74,Tryz.ntmps74
 go_wp2
 go_ret
 exact⟨pJ (by rw[IntKind.wrap_u64];rfl),rfl⟩
theorem fO {p:Prop} (h:p):Hid p:=h
theorem lO (b:Int) (w:World) (hb:ax b) :
  Calls Tryz.prog 147 #[.int .i64 b] w fun e w'=>e=.returned (.tuple #[.bool (decide (b<0)),.int .i64 (bT b),.int .i64 (cn b)])∧w'=w:=by
 unfold ax at hb
 by_cases h:b<0
 all_goals
  go_enter Tryz.func147,Tryz.ntmps147
  go_wp2
  go_ret3
  exact⟨Az (by simp;try omega) (by unfold bT;omega) (by unfold cn;omega),rfl⟩
theorem BQ (f t most:Int) (w:World) (hf:0<=f) (ht:0<=t) :
  Calls Tryz.prog 152 #[.int .i64 f,.int .i64 t,.int .i64 most] w fun e w'=>e=.returned (.int .i64 (qL f t most))∧w'=w:=by
 by_cases h1:f=most
 ·subst h1
  by_cases h2:t=0
  all_goals
   go_enter Tryz.func152,Tryz.ntmps152
   go_wp2
   go_ret
   exact⟨eF (by simp[qL,h2]),rfl⟩
 ·by_cases h2:0<f<;>by_cases h3:0<t
  all_goals
   go_enter Tryz.func152,Tryz.ntmps152
   go_wp2
   go_ret
   exact⟨eF (by simp[qL,h1];omega),rfl⟩
theorem jy (b:Int) (w:World) (hb:ax b) :
    Calls Tryz.prog 133 #[.int .i64 b] w fun e w'=>e=.returned (.int .i64 (aL b))∧w'=w:=by
  have hf:=jr b
  have ht:=iD b
  go_enter Tryz.func133,Tryz.ntmps133
  go_wp2_with (first
    | (go_at_call 147;refine(lO _ _ hb).mono ?_;rintro e w1 ⟨rfl,rfl⟩)
    | (go_at_call 152; refine (BQ _ _ _ _ hf.1 ht.1).mono ?_; rintro e w1 ⟨rfl,rfl⟩))
  go_ret
  exact⟨eF (xX b),rfl⟩
theorem yA (b:Int) (w:World) (hb:ax b) :
    Calls Tryz.prog 127 #[.int .i64 b] w fun e w'=>e=.returned (.tuple #[.bool (dV b),.int .i64 (bI b),.int .i64 (bK b),.bool (aF b)])∧w'=w:=by
  have hf:=jr b
  have ht:=iD b
  by_cases h0:aL b=0
  · have k:=fO (pf (.inl h0))
    go_enter Tryz.func127,Tryz.ntmps127
    go_wp2_with (first
      | (go_at_call 147;refine(lO _ _ hb).mono ?_;rintro e w1 ⟨rfl,rfl⟩)
      | (go_at_call 133; refine (jy _ _ hb).mono ?_; rintro e w1 ⟨rfl,rfl⟩))
    refine bodyPost_ret (v:=.tuple #[.bool (decide (b<0)),.int .i64 (cn b),.int .i64 (-1074),.bool true]) (by simp[results,Tryz.results127,go_sem]) rfl ⟨kH k.out.1 k.out.2.1 k.out.2.2.1 k.out.2.2.2,rfl⟩
  · by_cases h1:aL b=1
    · have k:=fO (pf (.inr h1))
      go_enter Tryz.func127,Tryz.ntmps127
      go_wp2_with (first
        | (go_at_call 147;refine(lO _ _ hb).mono ?_;rintro e w1 ⟨rfl,rfl⟩)
        | (go_at_call 133; refine (jy _ _ hb).mono ?_; rintro e w1 ⟨rfl,rfl⟩))
      refine bodyPost_ret (v:=.tuple #[.bool (decide (b<0)),.int .i64 (cn b),.int .i64 (-1074),.bool true]) (by simp[results,Tryz.results127,go_sem]) rfl ⟨kH k.out.1 k.out.2.1 k.out.2.2.1 k.out.2.2.2,rfl⟩
    · by_cases h2:aL b=2
      · have k:=fO (uD h2)
        go_enter Tryz.func127,Tryz.ntmps127
        go_wp2_with (first
          | (go_at_call 147;refine(lO _ _ hb).mono ?_;rintro e w1 ⟨rfl,rfl⟩)
          | (go_at_call 133; refine (jy _ _ hb).mono ?_; rintro e w1 ⟨rfl,rfl⟩))
        refine bodyPost_ret (v:=.tuple #[.bool (decide (b<0)),.int .i64 (4503599627370496+cn b),.int .i64 (bT b-1075),.bool true]) (by simp[results,Tryz.results127,go_sem]) rfl ⟨kH k.out.1 k.out.2.1 k.out.2.2.1 k.out.2.2.2,rfl⟩
      · have k:=fO (vN h0 h1 h2)
        go_enter Tryz.func127,Tryz.ntmps127
        go_wp2_with (first
          | (go_at_call 147;refine(lO _ _ hb).mono ?_;rintro e w1 ⟨rfl,rfl⟩)
          | (go_at_call 133; refine (jy _ _ hb).mono ?_; rintro e w1 ⟨rfl,rfl⟩))
        refine bodyPost_ret (v:=.tuple #[.bool false,.int .i64 0,.int .i64 0,.bool false]) (by simp[results,Tryz.results127,go_sem]) rfl ⟨kH k.out.1 k.out.2.1 k.out.2.2.1 k.out.2.2.2,rfl⟩
def fG (b:Int):Int:=if aL b=4 then 9221120237041090561 else b
theorem Er {b:Int} (hb:ax b):(FloatKind.f64.format.order (wd b) (wd b) != some .eq)=decide (aL b=4):=by
 have:=nF hb hb
 unfold bne
 rw[this];unfold gm
 by_cases h:aL b=4<;>simp[h]
theorem uW (n:Nat) (w:World):(callFunc 76 #[.float .f64 n]).run Tryz.prog w=.ok (.value (.int .u64 n)) w:=by
 rw[run_callFunc_extern Tryz.func76 (by kernel_rfl) (by kernel_rfl) (by kernel_rfl) (e:=Extern.MathFloatBits.float64bits) (by kernel_rfl)]
 rfl
def oL (g:Nat) (x:Int):aG:=⟨false,some ⟨g,0,none⟩,1,1,fun _=>x,0⟩
theorem Ds (g k:Nat):yz 0 (oL g 1) (oL k 3)=(4599676419421066581,true):=by
 have e:yz 0 (oL g 1) (oL k 3)=yz 0 (oL 0 1) (oL 0 3):=rfl
 rw[e]
 decide +kernel
def aG.neg (r:aG):aG:=⟨!r.ng,r.ao,r.n,r.cap,r.d,r.e⟩
theorem aG.neg_V (r:aG):r.neg.V=-r.V:=by
 show sg (!r.ng) _*_=_
 rw[qM,Int.neg_mul];rfl
theorem aG.neg_sane {r:aG} (h:dR r):dR r.neg:=h
theorem yB (x y:aG) (g h:Nat) (w:World) (cg:w.heap[g]?=some (.cells #[.bool x.ng,.slice x.ao x.n x.cap,.int .i64 x.e] 33 (0,0))) (ch:w.heap[h]?=some (.cells #[.bool y.ng,.slice y.ao y.n y.cap,.int .i64 y.e] 33 (0,0)))
  (hx:aM w x.ao x.n x.cap x.d) (hy:aM w y.ao y.n y.cap y.d) (sx:dR x) (sy:dR y) (hT:ec w) :
  Calls Tryz.prog 106 #[.pointer (some ⟨g,0,none⟩),.pointer (some ⟨h,0,none⟩)] w (mU w (x.V+y.V)):=by
 obtain⟨an,ao,n,ca,a,e⟩:=x
 obtain⟨bn,bo,m,cb,b,f⟩:=y
 simp only at cg ch hx hy
 have hb:=ah w (.cells #[.bool false,.slice none 0 0,.int .i64 0] 33)
 have g0:=ar (.cells #[.bool false,.slice none 0 0,.int .i64 0] 33) cg
 have g1:=ar (.cells #[.bool false,.slice none 0 0,.int .i64 0] 33) ch
 have k0:=af g0 0 rfl
 have k1:=af g0 1 rfl
 have k2:=af g0 2 rfl
 have j0:=af g1 0 rfl
 have j1:=af g1 1 rfl
 have j2:=af g1 2 rfl
 have hN:=fun q=>zN (w:=(w.alloc (.cells #[.bool false,.slice none 0 0,.int .i64 0] 33)).alloc (.cells #[.bool an,.slice ao n ca,.int .i64 e,.bool bn,.slice bo m cb,.int .i64 f] 33)) (g:=w.heap.size+1) (x:=⟨an,ao,n,ca,a,e⟩) (y:=⟨bn,bo,m,cb,b,f⟩) (t:=33) q (hx.keeps (aO _ _ _)) (hy.keeps (aO _ _ _))
 go_enter Tryz.func106,Tryz.ntmps106
 go_wp2_with fail
 refine(pH _ _ _ _ _ (hN (bP _ _ _)) (fun i hi=>?_) (by omega) (hT.keeps (aO _ _ _))).mono ?_
 ·match i,hi with
  | 0,_=>exact sx
  | 1,_=>exact sy
 rw[Dr]
 rintro r w7 (⟨hok,v,rfl,hD⟩|⟨hno,rfl,hb7⟩)
 ·have hb7:=hD.below
  obtain⟨ng',s',m',e',rfl,hyy,hA⟩:=id hD
  obtain⟨so,sn,sc,rfl⟩:=hA.num.shape
  have q0:=(hb7.block w.heap.size (by rw[fI];omega)).trans (bX _ _ _)
  have x0:=af q0 0 rfl
  have x1:=af q0 1 rfl
  have x2:=af q0 2 rfl
  have z0:=av q0 0
  have z1:=av q0 1
  have z2:=av q0 2
  go_wp2
  refine bodyPost_ret (v:=.agg #[.bool ng',.slice so sn sc,.int .i64 e']) (by simp[results,Tryz.results106,go_sem,x0,x1,x2]) rfl ?_
  exact .inl ⟨hok,_,rfl,bM (g:=w.heap.size) hD (aO _ _ _) (Nat.le_refl _) (by rw[fI];omega) _ _ _⟩
 ·exact⟨rfl,.inr ⟨hno,rfl,ac (aO _ _ _) hb7⟩⟩
theorem AK (x y:aG) (w:World) (hx:aM w x.ao x.n x.cap x.d) (hy:aM w y.ao y.n y.cap y.d) (ox:dD x=true) (oy:dD y=true) (hT:ec w) :
  Calls Tryz.prog 79 #[x.v,y.v] w fun r w'=>∃ v er,r=.returned (.tuple #[v,.int .i64 er])∧gE w w' (x.V-y.V) v er:=by
 have hmf:∀ (fn:Fn) (first cap:Array Value) (w:World),(Instr.makeFunc fn first cap).run Tryz.prog w=.ok (.func fn first cap) w:=fun _ _ _ _=>rfl
 have hE:∀ (cap:Array Value) (w:World),(callFunc 106 cap).run Tryz.prog w=.ok (.enter 106 cap) w:=by
  intro cap w
  simp[go_sem]
 have hA:=BO x y
 rw[ox,oy] at hA
 have hN:=fun W q hb=>zN (w:=W) (g:=w.heap.size+3) (x:=x) (y:=y) (t:=33) q (hx.keeps hb) (hy.keeps hb)
 have hC:=fun W hb cg ch=>yB x y.neg w.heap.size (w.heap.size+1) W cg ch (hx.keeps hb) (hy.keeps hb) (cA ox) (aG.neg_sane (cA oy)) (hT.keeps hb)
 generalize qB x y=pr at hA hN
 rw[show x.V-y.V=x.V+y.neg.V by rw[aG.neg_V];omega]
 generalize x.V+y.neg.V=V at hC ⊢
 clear ox oy
 obtain⟨an,ao,n,ca,a,e⟩:=x
 obtain⟨bn,bo,m,cb,b,f⟩:=y
 unfold aG.v
 unfold aG.neg at hC
 simp only at hx hy hN hC ⊢
 go_enter Tryz.func79,Tryz.ntmps79
 go_wp2_with fail
 refine(ka _ _ _ _ _ (hN _ (gV _ _ _ _ _) (eY _ _ _ _ _))).mono ?_
 rw[hA]
 rintro r w1 ⟨rfl,hb1⟩
 have hbw:=ac (eY w _ _ _ _) hb1
 have g0:=(hb1.block w.heap.size (by rw[kQ];omega)).trans (ij _ _ _ _ _)
 have g1:=(hb1.block (w.heap.size+1) (by rw[kQ];omega)).trans (ik _ _ _ _ _)
 have g2:=(hb1.block (w.heap.size+2) (by rw[kQ];omega)).trans (gU _ _ _ _ _)
 have hs4:w.heap.size+4<=w1.heap.size:=by have:=hb1.size;rw[kQ] at this;exact this
 have y0:=af g1 0 rfl
 have y1:=av g1 0
 go_wp2_with fail
 have hbw':Below w.heap.size w (w1.setCell ⟨w.heap.size+1,0,none⟩ (.bool (!bn))):=hbw.setCell (p:=⟨w.heap.size+1,0,none⟩) (Nat.le_succ _) _
 have u0:=(Below.heap_setCell w1 ⟨w.heap.size+1,0,none⟩ (.bool (!bn)) w.heap.size (by show w.heap.size≠w.heap.size+1;omega)).trans g0
 have u2:=(Below.heap_setCell w1 ⟨w.heap.size+1,0,none⟩ (.bool (!bn)) (w.heap.size+2) (by show w.heap.size+2≠w.heap.size+1;omega)).trans g2
 have u1:=ap g1 0 (.bool (!bn))
 have us:(w1.setCell ⟨w.heap.size+1,0,none⟩ (.bool (!bn))).heap.size=w1.heap.size:=by simp[World.setCell]
 generalize w1.setCell ⟨w.heap.size+1,0,none⟩ (.bool (!bn))=w9 at hbw' u0 u1 u2 us ⊢
 clear hbw g0 g1 g2 hb1 y0 y1
 have hbw:=hbw'
 have g0:=u0
 have g1:w9.heap[w.heap.size+1]?=some (.cells #[.bool (!bn),.slice bo m cb,.int .i64 f] 33 (0,0)):=u1
 have g2:=u2
 refine(ri (V:=V) (hE _) (fun W hW=>hC W (ac hbw hW) ((hW.block _ (by omega)).trans g0) ((hW.block _ (by omega)).trans g1))).mono ?_
 rintro r w2 ⟨v,er,rfl,hF⟩
 obtain⟨ng',so,sn,sc,e',rfl⟩:=hF.shape
 have q0:=(hF.1.block (w.heap.size+2) (by omega)).trans g2
 have x0:=af q0 0 rfl
 have x1:=af q0 1 rfl
 have x2:=af q0 2 rfl
 have z0:=av q0 0
 have z1:=av q0 1
 have z2:=av q0 2
 go_wp2
 refine bodyPost_ret (v:=.tuple #[.agg #[.bool ng',.slice so sn sc,.int .i64 e'],.int .i64 er]) (by simp[results,Tryz.results79,go_sem,x0,x1,x2]) rfl ⟨_,_,rfl,?_⟩
 exact rf (g:=w.heap.size+2) hF hbw (by omega) (by omega) _ _ _
def lP (x y:aG):Int:=sg (x.ng != y.ng) (val x.d x.n*val y.d y.n)*pw (x.e+y.e)
theorem mw {x y:aG} (hx:-2097152<=x.e) (hy:-2097152<=y.e):lP x y*2^4194304=x.V*y.V:=by
 unfold lP aG.V
 rw[Int.mul_assoc,<- lD hx hy,<- vQ];grind
theorem rl (x y:aG) (w:World) (hx:aM w x.ao x.n x.cap x.d) (hy:aM w y.ao y.n y.cap y.d) (sx:dR x) (sy:dR y) :
  Calls Tryz.prog 155 #[x.v,y.v] w fun r w'=>∃ s,r=.returned (.agg #[.bool (x.ng != y.ng),s,.int .i64 (x.e+y.e)])∧cP w w' (val x.d x.n*val y.d y.n) s:=by
 obtain⟨an,ao,n,ca,a,e⟩:=x
 obtain⟨bn,bo,m,cb,b,f⟩:=y
 obtain⟨s1,s2,s3,s4⟩:=sx
 obtain⟨t1,t2,t3,t4⟩:=sy
 unfold aG.v
 simp only at *
 have hw:IntKind.i64.wrap (e+f)=e+f:=by rw[bw];omega
 have hb3:=df w (.cells #[.bool an,.slice ao n ca,.int .i64 e] 33) (.cells #[.bool bn,.slice bo m cb,.int .i64 f] 33) (.cells #[.bool false,.slice none 0 0,.int .i64 0] 33)
 have g0:=lL w (.cells #[.bool an,.slice ao n ca,.int .i64 e] 33) (.cells #[.bool bn,.slice bo m cb,.int .i64 f] 33) (.cells #[.bool false,.slice none 0 0,.int .i64 0] 33)
 have g1:=lM w (.cells #[.bool an,.slice ao n ca,.int .i64 e] 33) (.cells #[.bool bn,.slice bo m cb,.int .i64 f] 33) (.cells #[.bool false,.slice none 0 0,.int .i64 0] 33)
 have g2:=jw w (.cells #[.bool an,.slice ao n ca,.int .i64 e] 33) (.cells #[.bool bn,.slice bo m cb,.int .i64 f] 33) (.cells #[.bool false,.slice none 0 0,.int .i64 0] 33)
 have hs3:=iZ w (.cells #[.bool an,.slice ao n ca,.int .i64 e] 33) (.cells #[.bool bn,.slice bo m cb,.int .i64 f] 33) (.cells #[.bool false,.slice none 0 0,.int .i64 0] 33)
 go_enter Tryz.func155,Tryz.ntmps155
 go_wp2_with fail
 have HX:=hx.keeps hb3
 have HY:=hy.keeps hb3
 generalize ((w.alloc (.cells #[.bool an,.slice ao n ca,.int .i64 e] 33)).alloc (.cells #[.bool bn,.slice bo m cb,.int .i64 f] 33)).alloc (.cells #[.bool false,.slice none 0 0,.int .i64 0] 33)=wx at hb3 g0 g1 g2 hs3 HX HY ⊢
 have k0:=af g0 0 rfl
 have k1:=af g0 1 rfl
 have k2:=af g0 2 rfl
 have j0:=af g1 0 rfl
 have j1:=af g1 1 rfl
 have j2:=af g1 2 rfl
 have hb1:=ak wx
 have C1:∀ W,Below wx.heap.size wx W->Calls Tryz.prog 161 #[.slice ao n ca,.slice bo m cb] W fun r w'=>∃ so sn sc,r=.returned (.slice so sn sc)∧cP W w' (val a n*val b m) (.slice so sn sc)∧Below W.heap.size W w':=fun W h=>by
  refine(tl ao bo n m ca cb a b W (HX.keeps h) (HY.keeps h) s1.1 t1.1 (by omega) (by omega)).mono ?_
  rintro r w' ⟨v,rfl,hA⟩
  obtain⟨so,sn,sc,rfl⟩:=hA.num.shape
  exact⟨so,sn,sc,rfl,hA,hA.below⟩
 go_region_held3 (fun W=>(W.cell? ⟨w.heap.size,0,none⟩=some (.bool an)∧W.cell? ⟨w.heap.size,1,none⟩=some (.slice ao n ca)∧W.cell? ⟨w.heap.size,2,none⟩=some (.int .i64 e))∧W.cell? ⟨w.heap.size+1,0,none⟩=some (.bool bn)∧W.cell? ⟨w.heap.size+1,1,none⟩=some (.slice bo m cb)∧W.cell? ⟨w.heap.size+1,2,none⟩=some (.int .i64 f))
  (first|assumption|exact⟨⟨k0,k1,k2⟩,j0,j1,j2⟩|exact⟨gW (W:=wx.drew) ⟨k0,k1,k2⟩ hbv1,gW (W:=wx.drew) ⟨j0,j1,j2⟩ hbv1⟩|exact⟨fJ (gW (W:=wx.drew) ⟨k0,k1,k2⟩ hbv1) (by omega) _ _ _,fJ (gW (W:=wx.drew) ⟨j0,j1,j2⟩ hbv1) (by omega) _ _ _⟩)
  (first|(go_at_call 161;refine(C1 _ hb1.drew).mono ?_;rintro y w3 ⟨so,sn,sc,rfl,hv,hbv1⟩;have q0:=(hbv1.block (w.heap.size+2) (by show _<wx.heap.size;omega)).trans g2;have x0:=af q0 0 rfl;have x1:=af q0 1 rfl;have x2:=af q0 2 rfl;have z0:=av q0 0;have z1:=av q0 1;have z2:=av q0 2)|fail)
 all_goals go_wp2
 all_goals
  refine bodyPost_ret (v:=.agg #[.bool (!(an == bn)),.slice so sn sc,.int .i64 (e+f)]) (by simp[results,Tryz.results155,go_sem,x0,x1,x2]) rfl ⟨_,rfl,?_⟩
  exact ig (g:=w.heap.size+2) (hv.from hb1.drew) hb3 (by omega) (by omega) _ _ _
theorem uX (x:aG) (w:World) (hx:aM w x.ao x.n x.cap x.d) :
  Calls Tryz.prog 73 #[x.v] w fun r w'=>r=.returned (.tuple #[.int .i64 (if dD x then sgn x.ng x.n else 0),.int .i64 (if dD x then 0 else 11)])∧Below w.heap.size w w':=by
 have hV:=fun W hb=>iY x.ng x.ao x.n x.cap x.d x.e W (hx.keeps hb)
 have hS:=fun W=>pz x.ng x.ao x.n x.cap x.e W (by have:=hx.le;have:=hx.max;omega)
 have hk:iS x.ng x.d x.n x.e=dD x:=rfl
 rw[hk] at hV
 unfold aG.v
 generalize dD x=ok at *
 obtain⟨an,ao,n,ca,a,e⟩:=x
 simp only at *
 cases ok
 ·go_enter Tryz.func73,Tryz.ntmps73
  go_wp2_with fail
  refine(hV _ (ah _ _)).mono ?_
  rintro r w1 ⟨rfl,hb1⟩
  go_wp2
  go_ret2
  exact⟨rfl,ac (ah _ _) hb1⟩
 ·go_enter Tryz.func73,Tryz.ntmps73
  go_wp2_with fail
  refine(hV _ (ah _ _)).mono ?_
  rintro r w1 ⟨rfl,hb1⟩
  have g0:=(hb1.block w.heap.size (by rw[eH];omega)).trans (aC _ _)
  have k0:=af g0 0 rfl
  have k1:=af g0 1 rfl
  have k2:=af g0 2 rfl
  go_wp2_with fail
  refine(hS _).mono ?_
  rintro r w2 ⟨rfl,hb2⟩
  go_wp2
  go_ret2
  exact⟨rfl,ac (ac (ah _ _) hb1) hb2⟩
theorem rm (ng:Bool) (x:aG) (w:World) (hx:aM w x.ao x.n x.cap x.d) (sx:dR x) :
  Calls Tryz.prog 138 #[.bool ng,x.v] w fun r w'=>∃ s,r=.returned (.agg #[.bool (ng&&decide (0<x.n)),s,.int .i64 x.e])∧cP w w' (val x.d x.n) s:=by
 have hC:∀ W,Below w.heap.size w W->Calls Tryz.prog 156 #[.slice x.ao x.n x.cap] W fun r w'=>∃ so sn sc,r=.returned (.slice so sn sc)∧cP W w' (val x.d x.n) (.slice so sn sc)∧Below W.heap.size W w':=fun W hb=>by
  refine(wt (w:=W) (ao:=x.ao) (n:=x.n) (cap:=x.cap) (A:=val x.d x.n) ⟨_,_,_,_,rfl,hx.keeps hb,sx.1,rfl⟩ (by have:=sx.2.1;omega)).mono ?_
  rintro r w' ⟨v,rfl,hA⟩
  obtain⟨so,sn,sc,rfl⟩:=hA.num.shape
  exact⟨so,sn,sc,rfl,hA,hA.below⟩
 obtain⟨an,ao,n,ca,a,e⟩:=x
 unfold aG.v
 simp only at *
 have hb2:=aO w (.cells #[.bool an,.slice ao n ca,.int .i64 e] 33) (.cells #[.bool false,.slice none 0 0,.int .i64 0] 33)
 have g0:=bX w (.cells #[.bool an,.slice ao n ca,.int .i64 e] 33) (.cells #[.bool false,.slice none 0 0,.int .i64 0] 33)
 have g1:=bP w (.cells #[.bool an,.slice ao n ca,.int .i64 e] 33) (.cells #[.bool false,.slice none 0 0,.int .i64 0] 33)
 have hs:=fI w (.cells #[.bool an,.slice ao n ca,.int .i64 e] 33) (.cells #[.bool false,.slice none 0 0,.int .i64 0] 33)
 have hdn:decide ((0:Int)<n)=decide (0<n):=by simp
 cases ng
 ·
  go_enter Tryz.func138,Tryz.ntmps138
  go_wp2_with fail
  generalize (w.alloc (.cells #[.bool an,.slice ao n ca,.int .i64 e] 33)).alloc (.cells #[.bool false,.slice none 0 0,.int .i64 0] 33)=wx at hb2 g0 g1 hs ⊢
  have k0:=af g0 0 rfl
  have k1:=af g0 1 rfl
  have k2:=af g0 2 rfl
  have hb1:=ak wx
  refine wp_region_held_drew (S:=fun W=>W.cell? ⟨w.heap.size,0,none⟩=some (.bool an)∧W.cell? ⟨w.heap.size,1,none⟩=some (.slice ao n ca)∧W.cell? ⟨w.heap.size,2,none⟩=some (.int .i64 e)) (by kernel_rfl) ⟨k0,k1,k2⟩ (fun hHeld=>?_)
  refine wpAnyH_take (i:=0) (v:=?_) rfl (by kernel_rfl) (by kernel_rfl) (by kernel_rfl) (fun _ _ _ h=>h) (Or.inl ⟨by rfl,?_⟩) (by assumption) ?_
  rotate_left
  ·intro w hSw;(try dsimp only at hSw);go_simp;first|done|with_reducible rfl
  simp only[Act.put,List.setIfInBounds_toArray,List.set_cons_zero,List.set_cons_succ]
  refine wpAnyH_take (i:=1) (v:=?_) rfl (by kernel_rfl) (by kernel_rfl) (by kernel_rfl) (fun _ _ _ h=>h) (Or.inl ⟨by rfl,?_⟩) (by assumption) ?_
  rotate_left
  ·intro w hSw;(try dsimp only at hSw);go_simp;first|done|with_reducible rfl
  simp only[Act.put,List.setIfInBounds_toArray,List.set_cons_zero,List.set_cons_succ]
  refine wpAnyH_take (i:=2) (v:=undef) rfl (by kernel_rfl) (by kernel_rfl) (by kernel_rfl) (fun _ _ _ h=>h) (Or.inr ⟨by rfl,rfl⟩) (by assumption) ?_
  simp only[Act.put,List.setIfInBounds_toArray,List.set_cons_zero,List.set_cons_succ]
  refine wpAnyH_take (i:=3) (v:=undef) rfl (by kernel_rfl) (by kernel_rfl) (by kernel_rfl) (fun _ _ _ h=>h) (Or.inr ⟨by rfl,rfl⟩) (by assumption) ?_
  simp only[Act.put,List.setIfInBounds_toArray,List.set_cons_zero,List.set_cons_succ]
  refine wpAnyH_take (i:=4) (v:=undef) rfl (by kernel_rfl) (by kernel_rfl) (by kernel_rfl) (fun _ _ _ h=>h) (Or.inr ⟨by rfl,rfl⟩) (by assumption) ?_
  simp only[Act.put,List.setIfInBounds_toArray,List.set_cons_zero,List.set_cons_succ]
  refine wpAnyH_take (i:=5) (v:=undef) rfl (by kernel_rfl) (by kernel_rfl) (by kernel_rfl) (fun _ _ _ h=>h) (Or.inr ⟨by rfl,rfl⟩) (by assumption) ?_
  simp only[Act.put,List.setIfInBounds_toArray,List.set_cons_zero,List.set_cons_succ]
  refine wpAnyH_take (i:=6) (v:=?_) rfl (by kernel_rfl) (by kernel_rfl) (by kernel_rfl) (fun _ _ _ h=>h) (Or.inl ⟨by rfl,?_⟩) (by assumption) ?_
  rotate_left
  ·intro w hSw;(try dsimp only at hSw);go_simp;first|done|with_reducible rfl
  simp only[Act.put,List.setIfInBounds_toArray,List.set_cons_zero,List.set_cons_succ]
  refine wpAnyH_take (i:=7) (v:=?_) rfl (by kernel_rfl) (by kernel_rfl) (by kernel_rfl) (fun _ _ _ h=>h) (Or.inl ⟨by rfl,?_⟩) (by assumption) ?_
  rotate_left
  ·intro w hSw;(try dsimp only at hSw);go_simp;first|done|with_reducible rfl
  simp only[Act.put,List.setIfInBounds_toArray,List.set_cons_zero,List.set_cons_succ]
  refine wpAnyH_take (i:=8) (v:=?_) rfl (by kernel_rfl) (by kernel_rfl) (by kernel_rfl) (fun _ _ _ h=>h) (Or.inl ⟨by rfl,?_⟩) (by assumption) ?_
  rotate_left
  ·intro w hSw;(try dsimp only at hSw);go_simp;first|done|with_reducible rfl
  simp only[Act.put,List.setIfInBounds_toArray,List.set_cons_zero,List.set_cons_succ]
  refine wpAnyH_take (i:=10) (v:=?_) rfl (by kernel_rfl) (by kernel_rfl) (by kernel_rfl) (fun _ _ _ h=>h) (Or.inl ⟨by rfl,?_⟩) (by assumption) ?_
  rotate_left
  ·intro w hSw;(try dsimp only at hSw);go_simp;first|done|with_reducible rfl
  simp only[Act.put,List.setIfInBounds_toArray,List.set_cons_zero,List.set_cons_succ]
  refine wpAnyH_take (i:=11) (v:=?_) rfl (by kernel_rfl) (by kernel_rfl) (by kernel_rfl) (fun _ _ _ h=>h) (Or.inl ⟨by rfl,?_⟩) (by assumption) ?_
  rotate_left
  ·intro w hSw;(try dsimp only at hSw);go_simp;first|done|with_reducible rfl
  simp only[Act.put,List.setIfInBounds_toArray,List.set_cons_zero,List.set_cons_succ]
  refine wpAnyH_ready (rs:=[9]) (by kernel_rfl) (by simp) ?_
  refine AllReadyH.cons rfl (fun K hK=>?_) AllReadyH.nil
  go_simp
  refine(hC _ (ac hb2 hb1.drew)).mono ?_
  rintro y w3 ⟨so,sn,sc,rfl,hv,hbv1⟩
  have q0:=(hbv1.block (w.heap.size+1) (by show _<wx.heap.size;omega)).trans g1
  have x0:=af q0 0 rfl
  have x1:=af q0 1 rfl
  have x2:=af q0 2 rfl
  have z0:=av q0 0
  have z1:=av q0 1
  have z2:=av q0 2
  refine hK.out _ _ (gW (W:=wx.drew) ⟨k0,k1,k2⟩ hbv1) (fun hHeld2=>?_)
  clear hK K hHeld
  try simp only[Act.put,List.setIfInBounds_toArray,List.set_cons_zero,List.set_cons_succ]
  refine wpAnyH_take (i:=12) (v:=?_) rfl (by kernel_rfl) (by kernel_rfl) (by kernel_rfl) (fun _ _ _ h=>h) (Or.inl ⟨by rfl,?_⟩) (by assumption) ?_
  rotate_left
  ·intro w hSw;(try dsimp only at hSw);go_simp;first|done|with_reducible rfl
  simp only[Act.put,List.setIfInBounds_toArray,List.set_cons_zero,List.set_cons_succ]
  refine wpAnyH_ready (rs:=[13]) (by kernel_rfl) (by simp) ?_
  refine AllReadyH.cons rfl (fun K hK=>?_) AllReadyH.nil
  go_simp
  refine hK.out _ _ (fJ hHeld2 (by omega) _ _ _) (fun hHeld3=>?_)
  clear hK K
  refine wpAnyH_done (by kernel_rfl) ?_ _
  all_goals go_wp2
  all_goals
   refine bodyPost_ret (v:=.agg #[.bool false,.slice so sn sc,.int .i64 e]) (by simp[results,Tryz.results138,go_sem,x0,x1,x2]) rfl ⟨_,rfl,?_⟩
   exact ig (g:=w.heap.size+1) (hv.from hb1.drew) hb2 (by omega) (by omega) _ _ _
 ·
  go_enter Tryz.func138,Tryz.ntmps138
  go_wp2_with fail
  generalize (w.alloc (.cells #[.bool an,.slice ao n ca,.int .i64 e] 33)).alloc (.cells #[.bool false,.slice none 0 0,.int .i64 0] 33)=wx at hb2 g0 g1 hs ⊢
  have k0:=af g0 0 rfl
  have k1:=af g0 1 rfl
  have k2:=af g0 2 rfl
  have hb1:=ak wx
  go_region_held3 (fun W=>W.cell? ⟨w.heap.size,0,none⟩=some (.bool an)∧W.cell? ⟨w.heap.size,1,none⟩=some (.slice ao n ca)∧W.cell? ⟨w.heap.size,2,none⟩=some (.int .i64 e))
   (first|assumption|exact⟨k0,k1,k2⟩|exact gW (W:=wx.drew) ⟨k0,k1,k2⟩ hbv1|exact fJ (gW (W:=wx.drew) ⟨k0,k1,k2⟩ hbv1) (by omega) _ _ _)
   (first|(go_at_call 156;refine(hC _ (ac hb2 hb1.drew)).mono ?_;rintro y w3 ⟨so,sn,sc,rfl,hv,hbv1⟩;have q0:=(hbv1.block (w.heap.size+1) (by show _<wx.heap.size;omega)).trans g1;have x0:=af q0 0 rfl;have x1:=af q0 1 rfl;have x2:=af q0 2 rfl;have z0:=av q0 0;have z1:=av q0 1;have z2:=av q0 2)|fail)
  all_goals go_wp2
  all_goals
   refine bodyPost_ret (v:=.agg #[.bool (decide (0<n)),.slice so sn sc,.int .i64 e]) (by simp[results,Tryz.results138,go_sem,x0,x1,x2]) rfl ⟨_,rfl,?_⟩
   exact ig (g:=w.heap.size+1) (hv.from hb1.drew) hb2 (by omega) (by omega) _ _ _
theorem BR {x:aG} (h:dD x=true):Dy (-x.V) (!x.ng&&decide (0<x.n)) (val x.d x.n) x.e:=by
 have hd:=(jx h).1
 by_cases h0:0<x.n
 ·have hv:=fz (cA h).1 h0
  have:=hd.neg hv
  simpa [h0] using this
 ·rcases of_decide_eq_true h with⟨h1,h2,h3⟩|⟨h1,_⟩
  ·have hv:val x.d x.n=0:=by rw[h1];rfl
   have:=hd.eq_zero.2 hv
   rw[this,hv,h3]
   simpa [h0] using Dy.zero
  ·omega
theorem AL (x:aG) (w:World) (hx:aM w x.ao x.n x.cap x.d) (ok:dD x=true) :
  Calls Tryz.prog 114 #[x.v] w fun r w'=>∃ v,r=.returned (.tuple #[v,.int .i64 0])∧aX w w' (-x.V) v:=by
 have hV:=fun W hb=>iY x.ng x.ao x.n x.cap x.d x.e W (hx.keeps hb)
 have hS:=fun W hb=>rm (!x.ng) x W (hx.keeps hb) (cA ok)
 have hy:Dy (-x.V) (!x.ng&&decide (0<x.n)) (val x.d x.n) x.e:=BR ok
 have hk:iS x.ng x.d x.n x.e=dD x:=rfl
 rw[hk,ok] at hV
 clear ok hk
 generalize -x.V=V at hy ⊢
 unfold aG.v at hS ⊢
 obtain⟨an,ao,n,ca,a,e⟩:=x
 simp only at *
 go_enter Tryz.func114,Tryz.ntmps114
 go_wp2_with fail
 refine(hV _ (aO _ _ _)).mono ?_
 rintro r w1 ⟨rfl,hb1⟩
 have hbw:=ac (aO w _ _) hb1
 have g0:=(hb1.block w.heap.size (by rw[fI];omega)).trans (bX _ _ _)
 have g1:=(hb1.block (w.heap.size+1) (by rw[fI];omega)).trans (bP _ _ _)
 have hs2:w.heap.size+2<=w1.heap.size:=by have:=hb1.size;rw[fI] at this;exact this
 have k0:=af g0 0 rfl
 have k1:=af g0 1 rfl
 have k2:=af g0 2 rfl
 go_wp2_with fail
 refine(hS _ hbw).mono ?_
 rintro r w3 ⟨s,rfl,hA⟩
 obtain⟨so,sn,sc,rfl⟩:=hA.num.shape
 have q0:=(hA.below.block (w.heap.size+1) (by omega)).trans g1
 have x0:=af q0 0 rfl
 have x1:=af q0 1 rfl
 have x2:=af q0 2 rfl
 have z0:=av q0 0
 have z1:=av q0 1
 have z2:=av q0 2
 generalize hsg:(!an&&decide (0<n))=sgx at *
 go_wp2
 refine bodyPost_ret (v:=.tuple #[.agg #[.bool sgx,.slice so sn sc,.int .i64 e],.int .i64 0]) (by simp[results,Tryz.results114,go_sem,x0,x1,x2]) rfl ⟨_,rfl,?_⟩
 exact⟨_,_,_,_,rfl,hy,ig (g:=w.heap.size+1) hA hbw (by omega) (by omega) _ _ _⟩
theorem pK {a b p:Int} (hp:0<p):aZ (a*p) (b*p)=aZ a b:=by
 rcases Int.lt_trichotomy a b with h|h|h
 ·rw[dJ h,dJ (Int.mul_lt_mul_of_pos_right h hp)]
 ·rw[fw h,fw (by rw[h])]
 ·rw[dK h,dK (Int.mul_lt_mul_of_pos_right h hp)]
theorem bN {W w':World} {g h:Nat} {a b c d e f:Value} (hb:Below W.heap.size W w') (hS:(W.cell? ⟨g,0,none⟩=some a∧W.cell? ⟨g,1,none⟩=some b∧W.cell? ⟨g,2,none⟩=some c)∧W.cell? ⟨h,0,none⟩=some d∧W.cell? ⟨h,1,none⟩=some e∧W.cell? ⟨h,2,none⟩=some f) :
  (w'.cell? ⟨g,0,none⟩=some a∧w'.cell? ⟨g,1,none⟩=some b∧w'.cell? ⟨g,2,none⟩=some c)∧w'.cell? ⟨h,0,none⟩=some d∧w'.cell? ⟨h,1,none⟩=some e∧w'.cell? ⟨h,2,none⟩=some f :=
 ⟨gW hS.1 hb,gW hS.2 hb⟩
theorem Dt {x:aG} (sx:dR x):(sgn x.ng x.n=0∧x.V=0∧x.n=0)∨(sgn x.ng x.n=1∧0<x.V∧0<x.n∧x.ng=false)∨(sgn x.ng x.n=-1∧x.V<0∧0<x.n∧x.ng=true):=by
 by_cases h0:x.n=0
 ·left
  refine⟨by simp[sgn,h0],?_,h0⟩
  show sg x.ng (val x.d x.n)*_=0
  rw[h0]
  show sg x.ng 0*_=0
  rw[eg,Int.zero_mul]
 ·right
  have hp:=Int.mul_pos (fz sx.1 (show 0<x.n by omega)) (cv x.e)
  have hV:x.V=sg x.ng (val x.d x.n)*pw x.e:=rfl
  cases hg:x.ng
  ·left
   rw[hg] at hV
   exact⟨by simp[sgn,h0],by rw[hV];exact hp,by omega,rfl⟩
  ·right
   rw[hg] at hV
   refine⟨by simp[sgn,h0],?_,by omega,rfl⟩
   rw[hV]
   show -val x.d x.n*pw x.e<0
   rw[Int.neg_mul];omega
theorem tX (a b:Int):aZ (-a) (-b)=-aZ a b:=by
 rcases Int.lt_trichotomy a b with h|h|h
 ·rw[dJ h,dK (by omega)];rfl
 ·rw[fw h,fw (by omega)];rfl
 ·rw[dK h,dJ (by omega)]
theorem aR.open {w:World} {v:Value} {V:Int} (h:aR w v V) (ok:de V):∃ x:aG,v=x.v∧aM w x.ao x.n x.cap x.d∧dD x=true∧x.V=V:=by
 obtain⟨ng,s,m,e,rfl,hy,ao,n,cap,d,rfl,hR,hN,rfl⟩:=h
 refine⟨⟨ng,ao,n,cap,d,e⟩,rfl,hR,?_,hy.val.symm⟩
 obtain⟨o1,o2,o3⟩:=hy.ok.1 ok
 refine decide_eq_true ?_
 by_cases h0:n=0
 ·left
  have hz:val d n=0:=by rw[h0];rfl
  rcases hy.form with⟨_,f2,f3⟩|⟨f1,_⟩
  ·exact⟨h0,f2,f3⟩
  ·omega
 ·right
  have hp:=fz hN (show 0<n by omega)
  rcases hy.form with⟨f1,_⟩|⟨_,f2⟩
  ·omega
  ·refine⟨by show 0<n;omega,⟨?_,hN⟩,?_,o2,o3⟩
   ·exact bQ.len (w:=w) (ao:=ao) (cap:=cap) ⟨_,_,_,_,rfl,hR,hN,rfl⟩ o1
   ·obtain⟨k,hk⟩:∃ k,n=1+k:=⟨n-1,by omega⟩
    have:=dY d 1 k
    rw[<- hk] at this
    rw[this,show val d 1=d 0 by show 0+d 0*1=_;omega,show P 1=1073741824 from rfl] at f2
    show d 0 % 2=1
    omega
theorem gE.yes {w w':World} {V er:Int} {v:Value} (h:gE w w' V v er) (ok:de V):er=0∧aX w w' V v:=by
 rcases h.2 with⟨_,h1,h2⟩|⟨hn,_⟩
 ·exact⟨h1,h2⟩
 ·exact absurd ok hn
theorem Du {w:World} {x y:Value} {A B:Int} (hx:aR w x A) (hy:aR w y B) (oA:de A) (oB:de B) (hT:ec w) :
  Calls Tryz.prog 79 #[x,y] w fun r w'=>∃ v er,r=.returned (.tuple #[v,.int .i64 er])∧gE w w' (A-B) v er:=by
 obtain⟨x,rfl,hR,ok,rfl⟩:=hx.open oA
 obtain⟨y,rfl,hR',ok',rfl⟩:=hy.open oB
 exact AK x y w hR hR' ok ok' hT
theorem wD {w:World} {x:Value} {A:Int} (hx:aR w x A) (oA:de A) :
  Calls Tryz.prog 73 #[x] w fun r w'=>r=.returned (.tuple #[.int .i64 (aZ A 0),.int .i64 0])∧Below w.heap.size w w':=by
 obtain⟨x,rfl,hR,ok,rfl⟩:=hx.open oA
 have:=uX x w hR
 rw[ok] at this
 have e:sgn x.ng x.n=aZ x.V 0:=by
  rcases Dt (cA ok) with⟨a,b,_⟩|⟨a,b,_⟩|⟨a,b,_⟩
  ·rw[a,b,fw rfl]
  ·rw[a,dK b]
  ·rw[a,dJ b]
 rw[<- e]
 exact this
theorem Dw {w:World} {x:Value} {A:Int} (hx:aR w x A) (oA:de A) :
  Calls Tryz.prog 114 #[x] w fun r w'=>∃ v,r=.returned (.tuple #[v,.int .i64 0])∧aX w w' (-A) v:=by
 obtain⟨x,rfl,hR,ok,rfl⟩:=hx.open oA
 exact AL x w hR ok
end Go.Proofs.YtcklaogdjpbagaaGreatDoor
