/-
  The document's single operations (plumbref4): Add, Sub, Mul, by their contracts.
-/
import Derived.Test.YtjjihmnbdeeedaaGreatDoorMa15
import Derived.Test.YtjjihmnbdeeedaaGreatDoorMa5
import Derived.Test.YtjjihmnbdeeedaaGreatDoorMa9
set_option maxRecDepth 100000
set_option maxHeartbeats 8000000
set_option linter.unusedVariables false
set_option linter.unusedSimpArgs false
namespace Go.Proofs.YtjjihmnbdeeedaaGreatDoor
open Go Go.Proofs.Tryz Go.RowKit Go.Proofs.YtjjihmnbdeeedaaGreatDoor.M
theorem Pt.keeps {w w':World} {ng na ni:Bool} {V:Int} {v:Value} (h:Pt w ng na ni V v) (hb:Below w.heap.size w w'):Pt w' ng na ni V v:=by
 obtain⟨xg,xo,xn,xc,xe,h1,h2⟩:=h
 exact⟨xg,xo,xn,xc,xe,h1,h2.keeps hb⟩
def LX (way:Int) (pn pa pi:Bool) (Vp:Int) (qn qa qi:Bool) (Vq:Int) (r:Int):Prop:=if (pa||qa||pi||qi)=true then r=tU pn pa pi qn qa qi else LV way pn qn Vp Vq r
theorem Bz (way:Int) (hw:0<=way∧way<=3) {w:World} {pn pa pi qn qa qi:Bool} {Vp Vq:Int} {p q:Value} (hp:Pt w pn pa pi Vp p) (hq:Pt w qn qa qi Vq q) (bp:Bd 9000 Vp) (bq:Bd 9000 Vq) :
  Calls prog 181 #[eC,p,q,G6 way] w fun x w'=>∃ r,x=.returned (G6 r)∧Below w.heap.size w w'∧LX way pn pa pi Vp qn qa qi Vq r:=by
 obtain⟨xg,xo,xn,xc,xe,rfl,hx⟩:=hp
 obtain⟨yg,yo,yn,yc,ye,rfl,hy⟩:=hq
 unfold LX
 by_cases h:(pa||qa||pi||qi)=true
 ·refine(IB way pn pa pi qn qa qi xg yg xo yo xn xc yn yc xe ye w h).mono ?_
  rintro x w' ⟨rfl,hb⟩
  exact⟨_,rfl,hb,by rw[if_pos h]⟩
 ·have h2:pa=false∧qa=false∧pi=false∧qi=false:=by cases pa<;>cases qa<;>cases pi<;>cases qi<;>simp_all
  obtain⟨rfl,rfl,rfl,rfl⟩:=h2
  refine(NR way hw pn qn xg yg xo yo xn xc yn yc xe ye Vp Vq w hx hy bp bq).mono ?_
  rintro x w' ⟨r,rfl,hb,hr⟩
  exact⟨_,rfl,hb,by rw[if_neg h];exact hr⟩
theorem iN (b:Int):Bd 4000 (aq b):=by
 by_cases h:ak b=true
 ·exact dp h
 ·rw[(nY h).2]
  exact⟨0,by simp,by have:=aR (2*4000);omega,aR _⟩
def K5 (k:Nat) (W:World):Prop:=W.cell? ⟨k,0,none⟩=some (G6 53)∧W.cell? ⟨k,1,none⟩=some (G6 (-1074))∧W.cell? ⟨k,2,none⟩=some (G6 1024)∧W.cell? ⟨k,3,none⟩=some (G6 9218868437227405312)∧W.cell? ⟨k,4,none⟩=some (G6 (-9223372036854775808))
theorem K5.keeps {k:Nat} {W W':World} (h:K5 k W) (hb:Below W.heap.size W W'):K5 k W':=by
 obtain⟨h0,h1,h2,h3,h4⟩:=h
 exact⟨aX h0 hb,aX h1 hb,aX h2 hb,aX h3 hb,aX h4 hb⟩
theorem KX {way a b:Int} {an aa ai bn ba bi:Bool} {aV bV:Int} {R:Int->Prop} (w:World)
    (LA:∀ W,Calls prog 179 #[(.agg #[G6 53,G6 (-1074),G6 1024,G6 9218868437227405312,G6 (-9223372036854775808)]),G6 a] W fun e w'=>∃ v,e=.returned v∧Below W.heap.size W w'∧Pt w' an aa ai aV v)
    (LB:∀ W,Calls prog 179 #[(.agg #[G6 53,G6 (-1074),G6 1024,G6 9218868437227405312,G6 (-9223372036854775808)]),G6 b] W fun e w'=>∃ v,e=.returned v∧Below W.heap.size W w'∧Pt w' bn ba bi bV v)
    (PL:∀ W p q,Pt W an aa ai aV p->Pt W bn ba bi bV q->Calls prog 181 #[(.agg #[G6 53,G6 (-1074),G6 1024,G6 9218868437227405312,G6 (-9223372036854775808)]),p,q,G6 way] W fun x w'=>∃ r,x=.returned (G6 r)∧Below W.heap.size W w'∧R r) :
    Calls prog 119 #[(.agg #[G6 53,G6 (-1074),G6 1024,G6 9218868437227405312,G6 (-9223372036854775808)]),G6 a,G6 b,G6 way] w fun x w'=>∃ r,x=.returned (G6 r)∧Below w.heap.size w w'∧R r:=by
  have hba:=af w (.cells #[G6 53,G6 (-1074),G6 1024,G6 9218868437227405312,G6 (-9223372036854775808)] 147)
  have q0:=heap_alloc_new w (.cells #[G6 53,G6 (-1074),G6 1024,G6 9218868437227405312,G6 (-9223372036854775808)] 147)
  have a0:=ae q0 0 rfl
  have a1:=ae q0 1 rfl
  have a2:=ae q0 2 rfl
  have a3:=ae q0 3 rfl
  have a4:=ae q0 4 rfl
  go_enter func119,ntmps119
  go_wp2_with fail
  have k5:K5 w.heap.size (w.alloc (.cells #[G6 53,G6 (-1074),G6 1024,G6 9218868437227405312,G6 (-9223372036854775808)] 147)):=⟨a0,a1,a2,a3,a4⟩
  clear a0 a1 a2 a3 a4 q0
  generalize w.alloc (.cells #[G6 53,G6 (-1074),G6 1024,G6 9218868437227405312,G6 (-9223372036854775808)] 147)=wx at hba k5 ⊢
  have hdr:Below wx.heap.size wx wx.drew:=(ap wx).drew
  go_region_held3 (fun W=>W.cell? ⟨w.heap.size,0,none⟩=some (G6 53)∧W.cell? ⟨w.heap.size,1,none⟩=some (G6 (-1074))∧W.cell? ⟨w.heap.size,2,none⟩=some (G6 1024)∧W.cell? ⟨w.heap.size,3,none⟩=some (G6 9218868437227405312)∧W.cell? ⟨w.heap.size,4,none⟩=some (G6 (-9223372036854775808)))
    (first|assumption|exact k5|exact K5.keeps k5 hdr|exact k51|exact k52|exact k53)
    (first
      | (go_at_call 181;refine(PL _ _ _ (hv1.keeps hb2) hv2).mono ?_;rintro _ w3 ⟨r,rfl,hb3,hR⟩;have k53:=K5.keeps k52 hb3)
      | (go_at_call 179;have _t:=hv1;refine(LB _).mono ?_;rintro _ w2 ⟨v2,rfl,hb2,hv2⟩;have k52:=K5.keeps k51 hb2)
      | (go_at_call 179; refine (LA _).mono ?_; rintro _ w1 ⟨v1,rfl,hb1,hv1⟩; have k51:=K5.keeps (K5.keeps k5 hdr) hb1))
  all_goals go_wp2
  all_goals go_ret
  all_goals exact⟨_,rfl,ac hba (ac hdr (ac hb1 (ac hb2 hb3))),hR⟩
theorem KY {way a b:Int} {an aa ai bn ba bi:Bool} {aV bV:Int} {R:Int->Prop} (T:World->Value->Prop) (hT:∀ W W' v,T W v->Below W.heap.size W W'->T W' v) (w:World)
    (LA:∀ W,Calls prog 179 #[(.agg #[G6 53,G6 (-1074),G6 1024,G6 9218868437227405312,G6 (-9223372036854775808)]),G6 a] W fun e w'=>∃ v,e=.returned v∧Below W.heap.size W w'∧Pt w' an aa ai aV v)
    (LB:∀ W,Calls prog 179 #[(.agg #[G6 53,G6 (-1074),G6 1024,G6 9218868437227405312,G6 (-9223372036854775808)]),G6 b] W fun e w'=>∃ v,e=.returned v∧Below W.heap.size W w'∧Pt w' bn ba bi bV v)
    (TI:∀ W p q,Pt W an aa ai aV p->Pt W bn ba bi bV q->Calls prog 178 #[p,q] W fun x w'=>∃ v,x=.returned v∧Below W.heap.size W w'∧T w' v)
    (CL:∀ W v,T W v->Calls prog 177 #[(.agg #[G6 53,G6 (-1074),G6 1024,G6 9218868437227405312,G6 (-9223372036854775808)]),v,G6 way] W fun x w'=>∃ r,x=.returned (G6 r)∧Below W.heap.size W w'∧R r) :
    Calls prog 117 #[(.agg #[G6 53,G6 (-1074),G6 1024,G6 9218868437227405312,G6 (-9223372036854775808)]),G6 a,G6 b,G6 way] w fun x w'=>∃ r,x=.returned (G6 r)∧Below w.heap.size w w'∧R r:=by
  have hba:=af w (.cells #[G6 53,G6 (-1074),G6 1024,G6 9218868437227405312,G6 (-9223372036854775808)] 147)
  have q0:=heap_alloc_new w (.cells #[G6 53,G6 (-1074),G6 1024,G6 9218868437227405312,G6 (-9223372036854775808)] 147)
  have a0:=ae q0 0 rfl
  have a1:=ae q0 1 rfl
  have a2:=ae q0 2 rfl
  have a3:=ae q0 3 rfl
  have a4:=ae q0 4 rfl
  go_enter func117,ntmps117
  go_wp2_with fail
  have k5:K5 w.heap.size (w.alloc (.cells #[G6 53,G6 (-1074),G6 1024,G6 9218868437227405312,G6 (-9223372036854775808)] 147)):=⟨a0,a1,a2,a3,a4⟩
  clear a0 a1 a2 a3 a4 q0
  generalize w.alloc (.cells #[G6 53,G6 (-1074),G6 1024,G6 9218868437227405312,G6 (-9223372036854775808)] 147)=wx at hba k5 ⊢
  have hdr:Below wx.heap.size wx wx.drew:=(ap wx).drew
  go_region_held3 (fun W=>W.cell? ⟨w.heap.size,0,none⟩=some (G6 53)∧W.cell? ⟨w.heap.size,1,none⟩=some (G6 (-1074))∧W.cell? ⟨w.heap.size,2,none⟩=some (G6 1024)∧W.cell? ⟨w.heap.size,3,none⟩=some (G6 9218868437227405312)∧W.cell? ⟨w.heap.size,4,none⟩=some (G6 (-9223372036854775808)))
    (first|assumption|exact k5|exact K5.keeps k5 hdr|exact k51|exact k52|exact k53|exact k54)
    (first
      | (go_at_call 177;refine(CL _ _ hv3).mono ?_;rintro _ w4 ⟨r,rfl,hb4,hR⟩;have k54:=K5.keeps k53 hb4)
      | (go_at_call 178;refine(TI _ _ _ (hv1.keeps hb2) hv2).mono ?_;rintro _ w3 ⟨v3,rfl,hb3,hv3⟩;have k53:=K5.keeps k52 hb3)
      | (go_at_call 179;have _t:=hv1;refine(LB _).mono ?_;rintro _ w2 ⟨v2,rfl,hb2,hv2⟩;have k52:=K5.keeps k51 hb2)
      | (go_at_call 179; refine (LA _).mono ?_; rintro _ w1 ⟨v1,rfl,hb1,hv1⟩; have k51:=K5.keeps (K5.keeps k5 hdr) hb1))
  all_goals go_wp2
  all_goals go_ret
  all_goals exact⟨_,rfl,ac hba (ac hdr (ac hb1 (ac hb2 (ac hb3 hb4)))),hR⟩
def yI (k q:Nat) (n0 n1 n2 n3:Bool) (xo:Option Addr) (xn xc:Nat) (xe:Int) (W:World):Prop:=(W.cell? ⟨k,0,none⟩=some (G6 53)∧W.cell? ⟨k,1,none⟩=some (G6 (-1074))∧W.cell? ⟨k,2,none⟩=some (G6 1024)∧W.cell? ⟨k,3,none⟩=some (G6 9218868437227405312)∧W.cell? ⟨k,4,none⟩=some (G6 (-9223372036854775808)))∧W.cell? ⟨q,0,none⟩=some (.bool n0)∧W.cell? ⟨q,1,none⟩=some (.bool n1)∧W.cell? ⟨q,2,none⟩=some (.bool n2)∧W.cell? ⟨q,3,none⟩=some (.bool n3)∧W.cell? ⟨q,4,none⟩=some (.slice xo xn xc)∧W.cell? ⟨q,5,none⟩=some (G6 xe)
theorem yI.keeps {k q:Nat} {n0 n1 n2 n3:Bool} {xo:Option Addr} {xn xc:Nat} {xe:Int} {W W':World} (h:yI k q n0 n1 n2 n3 xo xn xc xe W) (hb:Below W.heap.size W W'):yI k q n0 n1 n2 n3 xo xn xc xe W':=by
 obtain⟨⟨h0,h1,h2,h3,h4⟩,g0,g1,g2,g3,g4,g5⟩:=h
 exact⟨⟨aX h0 hb,aX h1 hb,aX h2 hb,aX h3 hb,aX h4 hb⟩,aX g0 hb,aX g1 hb,aX g2 hb,aX g3 hb,aX g4 hb,aX g5 hb⟩
theorem IC {w:World} {xg:Bool} {xo:Option Addr} {xn xc:Nat} {xe V:Int} (hx:br w (.agg #[.bool xg,.slice xo xn xc,G6 xe]) V) :
  ∃ yg,br w (.agg #[.bool yg,.slice xo xn xc,G6 xe]) (-V)∧∀ W,Calls prog 180 #[.agg #[.bool xg,.slice xo xn xc,G6 xe]] W fun r w'=>r=.returned (.agg #[.bool yg,.slice xo xn xc,G6 xe])∧Below W.heap.size W w':=by
 obtain⟨zx,mx⟩:=lH hx
 refine⟨if xn=0 then xg else !xg,?_,fun W=>yx ⟨xg,xo,xn,xc,fun _=>0,xe⟩ W mx⟩
 obtain⟨ng,s,m,e',h1,hy,hN⟩:=hx
 simp only[Value.agg.injEq,Array.mk.injEq,List.cons.injEq,Value.bool.injEq,Value.int.injEq,true_and,and_true] at h1
 obtain⟨rfl,rfl,rfl⟩:=h1
 by_cases h0:xn=0
 ·rw[if_pos h0]
  have hV:=zx.1 h0
  subst hV
  exact⟨_,_,m,_,rfl,hy,hN⟩
 ·rw[if_neg h0]
  have hm:m≠0:=fun q=>h0 (zx.2 (hy.eq_zero.2 q))
  exact⟨_,_,m,_,rfl,hy.neg (by have:=hy.nonneg;omega),hN⟩
theorem KZ {way a b:Int} {an aa ai bn ba bi:Bool} {aV bV:Int} {R:Int->Prop} (w:World)
    (LA:∀ W,Calls prog 179 #[(.agg #[G6 53,G6 (-1074),G6 1024,G6 9218868437227405312,G6 (-9223372036854775808)]),G6 a] W fun e w'=>∃ v,e=.returned v∧Below W.heap.size W w'∧Pt w' an aa ai aV v)
    (LB:∀ W,Calls prog 179 #[(.agg #[G6 53,G6 (-1074),G6 1024,G6 9218868437227405312,G6 (-9223372036854775808)]),G6 b] W fun e w'=>∃ v,e=.returned v∧Below W.heap.size W w'∧Pt w' bn ba bi bV v)
    (PL:∀ W p q,Pt W an aa ai aV p->Pt W (!bn) ba bi (-bV) q->Calls prog 181 #[(.agg #[G6 53,G6 (-1074),G6 1024,G6 9218868437227405312,G6 (-9223372036854775808)]),p,q,G6 way] W fun x w'=>∃ r,x=.returned (G6 r)∧Below W.heap.size W w'∧R r) :
    Calls prog 118 #[(.agg #[G6 53,G6 (-1074),G6 1024,G6 9218868437227405312,G6 (-9223372036854775808)]),G6 a,G6 b,G6 way] w fun x w'=>∃ r,x=.returned (G6 r)∧Below w.heap.size w w'∧R r:=by
  have hba:=af w (.cells #[G6 53,G6 (-1074),G6 1024,G6 9218868437227405312,G6 (-9223372036854775808)] 147)
  have q0:=heap_alloc_new w (.cells #[G6 53,G6 (-1074),G6 1024,G6 9218868437227405312,G6 (-9223372036854775808)] 147)
  have a0:=ae q0 0 rfl
  have a1:=ae q0 1 rfl
  have a2:=ae q0 2 rfl
  have a3:=ae q0 3 rfl
  have a4:=ae q0 4 rfl
  go_enter func118,ntmps118
  go_wp2_with fail
  refine(LB _).mono ?_
  rintro _ w1 ⟨v,rfl,hb1,hv⟩
  obtain⟨xg,xo,xn,xc,xe,rfl,hx⟩:=hv
  obtain⟨zx,mx⟩:=lH hx
  have p0:=(hb1.block _ (aGe q0).1).trans q0
  have hbw:=ac hba hb1
  obtain⟨yg,hy,CN⟩:=IC hx
  clear a0 a1 a2 a3 a4 q0 hba hb1 hx zx
  go_wp2_with fail
  refine(CN _).mono ?_
  rintro _ w2 ⟨rfl,hb2⟩
  have hq1:=(hb2.block w1.heap.size (by rw[aw];omega)).trans (aD w1 (.cells #[.bool (!bn),.bool ba,.bool bi,.bool xg,.slice xo xn xc,G6 xe] 195))
  have hk1:=(hb2.block w.heap.size (by rw[aw];have:=(aGe p0).1;omega)).trans (am (.cells #[.bool (!bn),.bool ba,.bool bi,.bool xg,.slice xo xn xc,G6 xe] 195) p0)
  have hne:w1.heap.size≠w.heap.size:=by have:=(aGe p0).1;omega
  have hbw2:=ac (af w1 (.cells #[.bool (!bn),.bool ba,.bool bi,.bool xg,.slice xo xn xc,G6 xe] 195)) hb2
  have f3:=ah hq1 3
  have f4:=ah hq1 4
  have f5:=ah hq1 5
  have y0:=ae hq1 0 rfl
  have y1:=ae hq1 1 rfl
  have y2:=ae hq1 2 rfl
  have y3:=ae hq1 3 rfl
  have y4:=ae hq1 4 rfl
  have y5:=ae hq1 5 rfl
  have t3:=aI hq1 3 (.bool yg)
  have t4:=aI t3 4 (.slice xo xn xc)
  have t5:=aI t4 5 (G6 xe)
  have u3:=(heap_setCell_other w2 ⟨w1.heap.size,3,none⟩ w.heap.size (.bool yg) (Ne.symm hne)).trans hk1
  have u4:=(heap_setCell_other _ ⟨w1.heap.size,4,none⟩ w.heap.size (.slice xo xn xc) (Ne.symm hne)).trans u3
  have u5:=(heap_setCell_other _ ⟨w1.heap.size,5,none⟩ w.heap.size (G6 xe) (Ne.symm hne)).trans u4
  have hbs:Below w1.heap.size w1 (((w2.setCell ⟨w1.heap.size,3,none⟩ (.bool yg)).setCell ⟨w1.heap.size,4,none⟩ (.slice xo xn xc)).setCell ⟨w1.heap.size,5,none⟩ (G6 xe)):=bv hbw2 (Nat.le_refl _) _ _ _
  have kk:yI w.heap.size w1.heap.size (!bn) ba bi yg xo xn xc xe (((w2.setCell ⟨w1.heap.size,3,none⟩ (.bool yg)).setCell ⟨w1.heap.size,4,none⟩ (.slice xo xn xc)).setCell ⟨w1.heap.size,5,none⟩ (G6 xe)) :=
    ⟨⟨ae u5 0 rfl,ae u5 1 rfl,ae u5 2 rfl,ae u5 3 rfl,ae u5 4 rfl⟩,ae t5 0 (by simp),ae t5 1 (by simp),ae t5 2 (by simp),ae t5 3 (by simp),ae t5 4 (by simp),ae t5 5 (by simp)⟩
  clear t3 t4 t5 u3 u4 u5 hb2 CN LB
  go_wp2_with fail
  clear f3 f4 f5 y0 y1 y2 y3 y4 y5 hq1 hk1 p0
  generalize ((w2.setCell ⟨w1.heap.size,3,none⟩ (.bool yg)).setCell ⟨w1.heap.size,4,none⟩ (.slice xo xn xc)).setCell ⟨w1.heap.size,5,none⟩ (G6 xe)=wx at hbs kk ⊢
  have hdr:Below wx.heap.size wx wx.drew:=(ap wx).drew
  have PQ:∀ W,Below w1.heap.size w1 W->Pt W (!bn) ba bi (-bV) (.agg #[.bool (!bn),.bool ba,.bool bi,.bool yg,.slice xo xn xc,G6 xe]):=fun W hW=>⟨_,_,_,_,_,rfl,hy.keeps hW⟩
  go_region_held3 (fun W=>(W.cell? ⟨w.heap.size,0,none⟩=some (G6 53)∧W.cell? ⟨w.heap.size,1,none⟩=some (G6 (-1074))∧W.cell? ⟨w.heap.size,2,none⟩=some (G6 1024)∧W.cell? ⟨w.heap.size,3,none⟩=some (G6 9218868437227405312)∧W.cell? ⟨w.heap.size,4,none⟩=some (G6 (-9223372036854775808)))∧W.cell? ⟨w1.heap.size,0,none⟩=some (.bool (!bn))∧W.cell? ⟨w1.heap.size,1,none⟩=some (.bool ba)∧W.cell? ⟨w1.heap.size,2,none⟩=some (.bool bi)∧W.cell? ⟨w1.heap.size,3,none⟩=some (.bool yg)∧W.cell? ⟨w1.heap.size,4,none⟩=some (.slice xo xn xc)∧W.cell? ⟨w1.heap.size,5,none⟩=some (G6 xe))
    (first|assumption|exact kk|exact yI.keeps kk hdr|exact kk1|exact kk2)
    (first
      | (go_at_call 181;refine(PL _ _ _ hv1 (PQ _ (ac hbs (ac hdr hb3)))).mono ?_;rintro _ w4 ⟨r,rfl,hb4,hR⟩;have kk2:=yI.keeps kk1 hb4)
      | (go_at_call 179; refine (LA _).mono ?_; rintro _ w3 ⟨v1,rfl,hb3,hv1⟩; have kk1:=yI.keeps (yI.keeps kk hdr) hb3))
  all_goals go_wp2
  all_goals go_ret
  all_goals exact⟨_,rfl,ac hbw (ac hbs (ac hdr (ac hb3 hb4))),hR⟩
end Go.Proofs.YtjjihmnbdeeedaaGreatDoor
