/- Parts of the proof. -/
import Derived.Test.YtcklaogdjpbagaaGreatDoorSp31
import Derived.Test.YtcklaogdjpbagaaGreatDoorSp8
import Derived.Test.YtcklaogdjpbagaaGreatDoorSp12
import Derived.Test.YtcklaogdjpbagaaGreatDoorSp9
set_option maxRecDepth 100000
set_option maxHeartbeats 8000000
set_option linter.unusedVariables false
set_option linter.unusedSimpArgs false
namespace Go.Proofs.YtcklaogdjpbagaaGreatDoor
open Go Go.RowKit Go.Proofs.YtcklaogdjpbagaaGreatDoor.M
theorem Pt.keeps {w w':World} {ng na ni:Bool} {V:Int} {v:Value} (h:Pt w ng na ni V v) (hb:Below w.heap.size w w'):Pt w' ng na ni V v:=by
 obtain⟨xg,xo,xn,xc,xe,h1,h2⟩:=h
 exact⟨xg,xo,xn,xc,xe,h1,h2.keeps hb⟩
def Aq (way:Int) (pn pa pi:Bool) (Vp:Int) (qn qa qi:Bool) (Vq:Int) (r:Int):Prop:=if (pa||qa||pi||qi)=true then r=mG pn pa pi qn qa qi else Ap way pn qn Vp Vq r
theorem sP (way:Int) (hw:0<=way∧way<=3) {w:World} {pn pa pi qn qa qi:Bool} {Vp Vq:Int} {p q:Value} (hp:Pt w pn pa pi Vp p) (hq:Pt w qn qa qi Vq q) (bp:Bd 9000 Vp) (bq:Bd 9000 Vq) :
  Calls Tryz.prog 109 #[ce,p,q,.int .i64 way] w fun x w'=>∃ r,x=.returned (.int .i64 r)∧Below w.heap.size w w'∧Aq way pn pa pi Vp qn qa qi Vq r:=by
 obtain⟨xg,xo,xn,xc,xe,rfl,hx⟩:=hp
 obtain⟨yg,yo,yn,yc,ye,rfl,hy⟩:=hq
 unfold Aq
 by_cases h:(pa||qa||pi||qi)=true
 ·refine(xO way pn pa pi qn qa qi xg yg xo yo xn xc yn yc xe ye w h).mono ?_
  rintro x w' ⟨rfl,hb⟩
  exact⟨_,rfl,hb,by rw[if_pos h]⟩
 ·have h2:pa=false∧qa=false∧pi=false∧qi=false:=by cases pa<;>cases qa<;>cases pi<;>cases qi<;>simp_all
  obtain⟨rfl,rfl,rfl,rfl⟩:=h2
  refine(Bz way hw pn qn xg yg xo yo xn xc yn yc xe ye Vp Vq w hx hy bp bq).mono ?_
  rintro x w' ⟨r,rfl,hb,hr⟩
  exact⟨_,rfl,hb,by rw[if_neg h];exact hr⟩
theorem iA (b:Int):Bd 4000 (aq b):=by
 by_cases h:aF b=true
 ·exact km h
 ·rw[(jn h).2]
  exact⟨0,by simp,by have:=aJ (2*4000);omega,aJ _⟩
def K5 (k:Nat) (W:World):Prop:=W.cell? ⟨k,0,none⟩=some (.int .i64 53)∧W.cell? ⟨k,1,none⟩=some (.int .i64 (-1074))∧W.cell? ⟨k,2,none⟩=some (.int .i64 1024)∧W.cell? ⟨k,3,none⟩=some (.int .i64 9218868437227405312)∧W.cell? ⟨k,4,none⟩=some (.int .i64 (-9223372036854775808))
theorem K5.keeps {k:Nat} {W W':World} (h:K5 k W) (hb:Below W.heap.size W W'):K5 k W':=by
 obtain⟨h0,h1,h2,h3,h4⟩:=h
 exact⟨aP h0 hb,aP h1 hb,aP h2 hb,aP h3 hb,aP h4 hb⟩
theorem zC {way a b:Int} {an aa ai bn ba bi:Bool} {aV bV:Int} {R:Int->Prop} (w:World)
    (LA:∀ W,Calls Tryz.prog 110 #[(.agg #[.int .i64 53,.int .i64 (-1074),.int .i64 1024,.int .i64 9218868437227405312,.int .i64 (-9223372036854775808)]),.int .i64 a] W fun e w'=>∃ v,e=.returned v∧Below W.heap.size W w'∧Pt w' an aa ai aV v)
    (LB:∀ W,Calls Tryz.prog 110 #[(.agg #[.int .i64 53,.int .i64 (-1074),.int .i64 1024,.int .i64 9218868437227405312,.int .i64 (-9223372036854775808)]),.int .i64 b] W fun e w'=>∃ v,e=.returned v∧Below W.heap.size W w'∧Pt w' bn ba bi bV v)
    (PL:∀ W p q,Pt W an aa ai aV p->Pt W bn ba bi bV q->Calls Tryz.prog 109 #[(.agg #[.int .i64 53,.int .i64 (-1074),.int .i64 1024,.int .i64 9218868437227405312,.int .i64 (-9223372036854775808)]),p,q,.int .i64 way] W fun x w'=>∃ r,x=.returned (.int .i64 r)∧Below W.heap.size W w'∧R r) :
    Calls Tryz.prog 83 #[(.agg #[.int .i64 53,.int .i64 (-1074),.int .i64 1024,.int .i64 9218868437227405312,.int .i64 (-9223372036854775808)]),.int .i64 a,.int .i64 b,.int .i64 way] w fun x w'=>∃ r,x=.returned (.int .i64 r)∧Below w.heap.size w w'∧R r:=by
  have hba:=ah w (.cells #[.int .i64 53,.int .i64 (-1074),.int .i64 1024,.int .i64 9218868437227405312,.int .i64 (-9223372036854775808)] 120)
  have q0:=heap_alloc_new w (.cells #[.int .i64 53,.int .i64 (-1074),.int .i64 1024,.int .i64 9218868437227405312,.int .i64 (-9223372036854775808)] 120)
  have a0:=af q0 0 rfl
  have a1:=af q0 1 rfl
  have a2:=af q0 2 rfl
  have a3:=af q0 3 rfl
  have a4:=af q0 4 rfl
  go_enter Tryz.func83,Tryz.ntmps83
  go_wp2_with fail
  have k5:K5 w.heap.size (w.alloc (.cells #[.int .i64 53,.int .i64 (-1074),.int .i64 1024,.int .i64 9218868437227405312,.int .i64 (-9223372036854775808)] 120)):=⟨a0,a1,a2,a3,a4⟩
  clear a0 a1 a2 a3 a4 q0
  generalize w.alloc (.cells #[.int .i64 53,.int .i64 (-1074),.int .i64 1024,.int .i64 9218868437227405312,.int .i64 (-9223372036854775808)] 120)=wx at hba k5 ⊢
  have hdr:Below wx.heap.size wx wx.drew:=(ak wx).drew
  go_region_held3 (fun W=>W.cell? ⟨w.heap.size,0,none⟩=some (.int .i64 53)∧W.cell? ⟨w.heap.size,1,none⟩=some (.int .i64 (-1074))∧W.cell? ⟨w.heap.size,2,none⟩=some (.int .i64 1024)∧W.cell? ⟨w.heap.size,3,none⟩=some (.int .i64 9218868437227405312)∧W.cell? ⟨w.heap.size,4,none⟩=some (.int .i64 (-9223372036854775808)))
    (first|assumption|exact k5|exact K5.keeps k5 hdr|exact k51|exact k52|exact k53)
    (first
      | (go_at_call 109;refine(PL _ _ _ (hv1.keeps hb2) hv2).mono ?_;rintro _ w3 ⟨r,rfl,hb3,hR⟩;have k53:=K5.keeps k52 hb3)
      | (go_at_call 110;have _t:=hv1;refine(LB _).mono ?_;rintro _ w2 ⟨v2,rfl,hb2,hv2⟩;have k52:=K5.keeps k51 hb2)
      | (go_at_call 110; refine (LA _).mono ?_; rintro _ w1 ⟨v1,rfl,hb1,hv1⟩; have k51:=K5.keeps (K5.keeps k5 hdr) hb1))
  all_goals go_wp2
  all_goals go_ret
  all_goals exact⟨_,rfl,ac hba (ac hdr (ac hb1 (ac hb2 hb3))),hR⟩
theorem zD {way a b:Int} {an aa ai bn ba bi:Bool} {aV bV:Int} {R:Int->Prop} (T:World->Value->Prop) (hT:∀ W W' v,T W v->Below W.heap.size W W'->T W' v) (w:World)
    (LA:∀ W,Calls Tryz.prog 110 #[(.agg #[.int .i64 53,.int .i64 (-1074),.int .i64 1024,.int .i64 9218868437227405312,.int .i64 (-9223372036854775808)]),.int .i64 a] W fun e w'=>∃ v,e=.returned v∧Below W.heap.size W w'∧Pt w' an aa ai aV v)
    (LB:∀ W,Calls Tryz.prog 110 #[(.agg #[.int .i64 53,.int .i64 (-1074),.int .i64 1024,.int .i64 9218868437227405312,.int .i64 (-9223372036854775808)]),.int .i64 b] W fun e w'=>∃ v,e=.returned v∧Below W.heap.size W w'∧Pt w' bn ba bi bV v)
    (TI:∀ W p q,Pt W an aa ai aV p->Pt W bn ba bi bV q->Calls Tryz.prog 112 #[p,q] W fun x w'=>∃ v,x=.returned v∧Below W.heap.size W w'∧T w' v)
    (CL:∀ W v,T W v->Calls Tryz.prog 111 #[(.agg #[.int .i64 53,.int .i64 (-1074),.int .i64 1024,.int .i64 9218868437227405312,.int .i64 (-9223372036854775808)]),v,.int .i64 way] W fun x w'=>∃ r,x=.returned (.int .i64 r)∧Below W.heap.size W w'∧R r) :
    Calls Tryz.prog 84 #[(.agg #[.int .i64 53,.int .i64 (-1074),.int .i64 1024,.int .i64 9218868437227405312,.int .i64 (-9223372036854775808)]),.int .i64 a,.int .i64 b,.int .i64 way] w fun x w'=>∃ r,x=.returned (.int .i64 r)∧Below w.heap.size w w'∧R r:=by
  have hba:=ah w (.cells #[.int .i64 53,.int .i64 (-1074),.int .i64 1024,.int .i64 9218868437227405312,.int .i64 (-9223372036854775808)] 120)
  have q0:=heap_alloc_new w (.cells #[.int .i64 53,.int .i64 (-1074),.int .i64 1024,.int .i64 9218868437227405312,.int .i64 (-9223372036854775808)] 120)
  have a0:=af q0 0 rfl
  have a1:=af q0 1 rfl
  have a2:=af q0 2 rfl
  have a3:=af q0 3 rfl
  have a4:=af q0 4 rfl
  go_enter Tryz.func84,Tryz.ntmps84
  go_wp2_with fail
  have k5:K5 w.heap.size (w.alloc (.cells #[.int .i64 53,.int .i64 (-1074),.int .i64 1024,.int .i64 9218868437227405312,.int .i64 (-9223372036854775808)] 120)):=⟨a0,a1,a2,a3,a4⟩
  clear a0 a1 a2 a3 a4 q0
  generalize w.alloc (.cells #[.int .i64 53,.int .i64 (-1074),.int .i64 1024,.int .i64 9218868437227405312,.int .i64 (-9223372036854775808)] 120)=wx at hba k5 ⊢
  have hdr:Below wx.heap.size wx wx.drew:=(ak wx).drew
  go_region_held3 (fun W=>W.cell? ⟨w.heap.size,0,none⟩=some (.int .i64 53)∧W.cell? ⟨w.heap.size,1,none⟩=some (.int .i64 (-1074))∧W.cell? ⟨w.heap.size,2,none⟩=some (.int .i64 1024)∧W.cell? ⟨w.heap.size,3,none⟩=some (.int .i64 9218868437227405312)∧W.cell? ⟨w.heap.size,4,none⟩=some (.int .i64 (-9223372036854775808)))
    (first|assumption|exact k5|exact K5.keeps k5 hdr|exact k51|exact k52|exact k53|exact k54)
    (first
      | (go_at_call 111;refine(CL _ _ hv3).mono ?_;rintro _ w4 ⟨r,rfl,hb4,hR⟩;have k54:=K5.keeps k53 hb4)
      | (go_at_call 112;refine(TI _ _ _ (hv1.keeps hb2) hv2).mono ?_;rintro _ w3 ⟨v3,rfl,hb3,hv3⟩;have k53:=K5.keeps k52 hb3)
      | (go_at_call 110;have _t:=hv1;refine(LB _).mono ?_;rintro _ w2 ⟨v2,rfl,hb2,hv2⟩;have k52:=K5.keeps k51 hb2)
      | (go_at_call 110; refine (LA _).mono ?_; rintro _ w1 ⟨v1,rfl,hb1,hv1⟩; have k51:=K5.keeps (K5.keeps k5 hdr) hb1))
  all_goals go_wp2
  all_goals go_ret
  all_goals exact⟨_,rfl,ac hba (ac hdr (ac hb1 (ac hb2 (ac hb3 hb4)))),hR⟩
def qq (k q:Nat) (n0 n1 n2 n3:Bool) (xo:Option Addr) (xn xc:Nat) (xe:Int) (W:World):Prop:=(W.cell? ⟨k,0,none⟩=some (.int .i64 53)∧W.cell? ⟨k,1,none⟩=some (.int .i64 (-1074))∧W.cell? ⟨k,2,none⟩=some (.int .i64 1024)∧W.cell? ⟨k,3,none⟩=some (.int .i64 9218868437227405312)∧W.cell? ⟨k,4,none⟩=some (.int .i64 (-9223372036854775808)))∧W.cell? ⟨q,0,none⟩=some (.bool n0)∧W.cell? ⟨q,1,none⟩=some (.bool n1)∧W.cell? ⟨q,2,none⟩=some (.bool n2)∧W.cell? ⟨q,3,none⟩=some (.bool n3)∧W.cell? ⟨q,4,none⟩=some (.slice xo xn xc)∧W.cell? ⟨q,5,none⟩=some (.int .i64 xe)
theorem qq.keeps {k q:Nat} {n0 n1 n2 n3:Bool} {xo:Option Addr} {xn xc:Nat} {xe:Int} {W W':World} (h:qq k q n0 n1 n2 n3 xo xn xc xe W) (hb:Below W.heap.size W W'):qq k q n0 n1 n2 n3 xo xn xc xe W':=by
 obtain⟨⟨h0,h1,h2,h3,h4⟩,g0,g1,g2,g3,g4,g5⟩:=h
 exact⟨⟨aP h0 hb,aP h1 hb,aP h2 hb,aP h3 hb,aP h4 hb⟩,aP g0 hb,aP g1 hb,aP g2 hb,aP g3 hb,aP g4 hb,aP g5 hb⟩
theorem Df {w:World} {xg:Bool} {xo:Option Addr} {xn xc:Nat} {xe V:Int} (hx:aR w (.agg #[.bool xg,.slice xo xn xc,.int .i64 xe]) V) :
  ∃ yg,aR w (.agg #[.bool yg,.slice xo xn xc,.int .i64 xe]) (-V)∧∀ W,Calls Tryz.prog 91 #[.agg #[.bool xg,.slice xo xn xc,.int .i64 xe]] W fun r w'=>r=.returned (.agg #[.bool yg,.slice xo xn xc,.int .i64 xe])∧Below W.heap.size W w':=by
 obtain⟨zx,mx⟩:=gP hx
 refine⟨if xn=0 then xg else !xg,?_,fun W=>qd ⟨xg,xo,xn,xc,fun _=>0,xe⟩ W mx⟩
 obtain⟨ng,s,m,e',h1,hy,hN⟩:=hx
 simp only[Value.agg.injEq,Array.mk.injEq,List.cons.injEq,Value.bool.injEq,Value.int.injEq,true_and,and_true] at h1
 obtain⟨rfl,rfl,rfl⟩:=h1
 by_cases h0:xn=0
 ·rw[if_pos h0]
  have hV:=zx.1 h0
  subst hV
  exact⟨_,_,m,_,rfl,hy,hN⟩
 ·rw[if_neg h0]
  have hm:m≠0:=fun q=>h0 (zx.2 (hy.eq_zero.2 q))
  exact⟨_,_,m,_,rfl,hy.neg (by have:=hy.nonneg;omega),hN⟩
theorem zE {way a b:Int} {an aa ai bn ba bi:Bool} {aV bV:Int} {R:Int->Prop} (w:World)
    (LA:∀ W,Calls Tryz.prog 110 #[(.agg #[.int .i64 53,.int .i64 (-1074),.int .i64 1024,.int .i64 9218868437227405312,.int .i64 (-9223372036854775808)]),.int .i64 a] W fun e w'=>∃ v,e=.returned v∧Below W.heap.size W w'∧Pt w' an aa ai aV v)
    (LB:∀ W,Calls Tryz.prog 110 #[(.agg #[.int .i64 53,.int .i64 (-1074),.int .i64 1024,.int .i64 9218868437227405312,.int .i64 (-9223372036854775808)]),.int .i64 b] W fun e w'=>∃ v,e=.returned v∧Below W.heap.size W w'∧Pt w' bn ba bi bV v)
    (PL:∀ W p q,Pt W an aa ai aV p->Pt W (!bn) ba bi (-bV) q->Calls Tryz.prog 109 #[(.agg #[.int .i64 53,.int .i64 (-1074),.int .i64 1024,.int .i64 9218868437227405312,.int .i64 (-9223372036854775808)]),p,q,.int .i64 way] W fun x w'=>∃ r,x=.returned (.int .i64 r)∧Below W.heap.size W w'∧R r) :
    Calls Tryz.prog 85 #[(.agg #[.int .i64 53,.int .i64 (-1074),.int .i64 1024,.int .i64 9218868437227405312,.int .i64 (-9223372036854775808)]),.int .i64 a,.int .i64 b,.int .i64 way] w fun x w'=>∃ r,x=.returned (.int .i64 r)∧Below w.heap.size w w'∧R r:=by
  have hba:=ah w (.cells #[.int .i64 53,.int .i64 (-1074),.int .i64 1024,.int .i64 9218868437227405312,.int .i64 (-9223372036854775808)] 120)
  have q0:=heap_alloc_new w (.cells #[.int .i64 53,.int .i64 (-1074),.int .i64 1024,.int .i64 9218868437227405312,.int .i64 (-9223372036854775808)] 120)
  have a0:=af q0 0 rfl
  have a1:=af q0 1 rfl
  have a2:=af q0 2 rfl
  have a3:=af q0 3 rfl
  have a4:=af q0 4 rfl
  go_enter Tryz.func85,Tryz.ntmps85
  go_wp2_with fail
  refine(LB _).mono ?_
  rintro _ w1 ⟨v,rfl,hb1,hv⟩
  obtain⟨xg,xo,xn,xc,xe,rfl,hx⟩:=hv
  obtain⟨zx,mx⟩:=gP hx
  have p0:=(hb1.block _ (aGe q0).1).trans q0
  have hbw:=ac hba hb1
  obtain⟨yg,hy,CN⟩:=Df hx
  clear a0 a1 a2 a3 a4 q0 hba hb1 hx zx
  go_wp2_with fail
  refine(CN _).mono ?_
  rintro _ w2 ⟨rfl,hb2⟩
  have hq1:=(hb2.block w1.heap.size (by rw[aI];omega)).trans (aC w1 (.cells #[.bool (!bn),.bool ba,.bool bi,.bool xg,.slice xo xn xc,.int .i64 xe] 147))
  have hk1:=(hb2.block w.heap.size (by rw[aI];have:=(aGe p0).1;omega)).trans (ar (.cells #[.bool (!bn),.bool ba,.bool bi,.bool xg,.slice xo xn xc,.int .i64 xe] 147) p0)
  have hne:w1.heap.size≠w.heap.size:=by have:=(aGe p0).1;omega
  have hbw2:=ac (ah w1 (.cells #[.bool (!bn),.bool ba,.bool bi,.bool xg,.slice xo xn xc,.int .i64 xe] 147)) hb2
  have f3:=av hq1 3
  have f4:=av hq1 4
  have f5:=av hq1 5
  have y0:=af hq1 0 rfl
  have y1:=af hq1 1 rfl
  have y2:=af hq1 2 rfl
  have y3:=af hq1 3 rfl
  have y4:=af hq1 4 rfl
  have y5:=af hq1 5 rfl
  have t3:=ap hq1 3 (.bool yg)
  have t4:=ap t3 4 (.slice xo xn xc)
  have t5:=ap t4 5 (.int .i64 xe)
  have u3:=(heap_setCell_other w2 ⟨w1.heap.size,3,none⟩ w.heap.size (.bool yg) (Ne.symm hne)).trans hk1
  have u4:=(heap_setCell_other _ ⟨w1.heap.size,4,none⟩ w.heap.size (.slice xo xn xc) (Ne.symm hne)).trans u3
  have u5:=(heap_setCell_other _ ⟨w1.heap.size,5,none⟩ w.heap.size (.int .i64 xe) (Ne.symm hne)).trans u4
  have hbs:Below w1.heap.size w1 (((w2.setCell ⟨w1.heap.size,3,none⟩ (.bool yg)).setCell ⟨w1.heap.size,4,none⟩ (.slice xo xn xc)).setCell ⟨w1.heap.size,5,none⟩ (.int .i64 xe)):=aW hbw2 (Nat.le_refl _) _ _ _
  have kk:qq w.heap.size w1.heap.size (!bn) ba bi yg xo xn xc xe (((w2.setCell ⟨w1.heap.size,3,none⟩ (.bool yg)).setCell ⟨w1.heap.size,4,none⟩ (.slice xo xn xc)).setCell ⟨w1.heap.size,5,none⟩ (.int .i64 xe)) :=
    ⟨⟨af u5 0 rfl,af u5 1 rfl,af u5 2 rfl,af u5 3 rfl,af u5 4 rfl⟩,af t5 0 (by simp),af t5 1 (by simp),af t5 2 (by simp),af t5 3 (by simp),af t5 4 (by simp),af t5 5 (by simp)⟩
  clear t3 t4 t5 u3 u4 u5 hb2 CN LB
  go_wp2_with fail
  clear f3 f4 f5 y0 y1 y2 y3 y4 y5 hq1 hk1 p0
  generalize ((w2.setCell ⟨w1.heap.size,3,none⟩ (.bool yg)).setCell ⟨w1.heap.size,4,none⟩ (.slice xo xn xc)).setCell ⟨w1.heap.size,5,none⟩ (.int .i64 xe)=wx at hbs kk ⊢
  have hdr:Below wx.heap.size wx wx.drew:=(ak wx).drew
  have PQ:∀ W,Below w1.heap.size w1 W->Pt W (!bn) ba bi (-bV) (.agg #[.bool (!bn),.bool ba,.bool bi,.bool yg,.slice xo xn xc,.int .i64 xe]):=fun W hW=>⟨_,_,_,_,_,rfl,hy.keeps hW⟩
  go_region_held3 (fun W=>(W.cell? ⟨w.heap.size,0,none⟩=some (.int .i64 53)∧W.cell? ⟨w.heap.size,1,none⟩=some (.int .i64 (-1074))∧W.cell? ⟨w.heap.size,2,none⟩=some (.int .i64 1024)∧W.cell? ⟨w.heap.size,3,none⟩=some (.int .i64 9218868437227405312)∧W.cell? ⟨w.heap.size,4,none⟩=some (.int .i64 (-9223372036854775808)))∧W.cell? ⟨w1.heap.size,0,none⟩=some (.bool (!bn))∧W.cell? ⟨w1.heap.size,1,none⟩=some (.bool ba)∧W.cell? ⟨w1.heap.size,2,none⟩=some (.bool bi)∧W.cell? ⟨w1.heap.size,3,none⟩=some (.bool yg)∧W.cell? ⟨w1.heap.size,4,none⟩=some (.slice xo xn xc)∧W.cell? ⟨w1.heap.size,5,none⟩=some (.int .i64 xe))
    (first|assumption|exact kk|exact qq.keeps kk hdr|exact kk1|exact kk2)
    (first
      | (go_at_call 109;refine(PL _ _ _ hv1 (PQ _ (ac hbs (ac hdr hb3)))).mono ?_;rintro _ w4 ⟨r,rfl,hb4,hR⟩;have kk2:=qq.keeps kk1 hb4)
      | (go_at_call 110; refine (LA _).mono ?_; rintro _ w3 ⟨v1,rfl,hb3,hv1⟩; have kk1:=qq.keeps (qq.keeps kk hdr) hb3))
  all_goals go_wp2
  all_goals go_ret
  all_goals exact⟨_,rfl,ac hbw (ac hbs (ac hdr (ac hb3 hb4))),hR⟩
def qt (p:Int) (pn pa pi:Bool) (V:Int):Prop:=pa=decide (aL p=4)∧(aL p≠4->pn=decide (p<0)∧pi=decide (aL p=3)∧V=aq p)
theorem qt.self (p:Int):qt p (decide (p<0)) (decide (aL p=4)) (decide (aL p=3)) (aq p):=⟨rfl,fun _=>⟨rfl,rfl,rfl⟩⟩
theorem jq {p:Int} (hp:ax p):aL p=3↔rg p=9218868437227405312:=by
 have h1:=(dT hp).1
 have h2:=dU hp
 constructor
 ·intro h
  have:aF p≠true:=fun q=>by have:=uy q;omega
  have h3:¬ rg p<9218868437227405312:=fun q=>this (h2.2 q)
  have h4:¬ 9218868437227405312<rg p:=fun q=>by have:=h1.2 q;omega
  omega
 ·intro h
  have:aF p≠true:=fun q=>by have:=h2.1 q;omega
  rcases (jn this).1 with q|q
  ·exact q
  ·have:=h1.1 q;omega
theorem nm {p:Int} (h:rg p=9218868437227405312):p=aK (decide (p<0)) 9218868437227405312:=by
 unfold rg at h
 unfold aK
 by_cases h0:p<0
 ·rw[if_pos h0] at h;rw[decide_eq_true h0,if_pos rfl];omega
 ·rw[if_neg h0] at h;rw[decide_eq_false h0,if_neg (by decide)];omega
theorem qu {p:Int} (h:aq p≠0):decide (p<0)=decide (aq p<0):=by
 have hp:aF p=true:=by
  by_cases q:aF p=true
  ·exact q
  ·exact absurd (jn q).2 h
 have i0:=(gd hp).1
 unfold aq at h ⊢
 unfold dV at h ⊢
 rw[hp,Bool.true_and] at h ⊢
 have hpw:=cv (bK p)
 have hm:0<bI p:=by
  rcases Int.lt_or_eq_of_le i0 with q|q
  ·exact q
  ·rw[<- q] at h
   exfalso
   apply h
   unfold sg
   split<;>simp
 by_cases c:p<0
 ·rw[decide_eq_true c]
  symm
  apply decide_eq_true
  show -(bI p)*pw (bK p)<0
  exact Int.mul_neg_of_neg_of_pos (by omega) hpw
 ·rw[decide_eq_false c]
  symm
  apply decide_eq_false
  show ¬ bI p*pw (bK p)<0
  have:=Int.mul_pos hm hpw
  omega
theorem sR {S r:Int} (h:S≠0) (hr:qp 0 (decide (S<0)) S.natAbs r):r=dp S:=by
 obtain⟨A,r0,left,h1,h2,h3⟩:=ft h
 have hA:A=(S.natAbs:Int):=by
  unfold sg at h1
  split at h1
  ·rename_i c
   have:=of_decide_eq_true c
   omega
  ·rename_i c
   have:¬ S<0:=fun q=>c (decide_eq_true q)
   omega
 subst hA
 exact hr.unique ⟨r0,left,h2,h3⟩
theorem sS {p q:Int} {pn pa pi qn qa qi:Bool} {Vp Vq r:Int} (rp:ax p) (rq:ax q) (hp:qt p pn pa pi Vp) (hq:qt q qn qa qi Vq) (h:Aq 0 pn pa pi Vp qn qa qi Vq r):r=aE p q:=by
 obtain⟨p1,p2⟩:=hp
 obtain⟨q1,q2⟩:=hq
 unfold Aq at h
 unfold aE
 by_cases c4:aL p=4∨aL q=4
 ·rw[if_pos c4]
  have hh:(pa||qa)=true:=by
   rcases c4 with c|c
   ·rw[p1,decide_eq_true c];rfl
   ·rw[q1,decide_eq_true c,Bool.or_true]
  rw[if_pos (by rw[hh];rfl)] at h
  rw[h]
  unfold mG
  rw[if_pos (by rw[hh];rfl)]
 ·have cp:aL p≠4:=fun x=>c4 (.inl x)
  have cq:aL q≠4:=fun x=>c4 (.inr x)
  obtain⟨e1,e2,e3⟩:=p2 cp
  obtain⟨f1,f2,f3⟩:=q2 cq
  rw[decide_eq_false cp] at p1
  rw[decide_eq_false cq] at q1
  subst p1 q1 e1 e2 e3 f1 f2 f3
  rw[if_neg c4]
  have i1:=jq rp
  have i2:=jq rq
  by_cases ip:rg p=9218868437227405312
  ·rw[if_pos ip]
   rw[decide_eq_true (i1.2 ip)] at h
   simp only[Bool.false_or,Bool.true_or,if_true] at h
   rw[h]
   unfold mG
   simp only[Bool.false_or,Bool.true_and,if_true]
   by_cases iq:rg q=9218868437227405312
   ·rw[decide_eq_true (i2.2 iq),Bool.true_and]
    by_cases hs:decide (p<0)=decide (q<0)
    ·have hb:(decide (p<0) != decide (q<0))=false:=by rw[hs];simp
     rw[hb,if_neg (by decide),if_neg (fun x=>x.2 hs)]
     exact(nm ip).symm
    ·have hb:(decide (p<0) != decide (q<0))=true:=by rw[bne_iff_ne];exact hs
     rw[hb,if_pos rfl,if_pos ⟨iq,hs⟩]
   ·rw[decide_eq_false (fun x=>iq (i2.1 x)),Bool.false_and,if_neg (by decide),if_neg (fun x=>iq x.1)]
    exact(nm ip).symm
  ·rw[if_neg ip]
   have n1:decide (aL p=3)=false:=decide_eq_false (fun x=>ip (i1.1 x))
   rw[n1] at h
   by_cases iq:rg q=9218868437227405312
   ·rw[if_pos iq]
    rw[decide_eq_true (i2.2 iq)] at h
    simp only[Bool.false_or,if_true] at h
    rw[h]
    unfold mG
    simp only[Bool.false_or,Bool.false_and,Bool.false_eq_true,if_false]
    exact(nm iq).symm
   ·rw[if_neg iq]
    have n2:decide (aL q=3)=false:=decide_eq_false (fun x=>iq (i2.1 x))
    rw[n2] at h
    simp only[Bool.false_or,Bool.false_eq_true,if_false] at h
    obtain⟨s0,s1⟩:=h
    by_cases hS:aq p+aq q=0
    ·rw[if_pos hS,s0 hS]
     congr 1
     by_cases hV:aq p=0∧decide (p<0)=decide (q<0)
     ·rw[if_pos hV,<- hV.2,Bool.and_self]
     ·rw[if_neg hV]
      by_cases v0:aq p=0
      ·have hs:decide (p<0)≠decide (q<0):=fun x=>hV ⟨v0,x⟩
       cases hx:decide (p<0)<;>cases hy:decide (q<0)<;>simp_all
      ·have v1:aq q≠0:=by omega
       rw[qu v0,qu v1]
       by_cases c:aq p<0
       ·rw[decide_eq_true c,decide_eq_false (show ¬ aq q<0 by omega)];rfl
       ·rw[decide_eq_false c];rfl
    ·rw[if_neg hS]
     exact sR hS (s1 hS)
theorem BA {q:Int} (hq:ax q):qt (neg q) (!decide (q<0)) (decide (aL q=4)) (decide (aL q=3)) (-aq q):=by
 by_cases c4:aL q=4
 ·refine⟨?_,fun h=>?_⟩
  ·have:aL (neg q)=4:=by unfold neg;rw[if_pos c4];decide
   rw[decide_eq_true c4,decide_eq_true this]
  ·exfalso
   apply h
   unfold neg
   rw[if_pos c4]
   decide
 ·obtain⟨s1,s2,s3⟩:=ze hq c4
  refine⟨by rw[decide_eq_false c4,decide_eq_false s3],fun _=>⟨s1.symm,?_,?_⟩⟩
  ·have h1:=jq hq
   have h2:=jq (ei hq)
   rw[s2] at h2
   congr 1
   apply propext
   rw[h1,h2]
  ·by_cases hp:aF q=true
   ·obtain⟨n1,n2,n3⟩:=gK hq hp
    rw[cQ n1 n2,cQ hq hp,n3,Int.neg_mul]
   ·have hp2:aF (neg q)≠true:=fun x=>hp ((dU hq).2 (by have:=(dU (ei hq)).1 x;omega))
    rw[(jn hp).2,(jn hp2).2]
    rfl
def xP (pa pi:Bool) (Vp:Int) (qa qi:Bool) (Vq:Int) (na ni:Bool) (V:Int):Prop :=
 if pa||qa then na=true∧ni=false∧V=0
 else if pi||qi then na=((pi&&!qi&&decide (Vq=0))||(qi&&!pi&&decide (Vp=0)))∧ni=!na∧V=0
 else na=false∧ni=false∧V*2^4194304=Vp*Vq
theorem xQ {p:Int} (hp:ax p) (h:aF p=true):aq p=0↔rg p=0:=by
 have h0:=(dT hp).2
 have i0:=(gd h).1
 have hpw:=cv (bK p)
 have bk:aq p=0↔bI p=0:=by
  unfold aq
  constructor
  ·intro q
   rcases Int.mul_eq_zero.1 q with q|q
   ·unfold sg at q;split at q<;>omega
   ·omega
  ·intro q;rw[q];unfold sg;split<;>simp
 rw[bk,<- h0]
 unfold aF at h
 simp at h
 unfold bI aL
 rw[if_neg h,if_neg h]
 by_cases c:bT p=0
 ·rw[if_pos c,if_pos c]
  by_cases d:cn p=0
  ·rw[if_pos d];simp[d]
  ·rw[if_neg d];simp[d]
 ·rw[if_neg c,if_neg c]
  have:0<=cn p:=by unfold cn;omega
  constructor<;>intro q<;>omega
theorem zF {p q:Int} {na ni:Bool} {V r:Int} (rp:ax p) (rq:ax q) (hT:xP (decide (aL p=4)) (decide (aL p=3)) (aq p) (decide (aL q=4)) (decide (aL q=3)) (aq q) na ni V) (h:oz 0 (decide (p<0) != decide (q<0)) na ni V r):r=ay p q:=by
  unfold xP at hT
  unfold oz at h
  unfold ay
  by_cases c4:aL p=4∨aL q=4
  · rw[if_pos c4]
    rw[if_pos (by rcases c4 with c|c<;>simp[c])] at hT
    rw[hT.1,if_pos rfl] at h
    exact h
  · have cp:aL p≠4:=fun x=>c4 (.inl x)
    have cq:aL q≠4:=fun x=>c4 (.inr x)
    rw[if_neg c4]
    rw[if_neg (by simp[cp,cq])] at hT
    have i1:=jq rp
    have i2:=jq rq
    by_cases ci:rg p=9218868437227405312∨rg q=9218868437227405312
    · rw[if_pos ci]
      rw[if_pos (by rcases ci with c|c<;>simp[i1,i2,c])] at hT
      obtain⟨t1,t2,t3⟩:=hT
      have hz:((decide (aL p=3)&&!decide (aL q=3)&&decide (aq q=0))||(decide (aL q=3)&&!decide (aL p=3)&&decide (aq p=0)))=decide (rg p=0∨rg q=0):=by
        have zz:∀ {x:Int},ax x->aL x≠4->rg x≠9218868437227405312->(aq x=0 ↔ rg x=0):=fun {x} rx c h=>xQ rx ((dU rx).2 (by
          have:=(dT rx).1
          rcases Int.lt_or_le 9218868437227405312 (rg x) with g|g
          · exact absurd (this.2 g) c
          · omega))
        by_cases a:rg p=9218868437227405312
        · by_cases b:rg q=9218868437227405312
          · rw[decide_eq_true (i1.2 a),decide_eq_true (i2.2 b)]
            symm
            rw[Bool.not_true,Bool.and_false,Bool.false_and,Bool.false_and,Bool.or_self]
            apply decide_eq_false
            omega
          · rw[decide_eq_true (i1.2 a),decide_eq_false (fun x=>b (i2.1 x)),Bool.not_false,Bool.true_and,Bool.false_and,Bool.false_and,Bool.or_false,Bool.true_and]
            congr 1
            apply propext
            rw[zz rq cq b]
            omega
        · have b:rg q=9218868437227405312:=ci.resolve_left a
          rw[decide_eq_false (fun x=>a (i1.1 x)),decide_eq_true (i2.2 b),Bool.not_false,Bool.true_and,Bool.false_and,Bool.false_and,Bool.false_or,Bool.true_and]
          congr 1
          apply propext
          rw[zz rp cp a]
          omega
      rw[hz] at t1
      by_cases z:rg p=0∨rg q=0
      · rw[if_pos z]
        rw[decide_eq_true z] at t1
        rw[t1,if_pos rfl] at h
        exact h
      · rw[if_neg z]
        rw[decide_eq_false z] at t1
        rw[t2,t1,if_neg (by decide),if_pos (by rfl)] at h
        exact h
    · rw[if_neg ci]
      have a:¬ aL p=3:=fun x=>ci (.inl (i1.1 x))
      have b:¬ aL q=3:=fun x=>ci (.inr (i2.1 x))
      rw[if_neg (by simp[a,b])] at hT
      obtain⟨t1,t2,t3⟩:=hT
      rw[t1,t2,if_neg (by decide),if_neg (by decide)] at h
      have hV:V=aq p*aq q/2^4194304:=by
        rw[<- t3,Int.mul_ediv_cancel _ (Int.ne_of_gt (aJ _))]
      have hf:dG p q=sg (fQ p q) V:=by unfold dG;rw[<- hV]
      rw[hf]
      have hx:(decide (p<0) != decide (q<0))=fQ p q:=rfl
      rw[hx] at h
      clear hx hf
      generalize fQ p q=x at *
      have hsg:sg x (sg x V)=V:=by unfold sg;cases x<;>simp
      rw[hsg]
      have h0:sg x V=0↔V=0:=by unfold sg;cases x<;>simp
      by_cases v0:V=0
      · rw[if_pos (h0.2 v0)]
        rw[if_pos v0] at h
        exact h
      · rw[if_neg (fun q=>v0 (h0.1 q))]
        rw[if_neg v0] at h
        exact sR v0 h
theorem xR {w:World} {pn pa pi qn qa qi:Bool} {Vp Vq:Int} {p q:Value} (hp:Pt w pn pa pi Vp p) (hq:Pt w qn qa qi Vq q) (bp:Bd 4000 Vp) (bq:Bd 4000 Vq) :
  Calls Tryz.prog 112 #[p,q] w fun x w'=>∃ v,x=.returned v∧Below w.heap.size w w'∧∃ na ni V,Pt w' (pn != qn) na ni V v∧xP pa pi Vp qa qi Vq na ni V∧Bd 8000 V:=by
 obtain⟨xg,xo,xn,xc,xe,rfl,hx⟩:=hp
 obtain⟨yg,yo,yn,yc,ye,rfl,hy⟩:=hq
 have b0:Bd 8000 0:=⟨0,by simp,by have:=aJ (2*8000);omega,aJ _⟩
 unfold xP
 by_cases h:(pa||qa)=true
 ·refine(vD pn pa pi qn qa qi xg yg xo yo xn xc yn yc xe ye w h).mono ?_
  rintro x w' ⟨v,rfl,hb,hP⟩
  exact⟨v,rfl,hb,_,_,_,hP,by rw[if_pos h];exact⟨rfl,rfl,rfl⟩,b0⟩
 ·have h2:pa=false∧qa=false:=by cases pa<;>cases qa<;>simp_all
  obtain⟨rfl,rfl⟩:=h2
  obtain⟨zx,mx⟩:=gP hx
  obtain⟨zy,my⟩:=gP hy
  by_cases h3:(pi||qi)=true
  ·refine(vE pn pi qn qi xg yg xo yo xn xc yn yc xe ye w mx my h3).mono ?_
   rintro x w' ⟨v,rfl,hb,hP⟩
   have e1:decide (xn=0)=decide (Vp=0):=by congr 1;exact propext zx
   have e2:decide (yn=0)=decide (Vq=0):=by congr 1;exact propext zy
   rw[e1,e2] at hP
   exact⟨v,rfl,hb,_,_,_,hP,by rw[if_neg h,if_pos h3];exact⟨rfl,rfl,rfl⟩,b0⟩
  ·have h4:pi=false∧qi=false:=by cases pi<;>cases qi<;>simp_all
   obtain⟨rfl,rfl⟩:=h4
   obtain⟨d,hR,ok,hV⟩:=hx.open2 (bp.ok (by decide))
   obtain⟨d',hR',ok',hV'⟩:=hy.open2 (bq.ok (by decide))
   have sx:=cA ok
   have sy:=cA ok'
   have hm:=mw (x:=⟨xg,xo,xn,xc,d,xe⟩) (y:=⟨yg,yo,yn,yc,d',ye⟩) (by have:=sx.2.2.1;simp only at this ⊢;omega) (by have:=sy.2.2.1;simp only at this ⊢;omega)
   rw[hV,hV'] at hm
   refine(vC pn qn ⟨xg,xo,xn,xc,d,xe⟩ ⟨yg,yo,yn,yc,d',ye⟩ w hR hR' sx sy).mono ?_
   rintro x w' ⟨v,rfl,hb,hP⟩
   exact⟨v,rfl,hb,_,_,_,hP,by rw[if_neg h,if_neg h3];exact⟨rfl,rfl,hm⟩,bp.mul bq hm (by decide)⟩
theorem tC (a b:Int) (ha:ax a) (hb:ax b) (w:World) :
  Calls Tryz.prog 83 #[ce,.int .i64 a,.int .i64 b,.int .i64 0] w fun x w'=>x=.returned (.int .i64 (aE a b))∧Below w.heap.size w w':=by
 refine(zC (R:=fun r=>r=aE a b) w (fun W=>gO a W ha) (fun W=>gO b W hb) (fun W p q hp hq=>?_)).mono ?_
 ·refine(sP 0 (by decide) hp hq ((iA a).up (show 4000<=9000 by decide) (by decide)) ((iA b).up (show 4000<=9000 by decide) (by decide))).mono ?_
  rintro x w' ⟨r,rfl,hb1,hr⟩
  exact⟨r,rfl,hb1,sS ha hb (qt.self a) (qt.self b) hr⟩
 ·rintro x w' ⟨r,rfl,hb1,rfl⟩
  exact⟨rfl,hb1⟩
theorem tE (a b:Int) (ha:ax a) (hb:ax b) (w:World) :
  Calls Tryz.prog 85 #[ce,.int .i64 a,.int .i64 b,.int .i64 0] w fun x w'=>x=.returned (.int .i64 (aE a (neg b)))∧Below w.heap.size w w':=by
 refine(zE (R:=fun r=>r=aE a (neg b)) w (fun W=>gO a W ha) (fun W=>gO b W hb) (fun W p q hp hq=>?_)).mono ?_
 ·refine(sP 0 (by decide) hp hq ((iA a).up (show 4000<=9000 by decide) (by decide)) ((iA b).up (show 4000<=9000 by decide) (by decide)).neg).mono ?_
  rintro x w' ⟨r,rfl,hb1,hr⟩
  exact⟨r,rfl,hb1,sS ha (ei hb) (qt.self a) (BA hb) hr⟩
 ·rintro x w' ⟨r,rfl,hb1,rfl⟩
  exact⟨rfl,hb1⟩
theorem tF (a b:Int) (ha:ax a) (hb:ax b) (w:World) :
  Calls Tryz.prog 84 #[ce,.int .i64 a,.int .i64 b,.int .i64 0] w fun x w'=>x=.returned (.int .i64 (ay a b))∧Below w.heap.size w w':=by
 refine(zD (R:=fun r=>r=ay a b) (fun W v=>∃ na ni V,Pt W (decide (a<0) != decide (b<0)) na ni V v∧xP (decide (aL a=4)) (decide (aL a=3)) (aq a) (decide (aL b=4)) (decide (aL b=3)) (aq b) na ni V∧Bd 8000 V) ?_ w (fun W=>gO a W ha) (fun W=>gO b W hb) (fun W p q hp hq=>xR hp hq (iA a) (iA b)) (fun W v hv=>?_)).mono ?_
 ·rintro W W' v ⟨na,ni,V,h1,h2⟩ hb1
  exact⟨na,ni,V,h1.keeps hb1,h2⟩
 ·obtain⟨na,ni,V,⟨xg,xo,xn,xc,xe,rfl,hx⟩,h2,h3⟩:=hv
  refine(vA 0 (by decide) _ na ni xg xo xn xc xe V W hx (h3.ok (by decide))).mono ?_
  rintro x w' ⟨r,rfl,hb1,hr⟩
  exact⟨r,rfl,hb1,zF ha hb h2 hr⟩
 ·rintro x w' ⟨r,rfl,hb1,rfl⟩
  exact⟨rfl,hb1⟩
theorem ns (w:World):Calls Tryz.prog 82 #[] w fun x w'=>x=.returned ce∧Below w.heap.size w w':=by
 unfold ce
 go_enter Tryz.func82,Tryz.ntmps82
 go_wp2
 refine bodyPost_ret (v:=.agg #[.int .i64 53,.int .i64 (-1074),.int .i64 1024,.int .i64 9218868437227405312,.int .i64 (-9223372036854775808)]) (by simp[results,Tryz.results82,go_sem]) rfl ⟨rfl,?_⟩
 exact ah _ _
theorem eO (a b:Int) (ha:ax a) (hb:ax b) (w:World) :
  Calls Tryz.prog 53 #[.int .i64 a,.int .i64 b] w fun x w'=>x=.returned (.int .i64 (aE a b))∧Below w.heap.size w w':=by
 have C1:=fun W=>ns W
 have C2:=fun W=>tC a b ha hb W
 generalize aE a b=r at *
 unfold ce at *
 go_enter Tryz.func53,Tryz.ntmps53
 go_wp2_with fail
 refine(C1 _).mono ?_
 rintro _ w1 ⟨rfl,hb1⟩
 go_wp2_with fail
 refine(C2 _).mono ?_
 rintro _ w2 ⟨rfl,hb2⟩
 go_wp2
 go_ret
 exact⟨rfl,ac hb1 hb2⟩
theorem fY (a b:Int) (ha:ax a) (hb:ax b) (w:World) :
  Calls Tryz.prog 56 #[.int .i64 a,.int .i64 b] w fun x w'=>x=.returned (.int .i64 (aE a (neg b)))∧Below w.heap.size w w':=by
 have C1:=fun W=>ns W
 have C2:=fun W=>tE a b ha hb W
 generalize aE a (neg b)=r at *
 unfold ce at *
 go_enter Tryz.func56,Tryz.ntmps56
 go_wp2_with fail
 refine(C1 _).mono ?_
 rintro _ w1 ⟨rfl,hb1⟩
 go_wp2_with fail
 refine(C2 _).mono ?_
 rintro _ w2 ⟨rfl,hb2⟩
 go_wp2
 go_ret
 exact⟨rfl,ac hb1 hb2⟩
theorem cd (a b:Int) (ha:ax a) (hb:ax b) (w:World) :
  Calls Tryz.prog 54 #[.int .i64 a,.int .i64 b] w fun x w'=>x=.returned (.int .i64 (ay a b))∧Below w.heap.size w w':=by
 have C1:=fun W=>ns W
 have C2:=fun W=>tF a b ha hb W
 generalize ay a b=r at *
 unfold ce at *
 go_enter Tryz.func54,Tryz.ntmps54
 go_wp2_with fail
 refine(C1 _).mono ?_
 rintro _ w1 ⟨rfl,hb1⟩
 go_wp2_with fail
 refine(C2 _).mono ?_
 rintro _ w2 ⟨rfl,hb2⟩
 go_wp2
 go_ret
 exact⟨rfl,ac hb1 hb2⟩
end Go.Proofs.YtcklaogdjpbagaaGreatDoor
