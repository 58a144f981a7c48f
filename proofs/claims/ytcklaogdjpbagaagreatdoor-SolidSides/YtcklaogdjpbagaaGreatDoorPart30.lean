/- Parts of the proof. -/
import Derived.Test.YtcklaogdjpbagaaGreatDoorPart29
import Derived.Test.YtcklaogdjpbagaaGreatDoorPart9
import Derived.Test.YtcklaogdjpbagaaGreatDoorPart12
import Derived.Test.YtcklaogdjpbagaaGreatDoorPart10
import Derived.Test.YtcklaogdjpbagaaGreatDoorPart17
import Derived.Test.YtcklaogdjpbagaaGreatDoorPart19
set_option linter.unusedVariables false
set_option linter.unusedSimpArgs false
namespace Go.Proofs.YtcklaogdjpbagaaGreatDoor
open Go Go.RowKit Go.Proofs.YtcklaogdjpbagaaGreatDoor.M
theorem Pt.keeps {w w':World} {ng na ni:Bool} {V:Int} {v:Value} (h:Pt w ng na ni V v) (hb:Below w.heap.size w w'):Pt w' ng na ni V v:=by
  obtain ⟨xg,xo,xn,xc,xe,h1,h2⟩:=h
  exact ⟨xg,xo,xn,xc,xe,h1,h2.keeps hb⟩
def PlR (way:Int) (pn pa pi:Bool) (Vp:Int) (qn qa qi:Bool) (Vq:Int) (r:Int):Prop:=if (pa || qa || pi || qi)=true then r=plusX pn pa pi qn qa qi else PlusR way pn qn Vp Vq r
theorem rplus_pt (way:Int) (hw:0<=way∧way<=3) {w:World} {pn pa pi qn qa qi:Bool} {Vp Vq:Int} {p q:Value} (hp:Pt w pn pa pi Vp p) (hq:Pt w qn qa qi Vq q) (bp:Bd 9000 Vp) (bq:Bd 9000 Vq) :
    Calls Tryz.prog 109 #[k64V,p,q,.int .i64 way] w fun x w'=>∃ r,x=.returned (.int .i64 r)∧Below w.heap.size w w'∧PlR way pn pa pi Vp qn qa qi Vq r:=by
  obtain ⟨xg,xo,xn,xc,xe,rfl,hx⟩:=hp
  obtain ⟨yg,yo,yn,yc,ye,rfl,hy⟩:=hq
  unfold PlR
  by_cases h:(pa || qa || pi || qi)=true
  . refine (rplus_inf way pn pa pi qn qa qi xg yg xo yo xn xc yn yc xe ye w h).mono ?_
    rintro x w' ⟨rfl,hb⟩
    exact ⟨_,rfl,hb,by rw [if_pos h]⟩
  . have h2:pa=false∧qa=false∧pi=false∧qi=false:=by cases pa <;> cases qa <;> cases pi <;> cases qi <;> simp_all
    obtain ⟨rfl,rfl,rfl,rfl⟩:=h2
    refine (rplus_X way hw pn qn xg yg xo yo xn xc yn yc xe ye Vp Vq w hx hy bp bq).mono ?_
    rintro x w' ⟨r,rfl,hb,hr⟩
    exact ⟨_,rfl,hb,by rw [if_neg h]; exact hr⟩
theorem patV_bd' (b:Int):Bd 4000 (patV b):=by
  by_cases h:pok b=true
  . exact patV_bd h
  . rw [(cls_not h).2]
    exact ⟨0,by simp,by have:=two_pos (2*4000); omega,two_pos _⟩
def K5 (k:Nat) (W:World):Prop:=W.cell? ⟨k,0,none⟩=some (.int .i64 53)∧W.cell? ⟨k,1,none⟩=some (.int .i64 (-1074))∧W.cell? ⟨k,2,none⟩=some (.int .i64 1024)∧W.cell? ⟨k,3,none⟩=some (.int .i64 9218868437227405312)∧W.cell? ⟨k,4,none⟩=some (.int .i64 (-9223372036854775808))
theorem K5.keeps {k:Nat} {W W':World} (h:K5 k W) (hb:Below W.heap.size W W'):K5 k W':=by
  obtain ⟨h0,h1,h2,h3,h4⟩:=h
  exact ⟨cell_keeps h0 hb,cell_keeps h1 hb,cell_keeps h2 hb,cell_keeps h3 hb,cell_keeps h4 hb⟩
set_option maxRecDepth 100000 in
set_option maxHeartbeats 4000000 in
theorem radd64_F {way a b:Int} {an aa ai bn ba bi:Bool} {aV bV:Int} {R:Int->Prop} (w:World)
    (LA:∀ W,Calls Tryz.prog 110 #[(.agg #[.int .i64 53,.int .i64 (-1074),.int .i64 1024,.int .i64 9218868437227405312,.int .i64 (-9223372036854775808)]),.int .i64 a] W fun e w'=>∃ v,e=.returned v∧Below W.heap.size W w'∧Pt w' an aa ai aV v)
    (LB:∀ W,Calls Tryz.prog 110 #[(.agg #[.int .i64 53,.int .i64 (-1074),.int .i64 1024,.int .i64 9218868437227405312,.int .i64 (-9223372036854775808)]),.int .i64 b] W fun e w'=>∃ v,e=.returned v∧Below W.heap.size W w'∧Pt w' bn ba bi bV v)
    (PL:∀ W p q,Pt W an aa ai aV p->Pt W bn ba bi bV q->Calls Tryz.prog 109 #[(.agg #[.int .i64 53,.int .i64 (-1074),.int .i64 1024,.int .i64 9218868437227405312,.int .i64 (-9223372036854775808)]),p,q,.int .i64 way] W fun x w'=>∃ r,x=.returned (.int .i64 r)∧Below W.heap.size W w'∧R r) :
    Calls Tryz.prog 83 #[(.agg #[.int .i64 53,.int .i64 (-1074),.int .i64 1024,.int .i64 9218868437227405312,.int .i64 (-9223372036854775808)]),.int .i64 a,.int .i64 b,.int .i64 way] w fun x w'=>∃ r,x=.returned (.int .i64 r)∧Below w.heap.size w w'∧R r:=by
  have hba:=bel_alloc w (.cells #[.int .i64 53,.int .i64 (-1074),.int .i64 1024,.int .i64 9218868437227405312,.int .i64 (-9223372036854775808)] 120)
  have q0:=heap_alloc_new w (.cells #[.int .i64 53,.int .i64 (-1074),.int .i64 1024,.int .i64 9218868437227405312,.int .i64 (-9223372036854775808)] 120)
  have a0:=blkC q0 0 rfl
  have a1:=blkC q0 1 rfl
  have a2:=blkC q0 2 rfl
  have a3:=blkC q0 3 rfl
  have a4:=blkC q0 4 rfl
  go_enter Tryz.func83,Tryz.ntmps83
  go_wp2_with fail
  have k5:K5 w.heap.size (w.alloc (.cells #[.int .i64 53,.int .i64 (-1074),.int .i64 1024,.int .i64 9218868437227405312,.int .i64 (-9223372036854775808)] 120)):=⟨a0,a1,a2,a3,a4⟩
  clear a0 a1 a2 a3 a4 q0
  generalize w.alloc (.cells #[.int .i64 53,.int .i64 (-1074),.int .i64 1024,.int .i64 9218868437227405312,.int .i64 (-9223372036854775808)] 120)=wx at hba k5 ⊢
  have hdr:Below wx.heap.size wx wx.drew:=(bel_refl wx).drew
  go_region_held3 (fun W=>W.cell? ⟨w.heap.size,0,none⟩=some (.int .i64 53)∧W.cell? ⟨w.heap.size,1,none⟩=some (.int .i64 (-1074))∧W.cell? ⟨w.heap.size,2,none⟩=some (.int .i64 1024)∧W.cell? ⟨w.heap.size,3,none⟩=some (.int .i64 9218868437227405312)∧W.cell? ⟨w.heap.size,4,none⟩=some (.int .i64 (-9223372036854775808)))
    (first | assumption | exact k5 | exact K5.keeps k5 hdr | exact k51 | exact k52 | exact k53)
    (first
      | (go_at_call 109; refine (PL _ _ _ (hv1.keeps hb2) hv2).mono ?_; rintro _ w3 ⟨r,rfl,hb3,hR⟩; have k53:=K5.keeps k52 hb3)
      | (go_at_call 110; have _t:=hv1; refine (LB _).mono ?_; rintro _ w2 ⟨v2,rfl,hb2,hv2⟩; have k52:=K5.keeps k51 hb2)
      | (go_at_call 110; refine (LA _).mono ?_; rintro _ w1 ⟨v1,rfl,hb1,hv1⟩; have k51:=K5.keeps (K5.keeps k5 hdr) hb1))
  all_goals go_wp2
  all_goals go_ret
  all_goals exact ⟨_,rfl,bel_trans hba (bel_trans hdr (bel_trans hb1 (bel_trans hb2 hb3))),hR⟩
set_option maxRecDepth 100000 in
set_option maxHeartbeats 4000000 in
theorem rmul64_F {way a b:Int} {an aa ai bn ba bi:Bool} {aV bV:Int} {R:Int->Prop} (T:World->Value->Prop) (hT:∀ W W' v,T W v->Below W.heap.size W W'->T W' v) (w:World)
    (LA:∀ W,Calls Tryz.prog 110 #[(.agg #[.int .i64 53,.int .i64 (-1074),.int .i64 1024,.int .i64 9218868437227405312,.int .i64 (-9223372036854775808)]),.int .i64 a] W fun e w'=>∃ v,e=.returned v∧Below W.heap.size W w'∧Pt w' an aa ai aV v)
    (LB:∀ W,Calls Tryz.prog 110 #[(.agg #[.int .i64 53,.int .i64 (-1074),.int .i64 1024,.int .i64 9218868437227405312,.int .i64 (-9223372036854775808)]),.int .i64 b] W fun e w'=>∃ v,e=.returned v∧Below W.heap.size W w'∧Pt w' bn ba bi bV v)
    (TI:∀ W p q,Pt W an aa ai aV p->Pt W bn ba bi bV q->Calls Tryz.prog 112 #[p,q] W fun x w'=>∃ v,x=.returned v∧Below W.heap.size W w'∧T w' v)
    (CL:∀ W v,T W v->Calls Tryz.prog 111 #[(.agg #[.int .i64 53,.int .i64 (-1074),.int .i64 1024,.int .i64 9218868437227405312,.int .i64 (-9223372036854775808)]),v,.int .i64 way] W fun x w'=>∃ r,x=.returned (.int .i64 r)∧Below W.heap.size W w'∧R r) :
    Calls Tryz.prog 84 #[(.agg #[.int .i64 53,.int .i64 (-1074),.int .i64 1024,.int .i64 9218868437227405312,.int .i64 (-9223372036854775808)]),.int .i64 a,.int .i64 b,.int .i64 way] w fun x w'=>∃ r,x=.returned (.int .i64 r)∧Below w.heap.size w w'∧R r:=by
  have hba:=bel_alloc w (.cells #[.int .i64 53,.int .i64 (-1074),.int .i64 1024,.int .i64 9218868437227405312,.int .i64 (-9223372036854775808)] 120)
  have q0:=heap_alloc_new w (.cells #[.int .i64 53,.int .i64 (-1074),.int .i64 1024,.int .i64 9218868437227405312,.int .i64 (-9223372036854775808)] 120)
  have a0:=blkC q0 0 rfl
  have a1:=blkC q0 1 rfl
  have a2:=blkC q0 2 rfl
  have a3:=blkC q0 3 rfl
  have a4:=blkC q0 4 rfl
  go_enter Tryz.func84,Tryz.ntmps84
  go_wp2_with fail
  have k5:K5 w.heap.size (w.alloc (.cells #[.int .i64 53,.int .i64 (-1074),.int .i64 1024,.int .i64 9218868437227405312,.int .i64 (-9223372036854775808)] 120)):=⟨a0,a1,a2,a3,a4⟩
  clear a0 a1 a2 a3 a4 q0
  generalize w.alloc (.cells #[.int .i64 53,.int .i64 (-1074),.int .i64 1024,.int .i64 9218868437227405312,.int .i64 (-9223372036854775808)] 120)=wx at hba k5 ⊢
  have hdr:Below wx.heap.size wx wx.drew:=(bel_refl wx).drew
  go_region_held3 (fun W=>W.cell? ⟨w.heap.size,0,none⟩=some (.int .i64 53)∧W.cell? ⟨w.heap.size,1,none⟩=some (.int .i64 (-1074))∧W.cell? ⟨w.heap.size,2,none⟩=some (.int .i64 1024)∧W.cell? ⟨w.heap.size,3,none⟩=some (.int .i64 9218868437227405312)∧W.cell? ⟨w.heap.size,4,none⟩=some (.int .i64 (-9223372036854775808)))
    (first | assumption | exact k5 | exact K5.keeps k5 hdr | exact k51 | exact k52 | exact k53 | exact k54)
    (first
      | (go_at_call 111; refine (CL _ _ hv3).mono ?_; rintro _ w4 ⟨r,rfl,hb4,hR⟩; have k54:=K5.keeps k53 hb4)
      | (go_at_call 112; refine (TI _ _ _ (hv1.keeps hb2) hv2).mono ?_; rintro _ w3 ⟨v3,rfl,hb3,hv3⟩; have k53:=K5.keeps k52 hb3)
      | (go_at_call 110; have _t:=hv1; refine (LB _).mono ?_; rintro _ w2 ⟨v2,rfl,hb2,hv2⟩; have k52:=K5.keeps k51 hb2)
      | (go_at_call 110; refine (LA _).mono ?_; rintro _ w1 ⟨v1,rfl,hb1,hv1⟩; have k51:=K5.keeps (K5.keeps k5 hdr) hb1))
  all_goals go_wp2
  all_goals go_ret
  all_goals exact ⟨_,rfl,bel_trans hba (bel_trans hdr (bel_trans hb1 (bel_trans hb2 (bel_trans hb3 hb4)))),hR⟩
def K11 (k q:Nat) (n0 n1 n2 n3:Bool) (xo:Option Addr) (xn xc:Nat) (xe:Int) (W:World):Prop:=(W.cell? ⟨k,0,none⟩=some (.int .i64 53)∧W.cell? ⟨k,1,none⟩=some (.int .i64 (-1074))∧W.cell? ⟨k,2,none⟩=some (.int .i64 1024)∧W.cell? ⟨k,3,none⟩=some (.int .i64 9218868437227405312)∧W.cell? ⟨k,4,none⟩=some (.int .i64 (-9223372036854775808)))∧W.cell? ⟨q,0,none⟩=some (.bool n0)∧W.cell? ⟨q,1,none⟩=some (.bool n1)∧W.cell? ⟨q,2,none⟩=some (.bool n2)∧W.cell? ⟨q,3,none⟩=some (.bool n3)∧W.cell? ⟨q,4,none⟩=some (.slice xo xn xc)∧W.cell? ⟨q,5,none⟩=some (.int .i64 xe)
theorem K11.keeps {k q:Nat} {n0 n1 n2 n3:Bool} {xo:Option Addr} {xn xc:Nat} {xe:Int} {W W':World} (h:K11 k q n0 n1 n2 n3 xo xn xc xe W) (hb:Below W.heap.size W W'):K11 k q n0 n1 n2 n3 xo xn xc xe W':=by
  obtain ⟨⟨h0,h1,h2,h3,h4⟩,g0,g1,g2,g3,g4,g5⟩:=h
  exact ⟨⟨cell_keeps h0 hb,cell_keeps h1 hb,cell_keeps h2 hb,cell_keeps h3 hb,cell_keeps h4 hb⟩,cell_keeps g0 hb,cell_keeps g1 hb,cell_keeps g2 hb,cell_keeps g3 hb,cell_keeps g4 hb,cell_keeps g5 hb⟩
theorem rneg_D {w:World} {xg:Bool} {xo:Option Addr} {xn xc:Nat} {xe V:Int} (hx:DNum w (.agg #[.bool xg,.slice xo xn xc,.int .i64 xe]) V) :
    ∃ yg,DNum w (.agg #[.bool yg,.slice xo xn xc,.int .i64 xe]) (-V)∧∀ W,Calls Tryz.prog 91 #[.agg #[.bool xg,.slice xo xn xc,.int .i64 xe]] W fun r w'=>r=.returned (.agg #[.bool yg,.slice xo xn xc,.int .i64 xe])∧Below W.heap.size W w':=by
  obtain ⟨zx,mx⟩:=num_len hx
  refine ⟨if xn=0 then xg else !xg,?_,fun W=>rneg3_any ⟨xg,xo,xn,xc,fun _=>0,xe⟩ W mx⟩
  obtain ⟨ng,s,m,e',h1,hy,hN⟩:=hx
  simp only [Value.agg.injEq,Array.mk.injEq,List.cons.injEq,Value.bool.injEq,Value.int.injEq,true_and,and_true] at h1
  obtain ⟨rfl,rfl,rfl⟩:=h1
  by_cases h0:xn=0
  . rw [if_pos h0]
    have hV:=zx.1 h0
    subst hV
    exact ⟨_,_,m,_,rfl,hy,hN⟩
  . rw [if_neg h0]
    have hm:m≠0:=fun q=>h0 (zx.2 (hy.eq_zero.2 q))
    exact ⟨_,_,m,_,rfl,hy.neg (by have:=hy.nonneg; omega),hN⟩
set_option maxRecDepth 100000 in
set_option maxHeartbeats 4000000 in
theorem rsub64_F {way a b:Int} {an aa ai bn ba bi:Bool} {aV bV:Int} {R:Int->Prop} (w:World)
    (LA:∀ W,Calls Tryz.prog 110 #[(.agg #[.int .i64 53,.int .i64 (-1074),.int .i64 1024,.int .i64 9218868437227405312,.int .i64 (-9223372036854775808)]),.int .i64 a] W fun e w'=>∃ v,e=.returned v∧Below W.heap.size W w'∧Pt w' an aa ai aV v)
    (LB:∀ W,Calls Tryz.prog 110 #[(.agg #[.int .i64 53,.int .i64 (-1074),.int .i64 1024,.int .i64 9218868437227405312,.int .i64 (-9223372036854775808)]),.int .i64 b] W fun e w'=>∃ v,e=.returned v∧Below W.heap.size W w'∧Pt w' bn ba bi bV v)
    (PL:∀ W p q,Pt W an aa ai aV p->Pt W (!bn) ba bi (-bV) q->Calls Tryz.prog 109 #[(.agg #[.int .i64 53,.int .i64 (-1074),.int .i64 1024,.int .i64 9218868437227405312,.int .i64 (-9223372036854775808)]),p,q,.int .i64 way] W fun x w'=>∃ r,x=.returned (.int .i64 r)∧Below W.heap.size W w'∧R r) :
    Calls Tryz.prog 85 #[(.agg #[.int .i64 53,.int .i64 (-1074),.int .i64 1024,.int .i64 9218868437227405312,.int .i64 (-9223372036854775808)]),.int .i64 a,.int .i64 b,.int .i64 way] w fun x w'=>∃ r,x=.returned (.int .i64 r)∧Below w.heap.size w w'∧R r:=by
  have hba:=bel_alloc w (.cells #[.int .i64 53,.int .i64 (-1074),.int .i64 1024,.int .i64 9218868437227405312,.int .i64 (-9223372036854775808)] 120)
  have q0:=heap_alloc_new w (.cells #[.int .i64 53,.int .i64 (-1074),.int .i64 1024,.int .i64 9218868437227405312,.int .i64 (-9223372036854775808)] 120)
  have a0:=blkC q0 0 rfl
  have a1:=blkC q0 1 rfl
  have a2:=blkC q0 2 rfl
  have a3:=blkC q0 3 rfl
  have a4:=blkC q0 4 rfl
  go_enter Tryz.func85,Tryz.ntmps85
  go_wp2_with fail
  refine (LB _).mono ?_
  rintro _ w1 ⟨v,rfl,hb1,hv⟩
  obtain ⟨xg,xo,xn,xc,xe,rfl,hx⟩:=hv
  obtain ⟨zx,mx⟩:=num_len hx
  have p0:=(hb1.block _ (Array.getElem?_eq_some_iff.1 q0).1).trans q0
  have hbw:=bel_trans hba hb1
  obtain ⟨yg,hy,CN⟩:=rneg_D hx
  clear a0 a1 a2 a3 a4 q0 hba hb1 hx zx
  go_wp2_with fail
  refine (CN _).mono ?_
  rintro _ w2 ⟨rfl,hb2⟩
  have hq1:=(hb2.block w1.heap.size (by rw [size_alloc]; omega)).trans (heap_a1 w1 (.cells #[.bool (!bn),.bool ba,.bool bi,.bool xg,.slice xo xn xc,.int .i64 xe] 147))
  have hk1:=(hb2.block w.heap.size (by rw [size_alloc]; have:=(Array.getElem?_eq_some_iff.1 p0).1; omega)).trans (heap_past (.cells #[.bool (!bn),.bool ba,.bool bi,.bool xg,.slice xo xn xc,.int .i64 xe] 147) p0)
  have hne:w1.heap.size≠w.heap.size:=by have:=(Array.getElem?_eq_some_iff.1 p0).1; omega
  have hbw2:=bel_trans (bel_alloc w1 (.cells #[.bool (!bn),.bool ba,.bool bi,.bool xg,.slice xo xn xc,.int .i64 xe] 147)) hb2
  have f3:=blkF hq1 3
  have f4:=blkF hq1 4
  have f5:=blkF hq1 5
  have y0:=blkC hq1 0 rfl
  have y1:=blkC hq1 1 rfl
  have y2:=blkC hq1 2 rfl
  have y3:=blkC hq1 3 rfl
  have y4:=blkC hq1 4 rfl
  have y5:=blkC hq1 5 rfl
  have t3:=heap_set hq1 3 (.bool yg)
  have t4:=heap_set t3 4 (.slice xo xn xc)
  have t5:=heap_set t4 5 (.int .i64 xe)
  have u3:=(heap_setCell_other w2 ⟨w1.heap.size,3,none⟩ w.heap.size (.bool yg) (Ne.symm hne)).trans hk1
  have u4:=(heap_setCell_other _ ⟨w1.heap.size,4,none⟩ w.heap.size (.slice xo xn xc) (Ne.symm hne)).trans u3
  have u5:=(heap_setCell_other _ ⟨w1.heap.size,5,none⟩ w.heap.size (.int .i64 xe) (Ne.symm hne)).trans u4
  have hbs:Below w1.heap.size w1 (((w2.setCell ⟨w1.heap.size,3,none⟩ (.bool yg)).setCell ⟨w1.heap.size,4,none⟩ (.slice xo xn xc)).setCell ⟨w1.heap.size,5,none⟩ (.int .i64 xe)):=bel_set3' hbw2 (Nat.le_refl _) _ _ _
  have kk:K11 w.heap.size w1.heap.size (!bn) ba bi yg xo xn xc xe (((w2.setCell ⟨w1.heap.size,3,none⟩ (.bool yg)).setCell ⟨w1.heap.size,4,none⟩ (.slice xo xn xc)).setCell ⟨w1.heap.size,5,none⟩ (.int .i64 xe)) :=
    ⟨⟨blkC u5 0 rfl,blkC u5 1 rfl,blkC u5 2 rfl,blkC u5 3 rfl,blkC u5 4 rfl⟩,blkC t5 0 (by simp),blkC t5 1 (by simp),blkC t5 2 (by simp),blkC t5 3 (by simp),blkC t5 4 (by simp),blkC t5 5 (by simp)⟩
  clear t3 t4 t5 u3 u4 u5 hb2 CN LB
  go_wp2_with fail
  clear f3 f4 f5 y0 y1 y2 y3 y4 y5 hq1 hk1 p0
  generalize ((w2.setCell ⟨w1.heap.size,3,none⟩ (.bool yg)).setCell ⟨w1.heap.size,4,none⟩ (.slice xo xn xc)).setCell ⟨w1.heap.size,5,none⟩ (.int .i64 xe)=wx at hbs kk ⊢
  have hdr:Below wx.heap.size wx wx.drew:=(bel_refl wx).drew
  have PQ:∀ W,Below w1.heap.size w1 W->Pt W (!bn) ba bi (-bV) (.agg #[.bool (!bn),.bool ba,.bool bi,.bool yg,.slice xo xn xc,.int .i64 xe]):=fun W hW=>⟨_,_,_,_,_,rfl,hy.keeps hW⟩
  go_region_held3 (fun W=>(W.cell? ⟨w.heap.size,0,none⟩=some (.int .i64 53)∧W.cell? ⟨w.heap.size,1,none⟩=some (.int .i64 (-1074))∧W.cell? ⟨w.heap.size,2,none⟩=some (.int .i64 1024)∧W.cell? ⟨w.heap.size,3,none⟩=some (.int .i64 9218868437227405312)∧W.cell? ⟨w.heap.size,4,none⟩=some (.int .i64 (-9223372036854775808)))∧W.cell? ⟨w1.heap.size,0,none⟩=some (.bool (!bn))∧W.cell? ⟨w1.heap.size,1,none⟩=some (.bool ba)∧W.cell? ⟨w1.heap.size,2,none⟩=some (.bool bi)∧W.cell? ⟨w1.heap.size,3,none⟩=some (.bool yg)∧W.cell? ⟨w1.heap.size,4,none⟩=some (.slice xo xn xc)∧W.cell? ⟨w1.heap.size,5,none⟩=some (.int .i64 xe))
    (first | assumption | exact kk | exact K11.keeps kk hdr | exact kk1 | exact kk2)
    (first
      | (go_at_call 109; refine (PL _ _ _ hv1 (PQ _ (bel_trans hbs (bel_trans hdr hb3)))).mono ?_; rintro _ w4 ⟨r,rfl,hb4,hR⟩; have kk2:=K11.keeps kk1 hb4)
      | (go_at_call 110; refine (LA _).mono ?_; rintro _ w3 ⟨v1,rfl,hb3,hv1⟩; have kk1:=K11.keeps (K11.keeps kk hdr) hb3))
  all_goals go_wp2
  all_goals go_ret
  all_goals exact ⟨_,rfl,bel_trans hbw (bel_trans hbs (bel_trans hdr (bel_trans hb3 hb4))),hR⟩
def IsP (p:Int) (pn pa pi:Bool) (V:Int):Prop:=pa=decide (cls p=4)∧(cls p≠4->pn=decide (p<0)∧pi=decide (cls p=3)∧V=patV p)
theorem IsP.self (p:Int):IsP p (decide (p<0)) (decide (cls p=4)) (decide (cls p=3)) (patV p):=⟨rfl,fun _=>⟨rfl,rfl,rfl⟩⟩
theorem cls3_rg {p:Int} (hp:rng p):cls p=3 ↔ rg p=9218868437227405312:=by
  have h1:=(cls_rg hp).1
  have h2:=pok_rg hp
  constructor
  . intro h
    have:pok p≠true:=fun q=>by have:=cls_fin q; omega
    have h3:¬ rg p<9218868437227405312:=fun q=>this (h2.2 q)
    have h4:¬ 9218868437227405312<rg p:=fun q=>by have:=h1.2 q; omega
    omega
  . intro h
    have:pok p≠true:=fun q=>by have:=h2.1 q; omega
    rcases (cls_not this).1 with q | q
    . exact q
    . have:=h1.1 q; omega
theorem inf_patS {p:Int} (h:rg p=9218868437227405312):p=patS (decide (p<0)) 9218868437227405312:=by
  unfold rg at h
  unfold patS
  by_cases h0:p<0
  . rw [if_pos h0] at h; rw [decide_eq_true h0,if_pos rfl]; omega
  . rw [if_neg h0] at h; rw [decide_eq_false h0,if_neg (by decide)]; omega
theorem patV_sign {p:Int} (h:patV p≠0):decide (p<0)=decide (patV p<0):=by
  have hp:pok p=true:=by
    by_cases q:pok p=true
    . exact q
    . exact absurd (cls_not q).2 h
  have i0:=(pmag_in hp).1
  unfold patV at h ⊢
  unfold pneg at h ⊢
  rw [hp,Bool.true_and] at h ⊢
  have hpw:=pw_pos (pexp p)
  have hm:0<pmag p:=by
    rcases Int.lt_or_eq_of_le i0 with q | q
    . exact q
    . rw [<- q] at h
      exfalso
      apply h
      unfold sg
      split <;> simp
  by_cases c:p<0
  . rw [decide_eq_true c]
    symm
    apply decide_eq_true
    show -(pmag p)*pw (pexp p)<0
    exact Int.mul_neg_of_neg_of_pos (by omega) hpw
  . rw [decide_eq_false c]
    symm
    apply decide_eq_false
    show ¬ pmag p*pw (pexp p)<0
    have:=Int.mul_pos hm hpw
    omega
theorem near_rdw {S r:Int} (h:S≠0) (hr:RdW 0 (decide (S<0)) S.natAbs r):r=nearP S:=by
  obtain ⟨A,r0,left,h1,h2,h3⟩:=nearP_rung h
  have hA:A=(S.natAbs:Int):=by
    unfold sg at h1
    split at h1
    . rename_i c
      have:=of_decide_eq_true c
      omega
    . rename_i c
      have:¬ S<0:=fun q=>c (decide_eq_true q)
      omega
  subst hA
  exact hr.unique ⟨r0,left,h2,h3⟩
theorem plr_near {p q:Int} {pn pa pi qn qa qi:Bool} {Vp Vq r:Int} (rp:rng p) (rq:rng q) (hp:IsP p pn pa pi Vp) (hq:IsP q qn qa qi Vq) (h:PlR 0 pn pa pi Vp qn qa qi Vq r):r=fsum p q:=by
  obtain ⟨p1,p2⟩:=hp
  obtain ⟨q1,q2⟩:=hq
  unfold PlR at h
  unfold fsum
  by_cases c4:cls p=4∨cls q=4
  . rw [if_pos c4]
    have hh:(pa || qa)=true:=by
      rcases c4 with c | c
      . rw [p1,decide_eq_true c]; rfl
      . rw [q1,decide_eq_true c,Bool.or_true]
    rw [if_pos (by rw [hh]; rfl)] at h
    rw [h]
    unfold plusX
    rw [if_pos (by rw [hh]; rfl)]
  . have cp:cls p≠4:=fun x=>c4 (.inl x)
    have cq:cls q≠4:=fun x=>c4 (.inr x)
    obtain ⟨e1,e2,e3⟩:=p2 cp
    obtain ⟨f1,f2,f3⟩:=q2 cq
    rw [decide_eq_false cp] at p1
    rw [decide_eq_false cq] at q1
    subst p1 q1 e1 e2 e3 f1 f2 f3
    rw [if_neg c4]
    have i1:=cls3_rg rp
    have i2:=cls3_rg rq
    by_cases ip:rg p=9218868437227405312
    . rw [if_pos ip]
      rw [decide_eq_true (i1.2 ip)] at h
      simp only [Bool.false_or,Bool.true_or,if_true] at h
      rw [h]
      unfold plusX
      simp only [Bool.false_or,Bool.true_and,if_true]
      by_cases iq:rg q=9218868437227405312
      . rw [decide_eq_true (i2.2 iq),Bool.true_and]
        by_cases hs:decide (p<0)=decide (q<0)
        . have hb:(decide (p<0) != decide (q<0))=false:=by rw [hs]; simp
          rw [hb,if_neg (by decide),if_neg (fun x=>x.2 hs)]
          exact (inf_patS ip).symm
        . have hb:(decide (p<0) != decide (q<0))=true:=by rw [bne_iff_ne]; exact hs
          rw [hb,if_pos rfl,if_pos ⟨iq,hs⟩]
      . rw [decide_eq_false (fun x=>iq (i2.1 x)),Bool.false_and,if_neg (by decide),if_neg (fun x=>iq x.1)]
        exact (inf_patS ip).symm
    . rw [if_neg ip]
      have n1:decide (cls p=3)=false:=decide_eq_false (fun x=>ip (i1.1 x))
      rw [n1] at h
      by_cases iq:rg q=9218868437227405312
      . rw [if_pos iq]
        rw [decide_eq_true (i2.2 iq)] at h
        simp only [Bool.false_or,if_true] at h
        rw [h]
        unfold plusX
        simp only [Bool.false_or,Bool.false_and,Bool.false_eq_true,if_false]
        exact (inf_patS iq).symm
      . rw [if_neg iq]
        have n2:decide (cls q=3)=false:=decide_eq_false (fun x=>iq (i2.1 x))
        rw [n2] at h
        simp only [Bool.false_or,Bool.false_eq_true,if_false] at h
        obtain ⟨s0,s1⟩:=h
        by_cases hS:patV p+patV q=0
        . rw [if_pos hS,s0 hS]
          congr 1
          by_cases hV:patV p=0∧decide (p<0)=decide (q<0)
          . rw [if_pos hV,<- hV.2,Bool.and_self]
          . rw [if_neg hV]
            by_cases v0:patV p=0
            . have hs:decide (p<0)≠decide (q<0):=fun x=>hV ⟨v0,x⟩
              cases hx:decide (p<0) <;> cases hy:decide (q<0) <;> simp_all
            . have v1:patV q≠0:=by omega
              rw [patV_sign v0,patV_sign v1]
              by_cases c:patV p<0
              . rw [decide_eq_true c,decide_eq_false (show ¬ patV q<0 by omega)]; rfl
              . rw [decide_eq_false c]; rfl
        . rw [if_neg hS]
          exact near_rdw hS (s1 hS)
theorem neg_isP {q:Int} (hq:rng q):IsP (neg q) (!decide (q<0)) (decide (cls q=4)) (decide (cls q=3)) (-patV q):=by
  by_cases c4:cls q=4
  . refine ⟨?_,fun h=>?_⟩
    . have:cls (neg q)=4:=by unfold neg; rw [if_pos c4]; decide
      rw [decide_eq_true c4,decide_eq_true this]
    . exfalso
      apply h
      unfold neg
      rw [if_pos c4]
      decide
  . obtain ⟨s1,s2,s3⟩:=neg_sign hq c4
    refine ⟨by rw [decide_eq_false c4,decide_eq_false s3],fun _=>⟨s1.symm,?_,?_⟩⟩
    . have h1:=cls3_rg hq
      have h2:=cls3_rg (neg_rng hq)
      rw [s2] at h2
      congr 1
      apply propext
      rw [h1,h2]
    . by_cases hp:pok q=true
      . obtain ⟨n1,n2,n3⟩:=neg_facts hq hp
        rw [patV_iV n1 n2,patV_iV hq hp,n3,Int.neg_mul]
      . have hp2:pok (neg q)≠true:=fun x=>hp ((pok_rg hq).2 (by have:=(pok_rg (neg_rng hq)).1 x; omega))
        rw [(cls_not hp).2,(cls_not hp2).2]
        rfl
def TiR (pa pi:Bool) (Vp:Int) (qa qi:Bool) (Vq:Int) (na ni:Bool) (V:Int):Prop :=
  if pa || qa then na=true∧ni=false∧V=0
  else if pi || qi then na=((pi && !qi && decide (Vq=0)) || (qi && !pi && decide (Vp=0)))∧ni=!na∧V=0
  else na=false∧ni=false∧V*2^4194304=Vp*Vq
theorem patV_zero {p:Int} (hp:rng p) (h:pok p=true):patV p=0 ↔ rg p=0:=by
  have h0:=(cls_rg hp).2
  have i0:=(pmag_in h).1
  have hpw:=pw_pos (pexp p)
  have key:patV p=0 ↔ pmag p=0:=by
    unfold patV
    constructor
    . intro q
      rcases Int.mul_eq_zero.1 q with q | q
      . unfold sg at q; split at q <;> omega
      . omega
    . intro q; rw [q]; unfold sg; split <;> simp
  rw [key,<- h0]
  unfold pok at h
  simp at h
  unfold pmag cls
  rw [if_neg h,if_neg h]
  by_cases c:fld p=0
  . rw [if_pos c,if_pos c]
    by_cases d:frc p=0
    . rw [if_pos d]; simp [d]
    . rw [if_neg d]; simp [d]
  . rw [if_neg c,if_neg c]
    have:0<=frc p:=by unfold frc; omega
    constructor <;> intro q <;> omega
theorem mul_near {p q:Int} {na ni:Bool} {V r:Int} (rp:rng p) (rq:rng q) (hT:TiR (decide (cls p=4)) (decide (cls p=3)) (patV p) (decide (cls q=4)) (decide (cls q=3)) (patV q) na ni V) (h:CloseR 0 (decide (p<0) != decide (q<0)) na ni V r):r=fprod p q:=by
  unfold TiR at hT
  unfold CloseR at h
  unfold fprod
  by_cases c4:cls p=4∨cls q=4
  . rw [if_pos c4]
    rw [if_pos (by rcases c4 with c | c <;> simp [c])] at hT
    rw [hT.1,if_pos rfl] at h
    exact h
  . have cp:cls p≠4:=fun x=>c4 (.inl x)
    have cq:cls q≠4:=fun x=>c4 (.inr x)
    rw [if_neg c4]
    rw [if_neg (by simp [cp,cq])] at hT
    have i1:=cls3_rg rp
    have i2:=cls3_rg rq
    by_cases ci:rg p=9218868437227405312∨rg q=9218868437227405312
    . rw [if_pos ci]
      rw [if_pos (by rcases ci with c | c <;> simp [i1,i2,c])] at hT
      obtain ⟨t1,t2,t3⟩:=hT
      have hz:((decide (cls p=3) && !decide (cls q=3) && decide (patV q=0)) || (decide (cls q=3) && !decide (cls p=3) && decide (patV p=0)))=decide (rg p=0∨rg q=0):=by
        have zz:∀ {x:Int},rng x->cls x≠4->rg x≠9218868437227405312->(patV x=0 ↔ rg x=0):=fun {x} rx c h=>patV_zero rx ((pok_rg rx).2 (by
          have:=(cls_rg rx).1
          rcases Int.lt_or_le 9218868437227405312 (rg x) with g | g
          . exact absurd (this.2 g) c
          . omega))
        by_cases a:rg p=9218868437227405312
        . by_cases b:rg q=9218868437227405312
          . rw [decide_eq_true (i1.2 a),decide_eq_true (i2.2 b)]
            symm
            rw [Bool.not_true,Bool.and_false,Bool.false_and,Bool.false_and,Bool.or_self]
            apply decide_eq_false
            omega
          . rw [decide_eq_true (i1.2 a),decide_eq_false (fun x=>b (i2.1 x)),Bool.not_false,Bool.true_and,Bool.false_and,Bool.false_and,Bool.or_false,Bool.true_and]
            congr 1
            apply propext
            rw [zz rq cq b]
            omega
        . have b:rg q=9218868437227405312:=ci.resolve_left a
          rw [decide_eq_false (fun x=>a (i1.1 x)),decide_eq_true (i2.2 b),Bool.not_false,Bool.true_and,Bool.false_and,Bool.false_and,Bool.false_or,Bool.true_and]
          congr 1
          apply propext
          rw [zz rp cp a]
          omega
      rw [hz] at t1
      by_cases z:rg p=0∨rg q=0
      . rw [if_pos z]
        rw [decide_eq_true z] at t1
        rw [t1,if_pos rfl] at h
        exact h
      . rw [if_neg z]
        rw [decide_eq_false z] at t1
        rw [t2,t1,if_neg (by decide),if_pos (by rfl)] at h
        exact h
    . rw [if_neg ci]
      have a:¬ cls p=3:=fun x=>ci (.inl (i1.1 x))
      have b:¬ cls q=3:=fun x=>ci (.inr (i2.1 x))
      rw [if_neg (by simp [a,b])] at hT
      obtain ⟨t1,t2,t3⟩:=hT
      rw [t1,t2,if_neg (by decide),if_neg (by decide)] at h
      have hV:V=patV p*patV q/2^4194304:=by
        rw [<- t3,Int.mul_ediv_cancel _ (Int.ne_of_gt (two_pos _))]
      have hf:fsize p q=sg (xsg p q) V:=by unfold fsize; rw [<- hV]
      rw [hf]
      have hx:(decide (p<0) != decide (q<0))=xsg p q:=rfl
      rw [hx] at h
      clear hx hf
      generalize xsg p q=x at *
      have hsg:sg x (sg x V)=V:=by unfold sg; cases x <;> simp
      rw [hsg]
      have h0:sg x V=0 ↔ V=0:=by unfold sg; cases x <;> simp
      by_cases v0:V=0
      . rw [if_pos (h0.2 v0)]
        rw [if_pos v0] at h
        exact h
      . rw [if_neg (fun q=>v0 (h0.1 q))]
        rw [if_neg v0] at h
        exact near_rdw v0 h
theorem rtimes_pt {w:World} {pn pa pi qn qa qi:Bool} {Vp Vq:Int} {p q:Value} (hp:Pt w pn pa pi Vp p) (hq:Pt w qn qa qi Vq q) (bp:Bd 4000 Vp) (bq:Bd 4000 Vq) :
    Calls Tryz.prog 112 #[p,q] w fun x w'=>∃ v,x=.returned v∧Below w.heap.size w w'∧∃ na ni V,Pt w' (pn != qn) na ni V v∧TiR pa pi Vp qa qi Vq na ni V∧Bd 8000 V:=by
  obtain ⟨xg,xo,xn,xc,xe,rfl,hx⟩:=hp
  obtain ⟨yg,yo,yn,yc,ye,rfl,hy⟩:=hq
  have b0:Bd 8000 0:=⟨0,by simp,by have:=two_pos (2*8000); omega,two_pos _⟩
  unfold TiR
  by_cases h:(pa || qa)=true
  . refine (rtimes_nan pn pa pi qn qa qi xg yg xo yo xn xc yn yc xe ye w h).mono ?_
    rintro x w' ⟨v,rfl,hb,hP⟩
    exact ⟨v,rfl,hb,_,_,_,hP,by rw [if_pos h]; exact ⟨rfl,rfl,rfl⟩,b0⟩
  . have h2:pa=false∧qa=false:=by cases pa <;> cases qa <;> simp_all
    obtain ⟨rfl,rfl⟩:=h2
    obtain ⟨zx,mx⟩:=num_len hx
    obtain ⟨zy,my⟩:=num_len hy
    by_cases h3:(pi || qi)=true
    . refine (rtimes_inf pn pi qn qi xg yg xo yo xn xc yn yc xe ye w mx my h3).mono ?_
      rintro x w' ⟨v,rfl,hb,hP⟩
      have e1:decide (xn=0)=decide (Vp=0):=by congr 1; exact propext zx
      have e2:decide (yn=0)=decide (Vq=0):=by congr 1; exact propext zy
      rw [e1,e2] at hP
      exact ⟨v,rfl,hb,_,_,_,hP,by rw [if_neg h,if_pos h3]; exact ⟨rfl,rfl,rfl⟩,b0⟩
    . have h4:pi=false∧qi=false:=by cases pi <;> cases qi <;> simp_all
      obtain ⟨rfl,rfl⟩:=h4
      obtain ⟨d,hR,ok,hV⟩:=hx.open2 (bp.ok (by decide))
      obtain ⟨d',hR',ok',hV'⟩:=hy.open2 (bq.ok (by decide))
      have sx:=okR_sane ok
      have sy:=okR_sane ok'
      have hm:=mulV_eq (x:=⟨xg,xo,xn,xc,d,xe⟩) (y:=⟨yg,yo,yn,yc,d',ye⟩) (by have:=sx.2.2.1; simp only at this ⊢; omega) (by have:=sy.2.2.1; simp only at this ⊢; omega)
      rw [hV,hV'] at hm
      refine (rtimes_fin pn qn ⟨xg,xo,xn,xc,d,xe⟩ ⟨yg,yo,yn,yc,d',ye⟩ w hR hR' sx sy).mono ?_
      rintro x w' ⟨v,rfl,hb,hP⟩
      exact ⟨v,rfl,hb,_,_,_,hP,by rw [if_neg h,if_neg h3]; exact ⟨rfl,rfl,hm⟩,bp.mul bq hm (by decide)⟩
theorem radd64_near (a b:Int) (ha:rng a) (hb:rng b) (w:World) :
    Calls Tryz.prog 83 #[k64V,.int .i64 a,.int .i64 b,.int .i64 0] w fun x w'=>x=.returned (.int .i64 (fsum a b))∧Below w.heap.size w w':=by
  refine (radd64_F (R:=fun r=>r=fsum a b) w (fun W=>rlook_any a W ha) (fun W=>rlook_any b W hb) (fun W p q hp hq=>?_)).mono ?_
  . refine (rplus_pt 0 (by decide) hp hq ((patV_bd' a).up (show 4000<=9000 by decide) (by decide)) ((patV_bd' b).up (show 4000<=9000 by decide) (by decide))).mono ?_
    rintro x w' ⟨r,rfl,hb1,hr⟩
    exact ⟨r,rfl,hb1,plr_near ha hb (IsP.self a) (IsP.self b) hr⟩
  . rintro x w' ⟨r,rfl,hb1,rfl⟩
    exact ⟨rfl,hb1⟩
theorem rsub64_near (a b:Int) (ha:rng a) (hb:rng b) (w:World) :
    Calls Tryz.prog 85 #[k64V,.int .i64 a,.int .i64 b,.int .i64 0] w fun x w'=>x=.returned (.int .i64 (fsum a (neg b)))∧Below w.heap.size w w':=by
  refine (rsub64_F (R:=fun r=>r=fsum a (neg b)) w (fun W=>rlook_any a W ha) (fun W=>rlook_any b W hb) (fun W p q hp hq=>?_)).mono ?_
  . refine (rplus_pt 0 (by decide) hp hq ((patV_bd' a).up (show 4000<=9000 by decide) (by decide)) ((patV_bd' b).up (show 4000<=9000 by decide) (by decide)).neg).mono ?_
    rintro x w' ⟨r,rfl,hb1,hr⟩
    exact ⟨r,rfl,hb1,plr_near ha (neg_rng hb) (IsP.self a) (neg_isP hb) hr⟩
  . rintro x w' ⟨r,rfl,hb1,rfl⟩
    exact ⟨rfl,hb1⟩
theorem rmul64_near (a b:Int) (ha:rng a) (hb:rng b) (w:World) :
    Calls Tryz.prog 84 #[k64V,.int .i64 a,.int .i64 b,.int .i64 0] w fun x w'=>x=.returned (.int .i64 (fprod a b))∧Below w.heap.size w w':=by
  refine (rmul64_F (R:=fun r=>r=fprod a b) (fun W v=>∃ na ni V,Pt W (decide (a<0) != decide (b<0)) na ni V v∧TiR (decide (cls a=4)) (decide (cls a=3)) (patV a) (decide (cls b=4)) (decide (cls b=3)) (patV b) na ni V∧Bd 8000 V) ?_ w (fun W=>rlook_any a W ha) (fun W=>rlook_any b W hb) (fun W p q hp hq=>rtimes_pt hp hq (patV_bd' a) (patV_bd' b)) (fun W v hv=>?_)).mono ?_
  . rintro W W' v ⟨na,ni,V,h1,h2⟩ hb1
    exact ⟨na,ni,V,h1.keeps hb1,h2⟩
  . obtain ⟨na,ni,V,⟨xg,xo,xn,xc,xe,rfl,hx⟩,h2,h3⟩:=hv
    refine (rclose_any 0 (by decide) _ na ni xg xo xn xc xe V W hx (h3.ok (by decide))).mono ?_
    rintro x w' ⟨r,rfl,hb1,hr⟩
    exact ⟨r,rfl,hb1,mul_near ha hb h2 hr⟩
  . rintro x w' ⟨r,rfl,hb1,rfl⟩
    exact ⟨rfl,hb1⟩
set_option maxRecDepth 100000 in
theorem rk64_any (w:World):Calls Tryz.prog 82 #[] w fun x w'=>x=.returned k64V∧Below w.heap.size w w':=by
  unfold k64V
  go_enter Tryz.func82,Tryz.ntmps82
  go_wp2
  refine bodyPost_ret (v:=.agg #[.int .i64 53,.int .i64 (-1074),.int .i64 1024,.int .i64 9218868437227405312,.int .i64 (-9223372036854775808)]) (by simp [results,Tryz.results82,go_sem]) rfl ⟨rfl,?_⟩
  exact bel_alloc _ _
set_option maxRecDepth 100000 in
theorem rSum_any (a b:Int) (ha:rng a) (hb:rng b) (w:World) :
    Calls Tryz.prog 53 #[.int .i64 a,.int .i64 b] w fun x w'=>x=.returned (.int .i64 (fsum a b))∧Below w.heap.size w w':=by
  have C1:=fun W=>rk64_any W
  have C2:=fun W=>radd64_near a b ha hb W
  generalize fsum a b=r at *
  unfold k64V at *
  go_enter Tryz.func53,Tryz.ntmps53
  go_wp2_with fail
  refine (C1 _).mono ?_
  rintro _ w1 ⟨rfl,hb1⟩
  go_wp2_with fail
  refine (C2 _).mono ?_
  rintro _ w2 ⟨rfl,hb2⟩
  go_wp2
  go_ret
  exact ⟨rfl,bel_trans hb1 hb2⟩
set_option maxRecDepth 100000 in
theorem rDiff_any (a b:Int) (ha:rng a) (hb:rng b) (w:World) :
    Calls Tryz.prog 56 #[.int .i64 a,.int .i64 b] w fun x w'=>x=.returned (.int .i64 (fsum a (neg b)))∧Below w.heap.size w w':=by
  have C1:=fun W=>rk64_any W
  have C2:=fun W=>rsub64_near a b ha hb W
  generalize fsum a (neg b)=r at *
  unfold k64V at *
  go_enter Tryz.func56,Tryz.ntmps56
  go_wp2_with fail
  refine (C1 _).mono ?_
  rintro _ w1 ⟨rfl,hb1⟩
  go_wp2_with fail
  refine (C2 _).mono ?_
  rintro _ w2 ⟨rfl,hb2⟩
  go_wp2
  go_ret
  exact ⟨rfl,bel_trans hb1 hb2⟩
set_option maxRecDepth 100000 in
theorem rProd_any (a b:Int) (ha:rng a) (hb:rng b) (w:World) :
    Calls Tryz.prog 54 #[.int .i64 a,.int .i64 b] w fun x w'=>x=.returned (.int .i64 (fprod a b))∧Below w.heap.size w w':=by
  have C1:=fun W=>rk64_any W
  have C2:=fun W=>rmul64_near a b ha hb W
  generalize fprod a b=r at *
  unfold k64V at *
  go_enter Tryz.func54,Tryz.ntmps54
  go_wp2_with fail
  refine (C1 _).mono ?_
  rintro _ w1 ⟨rfl,hb1⟩
  go_wp2_with fail
  refine (C2 _).mono ?_
  rintro _ w2 ⟨rfl,hb2⟩
  go_wp2
  go_ret
  exact ⟨rfl,bel_trans hb1 hb2⟩
set_option maxRecDepth 100000 in
theorem s10Abs {b:Int} (hb:rng b) (w:World) :
    Calls Tryz.prog 55 #[.int .i64 b] w fun e w'=>e=.returned (.int .i64 (rg b))∧w'=w:=by
  have h:bits .andNot .i64 b (-9223372036854775808)=rg b:=by
    unfold rng at hb
    rw [andNot_i64_sign _ hb.1 (by omega)]
    rfl
  go_enter Tryz.func55,Tryz.ntmps55
  go_wp2
  go_ret
  exact ⟨rfl,rfl⟩
theorem sgP_valS {b:Int} (hb:rng b):sgP b=if rg b=0 then 0 else if b<0 then -1 else 1:=by
  unfold sgP ord key rg
  unfold rng at hb
  by_cases c:b<0
  . simp only [c,if_true]
    by_cases d:b+9223372036854775808=0
    . rw [if_pos d]
      have:¬ -(b+9223372036854775808)<0:=by omega
      simp [this]
      omega
    . rw [if_neg d]
      have:-(b+9223372036854775808)<0:=by omega
      rw [if_pos this]
  . simp only [c,if_false]
    by_cases d:b=0
    . subst d; decide
    . have e:0<b:=by omega
      simp [d,e]
set_option maxRecDepth 100000 in
theorem s10Val {b:Int} (hb:rng b) (w:World) :
    Calls Tryz.prog 58 #[.int .i64 b] w fun e w'=>e=.returned (.int .i64 (sgP b))∧w'=w:=by
  rw [sgP_valS hb]
  have CA:Hid (∀ W,Calls Tryz.prog 55 #[.int .i64 b] W fun e w'=>e=.returned (.int .i64 (rg b))∧w'=W):=fun W=>s10Abs hb W
  clear hb
  generalize rg b=r at *
  by_cases h0:r=0
  . subst h0
    go_enter Tryz.func58,Tryz.ntmps58
    go_wp2_with fail
    refine (CA.out _).mono ?_
    rintro _ wz ⟨rfl,hwz⟩
    replace hwz:=hwz.symm
    subst hwz
    go_wp2
    go_ret
    exact ⟨by simp,rfl⟩
  . have h1:(r == 0)=false:=by simpa using h0
    by_cases h2:b<0
    . have h3:decide (b<0)=true:=decide_eq_true h2
      go_enter Tryz.func58,Tryz.ntmps58
      go_wp2_with fail
      refine (CA.out _).mono ?_
      rintro _ wz ⟨rfl,hwz⟩
      replace hwz:=hwz.symm
      subst hwz
      go_wp2
      go_ret
      exact ⟨by simp [h0,h2],rfl⟩
    . have h3:decide (b<0)=false:=decide_eq_false h2
      go_enter Tryz.func58,Tryz.ntmps58
      go_wp2_with fail
      refine (CA.out _).mono ?_
      rintro _ wz ⟨rfl,hwz⟩
      replace hwz:=hwz.symm
      subst hwz
      go_wp2
      go_ret
      exact ⟨by simp [h0,h2],rfl⟩
set_option maxRecDepth 100000 in
theorem s10Less {a b:Int} (ha:rng a) (hb:rng b) (w:World) :
    Calls Tryz.prog 57 #[.int .i64 a,.int .i64 b] w fun e w'=>e=.returned (.bool (decide (key a<key b)))∧w'=w:=by
  have C1:Hid (∀ W,Calls Tryz.prog 86 #[.int .i64 a] W fun e w'=>e=.returned (.int .i64 (key a))∧w'=W):=fun W=>q_rank ha W
  have C2:Hid (∀ W,Calls Tryz.prog 86 #[.int .i64 b] W fun e w'=>e=.returned (.int .i64 (key b))∧w'=W):=fun W=>q_rank hb W
  clear ha hb
  generalize key a=p at *
  generalize key b=q at *
  go_enter Tryz.func57,Tryz.ntmps57
  go_wp2_with fail
  refine (C1.out _).mono ?_
  rintro _ wz ⟨rfl,hwz⟩
  replace hwz:=hwz.symm
  subst hwz
  go_wp2_with fail
  refine (C2.out _).mono ?_
  rintro _ wz ⟨rfl,hwz⟩
  replace hwz:=hwz.symm
  subst hwz
  go_wp2
  go_ret
  exact ⟨rfl,rfl⟩
theorem s10abs {b:Int} (hb:rng b) (W:World):Calls Tryz.prog 55 #[.int .i64 b] W fun e w'=>e=.returned (.int .i64 (rg b))∧Below W.heap.size W w':=(s10Abs hb W).mono (by rintro _ _ ⟨rfl,rfl⟩; exact ⟨rfl,bel_refl _⟩)
theorem s10val {b:Int} (hb:rng b) (W:World):Calls Tryz.prog 58 #[.int .i64 b] W fun e w'=>e=.returned (.int .i64 (sgP b))∧Below W.heap.size W w':=(s10Val hb W).mono (by rintro _ _ ⟨rfl,rfl⟩; exact ⟨rfl,bel_refl _⟩)
theorem s10less {a b:Int} (ha:rng a) (hb:rng b) (W:World):Calls Tryz.prog 57 #[.int .i64 a,.int .i64 b] W fun e w'=>e=.returned (.bool (decide (key a<key b)))∧Below W.heap.size W w':=(s10Less ha hb W).mono (by rintro _ _ ⟨rfl,rfl⟩; exact ⟨rfl,bel_refl _⟩)
set_option maxRecDepth 100000 in
theorem s10FloatA (W:World):Calls Tryz.prog 29 #[.int .i64 7881299347898375,.int .i64 (-103)] W fun e w'=>e=.returned (.int .i64 sA)∧Below W.heap.size W w':=by
  go_enter Tryz.func29,Tryz.ntmps29
  go_wp2
  go_ret
  exact ⟨rfl,bel_refl _⟩
set_option maxRecDepth 100000 in
set_option maxHeartbeats 4000000 in
theorem r12pair {u:Nat->Nat->Int} (p q:Nat) (hr:∀ i k,rng (u i k)) (w:World) :
    Calls Tryz.prog 52 #[.agg #[.int .i64 (u p 0),.int .i64 (u p 1),.int .i64 (u p 2)],.agg #[.int .i64 (u q 0),.int .i64 (u q 1),.int .i64 (u q 2)]] w fun e w'=>e=.returned (.tuple #[.int .i64 (mn u p q),.int .i64 (sz u p q)])∧Below w.heap.size w w':=by
  have P1:Hid (∀ W,Calls Tryz.prog 54 #[.int .i64 (u p 0),.int .i64 (u q 1)] W fun e w'=>e=.returned (.int .i64 (pL u p q))∧Below W.heap.size W w'):=fun W=>rProd_any _ _ (hr _ _) (hr _ _) W
  have P2:Hid (∀ W,Calls Tryz.prog 54 #[.int .i64 (u q 0),.int .i64 (u p 1)] W fun e w'=>e=.returned (.int .i64 (pL u q p))∧Below W.heap.size W w'):=fun W=>rProd_any _ _ (hr _ _) (hr _ _) W
  have r1:rng (pL u p q):=fprod_rng (hr _ _) (hr _ _)
  have r2:rng (pL u q p):=fprod_rng (hr _ _) (hr _ _)
  have D:Hid (∀ W,Calls Tryz.prog 56 #[.int .i64 (pL u p q),.int .i64 (pL u q p)] W fun e w'=>e=.returned (.int .i64 (mn u p q))∧Below W.heap.size W w'):=fun W=>rDiff_any _ _ r1 r2 W
  have A1:Hid (∀ W,Calls Tryz.prog 55 #[.int .i64 (pL u p q)] W fun e w'=>e=.returned (.int .i64 (rg (pL u p q)))∧Below W.heap.size W w'):=fun W=>s10abs r1 W
  have A2:Hid (∀ W,Calls Tryz.prog 55 #[.int .i64 (pL u q p)] W fun e w'=>e=.returned (.int .i64 (rg (pL u q p)))∧Below W.heap.size W w'):=fun W=>s10abs r2 W
  have S:Hid (∀ W,Calls Tryz.prog 53 #[.int .i64 (rg (pL u p q)),.int .i64 (rg (pL u q p))] W fun e w'=>e=.returned (.int .i64 (sz u p q))∧Below W.heap.size W w'):=fun W=>rSum_any _ _ (q_rg r1).1 (q_rg r2).1 W
  clear r1 r2 hr
  generalize mn u p q=dd at *
  generalize sz u p q=ss at *
  generalize rg (pL u p q)=g1 at *
  generalize rg (pL u q p)=g2 at *
  generalize pL u p q=l1 at *
  generalize pL u q p=l2 at *
  obtain ⟨hb0,a_k,b_k,hsz0⟩:=blks2 w (.cells #[.int .i64 (u p 0),.int .i64 (u p 1),.int .i64 (u p 2)] 70) (.cells #[.int .i64 (u q 0),.int .i64 (u q 1),.int .i64 (u q 2)] 70)
  clear hsz0
  go_enter Tryz.func52,Tryz.ntmps52
  have f_a0:=blkC a_k 0 rfl
  have f_b1:=blkC b_k 1 rfl
  go_wp2_with fail
  clear f_a0 f_b1
  generalize ((w.alloc (.cells #[.int .i64 (u p 0),.int .i64 (u p 1),.int .i64 (u p 2)] 70)).alloc (.cells #[.int .i64 (u q 0),.int .i64 (u q 1),.int .i64 (u q 2)] 70))=x0 at hb0 a_k b_k ⊢
  refine (P1.out _).mono ?_
  rintro _ y1 ⟨rfl,hw1⟩
  replace a_k:=blk_us hw1 a_k
  replace b_k:=blk_us hw1 b_k
  replace hb0:=bel_trans hb0 hw1
  have f_b0:=blkC b_k 0 rfl
  have f_a1:=blkC a_k 1 rfl
  go_wp2_with fail
  clear f_b0 f_a1
  refine (P2.out _).mono ?_
  rintro _ y2 ⟨rfl,hw2⟩
  replace a_k:=blk_us hw2 a_k
  replace b_k:=blk_us hw2 b_k
  replace hb0:=bel_trans hb0 hw2
  go_wp2_with fail
  refine (D.out _).mono ?_
  rintro _ y3 ⟨rfl,hw3⟩
  replace a_k:=blk_us hw3 a_k
  replace b_k:=blk_us hw3 b_k
  replace hb0:=bel_trans hb0 hw3
  go_wp2_with fail
  refine (A1.out _).mono ?_
  rintro _ y4 ⟨rfl,hw4⟩
  replace a_k:=blk_us hw4 a_k
  replace b_k:=blk_us hw4 b_k
  replace hb0:=bel_trans hb0 hw4
  go_wp2_with fail
  refine (A2.out _).mono ?_
  rintro _ y5 ⟨rfl,hw5⟩
  replace a_k:=blk_us hw5 a_k
  replace b_k:=blk_us hw5 b_k
  replace hb0:=bel_trans hb0 hw5
  go_wp2_with fail
  refine (S.out _).mono ?_
  rintro _ y6 ⟨rfl,hw6⟩
  replace a_k:=blk_us hw6 a_k
  replace b_k:=blk_us hw6 b_k
  replace hb0:=bel_trans hb0 hw6
  go_wp2
  exact bodyPost_ret (v:=.tuple #[.int .i64 dd,.int .i64 ss]) (by simp [results,Tryz.results52,go_sem]) rfl ⟨rfl,hb0⟩
set_option maxRecDepth 100000 in
set_option maxHeartbeats 4000000 in
theorem r12sideF {u:Nat->Nat->Int} (hr:∀ i k,rng (u i k)) (w:World) :
    Calls Tryz.prog 26 #[.agg #[.int .i64 (u 0 0),.int .i64 (u 0 1),.int .i64 (u 0 2)],.agg #[.int .i64 (u 1 0),.int .i64 (u 1 1),.int .i64 (u 1 2)],.agg #[.int .i64 (u 2 0),.int .i64 (u 2 1),.int .i64 (u 2 2)]] w fun e w'=>e=.returned (.tuple #[.int .i64 (rD u),.int .i64 (sxz u 0 1 2)])∧Below w.heap.size w w':=by
  have C0:Hid (∀ W,Calls Tryz.prog 52 #[.agg #[.int .i64 (u 1 0),.int .i64 (u 1 1),.int .i64 (u 1 2)],.agg #[.int .i64 (u 2 0),.int .i64 (u 2 1),.int .i64 (u 2 2)]] W fun e w'=>e=.returned (.tuple #[.int .i64 (mn u 1 2),.int .i64 (sz u 1 2)])∧Below W.heap.size W w'):=fun W=>r12pair 1 2 hr W
  have rm0:rng (mn u 1 2):=fsum_rng (fprod_rng (hr _ _) (hr _ _)) (rng_neg (fprod_rng (hr _ _) (hr _ _)))
  have rz0:rng (sz u 1 2):=fsum_rng (q_rg (fprod_rng (hr _ _) (hr _ _))).1 (q_rg (fprod_rng (hr _ _) (hr _ _))).1
  have C1:Hid (∀ W,Calls Tryz.prog 52 #[.agg #[.int .i64 (u 2 0),.int .i64 (u 2 1),.int .i64 (u 2 2)],.agg #[.int .i64 (u 0 0),.int .i64 (u 0 1),.int .i64 (u 0 2)]] W fun e w'=>e=.returned (.tuple #[.int .i64 (mn u 2 0),.int .i64 (sz u 2 0)])∧Below W.heap.size W w'):=fun W=>r12pair 2 0 hr W
  have rm1:rng (mn u 2 0):=fsum_rng (fprod_rng (hr _ _) (hr _ _)) (rng_neg (fprod_rng (hr _ _) (hr _ _)))
  have rz1:rng (sz u 2 0):=fsum_rng (q_rg (fprod_rng (hr _ _) (hr _ _))).1 (q_rg (fprod_rng (hr _ _) (hr _ _))).1
  have C2:Hid (∀ W,Calls Tryz.prog 52 #[.agg #[.int .i64 (u 0 0),.int .i64 (u 0 1),.int .i64 (u 0 2)],.agg #[.int .i64 (u 1 0),.int .i64 (u 1 1),.int .i64 (u 1 2)]] W fun e w'=>e=.returned (.tuple #[.int .i64 (mn u 0 1),.int .i64 (sz u 0 1)])∧Below W.heap.size W w'):=fun W=>r12pair 0 1 hr W
  have rm2:rng (mn u 0 1):=fsum_rng (fprod_rng (hr _ _) (hr _ _)) (rng_neg (fprod_rng (hr _ _) (hr _ _)))
  have rz2:rng (sz u 0 1):=fsum_rng (q_rg (fprod_rng (hr _ _) (hr _ _))).1 (q_rg (fprod_rng (hr _ _) (hr _ _))).1
  have P0:Hid (∀ W,Calls Tryz.prog 54 #[.int .i64 (u 0 2),.int .i64 (mn u 1 2)] W fun e w'=>e=.returned (.int .i64 (fprod (u 0 2) (mn u 1 2)))∧Below W.heap.size W w'):=fun W=>rProd_any _ _ (hr _ _) rm0 W
  have rp0:rng (fprod (u 0 2) (mn u 1 2)):=fprod_rng (hr _ _) rm0
  have P1:Hid (∀ W,Calls Tryz.prog 54 #[.int .i64 (u 1 2),.int .i64 (mn u 2 0)] W fun e w'=>e=.returned (.int .i64 (fprod (u 1 2) (mn u 2 0)))∧Below W.heap.size W w'):=fun W=>rProd_any _ _ (hr _ _) rm1 W
  have rp1:rng (fprod (u 1 2) (mn u 2 0)):=fprod_rng (hr _ _) rm1
  have P2:Hid (∀ W,Calls Tryz.prog 54 #[.int .i64 (u 2 2),.int .i64 (mn u 0 1)] W fun e w'=>e=.returned (.int .i64 (fprod (u 2 2) (mn u 0 1)))∧Below W.heap.size W w'):=fun W=>rProd_any _ _ (hr _ _) rm2 W
  have rp2:rng (fprod (u 2 2) (mn u 0 1)):=fprod_rng (hr _ _) rm2
  have S1:Hid (∀ W,Calls Tryz.prog 53 #[.int .i64 (fprod (u 0 2) (mn u 1 2)),.int .i64 (fprod (u 1 2) (mn u 2 0))] W fun e w'=>e=.returned (.int .i64 (fsum (fprod (u 0 2) (mn u 1 2)) (fprod (u 1 2) (mn u 2 0))))∧Below W.heap.size W w'):=fun W=>rSum_any _ _ rp0 rp1 W
  have rs1:rng (fsum (fprod (u 0 2) (mn u 1 2)) (fprod (u 1 2) (mn u 2 0))):=fsum_rng rp0 rp1
  have S2:Hid (∀ W,Calls Tryz.prog 53 #[.int .i64 (fsum (fprod (u 0 2) (mn u 1 2)) (fprod (u 1 2) (mn u 2 0))),.int .i64 (fprod (u 2 2) (mn u 0 1))] W fun e w'=>e=.returned (.int .i64 (rD u))∧Below W.heap.size W w'):=fun W=>rSum_any _ _ rs1 rp2 W
  have A0:Hid (∀ W,Calls Tryz.prog 55 #[.int .i64 (u 0 2)] W fun e w'=>e=.returned (.int .i64 (rg (u 0 2)))∧Below W.heap.size W w'):=fun W=>s10abs (hr _ _) W
  have Q0:Hid (∀ W,Calls Tryz.prog 54 #[.int .i64 (sz u 1 2),.int .i64 (rg (u 0 2))] W fun e w'=>e=.returned (.int .i64 (fprod (sz u 1 2) (rg (u 0 2))))∧Below W.heap.size W w'):=fun W=>rProd_any _ _ rz0 (q_rg (hr _ _)).1 W
  have rq0:rng (fprod (sz u 1 2) (rg (u 0 2))):=fprod_rng rz0 (q_rg (hr _ _)).1
  have A1:Hid (∀ W,Calls Tryz.prog 55 #[.int .i64 (u 1 2)] W fun e w'=>e=.returned (.int .i64 (rg (u 1 2)))∧Below W.heap.size W w'):=fun W=>s10abs (hr _ _) W
  have Q1:Hid (∀ W,Calls Tryz.prog 54 #[.int .i64 (sz u 2 0),.int .i64 (rg (u 1 2))] W fun e w'=>e=.returned (.int .i64 (fprod (sz u 2 0) (rg (u 1 2))))∧Below W.heap.size W w'):=fun W=>rProd_any _ _ rz1 (q_rg (hr _ _)).1 W
  have rq1:rng (fprod (sz u 2 0) (rg (u 1 2))):=fprod_rng rz1 (q_rg (hr _ _)).1
  have A2:Hid (∀ W,Calls Tryz.prog 55 #[.int .i64 (u 2 2)] W fun e w'=>e=.returned (.int .i64 (rg (u 2 2)))∧Below W.heap.size W w'):=fun W=>s10abs (hr _ _) W
  have Q2:Hid (∀ W,Calls Tryz.prog 54 #[.int .i64 (sz u 0 1),.int .i64 (rg (u 2 2))] W fun e w'=>e=.returned (.int .i64 (fprod (sz u 0 1) (rg (u 2 2))))∧Below W.heap.size W w'):=fun W=>rProd_any _ _ rz2 (q_rg (hr _ _)).1 W
  have rq2:rng (fprod (sz u 0 1) (rg (u 2 2))):=fprod_rng rz2 (q_rg (hr _ _)).1
  have Y1:Hid (∀ W,Calls Tryz.prog 53 #[.int .i64 (fprod (sz u 1 2) (rg (u 0 2))),.int .i64 (fprod (sz u 2 0) (rg (u 1 2)))] W fun e w'=>e=.returned (.int .i64 (fsum (fprod (sz u 1 2) (rg (u 0 2))) (fprod (sz u 2 0) (rg (u 1 2)))))∧Below W.heap.size W w'):=fun W=>rSum_any _ _ rq0 rq1 W
  have Y2:Hid (∀ W,Calls Tryz.prog 53 #[.int .i64 (fsum (fprod (sz u 1 2) (rg (u 0 2))) (fprod (sz u 2 0) (rg (u 1 2)))),.int .i64 (fprod (sz u 0 1) (rg (u 2 2)))] W fun e w'=>e=.returned (.int .i64 (sxz u 0 1 2))∧Below W.heap.size W w'):=fun W=>rSum_any _ _ (fsum_rng rq0 rq1) rq2 W
  clear hr rs1 rm0 rz0 rp0 rq0 rm1 rz1 rp1 rq1 rm2 rz2 rp2 rq2
  generalize rD u=dd at *
  generalize sxz u 0 1 2=ss at *
  generalize fsum (fprod (u 0 2) (mn u 1 2)) (fprod (u 1 2) (mn u 2 0))=t1 at *
  generalize fsum (fprod (sz u 1 2) (rg (u 0 2))) (fprod (sz u 2 0) (rg (u 1 2)))=z1 at *
  generalize fprod (u 0 2) (mn u 1 2)=e0 at *
  generalize fprod (u 1 2) (mn u 2 0)=e1 at *
  generalize fprod (u 2 2) (mn u 0 1)=e2 at *
  generalize fprod (sz u 1 2) (rg (u 0 2))=h0 at *
  generalize fprod (sz u 2 0) (rg (u 1 2))=h1 at *
  generalize fprod (sz u 0 1) (rg (u 2 2))=h2 at *
  generalize mn u 1 2=m0 at *
  generalize mn u 2 0=m1 at *
  generalize mn u 0 1=m2 at *
  generalize sz u 1 2=n0 at *
  generalize sz u 2 0=n1 at *
  generalize sz u 0 1=n2 at *
  generalize rg (u 0 2)=g0 at *
  generalize rg (u 1 2)=g1 at *
  generalize rg (u 2 2)=g2 at *
  obtain ⟨hb0,a_k,b_k,c_k,hsz0⟩:=blks3 w (.cells #[.int .i64 (u 0 0),.int .i64 (u 0 1),.int .i64 (u 0 2)] 70) (.cells #[.int .i64 (u 1 0),.int .i64 (u 1 1),.int .i64 (u 1 2)] 70) (.cells #[.int .i64 (u 2 0),.int .i64 (u 2 1),.int .i64 (u 2 2)] 70)
  clear hsz0
  go_enter Tryz.func26,Tryz.ntmps26
  have f_b0:=blkC b_k 0 rfl
  have f_b1:=blkC b_k 1 rfl
  have f_b2:=blkC b_k 2 rfl
  have f_c0:=blkC c_k 0 rfl
  have f_c1:=blkC c_k 1 rfl
  have f_c2:=blkC c_k 2 rfl
  go_wp2_with fail
  clear f_b0 f_b1 f_b2 f_c0 f_c1 f_c2
  generalize (((w.alloc (.cells #[.int .i64 (u 0 0),.int .i64 (u 0 1),.int .i64 (u 0 2)] 70)).alloc (.cells #[.int .i64 (u 1 0),.int .i64 (u 1 1),.int .i64 (u 1 2)] 70)).alloc (.cells #[.int .i64 (u 2 0),.int .i64 (u 2 1),.int .i64 (u 2 2)] 70))=x0 at hb0 a_k b_k c_k ⊢
  refine (C0.out _).mono ?_
  rintro _ y1 ⟨rfl,hw1⟩
  replace a_k:=blk_us hw1 a_k
  replace b_k:=blk_us hw1 b_k
  replace c_k:=blk_us hw1 c_k
  replace hb0:=bel_trans hb0 hw1
  have f_c0:=blkC c_k 0 rfl
  have f_c1:=blkC c_k 1 rfl
  have f_c2:=blkC c_k 2 rfl
  have f_a0:=blkC a_k 0 rfl
  have f_a1:=blkC a_k 1 rfl
  have f_a2:=blkC a_k 2 rfl
  go_wp2_with fail
  clear f_c0 f_c1 f_c2 f_a0 f_a1 f_a2
  refine (C1.out _).mono ?_
  rintro _ y2 ⟨rfl,hw2⟩
  replace a_k:=blk_us hw2 a_k
  replace b_k:=blk_us hw2 b_k
  replace c_k:=blk_us hw2 c_k
  replace hb0:=bel_trans hb0 hw2
  have f_a0:=blkC a_k 0 rfl
  have f_a1:=blkC a_k 1 rfl
  have f_a2:=blkC a_k 2 rfl
  have f_b0:=blkC b_k 0 rfl
  have f_b1:=blkC b_k 1 rfl
  have f_b2:=blkC b_k 2 rfl
  go_wp2_with fail
  clear f_a0 f_a1 f_a2 f_b0 f_b1 f_b2
  refine (C2.out _).mono ?_
  rintro _ y3 ⟨rfl,hw3⟩
  replace a_k:=blk_us hw3 a_k
  replace b_k:=blk_us hw3 b_k
  replace c_k:=blk_us hw3 c_k
  replace hb0:=bel_trans hb0 hw3
  go_wp2_with fail
  have KK4:∀ W,Below y3.heap.size y3 W->W.cell? ⟨w.heap.size,2,none⟩=some (.int .i64 (u 0 2))∧W.cell? ⟨w.heap.size+1,2,none⟩=some (.int .i64 (u 1 2))∧W.cell? ⟨w.heap.size+2,2,none⟩=some (.int .i64 (u 2 2)):=fun W hb=>⟨q_cell (blkC a_k 2 rfl) hb,q_cell (blkC b_k 2 rfl) hb,q_cell (blkC c_k 2 rfl) hb⟩
  have hC4_0:=(bel_refl y3).drew
  have hs4_0:=(bel_refl y3).drew
  go_region_held3 (fun W=>W.cell? ⟨w.heap.size,2,none⟩=some (.int .i64 (u 0 2))∧W.cell? ⟨w.heap.size+1,2,none⟩=some (.int .i64 (u 1 2))∧W.cell? ⟨w.heap.size+2,2,none⟩=some (.int .i64 (u 2 2)))
    (with_reducible first | assumption | exact KK4 _ hC4_0 | exact KK4 _ hC4_1 | exact KK4 _ hC4_2 | exact KK4 _ hC4_3 | exact KK4 _ hC4_4 | exact KK4 _ hC4_5 | fail)
    (first
      | (go_at_call 53; have _t:=hs4_4; refine (S2.out _).mono ?_; rintro _ y4_5 ⟨rfl,hs4_5⟩; have hC4_5:=bel_trans hC4_4 hs4_5)
      | (go_at_call 54; have _t:=hs4_3; refine (P2.out _).mono ?_; rintro _ y4_4 ⟨rfl,hs4_4⟩; have hC4_4:=bel_trans hC4_3 hs4_4)
      | (go_at_call 53; have _t:=hs4_2; refine (S1.out _).mono ?_; rintro _ y4_3 ⟨rfl,hs4_3⟩; have hC4_3:=bel_trans hC4_2 hs4_3)
      | (go_at_call 54; have _t:=hs4_1; refine (P1.out _).mono ?_; rintro _ y4_2 ⟨rfl,hs4_2⟩; have hC4_2:=bel_trans hC4_1 hs4_2)
      | (go_at_call 54; refine (P0.out _).mono ?_; rintro _ y4_1 ⟨rfl,hs4_1⟩; have hC4_1:=bel_trans hC4_0 hs4_1))
  replace a_k:=blk_us hC4_5 a_k
  replace b_k:=blk_us hC4_5 b_k
  replace c_k:=blk_us hC4_5 c_k
  replace hb0:=bel_trans hb0 hC4_5
  have f_a2:=blkC a_k 2 rfl
  go_wp2_with fail
  clear f_a2
  refine (A0.out _).mono ?_
  rintro _ y5 ⟨rfl,hw5⟩
  replace a_k:=blk_us hw5 a_k
  replace b_k:=blk_us hw5 b_k
  replace c_k:=blk_us hw5 c_k
  replace hb0:=bel_trans hb0 hw5
  go_wp2_with fail
  refine (Q0.out _).mono ?_
  rintro _ y6 ⟨rfl,hw6⟩
  replace a_k:=blk_us hw6 a_k
  replace b_k:=blk_us hw6 b_k
  replace c_k:=blk_us hw6 c_k
  replace hb0:=bel_trans hb0 hw6
  have f_b2:=blkC b_k 2 rfl
  go_wp2_with fail
  clear f_b2
  refine (A1.out _).mono ?_
  rintro _ y7 ⟨rfl,hw7⟩
  replace a_k:=blk_us hw7 a_k
  replace b_k:=blk_us hw7 b_k
  replace c_k:=blk_us hw7 c_k
  replace hb0:=bel_trans hb0 hw7
  go_wp2_with fail
  refine (Q1.out _).mono ?_
  rintro _ y8 ⟨rfl,hw8⟩
  replace a_k:=blk_us hw8 a_k
  replace b_k:=blk_us hw8 b_k
  replace c_k:=blk_us hw8 c_k
  replace hb0:=bel_trans hb0 hw8
  have f_c2:=blkC c_k 2 rfl
  go_wp2_with fail
  clear f_c2
  refine (A2.out _).mono ?_
  rintro _ y9 ⟨rfl,hw9⟩
  replace a_k:=blk_us hw9 a_k
  replace b_k:=blk_us hw9 b_k
  replace c_k:=blk_us hw9 c_k
  replace hb0:=bel_trans hb0 hw9
  go_wp2_with fail
  refine (Q2.out _).mono ?_
  rintro _ y10 ⟨rfl,hw10⟩
  replace a_k:=blk_us hw10 a_k
  replace b_k:=blk_us hw10 b_k
  replace c_k:=blk_us hw10 c_k
  replace hb0:=bel_trans hb0 hw10
  go_wp2_with fail
  refine (Y1.out _).mono ?_
  rintro _ y11 ⟨rfl,hw11⟩
  replace a_k:=blk_us hw11 a_k
  replace b_k:=blk_us hw11 b_k
  replace c_k:=blk_us hw11 c_k
  replace hb0:=bel_trans hb0 hw11
  go_wp2_with fail
  refine (Y2.out _).mono ?_
  rintro _ y12 ⟨rfl,hw12⟩
  replace a_k:=blk_us hw12 a_k
  replace b_k:=blk_us hw12 b_k
  replace c_k:=blk_us hw12 c_k
  replace hb0:=bel_trans hb0 hw12
  go_wp2
  exact bodyPost_ret (v:=.tuple #[.int .i64 dd,.int .i64 ss]) (by simp [results,Tryz.results26,go_sem]) rfl ⟨rfl,hb0⟩
end Go.Proofs.YtcklaogdjpbagaaGreatDoor
