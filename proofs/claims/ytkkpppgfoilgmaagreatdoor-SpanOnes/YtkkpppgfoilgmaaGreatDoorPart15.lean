/- Parts of the proof. -/
import Derived.Test.YtkkpppgfoilgmaaGreatDoorPart13
import Derived.Test.YtkkpppgfoilgmaaGreatDoorPart14
import Derived.Test.YtkkpppgfoilgmaaGreatDoorPart12
import Derived.Test.YtkkpppgfoilgmaaGreatDoorPart11
import Derived.Deep.RegionHeld3
import Derived.Test.YtkkpppgfoilgmaaGreatDoorPart6
import Derived.Test.YtkkpppgfoilgmaaGreatDoorPart9
set_option maxRecDepth 100000
set_option maxHeartbeats 8000000
set_option linter.unusedVariables false
set_option linter.unusedSimpArgs false
namespace Go.Proofs.YtkkpppgfoilgmaaGreatDoor
open Go Go.Proofs.Tryz Go.RowKit Go.Proofs.YtkkpppgfoilgmaaGreatDoor.M
theorem A7 (W:World):Calls prog 77 #[.float .f64 4607182418800017408] W fun e w'=>e=.returned (.float .f64 4607182418800017408)∧w'=W:=by
 have:=lI (b:=4607182418800017408) (by unfold au;omega) W
 rw[show wd 4607182418800017408=4607182418800017408 by decide,show rg 4607182418800017408=4607182418800017408 by decide,show wd 4607182418800017408=4607182418800017408 by decide] at this
 exact this
theorem Dn (W:World):Calls prog 77 #[.float .f64 4611686018427387904] W fun e w'=>e=.returned (.float .f64 4611686018427387904)∧w'=W:=by
 have:=lI (b:=4611686018427387904) (by unfold au;omega) W
 rw[show wd 4611686018427387904=4611686018427387904 by decide,show rg 4611686018427387904=4611686018427387904 by decide,show wd 4611686018427387904=4611686018427387904 by decide] at this
 exact this
theorem Cp (w:World) :
  Calls prog 58 #[.float .f64 4607182418800017408,.float .f64 4607182418800017408] w fun e w'=>e=.returned (.agg #[.float .f64 4611686018427387904,.float .f64 4611686018427387904])∧w'=(w.alloc (.cells #[.float .f64 4611686018427387904,.float .f64 4611686018427387904] 64)).alloc (.cells #[.float .f64 4611686018427387904,.float .f64 4611686018427387904] 64):=by
 have hst:∀ (p:Addr) (n:Nat) (m:Mode) (w:World),(store p (.float .f64 n) m).run prog w=stored prog w p (.float .f64 n) m:=fun p n m w=>run_store _ w p _ m rfl
 have o:FloatKind.f64.format.order 4607182418800017408 4607182418800017408=some .eq:=by decide +kernel
 have h1:∀ w:World,(binOp .add 62 (.float .f64 4607182418800017408) (.float .f64 4607182418800017408)).run prog w=.ok (.float .f64 4611686018427387904) w:=fun w=>by kernel_rfl
 have h2:∀ w:World,(binOp .sub 62 (.float .f64 4611686018427387904) (.float .f64 4607182418800017408)).run prog w=.ok (.float .f64 4607182418800017408) w:=fun w=>by kernel_rfl
 have h3:∀ w:World,(binOp .sub 62 (.float .f64 4607182418800017408) (.float .f64 4607182418800017408)).run prog w=.ok (.float .f64 0) w:=fun w=>by kernel_rfl
 have hg:=gL (w.alloc (.cells #[.float .f64 4611686018427387904,.float .f64 4611686018427387904] 64)) (.cells #[.float .f64 4611686018427387904,.float .f64 4611686018427387904] 64) rfl
 have hg0:((w.alloc (.cells #[.float .f64 4611686018427387904,.float .f64 4611686018427387904] 64)).alloc (.cells #[.float .f64 4611686018427387904,.float .f64 4611686018427387904] 64)).heap[w.heap.size]?=some (.cells #[.float .f64 4611686018427387904,.float .f64 4611686018427387904] 64 (0,0)):=bv w _ _
 have e0:=ab hg0 0 rfl
 have e1:=ab hg0 1 rfl
 go_enter func58,ntmps58
 go_wp2_with (first|(go_at_call 77;refine(A7 _).mono ?_;rintro _ _ ⟨rfl,rfl⟩)  | (go_at_call 78;refine(st _ _).mono ?_;rintro _ _ ⟨rfl,rfl⟩))
 refine bodyPost_ret (v:=.agg #[.float .f64 4611686018427387904,.float .f64 4611686018427387904]) (by simp[results,results58,go_sem,e0,e1]) rfl ⟨rfl,rfl⟩
theorem Cq (w:World) :
  Calls prog 58 #[.float .f64 4607182418800017408,.float .f64 4611686018427387904] w fun e w'=>e=.returned (.agg #[.float .f64 4613937818241073152,.float .f64 4613937818241073152])∧w'=(w.alloc (.cells #[.float .f64 4613937818241073152,.float .f64 4613937818241073152] 64)).alloc (.cells #[.float .f64 4613937818241073152,.float .f64 4613937818241073152] 64):=by
 have hst:∀ (p:Addr) (n:Nat) (m:Mode) (w:World),(store p (.float .f64 n) m).run prog w=stored prog w p (.float .f64 n) m:=fun p n m w=>run_store _ w p _ m rfl
 have o:FloatKind.f64.format.order 4607182418800017408 4611686018427387904=some .lt:=by decide +kernel
 have h1:∀ w:World,(binOp .add 62 (.float .f64 4611686018427387904) (.float .f64 4607182418800017408)).run prog w=.ok (.float .f64 4613937818241073152) w:=fun w=>by kernel_rfl
 have h2:∀ w:World,(binOp .sub 62 (.float .f64 4613937818241073152) (.float .f64 4611686018427387904)).run prog w=.ok (.float .f64 4607182418800017408) w:=fun w=>by kernel_rfl
 have h3:∀ w:World,(binOp .sub 62 (.float .f64 4607182418800017408) (.float .f64 4607182418800017408)).run prog w=.ok (.float .f64 0) w:=fun w=>by kernel_rfl
 have hg:=gL (w.alloc (.cells #[.float .f64 4613937818241073152,.float .f64 4613937818241073152] 64)) (.cells #[.float .f64 4613937818241073152,.float .f64 4613937818241073152] 64) rfl
 have hg0:((w.alloc (.cells #[.float .f64 4613937818241073152,.float .f64 4613937818241073152] 64)).alloc (.cells #[.float .f64 4613937818241073152,.float .f64 4613937818241073152] 64)).heap[w.heap.size]?=some (.cells #[.float .f64 4613937818241073152,.float .f64 4613937818241073152] 64 (0,0)):=bv w _ _
 have e0:=ab hg0 0 rfl
 have e1:=ab hg0 1 rfl
 go_enter func58,ntmps58
 go_wp2_with (first|(go_at_call 77;refine(A7 _).mono ?_;rintro _ _ ⟨rfl,rfl⟩)|(go_at_call 77;refine(Dn _).mono ?_;rintro _ _ ⟨rfl,rfl⟩)  | (go_at_call 78;refine(st _ _).mono ?_;rintro _ _ ⟨rfl,rfl⟩))
 refine bodyPost_ret (v:=.agg #[.float .f64 4613937818241073152,.float .f64 4613937818241073152]) (by simp[results,results58,go_sem,e0,e1]) rfl ⟨rfl,rfl⟩
theorem Cr (w:World) :
    Calls prog 36 #[.agg #[.float .f64 4607182418800017408,.float .f64 4607182418800017408],.agg #[.float .f64 4607182418800017408,.float .f64 4611686018427387904]] w fun e w'=>e=.returned (.agg #[.float .f64 4611686018427387904,.float .f64 4613937818241073152])∧Below w.heap.size w w':=by
  have hst:∀ (p:Addr) (n:Nat) (m:Mode) (w:World),(store p (.float .f64 n) m).run prog w=stored prog w p (.float .f64 n) m:=fun p n m w=>run_store _ w p _ m rfl
  obtain⟨q0,q1,q2,hs,hb3⟩:=oU w (.cells #[.float .f64 4607182418800017408,.float .f64 4607182418800017408] 64) (.cells #[.float .f64 4607182418800017408,.float .f64 4611686018427387904] 64) (.cells #[.float .f64 0,.float .f64 0] 64)
  have k0:=ab q0 0 rfl
  have k1:=ab q0 1 rfl
  have k2:=ab q1 0 rfl
  have k3:=ab q1 1 rfl
  have S1:Hid (∀ W,Calls prog 58 #[.float .f64 4607182418800017408,.float .f64 4607182418800017408] W fun e w'=>e=.returned (.agg #[.float .f64 4611686018427387904,.float .f64 4611686018427387904])∧Below W.heap.size W w'):=fun W=>(Cp W).mono fun _ _ ⟨h1,h2⟩=>⟨h1,by rw[h2];exact ax W _ _⟩
  have S2:Hid (∀ W,Calls prog 58 #[.float .f64 4607182418800017408,.float .f64 4611686018427387904] W fun e w'=>e=.returned (.agg #[.float .f64 4613937818241073152,.float .f64 4613937818241073152])∧Below W.heap.size W w'):=fun W=>(Cq W).mono fun _ _ ⟨h1,h2⟩=>⟨h1,by rw[h2];exact ax W _ _⟩
  go_enter func36,ntmps36
  go_wp2_with fail
  generalize ((w.alloc (.cells #[.float .f64 4607182418800017408,.float .f64 4607182418800017408] 64)).alloc (.cells #[.float .f64 4607182418800017408,.float .f64 4611686018427387904] 64)).alloc (.cells #[.float .f64 0,.float .f64 0] 64)=wx at *
  obtain⟨g,hg⟩:∃ g,w.heap.size+1+1=g:=⟨_,rfl⟩
  have hwg:w.heap.size+2<=g:=by omega
  replace q2:wx.drew.heap[g]?=some (.cells #[.float .f64 0,.float .f64 0] 64 (0,0)):=by rw[<- hg];exact q2
  simp only[hg]
  clear hg hst
  have hc:(w.heap.size<w.heap.size+2∧w.heap.size+1<w.heap.size+2∧w.heap.size+2<=wx.drew.heap.size)∧wx.drew.cell? ⟨w.heap.size,0,none⟩=some (.float .f64 4607182418800017408)∧wx.drew.cell? ⟨w.heap.size,1,none⟩=some (.float .f64 4607182418800017408)∧wx.drew.cell? ⟨w.heap.size+1,0,none⟩=some (.float .f64 4607182418800017408)∧wx.drew.cell? ⟨w.heap.size+1,1,none⟩=some (.float .f64 4611686018427387904):=⟨⟨by omega,by omega,by show _<=wx.heap.size;omega⟩,k0,k1,k2,k3⟩
  have hbd:=hb3.drew
  have fl0:∀ w:World,(Instr.field 64 (.agg #[.float .f64 4611686018427387904,.float .f64 4611686018427387904]) 0).run prog w=.ok (.float .f64 4611686018427387904) w:=fun w=>by kernel_rfl
  have fl1:∀ w:World,(Instr.field 64 (.agg #[.float .f64 4613937818241073152,.float .f64 4613937818241073152]) 1).run prog w=.ok (.float .f64 4613937818241073152) w:=fun w=>by kernel_rfl
  clear q0 q1 k0 k1 k2 k3
  go_region_held3 (fun W=>(w.heap.size<w.heap.size+2∧w.heap.size+1<w.heap.size+2∧w.heap.size+2<=W.heap.size)∧W.cell? ⟨w.heap.size,0,none⟩=some (.float .f64 4607182418800017408)∧W.cell? ⟨w.heap.size,1,none⟩=some (.float .f64 4607182418800017408)∧W.cell? ⟨w.heap.size+1,0,none⟩=some (.float .f64 4607182418800017408)∧W.cell? ⟨w.heap.size+1,1,none⟩=some (.float .f64 4611686018427387904))
    (first|assumption|(repeat (first|exact hc|exact hc1|exact hc2|refine ss ?_|refine uL (by omega) ?_)))
    (first
      | (go_at_call 58;have _t:=hb4;refine(S2.out _).mono ?_;rintro _ w2 ⟨rfl,hb5⟩;have hc2:=nI hc1 hb5;have d2:=((aa hb4 hb5).block _ (aGe q2).1).trans q2;have d3:=ag d2 0 (.float .f64 4611686018427387904);have d4:=ag d3 1 (.float .f64 4613937818241073152);have f0:=ab d2 0 rfl;have z0:=ak d2 0;have f1:=ab d3 1 rfl;have z1:=ak d3 1;have s0:(store ⟨g,0,none⟩ (.float .f64 4611686018427387904)).run prog w2=.ok () (w2.setCell ⟨g,0,none⟩ (.float .f64 4611686018427387904)):=(by rw[run_store _ _ _ _ _ rfl,f0];simp only[z0];rfl);have s1:(store ⟨g,1,none⟩ (.float .f64 4613937818241073152)).run prog (w2.setCell ⟨g,0,none⟩ (.float .f64 4611686018427387904))=.ok () ((w2.setCell ⟨g,0,none⟩ (.float .f64 4611686018427387904)).setCell ⟨g,1,none⟩ (.float .f64 4613937818241073152)):=(by rw[run_store _ _ _ _ _ rfl,f1];simp only[z1];rfl))
      | (go_at_call 58; refine (S1.out _).mono ?_; rintro _ w1 ⟨rfl,hb4⟩; have hc1:=nI hc hb4))
  have e0:=ab d4 0 rfl
  have e1:=ab d4 1 rfl
  have hbe:=((aa hbd (aa hb4 hb5)).setCell (p:=⟨g,0,none⟩) (show w.heap.size<=g by omega) (.float .f64 4611686018427387904)).setCell (p:=⟨g,1,none⟩) (show w.heap.size<=g by omega) (.float .f64 4613937818241073152)
  clear d2 d3 d4 f0 f1 z0 z1 s0 s1 hc hc1 hc2
  generalize (w2.setCell ⟨g,0,none⟩ (.float .f64 4611686018427387904)).setCell ⟨g,1,none⟩ (.float .f64 4613937818241073152)=wy at *
  go_wp2
  refine bodyPost_ret (v:=.agg #[.float .f64 4611686018427387904,.float .f64 4613937818241073152]) (by simp[results,results36,go_sem,e0,e1]) rfl ⟨rfl,hbe⟩
theorem Do (w:World) (L:eI w) :
    Calls prog 8 #[.agg #[.int .i64 4607182418800017408,.int .i64 4607182418800017408],.agg #[.int .i64 4607182418800017408,.int .i64 4611686018427387904]] w fun e w'=>e=.returned (.tuple #[.agg #[.int .i64 4611686018427387904,.int .i64 4613937818241073152],.int .i64 0])∧Below w.heap.size w w':=by
  have w1:wd 4607182418800017408=4607182418800017408:=by decide
  have w2:wd 4611686018427387904=4611686018427387904:=by decide
  have w3:wd 4613937818241073152=4613937818241073152:=by decide
  have r1:au 4607182418800017408:=by unfold au;omega
  have r2:au 4611686018427387904:=by unfold au;omega
  have r3:au 4613937818241073152:=by unfold au;omega
  have hE:∀ (cap:Array Value) (w:World),(callFunc 36 cap).run prog w=.ok (.enter 36 cap) w:=by
    intro cap w
    simp[go_sem]
  have CJ:Hid (∀ W,eI W->Calls prog 35 #[.agg #[.int .i64 4607182418800017408,.int .i64 4607182418800017408],.agg #[.int .i64 4607182418800017408,.int .i64 4611686018427387904],.func (.func 36) #[] #[]] W fun e w'=>e=.returned (.tuple #[.agg #[.int .i64 4611686018427387904,.int .i64 4613937818241073152],.int .i64 0])∧Below W.heap.size W w'):=fun W LW=>by
    have:=vd (x:=4611686018427387904) (y:=4613937818241073152) _ r1 r1 r1 r2 W LW hE (fun _ _=>⟨⟨r2,by decide⟩,⟨r3,by decide⟩,fun W' _=>by
      unfold bW
      rw[w1,w2,w3]
      exact Cr W'⟩)
    rw[show br 4607182418800017408 4607182418800017408=true by decide,show br 4607182418800017408 4611686018427387904=true by decide,show aH 4611686018427387904=4611686018427387904 by decide,show aH 4613937818241073152=4613937818241073152 by decide] at this
    exact this
  obtain⟨q0,q1,q2,hs,hb3⟩:=oU w (.cells #[.int .i64 4607182418800017408,.int .i64 4607182418800017408] 23) (.cells #[.int .i64 4607182418800017408,.int .i64 4611686018427387904] 23) (.cells #[.int .i64 0,.int .i64 0] 23)
  have L2:=L.below' hb3
  clear w1 w2 w3 r1 r2 r3
  go_enter func8,ntmps8
  go_wp2_with fail
  generalize ((w.alloc (.cells #[.int .i64 4607182418800017408,.int .i64 4607182418800017408] 23)).alloc (.cells #[.int .i64 4607182418800017408,.int .i64 4611686018427387904] 23)).alloc (.cells #[.int .i64 0,.int .i64 0] 23)=wx at *
  refine(CJ.out _ L2).mono ?_
  rintro _ w1 ⟨rfl,hb4⟩
  have d2:=(hb4.block _ (aGe q2).1).trans q2
  have d3:=ag d2 0 (.int .i64 4611686018427387904)
  have d4:=ag d3 1 (.int .i64 4613937818241073152)
  have f0:=ab d2 0 rfl
  have z0:=ak d2 0
  have f1:=ab d3 1 rfl
  have z1:=ak d3 1
  have e0:=ab d4 0 rfl
  have e1:=ab d4 1 rfl
  have hbe:=((aa hb3 hb4).setCell (p:=⟨w.heap.size+1+1,0,none⟩) (show w.heap.size<=w.heap.size+1+1 by omega) (.int .i64 4611686018427387904)).setCell (p:=⟨w.heap.size+1+1,1,none⟩) (show w.heap.size<=w.heap.size+1+1 by omega) (.int .i64 4613937818241073152)
  clear d2 d3 d4 q0 q1 q2
  go_wp2
  refine bodyPost_ret (v:=.tuple #[.agg #[.int .i64 4611686018427387904,.int .i64 4613937818241073152],.int .i64 0]) (by simp[results,results8,go_sem,e0,e1]) rfl ⟨rfl,hbe⟩
theorem Cs (w:World) :
  Calls prog 9 #[.agg #[.int .i64 4611686018427387904,.int .i64 4613937818241073152]] w fun e w'=>e=.returned (.tuple #[.int .i64 1,.bool true,.int .i64 0])∧Below w.heap.size w w':=by
 have hst:∀ (p:Addr) (n:Nat) (m:Mode) (w:World),(store p (.float .f64 n) m).run prog w=stored prog w p (.float .f64 n) m:=fun p n m w=>run_store _ w p _ m rfl
 have w2:wd 4611686018427387904=4611686018427387904:=by decide
 have w3:wd 4613937818241073152=4613937818241073152:=by decide
 have r2:au 4611686018427387904:=by unfold au;omega
 have r3:au 4613937818241073152:=by unfold au;omega
 have o:FloatKind.f64.format.order 4611686018427387904 0=some .gt:=by decide +kernel
 have R1:Hid (∀ W,Calls prog 37 #[.agg #[.int .i64 4611686018427387904,.int .i64 4613937818241073152]] W fun e w'=>e=.returned (.agg #[.float .f64 4611686018427387904,.float .f64 4613937818241073152])∧Below W.heap.size W w'):=fun W=>by
  have:=el 4611686018427387904 4613937818241073152 W
  unfold cQ bW at this
  rw[w2,w3] at this
  exact this
 have V1:Hid (∀ W,Calls prog 38 #[.agg #[.float .f64 4611686018427387904,.float .f64 4613937818241073152]] W fun e w'=>e=.returned (.bool true)∧Below W.heap.size W w'):=fun W=>by
  have:=dF r2 r3 W
  unfold bW at this
  rw[w2,w3,show br 4611686018427387904 4613937818241073152=true by decide] at this
  exact this
 have hb:=ae w (.cells #[.int .i64 4611686018427387904,.int .i64 4613937818241073152] 23)
 go_enter func9,ntmps9
 go_wp2_with fail
 generalize w.alloc (.cells #[.int .i64 4611686018427387904,.int .i64 4613937818241073152] 23)=wx at *
 refine(R1.out _).mono ?_
 rintro _ w1 ⟨rfl,hb1⟩
 have hba:=ae w1 (.cells #[.float .f64 4611686018427387904,.float .f64 4613937818241073152] 64)
 have hg:=gL w1 (.cells #[.float .f64 4611686018427387904,.float .f64 4613937818241073152] 64) rfl
 go_wp2_with fail
 generalize w1.alloc (.cells #[.float .f64 4611686018427387904,.float .f64 4613937818241073152] 64)=w2 at *
 refine(V1.out _).mono ?_
 rintro _ w3 ⟨rfl,hb2⟩
 have hg3:=(hb2.block _ (aGe hg).1).trans hg
 have c0:=ab hg3 0 rfl
 have c1:=ab hg3 1 rfl
 go_wp2
 refine bodyPost_ret (v:=.tuple #[.int .i64 1,.bool true,.int .i64 0]) (by simp[results,results9,go_sem]) rfl ⟨rfl,aa hb (aa hb1 (aa hba hb2))⟩
def mX (a b:Int):Int:=if br a b then (if 0<aj a then 1 else if aj b<0 then -1 else 0) else 0
def ls (a b:Int):Bool:=br a b&&(decide (0<aj a)||(decide (aj b<0)||(decide (aj a=0)&&decide (aj b=0))))
theorem A8 {a:Int} (ha:nn a):(0<aj a->FloatKind.f64.format.order (wd a) 0=some .gt)∧(aj a=0->FloatKind.f64.format.order (wd a) 0=some .eq)∧(aj a<0->FloatKind.f64.format.order (wd a) 0=some .lt):=by
 have w0:wd 0=0:=by decide
 have k0:aj 0=0:=by decide
 refine⟨fun g=>?_,fun g=>?_,fun g=>?_⟩
 ·have:=fO ha.1 cP.1.1 ha.2 cP.1.2 (by rw[k0];exact g);rw[w0] at this;exact this
 ·have:=fP ha.1 cP.1.1 ha.2 cP.1.2 (by rw[k0];exact g);rw[w0] at this;exact this
 ·have:=fN ha.1 cP.1.1 ha.2 cP.1.2 (by rw[k0];exact g);rw[w0] at this;exact this
theorem vm {a b:Int} (A B:Nat) (v kn:Bool) (n:Int) (er:Int) (w:World)
  (R1:Hid (∀ W,Calls prog 37 #[.agg #[.int .i64 a,.int .i64 b]] W fun e w'=>e=.returned (.agg #[.float .f64 A,.float .f64 B])∧Below W.heap.size W w'))
  (V1:Hid (∀ W,Calls prog 38 #[.agg #[.float .f64 A,.float .f64 B]] W fun e w'=>e=.returned (.bool v)∧Below W.heap.size W w'))
  (O:(v=false∧n=0∧kn=false∧er=1)∨(v=true∧er=0∧((FloatKind.f64.format.order A 0=some .gt∧n=1∧kn=true)∨((FloatKind.f64.format.order A 0=some .lt∨FloatKind.f64.format.order A 0=some .eq)∧FloatKind.f64.format.order B 0=some .lt∧n=-1∧kn=true)∨(FloatKind.f64.format.order A 0=some .lt∧(FloatKind.f64.format.order B 0=some .gt∨FloatKind.f64.format.order B 0=some .eq)∧n=0∧kn=false)∨(FloatKind.f64.format.order A 0=some .eq∧FloatKind.f64.format.order B 0=some .gt∧n=0∧kn=false)∨(FloatKind.f64.format.order A 0=some .eq∧FloatKind.f64.format.order B 0=some .eq∧n=0∧kn=true)))) :
  Calls prog 9 #[.agg #[.int .i64 a,.int .i64 b]] w fun e w'=>e=.returned (.tuple #[.int .i64 n,.bool kn,.int .i64 er])∧Below w.heap.size w w':=by
 have hst:∀ (p:Addr) (n:Nat) (m:Mode) (w:World),(store p (.float .f64 n) m).run prog w=stored prog w p (.float .f64 n) m:=fun p n m w=>run_store _ w p _ m rfl
 have QX:∀ (x:Nat) W,(Op.equalIn 9999 62 (.float .f64 x) (.float .f64 0)).run prog W=.ok (FloatKind.f64.format.order x 0 == some .eq) W:=fun x W=>by rw[nK W 9998 62 _ x 0 underlying62]
 have hb:=ae w (.cells #[.int .i64 a,.int .i64 b] 23)
 rcases O with⟨rfl,rfl,rfl,rfl⟩|⟨rfl,rfl,O⟩
 ·go_enter func9,ntmps9
  go_wp2_with fail
  generalize w.alloc (.cells #[.int .i64 a,.int .i64 b] 23)=wx at *
  refine(R1.out _).mono ?_
  rintro _ w1 ⟨rfl,hb1⟩
  have hba:=ae w1 (.cells #[.float .f64 A,.float .f64 B] 64)
  have hg:=gL w1 (.cells #[.float .f64 A,.float .f64 B] 64) rfl
  go_wp2_with fail
  generalize w1.alloc (.cells #[.float .f64 A,.float .f64 B] 64)=w2 at *
  refine(V1.out _).mono ?_
  rintro _ w3 ⟨rfl,hb2⟩
  go_wp2
  refine bodyPost_ret (v:=.tuple #[.int .i64 0,.bool false,.int .i64 1]) (by simp[results,results9,go_sem]) rfl ⟨rfl,aa hb (aa hb1 (aa hba hb2))⟩
 ·rcases O with⟨o1,rfl,rfl⟩|⟨o1|o1,o2,rfl,rfl⟩|⟨o1,o2|o2,rfl,rfl⟩|⟨o1,o2,rfl,rfl⟩|⟨o1,o2,rfl,rfl⟩
  all_goals
   go_enter func9,ntmps9
   go_wp2_with fail
   generalize w.alloc (.cells #[.int .i64 a,.int .i64 b] 23)=wx at *
   refine(R1.out _).mono ?_
   rintro _ w1 ⟨rfl,hb1⟩
   have hba:=ae w1 (.cells #[.float .f64 A,.float .f64 B] 64)
   have hg:=gL w1 (.cells #[.float .f64 A,.float .f64 B] 64) rfl
   go_wp2_with fail
   generalize w1.alloc (.cells #[.float .f64 A,.float .f64 B] 64)=w2 at *
   refine(V1.out _).mono ?_
   rintro _ w3 ⟨rfl,hb2⟩
   have hg3:=(hb2.block _ (aGe hg).1).trans hg
   have c0:w3.cell? ⟨w1.heap.size,0,none⟩=some (.float .f64 A):=ab hg3 0 rfl
   have c1:w3.cell? ⟨w1.heap.size,1,none⟩=some (.float .f64 B):=ab hg3 1 rfl
   have kd:w3.drew.cell? ⟨w1.heap.size,0,none⟩=some (.float .f64 A)∧w3.drew.cell? ⟨w1.heap.size,1,none⟩=some (.float .f64 B):=⟨c0,c1⟩
  ·go_wp2
   refine bodyPost_ret (v:=.tuple #[.int .i64 1,.bool true,.int .i64 0]) (by simp[results,results9,go_sem]) rfl ⟨rfl,aa hb (aa hb1 (aa hba hb2))⟩
  iterate 2
   ·go_wp2
    refine bodyPost_ret (v:=.tuple #[.int .i64 (-1),.bool true,.int .i64 0]) (by simp[results,results9,go_sem]) rfl ⟨rfl,aa hb (aa hb1 (aa hba hb2))⟩
  all_goals
   have QA:=fun W=>QX A W
   have QB:=fun W=>QX B W
   rw[o1] at QA
   rw[o2] at QB
   clear QX
   go_wp2_with fail
   go_region_held3 (fun W=>W.cell? ⟨w1.heap.size,0,none⟩=some (.float .f64 A)∧W.cell? ⟨w1.heap.size,1,none⟩=some (.float .f64 B)) (first|assumption|exact kd) (fail)
   go_wp2
  iterate 3
   ·exact bodyPost_ret (v:=.tuple #[.int .i64 0,.bool false,.int .i64 0]) (by simp[results,results9,go_sem]) rfl ⟨rfl,(aa hb (aa hb1 (aa hba hb2))).drew⟩
  ·exact bodyPost_ret (v:=.tuple #[.int .i64 0,.bool true,.int .i64 0]) (by simp[results,results9,go_sem]) rfl ⟨rfl,(aa hb (aa hb1 (aa hba hb2))).drew⟩
theorem oF {a b:Int} (ha:au a) (hb:au b) (w:World) :
  Calls prog 9 #[cQ a b] w fun e w'=>e=.returned (.tuple #[.int .i64 (mX a b),.bool (ls a b),.int .i64 (jq (br a b))])∧Below w.heap.size w w':=by
 refine vm (wd a) (wd b) (br a b) (ls a b) (mX a b) (jq (br a b)) w (fun W=>el a b W) (fun W=>dF ha hb W) ?_
 cases hv:br a b
 ·left
  unfold mX ls jq
  rw[hv]
  simp
 ·right
  obtain⟨va,vb,h1,h2,h3⟩:=fW.1 hv
  obtain⟨a1,a2,a3⟩:=A8 ⟨ha,va⟩
  obtain⟨b1,b2,b3⟩:=A8 ⟨hb,vb⟩
  refine⟨rfl,rfl,?_⟩
  unfold mX ls
  rw[hv]
  simp only[if_true,Bool.true_and]
  by_cases p1:0<aj a
  ·left
   exact⟨a1 p1,if_pos p1,by simp[p1]⟩
  ·right
   have p1':aj a<0∨aj a=0:=by omega
   by_cases p2:aj b<0
   ·left
    exact⟨p1'.imp a3 a2,b3 p2,by rw[if_neg p1,if_pos p2],by simp[p2]⟩
   ·right
    have q0:decide (0<aj a)=false:=decide_eq_false p1
    have q1:decide (aj b<0)=false:=decide_eq_false p2
    rw[if_neg p1,if_neg p2,q0,q1]
    simp only[Bool.false_or]
    rcases p1' with p3|p3
    ·left
     refine⟨a3 p3,?_,by first|rfl|trivial,by rw[decide_eq_false (by omega)];rfl⟩
     rcases (show 0<aj b∨aj b=0 by omega) with q|q
     ·exact .inl (b1 q)
     ·exact .inr (b2 q)
    ·right
     rcases (show 0<aj b∨aj b=0 by omega) with q|q
     ·left
      exact⟨a2 p3,b1 q,by first|rfl|trivial,by rw[decide_eq_false (show ¬ aj b=0 by omega)];simp⟩
     ·right
      exact⟨a2 p3,b2 q,by first|rfl|trivial,by rw[decide_eq_true p3,decide_eq_true q];rfl⟩
theorem tH {w0 w:World} {g:Nat} (h:Below w0.heap.size w0 w) (hg:w0.heap.size<=g) (a b:Value):Below w0.heap.size w0 ((w.setCell ⟨g,0,none⟩ a).setCell ⟨g,1,none⟩ b):=(h.setCell (p:=⟨g,0,none⟩) hg a).setCell (p:=⟨g,1,none⟩) hg b
theorem q7 {a b l h l2 h2 m x:Nat} (w:World) (H:aA w)
    (S0:Hid (∀ W,aA W->Calls prog 66 #[.float .f64 a,.float .f64 a] W fun e w'=>e=.returned (.agg #[.float .f64 l,.float .f64 h])∧Below W.heap.size W w'))
    (S1:Hid (∀ W,aA W->Calls prog 66 #[.float .f64 b,.float .f64 b] W fun e w'=>e=.returned (.agg #[.float .f64 l2,.float .f64 h2])∧Below W.heap.size W w'))
    (J:Hid (∀ W,Calls prog 48 #[.agg #[.float .f64 l,.float .f64 h],.agg #[.float .f64 l2,.float .f64 h2]] W fun e w'=>e=.returned (.agg #[.float .f64 m,.float .f64 x])∧Below W.heap.size W w'))
    (u:Nat) (O:(FloatKind.f64.format.order a 0=some .gt∧u=m)∨((FloatKind.f64.format.order a 0=some .lt∨FloatKind.f64.format.order a 0=some .eq)∧FloatKind.f64.format.order b 0=some .lt∧u=m)∨((FloatKind.f64.format.order a 0=some .lt∨FloatKind.f64.format.order a 0=some .eq)∧(FloatKind.f64.format.order b 0=some .gt∨FloatKind.f64.format.order b 0=some .eq)∧u=0)) :
    Calls prog 44 #[.agg #[.float .f64 a,.float .f64 b]] w fun e w'=>e=.returned (.agg #[.float .f64 u,.float .f64 x])∧Below w.heap.size w w':=by
  have hst:∀ (p:Addr) (x:Nat) (m:Mode) (w:World),(store p (.float .f64 x) m).run prog w=stored prog w p (.float .f64 x) m:=fun p x m w=>run_store _ w p _ m rfl
  have hb2:=ax w (.cells #[.float .f64 a,.float .f64 b] 64) (.cells #[.float .f64 0,.float .f64 0] 64)
  have q0:=bv w (.cells #[.float .f64 a,.float .f64 b] 64) (.cells #[.float .f64 0,.float .f64 0] 64)
  have q1:=bh w (.cells #[.float .f64 a,.float .f64 b] 64) (.cells #[.float .f64 0,.float .f64 0] 64)
  go_enter func44,ntmps44
  go_wp2_with fail
  generalize ((w.alloc (.cells #[.float .f64 a,.float .f64 b] 64)).alloc (.cells #[.float .f64 0,.float .f64 0] 64))=xw at q0 q1 hb2 ⊢
  have KK:∀ W,Below xw.heap.size xw W->W.cell? ⟨w.heap.size,0,none⟩=some (.float .f64 a)∧W.cell? ⟨w.heap.size,1,none⟩=some (.float .f64 b):=fun W hb=>⟨ab (ac hb q0) 0 rfl,ab (ac hb q0) 1 rfl⟩
  rename_i Q0 K1 hK1
  have HN:∀ (gA:Nat) (X:World) (t:Array Value),#[t.getD 0 undef,.pointer (some ⟨w.heap.size,0,none⟩),.pointer (some ⟨w.heap.size+1,0,none⟩),.pointer (some ⟨gA,0,none⟩),t.getD 4 undef,t.getD 5 undef,t.getD 6 undef,t.getD 7 undef,t.getD 8 undef,t.getD 9 undef,t.getD 10 undef,t.getD 11 undef,t.getD 12 undef,t.getD 13 undef,t.getD 14 undef,t.getD 15 undef,t.getD 16 undef,t.getD 17 undef,t.getD 18 undef,t.getD 19 undef,t.getD 20 undef,t.getD 21 undef,t.getD 22 undef,t.getD 23 undef,t.getD 24 undef]=t->X.heap[gA]?=some (.cells #[.float .f64 m,.float .f64 x] 64 (0,0))->Below xw.heap.size xw X->xw.heap.size<=gA->Exit.then K1 Q0 Exit.normal { tmps:=t,defers:=[] } X:=by
    intro gA X t ht n_k hX hgA
    obtain⟨t',hu⟩:∃ t':Nat->Value,t=#[t' 0,.pointer (some ⟨w.heap.size,0,none⟩),.pointer (some ⟨w.heap.size+1,0,none⟩),.pointer (some ⟨gA,0,none⟩),t' 4,t' 5,t' 6,t' 7,t' 8,t' 9,t' 10,t' 11,t' 12,t' 13,t' 14,t' 15,t' 16,t' 17,t' 18,t' 19,t' 20,t' 21,t' 22,t' 23,t' 24]:=⟨fun k=>t.getD k undef,ht.symm⟩
    clear ht
    subst hu
    clear S0 S1 J
    have A0:=ac hX q0
    have i0:=ab A0 0 rfl
    have i1:=ab A0 1 rfl
    have n0:=ab n_k 0 rfl
    have n1:=ab n_k 1 rfl
    have m0:=ak n_k 0
    have r_k:=ac hX q1
    have hne:gA≠w.heap.size+1:=by
      have:=(aGe q1).1
      omega
    have N1:=ag n_k 0 (.float .f64 0)
    have n2:=ab N1 0 rfl
    have n3:=ab N1 1 rfl
    have R1:(X.setCell ⟨gA,0,none⟩ (.float .f64 0)).heap[w.heap.size+1]?=some (.cells #[.float .f64 0,.float .f64 0] 64 (0,0)):=by
      rw[heap_setCell_other _ ⟨gA,_,none⟩ (w.heap.size+1) _ (Ne.symm hne)]
      exact r_k
    have hBX:=aa hb2 hX
    have hgw:w.heap.size<=gA:=Nat.le_trans hb2.size hgA
    have hBX1:=hBX.setCell (p:=⟨gA,0,none⟩) hgw (.float .f64 0)
    clear KK q0 q1 N1 A0
    rcases O with⟨o,rfl⟩|⟨o|o,o2,rfl⟩|⟨o|o,o2|o2,rfl⟩
    · have d3:=ag r_k 0 (.float .f64 u)
      have d4:=ag d3 1 (.float .f64 x)
      have f0:=ab r_k 0 rfl
      have z0:=ak r_k 0
      have f1:=ab d3 1 rfl
      have z1:=ak d3 1
      have e0:=ab d4 0 rfl
      have e1:=ab d4 1 rfl
      have hbe:=(hBX.setCell (p:=⟨w.heap.size+1,0,none⟩) (Nat.le_succ _) (.float .f64 u)).setCell (p:=⟨w.heap.size+1,1,none⟩) (Nat.le_succ _) (.float .f64 x)
      clear d3 d4
      go_wp2
      refine bodyPost_ret (v:=.agg #[.float .f64 u,.float .f64 x]) (by simp[results,results44,go_sem,e0,e1]) rfl ⟨rfl,hbe⟩
    · have d3:=ag r_k 0 (.float .f64 u)
      have d4:=ag d3 1 (.float .f64 x)
      have f0:=ab r_k 0 rfl
      have z0:=ak r_k 0
      have f1:=ab d3 1 rfl
      have z1:=ak d3 1
      have e0:=ab d4 0 rfl
      have e1:=ab d4 1 rfl
      have hbe:=(hBX.setCell (p:=⟨w.heap.size+1,0,none⟩) (Nat.le_succ _) (.float .f64 u)).setCell (p:=⟨w.heap.size+1,1,none⟩) (Nat.le_succ _) (.float .f64 x)
      clear d3 d4
      go_wp2
      refine bodyPost_ret (v:=.agg #[.float .f64 u,.float .f64 x]) (by simp[results,results44,go_sem,e0,e1]) rfl ⟨rfl,hbe⟩
    · have d3:=ag r_k 0 (.float .f64 u)
      have d4:=ag d3 1 (.float .f64 x)
      have f0:=ab r_k 0 rfl
      have z0:=ak r_k 0
      have f1:=ab d3 1 rfl
      have z1:=ak d3 1
      have e0:=ab d4 0 rfl
      have e1:=ab d4 1 rfl
      have hbe:=(hBX.setCell (p:=⟨w.heap.size+1,0,none⟩) (Nat.le_succ _) (.float .f64 u)).setCell (p:=⟨w.heap.size+1,1,none⟩) (Nat.le_succ _) (.float .f64 x)
      clear d3 d4
      go_wp2
      refine bodyPost_ret (v:=.agg #[.float .f64 u,.float .f64 x]) (by simp[results,results44,go_sem,e0,e1]) rfl ⟨rfl,hbe⟩
    · have d3:=ag R1 0 (.float .f64 0)
      have d4:=ag d3 1 (.float .f64 x)
      have f0:=ab R1 0 rfl
      have z0:=ak R1 0
      have f1:=ab d3 1 rfl
      have z1:=ak d3 1
      have e0:=ab d4 0 rfl
      have e1:=ab d4 1 rfl
      have hbe:=(hBX1.setCell (p:=⟨w.heap.size+1,0,none⟩) (Nat.le_succ _) (.float .f64 0)).setCell (p:=⟨w.heap.size+1,1,none⟩) (Nat.le_succ _) (.float .f64 x)
      clear d3 d4
      go_wp2
      refine bodyPost_ret (v:=.agg #[.float .f64 0,.float .f64 x]) (by simp[results,results44,go_sem,e0,e1]) rfl ⟨rfl,hbe⟩
    · have d3:=ag R1 0 (.float .f64 0)
      have d4:=ag d3 1 (.float .f64 x)
      have f0:=ab R1 0 rfl
      have z0:=ak R1 0
      have f1:=ab d3 1 rfl
      have z1:=ak d3 1
      have e0:=ab d4 0 rfl
      have e1:=ab d4 1 rfl
      have hbe:=(hBX1.setCell (p:=⟨w.heap.size+1,0,none⟩) (Nat.le_succ _) (.float .f64 0)).setCell (p:=⟨w.heap.size+1,1,none⟩) (Nat.le_succ _) (.float .f64 x)
      clear d3 d4
      go_wp2
      refine bodyPost_ret (v:=.agg #[.float .f64 0,.float .f64 x]) (by simp[results,results44,go_sem,e0,e1]) rfl ⟨rfl,hbe⟩
    · have d3:=ag R1 0 (.float .f64 0)
      have d4:=ag d3 1 (.float .f64 x)
      have f0:=ab R1 0 rfl
      have z0:=ak R1 0
      have f1:=ab d3 1 rfl
      have z1:=ak d3 1
      have e0:=ab d4 0 rfl
      have e1:=ab d4 1 rfl
      have hbe:=(hBX1.setCell (p:=⟨w.heap.size+1,0,none⟩) (Nat.le_succ _) (.float .f64 0)).setCell (p:=⟨w.heap.size+1,1,none⟩) (Nat.le_succ _) (.float .f64 x)
      clear d3 d4
      go_wp2
      refine bodyPost_ret (v:=.agg #[.float .f64 0,.float .f64 x]) (by simp[results,results44,go_sem,e0,e1]) rfl ⟨rfl,hbe⟩
    · have d3:=ag R1 0 (.float .f64 0)
      have d4:=ag d3 1 (.float .f64 x)
      have f0:=ab R1 0 rfl
      have z0:=ak R1 0
      have f1:=ab d3 1 rfl
      have z1:=ak d3 1
      have e0:=ab d4 0 rfl
      have e1:=ab d4 1 rfl
      have hbe:=(hBX1.setCell (p:=⟨w.heap.size+1,0,none⟩) (Nat.le_succ _) (.float .f64 0)).setCell (p:=⟨w.heap.size+1,1,none⟩) (Nat.le_succ _) (.float .f64 x)
      clear d3 d4
      go_wp2
      refine bodyPost_ret (v:=.agg #[.float .f64 0,.float .f64 x]) (by simp[results,results44,go_sem,e0,e1]) rfl ⟨rfl,hbe⟩
  have hxr:=aq xw
  have hx0:=(aq xw).drew
  go_region_held3 (fun W=>W.cell? ⟨w.heap.size,0,none⟩=some (.float .f64 a)∧W.cell? ⟨w.heap.size,1,none⟩=some (.float .f64 b))
    (first|assumption|exact KK _ (hx0)|exact KK _ ((fY hxr _).drew)|exact KK _ (fY hx0 _)|exact KK _ (hw1)|exact KK _ (fY hw1 _)|exact KK _ (hw2)|exact KK _ (fY hw2 _)|exact KK _ (hw3)|exact KK _ (fY hw3 _)|exact KK _ (tH hw3 (by first|exact Nat.le_refl _|exact hw1.size|exact hw2.size|omega) _ _)|fail)
    (first
      | (go_at_call 48;refine(J.out _).mono ?_;rintro _ y3 ⟨rfl,hb3'⟩;have hw3:Below xw.heap.size xw y3:=aa (by first|exact hw2|exact fY hw2 _) hb3';first|(have qz:y3.heap[y2.heap.size]?=some (.cells #[.float .f64 0,.float .f64 0] 64 (0,0)):=ac hb3' (a9 y2 (.cells #[.float .f64 0,.float .f64 0] 64));have cz0:=ab qz 0 rfl;have zz0:=ak qz 0;have cz1:=ab qz 1 rfl;have zz1:=ak qz 1)|(have qz:y3.heap[y1.heap.size]?=some (.cells #[.float .f64 0,.float .f64 0] 64 (0,0)):=ac hb3' (ac hb2' (a9 y1 (.cells #[.float .f64 0,.float .f64 0] 64)));have cz0:=ab qz 0 rfl;have zz0:=ak qz 0;have cz1:=ab qz 1 rfl;have zz1:=ak qz 1)|(have qz:y3.heap[xw.heap.size]?=some (.cells #[.float .f64 0,.float .f64 0] 64 (0,0)):=ac hb3' (ac hb2' (ac hb1' (a9 xw (.cells #[.float .f64 0,.float .f64 0] 64))));have cz0:=ab qz 0 rfl;have zz0:=ak qz 0;have cz1:=ab qz 1 rfl;have zz1:=ak qz 1)|skip)
      | (go_at_call 66;have _t:=T1;refine(S1.out _ (H.keeps (aa hb2 (by first|exact hw1|exact fY hw1 _)))).mono ?_;rintro _ y2 ⟨rfl,hb2'⟩;have hw2:Below xw.heap.size xw y2:=aa (by first|exact hw1|exact fY hw1 _) hb2';have T2:True:=trivial)
      | (go_at_call 66; refine (S0.out _ (H.keeps (aa hb2 (by first | exact hx0 | exact (fY hxr _).drew | exact fY hx0 _)))).mono ?_; rintro _ y1 ⟨rfl,hb1'⟩; have hw1:Below xw.heap.size xw y1:=aa (by first | exact hx0 | exact (fY hxr _).drew | exact fY hx0 _) hb1'; have T1:True:=trivial))
  · exact HN y3.heap.size _ _ (by kernel_rfl) (a9 _ _) (fY hw3 _) hw3.size
  · exact HN (y2.heap.size) _ _ (by kernel_rfl) (ag (ag qz 0 _) 1 _) (tH hw3 (hw2.size) _ _) (hw2.size)
  · exact HN (y1.heap.size) _ _ (by kernel_rfl) (ag (ag qz 0 _) 1 _) (tH hw3 (hw1.size) _ _) (hw1.size)
  · exact HN (xw.heap.size) _ _ (by kernel_rfl) (ag (ag qz 0 _) 1 _) (tH hw3 (Nat.le_refl _) _ _) (Nat.le_refl _)
theorem vr {a b:Int} (ha:nn a) (hb:nn b) (w:World) :
  Calls prog 43 #[bW a b] w fun e w'=>e=.returned (bW (neg b) (neg a))∧Below w.heap.size w w':=by
 unfold bW
 have RM:=fun W=>j7 (P:=prog) hb W
 have RX:=fun W=>j7 (P:=prog) ha W
 generalize wd (neg b)=X at *
 generalize wd (neg a)=Y at *
 generalize wd a=A at *
 generalize wd b=B at *
 have hb2:=ax w (.cells #[.float .f64 A,.float .f64 B] 64) (.cells #[.float .f64 0,.float .f64 0] 64)
 have q0:=bv w (.cells #[.float .f64 A,.float .f64 B] 64) (.cells #[.float .f64 0,.float .f64 0] 64)
 have q1:=bh w (.cells #[.float .f64 A,.float .f64 B] 64) (.cells #[.float .f64 0,.float .f64 0] 64)
 have k0:=ab q0 0 rfl
 have k1:=ab q0 1 rfl
 go_enter func43,ntmps43
 go_wp2_with fail
 clear q0 k0 k1 RM RX
 generalize (w.alloc (.cells #[.float .f64 A,.float .f64 B] 64)).alloc (.cells #[.float .f64 0,.float .f64 0] 64)=wx at *
 obtain⟨g,hg⟩:∃ g,w.heap.size+1=g:=⟨_,rfl⟩
 have hwg:w.heap.size<=g:=by omega
 rw[hg] at q1
 simp only[hg]
 clear hg
 have d2:=ag q1 0 (.float .f64 X)
 have d3:=ag d2 1 (.float .f64 Y)
 have f0:=ab q1 0 rfl
 have z0:=ak q1 0
 have f1:=ab d2 1 rfl
 have z1:=ak d2 1
 have hbe:=(hb2.setCell (p:=⟨g,0,none⟩) hwg (.float .f64 X)).setCell (p:=⟨g,1,none⟩) hwg (.float .f64 Y)
 have s0:(store ⟨g,0,none⟩ (.float .f64 X)).run prog wx=.ok () (wx.setCell ⟨g,0,none⟩ (.float .f64 X)):=by rw[run_store _ _ _ _ _ rfl,f0];simp only[z0];rfl
 have s1:(store ⟨g,1,none⟩ (.float .f64 Y)).run prog (wx.setCell ⟨g,0,none⟩ (.float .f64 X))=.ok () ((wx.setCell ⟨g,0,none⟩ (.float .f64 X)).setCell ⟨g,1,none⟩ (.float .f64 Y)):=by rw[run_store _ _ _ _ _ rfl,f1];simp only[z1];rfl
 have e0:=ab d3 0 rfl
 have e1:=ab d3 1 rfl
 clear f0 z0 f1 z1 d2 d3 q1
 simp only[s0,s1,Result.andThen]
 go_wp2
 refine bodyPost_ret (v:=.agg #[.float .f64 X,.float .f64 Y]) (by simp[results,results43,go_sem,e0,e1]) rfl ⟨rfl,hbe⟩
theorem mY {a b:Int} (ha:au a) (hb:au b) (h:br a b=true):nn a∧nn b∧(rg a=9218868437227405312->a<0)∧(rg b=9218868437227405312->¬ b<0)∧aj a<=aj b:=by
 obtain⟨va,vb,h1,h2,h3⟩:=fW.1 h
 refine⟨⟨ha,va⟩,⟨hb,vb⟩,fun q=>?_,fun q k=>?_,h1⟩
 ·rw[gv ha] at h2
  split at h2
  ·assumption
  ·omega
 ·rw[gv hb,if_pos k] at h3
  omega
theorem Ct {a b:Int} (ha:nn a) (hb:nn b) (w:World) (H:aA w) :
  Calls prog 44 #[bW a b] w fun e w'=>e=.returned (bW (js a b) (tG a b))∧Below w.heap.size w w':=by
 obtain⟨n0,n1⟩:=dp ha ha
 obtain⟨m0,m1⟩:=dp hb hb
 refine q7 (m:=wd (dS (dT a a) (dT b b))) w H (fun W hW=>oz ha ha W hW) (fun W hW=>oz hb hb W hW) (fun W=>oj n0 n1 m0 m1 W) (wd (js a b)) ?_
 have ka:=gv ha.1
 have kb:=gv hb.1
 have ra:=fH ha
 have rb:=fH hb
 have oa:(0<aj a∧FloatKind.f64.format.order (wd a) 0=some .gt)∨(aj a<=0∧(FloatKind.f64.format.order (wd a) 0=some .lt∨FloatKind.f64.format.order (wd a) 0=some .eq)):=by
  have w0:wd 0=0:=by decide
  have k0:aj 0=0:=by decide
  rcases Int.lt_trichotomy (aj a) 0 with g|g|g
  ·have:=fN ha.1 cP.1.1 ha.2 cP.1.2 (by rw[k0];exact g);rw[w0] at this;exact .inr ⟨by omega,.inl this⟩
  ·have:=fP ha.1 cP.1.1 ha.2 cP.1.2 (by rw[k0];exact g);rw[w0] at this;exact .inr ⟨by omega,.inr this⟩
  ·have:=fO ha.1 cP.1.1 ha.2 cP.1.2 (by rw[k0];exact g);rw[w0] at this;exact .inl ⟨g,this⟩
 have ob:(aj b<0∧FloatKind.f64.format.order (wd b) 0=some .lt)∨(0<=aj b∧(FloatKind.f64.format.order (wd b) 0=some .gt∨FloatKind.f64.format.order (wd b) 0=some .eq)):=by
  have w0:wd 0=0:=by decide
  have k0:aj 0=0:=by decide
  rcases Int.lt_trichotomy (aj b) 0 with g|g|g
  ·have:=fN hb.1 cP.1.1 hb.2 cP.1.2 (by rw[k0];exact g);rw[w0] at this;exact .inl ⟨g,this⟩
  ·have:=fP hb.1 cP.1.1 hb.2 cP.1.2 (by rw[k0];exact g);rw[w0] at this;exact .inr ⟨by omega,.inr this⟩
  ·have:=fO hb.1 cP.1.1 hb.2 cP.1.2 (by rw[k0];exact g);rw[w0] at this;exact .inr ⟨by omega,.inl this⟩
 rcases oa with⟨a1,a2⟩|⟨a1,a2⟩
 ·exact .inl ⟨a2,by unfold js;rw[if_neg (by omega)]⟩
 ·rcases ob with⟨b1,b2⟩|⟨b1,b2⟩
  ·exact .inr (.inl ⟨a2,b2,by unfold js;rw[if_neg (by omega)]⟩)
  ·exact .inr (.inr ⟨a2,b2,by unfold js;rw[if_pos ⟨a1,b1⟩];decide⟩)
theorem lW {a b:Int} (ha:au a) (hb:au b) (w:World) (H:aA w) :
  Calls prog 12 #[cQ a b] w fun e w'=>e=.returned (.tuple #[mr (br a b) (cQ (bM (di (ah a) (ah b))) (bN (dI (ah a) (ah b)))),.int .i64 (jq (br a b))])∧Below w.heap.size w w':=by
 have CR:Hid (∀ W,Calls prog 37 #[.agg #[.int .i64 a,.int .i64 b]] W fun e w'=>e=.returned (.agg #[.float .f64 (wd a),.float .f64 (wd b)])∧Below W.heap.size W w'):=fun W=>el a b W
 have CV:Hid (∀ W,Calls prog 38 #[.agg #[.float .f64 (wd a),.float .f64 (wd b)]] W fun e w'=>e=.returned (.bool (br a b))∧Below W.heap.size W w'):=fun W=>dF ha hb W
 have CS:Hid (br a b=true->∃ x y:Int,nn x∧nn y∧(aH x=bM (di (ah a) (ah b))∧aH y=bN (dI (ah a) (ah b)))∧∀ W,aA W->Calls prog 44 #[.agg #[.float .f64 (wd a),.float .f64 (wd b)]] W fun e w'=>e=.returned (.agg #[.float .f64 (wd x),.float .f64 (wd y)])∧Below W.heap.size W w'):=fun hv=>by
  obtain⟨na,nb,_⟩:=mY ha hb hv
  exact⟨js a b,tG a b,(xO na nb).1,(xO na nb).2,Dk na nb,fun W h=>Ct na nb W h⟩
 unfold cQ
 have hb2:=ax w (.cells #[.int .i64 a,.int .i64 b] 23) (.cells #[.int .i64 0,.int .i64 0] 23)
 have q0:=bv w (.cells #[.int .i64 a,.int .i64 b] 23) (.cells #[.int .i64 0,.int .i64 0] 23)
 have q1:=bh w (.cells #[.int .i64 a,.int .i64 b] 23) (.cells #[.int .i64 0,.int .i64 0] 23)
 have hst:∀ (p:Addr) (x:Nat) (m:Mode) (w:World),(store p (.float .f64 x) m).run prog w=stored prog w p (.float .f64 x) m:=fun p x m w=>run_store _ w p _ m rfl
 cases hv:br a b
 ·rw[hv] at CV
  clear CS
  unfold mr jq
  simp only[Bool.false_eq_true,if_false]
  go_enter func12,ntmps12
  go_wp2_with fail
  generalize (w.alloc (.cells #[.int .i64 a,.int .i64 b] 23)).alloc (.cells #[.int .i64 0,.int .i64 0] 23)=x0 at hb2 q0 q1 ⊢
  refine(CR.out _).mono ?_
  rintro _ w1 ⟨rfl,hb1⟩
  have i_k:=a9 w1 (.cells #[.float .f64 (wd a),.float .f64 (wd b)] 64)
  have hc1:=fY hb1 (.cells #[.float .f64 (wd a),.float .f64 (wd b)] 64)
  have j0:=ab i_k 0 rfl
  have j1:=ab i_k 1 rfl
  go_wp2_with fail
  generalize w1.alloc (.cells #[.float .f64 (wd a),.float .f64 (wd b)] 64)=x1 at i_k hc1 j0 j1 ⊢
  refine(CV.out _).mono ?_
  rintro _ w2 ⟨rfl,hb3⟩
  have hc2:=aa hc1 hb3
  clear j0 j1
  have d2:=ac hc2 q1
  have f0:=ab d2 0 rfl
  have z0:=ak d2 0
  have f1:=ab d2 1 rfl
  have z1:=ak d2 1
  have d3:=ag d2 0 (.int .i64 0)
  have d4:=ag d3 1 (.int .i64 0)
  have g1:=ab d3 1 rfl
  have y1:=ak d3 1
  have e0:=ab d4 0 rfl
  have e1:=ab d4 1 rfl
  have hbe:=((aa hb2 hc2).setCell (p:=⟨w.heap.size+1,0,none⟩) (show w.heap.size<=w.heap.size+1 by omega) (.int .i64 0)).setCell (p:=⟨w.heap.size+1,1,none⟩) (show w.heap.size<=w.heap.size+1 by omega) (.int .i64 0)
  clear d2 d3 d4 q0 q1 i_k
  go_wp2
  refine bodyPost_ret (v:=.tuple #[.agg #[.int .i64 0,.int .i64 0],.int .i64 1]) (by simp[results,results12,go_sem,e0,e1]) rfl ⟨rfl,hbe⟩
 ·rw[hv] at CV
  obtain⟨x,y,nx,ny,⟨ex,ey⟩,CQ⟩:=CS.out hv
  replace CQ:=ay CQ
  have CT:Hid (∀ W,aA W->Calls prog 42 #[.agg #[.float .f64 (wd x),.float .f64 (wd y)]] W fun e w'=>e=.returned (.agg #[.int .i64 (aH x),.int .i64 (aH y)])∧Below W.heap.size W w'):=fun W h=>kl nx ny W h.env.lays
  rw[ex,ey] at CT
  clear CS ex ey nx ny
  unfold mr jq
  simp only[if_true]
  generalize bM (di (ah a) (ah b))=X at *
  generalize bN (dI (ah a) (ah b))=Y at *
  generalize wd x=x' at *
  generalize wd y=y' at *
  go_enter func12,ntmps12
  go_wp2_with fail
  generalize (w.alloc (.cells #[.int .i64 a,.int .i64 b] 23)).alloc (.cells #[.int .i64 0,.int .i64 0] 23)=x0 at hb2 q0 q1 ⊢
  refine(CR.out _).mono ?_
  rintro _ w1 ⟨rfl,hb1⟩
  have i_k:=a9 w1 (.cells #[.float .f64 (wd a),.float .f64 (wd b)] 64)
  have hc1:=fY hb1 (.cells #[.float .f64 (wd a),.float .f64 (wd b)] 64)
  have j0:=ab i_k 0 rfl
  have j1:=ab i_k 1 rfl
  go_wp2_with fail
  generalize w1.alloc (.cells #[.float .f64 (wd a),.float .f64 (wd b)] 64)=x1 at i_k hc1 j0 j1 ⊢
  refine(CV.out _).mono ?_
  rintro _ w2 ⟨rfl,hb3⟩
  have i_k:=ac hb3 i_k
  have hc2:=aa hc1 hb3
  have k0:=ab i_k 0 rfl
  have k1:=ab i_k 1 rfl
  clear j0 j1
  go_wp2_with fail
  refine(CQ.out _ (H.keeps (aa hb2 hc2))).mono ?_
  rintro _ w4 ⟨rfl,hb4⟩
  have hc3:=aa hc2 hb4
  go_wp2_with fail
  refine(CT.out _ (H.keeps (aa hb2 hc3))).mono ?_
  rintro _ w5 ⟨rfl,hb5⟩
  have hc4:=aa hc3 hb5
  have d2:=ac hc4 q1
  have d3:=ag d2 0 (.int .i64 X)
  have d4:=ag d3 1 (.int .i64 Y)
  have f0:=ab d2 0 rfl
  have z0:=ak d2 0
  have f1:=ab d3 1 rfl
  have z1:=ak d3 1
  have e0:=ab d4 0 rfl
  have e1:=ab d4 1 rfl
  have hbe:=((aa hb2 hc4).setCell (p:=⟨w.heap.size+1,0,none⟩) (show w.heap.size<=w.heap.size+1 by omega) (.int .i64 X)).setCell (p:=⟨w.heap.size+1,1,none⟩) (show w.heap.size<=w.heap.size+1 by omega) (.int .i64 Y)
  clear d2 d3 d4 q0 q1 i_k k0 k1
  go_wp2
  refine bodyPost_ret (v:=.tuple #[.agg #[.int .i64 X,.int .i64 Y],.int .i64 0]) (by simp[results,results12,go_sem,e0,e1]) rfl ⟨rfl,hbe⟩
theorem qD {a b:Int} (ha:au a) (hb:au b) (w:World) (H:aA w) :
  Calls prog 11 #[cQ a b] w fun e w'=>e=.returned (.tuple #[mr (br a b) (cQ (bM (cX (ah b))) (bN (cX (ah a)))),.int .i64 (jq (br a b))])∧Below w.heap.size w w':=by
 have CR:Hid (∀ W,Calls prog 37 #[.agg #[.int .i64 a,.int .i64 b]] W fun e w'=>e=.returned (.agg #[.float .f64 (wd a),.float .f64 (wd b)])∧Below W.heap.size W w'):=fun W=>el a b W
 have CV:Hid (∀ W,Calls prog 38 #[.agg #[.float .f64 (wd a),.float .f64 (wd b)]] W fun e w'=>e=.returned (.bool (br a b))∧Below W.heap.size W w'):=fun W=>dF ha hb W
 have CS:Hid (br a b=true->∃ x y:Int,nn x∧nn y∧(aH x=bM (cX (ah b))∧aH y=bN (cX (ah a)))∧∀ W,aA W->Calls prog 43 #[.agg #[.float .f64 (wd a),.float .f64 (wd b)]] W fun e w'=>e=.returned (.agg #[.float .f64 (wd x),.float .f64 (wd y)])∧Below W.heap.size W w'):=fun hv=>by
  obtain⟨na,nb,_⟩:=mY ha hb hv
  have ea:=(jr (gp na).1).2
  have eb:=(jr (gp nb).1).1
  rw[vi na] at ea
  rw[vi nb] at eb
  exact⟨neg b,neg a,(gp nb).1,(gp na).1,⟨eb.symm,ea.symm⟩,fun W h=>vr na nb W⟩
 unfold cQ
 have hb2:=ax w (.cells #[.int .i64 a,.int .i64 b] 23) (.cells #[.int .i64 0,.int .i64 0] 23)
 have q0:=bv w (.cells #[.int .i64 a,.int .i64 b] 23) (.cells #[.int .i64 0,.int .i64 0] 23)
 have q1:=bh w (.cells #[.int .i64 a,.int .i64 b] 23) (.cells #[.int .i64 0,.int .i64 0] 23)
 have hst:∀ (p:Addr) (x:Nat) (m:Mode) (w:World),(store p (.float .f64 x) m).run prog w=stored prog w p (.float .f64 x) m:=fun p x m w=>run_store _ w p _ m rfl
 cases hv:br a b
 ·rw[hv] at CV
  clear CS
  unfold mr jq
  simp only[Bool.false_eq_true,if_false]
  go_enter func11,ntmps11
  go_wp2_with fail
  generalize (w.alloc (.cells #[.int .i64 a,.int .i64 b] 23)).alloc (.cells #[.int .i64 0,.int .i64 0] 23)=x0 at hb2 q0 q1 ⊢
  refine(CR.out _).mono ?_
  rintro _ w1 ⟨rfl,hb1⟩
  have i_k:=a9 w1 (.cells #[.float .f64 (wd a),.float .f64 (wd b)] 64)
  have hc1:=fY hb1 (.cells #[.float .f64 (wd a),.float .f64 (wd b)] 64)
  have j0:=ab i_k 0 rfl
  have j1:=ab i_k 1 rfl
  go_wp2_with fail
  generalize w1.alloc (.cells #[.float .f64 (wd a),.float .f64 (wd b)] 64)=x1 at i_k hc1 j0 j1 ⊢
  refine(CV.out _).mono ?_
  rintro _ w2 ⟨rfl,hb3⟩
  have hc2:=aa hc1 hb3
  clear j0 j1
  have d2:=ac hc2 q1
  have f0:=ab d2 0 rfl
  have z0:=ak d2 0
  have f1:=ab d2 1 rfl
  have z1:=ak d2 1
  have d3:=ag d2 0 (.int .i64 0)
  have d4:=ag d3 1 (.int .i64 0)
  have g1:=ab d3 1 rfl
  have y1:=ak d3 1
  have e0:=ab d4 0 rfl
  have e1:=ab d4 1 rfl
  have hbe:=((aa hb2 hc2).setCell (p:=⟨w.heap.size+1,0,none⟩) (show w.heap.size<=w.heap.size+1 by omega) (.int .i64 0)).setCell (p:=⟨w.heap.size+1,1,none⟩) (show w.heap.size<=w.heap.size+1 by omega) (.int .i64 0)
  clear d2 d3 d4 q0 q1 i_k
  go_wp2
  refine bodyPost_ret (v:=.tuple #[.agg #[.int .i64 0,.int .i64 0],.int .i64 1]) (by simp[results,results11,go_sem,e0,e1]) rfl ⟨rfl,hbe⟩
 ·rw[hv] at CV
  obtain⟨x,y,nx,ny,⟨ex,ey⟩,CQ⟩:=CS.out hv
  replace CQ:=ay CQ
  have CT:Hid (∀ W,aA W->Calls prog 42 #[.agg #[.float .f64 (wd x),.float .f64 (wd y)]] W fun e w'=>e=.returned (.agg #[.int .i64 (aH x),.int .i64 (aH y)])∧Below W.heap.size W w'):=fun W h=>kl nx ny W h.env.lays
  rw[ex,ey] at CT
  clear CS ex ey nx ny
  unfold mr jq
  simp only[if_true]
  generalize bM (cX (ah b))=X at *
  generalize bN (cX (ah a))=Y at *
  generalize wd x=x' at *
  generalize wd y=y' at *
  go_enter func11,ntmps11
  go_wp2_with fail
  generalize (w.alloc (.cells #[.int .i64 a,.int .i64 b] 23)).alloc (.cells #[.int .i64 0,.int .i64 0] 23)=x0 at hb2 q0 q1 ⊢
  refine(CR.out _).mono ?_
  rintro _ w1 ⟨rfl,hb1⟩
  have i_k:=a9 w1 (.cells #[.float .f64 (wd a),.float .f64 (wd b)] 64)
  have hc1:=fY hb1 (.cells #[.float .f64 (wd a),.float .f64 (wd b)] 64)
  have j0:=ab i_k 0 rfl
  have j1:=ab i_k 1 rfl
  go_wp2_with fail
  generalize w1.alloc (.cells #[.float .f64 (wd a),.float .f64 (wd b)] 64)=x1 at i_k hc1 j0 j1 ⊢
  refine(CV.out _).mono ?_
  rintro _ w2 ⟨rfl,hb3⟩
  have i_k:=ac hb3 i_k
  have hc2:=aa hc1 hb3
  have k0:=ab i_k 0 rfl
  have k1:=ab i_k 1 rfl
  clear j0 j1
  go_wp2_with fail
  refine(CQ.out _ (H.keeps (aa hb2 hc2))).mono ?_
  rintro _ w4 ⟨rfl,hb4⟩
  have hc3:=aa hc2 hb4
  go_wp2_with fail
  refine(CT.out _ (H.keeps (aa hb2 hc3))).mono ?_
  rintro _ w5 ⟨rfl,hb5⟩
  have hc4:=aa hc3 hb5
  have d2:=ac hc4 q1
  have d3:=ag d2 0 (.int .i64 X)
  have d4:=ag d3 1 (.int .i64 Y)
  have f0:=ab d2 0 rfl
  have z0:=ak d2 0
  have f1:=ab d3 1 rfl
  have z1:=ak d3 1
  have e0:=ab d4 0 rfl
  have e1:=ab d4 1 rfl
  have hbe:=((aa hb2 hc4).setCell (p:=⟨w.heap.size+1,0,none⟩) (show w.heap.size<=w.heap.size+1 by omega) (.int .i64 X)).setCell (p:=⟨w.heap.size+1,1,none⟩) (show w.heap.size<=w.heap.size+1 by omega) (.int .i64 Y)
  clear d2 d3 d4 q0 q1 i_k k0 k1
  go_wp2
  refine bodyPost_ret (v:=.tuple #[.agg #[.int .i64 X,.int .i64 Y],.int .i64 0]) (by simp[results,results11,go_sem,e0,e1]) rfl ⟨rfl,hbe⟩
theorem xp {w:World} {ng:Bool} {so:Option Addr} {sn sc:Nat} {e V:Int} (h:aX w (.agg #[.bool ng,.slice so sn sc,.int .i64 e]) V) (ok:b7 V) (H:aA w) :
  ∀ W,Below w.heap.size w W->Calls prog 14 #[.agg #[.bool ng,.slice so sn sc,.int .i64 e]] W fun r w'=>r=.returned (.tuple #[cQ (dZ V) (d6 V),.int .i64 0])∧Below W.heap.size W w':=by
 obtain⟨x,h1,rfl,rfl,h4⟩:=yE h ok H
 obtain⟨r1,r2⟩:=kj (BS h1)
 rw[<- r1,<- r2]
 clear r1 r2
 intro W hb
 ·have C1:Hid (∀ W',Below W.heap.size W W'->Calls prog 47 #[.agg #[.bool x.ng,.slice so sn sc,.int .i64 e],.int .i64 1] W' fun e w'=>e=.returned (.tuple #[.int .i64 (fx 1 x).1,.bool (fx 1 x).2,.int .i64 0])∧Below W'.heap.size W' w'):=fun W' hb'=>h4 1 W' (by omega) (aa hb hb')
  have C2:Hid (∀ W',Below W.heap.size W W'->Calls prog 47 #[.agg #[.bool x.ng,.slice so sn sc,.int .i64 e],.int .i64 2] W' fun e w'=>e=.returned (.tuple #[.int .i64 (fx 2 x).1,.bool (fx 2 x).2,.int .i64 0])∧Below W'.heap.size W' w'):=fun W' hb'=>h4 2 W' (by omega) (aa hb hb')
  unfold cQ
  generalize (fx 1 x).1=X at *
  generalize (fx 2 x).1=Y at *
  generalize (fx 1 x).2=o1 at *
  generalize (fx 2 x).2=o2 at *
  generalize x.ng=ng at *
  clear h4 h1 h
  have hb2:=ax W (.cells #[.bool ng,.slice so sn sc,.int .i64 e] 26) (.cells #[.int .i64 0,.int .i64 0] 23)
  have p0:=bv W (.cells #[.bool ng,.slice so sn sc,.int .i64 e] 26) (.cells #[.int .i64 0,.int .i64 0] 23)
  have p1:=bh W (.cells #[.bool ng,.slice so sn sc,.int .i64 e] 26) (.cells #[.int .i64 0,.int .i64 0] 23)
  go_enter func14,ntmps14
  go_wp2_with fail
  generalize (W.alloc (.cells #[.bool ng,.slice so sn sc,.int .i64 e] 26)).alloc (.cells #[.int .i64 0,.int .i64 0] 23)=wx at *
  refine(C1.out _ hb2).mono ?_
  rintro _ w1 ⟨rfl,hb3⟩
  have p01:=(hb3.block _ (aGe p0).1).trans p0
  have p11:=(hb3.block _ (aGe p1).1).trans p1
  have c0:=ab p01 0 rfl
  have c1:=ab p01 1 rfl
  have c2:=ab p01 2 rfl
  have hbw:=aa hb2 hb3
  go_wp2_with fail
  refine(C2.out _ hbw).mono ?_
  rintro _ w2 ⟨rfl,hb4⟩
  have d2:=(hb4.block _ (aGe p11).1).trans p11
  have d3:=ag d2 0 (.int .i64 X)
  have d4:=ag d3 1 (.int .i64 Y)
  have f0:=ab d2 0 rfl
  have z0:=ak d2 0
  have f1:=ab d3 1 rfl
  have z1:=ak d3 1
  have e0:=ab d4 0 rfl
  have e1:=ab d4 1 rfl
  have hbe:Below W.heap.size W ((w2.setCell ⟨W.heap.size+1,0,none⟩ (.int .i64 X)).setCell ⟨W.heap.size+1,1,none⟩ (.int .i64 Y)):=((aa hbw hb4).setCell (p:=⟨W.heap.size+1,0,none⟩) (Nat.le_succ _) _).setCell (p:=⟨W.heap.size+1,1,none⟩) (Nat.le_succ _) _
  clear p0 p1 p01 p11 c0 c1 c2 d2 d3 d4
  go_wp2
  refine bodyPost_ret (v:=.tuple #[.agg #[.int .i64 X,.int .i64 Y],.int .i64 0]) (by simp[results,results14,go_sem,e0,e1]) rfl ⟨rfl,hbe⟩
theorem sw {A B C:Int} (h:C*2^4194304=A*B):C=cW A B:=by
 unfold cW
 rw[<- h]
 exact(Int.mul_ediv_cancel _ (Int.ne_of_gt (aF _))).symm
structure tI (s t x:Int):Prop where
 lo:nn s
 hi:nn t
 h:b9 (ah s) (ah t) x
theorem tI.v {s t x:Int} (h:tI s t x):br s t=true:=h.h.vldP h.lo h.hi
theorem tI.of {lo hi b:Int} (rb:au b) (pb:aB b=true) (h1:nn lo∧aj lo<=aj b) (h2:nn hi∧aj b<=aj hi):tI lo hi (aM b) :=
 ⟨h1.1,h2.1,b9.of h1.1 h2.1 ⟨rb,cx rb pb⟩ pb h1.2 h2.2⟩
end Go.Proofs.YtkkpppgfoilgmaaGreatDoor
