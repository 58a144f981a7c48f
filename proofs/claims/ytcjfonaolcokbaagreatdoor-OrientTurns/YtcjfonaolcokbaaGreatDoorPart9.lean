/- Parts of the proof. -/
import Derived.Test.YtcjfonaolcokbaaGreatDoorPart8
set_option maxRecDepth 100000
set_option maxHeartbeats 8000000
set_option linter.unusedVariables false
set_option linter.unusedSimpArgs false
namespace Go.Proofs.YtcjfonaolcokbaaGreatDoor
open Go Go.RowKit Go.Proofs.YtcjfonaolcokbaaGreatDoor.M
theorem Lf {a b:Int} (ha:nn a) (hb:nn b) (h:au a=au b):(if (FloatKind.f64.decode (wd a)).neg then wd a else wd b)=wd (if a=b then a else -9223372036854775808):=by
 by_cases e:a=b
 ·subst e; rw [if_pos rfl]; split <;> rfl
 ·rw [if_neg e]
  rcases jT ha.1 hb.1 h e with ⟨rfl,rfl⟩ | ⟨rfl,rfl⟩
  ·rfl
  ·rfl
theorem Lg {a b:Int} (ha:nn a) (hb:nn b) (h:au a=au b):(if (FloatKind.f64.decode (wd a)).neg then wd b else wd a)=wd (if a=b then a else 0):=by
 by_cases e:a=b
 ·subst e; rw [if_pos rfl]; split <;> rfl
 ·rw [if_neg e]
  rcases jT ha.1 hb.1 h e with ⟨rfl,rfl⟩ | ⟨rfl,rfl⟩
  ·rfl
  ·rfl
theorem GM {P:Program} {a b:Int} (ha:nn a) (hb:nn b) (ts:Array TypeId) (t:TypeId) (w:World):(Builtin.min_ ts t #[.float .f64 (wd a),.float .f64 (wd b)]).run P w=.ok (.float .f64 (wd (iC a b))) w:=by
 have hf:(Builtin.min_ ts t #[.float .f64 (wd a),.float .f64 (wd b)])=(Builtin.min2 (.float .f64 (wd a)) (.float .f64 (wd b))):=by simp [Builtin.min_]
 rw [hf]
 unfold Builtin.min2 iC
 rcases Int.lt_trichotomy (au a) (au b) with h | h | h
 ·rw [if_pos h]
  simp only [fR ha.1 hb.1 ha.2 hb.2 h]
  rfl
 ·rw [if_neg (by omega),if_neg (by omega)]
  simp only [fJ ha.1 hb.1 ha.2 hb.2 h]
  rw [Lf ha hb h]
  rfl
 ·rw [if_neg (by omega),if_pos h]
  simp only [fU ha.1 hb.1 ha.2 hb.2 h]
  rfl
theorem GN {P:Program} {a b:Int} (ha:nn a) (hb:nn b) (ts:Array TypeId) (t:TypeId) (w:World):(Builtin.max_ ts t #[.float .f64 (wd a),.float .f64 (wd b)]).run P w=.ok (.float .f64 (wd (iD a b))) w:=by
 have hf:(Builtin.max_ ts t #[.float .f64 (wd a),.float .f64 (wd b)])=(Builtin.max2 (.float .f64 (wd a)) (.float .f64 (wd b))):=by simp [Builtin.max_]
 rw [hf]
 unfold Builtin.max2 iD
 rcases Int.lt_trichotomy (au a) (au b) with h | h | h
 ·rw [if_pos h]
  simp only [fR ha.1 hb.1 ha.2 hb.2 h]
  rfl
 ·rw [if_neg (by omega),if_neg (by omega)]
  simp only [fJ ha.1 hb.1 ha.2 hb.2 h]
  rw [Lg ha hb h]
  rfl
 ·rw [if_neg (by omega),if_pos h]
  simp only [fU ha.1 hb.1 ha.2 hb.2 h]
  rfl
theorem yx {a b B g o:Nat} {v x0 x1 x2 x3:Value} {W:World} (hg:B<=g) (h:(a<B∧b<B∧B<=W.heap.size)∧W.cell? ⟨a,0,none⟩=some x0∧W.cell? ⟨a,1,none⟩=some x1∧W.cell? ⟨b,0,none⟩=some x2∧W.cell? ⟨b,1,none⟩=some x3) :
  (a<B∧b<B∧B<=(W.setCell ⟨g,o,none⟩ v).heap.size)∧(W.setCell ⟨g,o,none⟩ v).cell? ⟨a,0,none⟩=some x0∧(W.setCell ⟨g,o,none⟩ v).cell? ⟨a,1,none⟩=some x1∧(W.setCell ⟨g,o,none⟩ v).cell? ⟨b,0,none⟩=some x2∧(W.setCell ⟨g,o,none⟩ v).cell? ⟨b,1,none⟩=some x3:=by
 have hw:Wr g W (W.setCell ⟨g,o,none⟩ v):=(Wr.refl g W).setCell o v
 obtain ⟨⟨h1,h2,h3⟩,a0,a1,a2,a3⟩:=h
 exact ⟨⟨h1,h2,Nat.le_trans h3 hw.size⟩,(hw.cell (show a<W.heap.size by omega) (show a≠g by omega)).trans a0,(hw.cell (show a<W.heap.size by omega) (show a≠g by omega)).trans a1,(hw.cell (show b<W.heap.size by omega) (show b≠g by omega)).trans a2,(hw.cell (show b<W.heap.size by omega) (show b≠g by omega)).trans a3⟩
theorem oY (w:World) (a b c:Obj):(((w.alloc a).alloc b).alloc c).heap[w.heap.size]?=some a∧(((w.alloc a).alloc b).alloc c).heap[w.heap.size+1]?=some b∧(((w.alloc a).alloc b).alloc c).heap[w.heap.size+2]?=some c∧(((w.alloc a).alloc b).alloc c).heap.size=w.heap.size+3∧Below w.heap.size w (((w.alloc a).alloc b).alloc c):=by
 have h:(((w.alloc a).alloc b).alloc c).heap=((w.heap.push a).push b).push c:=rfl
 rw [h]
 refine ⟨?_,?_,?_,by simp,aa (aP w a b) (ah _ _)⟩
 ·simp [Array.getElem?_push]
  omega
 ·rw [Array.getElem?_push,if_neg (by simp),Array.getElem?_push,if_pos (by simp)]
 ·rw [Array.getElem?_push,if_pos (by simp)]
theorem qt {a b c d:Int} (ha:nn a) (hb:nn b) (hc:nn c) (hd:nn d) (w:World) :
  Calls Tryz.prog 77 #[eJ a b,eJ c d] w fun e w'=>e=.returned (eJ (iC a c) (iD b d))∧Below w.heap.size w w':=by
 unfold eJ
 have RM:=fun ts t W=>GM (P:=Tryz.prog) ha hc ts t W
 have RX:=fun ts t W=>GN (P:=Tryz.prog) hb hd ts t W
 generalize wd (iC a c)=X at *
 generalize wd (iD b d)=Y at *
 generalize wd a=A at *
 generalize wd b=B at *
 generalize wd c=C at *
 generalize wd d=D at *
 obtain ⟨q0,q1,q2,hs,hb3⟩:=oY w (.cells #[.float .f64 A,.float .f64 B] 87) (.cells #[.float .f64 C,.float .f64 D] 87) (.cells #[.float .f64 0,.float .f64 0] 87)
 have k0:=ac q0 0 rfl
 have k1:=ac q0 1 rfl
 have k2:=ac q1 0 rfl
 have k3:=ac q1 1 rfl
 replace q2:(((w.alloc (.cells #[.float .f64 A,.float .f64 B] 87)).alloc (.cells #[.float .f64 C,.float .f64 D] 87)).alloc (.cells #[.float .f64 0,.float .f64 0] 87)).heap[w.heap.size+1+1]?=some (.cells #[.float .f64 0,.float .f64 0] 87 (0,0)):=q2
 go_enter Tryz.func77,Tryz.ntmps77
 go_wp2_with fail
 clear q0 q1 k0 k1 k2 k3 hs RM RX
 generalize ((w.alloc (.cells #[.float .f64 A,.float .f64 B] 87)).alloc (.cells #[.float .f64 C,.float .f64 D] 87)).alloc (.cells #[.float .f64 0,.float .f64 0] 87)=wx at *
 obtain ⟨g,hg⟩:∃ g,w.heap.size+1+1=g:=⟨_,rfl⟩
 have hwg:w.heap.size<=g:=by omega
 rw [hg] at q2
 simp only [hg]
 clear hg
 have d2:=aM q2 0 (.float .f64 X)
 have d3:=aM d2 1 (.float .f64 Y)
 have f0:=ac q2 0 rfl
 have z0:=aw q2 0
 have f1:=ac d2 1 rfl
 have z1:=aw d2 1
 have hbe:=(hb3.setCell (p:=⟨g,0,none⟩) hwg (.float .f64 X)).setCell (p:=⟨g,1,none⟩) hwg (.float .f64 Y)
 have s0:(store ⟨g,0,none⟩ (.float .f64 X)).run Tryz.prog wx=.ok () (wx.setCell ⟨g,0,none⟩ (.float .f64 X)):=by rw [run_store _ _ _ _ _ rfl,f0]; simp only [z0]; rfl
 have s1:(store ⟨g,1,none⟩ (.float .f64 Y)).run Tryz.prog (wx.setCell ⟨g,0,none⟩ (.float .f64 X))=.ok () ((wx.setCell ⟨g,0,none⟩ (.float .f64 X)).setCell ⟨g,1,none⟩ (.float .f64 Y)):=by rw [run_store _ _ _ _ _ rfl,f1]; simp only [z1]; rfl
 have e0:=ac d3 0 rfl
 have e1:=ac d3 1 rfl
 clear f0 z0 f1 z1 d2 d3 q2
 simp only [s0,s1,Result.andThen]
 go_wp2
 refine bodyPost_ret (v:=.agg #[.float .f64 X,.float .f64 Y]) (by simp [results,Tryz.results77,go_sem,e0,e1]) rfl ⟨rfl,hbe⟩
theorem oZ {p:Int} (h:nn p) (w:World) :
  Calls Tryz.prog 159 #[.float .f64 (wd p)] w fun e w'=>e=.returned (.bool false)∧w'=w:=by
 have n0:=FJ h.1
 rw [decide_eq_false h.2] at n0
 go_enter Tryz.func159,Tryz.ntmps159
 go_wp2
 go_ret
 exact ⟨rfl,rfl⟩
theorem MO (w:World) :
  Calls Tryz.prog 142 #[.int .i64 1] w fun e w'=>e=.returned (.float .f64 9218868437227405312)∧w'=w:=by
 have hd:=fm
 go_enter Tryz.func142,Tryz.ntmps142
 go_wp2
 go_ret
 exact ⟨rfl,rfl⟩
theorem JO (w:World) :
  Calls Tryz.prog 142 #[.int .i64 (-1)] w fun e w'=>e=.returned (.float .f64 18442240474082181120)∧w'=w:=by
 have hd:=fm
 go_enter Tryz.func142,Tryz.ntmps142
 go_wp2
 go_ret
 exact ⟨rfl,rfl⟩
theorem Lh (w:World) :
  Calls Tryz.prog 161 #[.float .f64 1,.float .f64 9218868437227405312] w fun e w'=>e=.returned (.float .f64 1)∧w'=w:=by
 have hd:=fm
 have hb:=ig
 have e1:bits .andNot .u64 1 9223372036854775808=1:=by decide
 have e2:bits .and .u64 9218868437227405312 9223372036854775808=0:=by decide
 have e3:bits .or .u64 1 0=1:=by decide
 go_enter Tryz.func161,Tryz.ntmps161
 go_wp2
 go_ret
 exact ⟨rfl,rfl⟩
theorem GO (w:World) :
  Calls Tryz.prog 161 #[.float .f64 1,.float .f64 18442240474082181120] w fun e w'=>e=.returned (.float .f64 9223372036854775809)∧w'=w:=by
 have hd:=fm
 have hb:=ig
 have e1:bits .andNot .u64 1 9223372036854775808=1:=by decide
 have e2:bits .and .u64 18442240474082181120 9223372036854775808=9223372036854775808:=by decide
 have e3:bits .or .u64 1 9223372036854775808=9223372036854775809:=by decide
 go_enter Tryz.func161,Tryz.ntmps161
 go_wp2
 go_ret
 exact ⟨rfl,rfl⟩
theorem Li {p:Int} (h:nn p) (w:World) :
  Calls Tryz.prog 141 #[.float .f64 (wd p),.float .f64 9218868437227405312] w fun e w'=>e=.returned (.float .f64 (wd (next p)))∧w'=w:=by
 have hd:=fm
 have hbt:=ig
 have ey:wd 9218868437227405312=9218868437227405312:=by decide
 have ny:nn 9218868437227405312:=⟨by unfold aj; omega,by decide⟩
 have ky:au 9218868437227405312=9218868437227405312:=by decide
 have n0:nn 0:=jx.1
 have k0:au 0=0:=by decide
 have e0:wd 0=0:=by decide
 have hr:=h.1
 unfold aj at hr
 have CX:Hid (∀ W,Calls Tryz.prog 159 #[.float .f64 (wd p)] W fun e w'=>e=.returned (.bool false)∧w'=W):=fun W=>oZ h W
 have CY:Hid (∀ W,Calls Tryz.prog 159 #[.float .f64 9218868437227405312] W fun e w'=>e=.returned (.bool false)∧w'=W):=fun W=>by rw [<- ey]; exact oZ ny W
 have hw:=xS p
 by_cases a1:p=9218868437227405312
 ·subst a1
  have o1:=fJ h.1 ny.1 h.2 ny.2 rfl
  rw [ey] at o1 CX ⊢
  clear hr
  go_enter Tryz.func141,Tryz.ntmps141
  go_wp2_with fail
  refine (CX.out _).mono ?_
  rintro _ _ ⟨rfl,rfl⟩
  go_wp2_with fail
  refine (CY.out _).mono ?_
  rintro _ _ ⟨rfl,rfl⟩
  go_wp2
  go_ret
  exact ⟨fE (by first | rfl | (rw [xD,ey]) | (rw [xD]; exact ey.symm)),rfl⟩
 have kp:au p<9218868437227405312:=by
  have h4:=jC h.2
  unfold au bN cf at *
  split <;> omega
 have o1:=fR h.1 ny.1 h.2 ny.2 (by rw [ky]; exact kp)
 have o2:=fU ny.1 h.1 ny.2 h.2 (by rw [ky]; exact kp)
 rw [ey] at o1 o2
 rcases Int.lt_trichotomy (au p) 0 with g | g | g
 ·have o3:=fR h.1 n0.1 h.2 n0.2 (by rw [k0]; exact g)
  rw [e0] at o3
  have hp:p<0∧p ≠ -9223372036854775808:=by unfold au at g; split at g <;> omega
  have hn:next p=p-1:=by unfold next; rw [if_neg h.2,if_neg a1,if_neg hp.2,if_pos hp.1]
  have hv:wd (p-1)=wd p-1∧1<=wd p:=by unfold wd; omega
  clear hr
  go_enter Tryz.func141,Tryz.ntmps141
  go_wp2_with fail
  refine (CX.out _).mono ?_
  rintro _ _ ⟨rfl,rfl⟩
  go_wp2_with fail
  refine (CY.out _).mono ?_
  rintro _ _ ⟨rfl,rfl⟩
  go_wp2
  go_ret
  exact ⟨fE (by rw [hn,hv.1]),rfl⟩
 ·have o3:=fJ h.1 n0.1 h.2 n0.2 (by rw [k0]; exact g)
  rw [e0] at o3
  have hp:p=0∨p=-9223372036854775808:=by unfold au at g; split at g <;> omega
  have hn:next p=1:=by rcases hp with rfl | rfl <;> decide
  have e1:wd 1=1:=by decide
  clear hr
  go_enter Tryz.func141,Tryz.ntmps141
  go_wp2_with fail
  refine (CX.out _).mono ?_
  rintro _ _ ⟨rfl,rfl⟩
  go_wp2_with fail
  refine (CY.out _).mono ?_
  rintro _ _ ⟨rfl,rfl⟩
  go_wp2_with (go_at_call 161; refine (Lh _).mono ?_; rintro _ _ ⟨rfl,rfl⟩)
  go_ret
  exact ⟨fE (by rw [hn]; exact e1.symm),rfl⟩
 ·have o3:=fU h.1 n0.1 h.2 n0.2 (by rw [k0]; exact g)
  rw [e0] at o3
  have hp:0<p:=by unfold au at g; split at g <;> omega
  have hn:next p=p+1:=by unfold next; rw [if_neg h.2,if_neg a1,if_neg (by omega),if_neg (by omega)]
  have hv:wd (p+1)=wd p+1∧wd p<9223372036854775808:=by unfold wd; unfold au at kp; split at kp <;> omega
  clear hr
  go_enter Tryz.func141,Tryz.ntmps141
  go_wp2_with fail
  refine (CX.out _).mono ?_
  rintro _ _ ⟨rfl,rfl⟩
  go_wp2_with fail
  refine (CY.out _).mono ?_
  rintro _ _ ⟨rfl,rfl⟩
  go_wp2
  go_ret
  exact ⟨fE (by rw [hn,hv.1]),rfl⟩
theorem mQ {p:Int} (h:nn p) (a1:¬ p=-4503599627370496):dg p=if p=0∨p=-9223372036854775808 then -9223372036854775807 else if p<0 then p+1 else p-1:=by
 have hr:=h.1
 have h4:=jC h.2
 unfold aj at hr
 by_cases z:p=0∨p=-9223372036854775808
 ·rw [if_pos z]; rcases z with rfl | rfl <;> decide
 rw [if_neg z]
 obtain ⟨n1,k1⟩:=fj h
 have e1:neg p=if p<0 then p+9223372036854775808 else p-9223372036854775808:=by unfold neg; rw [if_neg h.2]
 have i1:¬ neg p=9218868437227405312:=by rw [e1]; split <;> omega
 obtain ⟨_,n2,_,_⟩:=sw n1.1 n1.2 i1
 have e2:next (neg p)=if neg p<0 then neg p-1 else neg p+1:=by unfold next; rw [if_neg n1.2,if_neg i1,if_neg (by rw [e1]; split <;> omega)]
 unfold dg
 unfold neg
 rw [if_neg (by exact n2)]
 show (if next (neg p)<0 then next (neg p)+9223372036854775808 else next (neg p)-9223372036854775808)=_
 rw [e2,e1]
 unfold bN cf at h4
 repeat' split
 all_goals omega
theorem GR {p:Int} (h:nn p) (w:World) :
  Calls Tryz.prog 141 #[.float .f64 (wd p),.float .f64 18442240474082181120] w fun e w'=>e=.returned (.float .f64 (wd (dg p)))∧w'=w:=by
 have hd:=fm
 have hbt:=ig
 have ey:wd (-4503599627370496)=18442240474082181120:=by decide
 have ny:nn (-4503599627370496):=⟨by unfold aj; omega,by decide⟩
 have ky:au (-4503599627370496)=-9218868437227405312:=by decide
 have n0:nn 0:=jx.1
 have k0:au 0=0:=by decide
 have e0:wd 0=0:=by decide
 have hr:=h.1
 unfold aj at hr
 have CX:Hid (∀ W,Calls Tryz.prog 159 #[.float .f64 (wd p)] W fun e w'=>e=.returned (.bool false)∧w'=W):=fun W=>oZ h W
 have CY:Hid (∀ W,Calls Tryz.prog 159 #[.float .f64 18442240474082181120] W fun e w'=>e=.returned (.bool false)∧w'=W):=fun W=>by rw [<- ey]; exact oZ ny W
 have hw:=xS p
 by_cases a1:p=-4503599627370496
 ·subst a1
  have o1:=fJ h.1 ny.1 h.2 ny.2 rfl
  rw [ey] at o1 CX ⊢
  clear hr
  go_enter Tryz.func141,Tryz.ntmps141
  go_wp2_with fail
  refine (CX.out _).mono ?_
  rintro _ _ ⟨rfl,rfl⟩
  go_wp2_with fail
  refine (CY.out _).mono ?_
  rintro _ _ ⟨rfl,rfl⟩
  go_wp2
  go_ret
  exact ⟨fE (by rw [show dg (-4503599627370496)=-4503599627370496 by decide]; exact ey.symm),rfl⟩
 have kp:-9218868437227405312<au p:=by
  have h4:=jC h.2
  unfold au bN cf at *
  split <;> omega
 have o1:=fU h.1 ny.1 h.2 ny.2 (by rw [ky]; exact kp)
 have o2:=fR ny.1 h.1 ny.2 h.2 (by rw [ky]; exact kp)
 rw [ey] at o1 o2
 rcases Int.lt_trichotomy (au p) 0 with g | g | g
 ·have o3:=fR h.1 n0.1 h.2 n0.2 (by rw [k0]; exact g)
  rw [e0] at o3
  have hp:p<0∧p ≠ -9223372036854775808:=by unfold au at g; split at g <;> omega
  have hn:dg p=p+1:=by have:=xC h.1 h.2 a1; have hq:=mQ h a1; rw [hq,if_neg (by omega),if_pos hp.1]
  have hv:wd (p+1)=wd p+1∧wd p<18446744073709551615:=by unfold wd; unfold au at kp; split at kp <;> omega
  clear hr
  go_enter Tryz.func141,Tryz.ntmps141
  go_wp2_with fail
  refine (CX.out _).mono ?_
  rintro _ _ ⟨rfl,rfl⟩
  go_wp2_with fail
  refine (CY.out _).mono ?_
  rintro _ _ ⟨rfl,rfl⟩
  go_wp2
  go_ret
  exact ⟨fE (by rw [hn,hv.1]),rfl⟩
 ·have o3:=fJ h.1 n0.1 h.2 n0.2 (by rw [k0]; exact g)
  rw [e0] at o3
  have hp:p=0∨p=-9223372036854775808:=by unfold au at g; split at g <;> omega
  have hn:dg p=-9223372036854775807:=by rcases hp with rfl | rfl <;> decide
  have e1:wd (-9223372036854775807)=9223372036854775809:=by decide
  clear hr
  go_enter Tryz.func141,Tryz.ntmps141
  go_wp2_with fail
  refine (CX.out _).mono ?_
  rintro _ _ ⟨rfl,rfl⟩
  go_wp2_with fail
  refine (CY.out _).mono ?_
  rintro _ _ ⟨rfl,rfl⟩
  go_wp2_with (go_at_call 161; refine (GO _).mono ?_; rintro _ _ ⟨rfl,rfl⟩)
  go_ret
  exact ⟨fE (by rw [hn]; exact e1.symm),rfl⟩
 ·have o3:=fU h.1 n0.1 h.2 n0.2 (by rw [k0]; exact g)
  rw [e0] at o3
  have hp:0<p:=by unfold au at g; split at g <;> omega
  have hn:dg p=p-1:=by rw [mQ h a1,if_neg (by omega),if_neg (by omega)]
  have hv:wd (p-1)=wd p-1∧1<=wd p:=by unfold wd; omega
  clear hr
  go_enter Tryz.func141,Tryz.ntmps141
  go_wp2_with fail
  refine (CX.out _).mono ?_
  rintro _ _ ⟨rfl,rfl⟩
  go_wp2_with fail
  refine (CY.out _).mono ?_
  rintro _ _ ⟨rfl,rfl⟩
  go_wp2
  go_ret
  exact ⟨fE (by rw [hn,hv.1]),rfl⟩
theorem BU {p:Int} (h:nn p) (l:Nat) (o:FloatKind.f64.format.order l 0=some .lt) (w:World) :
  Calls Tryz.prog 112 #[.float .f64 (wd p),.float .f64 l] w fun e w'=>e=.returned (.agg #[.float .f64 (wd (dg p)),.float .f64 (wd p)])∧w'=w.alloc (.cells #[.float .f64 (wd (dg p)),.float .f64 (wd p)] 87):=by
 have hst:∀ (p:Addr) (n:Nat) (m:Mode) (w:World),(store p (.float .f64 n) m).run Tryz.prog w=stored Tryz.prog w p (.float .f64 n) m:=fun p n m w=>run_store _ w p _ m rfl
 have CI:Hid (∀ W,Calls Tryz.prog 142 #[.int .i64 (-1)] W fun e w'=>e=.returned (.float .f64 18442240474082181120)∧w'=W):=fun W=>JO W
 have CN:Hid (∀ W,Calls Tryz.prog 141 #[.float .f64 (wd p),.float .f64 18442240474082181120] W fun e w'=>e=.returned (.float .f64 (wd (dg p)))∧w'=W):=fun W=>GR h W
 have hg:(w.alloc (.cells #[.float .f64 (wd (dg p)),.float .f64 (wd p)] 87)).heap[w.heap.size]?=some (.cells #[.float .f64 (wd (dg p)),.float .f64 (wd p)] 87 (0,0)):=by show (w.heap.push _)[w.heap.size]?=_; simp
 have e0:=ac hg 0 rfl
 have e1:=ac hg 1 rfl
 clear h
 go_enter Tryz.func112,Tryz.ntmps112
 go_wp2_with fail
 refine (CI.out _).mono ?_
 rintro _ _ ⟨rfl,rfl⟩
 go_wp2_with fail
 refine (CN.out _).mono ?_
 rintro _ _ ⟨rfl,rfl⟩
 go_wp2
 refine bodyPost_ret (v:=.agg #[.float .f64 (wd (dg p)),.float .f64 (wd p)]) (by simp [results,Tryz.results112,go_sem,e0,e1]) rfl ⟨rfl,rfl⟩
theorem GT {p:Int} (h:nn p) (l:Nat) (o:FloatKind.f64.format.order l 0=some .gt) (w:World) :
  Calls Tryz.prog 112 #[.float .f64 (wd p),.float .f64 l] w fun e w'=>e=.returned (.agg #[.float .f64 (wd p),.float .f64 (wd (next p))])∧w'=w.alloc (.cells #[.float .f64 (wd p),.float .f64 (wd (next p))] 87):=by
 have hst:∀ (p:Addr) (n:Nat) (m:Mode) (w:World),(store p (.float .f64 n) m).run Tryz.prog w=stored Tryz.prog w p (.float .f64 n) m:=fun p n m w=>run_store _ w p _ m rfl
 have CI:Hid (∀ W,Calls Tryz.prog 142 #[.int .i64 1] W fun e w'=>e=.returned (.float .f64 9218868437227405312)∧w'=W):=fun W=>MO W
 have CN:Hid (∀ W,Calls Tryz.prog 141 #[.float .f64 (wd p),.float .f64 9218868437227405312] W fun e w'=>e=.returned (.float .f64 (wd (next p)))∧w'=W):=fun W=>Li h W
 have hg:(w.alloc (.cells #[.float .f64 (wd p),.float .f64 (wd (next p))] 87)).heap[w.heap.size]?=some (.cells #[.float .f64 (wd p),.float .f64 (wd (next p))] 87 (0,0)):=by show (w.heap.push _)[w.heap.size]?=_; simp
 have e0:=ac hg 0 rfl
 have e1:=ac hg 1 rfl
 clear h
 go_enter Tryz.func112,Tryz.ntmps112
 go_wp2_with fail
 refine (CI.out _).mono ?_
 rintro _ _ ⟨rfl,rfl⟩
 go_wp2_with fail
 refine (CN.out _).mono ?_
 rintro _ _ ⟨rfl,rfl⟩
 go_wp2
 refine bodyPost_ret (v:=.agg #[.float .f64 (wd p),.float .f64 (wd (next p))]) (by simp [results,Tryz.results112,go_sem,e0,e1]) rfl ⟨rfl,rfl⟩
theorem BV (p l:Nat) (o:FloatKind.f64.format.order l 0=some .eq∨FloatKind.f64.format.order l 0=none) (w:World) :
  Calls Tryz.prog 112 #[.float .f64 p,.float .f64 l] w fun e w'=>e=.returned (.agg #[.float .f64 p,.float .f64 p])∧w'=w.alloc (.cells #[.float .f64 p,.float .f64 p] 87):=by
 have hst:∀ (p:Addr) (n:Nat) (m:Mode) (w:World),(store p (.float .f64 n) m).run Tryz.prog w=stored Tryz.prog w p (.float .f64 n) m:=fun p n m w=>run_store _ w p _ m rfl
 have hg:(w.alloc (.cells #[.float .f64 p,.float .f64 p] 87)).heap[w.heap.size]?=some (.cells #[.float .f64 p,.float .f64 p] 87 (0,0)):=by show (w.heap.push _)[w.heap.size]?=_; simp
 have e0:=ac hg 0 rfl
 have e1:=ac hg 1 rfl
 rcases o with o | o
 all_goals
  go_enter Tryz.func112,Tryz.ntmps112
  go_wp2
  refine bodyPost_ret (v:=.agg #[.float .f64 p,.float .f64 p]) (by simp [results,Tryz.results112,go_sem,e0,e1]) rfl ⟨rfl,rfl⟩
theorem kO {P:Program} (t:TypeId) {p q:Int} {x y:Nat} (hx:FW p x) (hy:FW q y) (h:aG (ap p q)≠4) (w:World) :
  (binOp .add t (.float .f64 x) (.float .f64 y)).run P w=.ok (.float .f64 (wd (ap p q))) w:=by
 obtain ⟨z,w',hr,hz⟩:=jd (P:=P) .add (.inl rfl) t x y w
 have hf:floatBits .add .f64 x y=Ieee.double.add x y:=rfl
 rw [hf] at hz
 rcases xJ hx hy with ⟨z',e1,e2⟩ | ⟨e1,e2⟩
 ·rcases hz with ⟨h1,h2⟩ | ⟨h1,_⟩
  ·rw [e1] at h1; cases h1
   rw [hr,h2,(e2.of h).2.1]
  ·rw [e1] at h1; cases h1
 ·exact absurd (by rw [e2]; exact iT) h
theorem gB {P:Program} (t:TypeId) {p q:Int} {x y:Nat} (hx:FW p x) (hy:FW q y) (h:aG (ap p (neg q))≠4) (w:World) :
  (binOp .sub t (.float .f64 x) (.float .f64 y)).run P w=.ok (.float .f64 (wd (ap p (neg q)))) w:=by
 obtain ⟨z,w',hr,hz⟩:=jd (P:=P) .sub (.inr (.inl rfl)) t x y w
 have hf:floatBits .sub .f64 x y=Ieee.double.sub x y:=rfl
 rw [hf] at hz
 rcases DG hx hy with ⟨z',e1,e2⟩ | ⟨e1,e2⟩
 ·rcases hz with ⟨h1,h2⟩ | ⟨h1,_⟩
  ·rw [e1] at h1; cases h1
   rw [hr,h2,(e2.of h).2.1]
  ·rw [e1] at h1; cases h1
 ·exact absurd (by rw [e2]; exact iT) h
theorem GU {l:Int} {L:Nat} (h:FW l L):(bE l 0=true->FloatKind.f64.format.order L 0=some .lt)∧(bE 0 l=true->FloatKind.f64.format.order L 0=some .gt)∧(bE l 0=false->bE 0 l=false->FloatKind.f64.format.order L 0=some .eq∨FloatKind.f64.format.order L 0=none):=by
 have n0:=jx.1
 have k0:au 0=0:=by decide
 have e0:wd 0=0:=by decide
 have c0:¬ aG 0=4:=by decide
 by_cases h4:aG l=4
 ·have ho:FloatKind.f64.format.order L 0=none:=by
   rcases h with ⟨a,_,_⟩ | ⟨rfl,hN⟩
   ·exact absurd h4 a
   ·exact vj Ieee.double Cr L 0 (.inl (by rw [mc,ie]; exact hN.2))
  have l1:bE l 0=false:=by unfold bE; simp [h4]
  have l2:bE 0 l=false:=by unfold bE; simp [h4]
  exact ⟨fun h=>by (rw [l1] at h; cases h),fun h=>by (rw [l2] at h; cases h),fun _ _=>.inr ho⟩
 ·obtain ⟨hr,rfl,_,_⟩:=h.of h4
  have l1:bE l 0=decide (au l<0):=by unfold bE; simp [h4,c0,k0]
  have l2:bE 0 l=decide (0<au l):=by unfold bE; simp [h4,c0,k0]
  rw [l1,l2]
  refine ⟨fun g=>?_,fun g=>?_,fun g1 g2=>?_⟩
  ·have:=fR hr n0.1 h4 n0.2 (by rw [k0]; exact of_decide_eq_true g)
   rwa [e0] at this
  ·have:=fU hr n0.1 h4 n0.2 (by rw [k0]; exact of_decide_eq_true g)
   rwa [e0] at this
  ·have g1':=of_decide_eq_false g1
   have g2':=of_decide_eq_false g2
   have:=fJ hr n0.1 h4 n0.2 (by rw [k0]; omega)
   rw [e0] at this
   exact .inl this
def dw (n l:Int):Int:=if bE l 0 then dg n else n
def dz (n l:Int):Int:=if bE l 0 then n else if bE 0 l then next n else n
theorem tO {n l:Int} {L:Nat} (hn:nn n) (hl:FW l L) (w:World) :
  Calls Tryz.prog 112 #[.float .f64 (wd n),.float .f64 L] w fun e w'=>e=.returned (.agg #[.float .f64 (wd (dw n l)),.float .f64 (wd (dz n l))])∧Below w.heap.size w w':=by
 obtain ⟨o1,o2,o3⟩:=GU hl
 unfold dw dz
 cases h1:bE l 0
 ·cases h2:bE 0 l
  ·exact (BV (wd n) L (o3 h1 h2) w).mono fun _ _ ⟨a,b⟩=>⟨a,by rw [b]; exact ah _ _⟩
  ·exact (GT hn L (o2 h2) w).mono fun _ _ ⟨a,b⟩=>⟨a,by rw [b]; exact ah _ _⟩
 ·exact (BU hn L (o1 h1) w).mono fun _ _ ⟨a,b⟩=>⟨a,by rw [b]; exact ah _ _⟩
theorem rD (w:World) (o:Obj):(w.alloc o).heap[w.heap.size]?=some o:=by
 show (w.heap.push o)[w.heap.size]?=_
 simp
def dF (p q:Int):Int:=if rg p<rg q then q else p
def iH (p q:Int):Int:=if rg p<rg q then p else q
def bI (p q:Int):Int:=ap (dF p q) (iH p q)
def c8 (p q:Int):Int:=ap (iH p q) (neg (ap (bI p q) (neg (dF p q))))
theorem yy {p q x y n l:Int} (hp:nn p) (hq:nn q) (hx:nn x) (hy:nn y) (hn:nn n) (en:n=ap x y) (el:l=ap y (neg (ap n (neg x)))) (w:World)
  (hsw:(FloatKind.f64.format.order (wd (rg p)) (wd (rg q))=some .lt∧x=q∧y=p)∨((FloatKind.f64.format.order (wd (rg p)) (wd (rg q))=some .gt∨FloatKind.f64.format.order (wd (rg p)) (wd (rg q))=some .eq)∧x=p∧y=q)) :
  Calls Tryz.prog 115 #[.float .f64 (wd p),.float .f64 (wd q)] w fun e w'=>e=.returned (.agg #[.float .f64 (wd (dw n l)),.float .f64 (wd (dz n l))])∧Below w.heap.size w w':=by
 have CP:Hid (∀ W,Calls Tryz.prog 21 #[.float .f64 (wd p)] W fun e w'=>e=.returned (.float .f64 (wd (rg p)))∧w'=W):=fun W=>cr hp.1 W
 have CQ:Hid (∀ W,Calls Tryz.prog 21 #[.float .f64 (wd q)] W fun e w'=>e=.returned (.float .f64 (wd (rg q)))∧w'=W):=fun W=>cr hq.1 W
 have fx:FW x (wd x):=.inl ⟨hx.2,hx.1,rfl⟩
 have fy:FW y (wd y):=.inl ⟨hy.2,hy.1,rfl⟩
 have fn:FW n (wd n):=.inl ⟨hn.2,hn.1,rfl⟩
 have h1:∀ W,(binOp .add 47 (.float .f64 (wd x)) (.float .f64 (wd y))).run Tryz.prog W=.ok (.float .f64 (wd n)) W:=fun W=>by rw [en]; exact kO _ fx fy (by rw [<- en]; exact hn.2) W
 have hg:=rD w (.cells #[.float .f64 0,.float .f64 0] 87)
 have hba:=ah w (.cells #[.float .f64 0,.float .f64 0] 87)
 obtain ⟨D,W1,r1,fD,hW1⟩:=cA (P:=Tryz.prog) 47 fn fx (w.alloc (.cells #[.float .f64 0,.float .f64 0] 87))
 obtain ⟨L,W2,r2,fL,hW2⟩:=cA (P:=Tryz.prog) 47 fy fD W1
 rw [<- el] at fL
 have b1:Below (w.alloc (.cells #[.float .f64 0,.float .f64 0] 87)).heap.size (w.alloc (.cells #[.float .f64 0,.float .f64 0] 87)) W1:=by
  rcases hW1 with rfl | rfl
  ·exact aA _
  ·exact (aA _).drew
 have b2:Below W1.heap.size W1 W2:=by
  rcases hW2 with rfl | rfl
  ·exact aA _
  ·exact (aA _).drew
 have CB:Hid (∀ W,Calls Tryz.prog 112 #[.float .f64 (wd n),.float .f64 L] W fun e w'=>e=.returned (.agg #[.float .f64 (wd (dw n l)),.float .f64 (wd (dz n l))])∧Below W.heap.size W w'):=fun W=>tO hn fL W
 generalize wd (dw n l)=U at *
 generalize wd (dz n l)=V at *
 clear fx fy fn fD fL hW1 hW2 en el hx hy hn hp hq
 have fin:∀ (w3:World),Below W2.heap.size W2 w3->(store ⟨w.heap.size,0,none⟩ (.float .f64 U)).run Tryz.prog w3=.ok () (w3.setCell ⟨w.heap.size,0,none⟩ (.float .f64 U))∧(store ⟨w.heap.size,1,none⟩ (.float .f64 V)).run Tryz.prog (w3.setCell ⟨w.heap.size,0,none⟩ (.float .f64 U))=.ok () ((w3.setCell ⟨w.heap.size,0,none⟩ (.float .f64 U)).setCell ⟨w.heap.size,1,none⟩ (.float .f64 V))∧((w3.setCell ⟨w.heap.size,0,none⟩ (.float .f64 U)).setCell ⟨w.heap.size,1,none⟩ (.float .f64 V)).cell? ⟨w.heap.size,0,none⟩=some (.float .f64 U)∧((w3.setCell ⟨w.heap.size,0,none⟩ (.float .f64 U)).setCell ⟨w.heap.size,1,none⟩ (.float .f64 V)).cell? ⟨w.heap.size,1,none⟩=some (.float .f64 V)∧Below w.heap.size w ((w3.setCell ⟨w.heap.size,0,none⟩ (.float .f64 U)).setCell ⟨w.heap.size,1,none⟩ (.float .f64 V)):=by
  intro w3 hb3
  have hbb:=aa b1 (aa b2 hb3)
  have d2:=(hbb.block _ (Array.getElem?_eq_some_iff.1 hg).1).trans hg
  have d3:=aM d2 0 (.float .f64 U)
  have d4:=aM d3 1 (.float .f64 V)
  have f0:=ac d2 0 rfl
  have z0:=aw d2 0
  have f1:=ac d3 1 rfl
  have z1:=aw d3 1
  refine ⟨?_,?_,ac d4 0 rfl,ac d4 1 rfl,?_⟩
  ·rw [run_store _ _ _ _ _ rfl,f0]; simp only [z0]; rfl
  ·rw [run_store _ _ _ _ _ rfl,f1]; simp only [z1]; rfl
  ·exact ((aa hba hbb).setCell (p:=⟨w.heap.size,0,none⟩) (Nat.le_refl _) _).setCell (p:=⟨w.heap.size,1,none⟩) (Nat.le_refl _) _
 have FIN:=cH fin
 clear fin b1 b2 hba hg
 rcases hsw with ⟨o,rfl,rfl⟩ | ⟨o | o,rfl,rfl⟩
 all_goals
  go_enter Tryz.func115,Tryz.ntmps115
  go_wp2_with fail
  refine (CP.out _).mono ?_
  rintro _ _ ⟨rfl,rfl⟩
  go_wp2_with fail
  refine (CQ.out _).mono ?_
  rintro _ _ ⟨rfl,rfl⟩
  go_wp2_with fail
  refine (CB.out _).mono ?_
  rintro _ w3 ⟨rfl,hb3⟩
  obtain ⟨s0,s1,e0,e1,hbe⟩:=FIN.out w3 hb3
  go_wp2
  refine bodyPost_ret (v:=.agg #[.float .f64 U,.float .f64 V]) (by simp [results,Tryz.results115,go_sem,e0,e1]) rfl ⟨rfl,hbe⟩
theorem AJ {p q:Int} (hp:nn p) (hq:nn q) (hn:nn (bI p q)) (w:World) :
  Calls Tryz.prog 115 #[.float .f64 (wd p),.float .f64 (wd q)] w fun e w'=>e=.returned (eJ (dw (bI p q) (c8 p q)) (dz (bI p q) (c8 p q)))∧Below w.heap.size w w':=by
 obtain ⟨a1,a2⟩:=fQ hp.1
 obtain ⟨b1,b2⟩:=fQ hq.1
 have ca:¬ aG (rg p)=4:=by rw [mO hp.1]; exact hp.2
 have cb:¬ aG (rg q)=4:=by rw [mO hq.1]; exact hq.2
 have ka:=lL a2
 have kb:=lL b2
 by_cases h:rg p<rg q
 ·have ex:dF p q=q:=if_pos h
  have ey:iH p q=p:=if_pos h
  refine yy hp hq hq hp hn (by unfold bI; rw [ex,ey]) (by unfold c8; rw [ex,ey]) w (.inl ⟨fR a1 b1 ca cb (by rw [ka,kb]; exact h),rfl,rfl⟩)
 ·have ex:dF p q=p:=if_neg h
  have ey:iH p q=q:=if_neg h
  refine yy hp hq hp hq hn (by unfold bI; rw [ex,ey]) (by unfold c8; rw [ex,ey]) w (.inr ⟨?_,rfl,rfl⟩)
  by_cases e:rg p=rg q
  ·exact .inr (fJ a1 b1 ca cb (by rw [ka,kb]; exact e))
  ·exact .inl (fU a1 b1 ca cb (by rw [ka,kb]; omega))
theorem Ix {p q:Int} (h:rg p<=rg q) (hp:0<=rg p):(iV p).natAbs<=(iV q).natAbs:=by
 have a:=ix p
 have b:=ix q
 have c:=uI (show (rg p).toNat<=(rg q).toNat by omega)
 omega
theorem GV {p q:Int} (hp:aj p) (hq:aj q) (pp:ak p=true) (pq:ak q=true) (hf:ak (bI p q)=true):ak (c8 p q)=true∧iV (bI p q)+iV (c8 p q)=iV p+iV q:=by
 by_cases h:rg p<rg q
 ·have ex:dF p q=q:=if_pos h
  have ey:iH p q=p:=if_pos h
  unfold c8 bI at *
  rw [ex,ey] at hf ⊢
  obtain ⟨a,b⟩:=nL hq hp pq pp hf (Ix (by omega) (fQ hp).2)
  exact ⟨a,by unfold fL at b; omega⟩
 ·have ex:dF p q=p:=if_neg h
  have ey:iH p q=q:=if_neg h
  unfold c8 bI at *
  rw [ex,ey] at hf ⊢
  obtain ⟨a,b⟩:=nL hp hq pp pq hf (Ix (by omega) (fQ hq).2)
  exact ⟨a,by unfold fL at b; omega⟩
theorem o6 {r:Nat}:(V Ieee.double r:Int)=0 ↔ r=0:=by
 constructor
 ·intro h
  by_cases h0:r=0
  ·exact h0
  ·have:=j9 Ieee.double (show 0<r by omega)
   rw [nD] at this
   omega
 ·rintro rfl
  rw [nD]
  rfl
theorem my {p:Int} (hp:aj p):(iV p<0 ↔ au p<0)∧(0<iV p ↔ 0<au p):=by
 have hz:=@o6 (rg p).toNat
 have hr:=fQ hp
 unfold aj at hp
 have hv:(0:Int)<=(V Ieee.double (rg p).toNat:Int):=by omega
 by_cases h:p<0
 ·have e1:iV p=-(V Ieee.double (rg p).toNat:Int):=by unfold iV sg; simp [h]
  have e2:au p=-(rg p):=by unfold au rg; rw [if_pos h,if_pos h]
  rw [e1,e2]
  constructor <;> constructor <;> intro g <;> omega
 ·have e1:iV p=(V Ieee.double (rg p).toNat:Int):=by unfold iV sg; simp [h]
  have e2:au p=rg p:=by unfold au rg; rw [if_neg h,if_neg h]
  rw [e1,e2]
  constructor <;> constructor <;> intro g <;> omega
theorem uX {p q:Int} (hp:aj p) (hq:aj q) (h:au p<au q):iV p<iV q:=by
 have rp:=fQ hp
 have rq:=fQ hq
 have ep:iV p=if p<0 then -(V Ieee.double (rg p).toNat:Int) else (V Ieee.double (rg p).toNat:Int):=by unfold iV sg; by_cases g:p<0 <;> simp [g]
 have eq':iV q=if q<0 then -(V Ieee.double (rg q).toNat:Int) else (V Ieee.double (rg q).toNat:Int):=by unfold iV sg; by_cases g:q<0 <;> simp [g]
 have kp:au p=if p<0 then -(rg p) else rg p:=by unfold au rg; by_cases g:p<0 <;> simp [g]
 have kq:au q=if q<0 then -(rg q) else rg q:=by unfold au rg; by_cases g:q<0 <;> simp [g]
 have zp:=@o6 (rg p).toNat
 have zq:=@o6 (rg q).toNat
 have m1:rg p<rg q->(V Ieee.double (rg p).toNat:Int)<V Ieee.double (rg q).toNat:=fun g=>by
  have:=j9 Ieee.double (show (rg p).toNat<(rg q).toNat by omega)
  omega
 have m2:rg q<rg p->(V Ieee.double (rg q).toNat:Int)<V Ieee.double (rg p).toNat:=fun g=>by
  have:=j9 Ieee.double (show (rg q).toNat<(rg p).toNat by omega)
  omega
 rw [kp,kq] at h
 rw [ep,eq']
 have hA0:(0:Int)<=(V Ieee.double (rg p).toNat:Int):=by omega
 have hB0:(0:Int)<=(V Ieee.double (rg q).toNat:Int):=by omega
 clear ep eq' kp kq
 generalize (V Ieee.double (rg p).toNat:Int)=A at *
 generalize (V Ieee.double (rg q).toNat:Int)=B at *
 by_cases a:p<0 <;> by_cases b:q<0 <;> simp only [a,b,if_true,if_false] at h ⊢ <;> omega
theorem JP {n S:Int} (hn:nn n) (hi:¬ n=-4503599627370496) (hp:aj (dg n)) (h:Nr S (iV n)) (g:S<iV n):iV (dg n)<=S:=by
 obtain ⟨k1,_⟩:=xC hn.1 hn.2 hi
 have m:=uX hp hn.1 (by omega)
 have:=h.2 (iV (dg n)) (dE _)
 omega
theorem JQ {n S:Int} (hn:nn n) (hi:¬ n=9218868437227405312) (hp:aj (next n)) (h:Nr S (iV n)) (g:iV n<S):S<=iV (next n):=by
 obtain ⟨k1,_,_,_⟩:=sw hn.1 hn.2 hi
 have m:=uX hn.1 hp (by omega)
 have:=h.2 (iV (next n)) (dE _)
 omega
theorem Ex {p:Int} (h:aj p):aj (dg p):=by unfold dg; exact i4 (rV (i4 h))
theorem Ey {p q:Int} (hp:aj p) (hq:aj q) (pp:ak p=true) (pq:ak q=true) (hf:ak (bI p q)=true) (hn:nn (bI p q)) :
  iV (dw (bI p q) (c8 p q))<=iV p+iV q∧iV p+iV q<=iV (dz (bI p q) (c8 p q))∧((iV (bI p q)=iV p+iV q∧dw (bI p q) (c8 p q)=bI p q∧dz (bI p q) (c8 p q)=bI p q)∨(iV p+iV q<iV (bI p q)∧dw (bI p q) (c8 p q)=dg (bI p q)∧dz (bI p q) (c8 p q)=bI p q)∨(iV (bI p q)<iV p+iV q∧dw (bI p q) (c8 p q)=bI p q∧dz (bI p q) (c8 p q)=next (bI p q))):=by
 obtain ⟨pl,he⟩:=GV hp hq pp pq hf
 have hNr:Nr (iV p+iV q) (iV (bI p q)):=by
  by_cases h:rg p<rg q
  ·have ex:dF p q=q:=if_pos h
   have ey:iH p q=p:=if_pos h
   unfold bI at hf ⊢
   rw [ex,ey] at hf ⊢
   have:=(eI hq hp pq pp).nr hf
   rwa [Int.add_comm] at this
  ·have ex:dF p q=p:=if_neg h
   have ey:iH p q=q:=if_neg h
   unfold bI at hf ⊢
   rw [ex,ey] at hf ⊢
   exact (eI hp hq pp pq).nr hf
 have i1:¬ bI p q=-4503599627370496:=fun e=>by rw [e] at hf; revert hf; decide
 have i2:¬ bI p q=9218868437227405312:=fun e=>by rw [e] at hf; revert hf; decide
 have rl:aj (c8 p q):=by
  unfold c8
  have a1:aj (dF p q):=by unfold dF; split <;> assumption
  have a2:aj (iH p q):=by unfold iH; split <;> assumption
  exact aH a2 (i4 (aH hn.1 (i4 a1)))
 obtain ⟨kl1,kl2⟩:=my rl
 have c0:¬ aG 0=4:=by decide
 have k0:au 0=0:=by decide
 have cl:=aS pl
 have l1:bE (c8 p q) 0=decide (au (c8 p q)<0):=by unfold bE; simp [cl,c0,k0]
 have l2:bE 0 (c8 p q)=decide (0<au (c8 p q)):=by unfold bE; simp [cl,c0,k0]
 unfold dw dz
 rw [l1,l2]
 generalize bI p q=n at *
 generalize c8 p q=l at *
 by_cases a:au l<0
 ·have al:iV l<0:=kl1.2 a
  simp only [a,decide_true,if_true]
  exact ⟨JP hn i1 (Ex hn.1) hNr (by omega),by omega,.inr (.inl ⟨by omega,by trivial,by trivial⟩)⟩
 ·by_cases b:0<au l
  ·have bl:0<iV l:=kl2.2 b
   simp only [a,b,decide_true,decide_false,if_true,if_false,Bool.false_eq_true]
   exact ⟨by omega,JQ hn i2 (rV hn.1) hNr (by omega),.inr (.inr ⟨by omega,by trivial,by trivial⟩)⟩
  ·have z1:¬ iV l<0:=fun h=>a (kl1.1 h)
   have z2:¬ 0<iV l:=fun h=>b (kl2.1 h)
   simp only [a,b,decide_false,if_false,Bool.false_eq_true]
   exact ⟨by omega,by omega,.inl ⟨by omega,by trivial,by trivial⟩⟩
structure Lj (w:World) (ao:Option Addr) (n cap:Nat) (px py:Nat->Int):Prop where
 le:n<=cap
 max:cap<=9223372036854775807
 spot:0<n->∃ b off,ao=some ⟨b,off,none⟩∧b<w.heap.size∧∀ i,i<n->w.cell? ⟨b,off+i*2,none⟩=some (.int .i64 (px i))∧w.cell? ⟨b,off+i*2+1,none⟩=some (.int .i64 (py i))
theorem Lj.keeps {w w':World} {ao:Option Addr} {n cap:Nat} {px py:Nat->Int} (h:Lj w ao n cap px py) (hb:Below w.heap.size w w'):Lj w' ao n cap px py :=
  ⟨h.le,h.max,fun hn=>by
    obtain ⟨b,off,rfl,hlt,hc⟩:=h.spot hn
    exact ⟨b,off,rfl,Nat.lt_of_lt_of_le hlt hb.size,fun i hi=>⟨(hb.cell (p:=⟨b,off+i*2,none⟩) hlt).trans (hc i hi).1,(hb.cell (p:=⟨b,off+i*2+1,none⟩) hlt).trans (hc i hi).2⟩⟩⟩
def l2 (a b:Int) (i:Nat):Int:=if i=0 then a else b
def l3 (a b c:Int) (i:Nat):Int:=if i=0 then a else if i=1 then b else c
def l4 (a b c d:Int) (i:Nat):Int:=if i=0 then a else if i=1 then b else if i=2 then c else d
def qu (x y:Int):Bool:=cm x && cm y
end Go.Proofs.YtcjfonaolcokbaaGreatDoor
namespace Go.Proofs.YtcjfonaolcokbaaGreatDoor
open Go Go.RowKit Go.Proofs.YtcjfonaolcokbaaGreatDoor.M Ieee
theorem yz {b:Int} {m u:Nat} (hb:aj b) (hp:ak b=true) (h:Ieee.double.read (wd b)=.number (decide (b<0)) m (-1074+(u:Int))):m<9007199254740992∧u<=2046:=by
 obtain ⟨h0,h1⟩:=wA hb hp
 have hw:((wd b % 9223372036854775808:Nat):Int)=rg b:=nE hb
 unfold Format.read at h
 rw [ie,kK,mc,tm] at h
 dsimp only at h
 split at h
 ·rename_i h2
  simp only [Datum.number.injEq] at h
  obtain ⟨_,h3,h4⟩:=h
  exact ⟨by omega,by omega⟩
 ·rw [if_pos (by omega)] at h
  have hm:=Nat.mod_lt (wd b % 9223372036854775808) (show 0<4503599627370496 by decide)
  have hd:wd b % 9223372036854775808/4503599627370496<=2047:=by omega
  simp only [Datum.number.injEq] at h
  obtain ⟨_,h3,h4⟩:=h
  exact ⟨by omega,by omega⟩
theorem wu {S t base:Int} (hb:-4194304<=base) (hS:t*pw base=S) (h0:S≠0):Ieee.double.nearest (decide (t<0)) t.natAbs base=wd (bu S):=by
 obtain ⟨A,r0,left,a1,a2,a3⟩:=oI hb hS h0
 obtain ⟨B,s0,k,b1,b2,b3⟩:=gg h0
 have hAB:=js (a1.symm.trans b1)
 subst hAB
 obtain ⟨h2,h3⟩:=a2.unique b2
 subst h2 h3
 rw [a3,b3]
def mz (p q r:Int):Int:=sg (bv p q) (eG p q)+ar r
theorem GW {p q r:Int} (hp:aj p) (hq:aj q) (hr:aj r) (pp:ak p=true) (pq:ak q=true) (pr:ak r=true) :
  Ieee.double.fma (wd p) (wd q) (wd r)=some (wd (if mz p q r=0 then aC (bv p q && decide (r<0)) 0 else bu (mz p q r))):=by
 obtain ⟨m,u,h1,v1⟩:=cF hp pp
 obtain ⟨n,v,h2,v2⟩:=cF hq pq
 obtain ⟨l,x,h3,v3⟩:=cF hr pr
 obtain ⟨i,hi⟩:∃ i:Int,-1074+(u:Int)+(-1074+(v:Int))=i:=⟨_,rfl⟩
 obtain ⟨j,hj⟩:∃ j:Int,-1074+(x:Int)=j:=⟨_,rfl⟩
 have hpm:=j8 (a:=-1074+(u:Int)) (b:=-1074+(v:Int)) (by omega) (by omega)
 have hC:=qd (g:=decide (p<0)) (h:=decide (q<0)) (x:=(m:Int)) (y:=(n:Int)) hpm
 rw [<- v1,<- v2,hi] at hC
 have hcast:((m*n:Nat):Int)=(m:Int)*(n:Int):=by push_cast; rfl
 have hf:eG p q=((m*n:Nat):Int)*pw i:=by rw [hcast]; exact sB (aO 4194304) hC
 obtain ⟨base,hbase⟩:∃ base,min i j=base:=⟨_,rfl⟩
 have hB:-4194304<=base:=by omega
 obtain ⟨t,ht⟩:∃ t,signed (bv p q) (m*n) (i-base).toNat+signed (decide (r<0)) l (j-base).toNat=t:=⟨_,rfl⟩
 have hfma:Ieee.double.fma (wd p) (wd q) (wd r)=some (Ieee.double.nearest (if t=0 then bv p q && decide (r<0) else decide (t<0)) t.natAbs base):=by
  unfold Format.fma
  rw [h1,h2,h3]
  unfold Datum.product
  dsimp only
  rw [hi,hj,tq]
  show Option.map Ieee.double.write (Datum.sum (.number (bv p q) (m*n) i) (.number (decide (r<0)) l j))=_
  unfold Datum.sum
  dsimp only
  rw [hbase,ht]
  rfl
 have s1:=jP (bv p q) (m*n) (i-base).toNat (i:=i) (base:=base) (by omega) hB
 have s2:=jP (decide (r<0)) l (j-base).toNat (i:=j) (base:=base) (by omega) hB
 rw [hj] at v3
 rw [<- hf] at s1
 rw [<- v3] at s2
 have hS:t*pw base=mz p q r:=by
  unfold mz
  rw [<- ht,Int.add_mul,s1,s2]
 rw [hfma]
 by_cases h:mz p q r=0
 ·have ht0:t=0:=(nj (bD base)).2 (hS.trans h)
  rw [if_pos h,ht0,if_pos rfl]
  unfold Format.nearest
  rw [if_pos (show Int.natAbs 0=0 from rfl)]
  have:=kL (ng:=bv p q && decide (r<0)) (r:=0) (by decide) (by decide)
  rw [<- this]
  rfl
 ·have ht0:t≠0:=fun e=>h (by rw [<- hS,e,Int.zero_mul])
  rw [if_neg h,if_neg ht0,wu hB hS h]
def AK (way V p:Int):Prop:=∃ (A:Int) (r0:Nat) (left:Int),V=sg (decide (V<0)) A∧dM A r0 left∧p=aC (decide (V<0)) (bk way (decide (V<0)) r0 left)
theorem AK.unique {way V p q:Int} (h:AK way V p) (k:AK way V q):p=q:=by
 obtain ⟨A,r0,l,h1,h2,h3⟩:=h
 obtain ⟨B,s0,m,k1,k2,k3⟩:=k
 have hAB:=js (h1.symm.trans k1)
 subst hAB
 obtain ⟨e1,e2⟩:=h2.unique k2
 subst e1 e2
 rw [h3,k3]
theorem JR {way:Int} {ng sd:Bool} {M e:Int} (hv:0<M) (he:-4194304<=e) :
  ∃ (r0:Nat) (left:Int),dM (M*pw e) r0 left∧jO way ng sd (M/2^vK M).toNat (e+vK M) (decide (M % 2^vK M≠0))=(aC (ng && (decide (0<bk way ng r0 left) || sd)) (bk way ng r0 left),decide (left≠0) || decide (9218868437227405312<=(r0:Int))):=by
 have hsm:=mi (Int.le_of_lt hv)
 have hb:=iP hv
 have hp:=aO (vK M)
 have hge:2^(bh M-1-vK M)<=M/2^vK M:=by
  rw [Int.le_ediv_iff_mul_le hp,<- Int.pow_add]
  by_cases hk:vK M<=bh M-1
  ·rw [show bh M-1-vK M+vK M=bh M-1 by omega]
   exact hb.2
  ·exfalso; unfold vK at hk; omega
 have hpos:=aO (bh M-1-vK M)
 have e64:(2:Nat)^64=18446744073709551616:=by decide
 have e60:(2:Nat)^60=1152921504606846976:=by decide
 refine xy (xz (Int.le_of_lt hv) (by omega) _) (by omega) (by omega) (by omega) (fun hc=>?_)
 have hk0:0<vK M:=by
  rcases Nat.eq_zero_or_pos (vK M) with h | h
  ·rw [h,Int.pow_zero,Int.emod_one] at hc; simp at hc
  ·exact h
 have h61:bh M-1-vK M=61:=by unfold vK at hk0 ⊢; omega
 rw [h61] at hge
 have e61:(2:Int)^61=2305843009213693952:=by decide
 rw [e61] at hge
 omega
theorem qV {ng:Bool} {A:Int} (h:0<A):decide (sg ng A<0)=ng:=by
 cases ng
 ·exact decide_eq_false (by show ¬ A<0; omega)
 ·exact decide_eq_true (by show -A<0; omega)
theorem Iy {way V:Int} {ng:Bool} {M e:Int} (hV:V=sg ng (M*pw e)) (hv:0<M) (he:-4194304<=e) :
  AK way V (jO way ng true (M/2^vK M).toNat (e+vK M) (decide (M % 2^vK M≠0))).1:=by
 obtain ⟨r0,left,h1,h2⟩:=JR (way:=way) (ng:=ng) (sd:=true) hv he
 have hA:0<M*pw e:=Int.mul_pos hv (bD e)
 have hn:decide (V<0)=ng:=by rw [hV]; exact qV hA
 refine ⟨M*pw e,r0,left,by rw [hn]; exact hV,h1,?_⟩
 rw [h2,hn]
 simp
def dW (way V:Int):Int:=(jO way (decide (V<0)) true ((V.natAbs:Int)/2^vK (V.natAbs:Int)).toNat (-4194304+vK (V.natAbs:Int)) (decide ((V.natAbs:Int) % 2^vK (V.natAbs:Int)≠0))).1
theorem yA (way:Int) {V:Int} (h:V≠0):AK way V (dW way V):=by
 refine Iy ?_ (by omega) (Int.le_refl _)
 rw [xI,Int.mul_one]
 by_cases hn:V<0
 ·rw [decide_eq_true hn]; show V=-(V.natAbs:Int); omega
 ·rw [decide_eq_false hn]; show V=(V.natAbs:Int); omega
theorem tP {way V p:Int} (h0:V≠0) (h:AK way V p):dW way V=p:=(yA way h0).unique h
theorem GY {V:Int} (h:V≠0):dW 0 V=bu V:=by
 obtain ⟨A,r0,left,h1,h2,h3⟩:=gg h
 exact tP h ⟨A,r0,left,h1,h2,h3⟩
theorem Lk {way V:Int} {ng:Bool} {m e:Int} (hy:Dy V ng m e) (h0:V≠0) (he:-4194304<=e) :
  (jO way ng true (m/2^vK m).toNat (e+vK m) (decide (m % 2^vK m≠0))).1=dW way V:=by
 have hm:0<m:=by
  rcases hy.form with ⟨f1,_⟩ | ⟨f1,_⟩
  ·exact absurd (hy.eq_zero.2 f1) h0
  ·exact f1
 refine (tP h0 (Iy ?_ hm he)).symm
 rw [hy.val]
 cases ng
 ·rfl
 ·show -m*pw e=-(m*pw e); rw [Int.neg_mul]
theorem qW (way:Int) {V:Int} (h:V≠0):aj (dW way V)∧aG (dW way V)≠4:=by
 obtain ⟨A,r0,left,_,_,h3⟩:=yA way h
 rw [h3]
 have:=b9 way (decide (V<0)) r0 left
 exact fH this.1 this.2
theorem Ez {p q:Int} (rp:aj p) (rq:aj q) (p0:0<=rg p) (p1:rg p<=9218868437227405312) (q0:0<=rg q) (q1:rg q<=9218868437227405312) (h:rg p=9218868437227405312∨rg q=9218868437227405312) :
  Datum.product (Ieee.double.read (wd p)) (Ieee.double.read (wd q))=if rg p=0∨rg q=0 then none else some (.infinity (bv p q)):=by
 have hX:(decide (p<0) ^^ decide (q<0))=bv p q:=tq _ _
 have hX2:(decide (q<0) ^^ decide (p<0))=bv p q:=by rw [<- hX]; cases decide (p<0) <;> cases decide (q<0) <;> rfl
 by_cases ip:rg p=9218868437227405312
 ·have ep:=dp rp ip
  by_cases iq:rg q=9218868437227405312
  ·rw [if_neg (by omega),ep,dp rq iq,<- hX]
   rfl
  ·have pq:=(bw rq).2 (by omega)
   obtain ⟨m,u,eq,vq⟩:=cF rq pq
   have hz:=oM rq pq vq
   rw [ep,eq]
   unfold Datum.product
   dsimp only
   by_cases hm:m=0
   ·rw [if_pos hm,if_pos (.inr (hz.1 hm))]
   ·rw [if_neg hm,if_neg (fun h=>by rcases h with h | h; omega; exact hm (hz.2 h)),hX]
 ·have iq:rg q=9218868437227405312:=by omega
  have pp:=(bw rp).2 (by omega)
  obtain ⟨m,u,ep,vp⟩:=cF rp pp
  have hz:=oM rp pp vp
  have eq:=dp rq iq
  rw [ep,eq]
  unfold Datum.product
  dsimp only
  by_cases hm:m=0
  ·rw [if_pos hm,if_pos (.inl (hz.1 hm))]
  ·rw [if_neg hm,if_neg (fun h=>by rcases h with h | h; exact hm (hz.2 h); omega),hX2]
def fp (p q r:Int):Int :=
 if aG p=4∨aG q=4∨aG r=4 then 9221120237041090561
 else if rg p=9218868437227405312∨rg q=9218868437227405312 then
  if rg p=0∨rg q=0 then 9221120237041090561
  else if rg r=9218868437227405312∧¬ bv p q=decide (r<0) then 9221120237041090561 else aC (bv p q) 9218868437227405312
 else if rg r=9218868437227405312 then r
 else if mz p q r=0 then aC (bv p q && decide (r<0)) 0 else bu (mz p q r)
theorem Ll {p q r:Int} {x y z:Nat} (hx:FW p x) (hy:FW q y) (hz:FW r z):(∃ t,Ieee.double.fma x y z=some t∧FW (fp p q r) t)∨(Ieee.double.fma x y z=none∧fp p q r=9221120237041090561):=by
 by_cases h4:aG p=4∨aG q=4∨aG r=4
 ·right
  refine ⟨?_,by unfold fp; rw [if_pos h4]⟩
  unfold Format.fma
  rcases h4 with h | h | h
  ·obtain ⟨s,t,e⟩:=hx.read_nan h
   rw [e]
   rfl
  ·obtain ⟨s,t,e⟩:=hy.read_nan h
   rw [e]
   cases Ieee.double.read x <;> rfl
  ·obtain ⟨s,t,e⟩:=hz.read_nan h
   rw [e]
   cases Datum.product (Ieee.double.read x) (Ieee.double.read y) with
   | none=>rfl
   | some d=>cases d <;> rfl
 ·have h4p:aG p≠4:=fun h=>h4 (.inl h)
  have h4q:aG q≠4:=fun h=>h4 (.inr (.inl h))
  have h4r:aG r≠4:=fun h=>h4 (.inr (.inr h))
  obtain ⟨rp,rfl,p0,p1⟩:=hx.of h4p
  obtain ⟨rq,rfl,q0,q1⟩:=hy.of h4q
  obtain ⟨rr,rfl,r0,r1⟩:=hz.of h4r
  have hI:=fH (ng:=bv p q) (r:=9218868437227405312) (by decide) (by decide)
  unfold fp
  rw [if_neg h4]
  by_cases hi:rg p=9218868437227405312∨rg q=9218868437227405312
  ·rw [if_pos hi]
   have hP:=Ez rp rq p0 p1 q0 q1 hi
   by_cases h0:rg p=0∨rg q=0
   ·right
    rw [if_pos h0] at hP ⊢
    refine ⟨?_,rfl⟩
    unfold Format.fma
    rw [hP]
    rfl
   ·rw [if_neg h0] at hP ⊢
    by_cases ir:rg r=9218868437227405312
    ·have er:=dp rr ir
     by_cases hs:bv p q=decide (r<0)
     ·left
      rw [if_neg (fun h=>h.2 hs)]
      refine ⟨_,?_,FW.pat hI.2 hI.1⟩
      unfold Format.fma
      rw [hP,er]
      show Option.map Ieee.double.write (Datum.sum (.infinity (bv p q)) (.infinity (decide (r<0))))=_
      unfold Datum.sum
      dsimp only
      rw [if_pos hs]
      show some (Ieee.double.write (.infinity (bv p q)))=_
      rw [kv]
     ·right
      rw [if_pos ⟨ir,hs⟩]
      refine ⟨?_,rfl⟩
      unfold Format.fma
      rw [hP,er]
      show Option.map Ieee.double.write (Datum.sum (.infinity (bv p q)) (.infinity (decide (r<0))))=_
      unfold Datum.sum
      dsimp only
      rw [if_neg hs]
      rfl
    ·left
     obtain ⟨l,v,er,_⟩:=cF rr ((bw rr).2 (by omega))
     rw [if_neg (fun h=>ir h.1)]
     refine ⟨_,?_,FW.pat hI.2 hI.1⟩
     unfold Format.fma
     rw [hP,er]
     show some (Ieee.double.write (.infinity (bv p q)))=_
     rw [kv]
  ·rw [if_neg hi]
   have pp:=(bw rp).2 (by omega)
   have pq:=(bw rq).2 (by omega)
   by_cases ir:rg r=9218868437227405312
   ·left
    rw [if_pos ir]
    obtain ⟨m,u,ep,_⟩:=cF rp pp
    obtain ⟨n,v,eq,_⟩:=cF rq pq
    refine ⟨wd r,?_,FW.pat h4r rr⟩
    unfold Format.fma
    rw [ep,eq,dp rr ir]
    show some (Ieee.double.write (.infinity (decide (r<0))))=_
    rw [kY rr ir]
   ·left
    rw [if_neg ir]
    refine ⟨_,GW rp rq rr pp pq ((bw rr).2 (by omega)),?_⟩
    by_cases hS:mz p q r=0
    ·rw [if_pos hS]
     obtain ⟨g1,g2⟩:=fH (ng:=bv p q && decide (r<0)) (r:=0) (by decide) (by decide)
     exact FW.pat g2 g1
    ·rw [if_neg hS]
     exact FW.pat (ef hS).2 (ef hS).1
end Go.Proofs.YtcjfonaolcokbaaGreatDoor
namespace Go.Proofs.YtcjfonaolcokbaaGreatDoor
open Go Go.RowKit Go.Proofs.YtcjfonaolcokbaaGreatDoor.M
theorem o7 (x:Int):sg true x=-x:=rfl
theorem o8 (x:Int):sg false x=x:=rfl
theorem jg {ng:Bool} {r0:Nat} {left:Int} (way:Int) (h:(r0:Int)<9218868437227405312):bk way ng r0 left=(r0:Int)+(if bM way ng (decide (r0 % 2=1)) left then 1 else 0):=by
 unfold bk; rw [if_pos h]
theorem qw {V:Int} (h0:V≠0):∃ (g:Bool) (A:Int) (r0:Nat) (left:Int),V=sg g A∧0<A∧dM A r0 left∧bu V=aC g (bk 0 g r0 left)∧dW 1 V=aC g (bk 1 g r0 left)∧dW 2 V=aC g (bk 2 g r0 left):=by
 obtain ⟨A,r0,left,e1,hR,e2⟩:=gg h0
 have hA:0<A:=by
  by_cases hn:V<0
  ·rw [decide_eq_true hn] at e1
   have:V=-A:=e1
   omega
  ·rw [decide_eq_false hn] at e1
   have:V=A:=e1
   omega
 exact ⟨decide (V<0),A,r0,left,e1,hA,hR,e2,tP h0 ⟨A,r0,left,e1,hR,rfl⟩,tP h0 ⟨A,r0,left,e1,hR,rfl⟩⟩
theorem jW {g:Bool} {r:Int} (h0:0<=r) (h1:r<=9218868437227405312):nn (aC g r):=by
 obtain ⟨a,b⟩:=fH (ng:=g) h0 h1
 exact ⟨a,b⟩
theorem EA {r:Int} (h0:0<=r) (h1:r<9218868437227405312):next (aC false r)=aC false (r+1):=by
 have hn:=jW (g:=false) h0 (by omega)
 unfold next
 rw [if_neg hn.2]
 show (if r=9218868437227405312 then r else if r=-9223372036854775808 then 1 else if r<0 then r-1 else r+1)=r+1
 rw [if_neg (by omega),if_neg (by omega),if_neg (by omega)]
theorem EB {r:Int} (h0:0<=r) (h1:r<9218868437227405312):next (aC true (r+1))=aC true r:=by
 have hn:=jW (g:=true) (show 0<=r+1 by omega) (by omega)
 unfold next
 rw [if_neg hn.2]
 show (if r+1-9223372036854775808=9218868437227405312 then r+1-9223372036854775808 else if r+1-9223372036854775808=-9223372036854775808 then 1 else if r+1-9223372036854775808<0 then r+1-9223372036854775808-1 else r+1-9223372036854775808+1)=r-9223372036854775808
 rw [if_neg (by omega),if_neg (by omega),if_pos (by omega)]
 omega
theorem EC {r:Int} (h0:0<=r) (h1:r<9218868437227405312):dg (aC false (r+1))=aC false r:=by
 have hn:=jW (g:=false) (show 0<=r+1 by omega) (by omega)
 rw [mQ hn (show ¬ r+1=-4503599627370496 by omega)]
 show (if r+1=0∨r+1=-9223372036854775808 then (-9223372036854775807:Int) else if r+1<0 then r+1+1 else r+1-1)=r
 rw [if_neg (by omega),if_neg (by omega)]
 omega
theorem ED {r:Int} (h0:0<=r) (h1:r<9218868437227405312):dg (aC true r)=aC true (r+1):=by
 have hn:=jW (g:=true) h0 (by omega)
 rw [mQ hn (show ¬ r-9223372036854775808=-4503599627370496 by omega)]
 show (if r-9223372036854775808=0∨r-9223372036854775808=-9223372036854775808 then (-9223372036854775807:Int) else if r-9223372036854775808<0 then r-9223372036854775808+1 else r-9223372036854775808-1)=r+1-9223372036854775808
 by_cases hr:r=0
 ·rw [if_pos (by omega)]; omega
 ·rw [if_neg (by omega),if_pos (by omega)]; omega
theorem tQ (odd:Bool) (left:Int):bM 1 false odd left=false∧(left≠0->bM 1 true odd left=true)∧bM 2 true odd left=false∧(left≠0->bM 2 false odd left=true)∧(∀ way g,left=0->bM way g odd left=false):=by
 refine ⟨?_,fun h=>?_,?_,fun h=>?_,fun way g h=>?_⟩
 ·unfold bM; simp
 ·unfold bM; simp [h]
 ·unfold bM; simp
 ·unfold bM; simp [h]
 ·cases hu:bM way g odd left
  ·rfl
  ·rw [h] at hu; exact absurd hu (fun q=>iS q)
theorem AL {V:Int} (h0:V≠0) (hf:ak (bu V)=true) :
  (V<ar (bu V)->dg (bu V)=dW 1 V∧bu V=dW 2 V)∧(ar (bu V)<V->bu V=dW 1 V∧next (bu V)=dW 2 V)∧(V=ar (bu V)->bu V=dW 1 V∧bu V=dW 2 V):=by
 obtain ⟨g,A,r0,left,e,hA,hR,en,e1,e2⟩:=qw h0
 have hrr:=b9 0 g r0 left
 rw [en,iU hrr.1 hrr.2] at hf
 have hf:=of_decide_eq_true hf
 have hr0:(r0:Int)<9218868437227405312:=by
  rcases Int.lt_or_le (r0:Int) 9218868437227405312 with q | q
  ·exact q
  ·exfalso
   unfold bk at hf
   rw [if_neg (by omega)] at hf
   unfold c9 at hf
   rw [show bM 0 g true 3=true by cases g <;> decide,if_pos rfl] at hf
   omega
 obtain ⟨lo,hi,l0,l1,l2,l3⟩:=hR
 obtain ⟨u1,u2,u3,u4,u5⟩:=tQ (decide (r0 % 2=1)) left
 rw [en,e1,e2,jg 1 hr0,jg 2 hr0]
 rw [jg 0 hr0] at hf ⊢
 have pv:∀ r:Nat,(r:Int)<9218868437227405312->ar (aC g (r:Int))=sg g (vS r):=fun r hr=>by
  cases g
  ·exact gf hr (fun q=>by cases q)
  ·exact sz hr
 have pv0:=pv r0 hr0
 have pv1:=pv (r0+1)
 clear pv l1 l2 l3
 generalize vS r0=a at *
 generalize vS (r0+1)=b at *
 by_cases hl:left=0
 ·have ha:=l0.1 hl
  rw [u5 0 g hl,u5 1 g hl,u5 2 g hl]
  simp only [Bool.false_eq_true,if_false,Int.add_zero] at hf ⊢
  rw [pv0,e,ha]
  clear pv0 pv1 en e1 e2 e h0
  exact ⟨fun q=>absurd q (by omega),fun q=>absurd q (by omega),fun _=>⟨trivial,trivial⟩⟩
 ·have hlt:a<A:=by
   have:A≠a:=fun q=>hl (l0.2 q)
   omega
  cases hu:bM 0 g (decide (r0 % 2=1)) left
  ·rw [hu] at hf
   simp only [Bool.false_eq_true,if_false,Int.add_zero] at hf ⊢
   rw [pv0,e]
   clear pv0 pv1 en e1 e2 e h0
   cases g
   ·rw [u1,u4 hl]
    simp only [Bool.false_eq_true,if_false,if_true,Int.add_zero]
    refine ⟨fun q=>?_,fun _=>⟨trivial,EA (by omega) hr0⟩,fun q=>?_⟩
    ·rw [o8,o8] at q
     omega
    ·rw [o8,o8] at q
     omega
   ·rw [u2 hl,u3]
    simp only [Bool.false_eq_true,if_false,if_true,Int.add_zero]
    refine ⟨fun _=>⟨ED (by omega) hr0,trivial⟩,fun q=>?_,fun q=>?_⟩
    ·rw [o7,o7] at q
     omega
    ·rw [o7,o7] at q
     omega
  ·rw [hu] at hf
   simp only [if_true] at hf ⊢
   rw [show (r0:Int)+1=((r0+1:Nat):Int) by push_cast; rfl] at hf ⊢
   rw [pv1 hf,e]
   clear pv0 pv1 en e1 e2 e h0
   rw [show ((r0+1:Nat):Int)=(r0:Int)+1 by push_cast; rfl]
   cases g
   ·rw [u1,u4 hl]
    simp only [Bool.false_eq_true,if_false,if_true,Int.add_zero]
    refine ⟨fun _=>⟨EC (by omega) hr0,trivial⟩,fun q=>?_,fun q=>?_⟩
    ·rw [o8,o8] at q
     omega
    ·rw [o8,o8] at q
     omega
   ·rw [u2 hl,u3]
    simp only [Bool.false_eq_true,if_false,if_true,Int.add_zero]
    refine ⟨fun q=>?_,fun _=>⟨trivial,EB (by omega) hr0⟩,fun q=>?_⟩
    ·rw [o7,o7] at q
     omega
    ·rw [o7,o7] at q
     omega
theorem AM {V:Int} (h0:V≠0) (hf:ak (bu V)=false) :
  (0<V->bu V=9218868437227405312∧dW 1 V=9218868437227405311∧dW 2 V=9218868437227405312)∧(V<0->bu V=-4503599627370496∧dW 1 V=-4503599627370496∧dW 2 V=-4503599627370497):=by
 obtain ⟨g,A,r0,left,e,hA,hR,en,e1,e2⟩:=qw h0
 have hrr:=b9 0 g r0 left
 rw [en,iU hrr.1 hrr.2] at hf
 have hf:=of_decide_eq_false hf
 obtain ⟨u1,u2,u3,u4,u5⟩:=tQ (decide (r0 % 2=1)) left
 have hr:bk 0 g r0 left=9218868437227405312:=by omega
 have au:(∀ g',g=g'->bk 1 g r0 left=if g' then 9218868437227405312 else 9218868437227405311)∧(∀ g',g=g'->bk 2 g r0 left=if g' then 9218868437227405311 else 9218868437227405312):=by
  by_cases hr0:(r0:Int)<9218868437227405312
  ·rw [jg 0 hr0] at hr
   have hl:left≠0:=fun q=>by
    rw [u5 0 g q] at hr
    simp at hr
    omega
   have hrv:(r0:Int)=9218868437227405311:=by
    split at hr <;> omega
   rw [jg 1 hr0,jg 2 hr0]
   cases g
   ·rw [u1,u4 hl]
    constructor
    ·intro g' hg; subst hg; simp; omega
    ·intro g' hg; subst hg; simp; omega
   ·rw [u2 hl,u3]
    constructor
    ·intro g' hg; subst hg; simp; omega
    ·intro g' hg; subst hg; simp; omega
  ·unfold bk c9
   rw [if_neg hr0,if_neg hr0]
   cases g
   ·constructor
    ·intro g' hg; subst hg; decide
    ·intro g' hg; subst hg; decide
   ·constructor
    ·intro g' hg; subst hg; decide
    ·intro g' hg; subst hg; decide
 cases g
 ·refine ⟨fun _=>⟨?_,?_,?_⟩,fun q=>?_⟩
  ·rw [en,hr]; rfl
  ·rw [e1,au.1 false rfl]; rfl
  ·rw [e2,au.2 false rfl]; rfl
  ·have:V=A:=e
   omega
 ·refine ⟨fun q=>?_,fun _=>⟨?_,?_,?_⟩⟩
  ·have:V=-A:=e
   omega
  ·rw [en,hr]; rfl
  ·rw [e1,au.1 true rfl]; rfl
  ·rw [e2,au.2 true rfl]; rfl
def ce (a b:Int):Int:=sg (bv a b) (eG a b)
theorem Lm {a b:Int}:ce a b=ar a*ar b/2^4194304:=by
 unfold ce eG
 cases bv a b
 ·rfl
 ·show - -_=_; rw [Int.neg_neg]
theorem mR {a b:Int} (ra:aj a) (rb:aj b) (pa:ak a=true) (pb:ak b=true) :
  ∃ N t:Nat,eG a b=(N:Int)*pw (-2148+(t:Int))∧N<2^106∧ce a b*2^4194304=ar a*ar b:=by
 obtain ⟨m,u,h1,v1⟩:=cF ra pa
 obtain ⟨n,v,h2,v2⟩:=cF rb pb
 have b1:=yz ra pa h1
 have b2:=yz rb pb h2
 have hpm:=j8 (a:=-1074+(u:Int)) (b:=-1074+(v:Int)) (by omega) (by omega)
 have hC:=qd (g:=decide (a<0)) (h:=decide (b<0)) (x:=(m:Int)) (y:=(n:Int)) hpm
 rw [<- v1,<- v2] at hC
 have hcast:((m*n:Nat):Int)=(m:Int)*(n:Int):=by push_cast; rfl
 have hf:eG a b=((m*n:Nat):Int)*pw (-1074+(u:Int)+(-1074+(v:Int))):=by rw [hcast]; exact sB (aO 4194304) hC
 refine ⟨m*n,u+v,?_,?_,?_⟩
 ·rw [hf,show -1074+(u:Int)+(-1074+(v:Int))=-2148+((u+v:Nat):Int) by push_cast; omega]
 ·have e:(2:Nat)^106=9007199254740992*9007199254740992:=by decide
  rw [e]
  exact Nat.lt_of_le_of_lt (Nat.mul_le_mul_left m (Nat.le_of_lt b2.1)) (Nat.mul_lt_mul_of_pos_right b1.1 (by decide))
 ·rw [<- hC]
  unfold ce
  rw [hf,hcast]
  rfl
theorem GZ {N U s t q Z E:Nat} (hE:E=1074) (hZ:Z=2^E) (hq:0<q) (hN:N<2^106) (hU:4503599627370496<=U) (lo:U*2^s*(q*Z)<=N*(q*2^t)):s+1021<=t:=by
 have e52:(2:Nat)^52=4503599627370496:=by decide
 have hB:=Nat.two_pow_pos s
 have hC:=Nat.two_pow_pos t
 have hZ0:0<Z:=by rw [hZ]; exact Nat.two_pow_pos _
 have l1:4503599627370496*(2^s*Z*q)<=U*2^s*(q*Z):=by
  rw [show U*2^s*(q*Z)=U*(2^s*Z*q) by generalize (2:Nat)^s=B; grind]
  exact Nat.mul_le_mul_right _ hU
 have l2:N*(q*2^t)<2^106*2^t*q:=by
  rw [show 2^106*2^t*q=2^106*(q*2^t) by generalize (2:Nat)^106=A; generalize (2:Nat)^t=B; grind]
  exact Nat.mul_lt_mul_of_pos_right hN (Nat.mul_pos hq hC)
 have l3:(4503599627370496*2^s*Z)*q<(2^106*2^t)*q:=by
  have:4503599627370496*2^s*Z*q=4503599627370496*(2^s*Z*q):=by generalize (2:Nat)^s=B; grind
  rw [this]
  exact Nat.lt_of_le_of_lt (Nat.le_trans l1 lo) l2
 have l4:=Nat.lt_of_mul_lt_mul_right l3
 rw [<- e52,hZ,<- Nat.pow_add,<- Nat.pow_add,<- Nat.pow_add] at l4
 have h3:=(Nat.pow_lt_pow_iff_right (by decide:1<2)).1 l4
 omega
theorem Ln {N U s k:Nat} {S:Int} (hk:s<=k+53) (h:S=(N:Int)*2^k-(U:Int)*2^s∨S=(N:Int)*2^k-((U:Int)+1)*2^s) (hS:(S.natAbs:Int)<2^s):Fl S:=by
 rcases Nat.lt_or_ge k s with g | g
 ·refine gh (k:=k) ?_ ?_
  ·obtain ⟨d,hd⟩:=ct (Nat.le_of_lt g)
   rcases h with h | h
   ·exact ⟨N-U*d,by rw [h,hd]; grind⟩
   ·exact ⟨N-(U+1)*d,by rw [h,hd]; grind⟩
  ·have h1:=eY hk
   rw [Int.pow_add,show (2:Int)^53=9007199254740992 by decide,Int.mul_comm] at h1
   omega
 ·obtain ⟨d,hd⟩:=ct g
  have hdv:(2^s:Int) ∣ S:=by
   rcases h with h | h
   ·exact ⟨N*d-U,by rw [h,hd]; grind⟩
   ·exact ⟨N*d-(U+1),by rw [h,hd]; grind⟩
  have h0:S=0:=by
   obtain ⟨c,hc⟩:=hdv
   have hp:=p2 s
   rcases Int.lt_trichotomy c 0 with hn | hn | hn
   ·have:2^s*c<=2^s*(-1):=Int.mul_le_mul_of_nonneg_left (by omega) (Int.le_of_lt hp)
    omega
   ·rw [hc,hn,Int.mul_zero]
   ·have:2^s*1<=2^s*c:=Int.mul_le_mul_of_nonneg_left (by omega) (Int.le_of_lt hp)
    omega
  rw [h0]; exact co
theorem Oy (a b:Int):-a - -b=-(a-b):=by omega
theorem JS {N U s t E:Nat} {z q pt W:Int} (hE:E=1074) (hz:0<z) (et:pt=z*2^t) (eq:q=z*2^E) (hN:N<2^106) (hU0:4503599627370496<=U) (hs0:60<=s) (Rlo:(U:Int)*2^s*q<=(N:Int)*pt) (Rhi:(N:Int)*pt<((U:Int)+1)*2^s*q)
  (hW:W=(U:Int)*2^s∨(W=((U:Int)+1)*2^s∧(N:Int)*pt≠(U:Int)*2^s*q)) (hmax:(U:Int)*2^s<=ii):∃ S:Int,(N:Int)*pt-W*q=S*q∧Fl S∧(S.natAbs:Int)<=ii:=by
 have hts:s+1021<=t:=by
  obtain ⟨Z,hZ⟩:∃ Z:Nat,Z=2^E:=⟨_,rfl⟩
  have hZi:(2:Int)^E=(Z:Int):=by rw [hZ]; push_cast; rfl
  obtain ⟨n,rfl⟩:∃ n:Nat,z=n:=⟨z.toNat,by omega⟩
  rw [et,eq,hZi] at Rlo
  refine GZ (N:=N) (U:=U) (q:=n) hE hZ (by omega) hN hU0 ?_
  exact_mod_cast Rlo
 obtain ⟨k,rfl⟩:∃ k,t=E+k:=⟨t-E,by omega⟩
 have eA:pt=2^k*q:=by
  rw [et,eq,Nat.add_comm,Int.pow_add]
  generalize (2:Int)^E=X
  generalize (2:Int)^k=Y
  grind
 have hq:0<q:=by rw [eq]; exact Int.mul_pos hz (p2 E)
 clear et eq
 rw [eA,<- Int.mul_assoc] at Rlo Rhi hW
 rw [eA,<- Int.mul_assoc]
 have Rlo:=Int.le_of_mul_le_mul_right Rlo hq
 have Rhi:=Int.lt_of_mul_lt_mul_right Rhi (Int.le_of_lt hq)
 have hp:=p2 s
 have hU2:2^s<=(U:Int)*2^s:=by
  have:=Int.mul_le_mul_of_nonneg_right (show (1:Int)<=U by omega) (Int.le_of_lt hp)
  rwa [Int.one_mul] at this
 have hW2:W=(U:Int)*2^s∨(W=((U:Int)+1)*2^s∧(N:Int)*2^k≠(U:Int)*2^s):=by
  rcases hW with h | ⟨h,g⟩
  ·exact .inl h
  ·exact .inr ⟨h,fun e=>g (by rw [e])⟩
 clear hW
 have hS:(((N:Int)*2^k-W).natAbs:Int)<2^s:=by
  rw [Int.add_mul,Int.one_mul] at Rhi hW2
  clear hmax
  generalize (N:Int)*2^k=x at *
  generalize (2:Int)^s=y at *
  generalize (U:Int)*y=z' at *
  rcases hW2 with hW | ⟨hW,g⟩ <;> omega
 have hF:Fl ((N:Int)*2^k-W):=Ln (N:=N) (k:=k) (U:=U) (s:=s) (by omega) (by rcases hW2 with hW | ⟨hW,_⟩; exact .inl (by rw [hW]); exact .inr (by rw [hW])) hS
 refine ⟨(N:Int)*2^k-W,by rw [Int.sub_mul],hF,?_⟩
 exact Int.le_trans (Int.le_of_lt hS) (Int.le_trans hU2 hmax)
theorem Lp:pw (-1074)=pw (-2148)*2^1074:=by
 obtain ⟨E,hE⟩:∃ E:Nat,E=1074:=⟨_,rfl⟩
 have:=ff (e:=-2148) (by decide) E
 rw [show (-2148:Int)+(E:Int)=-1074 by rw [hE]; decide] at this
 rw [<- hE]
 exact this
theorem EE {a b way:Int} (ra:aj a) (rb:aj b) (pa:ak a=true) (pb:ak b=true) (h:ce a b≠0) (lo:283726776524341248<=rg (dW way (ce a b))) (hi:rg (dW way (ce a b))<=9209861237972664320∨(way=0∧rg (dW way (ce a b))<9218868437227405312)) :
  ∃ S:Int,ce a b-ar (dW way (ce a b))=S*pw (-1074)∧Fl S∧(S.natAbs:Int)<=ii:=by
 obtain ⟨N,t,hf,hN,hX⟩:=mR ra rb pa pb
 clear hX
 obtain ⟨A,r0,left,e1,hR,e2⟩:=yA way h
 generalize dW way (ce a b)=p at *
 have hA:A=(N:Int)*pw (-2148+(t:Int))∧decide (ce a b<0)=bv a b:=by
  have hp:0<eG a b:=by
   have h0:0<=eG a b:=by rw [hf]; exact Int.mul_nonneg (by omega) (Int.le_of_lt (bD _))
   have h1:eG a b≠0:=fun e=>h (by unfold ce; rw [e]; cases bv a b <;> rfl)
   omega
  have hs:decide (ce a b<0)=bv a b:=qV hp
  rw [hs] at e1
  exact ⟨(js e1).symm.trans hf,hs⟩
 obtain ⟨hA,hs⟩:=hA
 rw [hs] at e1 e2
 have hrr:=b9 way (bv a b) r0 left
 obtain ⟨rp,hrg,hng⟩:=cW (ng:=bv a b) hrr.1 hrr.2
 rw [<- e2] at rp hrg hng
 have hpp:ak p=true:=(bw rp).2 (by omega)
 have hr0:(r0:Int)<9218868437227405312:=by
  rcases Int.lt_or_le (r0:Int) 9218868437227405312 with g | g
  ·exact g
  ·exfalso
   rw [hrg] at hi
   unfold bk at hi
   rw [if_neg (by omega)] at hi
   unfold c9 at hi
   rcases hi with hi | ⟨hw,hi⟩
   ·split at hi <;> omega
   ·rw [hw,show bM 0 (bv a b) true 3=true by cases bv a b <;> decide,if_pos rfl] at hi
    omega
 have hrt:bk way (bv a b) r0 left=(r0:Int)∨(bk way (bv a b) r0 left=(r0:Int)+1∧left≠0):=by
  unfold bk
  rw [if_pos hr0]
  by_cases hu:bM way (bv a b) (decide (r0 % 2=1)) left=true
  ·right
   rw [if_pos hu]
   exact ⟨rfl,fun e=>by rw [e] at hu; exact iS hu⟩
  ·left
   rw [if_neg hu]; omega
 obtain ⟨Rlo,Rhi,l0,_,_,_⟩:=hR
 obtain ⟨s,U,hsU,hU0,hU1,hs0,hs1⟩:∃ s U:Nat,r0=s*4503599627370496+U∧4503599627370496<=U∧U<9007199254740992∧60<=s∧s<=2045:=by
  refine ⟨r0/4503599627370496-1,r0-(r0/4503599627370496-1)*4503599627370496,?_,?_,?_,?_,?_⟩
  all_goals (rcases hrt with g | ⟨g,_⟩ <;> omega)
 obtain ⟨V0,V1⟩:=pM Ieee.double s U (by rw [kK]; omega) (fun _=>by rw [kK]; omega)
 rw [kK,<- hsU] at V0 V1
 have hmax:(U:Int)*2^s<=ii:=by
  have:=uI (show r0<=9218868437227405311 by omega)
  rw [V0] at this
  push_cast at this
  exact this
 have hrt:∃ W:Int,(W=(U:Int)*2^s∨(W=((U:Int)+1)*2^s∧left≠0))∧(V Ieee.double (bk way (bv a b) r0 left).toNat:Int)=W:=by
  rcases hrt with g | ⟨g,g2⟩
  ·refine ⟨_,.inl ?_,rfl⟩
   rw [g,Int.toNat_natCast,V0]; push_cast; rfl
  ·refine ⟨_,.inr ⟨?_,g2⟩,rfl⟩
   rw [g,show ((r0:Int)+1).toNat=r0+1 by omega,V1]; push_cast; rfl
 obtain ⟨W,hW,hVW⟩:=hrt
 unfold vS at Rlo Rhi l0
 rw [V0] at Rlo l0
 rw [V1] at Rhi
 push_cast at Rlo Rhi l0
 rw [hA] at Rlo Rhi l0
 have hpv:ar p=sg (bv a b) W*pw (-1074):=by
  rw [bF rp hpp]
  unfold iV
  rw [hng,hrg,hVW]
 obtain ⟨S,h1,h2,h3⟩:=JS (E:=1074) rfl (bD (-2148)) (ff (by decide) t) Lp hN hU0 hs0 Rlo Rhi (by rcases hW with h | ⟨h,g⟩; exact .inl h; exact .inr ⟨h,fun e=>g (l0.2 e)⟩) hmax
 refine ⟨sg (bv a b) S,?_,?_,?_⟩
 ·rw [e1,hpv,hA,lT,lT,<- h1]
  cases bv a b
  ·rfl
  ·exact Oy _ _
 ·cases bv a b
  ·exact h2
  ·exact h2.neg
 ·have hn:(sg (bv a b) S).natAbs=S.natAbs:=by
   cases bv a b
   ·rfl
   ·exact Int.natAbs_neg _
  rw [hn]
  exact h3
theorem JT (p q r:Int):mz p q r=ce p q+ar r:=rfl
theorem cZ {a:Int} (ra:aj a) (h:ak a=true):aG a≠4:=fun e=>by
 have hf:=s7 h
 unfold aG at e
 rw [if_neg hf] at e
 split at e
 ·split at e <;> omega
 ·omega
theorem BW {S:Int} (hF:Fl S) (h0:S≠0) (hb:(S.natAbs:Int)<=ii):aj (bu (S*pw (-1074)))∧ak (bu (S*pw (-1074)))=true∧iV (bu (S*pw (-1074)))=S:=by
 obtain ⟨h1,h2,h3⟩:=Am h0
 exact ⟨h1,h3 hb,aY hF (h2 (h3 hb))⟩
def gK (way a b:Int):Int:=if way=0∨(ak a && ak b)=false then aq (aR a) (aR b) else if ce a b≠0 then dW way (ce a b) else aq (aR a) (aR b)
theorem G0 {a b c:Int} (ra:aj a) (rb:aj b) (rc:aj c) (pa:ak a=true) (pb:ak b=true) (pc:ak c=true) (h:mz a b c=0):fp a b c=aC (bv a b && decide (c<0)) 0:=by
 have h1:=(bw ra).1 pa
 have h2:=(bw rb).1 pb
 have h3:=(bw rc).1 pc
 unfold fp
 have n4:¬ (aG a=4∨aG b=4∨aG c=4):=fun q=>by rcases q with q | q | q; exact cZ ra pa q; exact cZ rb pb q; exact cZ rc pc q
 have i2:¬ (rg a=9218868437227405312∨rg b=9218868437227405312):=by omega
 have i3:¬ rg c=9218868437227405312:=by omega
 rw [if_neg n4,if_neg i2,if_neg i3,if_pos h]
theorem G3 {p:Int} (rp:aj p) (hp:ak p=true):ar (neg p)=-ar p:=by
 obtain ⟨n1,n2,n3⟩:=bS rp hp
 rw [bF n1 n2,bF rp hp,n3,Int.neg_mul]
theorem nQ {p:Int} (h:nn p):rg (neg p)=rg p∧(decide (neg p<0)≠decide (p<0)):=by
 have hr:=h.1
 unfold aj at hr
 unfold neg
 rw [if_neg h.2]
 unfold rg
 by_cases g:p<0
 ·rw [if_pos g,if_neg (by omega)]
  refine ⟨by rw [if_pos g],?_⟩
  rw [decide_eq_false (by omega),decide_eq_true g]
  decide
 ·rw [if_neg g,if_pos (by omega)]
  refine ⟨by rw [if_neg g]; omega,?_⟩
  rw [decide_eq_true (by omega),decide_eq_false g]
  decide
theorem G4 (p:Int):ap p 9221120237041090561=9221120237041090561:=by
 unfold ap
 rw [if_pos (.inr iT)]
theorem Iz {p q:Int} (hp:nn p) (hq:nn q):nn (dF p q)∧nn (iH p q)∧(dF p q=p∧iH p q=q∨dF p q=q∧iH p q=p)∧rg (iH p q)<=rg (dF p q):=by
 unfold dF iH
 by_cases h:rg p<rg q
 ·rw [if_pos h,if_pos h]; exact ⟨hq,hp,.inr ⟨rfl,rfl⟩,by omega⟩
 ·rw [if_neg h,if_neg h]; exact ⟨hp,hq,.inl ⟨rfl,rfl⟩,by omega⟩
theorem qA {p q:Int} (hp:nn p) (hq:nn q) (h:rg (dF p q)=9218868437227405312) (hno:¬ (rg p=9218868437227405312∧rg q=9218868437227405312∧decide (p<0)≠decide (q<0))) :
  bI p q=dF p q∧dw (bI p q) (c8 p q)=dF p q∧dz (bI p q) (c8 p q)=dF p q:=by
 obtain ⟨nx,ny,hxy,_⟩:=Iz hp hq
 have hno':¬ (rg (iH p q)=9218868437227405312∧decide (dF p q<0)≠decide (iH p q<0)):=by
  rintro ⟨a,b⟩
  rcases hxy with ⟨e1,e2⟩ | ⟨e1,e2⟩
  ·rw [e1] at h b; rw [e2] at a b; exact hno ⟨h,a,b⟩
  ·rw [e1] at h b; rw [e2] at a b; exact hno ⟨a,h,fun c=>b c.symm⟩
 have e1:bI p q=dF p q:=by
  unfold bI ap
  rw [if_neg (by rintro (c | c); exact nx.2 c; exact ny.2 c),if_pos h,if_neg hno']
 have e2:c8 p q=9221120237041090561:=by
  unfold c8
  rw [e1]
  obtain ⟨g1,g2⟩:=nQ nx
  obtain ⟨n1,_⟩:=fj nx
  have:ap (dF p q) (neg (dF p q))=9221120237041090561:=by
   unfold ap
   rw [if_neg (by rintro (c | c); exact nx.2 c; exact n1.2 c),if_pos h,if_pos ⟨by rw [g1]; exact h,fun c=>g2 c.symm⟩]
  rw [this,Al iT]
  exact G4 _
 have l1:bE 9221120237041090561 0=false:=by decide
 have l2:bE 0 9221120237041090561=false:=by decide
 rw [e1,e2]
 unfold dw dz
 rw [l1,l2]
 exact ⟨rfl,rfl,rfl⟩
theorem JU {p q:Int} (hp:nn p) (hq:nn q) (pp:¬ rg p=9218868437227405312) (pq:¬ rg q=9218868437227405312) (hn:nn (bI p q)) (h:rg (bI p q)=9218868437227405312) :
  (0<au (bI p q)->dw (bI p q) (c8 p q)=dg (bI p q)∧dz (bI p q) (c8 p q)=bI p q)∧(au (bI p q)<0->dw (bI p q) (c8 p q)=bI p q∧dz (bI p q) (c8 p q)=next (bI p q)):=by
 obtain ⟨nx,ny,hxy,_⟩:=Iz hp hq
 have fx:¬ rg (dF p q)=9218868437227405312:=by rcases hxy with ⟨e1,_⟩ | ⟨e1,_⟩ <;> rw [e1] <;> assumption
 have fy:¬ rg (iH p q)=9218868437227405312:=by rcases hxy with ⟨_,e1⟩ | ⟨_,e1⟩ <;> rw [e1] <;> assumption
 obtain ⟨n1,_⟩:=fj nx
 obtain ⟨m1,k1⟩:=fj hn
 have e1:ap (bI p q) (neg (dF p q))=bI p q:=by
  unfold ap
  rw [if_neg (by rintro (c | c); exact hn.2 c; exact n1.2 c),if_pos h,if_neg (by rintro ⟨c,_⟩; rw [(nQ nx).1] at c; exact fx c)]
 have e2:c8 p q=neg (bI p q):=by
  unfold c8
  rw [e1]
  unfold ap
  rw [if_neg (by rintro (c | c); exact ny.2 c; exact m1.2 c),if_neg fy,if_pos (by rw [(nQ hn).1]; exact h)]
 have c0:¬ aG 0=4:=by decide
 have k0:au 0=0:=by decide
 have l1:bE (c8 p q) 0=decide (0<au (bI p q)):=by
  rw [e2]; unfold bE
  simp only [m1.2,c0,k0,k1,decide_false,Bool.not_false,Bool.true_and]
  exact decide_eq_decide.2 (by omega)
 have l2:bE 0 (c8 p q)=decide (au (bI p q)<0):=by
  rw [e2]; unfold bE
  simp only [m1.2,c0,k0,k1,decide_false,Bool.not_false,Bool.true_and]
  exact decide_eq_decide.2 (by omega)
 unfold dw dz
 rw [l1,l2]
 refine ⟨fun g=>?_,fun g=>?_⟩
 ·rw [decide_eq_true g]; exact ⟨rfl,rfl⟩
 ·rw [decide_eq_false (by omega),decide_eq_true g]; exact ⟨rfl,rfl⟩
def dA (p q:Int):Int:=if rg p=0∨rg q=0 then 0 else if rg p=9218868437227405312∨rg q=9218868437227405312 then aC (bv p q) 9218868437227405312 else dW 1 (ce p q)
def dC (p q:Int):Int:=if rg p=0∨rg q=0 then 0 else if rg p=9218868437227405312∨rg q=9218868437227405312 then aC (bv p q) 9218868437227405312 else dW 2 (ce p q)
theorem kB {p:Int} (h:nn p):0<=rg p∧rg p<=9218868437227405312:=by
 have:=(FW.pat h.2 h.1).of h.2
 exact this.2.2
theorem eM {p:Int} (h:nn p) (hf:rg p≠9218868437227405312):ak p=true:=(bw h.1).2 (by have:=kB h; omega)
theorem AN {p:Int} (h:aj p) (hp:ak p=true) (h0:rg p≠0):ar p≠0:=fun e=>by
 have hv:=bF h hp
 have hi:iV p=0:=by
  rcases Int.mul_eq_zero.1 (hv.symm.trans e) with q | q
  ·exact q
  ·have:=bD (-1074); omega
 have h5:=(gI h).1
 unfold iV at hi
 have hV:(V Ieee.double (rg p).toNat:Int)=0:=by
  cases hd:decide (p<0) <;> rw [hd] at hi
  ·exact hi
  ·have:-(V Ieee.double (rg p).toNat:Int)=0:=hi
   omega
 rcases Nat.eq_zero_or_pos (rg p).toNat with q | q
 ·omega
 ·have:=j9 Ieee.double q
  omega
theorem tR {p q:Int} (rp:aj p) (rq:aj q) (hp:ak p=true) (hq:ak q=true) (p0:rg p≠0) (q0:rg q≠0):ce p q≠0:=fun e=>by
 obtain ⟨_,_,_,_,hC⟩:=mR rp rq hp hq
 rw [e,Int.zero_mul] at hC
 rcases Int.mul_eq_zero.1 hC.symm with h | h
 ·exact AN rp hp p0 h
 ·exact AN rq hq q0 h
theorem vY {p q:Int} (rp:aj p) (rq:aj q) (hp:ak p=true) (hq:ak q=true) (h:ce p q≠0):aq p q=bu (ce p q):=by
 have h1:=(bw rp).1 hp
 have h2:=(bw rq).1 hq
 have hz:eG p q≠0:=fun e=>h (by unfold ce; rw [e]; cases bv p q <;> rfl)
 have n4:¬ (aG p=4∨aG q=4):=fun k=>by rcases k with k | k; exact cZ rp hp k; exact cZ rq hq k
 have i2:¬ (rg p=9218868437227405312∨rg q=9218868437227405312):=by omega
 unfold aq
 rw [if_neg n4,if_neg i2,if_neg hz]
 rfl
theorem G5 {l:Int} (h:aG l≠4):(bE l 0=true ↔ au l<0)∧(bE 0 l=true ↔ 0<au l):=by
 have c0:¬ aG 0=4:=by decide
 have k0:au 0=0:=by decide
 unfold bE
 rw [k0]
 simp [h,c0]
theorem Lq {p q:Int} (rp:aj p) (rq:aj q) (hp:ak p=true) (hq:ak q=true) (p0:rg p≠0) (q0:rg q≠0) (hd:283726776524341248<=rg (aq p q)) :
  dw (aq p q) (fp p q (neg (aq p q)))=dW 1 (ce p q)∧dz (aq p q) (fp p q (neg (aq p q)))=dW 2 (ce p q):=by
 have hV:=tR rp rq hp hq p0 q0
 have hN:=vY rp rq hp hq hV
 rw [hN] at hd ⊢
 obtain ⟨rn,cn⟩:=ef hV
 cases hf:ak (bu (ce p q))
 ·have hi:=AM hV hf
  have hm:∀ r,aj r->rg r=9218868437227405312->aG r≠4->fp p q r=r:=fun r hr h1 h4=>by
   have h5:=(bw rp).1 hp
   have h6:=(bw rq).1 hq
   have n4:¬ (aG p=4∨aG q=4∨aG r=4):=fun k=>by rcases k with k | k | k; exact cZ rp hp k; exact cZ rq hq k; exact h4 k
   have i2:¬ (rg p=9218868437227405312∨rg q=9218868437227405312):=by omega
   unfold fp
   rw [if_neg n4,if_neg i2,if_pos h1]
  rcases Int.lt_or_gt_of_ne hV with hn | hn
  ·obtain ⟨e0,e1,e2⟩:=hi.2 hn
   rw [e0,e1,e2,show neg (-4503599627370496)=9218868437227405312 by decide,hm _ (by unfold aj; omega) (by decide) (by decide)]
   exact ⟨by decide,by decide⟩
  ·obtain ⟨e0,e1,e2⟩:=hi.1 hn
   rw [e0,e1,e2,show neg 9218868437227405312=-4503599627370496 by decide,hm _ (by unfold aj; omega) (by decide) (by decide)]
   exact ⟨by decide,by decide⟩
 ·obtain ⟨d1,d2,d3⟩:=AL hV hf
  have e0:=GY hV
  have hr:=(bw rn).1 hf
  obtain ⟨S,hS,hF,hb⟩:=EE (way:=0) rp rq hp hq hV (by rw [e0]; exact hd) (.inr ⟨rfl,by rw [e0]; exact hr⟩)
  rw [e0] at hS
  generalize bu (ce p q)=n at *
  obtain ⟨rm,pm,im⟩:=bS rn hf
  have hfS:mz p q (neg n)=ce p q-ar n:=by
   rw [JT,G3 rn hf]
   omega
  by_cases h0:ce p q-ar n=0
  ·have hl:fp p q (neg n)=aC (bv p q && decide (neg n<0)) 0:=G0 rp rq rm hp hq pm (hfS.trans h0)
   have h1:bE (fp p q (neg n)) 0=false:=by rw [hl]; cases (bv p q && decide (neg n<0)) <;> decide
   have h2:bE 0 (fp p q (neg n))=false:=by rw [hl]; cases (bv p q && decide (neg n<0)) <;> decide
   unfold dw dz
   rw [h1,h2]
   have:=d3 (by omega)
   exact ⟨this.1,this.2⟩
  ·have hS0:S≠0:=fun e=>h0 (by rw [hS,e,Int.zero_mul])
   obtain ⟨g1,g2,g3⟩:=BW hF hS0 hb
   have hl:fp p q (neg n)=bu (S*pw (-1074)):=by
    have h5:=(bw rp).1 hp
    have h6:=(bw rq).1 hq
    have h7:=(bw rm).1 pm
    have n4:¬ (aG p=4∨aG q=4∨aG (neg n)=4):=fun k=>by rcases k with k | k | k; exact cZ rp hp k; exact cZ rq hq k; exact cZ rm pm k
    have i2:¬ (rg p=9218868437227405312∨rg q=9218868437227405312):=by omega
    have i3:¬ rg (neg n)=9218868437227405312:=by omega
    unfold fp
    rw [if_neg n4,if_neg i2,if_neg i3,hfS,if_neg h0,hS]
   rw [hl]
   generalize bu (S*pw (-1074))=l at *
   obtain ⟨k1,k2⟩:=my g1
   rw [g3] at k1 k2
   obtain ⟨l1,l2⟩:=G5 (cZ g1 g2)
   have hq2:=bD (-1074)
   unfold dw dz
   rcases Int.lt_or_gt_of_ne hS0 with hn | hn
   ·have hD:ce p q-ar n<0:=by rw [hS]; exact Int.mul_neg_of_neg_of_pos hn hq2
    rw [l1.2 (k1.1 hn)]
    clear hS hq2
    have:=d1 (by omega)
    exact ⟨this.1,this.2⟩
   ·have hD:0<ce p q-ar n:=by rw [hS]; exact Int.mul_pos hn hq2
    have hno:bE l 0=false:=by
     cases h:bE l 0
     ·rfl
     ·have:=k1.2 (l1.1 h); omega
    rw [hno,l2.2 (k2.1 hn)]
    clear hS hq2
    have:=d2 (by omega)
    exact ⟨this.1,this.2⟩
theorem JV {p q:Int} (hp:nn p) (hq:nn q) (p0:rg p≠0) (q0:rg q≠0) (hi:rg p=9218868437227405312∨rg q=9218868437227405312) :
  aq p q=aC (bv p q) 9218868437227405312∧fp p q (neg (aq p q))=9221120237041090561:=by
 have n4:¬ (aG p=4∨aG q=4):=fun k=>by rcases k with k | k; exact hp.2 k; exact hq.2 k
 have i2:¬ (rg p=0∨rg q=0):=by omega
 have e:aq p q=aC (bv p q) 9218868437227405312:=by
  unfold aq
  rw [if_neg n4,if_pos hi,if_neg i2]
 refine ⟨e,?_⟩
 rw [e]
 have hneg:neg (aC (bv p q) 9218868437227405312)=aC (!bv p q) 9218868437227405312:=by cases bv p q <;> decide
 rw [hneg]
 have c4:¬ aG (aC (!bv p q) 9218868437227405312)=4:=by cases bv p q <;> decide
 have r4:rg (aC (!bv p q) 9218868437227405312)=9218868437227405312:=by cases bv p q <;> decide
 have s4:decide (aC (!bv p q) 9218868437227405312<0)=!bv p q:=by cases bv p q <;> decide
 have n5:¬ (aG p=4∨aG q=4∨aG (aC (!bv p q) 9218868437227405312)=4):=fun k=>by rcases k with k | k | k; exact hp.2 k; exact hq.2 k; exact c4 k
 have n6:rg (aC (!bv p q) 9218868437227405312)=9218868437227405312∧¬ bv p q=decide (aC (!bv p q) 9218868437227405312<0):=⟨r4,by rw [s4]; cases bv p q <;> decide⟩
 unfold fp
 rw [if_neg n5,if_pos hi,if_neg i2,if_pos n6]
end Go.Proofs.YtcjfonaolcokbaaGreatDoor
namespace Go.Proofs.YtcjfonaolcokbaaGreatDoor
open Go Go.RowKit Go.Proofs.YtcjfonaolcokbaaGreatDoor.M Ieee
theorem JW (x y z:Nat):∃ a b,Extern.MathFMA.fma #[.float .f64 x,.float .f64 y,.float .f64 z]=Option.casesOn (motive:=fun _=>Sem Value) (FloatKind.f64.format.fma x y z) (do pure (.float .f64 (<- choose (.nanBits .f64 a b)))) (fun r=>pure (.float .f64 r)):=by
  cases h1:Extern.MathFMA.isNaN x with
  | true=>exact ⟨x,y,by
      have:Extern.MathFMA.fma #[.float .f64 x,.float .f64 y,.float .f64 z]=Option.casesOn (motive:=fun _=>Sem Value) (FloatKind.f64.format.fma x y z) (match (if Extern.MathFMA.isNaN x then (x,y) else if Extern.MathFMA.isNaN y then (y,z) else (z,z)) with | (a,b)=>do pure (.float .f64 (<- choose (.nanBits .f64 a b)))) (fun r=>pure (.float .f64 r)):=by kernel_rfl
      rw [this,h1]; rfl⟩
  | false=>
    cases h2:Extern.MathFMA.isNaN y with
    | true=>exact ⟨y,z,by
        have:Extern.MathFMA.fma #[.float .f64 x,.float .f64 y,.float .f64 z]=Option.casesOn (motive:=fun _=>Sem Value) (FloatKind.f64.format.fma x y z) (match (if Extern.MathFMA.isNaN x then (x,y) else if Extern.MathFMA.isNaN y then (y,z) else (z,z)) with | (a,b)=>do pure (.float .f64 (<- choose (.nanBits .f64 a b)))) (fun r=>pure (.float .f64 r)):=by kernel_rfl
        rw [this,h1,h2]; rfl⟩
    | false=>exact ⟨z,z,by
        have:Extern.MathFMA.fma #[.float .f64 x,.float .f64 y,.float .f64 z]=Option.casesOn (motive:=fun _=>Sem Value) (FloatKind.f64.format.fma x y z) (match (if Extern.MathFMA.isNaN x then (x,y) else if Extern.MathFMA.isNaN y then (y,z) else (z,z)) with | (a,b)=>do pure (.float .f64 (<- choose (.nanBits .f64 a b)))) (fun r=>pure (.float .f64 r)):=by kernel_rfl
        rw [this,h1,h2]; rfl⟩
theorem G6 {p q r:Int} {x y z:Nat} (hx:FW p x) (hy:FW q y) (hz:FW r z) (w:World) :
  ∃ t w',(callFunc 113 #[.float .f64 x,.float .f64 y,.float .f64 z]).run Tryz.prog w=.ok (.value (.float .f64 t)) w'∧FW (fp p q r) t∧(w'=w∨w'=w.drew):=by
 rw [run_callFunc_extern Tryz.func113 (by kernel_rfl) (by kernel_rfl) (by kernel_rfl) (e:=Extern.MathFMA.fma) (by kernel_rfl)]
 obtain ⟨a,b,hab⟩:=JW x y z
 rw [hab]
 rcases Ll hx hy hz with ⟨t,e1,e2⟩ | ⟨e1,e2⟩
 ·refine ⟨t,w,?_,e2,.inl rfl⟩
  have e1':FloatKind.f64.format.fma x y z=some t:=e1
  rw [e1']
  simp
 ·have e1':FloatKind.f64.format.fma x y z=none:=e1
  rw [e1']
  refine ⟨(Question.nanBits .f64 a b).cut (w.tape w.drawn (.nanBits .f64 a b)),w.drew,?_,?_,.inr rfl⟩
  ·simp
   exact fun hf=>absurd (show false=true from hf) (by decide)
  ·rw [e2]
   exact FW.nan (Ak a b (w.tape w.drawn (.nanBits .f64 a b)))
end Go.Proofs.YtcjfonaolcokbaaGreatDoor
