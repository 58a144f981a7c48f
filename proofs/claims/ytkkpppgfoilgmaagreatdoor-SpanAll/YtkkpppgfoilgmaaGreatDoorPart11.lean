/- Parts of the proof. -/
import Derived.Test.YtkkpppgfoilgmaaGreatDoorPart10
import Derived.Test.YtkkpppgfoilgmaaGreatDoorPart9
import Derived.Test.YtkkpppgfoilgmaaGreatDoorPart1
import Derived.Test.YtkkpppgfoilgmaaGreatDoorPart7
set_option maxRecDepth 100000
set_option maxHeartbeats 8000000
set_option linter.unusedVariables false
set_option linter.unusedSimpArgs false
namespace Go.Proofs.YtkkpppgfoilgmaaGreatDoor
open Go Go.Proofs.Tryz Go.RowKit Go.Proofs.YtkkpppgfoilgmaaGreatDoor.M
theorem lH {p:Int} (h:nn p) (w:World) :
  Calls prog 121 #[.float .f64 (wd p)] w fun e w'=>e=.returned (.bool false)∧w'=w:=by
 have n0:=Dq h.1
 rw[decide_eq_false h.2] at n0
 go_enter func121,ntmps121
 go_wp2
 go_ret
 exact⟨rfl,rfl⟩
theorem Fg (w:World) :
  Calls prog 102 #[.int .i64 1] w fun e w'=>e=.returned (.float .f64 9218868437227405312)∧w'=w:=by
 have hd:=eP
 go_enter func102,ntmps102
 go_wp2
 go_ret
 exact⟨rfl,rfl⟩
theorem BB (w:World) :
  Calls prog 102 #[.int .i64 (-1)] w fun e w'=>e=.returned (.float .f64 18442240474082181120)∧w'=w:=by
 have hd:=eP
 go_enter func102,ntmps102
 go_wp2
 go_ret
 exact⟨rfl,rfl⟩
theorem DJ (w:World) :
  Calls prog 123 #[.float .f64 1,.float .f64 9218868437227405312] w fun e w'=>e=.returned (.float .f64 1)∧w'=w:=by
 have hd:=eP
 have hb:=gw
 have e1:bits .andNot .u64 1 9223372036854775808=1:=by decide
 have e2:bits .and .u64 9218868437227405312 9223372036854775808=0:=by decide
 have e3:bits .or .u64 1 0=1:=by decide
 go_enter func123,ntmps123
 go_wp2
 go_ret
 exact⟨rfl,rfl⟩
theorem zo (w:World) :
  Calls prog 123 #[.float .f64 1,.float .f64 18442240474082181120] w fun e w'=>e=.returned (.float .f64 9223372036854775809)∧w'=w:=by
 have hd:=eP
 have hb:=gw
 have e1:bits .andNot .u64 1 9223372036854775808=1:=by decide
 have e2:bits .and .u64 18442240474082181120 9223372036854775808=9223372036854775808:=by decide
 have e3:bits .or .u64 1 9223372036854775808=9223372036854775809:=by decide
 go_enter func123,ntmps123
 go_wp2
 go_ret
 exact⟨rfl,rfl⟩
theorem DK {p:Int} (h:nn p) (w:World) :
  Calls prog 101 #[.float .f64 (wd p),.float .f64 9218868437227405312] w fun e w'=>e=.returned (.float .f64 (wd (next p)))∧w'=w:=by
 have hd:=eP
 have hbt:=gw
 have ey:wd 9218868437227405312=9218868437227405312:=by decide
 have ny:nn 9218868437227405312:=⟨by unfold au;omega,by decide⟩
 have ky:aw 9218868437227405312=9218868437227405312:=by decide
 have n0:nn 0:=dR.1
 have k0:aw 0=0:=by decide
 have e0:wd 0=0:=by decide
 have hr:=h.1
 unfold au at hr
 have CX:Hid (∀ W,Calls prog 121 #[.float .f64 (wd p)] W fun e w'=>e=.returned (.bool false)∧w'=W):=fun W=>lH h W
 have CY:Hid (∀ W,Calls prog 121 #[.float .f64 9218868437227405312] W fun e w'=>e=.returned (.bool false)∧w'=W):=fun W=>by rw[<- ey];exact lH ny W
 have hw:=sG p
 by_cases a1:p=9218868437227405312
 ·subst a1
  have o1:=gN h.1 ny.1 h.2 ny.2 rfl
  rw[ey] at o1 CX ⊢
  clear hr
  go_enter func101,ntmps101
  go_wp2_with fail
  refine(CX.out _).mono ?_
  rintro _ _ ⟨rfl,rfl⟩
  go_wp2_with fail
  refine(CY.out _).mono ?_
  rintro _ _ ⟨rfl,rfl⟩
  go_wp2
  go_ret
  exact⟨dY (by first|rfl|(rw[si,ey])|(rw[si];exact ey.symm)),rfl⟩
 have kp:aw p<9218868437227405312:=by
  have h4:=gV h.2
  unfold aw bN bZ at *
  split<;>omega
 have o1:=gL h.1 ny.1 h.2 ny.2 (by rw[ky];exact kp)
 have o2:=gM ny.1 h.1 ny.2 h.2 (by rw[ky];exact kp)
 rw[ey] at o1 o2
 rcases Int.lt_trichotomy (aw p) 0 with g|g|g
 ·have o3:=gL h.1 n0.1 h.2 n0.2 (by rw[k0];exact g)
  rw[e0] at o3
  have hp:p<0∧p ≠ -9223372036854775808:=by unfold aw at g;split at g<;>omega
  have hn:next p=p-1:=by unfold next;rw[if_neg h.2,if_neg a1,if_neg hp.2,if_pos hp.1]
  have hv:wd (p-1)=wd p-1∧1<=wd p:=by unfold wd;omega
  clear hr
  go_enter func101,ntmps101
  go_wp2_with fail
  refine(CX.out _).mono ?_
  rintro _ _ ⟨rfl,rfl⟩
  go_wp2_with fail
  refine(CY.out _).mono ?_
  rintro _ _ ⟨rfl,rfl⟩
  go_wp2
  go_ret
  exact⟨dY (by rw[hn,hv.1]),rfl⟩
 ·have o3:=gN h.1 n0.1 h.2 n0.2 (by rw[k0];exact g)
  rw[e0] at o3
  have hp:p=0∨p=-9223372036854775808:=by unfold aw at g;split at g<;>omega
  have hn:next p=1:=by rcases hp with rfl|rfl<;>decide
  have e1:wd 1=1:=by decide
  clear hr
  go_enter func101,ntmps101
  go_wp2_with fail
  refine(CX.out _).mono ?_
  rintro _ _ ⟨rfl,rfl⟩
  go_wp2_with fail
  refine(CY.out _).mono ?_
  rintro _ _ ⟨rfl,rfl⟩
  go_wp2_with (go_at_call 123;refine(DJ _).mono ?_;rintro _ _ ⟨rfl,rfl⟩)
  go_ret
  exact⟨dY (by rw[hn];exact e1.symm),rfl⟩
 ·have o3:=gM h.1 n0.1 h.2 n0.2 (by rw[k0];exact g)
  rw[e0] at o3
  have hp:0<p:=by unfold aw at g;split at g<;>omega
  have hn:next p=p+1:=by unfold next;rw[if_neg h.2,if_neg a1,if_neg (by omega),if_neg (by omega)]
  have hv:wd (p+1)=wd p+1∧wd p<9223372036854775808:=by unfold wd;unfold aw at kp;split at kp<;>omega
  clear hr
  go_enter func101,ntmps101
  go_wp2_with fail
  refine(CX.out _).mono ?_
  rintro _ _ ⟨rfl,rfl⟩
  go_wp2_with fail
  refine(CY.out _).mono ?_
  rintro _ _ ⟨rfl,rfl⟩
  go_wp2
  go_ret
  exact⟨dY (by rw[hn,hv.1]),rfl⟩
theorem kC {p:Int} (h:nn p) (a1:¬ p=-4503599627370496):c9 p=if p=0∨p=-9223372036854775808 then -9223372036854775807 else if p<0 then p+1 else p-1:=by
 have hr:=h.1
 have h4:=gV h.2
 unfold au at hr
 by_cases z:p=0∨p=-9223372036854775808
 ·rw[if_pos z];rcases z with rfl|rfl<;>decide
 rw[if_neg z]
 obtain⟨n1,k1⟩:=cu h
 have e1:neg p=if p<0 then p+9223372036854775808 else p-9223372036854775808:=by unfold neg;rw[if_neg h.2]
 have i1:¬ neg p=9218868437227405312:=by rw[e1];split<;>omega
 obtain⟨_,n2,_,_⟩:=nW n1.1 n1.2 i1
 have e2:next (neg p)=if neg p<0 then neg p-1 else neg p+1:=by unfold next;rw[if_neg n1.2,if_neg i1,if_neg (by rw[e1];split<;>omega)]
 unfold c9
 unfold neg
 rw[if_neg (by exact n2)]
 show(if next (neg p)<0 then next (neg p)+9223372036854775808 else next (neg p)-9223372036854775808)=_
 rw[e2,e1]
 unfold bN bZ at h4
 repeat' split
 all_goals omega
theorem zr {p:Int} (h:nn p) (w:World) :
  Calls prog 101 #[.float .f64 (wd p),.float .f64 18442240474082181120] w fun e w'=>e=.returned (.float .f64 (wd (c9 p)))∧w'=w:=by
 have hd:=eP
 have hbt:=gw
 have ey:wd (-4503599627370496)=18442240474082181120:=by decide
 have ny:nn (-4503599627370496):=⟨by unfold au;omega,by decide⟩
 have ky:aw (-4503599627370496)=-9218868437227405312:=by decide
 have n0:nn 0:=dR.1
 have k0:aw 0=0:=by decide
 have e0:wd 0=0:=by decide
 have hr:=h.1
 unfold au at hr
 have CX:Hid (∀ W,Calls prog 121 #[.float .f64 (wd p)] W fun e w'=>e=.returned (.bool false)∧w'=W):=fun W=>lH h W
 have CY:Hid (∀ W,Calls prog 121 #[.float .f64 18442240474082181120] W fun e w'=>e=.returned (.bool false)∧w'=W):=fun W=>by rw[<- ey];exact lH ny W
 have hw:=sG p
 by_cases a1:p=-4503599627370496
 ·subst a1
  have o1:=gN h.1 ny.1 h.2 ny.2 rfl
  rw[ey] at o1 CX ⊢
  clear hr
  go_enter func101,ntmps101
  go_wp2_with fail
  refine(CX.out _).mono ?_
  rintro _ _ ⟨rfl,rfl⟩
  go_wp2_with fail
  refine(CY.out _).mono ?_
  rintro _ _ ⟨rfl,rfl⟩
  go_wp2
  go_ret
  exact⟨dY (by rw[show c9 (-4503599627370496)=-4503599627370496 by decide];exact ey.symm),rfl⟩
 have kp:-9218868437227405312<aw p:=by
  have h4:=gV h.2
  unfold aw bN bZ at *
  split<;>omega
 have o1:=gM h.1 ny.1 h.2 ny.2 (by rw[ky];exact kp)
 have o2:=gL ny.1 h.1 ny.2 h.2 (by rw[ky];exact kp)
 rw[ey] at o1 o2
 rcases Int.lt_trichotomy (aw p) 0 with g|g|g
 ·have o3:=gL h.1 n0.1 h.2 n0.2 (by rw[k0];exact g)
  rw[e0] at o3
  have hp:p<0∧p ≠ -9223372036854775808:=by unfold aw at g;split at g<;>omega
  have hn:c9 p=p+1:=by have:=sf h.1 h.2 a1;have hq:=kC h a1;rw[hq,if_neg (by omega),if_pos hp.1]
  have hv:wd (p+1)=wd p+1∧wd p<18446744073709551615:=by unfold wd;unfold aw at kp;split at kp<;>omega
  clear hr
  go_enter func101,ntmps101
  go_wp2_with fail
  refine(CX.out _).mono ?_
  rintro _ _ ⟨rfl,rfl⟩
  go_wp2_with fail
  refine(CY.out _).mono ?_
  rintro _ _ ⟨rfl,rfl⟩
  go_wp2
  go_ret
  exact⟨dY (by rw[hn,hv.1]),rfl⟩
 ·have o3:=gN h.1 n0.1 h.2 n0.2 (by rw[k0];exact g)
  rw[e0] at o3
  have hp:p=0∨p=-9223372036854775808:=by unfold aw at g;split at g<;>omega
  have hn:c9 p=-9223372036854775807:=by rcases hp with rfl|rfl<;>decide
  have e1:wd (-9223372036854775807)=9223372036854775809:=by decide
  clear hr
  go_enter func101,ntmps101
  go_wp2_with fail
  refine(CX.out _).mono ?_
  rintro _ _ ⟨rfl,rfl⟩
  go_wp2_with fail
  refine(CY.out _).mono ?_
  rintro _ _ ⟨rfl,rfl⟩
  go_wp2_with (go_at_call 123;refine(zo _).mono ?_;rintro _ _ ⟨rfl,rfl⟩)
  go_ret
  exact⟨dY (by rw[hn];exact e1.symm),rfl⟩
 ·have o3:=gM h.1 n0.1 h.2 n0.2 (by rw[k0];exact g)
  rw[e0] at o3
  have hp:0<p:=by unfold aw at g;split at g<;>omega
  have hn:c9 p=p-1:=by rw[kC h a1,if_neg (by omega),if_neg (by omega)]
  have hv:wd (p-1)=wd p-1∧1<=wd p:=by unfold wd;omega
  clear hr
  go_enter func101,ntmps101
  go_wp2_with fail
  refine(CX.out _).mono ?_
  rintro _ _ ⟨rfl,rfl⟩
  go_wp2_with fail
  refine(CY.out _).mono ?_
  rintro _ _ ⟨rfl,rfl⟩
  go_wp2
  go_ret
  exact⟨dY (by rw[hn,hv.1]),rfl⟩
theorem vu {p:Int} (h:nn p) (l:Nat) (o:FloatKind.f64.format.order l 0=some .lt) (w:World) :
  Calls prog 78 #[.float .f64 (wd p),.float .f64 l] w fun e w'=>e=.returned (.agg #[.float .f64 (wd (c9 p)),.float .f64 (wd p)])∧w'=w.alloc (.cells #[.float .f64 (wd (c9 p)),.float .f64 (wd p)] 64):=by
 have hst:∀ (p:Addr) (n:Nat) (m:Mode) (w:World),(store p (.float .f64 n) m).run prog w=stored prog w p (.float .f64 n) m:=fun p n m w=>run_store _ w p _ m rfl
 have CI:Hid (∀ W,Calls prog 102 #[.int .i64 (-1)] W fun e w'=>e=.returned (.float .f64 18442240474082181120)∧w'=W):=fun W=>BB W
 have CN:Hid (∀ W,Calls prog 101 #[.float .f64 (wd p),.float .f64 18442240474082181120] W fun e w'=>e=.returned (.float .f64 (wd (c9 p)))∧w'=W):=fun W=>zr h W
 have hg:(w.alloc (.cells #[.float .f64 (wd (c9 p)),.float .f64 (wd p)] 64)).heap[w.heap.size]?=some (.cells #[.float .f64 (wd (c9 p)),.float .f64 (wd p)] 64 (0,0)):=by show(w.heap.push _)[w.heap.size]?=_;simp
 have e0:=aa hg 0 rfl
 have e1:=aa hg 1 rfl
 clear h
 go_enter func78,ntmps78
 go_wp2_with fail
 refine(CI.out _).mono ?_
 rintro _ _ ⟨rfl,rfl⟩
 go_wp2_with fail
 refine(CN.out _).mono ?_
 rintro _ _ ⟨rfl,rfl⟩
 go_wp2
 refine bodyPost_ret (v:=.agg #[.float .f64 (wd (c9 p)),.float .f64 (wd p)]) (by simp[results,results78,go_sem,e0,e1]) rfl ⟨rfl,rfl⟩
theorem zt {p:Int} (h:nn p) (l:Nat) (o:FloatKind.f64.format.order l 0=some .gt) (w:World) :
  Calls prog 78 #[.float .f64 (wd p),.float .f64 l] w fun e w'=>e=.returned (.agg #[.float .f64 (wd p),.float .f64 (wd (next p))])∧w'=w.alloc (.cells #[.float .f64 (wd p),.float .f64 (wd (next p))] 64):=by
 have hst:∀ (p:Addr) (n:Nat) (m:Mode) (w:World),(store p (.float .f64 n) m).run prog w=stored prog w p (.float .f64 n) m:=fun p n m w=>run_store _ w p _ m rfl
 have CI:Hid (∀ W,Calls prog 102 #[.int .i64 1] W fun e w'=>e=.returned (.float .f64 9218868437227405312)∧w'=W):=fun W=>Fg W
 have CN:Hid (∀ W,Calls prog 101 #[.float .f64 (wd p),.float .f64 9218868437227405312] W fun e w'=>e=.returned (.float .f64 (wd (next p)))∧w'=W):=fun W=>DK h W
 have hg:(w.alloc (.cells #[.float .f64 (wd p),.float .f64 (wd (next p))] 64)).heap[w.heap.size]?=some (.cells #[.float .f64 (wd p),.float .f64 (wd (next p))] 64 (0,0)):=by show(w.heap.push _)[w.heap.size]?=_;simp
 have e0:=aa hg 0 rfl
 have e1:=aa hg 1 rfl
 clear h
 go_enter func78,ntmps78
 go_wp2_with fail
 refine(CI.out _).mono ?_
 rintro _ _ ⟨rfl,rfl⟩
 go_wp2_with fail
 refine(CN.out _).mono ?_
 rintro _ _ ⟨rfl,rfl⟩
 go_wp2
 refine bodyPost_ret (v:=.agg #[.float .f64 (wd p),.float .f64 (wd (next p))]) (by simp[results,results78,go_sem,e0,e1]) rfl ⟨rfl,rfl⟩
theorem vv (p l:Nat) (o:FloatKind.f64.format.order l 0=some .eq∨FloatKind.f64.format.order l 0=none) (w:World) :
  Calls prog 78 #[.float .f64 p,.float .f64 l] w fun e w'=>e=.returned (.agg #[.float .f64 p,.float .f64 p])∧w'=w.alloc (.cells #[.float .f64 p,.float .f64 p] 64):=by
 have hst:∀ (p:Addr) (n:Nat) (m:Mode) (w:World),(store p (.float .f64 n) m).run prog w=stored prog w p (.float .f64 n) m:=fun p n m w=>run_store _ w p _ m rfl
 have hg:(w.alloc (.cells #[.float .f64 p,.float .f64 p] 64)).heap[w.heap.size]?=some (.cells #[.float .f64 p,.float .f64 p] 64 (0,0)):=by show(w.heap.push _)[w.heap.size]?=_;simp
 have e0:=aa hg 0 rfl
 have e1:=aa hg 1 rfl
 rcases o with o|o
 all_goals
  go_enter func78,ntmps78
  go_wp2
  refine bodyPost_ret (v:=.agg #[.float .f64 p,.float .f64 p]) (by simp[results,results78,go_sem,e0,e1]) rfl ⟨rfl,rfl⟩
theorem lI (x:Int):sg true x=-x:=rfl
theorem lJ (x:Int):sg false x=x:=rfl
theorem gD {ng:Bool} {r0:Nat} {left:Int} (way:Int) (h:(r0:Int)<9218868437227405312):aX way ng r0 left=(r0:Int)+(if bm way ng (decide (r0 % 2=1)) left then 1 else 0):=by
 unfold aX;rw[if_pos h]
theorem mz {V:Int} (h0:V≠0):∃ (g:Bool) (A:Int) (r0:Nat) (left:Int),V=sg g A∧0<A∧cZ A r0 left∧br V=ay g (aX 0 g r0 left)∧df 1 V=ay g (aX 1 g r0 left)∧df 2 V=ay g (aX 2 g r0 left):=by
 obtain⟨A,r0,left,e1,hR,e2⟩:=fE h0
 have hA:0<A:=by
  by_cases hn:V<0
  ·rw[decide_eq_true hn] at e1
   have:V=-A:=e1
   omega
  ·rw[decide_eq_false hn] at e1
   have:V=A:=e1
   omega
 exact⟨decide (V<0),A,r0,left,e1,hA,hR,e2,mu h0 ⟨A,r0,left,e1,hR,rfl⟩,mu h0 ⟨A,r0,left,e1,hR,rfl⟩⟩
theorem iu {g:Bool} {r:Int} (h0:0<=r) (h1:r<=9218868437227405312):nn (ay g r):=by
 obtain⟨a,b⟩:=fC (ng:=g) h0 h1
 exact⟨a,b⟩
theorem xl {r:Int} (h0:0<=r) (h1:r<9218868437227405312):next (ay false r)=ay false (r+1):=by
 have hn:=iu (g:=false) h0 (by omega)
 unfold next
 rw[if_neg hn.2]
 show(if r=9218868437227405312 then r else if r=-9223372036854775808 then 1 else if r<0 then r-1 else r+1)=r+1
 rw[if_neg (by omega),if_neg (by omega),if_neg (by omega)]
theorem xm {r:Int} (h0:0<=r) (h1:r<9218868437227405312):next (ay true (r+1))=ay true r:=by
 have hn:=iu (g:=true) (show 0<=r+1 by omega) (by omega)
 unfold next
 rw[if_neg hn.2]
 show(if r+1-9223372036854775808=9218868437227405312 then r+1-9223372036854775808 else if r+1-9223372036854775808=-9223372036854775808 then 1 else if r+1-9223372036854775808<0 then r+1-9223372036854775808-1 else r+1-9223372036854775808+1)=r-9223372036854775808
 rw[if_neg (by omega),if_neg (by omega),if_pos (by omega)]
 omega
theorem xp {r:Int} (h0:0<=r) (h1:r<9218868437227405312):c9 (ay false (r+1))=ay false r:=by
 have hn:=iu (g:=false) (show 0<=r+1 by omega) (by omega)
 rw[kC hn (show ¬ r+1=-4503599627370496 by omega)]
 show(if r+1=0∨r+1=-9223372036854775808 then (-9223372036854775807:Int) else if r+1<0 then r+1+1 else r+1-1)=r
 rw[if_neg (by omega),if_neg (by omega)]
 omega
theorem xq {r:Int} (h0:0<=r) (h1:r<9218868437227405312):c9 (ay true r)=ay true (r+1):=by
 have hn:=iu (g:=true) h0 (by omega)
 rw[kC hn (show ¬ r-9223372036854775808=-4503599627370496 by omega)]
 show(if r-9223372036854775808=0∨r-9223372036854775808=-9223372036854775808 then (-9223372036854775807:Int) else if r-9223372036854775808<0 then r-9223372036854775808+1 else r-9223372036854775808-1)=r+1-9223372036854775808
 by_cases hr:r=0
 ·rw[if_pos (by omega)];omega
 ·rw[if_neg (by omega),if_pos (by omega)];omega
theorem oN (odd:Bool) (left:Int):bm 1 false odd left=false∧(left≠0->bm 1 true odd left=true)∧bm 2 true odd left=false∧(left≠0->bm 2 false odd left=true)∧(∀ way g,left=0->bm way g odd left=false):=by
 refine⟨?_,fun h=>?_,?_,fun h=>?_,fun way g h=>?_⟩
 ·unfold bm;simp
 ·unfold bm;simp[h]
 ·unfold bm;simp
 ·unfold bm;simp[h]
 ·cases hu:bm way g odd left
  ·rfl
  ·rw[h] at hu;exact absurd hu (fun q=>fz q)
theorem uj {V:Int} (h0:V≠0) (hf:aC (br V)=true) :
  (V<aF (br V)->c9 (br V)=df 1 V∧br V=df 2 V)∧(aF (br V)<V->br V=df 1 V∧next (br V)=df 2 V)∧(V=aF (br V)->br V=df 1 V∧br V=df 2 V):=by
 obtain⟨g,A,r0,left,e,hA,hR,en,e1,e2⟩:=mz h0
 have hrr:=cm 0 g r0 left
 rw[en,iW hrr.1 hrr.2] at hf
 have hf:=of_decide_eq_true hf
 have hr0:(r0:Int)<9218868437227405312:=by
  rcases Int.lt_or_le (r0:Int) 9218868437227405312 with q|q
  ·exact q
  ·exfalso
   unfold aX at hf
   rw[if_neg (by omega)] at hf
   unfold cL at hf
   rw[show bm 0 g true 3=true by cases g<;>decide,if_pos rfl] at hf
   omega
 obtain⟨lo,hi,l0,l1,l2,l3⟩:=hR
 obtain⟨u1,u2,u3,u4,u5⟩:=oN (decide (r0 % 2=1)) left
 rw[en,e1,e2,gD 1 hr0,gD 2 hr0]
 rw[gD 0 hr0] at hf ⊢
 have pv:∀ r:Nat,(r:Int)<9218868437227405312->aF (ay g (r:Int))=sg g (vS r):=fun r hr=>by
  cases g
  ·exact eQ hr (fun q=>by cases q)
  ·exact nX hr
 have pv0:=pv r0 hr0
 have pv1:=pv (r0+1)
 clear pv l1 l2 l3
 generalize vS r0=a at *
 generalize vS (r0+1)=b at *
 by_cases hl:left=0
 ·have ha:=l0.1 hl
  rw[u5 0 g hl,u5 1 g hl,u5 2 g hl]
  simp only[Bool.false_eq_true,if_false,Int.add_zero] at hf ⊢
  rw[pv0,e,ha]
  clear pv0 pv1 en e1 e2 e h0
  exact⟨fun q=>absurd q (by omega),fun q=>absurd q (by omega),fun _=>⟨trivial,trivial⟩⟩
 ·have hlt:a<A:=by
   have:A≠a:=fun q=>hl (l0.2 q)
   omega
  cases hu:bm 0 g (decide (r0 % 2=1)) left
  ·rw[hu] at hf
   simp only[Bool.false_eq_true,if_false,Int.add_zero] at hf ⊢
   rw[pv0,e]
   clear pv0 pv1 en e1 e2 e h0
   cases g
   ·rw[u1,u4 hl]
    simp only[Bool.false_eq_true,if_false,if_true,Int.add_zero]
    refine⟨fun q=>?_,fun _=>⟨trivial,xl (by omega) hr0⟩,fun q=>?_⟩
    ·rw[lJ,lJ] at q
     omega
    ·rw[lJ,lJ] at q
     omega
   ·rw[u2 hl,u3]
    simp only[Bool.false_eq_true,if_false,if_true,Int.add_zero]
    refine⟨fun _=>⟨xq (by omega) hr0,trivial⟩,fun q=>?_,fun q=>?_⟩
    ·rw[lI,lI] at q
     omega
    ·rw[lI,lI] at q
     omega
  ·rw[hu] at hf
   simp only[if_true] at hf ⊢
   rw[show(r0:Int)+1=((r0+1:Nat):Int) by push_cast;rfl] at hf ⊢
   rw[pv1 hf,e]
   clear pv0 pv1 en e1 e2 e h0
   rw[show((r0+1:Nat):Int)=(r0:Int)+1 by push_cast;rfl]
   cases g
   ·rw[u1,u4 hl]
    simp only[Bool.false_eq_true,if_false,if_true,Int.add_zero]
    refine⟨fun _=>⟨xp (by omega) hr0,trivial⟩,fun q=>?_,fun q=>?_⟩
    ·rw[lJ,lJ] at q
     omega
    ·rw[lJ,lJ] at q
     omega
   ·rw[u2 hl,u3]
    simp only[Bool.false_eq_true,if_false,if_true,Int.add_zero]
    refine⟨fun q=>?_,fun _=>⟨trivial,xm (by omega) hr0⟩,fun q=>?_⟩
    ·rw[lI,lI] at q
     omega
    ·rw[lI,lI] at q
     omega
theorem uk {V:Int} (h0:V≠0) (hf:aC (br V)=false) :
  (0<V->br V=9218868437227405312∧df 1 V=9218868437227405311∧df 2 V=9218868437227405312)∧(V<0->br V=-4503599627370496∧df 1 V=-4503599627370496∧df 2 V=-4503599627370497):=by
 obtain⟨g,A,r0,left,e,hA,hR,en,e1,e2⟩:=mz h0
 have hrr:=cm 0 g r0 left
 rw[en,iW hrr.1 hrr.2] at hf
 have hf:=of_decide_eq_false hf
 obtain⟨u1,u2,u3,u4,u5⟩:=oN (decide (r0 % 2=1)) left
 have hr:aX 0 g r0 left=9218868437227405312:=by omega
 have aw:(∀ g',g=g'->aX 1 g r0 left=if g' then 9218868437227405312 else 9218868437227405311)∧(∀ g',g=g'->aX 2 g r0 left=if g' then 9218868437227405311 else 9218868437227405312):=by
  by_cases hr0:(r0:Int)<9218868437227405312
  ·rw[gD 0 hr0] at hr
   have hl:left≠0:=fun q=>by
    rw[u5 0 g q] at hr
    simp at hr
    omega
   have hrv:(r0:Int)=9218868437227405311:=by
    split at hr<;>omega
   rw[gD 1 hr0,gD 2 hr0]
   cases g
   ·rw[u1,u4 hl]
    constructor
    ·intro g' hg;subst hg;simp;omega
    ·intro g' hg;subst hg;simp;omega
   ·rw[u2 hl,u3]
    constructor
    ·intro g' hg;subst hg;simp;omega
    ·intro g' hg;subst hg;simp;omega
  ·unfold aX cL
   rw[if_neg hr0,if_neg hr0]
   cases g
   ·constructor
    ·intro g' hg;subst hg;decide
    ·intro g' hg;subst hg;decide
   ·constructor
    ·intro g' hg;subst hg;decide
    ·intro g' hg;subst hg;decide
 cases g
 ·refine⟨fun _=>⟨?_,?_,?_⟩,fun q=>?_⟩
  ·rw[en,hr];rfl
  ·rw[e1,aw.1 false rfl];rfl
  ·rw[e2,aw.2 false rfl];rfl
  ·have:V=A:=e
   omega
 ·refine⟨fun q=>?_,fun _=>⟨?_,?_,?_⟩⟩
  ·have:V=-A:=e
   omega
  ·rw[en,hr];rfl
  ·rw[e1,aw.1 true rfl];rfl
  ·rw[e2,aw.2 true rfl];rfl
def b9 (a b:Int):Int:=sg (bg a b) (eE a b)
theorem DL {a b:Int}:b9 a b=aF a*aF b/2^4194304:=by
 unfold b9 eE
 cases bg a b
 ·rfl
 ·show - -_=_;rw[Int.neg_neg]
theorem jn {a b:Int} (ra:au a) (rb:au b) (pa:aC a=true) (pb:aC b=true) :
  ∃ N t:Nat,eE a b=(N:Int)*pw (-2148+(t:Int))∧N<2^106∧b9 a b*2^4194304=aF a*aF b:=by
 obtain⟨m,u,h1,v1⟩:=cG ra pa
 obtain⟨n,v,h2,v2⟩:=cG rb pb
 have b1:=sw ra pa h1
 have b2:=sw rb pb h2
 have hpm:=l5 (a:=-1074+(u:Int)) (b:=-1074+(v:Int)) (by omega) (by omega)
 have hC:=ms (g:=decide (a<0)) (h:=decide (b<0)) (x:=(m:Int)) (y:=(n:Int)) hpm
 rw[<- v1,<- v2] at hC
 have hcast:((m*n:Nat):Int)=(m:Int)*(n:Int):=by push_cast;rfl
 have hf:eE a b=((m*n:Nat):Int)*pw (-1074+(u:Int)+(-1074+(v:Int))):=by rw[hcast];exact nY (aJ 4194304) hC
 refine⟨m*n,u+v,?_,?_,?_⟩
 ·rw[hf,show -1074+(u:Int)+(-1074+(v:Int))=-2148+((u+v:Nat):Int) by push_cast;omega]
 ·have e:(2:Nat)^106=9007199254740992*9007199254740992:=by decide
  rw[e]
  exact Nat.lt_of_le_of_lt (Nat.mul_le_mul_left m (Nat.le_of_lt b2.1)) (Nat.mul_lt_mul_of_pos_right b1.1 (by decide))
 ·rw[<- hC]
  unfold b9
  rw[hf,hcast]
  rfl
theorem zu {N U s t q Z E:Nat} (hE:E=1074) (hZ:Z=2^E) (hq:0<q) (hN:N<2^106) (hU:4503599627370496<=U) (lo:U*2^s*(q*Z)<=N*(q*2^t)):s+1021<=t:=by
 have e52:(2:Nat)^52=4503599627370496:=by decide
 have hB:=Nat.two_pow_pos s
 have hC:=Nat.two_pow_pos t
 have hZ0:0<Z:=by rw[hZ];exact Nat.two_pow_pos _
 have l1:4503599627370496*(2^s*Z*q)<=U*2^s*(q*Z):=by
  rw[show U*2^s*(q*Z)=U*(2^s*Z*q) by generalize (2:Nat)^s=B;grind]
  exact Nat.mul_le_mul_right _ hU
 have l2:N*(q*2^t)<2^106*2^t*q:=by
  rw[show 2^106*2^t*q=2^106*(q*2^t) by generalize (2:Nat)^106=A;generalize (2:Nat)^t=B;grind]
  exact Nat.mul_lt_mul_of_pos_right hN (Nat.mul_pos hq hC)
 have l3:(4503599627370496*2^s*Z)*q<(2^106*2^t)*q:=by
  have:4503599627370496*2^s*Z*q=4503599627370496*(2^s*Z*q):=by generalize (2:Nat)^s=B;grind
  rw[this]
  exact Nat.lt_of_le_of_lt (Nat.le_trans l1 lo) l2
 have l4:=Nat.lt_of_mul_lt_mul_right l3
 rw[<- e52,hZ,<- Nat.pow_add,<- Nat.pow_add,<- Nat.pow_add] at l4
 have h3:=(Nat.pow_lt_pow_iff_right (by decide:1<2)).1 l4
 omega
theorem DM {N U s k:Nat} {S:Int} (hk:s<=k+53) (h:S=(N:Int)*2^k-(U:Int)*2^s∨S=(N:Int)*2^k-((U:Int)+1)*2^s) (hS:(S.natAbs:Int)<2^s):Fl S:=by
 rcases Nat.lt_or_ge k s with g|g
 ·refine mU (k:=k) ?_ ?_
  ·obtain⟨d,hd⟩:=ja (Nat.le_of_lt g)
   rcases h with h|h
   ·exact⟨N-U*d,by rw[h,hd];grind⟩
   ·exact⟨N-(U+1)*d,by rw[h,hd];grind⟩
  ·have h1:=sB hk
   rw[Int.pow_add,show(2:Int)^53=9007199254740992 by decide,Int.mul_comm] at h1
   omega
 ·obtain⟨d,hd⟩:=ja g
  have hdv:(2^s:Int) ∣ S:=by
   rcases h with h|h
   ·exact⟨N*d-U,by rw[h,hd];grind⟩
   ·exact⟨N*d-(U+1),by rw[h,hd];grind⟩
  have h0:S=0:=by
   obtain⟨c,hc⟩:=hdv
   have hp:=p2 s
   rcases Int.lt_trichotomy c 0 with hn|hn|hn
   ·have:2^s*c<=2^s*(-1):=Int.mul_le_mul_of_nonneg_left (by omega) (Int.le_of_lt hp)
    omega
   ·rw[hc,hn,Int.mul_zero]
   ·have:2^s*1<=2^s*c:=Int.mul_le_mul_of_nonneg_left (by omega) (Int.le_of_lt hp)
    omega
  rw[h0];exact iU
theorem Gh (a b:Int):-a - -b=-(a-b):=by omega
theorem BC {N U s t E:Nat} {z q pt W:Int} (hE:E=1074) (hz:0<z) (et:pt=z*2^t) (eq:q=z*2^E) (hN:N<2^106) (hU0:4503599627370496<=U) (hs0:60<=s) (Rlo:(U:Int)*2^s*q<=(N:Int)*pt) (Rhi:(N:Int)*pt<((U:Int)+1)*2^s*q)
  (hW:W=(U:Int)*2^s∨(W=((U:Int)+1)*2^s∧(N:Int)*pt≠(U:Int)*2^s*q)) (hmax:(U:Int)*2^s<=gZ):∃ S:Int,(N:Int)*pt-W*q=S*q∧Fl S∧(S.natAbs:Int)<=gZ:=by
 have hts:s+1021<=t:=by
  obtain⟨Z,hZ⟩:∃ Z:Nat,Z=2^E:=⟨_,rfl⟩
  have hZi:(2:Int)^E=(Z:Int):=by rw[hZ];push_cast;rfl
  obtain⟨n,rfl⟩:∃ n:Nat,z=n:=⟨z.toNat,by omega⟩
  rw[et,eq,hZi] at Rlo
  refine zu (N:=N) (U:=U) (q:=n) hE hZ (by omega) hN hU0 ?_
  exact_mod_cast Rlo
 obtain⟨k,rfl⟩:∃ k,t=E+k:=⟨t-E,by omega⟩
 have eA:pt=2^k*q:=by
  rw[et,eq,Nat.add_comm,Int.pow_add]
  generalize (2:Int)^E=X
  generalize (2:Int)^k=Y
  grind
 have hq:0<q:=by rw[eq];exact Int.mul_pos hz (p2 E)
 clear et eq
 rw[eA,<- Int.mul_assoc] at Rlo Rhi hW
 rw[eA,<- Int.mul_assoc]
 have Rlo:=Int.le_of_mul_le_mul_right Rlo hq
 have Rhi:=Int.lt_of_mul_lt_mul_right Rhi (Int.le_of_lt hq)
 have hp:=p2 s
 have hU2:2^s<=(U:Int)*2^s:=by
  have:=Int.mul_le_mul_of_nonneg_right (show(1:Int)<=U by omega) (Int.le_of_lt hp)
  rwa [Int.one_mul] at this
 have hW2:W=(U:Int)*2^s∨(W=((U:Int)+1)*2^s∧(N:Int)*2^k≠(U:Int)*2^s):=by
  rcases hW with h|⟨h,g⟩
  ·exact .inl h
  ·exact .inr ⟨h,fun e=>g (by rw[e])⟩
 clear hW
 have hS:(((N:Int)*2^k-W).natAbs:Int)<2^s:=by
  rw[Int.add_mul,Int.one_mul] at Rhi hW2
  clear hmax
  generalize (N:Int)*2^k=x at *
  generalize (2:Int)^s=y at *
  generalize (U:Int)*y=z' at *
  rcases hW2 with hW|⟨hW,g⟩<;>omega
 have hF:Fl ((N:Int)*2^k-W):=DM (N:=N) (k:=k) (U:=U) (s:=s) (by omega) (by rcases hW2 with hW|⟨hW,_⟩;exact .inl (by rw[hW]);exact .inr (by rw[hW])) hS
 refine⟨(N:Int)*2^k-W,by rw[Int.sub_mul],hF,?_⟩
 exact Int.le_trans (Int.le_of_lt hS) (Int.le_trans hU2 hmax)
theorem DN:pw (-1074)=pw (-2148)*2^1074:=by
 obtain⟨E,hE⟩:∃ E:Nat,E=1074:=⟨_,rfl⟩
 have:=fh (e:=-2148) (by decide) E
 rw[show(-2148:Int)+(E:Int)=-1074 by rw[hE];decide] at this
 rw[<- hE]
 exact this
theorem xr {a b way:Int} (ra:au a) (rb:au b) (pa:aC a=true) (pb:aC b=true) (h:b9 a b≠0) (lo:283726776524341248<=rg (df way (b9 a b))) (hi:rg (df way (b9 a b))<=9209861237972664320∨(way=0∧rg (df way (b9 a b))<9218868437227405312)) :
  ∃ S:Int,b9 a b-aF (df way (b9 a b))=S*pw (-1074)∧Fl S∧(S.natAbs:Int)<=gZ:=by
 obtain⟨N,t,hf,hN,hX⟩:=jn ra rb pa pb
 clear hX
 obtain⟨A,r0,left,e1,hR,e2⟩:=sA way h
 generalize df way (b9 a b)=p at *
 have hA:A=(N:Int)*pw (-2148+(t:Int))∧decide (b9 a b<0)=bg a b:=by
  have hp:0<eE a b:=by
   have h0:0<=eE a b:=by rw[hf];exact Int.mul_nonneg (by omega) (Int.le_of_lt (bT _))
   have h1:eE a b≠0:=fun e=>h (by unfold b9;rw[e];cases bg a b<;>rfl)
   omega
  have hs:decide (b9 a b<0)=bg a b:=mT hp
  rw[hs] at e1
  exact⟨(iG e1).symm.trans hf,hs⟩
 obtain⟨hA,hs⟩:=hA
 rw[hs] at e1 e2
 have hrr:=cm way (bg a b) r0 left
 obtain⟨rp,hrg,hng⟩:=dV (ng:=bg a b) hrr.1 hrr.2
 rw[<- e2] at rp hrg hng
 have hpp:aC p=true:=(bp rp).2 (by omega)
 have hr0:(r0:Int)<9218868437227405312:=by
  rcases Int.lt_or_le (r0:Int) 9218868437227405312 with g|g
  ·exact g
  ·exfalso
   rw[hrg] at hi
   unfold aX at hi
   rw[if_neg (by omega)] at hi
   unfold cL at hi
   rcases hi with hi|⟨hw,hi⟩
   ·split at hi<;>omega
   ·rw[hw,show bm 0 (bg a b) true 3=true by cases bg a b<;>decide,if_pos rfl] at hi
    omega
 have hrt:aX way (bg a b) r0 left=(r0:Int)∨(aX way (bg a b) r0 left=(r0:Int)+1∧left≠0):=by
  unfold aX
  rw[if_pos hr0]
  by_cases hu:bm way (bg a b) (decide (r0 % 2=1)) left=true
  ·right
   rw[if_pos hu]
   exact⟨rfl,fun e=>by rw[e] at hu;exact fz hu⟩
  ·left
   rw[if_neg hu];omega
 obtain⟨Rlo,Rhi,l0,_,_,_⟩:=hR
 obtain⟨s,U,hsU,hU0,hU1,hs0,hs1⟩:∃ s U:Nat,r0=s*4503599627370496+U∧4503599627370496<=U∧U<9007199254740992∧60<=s∧s<=2045:=by
  refine⟨r0/4503599627370496-1,r0-(r0/4503599627370496-1)*4503599627370496,?_,?_,?_,?_,?_⟩
  all_goals (rcases hrt with g|⟨g,_⟩<;>omega)
 obtain⟨V0,V1⟩:=kQ Ieee.double s U (by rw[jy];omega) (fun _=>by rw[jy];omega)
 rw[jy,<- hsU] at V0 V1
 have hmax:(U:Int)*2^s<=gZ:=by
  have:=pE (show r0<=9218868437227405311 by omega)
  rw[V0] at this
  push_cast at this
  exact this
 have hrt:∃ W:Int,(W=(U:Int)*2^s∨(W=((U:Int)+1)*2^s∧left≠0))∧(V Ieee.double (aX way (bg a b) r0 left).toNat:Int)=W:=by
  rcases hrt with g|⟨g,g2⟩
  ·refine⟨_,.inl ?_,rfl⟩
   rw[g,Int.toNat_natCast,V0];push_cast;rfl
  ·refine⟨_,.inr ⟨?_,g2⟩,rfl⟩
   rw[g,show((r0:Int)+1).toNat=r0+1 by omega,V1];push_cast;rfl
 obtain⟨W,hW,hVW⟩:=hrt
 unfold vS at Rlo Rhi l0
 rw[V0] at Rlo l0
 rw[V1] at Rhi
 push_cast at Rlo Rhi l0
 rw[hA] at Rlo Rhi l0
 have hpv:aF p=sg (bg a b) W*pw (-1074):=by
  rw[dJ rp hpp]
  unfold iV
  rw[hng,hrg,hVW]
 obtain⟨S,h1,h2,h3⟩:=BC (E:=1074) rfl (bT (-2148)) (fh (by decide) t) DN hN hU0 hs0 Rlo Rhi (by rcases hW with h|⟨h,g⟩;exact .inl h;exact .inr ⟨h,fun e=>g (l0.2 e)⟩) hmax
 refine⟨sg (bg a b) S,?_,?_,?_⟩
 ·rw[e1,hpv,hA,jK,jK,<- h1]
  cases bg a b
  ·rfl
  ·exact Gh _ _
 ·cases bg a b
  ·exact h2
  ·exact h2.neg
 ·have hn:(sg (bg a b) S).natAbs=S.natAbs:=by
   cases bg a b
   ·rfl
   ·exact Int.natAbs_neg _
  rw[hn]
  exact h3
theorem BD (p q r:Int):j5 p q r=b9 p q+aF r:=rfl
theorem cN {a:Int} (ra:au a) (h:aC a=true):aE a≠4:=fun e=>by
 have hf:=ol h
 unfold aE at e
 rw[if_neg hf] at e
 split at e
 ·split at e<;>omega
 ·omega
theorem vw {S:Int} (hF:Fl S) (h0:S≠0) (hb:(S.natAbs:Int)<=gZ):au (br (S*pw (-1074)))∧aC (br (S*pw (-1074)))=true∧iV (br (S*pw (-1074)))=S:=by
 obtain⟨h1,h2,h3⟩:=ui h0
 exact⟨h1,h3 hb,cV hF (h2 (h3 hb))⟩
def eZ (way a b:Int):Int:=if way=0∨(aC a&&aC b)=false then aS (bQ a) (bQ b) else if b9 a b≠0 then df way (b9 a b) else aS (bQ a) (bQ b)
theorem zv {a b c:Int} (ra:au a) (rb:au b) (rc:au c) (pa:aC a=true) (pb:aC b=true) (pc:aC c=true) (h:j5 a b c=0):dU a b c=ay (bg a b&&decide (c<0)) 0:=by
 have h1:=(bp ra).1 pa
 have h2:=(bp rb).1 pb
 have h3:=(bp rc).1 pc
 unfold dU
 have n4:¬ (aE a=4∨aE b=4∨aE c=4):=fun q=>by rcases q with q|q|q;exact cN ra pa q;exact cN rb pb q;exact cN rc pc q
 have i2:¬ (rg a=9218868437227405312∨rg b=9218868437227405312):=by omega
 have i3:¬ rg c=9218868437227405312:=by omega
 rw[if_neg n4,if_neg i2,if_neg i3,if_pos h]
end Go.Proofs.YtkkpppgfoilgmaaGreatDoor
namespace Go.Proofs.YtkkpppgfoilgmaaGreatDoor
open Go Go.Proofs.Tryz Go.RowKit Go.Proofs.YtkkpppgfoilgmaaGreatDoor.M Ieee
theorem pG:au 9221120237041090561:=by unfold au;decide
theorem oO:aC 9221120237041090561=false:=by decide
theorem mA {p:Int} (hp:au p) (h4:¬ aE p=4) (hi:¬ rg p=9218868437227405312):aC p=true:=by
 have:=(ew hp).1
 rw[bp hp]
 have:¬ 9218868437227405312<rg p:=fun c=>h4 (this.2 c)
 omega
theorem xt {p:Int} (hp:au p) (hi:rg p=9218868437227405312):¬ aC p=true:=fun h=>by
 have:=(bp hp).1 h
 omega
theorem kU {p:Int} (hp:au p) (h:aC p=true):¬ aE p=4∧¬ rg p=9218868437227405312:=by
 have h1:=(bp hp).1 h
 exact⟨fun c=>by have:=(ew hp).1.1 c;omega,by omega⟩
theorem qm {p q:Int} (hp:au p) (hq:au q) (h:aC (a8 p q)=true):aC p=true∧aC q=true:=by
 unfold a8 at h
 by_cases c4:aE p=4∨aE q=4
 ·rw[if_pos c4,oO] at h;cases h
 rw[if_neg c4] at h
 by_cases ci:rg p=9218868437227405312
 ·rw[if_pos ci] at h
  by_cases cj:rg q=9218868437227405312∧decide (p<0)≠decide (q<0)
  ·rw[if_pos cj,oO] at h;cases h
  ·rw[if_neg cj] at h;exact absurd h (xt hp ci)
 rw[if_neg ci] at h
 by_cases cj:rg q=9218868437227405312
 ·rw[if_pos cj] at h;exact absurd h (xt hq cj)
 exact⟨mA hp (fun c=>c4 (.inl c)) ci,mA hq (fun c=>c4 (.inr c)) cj⟩
theorem vx (g:Bool):au (ay g 0)∧aC (ay g 0)=true∧iV (ay g 0)=0:=by
 refine⟨(dV (by decide) (by decide)).1,?_,?_⟩
 ·rw[iW (by decide) (by decide)];decide
 ·rw[pF (by decide) (by decide)]
  show sg g (V Ieee.double 0:Int)=0
  rw[kO]
  exact fi g
structure vy (S p:Int):Prop where
 rn:au p
 nr:aC p=true->Nr S (iV p)
 fin:(S.natAbs:Int)<=gZ->aC p=true
theorem zw (g:Bool):vy 0 (ay g 0):=by
 obtain⟨a,b,c⟩:=vx g
 exact⟨a,fun _=>by rw[c];exact Bz,fun _=>b⟩
theorem zy {S:Int} (h:S≠0):vy S (br (S*pw (-1074))):=by
 obtain⟨a,b,c⟩:=ui h
 exact⟨a,b,c⟩
theorem BE {T w:Int} (hw:0<w) (d:T*w=0):T=0:=by
 rcases Int.mul_eq_zero.1 d with g|g<;>omega
theorem fO {p q:Int} (hp:au p) (hq:au q) (pp:aC p=true) (pq:aC q=true):vy (iV p+iV q) (a8 p q):=by
 obtain⟨a1,a2⟩:=kU hp pp
 obtain⟨b1,b2⟩:=kU hq pq
 have e:a8 p q=if iV p+iV q=0 then ay (decide (p<0)&&decide (q<0)) 0 else br ((iV p+iV q)*pw (-1074)):=by
  unfold a8
  rw[if_neg (fun c=>c.elim a1 b1),if_neg a2,if_neg b2,dJ hp pp,dJ hq pq,<- Int.add_mul]
  have hq:=bT (-1074)
  by_cases c:iV p+iV q=0
  ·rw[if_pos c,if_pos (by rw[c,Int.zero_mul])]
  ·rw[if_neg c,if_neg (fun d=>c (BE hq d))]
 rw[e]
 by_cases c:iV p+iV q=0
 ·rw[if_pos c,c];exact zw _
 ·rw[if_neg c];exact zy c
theorem kD {q:Int} (hq:au q) (h:aC q=true):au (neg q)∧aC (neg q)=true∧iV (neg q)=-iV q:=by
 obtain⟨b1,b2⟩:=kU hq h
 have h1:=(bp hq).1 h
 have e:neg q=ay (!decide (q<0)) (rg q):=by
  unfold neg ay rg
  rw[if_neg b1]
  by_cases c:q<0
  ·rw[if_pos c,if_pos c,decide_eq_true c];rfl
  ·rw[if_neg c,if_neg c,decide_eq_false c];rfl
 have h0:0<=rg q:=by unfold rg;unfold au at hq;split<;>omega
 obtain⟨c1,c2,c3⟩:=dV (ng:=!decide (q<0)) h0 (by omega)
 refine⟨by rw[e];exact c1,by rw[e,iW h0 (by omega)];exact decide_eq_true h1,?_⟩
 rw[e,pF h0 (by omega)]
 unfold iV
 rw[we]
theorem BF {q:Int} (hq:au q) (h:aC (neg q)=true):aC q=true:=by
 unfold neg at h
 by_cases c:aE q=4
 ·rw[if_pos c,oO] at h;cases h
 ·by_cases ci:rg q=9218868437227405312
  ·exfalso
   rw[if_neg c] at h
   have hr:au (if q<0 then q+9223372036854775808 else q-9223372036854775808):=by unfold au at *;split<;>omega
   have:=(bp hr).1 h
   unfold rg at this ci
   split at this<;>split at ci<;>split at this<;>omega
  ·exact mA hq c ci
theorem fP {q:Int} (hq:au q):au (neg q):=by
 unfold neg au at *
 split
 ·omega
 ·split<;>omega
theorem e9 {p q:Int} (hp:au p) (hq:au q) (pp:aC p=true) (pq:aC q=true):vy (iV p-iV q) (a8 p (neg q)):=by
 obtain⟨a,b,c⟩:=kD hq pq
 have:=fO hp a pp b
 rw[c] at this
 exact this
theorem lK {p q:Int} (hp:au p) (hq:au q) (h:aC (a8 p (neg q))=true):aC p=true∧aC q=true:=by
 obtain⟨a,b⟩:=qm hp (fP hq) h
 exact⟨a,BF hq b⟩
theorem cP {p q:Int} (hp:au p) (hq:au q):au (a8 p q):=by
 by_cases h:aC p=true∧aC q=true
 ·exact(fO hp hq h.1 h.2).rn
 ·unfold a8
  by_cases c4:aE p=4∨aE q=4
  ·rw[if_pos c4];exact pG
  rw[if_neg c4]
  by_cases ci:rg p=9218868437227405312
  ·rw[if_pos ci];split
   ·exact pG
   ·exact hp
  rw[if_neg ci]
  by_cases cj:rg q=9218868437227405312
  ·rw[if_pos cj];exact hq
  exact absurd ⟨mA hp (fun c=>c4 (.inl c)) ci,mA hq (fun c=>c4 (.inr c)) cj⟩ h
end Go.Proofs.YtkkpppgfoilgmaaGreatDoor
namespace Go.Proofs.YtkkpppgfoilgmaaGreatDoor
open Go Go.Proofs.Tryz Go.RowKit Go.Proofs.YtkkpppgfoilgmaaGreatDoor.M
theorem zz {p:Int} (rp:au p) (hp:aC p=true):aF (neg p)=-aF p:=by
 obtain⟨n1,n2,n3⟩:=kD rp hp
 rw[dJ n1 n2,dJ rp hp,n3,Int.neg_mul]
theorem zC {P:Program} (t:TypeId) {p q:Int} {x y:Nat} (hx:FW p x) (hy:FW q y) (h:aE (a8 p q)≠4) (w:World) :
  (binOp .add t (.float .f64 x) (.float .f64 y)).run P w=.ok (.float .f64 (wd (a8 p q))) w:=by
 obtain⟨z,w',hr,hz⟩:=jF (P:=P) .add (.inl rfl) t x y w
 have hf:floatBits .add .f64 x y=Ieee.double.add x y:=rfl
 rw[hf] at hz
 rcases xa hx hy with⟨z',e1,e2⟩|⟨e1,e2⟩
 ·rcases hz with⟨h1,h2⟩|⟨h1,_⟩
  ·rw[e1] at h1;cases h1
   rw[hr,h2,(e2.of h).2.1]
  ·rw[e1] at h1;cases h1
 ·exact absurd (by rw[e2];exact jj) h
theorem zD {l:Int} {L:Nat} (h:FW l L):(bI l 0=true->FloatKind.f64.format.order L 0=some .lt)∧(bI 0 l=true->FloatKind.f64.format.order L 0=some .gt)∧(bI l 0=false->bI 0 l=false->FloatKind.f64.format.order L 0=some .eq∨FloatKind.f64.format.order L 0=none):=by
 have n0:=dR.1
 have k0:aw 0=0:=by decide
 have e0:wd 0=0:=by decide
 have c0:¬ aE 0=4:=by decide
 by_cases h4:aE l=4
 ·have ho:FloatKind.f64.format.order L 0=none:=by
   rcases h with⟨a,_,_⟩|⟨rfl,hN⟩
   ·exact absurd h4 a
   ·exact pT Ieee.double wi L 0 (.inl (by rw[jS,ft];exact hN.2))
  have l1:bI l 0=false:=by unfold bI;simp[h4]
  have l2:bI 0 l=false:=by unfold bI;simp[h4]
  exact⟨fun h=>by (rw[l1] at h;cases h),fun h=>by (rw[l2] at h;cases h),fun _ _=>.inr ho⟩
 ·obtain⟨hr,rfl,_,_⟩:=h.of h4
  have l1:bI l 0=decide (aw l<0):=by unfold bI;simp[h4,c0,k0]
  have l2:bI 0 l=decide (0<aw l):=by unfold bI;simp[h4,c0,k0]
  rw[l1,l2]
  refine⟨fun g=>?_,fun g=>?_,fun g1 g2=>?_⟩
  ·have:=gL hr n0.1 h4 n0.2 (by rw[k0];exact of_decide_eq_true g)
   rwa [e0] at this
  ·have:=gM hr n0.1 h4 n0.2 (by rw[k0];exact of_decide_eq_true g)
   rwa [e0] at this
  ·have g1':=of_decide_eq_false g1
   have g2':=of_decide_eq_false g2
   have:=gN hr n0.1 h4 n0.2 (by rw[k0];omega)
   rw[e0] at this
   exact .inl this
def c6 (n l:Int):Int:=if bI l 0 then c9 n else n
def c7 (n l:Int):Int:=if bI l 0 then n else if bI 0 l then next n else n
theorem oP {n l:Int} {L:Nat} (hn:nn n) (hl:FW l L) (w:World) :
  Calls prog 78 #[.float .f64 (wd n),.float .f64 L] w fun e w'=>e=.returned (.agg #[.float .f64 (wd (c6 n l)),.float .f64 (wd (c7 n l))])∧Below w.heap.size w w':=by
 obtain⟨o1,o2,o3⟩:=zD hl
 unfold c6 c7
 cases h1:bI l 0
 ·cases h2:bI 0 l
  ·exact(vv (wd n) L (o3 h1 h2) w).mono fun _ _ ⟨a,b⟩=>⟨a,by rw[b];exact ae _ _⟩
  ·exact(zt hn L (o2 h2) w).mono fun _ _ ⟨a,b⟩=>⟨a,by rw[b];exact ae _ _⟩
 ·exact(vu hn L (o1 h1) w).mono fun _ _ ⟨a,b⟩=>⟨a,by rw[b];exact ae _ _⟩
theorem nt (w:World) (o:Obj):(w.alloc o).heap[w.heap.size]?=some o:=by
 show(w.heap.push o)[w.heap.size]?=_
 simp
def dl (p q:Int):Int:=if rg p<rg q then q else p
def fT (p q:Int):Int:=if rg p<rg q then p else q
def bt (p q:Int):Int:=a8 (dl p q) (fT p q)
def cK (p q:Int):Int:=a8 (fT p q) (neg (a8 (bt p q) (neg (dl p q))))
theorem sJ {p q x y n l:Int} (hp:nn p) (hq:nn q) (hx:nn x) (hy:nn y) (hn:nn n) (en:n=a8 x y) (el:l=a8 y (neg (a8 n (neg x)))) (w:World)
  (hsw:(FloatKind.f64.format.order (wd (rg p)) (wd (rg q))=some .lt∧x=q∧y=p)∨((FloatKind.f64.format.order (wd (rg p)) (wd (rg q))=some .gt∨FloatKind.f64.format.order (wd (rg p)) (wd (rg q))=some .eq)∧x=p∧y=q)) :
  Calls prog 58 #[.float .f64 (wd p),.float .f64 (wd q)] w fun e w'=>e=.returned (.agg #[.float .f64 (wd (c6 n l)),.float .f64 (wd (c7 n l))])∧Below w.heap.size w w':=by
 have CP:Hid (∀ W,Calls prog 77 #[.float .f64 (wd p)] W fun e w'=>e=.returned (.float .f64 (wd (rg p)))∧w'=W):=fun W=>jM hp.1 W
 have CQ:Hid (∀ W,Calls prog 77 #[.float .f64 (wd q)] W fun e w'=>e=.returned (.float .f64 (wd (rg q)))∧w'=W):=fun W=>jM hq.1 W
 have fx:FW x (wd x):=.inl ⟨hx.2,hx.1,rfl⟩
 have fy:FW y (wd y):=.inl ⟨hy.2,hy.1,rfl⟩
 have fn:FW n (wd n):=.inl ⟨hn.2,hn.1,rfl⟩
 have h1:∀ W,(binOp .add 62 (.float .f64 (wd x)) (.float .f64 (wd y))).run prog W=.ok (.float .f64 (wd n)) W:=fun W=>by rw[en];exact zC _ fx fy (by rw[<- en];exact hn.2) W
 have hg:=nt w (.cells #[.float .f64 0,.float .f64 0] 64)
 have hba:=ae w (.cells #[.float .f64 0,.float .f64 0] 64)
 obtain⟨D,W1,r1,fD,hW1⟩:=qi (P:=prog) 62 fn fx (w.alloc (.cells #[.float .f64 0,.float .f64 0] 64))
 obtain⟨L,W2,r2,fL,hW2⟩:=qi (P:=prog) 62 fy fD W1
 rw[<- el] at fL
 have b1:Below (w.alloc (.cells #[.float .f64 0,.float .f64 0] 64)).heap.size (w.alloc (.cells #[.float .f64 0,.float .f64 0] 64)) W1:=by
  rcases hW1 with rfl|rfl
  ·exact ap _
  ·exact(ap _).drew
 have b2:Below W1.heap.size W1 W2:=by
  rcases hW2 with rfl|rfl
  ·exact ap _
  ·exact(ap _).drew
 have CB:Hid (∀ W,Calls prog 78 #[.float .f64 (wd n),.float .f64 L] W fun e w'=>e=.returned (.agg #[.float .f64 (wd (c6 n l)),.float .f64 (wd (c7 n l))])∧Below W.heap.size W w'):=fun W=>oP hn fL W
 generalize wd (c6 n l)=U at *
 generalize wd (c7 n l)=V at *
 clear fx fy fn fD fL hW1 hW2 en el hx hy hn hp hq
 have fin:∀ (w3:World),Below W2.heap.size W2 w3->(store ⟨w.heap.size,0,none⟩ (.float .f64 U)).run prog w3=.ok () (w3.setCell ⟨w.heap.size,0,none⟩ (.float .f64 U))∧(store ⟨w.heap.size,1,none⟩ (.float .f64 V)).run prog (w3.setCell ⟨w.heap.size,0,none⟩ (.float .f64 U))=.ok () ((w3.setCell ⟨w.heap.size,0,none⟩ (.float .f64 U)).setCell ⟨w.heap.size,1,none⟩ (.float .f64 V))∧((w3.setCell ⟨w.heap.size,0,none⟩ (.float .f64 U)).setCell ⟨w.heap.size,1,none⟩ (.float .f64 V)).cell? ⟨w.heap.size,0,none⟩=some (.float .f64 U)∧((w3.setCell ⟨w.heap.size,0,none⟩ (.float .f64 U)).setCell ⟨w.heap.size,1,none⟩ (.float .f64 V)).cell? ⟨w.heap.size,1,none⟩=some (.float .f64 V)∧Below w.heap.size w ((w3.setCell ⟨w.heap.size,0,none⟩ (.float .f64 U)).setCell ⟨w.heap.size,1,none⟩ (.float .f64 V)):=by
  intro w3 hb3
  have hbb:=ab b1 (ab b2 hb3)
  have d2:=(hbb.block _ (aGe hg).1).trans hg
  have d3:=aj d2 0 (.float .f64 U)
  have d4:=aj d3 1 (.float .f64 V)
  have f0:=aa d2 0 rfl
  have z0:=af d2 0
  have f1:=aa d3 1 rfl
  have z1:=af d3 1
  refine⟨?_,?_,aa d4 0 rfl,aa d4 1 rfl,?_⟩
  ·rw[run_store _ _ _ _ _ rfl,f0];simp only[z0];rfl
  ·rw[run_store _ _ _ _ _ rfl,f1];simp only[z1];rfl
  ·exact((ab hba hbb).setCell (p:=⟨w.heap.size,0,none⟩) (Nat.le_refl _) _).setCell (p:=⟨w.heap.size,1,none⟩) (Nat.le_refl _) _
 have FIN:=aA fin
 clear fin b1 b2 hba hg
 rcases hsw with⟨o,rfl,rfl⟩|⟨o|o,rfl,rfl⟩
 all_goals
  go_enter func58,ntmps58
  go_wp2_with fail
  refine(CP.out _).mono ?_
  rintro _ _ ⟨rfl,rfl⟩
  go_wp2_with fail
  refine(CQ.out _).mono ?_
  rintro _ _ ⟨rfl,rfl⟩
  go_wp2_with fail
  refine(CB.out _).mono ?_
  rintro _ w3 ⟨rfl,hb3⟩
  obtain⟨s0,s1,e0,e1,hbe⟩:=FIN.out w3 hb3
  go_wp2
  refine bodyPost_ret (v:=.agg #[.float .f64 U,.float .f64 V]) (by simp[results,results58,go_sem,e0,e1]) rfl ⟨rfl,hbe⟩
theorem mV {p q:Int} (hp:nn p) (hq:nn q) (hn:nn (bt p q)) (w:World) :
  Calls prog 58 #[.float .f64 (wd p),.float .f64 (wd q)] w fun e w'=>e=.returned (bU (c6 (bt p q) (cK p q)) (c7 (bt p q) (cK p q)))∧Below w.heap.size w w':=by
 obtain⟨a1,a2⟩:=j6 hp.1
 obtain⟨b1,b2⟩:=j6 hq.1
 have ca:¬ aE (rg p)=4:=by rw[oK hp.1];exact hp.2
 have cb:¬ aE (rg q)=4:=by rw[oK hq.1];exact hq.2
 have ka:=oL a2
 have kb:=oL b2
 by_cases h:rg p<rg q
 ·have ex:dl p q=q:=if_pos h
  have ey:fT p q=p:=if_pos h
  refine sJ hp hq hq hp hn (by unfold bt;rw[ex,ey]) (by unfold cK;rw[ex,ey]) w (.inl ⟨gL a1 b1 ca cb (by rw[ka,kb];exact h),rfl,rfl⟩)
 ·have ex:dl p q=p:=if_neg h
  have ey:fT p q=q:=if_neg h
  refine sJ hp hq hp hq hn (by unfold bt;rw[ex,ey]) (by unfold cK;rw[ex,ey]) w (.inr ⟨?_,rfl,rfl⟩)
  by_cases e:rg p=rg q
  ·exact .inr (gN a1 b1 ca cb (by rw[ka,kb];exact e))
  ·exact .inl (gM a1 b1 ca cb (by rw[ka,kb];omega))
end Go.Proofs.YtkkpppgfoilgmaaGreatDoor
namespace Go.Proofs.YtkkpppgfoilgmaaGreatDoor
open Go Go.Proofs.Tryz Go.RowKit Go.Proofs.YtkkpppgfoilgmaaGreatDoor.M Ieee
def sV (p q:Int):Int:=a8 (a8 p q) (neg p)
def sL (p q:Int):Int:=a8 (a8 p (neg (a8 (a8 p q) (neg (sV p q))))) (a8 q (neg (sV p q)))
def fL (p q:Int):Int:=a8 q (neg (a8 (a8 p q) (neg p)))
def cC (p:Int):Int:=aS 4728779608772575232 p
def xu (p:Int):Int:=a8 (cC p) (neg (a8 (cC p) (neg p)))
def Aq (p:Int):Int:=a8 p (neg (xu p))
def Gi (a b:Int):Int:=a8 (aS a b) (neg (aS (xu a) (xu b)))
def Gj (a b:Int):Int:=a8 (Gi a b) (neg (aS (Aq a) (xu b)))
def Gk (a b:Int):Int:=a8 (Gj a b) (neg (aS (xu a) (Aq b)))
def Ar (a b:Int):Int:=a8 (aS (Aq a) (Aq b)) (neg (Gk a b))
theorem vz (x:Nat) (w:World):(convert 62 62 (.float .f64 x)).run prog w=.ok (.float .f64 x) w:=run_convert_float_float w _ _ _ _ _ _ (by rw[underlying62];rfl) underlying62 rfl
theorem fU (p:Int):Fl (iV p):=by
 unfold iV
 cases decide (p<0)
 ·exact vm _
 ·exact(vm _).neg
theorem oQ (p:Int):((iV p).natAbs:Int)=(V Ieee.double (rg p).toNat:Int):=by
 unfold iV sg
 cases decide (p<0)
 ·simp
 ·simp
theorem xv {p:Int} (hp:au p) (h:aC p=true):((iV p).natAbs:Int)<=gZ:=by
 rw[oQ]
 have:=(bp hp).1 h
 exact pE (by omega)
theorem zE {p q:Int} (hp:au p) (hq:au q) (h:aC (sL p q)=true):(aC p=true∧aC q=true)∧aC (a8 p q)=true∧iV (a8 p q)+iV (sL p q)=iV p+iV q:=by
 have rh:=cP hp hq
 have rv:au (sV p q):=cP rh (fP hp)
 have rU:=cP rh (fP rv)
 have rX:=cP hp (fP rU)
 have rY:=cP hq (fP rv)
 obtain⟨pX,pY⟩:=qm rX rY h
 obtain⟨pp,pU⟩:=lK hp rU pX
 obtain⟨pq,pv⟩:=lK hq rv pY
 obtain⟨ph,_⟩:=lK rh hp pv
 have e:=By (fU p) (fU q) ((fO hp hq pp pq).nr ph) ((e9 rh hp ph pp).nr pv) ((e9 rh rv ph pv).nr pU) ((e9 hp rU pp pU).nr pX) ((e9 hq rv pq pv).nr pY) ((fO rX rY pX pY).nr h)
 exact⟨⟨pp,pq⟩,ph,by unfold sL;omega⟩
theorem BG {a b h:Int} (ha:Fl a) (hab:b.natAbs<=a.natAbs) (n:Nr (a+b) h):(h-a).natAbs<=a.natAbs:=by
 have e1:=n.2 _ ha
 have e2:=n.2 _ ha.dbl
 have e3:=n.2 _ iU
 omega
theorem xx {p q:Int} (hp:au p) (hq:au q) (pp:aC p=true) (pq:aC q=true) (ph:aC (a8 p q)=true) (hab:(iV q).natAbs<=(iV p).natAbs):aC (fL p q)=true∧iV (a8 p q)+iV (fL p q)=iV p+iV q:=by
 have rh:=cP hp hq
 have rv:au (a8 (a8 p q) (neg p)):=cP rh (fP hp)
 have nh:=(fO hp hq pp pq).nr ph
 have sv:=e9 rh hp ph pp
 have b1:=BG (fU p) hab nh
 have pv:=sv.fin (by have:=xv hp pp;omega)
 have ev:=cV (nZ (fU p) (fU q) hab nh) (sv.nr pv)
 have sl:=e9 hq rv pq pv
 have e3:=nh.2 _ (fU p)
 have pl:=sl.fin (by rw[ev];have:=xv hq pq;omega)
 have nl:=sl.nr pl
 have e4:=zl (fU p) (fU q) hab nh (sv.nr pv) nl
 exact⟨pl,by unfold fL;omega⟩
theorem sK {p q:Int} (hp:au p) (hq:au q) (pp:aC p=true) (pq:aC q=true):a8 p q=if aF p+aF q=0 then ay (decide (p<0)&&decide (q<0)) 0 else br (aF p+aF q):=by
 obtain⟨a1,a2⟩:=kU hp pp
 obtain⟨b1,b2⟩:=kU hq pq
 unfold a8
 rw[if_neg (fun c=>c.elim a1 b1),if_neg a2,if_neg b2]
def fX (p q:Int):Bool:=aC (fL p q)&&(!decide ((iV p).natAbs<(iV q).natAbs)||decide (iV (fL p q)=iV (fL q p)))
end Go.Proofs.YtkkpppgfoilgmaaGreatDoor
