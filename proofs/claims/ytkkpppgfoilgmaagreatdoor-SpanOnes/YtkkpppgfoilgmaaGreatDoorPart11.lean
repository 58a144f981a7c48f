/- Parts of the proof. -/
import Derived.Test.YtkkpppgfoilgmaaGreatDoorPart10
import Derived.Test.YtkkpppgfoilgmaaGreatDoorPart9
import Derived.Test.YtkkpppgfoilgmaaGreatDoorPart1
import Derived.Test.YtkkpppgfoilgmaaGreatDoorPart7
set_option maxRecDepth 100000
set_option maxHeartbeats 8000000
set_option linter.unusedVariables false
set_option linter.unusedSimpArgs false
namespace Go.Proofs.YtkkpppgfoilgmaaGreatDoor
open Go Go.Proofs.Tryz Go.RowKit Go.Proofs.YtkkpppgfoilgmaaGreatDoor.M
theorem j8 {p:Int} (h:nn p) (w:World) :
  Calls prog 121 #[.float .f64 (wd p)] w fun e w'=>e=.returned (.bool false)∧w'=w:=by
 have n0:=Aq h.1
 rw[decide_eq_false h.2] at n0
 go_enter func121,ntmps121
 go_wp2
 go_ret
 exact⟨rfl,rfl⟩
theorem B9 (w:World) :
  Calls prog 102 #[.int .i64 1] w fun e w'=>e=.returned (.float .f64 9218868437227405312)∧w'=w:=by
 have hd:=dw
 go_enter func102,ntmps102
 go_wp2
 go_ret
 exact⟨rfl,rfl⟩
theorem yO (w:World) :
  Calls prog 102 #[.int .i64 (-1)] w fun e w'=>e=.returned (.float .f64 18442240474082181120)∧w'=w:=by
 have hd:=dw
 go_enter func102,ntmps102
 go_wp2
 go_ret
 exact⟨rfl,rfl⟩
theorem AK (w:World) :
  Calls prog 123 #[.float .f64 1,.float .f64 9218868437227405312] w fun e w'=>e=.returned (.float .f64 1)∧w'=w:=by
 have hd:=dw
 have hb:=fl
 have e1:bits .andNot .u64 1 9223372036854775808=1:=by decide
 have e2:bits .and .u64 9218868437227405312 9223372036854775808=0:=by decide
 have e3:bits .or .u64 1 0=1:=by decide
 go_enter func123,ntmps123
 go_wp2
 go_ret
 exact⟨rfl,rfl⟩
theorem wR (w:World) :
  Calls prog 123 #[.float .f64 1,.float .f64 18442240474082181120] w fun e w'=>e=.returned (.float .f64 9223372036854775809)∧w'=w:=by
 have hd:=dw
 have hb:=fl
 have e1:bits .andNot .u64 1 9223372036854775808=1:=by decide
 have e2:bits .and .u64 18442240474082181120 9223372036854775808=9223372036854775808:=by decide
 have e3:bits .or .u64 1 9223372036854775808=9223372036854775809:=by decide
 go_enter func123,ntmps123
 go_wp2
 go_ret
 exact⟨rfl,rfl⟩
theorem AL {p:Int} (h:nn p) (w:World) :
  Calls prog 101 #[.float .f64 (wd p),.float .f64 9218868437227405312] w fun e w'=>e=.returned (.float .f64 (wd (next p)))∧w'=w:=by
 have hd:=dw
 have hbt:=fl
 have ey:wd 9218868437227405312=9218868437227405312:=by decide
 have ny:nn 9218868437227405312:=⟨by unfold au;omega,by decide⟩
 have ky:aj 9218868437227405312=9218868437227405312:=by decide
 have n0:nn 0:=cP.1
 have k0:aj 0=0:=by decide
 have e0:wd 0=0:=by decide
 have hr:=h.1
 unfold au at hr
 have CX:Hid (∀ W,Calls prog 121 #[.float .f64 (wd p)] W fun e w'=>e=.returned (.bool false)∧w'=W):=fun W=>j8 h W
 have CY:Hid (∀ W,Calls prog 121 #[.float .f64 9218868437227405312] W fun e w'=>e=.returned (.bool false)∧w'=W):=fun W=>by rw[<- ey];exact j8 ny W
 have hw:=qi p
 by_cases a1:p=9218868437227405312
 ·subst a1
  have o1:=fP h.1 ny.1 h.2 ny.2 rfl
  rw[ey] at o1 CX ⊢
  clear hr
  go_enter func101,ntmps101
  go_wp2_with fail
  refine(CX.out _).mono ?_
  rintro _ _ ⟨rfl,rfl⟩
  go_wp2_with fail
  refine(CY.out _).mono ?_
  rintro _ _ ⟨rfl,rfl⟩
  go_wp2
  go_ret
  exact⟨cZ (by first|rfl|(rw[pT,ey])|(rw[pT];exact ey.symm)),rfl⟩
 have kp:aj p<9218868437227405312:=by
  have h4:=fI h.2
  unfold aj bk bF at *
  split<;>omega
 have o1:=fN h.1 ny.1 h.2 ny.2 (by rw[ky];exact kp)
 have o2:=fO ny.1 h.1 ny.2 h.2 (by rw[ky];exact kp)
 rw[ey] at o1 o2
 rcases Int.lt_trichotomy (aj p) 0 with g|g|g
 ·have o3:=fN h.1 n0.1 h.2 n0.2 (by rw[k0];exact g)
  rw[e0] at o3
  have hp:p<0∧p ≠ -9223372036854775808:=by unfold aj at g;split at g<;>omega
  have hn:next p=p-1:=by unfold next;rw[if_neg h.2,if_neg a1,if_neg hp.2,if_pos hp.1]
  have hv:wd (p-1)=wd p-1∧1<=wd p:=by unfold wd;omega
  clear hr
  go_enter func101,ntmps101
  go_wp2_with fail
  refine(CX.out _).mono ?_
  rintro _ _ ⟨rfl,rfl⟩
  go_wp2_with fail
  refine(CY.out _).mono ?_
  rintro _ _ ⟨rfl,rfl⟩
  go_wp2
  go_ret
  exact⟨cZ (by rw[hn,hv.1]),rfl⟩
 ·have o3:=fP h.1 n0.1 h.2 n0.2 (by rw[k0];exact g)
  rw[e0] at o3
  have hp:p=0∨p=-9223372036854775808:=by unfold aj at g;split at g<;>omega
  have hn:next p=1:=by rcases hp with rfl|rfl<;>decide
  have e1:wd 1=1:=by decide
  clear hr
  go_enter func101,ntmps101
  go_wp2_with fail
  refine(CX.out _).mono ?_
  rintro _ _ ⟨rfl,rfl⟩
  go_wp2_with fail
  refine(CY.out _).mono ?_
  rintro _ _ ⟨rfl,rfl⟩
  go_wp2_with (go_at_call 123;refine(AK _).mono ?_;rintro _ _ ⟨rfl,rfl⟩)
  go_ret
  exact⟨cZ (by rw[hn];exact e1.symm),rfl⟩
 ·have o3:=fO h.1 n0.1 h.2 n0.2 (by rw[k0];exact g)
  rw[e0] at o3
  have hp:0<p:=by unfold aj at g;split at g<;>omega
  have hn:next p=p+1:=by unfold next;rw[if_neg h.2,if_neg a1,if_neg (by omega),if_neg (by omega)]
  have hv:wd (p+1)=wd p+1∧wd p<9223372036854775808:=by unfold wd;unfold aj at kp;split at kp<;>omega
  clear hr
  go_enter func101,ntmps101
  go_wp2_with fail
  refine(CX.out _).mono ?_
  rintro _ _ ⟨rfl,rfl⟩
  go_wp2_with fail
  refine(CY.out _).mono ?_
  rintro _ _ ⟨rfl,rfl⟩
  go_wp2
  go_ret
  exact⟨cZ (by rw[hn,hv.1]),rfl⟩
theorem jc {p:Int} (h:nn p) (a1:¬ p=-4503599627370496):dJ p=if p=0∨p=-9223372036854775808 then -9223372036854775807 else if p<0 then p+1 else p-1:=by
 have hr:=h.1
 have h4:=fI h.2
 unfold au at hr
 by_cases z:p=0∨p=-9223372036854775808
 ·rw[if_pos z];rcases z with rfl|rfl<;>decide
 rw[if_neg z]
 obtain⟨n1,k1⟩:=gp h
 have e1:neg p=if p<0 then p+9223372036854775808 else p-9223372036854775808:=by unfold neg;rw[if_neg h.2]
 have i1:¬ neg p=9218868437227405312:=by rw[e1];split<;>omega
 obtain⟨_,n2,_,_⟩:=pS n1.1 n1.2 i1
 have e2:next (neg p)=if neg p<0 then neg p-1 else neg p+1:=by unfold next;rw[if_neg n1.2,if_neg i1,if_neg (by rw[e1];split<;>omega)]
 unfold dJ
 unfold neg
 rw[if_neg (by exact n2)]
 show(if next (neg p)<0 then next (neg p)+9223372036854775808 else next (neg p)-9223372036854775808)=_
 rw[e2,e1]
 unfold bk bF at h4
 repeat' split
 all_goals omega
theorem wS {p:Int} (h:nn p) (w:World) :
  Calls prog 101 #[.float .f64 (wd p),.float .f64 18442240474082181120] w fun e w'=>e=.returned (.float .f64 (wd (dJ p)))∧w'=w:=by
 have hd:=dw
 have hbt:=fl
 have ey:wd (-4503599627370496)=18442240474082181120:=by decide
 have ny:nn (-4503599627370496):=⟨by unfold au;omega,by decide⟩
 have ky:aj (-4503599627370496)=-9218868437227405312:=by decide
 have n0:nn 0:=cP.1
 have k0:aj 0=0:=by decide
 have e0:wd 0=0:=by decide
 have hr:=h.1
 unfold au at hr
 have CX:Hid (∀ W,Calls prog 121 #[.float .f64 (wd p)] W fun e w'=>e=.returned (.bool false)∧w'=W):=fun W=>j8 h W
 have CY:Hid (∀ W,Calls prog 121 #[.float .f64 18442240474082181120] W fun e w'=>e=.returned (.bool false)∧w'=W):=fun W=>by rw[<- ey];exact j8 ny W
 have hw:=qi p
 by_cases a1:p=-4503599627370496
 ·subst a1
  have o1:=fP h.1 ny.1 h.2 ny.2 rfl
  rw[ey] at o1 CX ⊢
  clear hr
  go_enter func101,ntmps101
  go_wp2_with fail
  refine(CX.out _).mono ?_
  rintro _ _ ⟨rfl,rfl⟩
  go_wp2_with fail
  refine(CY.out _).mono ?_
  rintro _ _ ⟨rfl,rfl⟩
  go_wp2
  go_ret
  exact⟨cZ (by rw[show dJ (-4503599627370496)=-4503599627370496 by decide];exact ey.symm),rfl⟩
 have kp:-9218868437227405312<aj p:=by
  have h4:=fI h.2
  unfold aj bk bF at *
  split<;>omega
 have o1:=fO h.1 ny.1 h.2 ny.2 (by rw[ky];exact kp)
 have o2:=fN ny.1 h.1 ny.2 h.2 (by rw[ky];exact kp)
 rw[ey] at o1 o2
 rcases Int.lt_trichotomy (aj p) 0 with g|g|g
 ·have o3:=fN h.1 n0.1 h.2 n0.2 (by rw[k0];exact g)
  rw[e0] at o3
  have hp:p<0∧p ≠ -9223372036854775808:=by unfold aj at g;split at g<;>omega
  have hn:dJ p=p+1:=by have:=wA h.1 h.2 a1;have hq:=jc h a1;rw[hq,if_neg (by omega),if_pos hp.1]
  have hv:wd (p+1)=wd p+1∧wd p<18446744073709551615:=by unfold wd;unfold aj at kp;split at kp<;>omega
  clear hr
  go_enter func101,ntmps101
  go_wp2_with fail
  refine(CX.out _).mono ?_
  rintro _ _ ⟨rfl,rfl⟩
  go_wp2_with fail
  refine(CY.out _).mono ?_
  rintro _ _ ⟨rfl,rfl⟩
  go_wp2
  go_ret
  exact⟨cZ (by rw[hn,hv.1]),rfl⟩
 ·have o3:=fP h.1 n0.1 h.2 n0.2 (by rw[k0];exact g)
  rw[e0] at o3
  have hp:p=0∨p=-9223372036854775808:=by unfold aj at g;split at g<;>omega
  have hn:dJ p=-9223372036854775807:=by rcases hp with rfl|rfl<;>decide
  have e1:wd (-9223372036854775807)=9223372036854775809:=by decide
  clear hr
  go_enter func101,ntmps101
  go_wp2_with fail
  refine(CX.out _).mono ?_
  rintro _ _ ⟨rfl,rfl⟩
  go_wp2_with fail
  refine(CY.out _).mono ?_
  rintro _ _ ⟨rfl,rfl⟩
  go_wp2_with (go_at_call 123;refine(wR _).mono ?_;rintro _ _ ⟨rfl,rfl⟩)
  go_ret
  exact⟨cZ (by rw[hn];exact e1.symm),rfl⟩
 ·have o3:=fO h.1 n0.1 h.2 n0.2 (by rw[k0];exact g)
  rw[e0] at o3
  have hp:0<p:=by unfold aj at g;split at g<;>omega
  have hn:dJ p=p-1:=by rw[jc h a1,if_neg (by omega),if_neg (by omega)]
  have hv:wd (p-1)=wd p-1∧1<=wd p:=by unfold wd;omega
  clear hr
  go_enter func101,ntmps101
  go_wp2_with fail
  refine(CX.out _).mono ?_
  rintro _ _ ⟨rfl,rfl⟩
  go_wp2_with fail
  refine(CY.out _).mono ?_
  rintro _ _ ⟨rfl,rfl⟩
  go_wp2
  go_ret
  exact⟨cZ (by rw[hn,hv.1]),rfl⟩
theorem tu {p:Int} (h:nn p) (l:Nat) (o:FloatKind.f64.format.order l 0=some .lt) (w:World) :
  Calls prog 78 #[.float .f64 (wd p),.float .f64 l] w fun e w'=>e=.returned (.agg #[.float .f64 (wd (dJ p)),.float .f64 (wd p)])∧w'=w.alloc (.cells #[.float .f64 (wd (dJ p)),.float .f64 (wd p)] 64):=by
 have hst:∀ (p:Addr) (n:Nat) (m:Mode) (w:World),(store p (.float .f64 n) m).run prog w=stored prog w p (.float .f64 n) m:=fun p n m w=>run_store _ w p _ m rfl
 have CI:Hid (∀ W,Calls prog 102 #[.int .i64 (-1)] W fun e w'=>e=.returned (.float .f64 18442240474082181120)∧w'=W):=fun W=>yO W
 have CN:Hid (∀ W,Calls prog 101 #[.float .f64 (wd p),.float .f64 18442240474082181120] W fun e w'=>e=.returned (.float .f64 (wd (dJ p)))∧w'=W):=fun W=>wS h W
 have hg:(w.alloc (.cells #[.float .f64 (wd (dJ p)),.float .f64 (wd p)] 64)).heap[w.heap.size]?=some (.cells #[.float .f64 (wd (dJ p)),.float .f64 (wd p)] 64 (0,0)):=by show(w.heap.push _)[w.heap.size]?=_;simp
 have e0:=ab hg 0 rfl
 have e1:=ab hg 1 rfl
 clear h
 go_enter func78,ntmps78
 go_wp2_with fail
 refine(CI.out _).mono ?_
 rintro _ _ ⟨rfl,rfl⟩
 go_wp2_with fail
 refine(CN.out _).mono ?_
 rintro _ _ ⟨rfl,rfl⟩
 go_wp2
 refine bodyPost_ret (v:=.agg #[.float .f64 (wd (dJ p)),.float .f64 (wd p)]) (by simp[results,results78,go_sem,e0,e1]) rfl ⟨rfl,rfl⟩
theorem wT {p:Int} (h:nn p) (l:Nat) (o:FloatKind.f64.format.order l 0=some .gt) (w:World) :
  Calls prog 78 #[.float .f64 (wd p),.float .f64 l] w fun e w'=>e=.returned (.agg #[.float .f64 (wd p),.float .f64 (wd (next p))])∧w'=w.alloc (.cells #[.float .f64 (wd p),.float .f64 (wd (next p))] 64):=by
 have hst:∀ (p:Addr) (n:Nat) (m:Mode) (w:World),(store p (.float .f64 n) m).run prog w=stored prog w p (.float .f64 n) m:=fun p n m w=>run_store _ w p _ m rfl
 have CI:Hid (∀ W,Calls prog 102 #[.int .i64 1] W fun e w'=>e=.returned (.float .f64 9218868437227405312)∧w'=W):=fun W=>B9 W
 have CN:Hid (∀ W,Calls prog 101 #[.float .f64 (wd p),.float .f64 9218868437227405312] W fun e w'=>e=.returned (.float .f64 (wd (next p)))∧w'=W):=fun W=>AL h W
 have hg:(w.alloc (.cells #[.float .f64 (wd p),.float .f64 (wd (next p))] 64)).heap[w.heap.size]?=some (.cells #[.float .f64 (wd p),.float .f64 (wd (next p))] 64 (0,0)):=by show(w.heap.push _)[w.heap.size]?=_;simp
 have e0:=ab hg 0 rfl
 have e1:=ab hg 1 rfl
 clear h
 go_enter func78,ntmps78
 go_wp2_with fail
 refine(CI.out _).mono ?_
 rintro _ _ ⟨rfl,rfl⟩
 go_wp2_with fail
 refine(CN.out _).mono ?_
 rintro _ _ ⟨rfl,rfl⟩
 go_wp2
 refine bodyPost_ret (v:=.agg #[.float .f64 (wd p),.float .f64 (wd (next p))]) (by simp[results,results78,go_sem,e0,e1]) rfl ⟨rfl,rfl⟩
theorem tv (p l:Nat) (o:FloatKind.f64.format.order l 0=some .eq∨FloatKind.f64.format.order l 0=none) (w:World) :
  Calls prog 78 #[.float .f64 p,.float .f64 l] w fun e w'=>e=.returned (.agg #[.float .f64 p,.float .f64 p])∧w'=w.alloc (.cells #[.float .f64 p,.float .f64 p] 64):=by
 have hst:∀ (p:Addr) (n:Nat) (m:Mode) (w:World),(store p (.float .f64 n) m).run prog w=stored prog w p (.float .f64 n) m:=fun p n m w=>run_store _ w p _ m rfl
 have hg:(w.alloc (.cells #[.float .f64 p,.float .f64 p] 64)).heap[w.heap.size]?=some (.cells #[.float .f64 p,.float .f64 p] 64 (0,0)):=by show(w.heap.push _)[w.heap.size]?=_;simp
 have e0:=ab hg 0 rfl
 have e1:=ab hg 1 rfl
 rcases o with o|o
 all_goals
  go_enter func78,ntmps78
  go_wp2
  refine bodyPost_ret (v:=.agg #[.float .f64 p,.float .f64 p]) (by simp[results,results78,go_sem,e0,e1]) rfl ⟨rfl,rfl⟩
theorem j9 (x:Int):sg true x=-x:=rfl
theorem ke (x:Int):sg false x=x:=rfl
theorem fs {ng:Bool} {r0:Nat} {left:Int} (way:Int) (h:(r0:Int)<9218868437227405312):aN way ng r0 left=(r0:Int)+(if aW way ng (decide (r0 % 2=1)) left then 1 else 0):=by
 unfold aN;rw[if_pos h]
theorem lk {V:Int} (h0:V≠0):∃ (g:Bool) (A:Int) (r0:Nat) (left:Int),V=sg g A∧0<A∧co A r0 left∧bf V=aw g (aN 0 g r0 left)∧cq 1 V=aw g (aN 1 g r0 left)∧cq 2 V=aw g (aN 2 g r0 left):=by
 obtain⟨A,r0,left,e1,hR,e2⟩:=fo h0
 have hA:0<A:=by
  by_cases hn:V<0
  ·rw[decide_eq_true hn] at e1
   have:V=-A:=e1
   omega
  ·rw[decide_eq_false hn] at e1
   have:V=A:=e1
   omega
 exact⟨decide (V<0),A,r0,left,e1,hA,hR,e2,lh h0 ⟨A,r0,left,e1,hR,rfl⟩,lh h0 ⟨A,r0,left,e1,hR,rfl⟩⟩
theorem gJ {g:Bool} {r:Int} (h0:0<=r) (h1:r<=9218868437227405312):nn (aw g r):=by
 obtain⟨a,b⟩:=eZ (ng:=g) h0 h1
 exact⟨a,b⟩
theorem uM {r:Int} (h0:0<=r) (h1:r<9218868437227405312):next (aw false r)=aw false (r+1):=by
 have hn:=gJ (g:=false) h0 (by omega)
 unfold next
 rw[if_neg hn.2]
 show(if r=9218868437227405312 then r else if r=-9223372036854775808 then 1 else if r<0 then r-1 else r+1)=r+1
 rw[if_neg (by omega),if_neg (by omega),if_neg (by omega)]
theorem uN {r:Int} (h0:0<=r) (h1:r<9218868437227405312):next (aw true (r+1))=aw true r:=by
 have hn:=gJ (g:=true) (show 0<=r+1 by omega) (by omega)
 unfold next
 rw[if_neg hn.2]
 show(if r+1-9223372036854775808=9218868437227405312 then r+1-9223372036854775808 else if r+1-9223372036854775808=-9223372036854775808 then 1 else if r+1-9223372036854775808<0 then r+1-9223372036854775808-1 else r+1-9223372036854775808+1)=r-9223372036854775808
 rw[if_neg (by omega),if_neg (by omega),if_pos (by omega)]
 omega
theorem uO {r:Int} (h0:0<=r) (h1:r<9218868437227405312):dJ (aw false (r+1))=aw false r:=by
 have hn:=gJ (g:=false) (show 0<=r+1 by omega) (by omega)
 rw[jc hn (show ¬ r+1=-4503599627370496 by omega)]
 show(if r+1=0∨r+1=-9223372036854775808 then (-9223372036854775807:Int) else if r+1<0 then r+1+1 else r+1-1)=r
 rw[if_neg (by omega),if_neg (by omega)]
 omega
theorem uP {r:Int} (h0:0<=r) (h1:r<9218868437227405312):dJ (aw true r)=aw true (r+1):=by
 have hn:=gJ (g:=true) h0 (by omega)
 rw[jc hn (show ¬ r-9223372036854775808=-4503599627370496 by omega)]
 show(if r-9223372036854775808=0∨r-9223372036854775808=-9223372036854775808 then (-9223372036854775807:Int) else if r-9223372036854775808<0 then r-9223372036854775808+1 else r-9223372036854775808-1)=r+1-9223372036854775808
 by_cases hr:r=0
 ·rw[if_pos (by omega)];omega
 ·rw[if_neg (by omega),if_pos (by omega)];omega
theorem mO (odd:Bool) (left:Int):aW 1 false odd left=false∧(left≠0->aW 1 true odd left=true)∧aW 2 true odd left=false∧(left≠0->aW 2 false odd left=true)∧(∀ way g,left=0->aW way g odd left=false):=by
 refine⟨?_,fun h=>?_,?_,fun h=>?_,fun way g h=>?_⟩
 ·unfold aW;simp
 ·unfold aW;simp[h]
 ·unfold aW;simp
 ·unfold aW;simp[h]
 ·cases hu:aW way g odd left
  ·rfl
  ·rw[h] at hu;exact absurd hu (fun q=>ef q)
theorem yP {V:Int} (h0:V≠0) (hf:aB (bf V)=true) :
  (V<aM (bf V)->dJ (bf V)=cq 1 V∧bf V=cq 2 V)∧(aM (bf V)<V->bf V=cq 1 V∧next (bf V)=cq 2 V)∧(V=aM (bf V)->bf V=cq 1 V∧bf V=cq 2 V):=by
 obtain⟨g,A,r0,left,e,hA,hR,en,e1,e2⟩:=lk h0
 have hrr:=bT 0 g r0 left
 rw[en,gI hrr.1 hrr.2] at hf
 have hf:=of_decide_eq_true hf
 have hr0:(r0:Int)<9218868437227405312:=by
  rcases Int.lt_or_le (r0:Int) 9218868437227405312 with q|q
  ·exact q
  ·exfalso
   unfold aN at hf
   rw[if_neg (by omega)] at hf
   unfold ce at hf
   rw[show aW 0 g true 3=true by cases g<;>decide,if_pos rfl] at hf
   omega
 obtain⟨lo,hi,l0,l1,l2,l3⟩:=hR
 obtain⟨u1,u2,u3,u4,u5⟩:=mO (decide (r0 % 2=1)) left
 rw[en,e1,e2,fs 1 hr0,fs 2 hr0]
 rw[fs 0 hr0] at hf ⊢
 have pv:∀ r:Nat,(r:Int)<9218868437227405312->aM (aw g (r:Int))=sg g (vS r):=fun r hr=>by
  cases g
  ·exact dz hr (fun q=>by cases q)
  ·exact ml hr
 have pv0:=pv r0 hr0
 have pv1:=pv (r0+1)
 clear pv l1 l2 l3
 generalize vS r0=a at *
 generalize vS (r0+1)=b at *
 by_cases hl:left=0
 ·have ha:=l0.1 hl
  rw[u5 0 g hl,u5 1 g hl,u5 2 g hl]
  simp only[Bool.false_eq_true,if_false,Int.add_zero] at hf ⊢
  rw[pv0,e,ha]
  clear pv0 pv1 en e1 e2 e h0
  exact⟨fun q=>absurd q (by omega),fun q=>absurd q (by omega),fun _=>⟨trivial,trivial⟩⟩
 ·have hlt:a<A:=by
   have:A≠a:=fun q=>hl (l0.2 q)
   omega
  cases hu:aW 0 g (decide (r0 % 2=1)) left
  ·rw[hu] at hf
   simp only[Bool.false_eq_true,if_false,Int.add_zero] at hf ⊢
   rw[pv0,e]
   clear pv0 pv1 en e1 e2 e h0
   cases g
   ·rw[u1,u4 hl]
    simp only[Bool.false_eq_true,if_false,if_true,Int.add_zero]
    refine⟨fun q=>?_,fun _=>⟨trivial,uM (by omega) hr0⟩,fun q=>?_⟩
    ·rw[ke,ke] at q
     omega
    ·rw[ke,ke] at q
     omega
   ·rw[u2 hl,u3]
    simp only[Bool.false_eq_true,if_false,if_true,Int.add_zero]
    refine⟨fun _=>⟨uP (by omega) hr0,trivial⟩,fun q=>?_,fun q=>?_⟩
    ·rw[j9,j9] at q
     omega
    ·rw[j9,j9] at q
     omega
  ·rw[hu] at hf
   simp only[if_true] at hf ⊢
   rw[show(r0:Int)+1=((r0+1:Nat):Int) by push_cast;rfl] at hf ⊢
   rw[pv1 hf,e]
   clear pv0 pv1 en e1 e2 e h0
   rw[show((r0+1:Nat):Int)=(r0:Int)+1 by push_cast;rfl]
   cases g
   ·rw[u1,u4 hl]
    simp only[Bool.false_eq_true,if_false,if_true,Int.add_zero]
    refine⟨fun _=>⟨uO (by omega) hr0,trivial⟩,fun q=>?_,fun q=>?_⟩
    ·rw[ke,ke] at q
     omega
    ·rw[ke,ke] at q
     omega
   ·rw[u2 hl,u3]
    simp only[Bool.false_eq_true,if_false,if_true,Int.add_zero]
    refine⟨fun q=>?_,fun _=>⟨trivial,uN (by omega) hr0⟩,fun q=>?_⟩
    ·rw[j9,j9] at q
     omega
    ·rw[j9,j9] at q
     omega
theorem yQ {V:Int} (h0:V≠0) (hf:aB (bf V)=false) :
  (0<V->bf V=9218868437227405312∧cq 1 V=9218868437227405311∧cq 2 V=9218868437227405312)∧(V<0->bf V=-4503599627370496∧cq 1 V=-4503599627370496∧cq 2 V=-4503599627370497):=by
 obtain⟨g,A,r0,left,e,hA,hR,en,e1,e2⟩:=lk h0
 have hrr:=bT 0 g r0 left
 rw[en,gI hrr.1 hrr.2] at hf
 have hf:=of_decide_eq_false hf
 obtain⟨u1,u2,u3,u4,u5⟩:=mO (decide (r0 % 2=1)) left
 have hr:aN 0 g r0 left=9218868437227405312:=by omega
 have aj:(∀ g',g=g'->aN 1 g r0 left=if g' then 9218868437227405312 else 9218868437227405311)∧(∀ g',g=g'->aN 2 g r0 left=if g' then 9218868437227405311 else 9218868437227405312):=by
  by_cases hr0:(r0:Int)<9218868437227405312
  ·rw[fs 0 hr0] at hr
   have hl:left≠0:=fun q=>by
    rw[u5 0 g q] at hr
    simp at hr
    omega
   have hrv:(r0:Int)=9218868437227405311:=by
    split at hr<;>omega
   rw[fs 1 hr0,fs 2 hr0]
   cases g
   ·rw[u1,u4 hl]
    constructor
    ·intro g' hg;subst hg;simp;omega
    ·intro g' hg;subst hg;simp;omega
   ·rw[u2 hl,u3]
    constructor
    ·intro g' hg;subst hg;simp;omega
    ·intro g' hg;subst hg;simp;omega
  ·unfold aN ce
   rw[if_neg hr0,if_neg hr0]
   cases g
   ·constructor
    ·intro g' hg;subst hg;decide
    ·intro g' hg;subst hg;decide
   ·constructor
    ·intro g' hg;subst hg;decide
    ·intro g' hg;subst hg;decide
 cases g
 ·refine⟨fun _=>⟨?_,?_,?_⟩,fun q=>?_⟩
  ·rw[en,hr];rfl
  ·rw[e1,aj.1 false rfl];rfl
  ·rw[e2,aj.2 false rfl];rfl
  ·have:V=A:=e
   omega
 ·refine⟨fun q=>?_,fun _=>⟨?_,?_,?_⟩⟩
  ·have:V=-A:=e
   omega
  ·rw[en,hr];rfl
  ·rw[e1,aj.1 true rfl];rfl
  ·rw[e2,aj.2 true rfl];rfl
def bL (a b:Int):Int:=sg (aU a b) (df a b)
theorem AM {a b:Int}:bL a b=aM a*aM b/2^4194304:=by
 unfold bL df
 cases aU a b
 ·rfl
 ·show - -_=_;rw[Int.neg_neg]
theorem ig {a b:Int} (ra:au a) (rb:au b) (pa:aB a=true) (pb:aB b=true) :
  ∃ N t:Nat,df a b=(N:Int)*pw (-2148+(t:Int))∧N<2^106∧bL a b*2^4194304=aM a*aM b:=by
 obtain⟨m,u,h1,v1⟩:=cK ra pa
 obtain⟨n,v,h2,v2⟩:=cK rb pb
 have b1:=p7 ra pa h1
 have b2:=p7 rb pb h2
 have hpm:=kK (a:=-1074+(u:Int)) (b:=-1074+(v:Int)) (by omega) (by omega)
 have hC:=ld (g:=decide (a<0)) (h:=decide (b<0)) (x:=(m:Int)) (y:=(n:Int)) hpm
 rw[<- v1,<- v2] at hC
 have hcast:((m*n:Nat):Int)=(m:Int)*(n:Int):=by push_cast;rfl
 have hf:df a b=((m*n:Nat):Int)*pw (-1074+(u:Int)+(-1074+(v:Int))):=by rw[hcast];exact mo (aF 4194304) hC
 refine⟨m*n,u+v,?_,?_,?_⟩
 ·rw[hf,show -1074+(u:Int)+(-1074+(v:Int))=-2148+((u+v:Nat):Int) by push_cast;omega]
 ·have e:(2:Nat)^106=9007199254740992*9007199254740992:=by decide
  rw[e]
  exact Nat.lt_of_le_of_lt (Nat.mul_le_mul_left m (Nat.le_of_lt b2.1)) (Nat.mul_lt_mul_of_pos_right b1.1 (by decide))
 ·rw[<- hC]
  unfold bL
  rw[hf,hcast]
  rfl
theorem wV {N U s t q Z E:Nat} (hE:E=1074) (hZ:Z=2^E) (hq:0<q) (hN:N<2^106) (hU:4503599627370496<=U) (lo:U*2^s*(q*Z)<=N*(q*2^t)):s+1021<=t:=by
 have e52:(2:Nat)^52=4503599627370496:=by decide
 have hB:=Nat.two_pow_pos s
 have hC:=Nat.two_pow_pos t
 have hZ0:0<Z:=by rw[hZ];exact Nat.two_pow_pos _
 have l1:4503599627370496*(2^s*Z*q)<=U*2^s*(q*Z):=by
  rw[show U*2^s*(q*Z)=U*(2^s*Z*q) by generalize (2:Nat)^s=B;grind]
  exact Nat.mul_le_mul_right _ hU
 have l2:N*(q*2^t)<2^106*2^t*q:=by
  rw[show 2^106*2^t*q=2^106*(q*2^t) by generalize (2:Nat)^106=A;generalize (2:Nat)^t=B;grind]
  exact Nat.mul_lt_mul_of_pos_right hN (Nat.mul_pos hq hC)
 have l3:(4503599627370496*2^s*Z)*q<(2^106*2^t)*q:=by
  have:4503599627370496*2^s*Z*q=4503599627370496*(2^s*Z*q):=by generalize (2:Nat)^s=B;grind
  rw[this]
  exact Nat.lt_of_le_of_lt (Nat.le_trans l1 lo) l2
 have l4:=Nat.lt_of_mul_lt_mul_right l3
 rw[<- e52,hZ,<- Nat.pow_add,<- Nat.pow_add,<- Nat.pow_add] at l4
 have h3:=(Nat.pow_lt_pow_iff_right (by decide:1<2)).1 l4
 omega
theorem AN {N U s k:Nat} {S:Int} (hk:s<=k+53) (h:S=(N:Int)*2^k-(U:Int)*2^s∨S=(N:Int)*2^k-((U:Int)+1)*2^s) (hS:(S.natAbs:Int)<2^s):Fl S:=by
 rcases Nat.lt_or_ge k s with g|g
 ·refine lF (k:=k) ?_ ?_
  ·obtain⟨d,hd⟩:=gS (Nat.le_of_lt g)
   rcases h with h|h
   ·exact⟨N-U*d,by rw[h,hd];grind⟩
   ·exact⟨N-(U+1)*d,by rw[h,hd];grind⟩
  ·have h1:=qa hk
   rw[Int.pow_add,show(2:Int)^53=9007199254740992 by decide,Int.mul_comm] at h1
   omega
 ·obtain⟨d,hd⟩:=gS g
  have hdv:(2^s:Int) ∣ S:=by
   rcases h with h|h
   ·exact⟨N*d-U,by rw[h,hd];grind⟩
   ·exact⟨N*d-(U+1),by rw[h,hd];grind⟩
  have h0:S=0:=by
   obtain⟨c,hc⟩:=hdv
   have hp:=p2 s
   rcases Int.lt_trichotomy c 0 with hn|hn|hn
   ·have:2^s*c<=2^s*(-1):=Int.mul_le_mul_of_nonneg_left (by omega) (Int.le_of_lt hp)
    omega
   ·rw[hc,hn,Int.mul_zero]
   ·have:2^s*1<=2^s*c:=Int.mul_le_mul_of_nonneg_left (by omega) (Int.le_of_lt hp)
    omega
  rw[h0];exact iK
theorem DE (a b:Int):-a - -b=-(a-b):=by omega
theorem yR {N U s t E:Nat} {z q pt W:Int} (hE:E=1074) (hz:0<z) (et:pt=z*2^t) (eq:q=z*2^E) (hN:N<2^106) (hU0:4503599627370496<=U) (hs0:60<=s) (Rlo:(U:Int)*2^s*q<=(N:Int)*pt) (Rhi:(N:Int)*pt<((U:Int)+1)*2^s*q)
  (hW:W=(U:Int)*2^s∨(W=((U:Int)+1)*2^s∧(N:Int)*pt≠(U:Int)*2^s*q)) (hmax:(U:Int)*2^s<=gn):∃ S:Int,(N:Int)*pt-W*q=S*q∧Fl S∧(S.natAbs:Int)<=gn:=by
 have hts:s+1021<=t:=by
  obtain⟨Z,hZ⟩:∃ Z:Nat,Z=2^E:=⟨_,rfl⟩
  have hZi:(2:Int)^E=(Z:Int):=by rw[hZ];push_cast;rfl
  obtain⟨n,rfl⟩:∃ n:Nat,z=n:=⟨z.toNat,by omega⟩
  rw[et,eq,hZi] at Rlo
  refine wV (N:=N) (U:=U) (q:=n) hE hZ (by omega) hN hU0 ?_
  exact_mod_cast Rlo
 obtain⟨k,rfl⟩:∃ k,t=E+k:=⟨t-E,by omega⟩
 have eA:pt=2^k*q:=by
  rw[et,eq,Nat.add_comm,Int.pow_add]
  generalize (2:Int)^E=X
  generalize (2:Int)^k=Y
  grind
 have hq:0<q:=by rw[eq];exact Int.mul_pos hz (p2 E)
 clear et eq
 rw[eA,<- Int.mul_assoc] at Rlo Rhi hW
 rw[eA,<- Int.mul_assoc]
 have Rlo:=Int.le_of_mul_le_mul_right Rlo hq
 have Rhi:=Int.lt_of_mul_lt_mul_right Rhi (Int.le_of_lt hq)
 have hp:=p2 s
 have hU2:2^s<=(U:Int)*2^s:=by
  have:=Int.mul_le_mul_of_nonneg_right (show(1:Int)<=U by omega) (Int.le_of_lt hp)
  rwa [Int.one_mul] at this
 have hW2:W=(U:Int)*2^s∨(W=((U:Int)+1)*2^s∧(N:Int)*2^k≠(U:Int)*2^s):=by
  rcases hW with h|⟨h,g⟩
  ·exact .inl h
  ·exact .inr ⟨h,fun e=>g (by rw[e])⟩
 clear hW
 have hS:(((N:Int)*2^k-W).natAbs:Int)<2^s:=by
  rw[Int.add_mul,Int.one_mul] at Rhi hW2
  clear hmax
  generalize (N:Int)*2^k=x at *
  generalize (2:Int)^s=y at *
  generalize (U:Int)*y=z' at *
  rcases hW2 with hW|⟨hW,g⟩<;>omega
 have hF:Fl ((N:Int)*2^k-W):=AN (N:=N) (k:=k) (U:=U) (s:=s) (by omega) (by rcases hW2 with hW|⟨hW,_⟩;exact .inl (by rw[hW]);exact .inr (by rw[hW])) hS
 refine⟨(N:Int)*2^k-W,by rw[Int.sub_mul],hF,?_⟩
 exact Int.le_trans (Int.le_of_lt hS) (Int.le_trans hU2 hmax)
theorem AO:pw (-1074)=pw (-2148)*2^1074:=by
 obtain⟨E,hE⟩:∃ E:Nat,E=1074:=⟨_,rfl⟩
 have:=dM (e:=-2148) (by decide) E
 rw[show(-2148:Int)+(E:Int)=-1074 by rw[hE];decide] at this
 rw[<- hE]
 exact this
theorem uQ {a b way:Int} (ra:au a) (rb:au b) (pa:aB a=true) (pb:aB b=true) (h:bL a b≠0) (lo:283726776524341248<=rg (cq way (bL a b))) (hi:rg (cq way (bL a b))<=9209861237972664320∨(way=0∧rg (cq way (bL a b))<9218868437227405312)) :
  ∃ S:Int,bL a b-aM (cq way (bL a b))=S*pw (-1074)∧Fl S∧(S.natAbs:Int)<=gn:=by
 obtain⟨N,t,hf,hN,hX⟩:=ig ra rb pa pb
 clear hX
 obtain⟨A,r0,left,e1,hR,e2⟩:=p9 way h
 generalize cq way (bL a b)=p at *
 have hA:A=(N:Int)*pw (-2148+(t:Int))∧decide (bL a b<0)=aU a b:=by
  have hp:0<df a b:=by
   have h0:0<=df a b:=by rw[hf];exact Int.mul_nonneg (by omega) (Int.le_of_lt (bD _))
   have h1:df a b≠0:=fun e=>h (by unfold bL;rw[e];cases aU a b<;>rfl)
   omega
  have hs:decide (bL a b<0)=aU a b:=lE hp
  rw[hs] at e1
  exact⟨(ie e1).symm.trans hf,hs⟩
 obtain⟨hA,hs⟩:=hA
 rw[hs] at e1 e2
 have hrr:=bT way (aU a b) r0 left
 obtain⟨rp,hrg,hng⟩:=cV (ng:=aU a b) hrr.1 hrr.2
 rw[<- e2] at rp hrg hng
 have hpp:aB p=true:=(bm rp).2 (by omega)
 have hr0:(r0:Int)<9218868437227405312:=by
  rcases Int.lt_or_le (r0:Int) 9218868437227405312 with g|g
  ·exact g
  ·exfalso
   rw[hrg] at hi
   unfold aN at hi
   rw[if_neg (by omega)] at hi
   unfold ce at hi
   rcases hi with hi|⟨hw,hi⟩
   ·split at hi<;>omega
   ·rw[hw,show aW 0 (aU a b) true 3=true by cases aU a b<;>decide,if_pos rfl] at hi
    omega
 have hrt:aN way (aU a b) r0 left=(r0:Int)∨(aN way (aU a b) r0 left=(r0:Int)+1∧left≠0):=by
  unfold aN
  rw[if_pos hr0]
  by_cases hu:aW way (aU a b) (decide (r0 % 2=1)) left=true
  ·right
   rw[if_pos hu]
   exact⟨rfl,fun e=>by rw[e] at hu;exact ef hu⟩
  ·left
   rw[if_neg hu];omega
 obtain⟨Rlo,Rhi,l0,_,_,_⟩:=hR
 obtain⟨s,U,hsU,hU0,hU1,hs0,hs1⟩:∃ s U:Nat,r0=s*4503599627370496+U∧4503599627370496<=U∧U<9007199254740992∧60<=s∧s<=2045:=by
  refine⟨r0/4503599627370496-1,r0-(r0/4503599627370496-1)*4503599627370496,?_,?_,?_,?_,?_⟩
  all_goals (rcases hrt with g|⟨g,_⟩<;>omega)
 obtain⟨V0,V1⟩:=jw Ieee.double s U (by rw[iu];omega) (fun _=>by rw[iu];omega)
 rw[iu,<- hsU] at V0 V1
 have hmax:(U:Int)*2^s<=gn:=by
  have:=tn (show r0<=9218868437227405311 by omega)
  rw[V0] at this
  push_cast at this
  exact this
 have hrt:∃ W:Int,(W=(U:Int)*2^s∨(W=((U:Int)+1)*2^s∧left≠0))∧(V Ieee.double (aN way (aU a b) r0 left).toNat:Int)=W:=by
  rcases hrt with g|⟨g,g2⟩
  ·refine⟨_,.inl ?_,rfl⟩
   rw[g,Int.toNat_natCast,V0];push_cast;rfl
  ·refine⟨_,.inr ⟨?_,g2⟩,rfl⟩
   rw[g,show((r0:Int)+1).toNat=r0+1 by omega,V1];push_cast;rfl
 obtain⟨W,hW,hVW⟩:=hrt
 unfold vS at Rlo Rhi l0
 rw[V0] at Rlo l0
 rw[V1] at Rhi
 push_cast at Rlo Rhi l0
 rw[hA] at Rlo Rhi l0
 have hpv:aM p=sg (aU a b) W*pw (-1074):=by
  rw[dR rp hpp]
  unfold iV
  rw[hng,hrg,hVW]
 obtain⟨S,h1,h2,h3⟩:=yR (E:=1074) rfl (bD (-2148)) (dM (by decide) t) AO hN hU0 hs0 Rlo Rhi (by rcases hW with h|⟨h,g⟩;exact .inl h;exact .inr ⟨h,fun e=>g (l0.2 e)⟩) hmax
 refine⟨sg (aU a b) S,?_,?_,?_⟩
 ·rw[e1,hpv,hA,iH,iH,<- h1]
  cases aU a b
  ·rfl
  ·exact DE _ _
 ·cases aU a b
  ·exact h2
  ·exact h2.neg
 ·have hn:(sg (aU a b) S).natAbs=S.natAbs:=by
   cases aU a b
   ·rfl
   ·exact Int.natAbs_neg _
  rw[hn]
  exact h3
theorem yS (p q r:Int):iW p q r=bL p q+aM r:=rfl
theorem cx {a:Int} (ra:au a) (h:aB a=true):aD a≠4:=fun e=>by
 have hf:=mz h
 unfold aD at e
 rw[if_neg hf] at e
 split at e
 ·split at e<;>omega
 ·omega
theorem tw {S:Int} (hF:Fl S) (h0:S≠0) (hb:(S.natAbs:Int)<=gn):au (bf (S*pw (-1074)))∧aB (bf (S*pw (-1074)))=true∧iV (bf (S*pw (-1074)))=S:=by
 obtain⟨h1,h2,h3⟩:=sj h0
 exact⟨h1,h3 hb,cL hF (h2 (h3 hb))⟩
def dG (way a b:Int):Int:=if way=0∨(aB a&&aB b)=false then aL (bs a) (bs b) else if bL a b≠0 then cq way (bL a b) else aL (bs a) (bs b)
theorem wW {a b c:Int} (ra:au a) (rb:au b) (rc:au c) (pa:aB a=true) (pb:aB b=true) (pc:aB c=true) (h:iW a b c=0):cT a b c=aw (aU a b&&decide (c<0)) 0:=by
 have h1:=(bm ra).1 pa
 have h2:=(bm rb).1 pb
 have h3:=(bm rc).1 pc
 unfold cT
 have n4:¬ (aD a=4∨aD b=4∨aD c=4):=fun q=>by rcases q with q|q|q;exact cx ra pa q;exact cx rb pb q;exact cx rc pc q
 have i2:¬ (rg a=9218868437227405312∨rg b=9218868437227405312):=by omega
 have i3:¬ rg c=9218868437227405312:=by omega
 rw[if_neg n4,if_neg i2,if_neg i3,if_pos h]
end Go.Proofs.YtkkpppgfoilgmaaGreatDoor
namespace Go.Proofs.YtkkpppgfoilgmaaGreatDoor
open Go Go.Proofs.Tryz Go.RowKit Go.Proofs.YtkkpppgfoilgmaaGreatDoor.M Ieee
theorem nG:au 9221120237041090561:=by unfold au;decide
theorem mP:aB 9221120237041090561=false:=by decide
theorem ll {p:Int} (hp:au p) (h4:¬ aD p=4) (hi:¬ rg p=9218868437227405312):aB p=true:=by
 have:=(eY hp).1
 rw[bm hp]
 have:¬ 9218868437227405312<rg p:=fun c=>h4 (this.2 c)
 omega
theorem uR {p:Int} (hp:au p) (hi:rg p=9218868437227405312):¬ aB p=true:=fun h=>by
 have:=(bm hp).1 h
 omega
theorem nH {p:Int} (hp:au p) (h:aB p=true):¬ aD p=4∧¬ rg p=9218868437227405312:=by
 have h1:=(bm hp).1 h
 exact⟨fun c=>by have:=(eY hp).1.1 c;omega,by omega⟩
theorem ol {p q:Int} (hp:au p) (hq:au q) (h:aB (bX p q)=true):aB p=true∧aB q=true:=by
 unfold bX at h
 by_cases c4:aD p=4∨aD q=4
 ·rw[if_pos c4,mP] at h;cases h
 rw[if_neg c4] at h
 by_cases ci:rg p=9218868437227405312
 ·rw[if_pos ci] at h
  by_cases cj:rg q=9218868437227405312∧decide (p<0)≠decide (q<0)
  ·rw[if_pos cj,mP] at h;cases h
  ·rw[if_neg cj] at h;exact absurd h (uR hp ci)
 rw[if_neg ci] at h
 by_cases cj:rg q=9218868437227405312
 ·rw[if_pos cj] at h;exact absurd h (uR hq cj)
 exact⟨ll hp (fun c=>c4 (.inl c)) ci,ll hq (fun c=>c4 (.inr c)) cj⟩
theorem tx (g:Bool):au (aw g 0)∧aB (aw g 0)=true∧iV (aw g 0)=0:=by
 refine⟨(cV (by decide) (by decide)).1,?_,?_⟩
 ·rw[gI (by decide) (by decide)];decide
 ·rw[nF (by decide) (by decide)]
  show sg g (V Ieee.double 0:Int)=0
  rw[jt]
  exact dN g
structure ty (S p:Int):Prop where
 rn:au p
 nr:aB p=true->Nr S (iV p)
 fin:(S.natAbs:Int)<=gn->aB p=true
theorem wX (g:Bool):ty 0 (aw g 0):=by
 obtain⟨a,b,c⟩:=tx g
 exact⟨a,fun _=>by rw[c];exact yN,fun _=>b⟩
theorem wY {S:Int} (h:S≠0):ty S (bf (S*pw (-1074))):=by
 obtain⟨a,b,c⟩:=sj h
 exact⟨a,b,c⟩
theorem yT {T w:Int} (hw:0<w) (d:T*w=0):T=0:=by
 rcases Int.mul_eq_zero.1 d with g|g<;>omega
theorem gK {p q:Int} (hp:au p) (hq:au q) (pp:aB p=true) (pq:aB q=true):ty (iV p+iV q) (bX p q):=by
 obtain⟨a1,a2⟩:=nH hp pp
 obtain⟨b1,b2⟩:=nH hq pq
 have e:bX p q=if iV p+iV q=0 then aw (decide (p<0)&&decide (q<0)) 0 else bf ((iV p+iV q)*pw (-1074)):=by
  unfold bX
  rw[if_neg (fun c=>c.elim a1 b1),if_neg a2,if_neg b2,dR hp pp,dR hq pq,<- Int.add_mul]
  have hq:=bD (-1074)
  by_cases c:iV p+iV q=0
  ·rw[if_pos c,if_pos (by rw[c,Int.zero_mul])]
  ·rw[if_neg c,if_neg (fun d=>c (yT hq d))]
 rw[e]
 by_cases c:iV p+iV q=0
 ·rw[if_pos c,c];exact wX _
 ·rw[if_neg c];exact wY c
theorem jd {q:Int} (hq:au q) (h:aB q=true):au (neg q)∧aB (neg q)=true∧iV (neg q)=-iV q:=by
 obtain⟨b1,b2⟩:=nH hq h
 have h1:=(bm hq).1 h
 have e:neg q=aw (!decide (q<0)) (rg q):=by
  unfold neg aw rg
  rw[if_neg b1]
  by_cases c:q<0
  ·rw[if_pos c,if_pos c,decide_eq_true c];rfl
  ·rw[if_neg c,if_neg c,decide_eq_false c];rfl
 have h0:0<=rg q:=by unfold rg;unfold au at hq;split<;>omega
 obtain⟨c1,c2,c3⟩:=cV (ng:=!decide (q<0)) h0 (by omega)
 refine⟨by rw[e];exact c1,by rw[e,gI h0 (by omega)];exact decide_eq_true h1,?_⟩
 rw[e,nF h0 (by omega)]
 unfold iV
 rw[tU]
theorem yU {q:Int} (hq:au q) (h:aB (neg q)=true):aB q=true:=by
 unfold neg at h
 by_cases c:aD q=4
 ·rw[if_pos c,mP] at h;cases h
 ·by_cases ci:rg q=9218868437227405312
  ·exfalso
   rw[if_neg c] at h
   have hr:au (if q<0 then q+9223372036854775808 else q-9223372036854775808):=by unfold au at *;split<;>omega
   have:=(bm hr).1 h
   unfold rg at this ci
   split at this<;>split at ci<;>split at this<;>omega
  ·exact ll hq c ci
theorem ft {q:Int} (hq:au q):au (neg q):=by
 unfold neg au at *
 split
 ·omega
 ·split<;>omega
theorem fc {p q:Int} (hp:au p) (hq:au q) (pp:aB p=true) (pq:aB q=true):ty (iV p-iV q) (bX p (neg q)):=by
 obtain⟨a,b,c⟩:=jd hq pq
 have:=gK hp a pp b
 rw[c] at this
 exact this
theorem kh {p q:Int} (hp:au p) (hq:au q) (h:aB (bX p (neg q))=true):aB p=true∧aB q=true:=by
 obtain⟨a,b⟩:=ol hp (ft hq) h
 exact⟨a,yU hq b⟩
theorem c9 {p q:Int} (hp:au p) (hq:au q):au (bX p q):=by
 by_cases h:aB p=true∧aB q=true
 ·exact(gK hp hq h.1 h.2).rn
 ·unfold bX
  by_cases c4:aD p=4∨aD q=4
  ·rw[if_pos c4];exact nG
  rw[if_neg c4]
  by_cases ci:rg p=9218868437227405312
  ·rw[if_pos ci];split
   ·exact nG
   ·exact hp
  rw[if_neg ci]
  by_cases cj:rg q=9218868437227405312
  ·rw[if_pos cj];exact hq
  exact absurd ⟨ll hp (fun c=>c4 (.inl c)) ci,ll hq (fun c=>c4 (.inr c)) cj⟩ h
end Go.Proofs.YtkkpppgfoilgmaaGreatDoor
namespace Go.Proofs.YtkkpppgfoilgmaaGreatDoor
open Go Go.Proofs.Tryz Go.RowKit Go.Proofs.YtkkpppgfoilgmaaGreatDoor.M
theorem wZ {p:Int} (rp:au p) (hp:aB p=true):aM (neg p)=-aM p:=by
 obtain⟨n1,n2,n3⟩:=jd rp hp
 rw[dR n1 n2,dR rp hp,n3,Int.neg_mul]
theorem w8 {l:Int} {L:Nat} (h:FW l L):(bP l 0=true->FloatKind.f64.format.order L 0=some .lt)∧(bP 0 l=true->FloatKind.f64.format.order L 0=some .gt)∧(bP l 0=false->bP 0 l=false->FloatKind.f64.format.order L 0=some .eq∨FloatKind.f64.format.order L 0=none):=by
 have n0:=cP.1
 have k0:aj 0=0:=by decide
 have e0:wd 0=0:=by decide
 have c0:¬ aD 0=4:=by decide
 by_cases h4:aD l=4
 ·have ho:FloatKind.f64.format.order L 0=none:=by
   rcases h with⟨a,_,_⟩|⟨rfl,hN⟩
   ·exact absurd h4 a
   ·exact nS Ieee.double tX L 0 (.inl (by rw[iP,fj];exact hN.2))
  have l1:bP l 0=false:=by unfold bP;simp[h4]
  have l2:bP 0 l=false:=by unfold bP;simp[h4]
  exact⟨fun h=>by (rw[l1] at h;cases h),fun h=>by (rw[l2] at h;cases h),fun _ _=>.inr ho⟩
 ·obtain⟨hr,rfl,_,_⟩:=h.of h4
  have l1:bP l 0=decide (aj l<0):=by unfold bP;simp[h4,c0,k0]
  have l2:bP 0 l=decide (0<aj l):=by unfold bP;simp[h4,c0,k0]
  rw[l1,l2]
  refine⟨fun g=>?_,fun g=>?_,fun g1 g2=>?_⟩
  ·have:=fN hr n0.1 h4 n0.2 (by rw[k0];exact of_decide_eq_true g)
   rwa [e0] at this
  ·have:=fO hr n0.1 h4 n0.2 (by rw[k0];exact of_decide_eq_true g)
   rwa [e0] at this
  ·have g1':=of_decide_eq_false g1
   have g2':=of_decide_eq_false g2
   have:=fP hr n0.1 h4 n0.2 (by rw[k0];omega)
   rw[e0] at this
   exact .inl this
def jj (n l:Int):Int:=if bP l 0 then dJ n else n
def jn (n l:Int):Int:=if bP l 0 then n else if bP 0 l then next n else n
theorem tz {n l:Int} {L:Nat} (hn:nn n) (hl:FW l L) (w:World) :
  Calls prog 78 #[.float .f64 (wd n),.float .f64 L] w fun e w'=>e=.returned (.agg #[.float .f64 (wd (jj n l)),.float .f64 (wd (jn n l))])∧Below w.heap.size w w':=by
 obtain⟨o1,o2,o3⟩:=w8 hl
 unfold jj jn
 cases h1:bP l 0
 ·cases h2:bP 0 l
  ·exact(tv (wd n) L (o3 h1 h2) w).mono fun _ _ ⟨a,b⟩=>⟨a,by rw[b];exact ae _ _⟩
  ·exact(wT hn L (o2 h2) w).mono fun _ _ ⟨a,b⟩=>⟨a,by rw[b];exact ae _ _⟩
 ·exact(tu hn L (o1 h1) w).mono fun _ _ ⟨a,b⟩=>⟨a,by rw[b];exact ae _ _⟩
theorem qZ (w:World) (o:Obj):(w.alloc o).heap[w.heap.size]?=some o:=by
 show(w.heap.push o)[w.heap.size]?=_
 simp
end Go.Proofs.YtkkpppgfoilgmaaGreatDoor
namespace Go.Proofs.YtkkpppgfoilgmaaGreatDoor
open Go Go.Proofs.Tryz Go.RowKit Go.Proofs.YtkkpppgfoilgmaaGreatDoor.M Ieee
def sV (p q:Int):Int:=bX (bX p q) (neg p)
def sL (p q:Int):Int:=bX (bX p (neg (bX (bX p q) (neg (sV p q))))) (bX q (neg (sV p q)))
def fL (p q:Int):Int:=bX q (neg (bX (bX p q) (neg p)))
def cC (p:Int):Int:=aL 4728779608772575232 p
def uS (p:Int):Int:=bX (cC p) (neg (bX (cC p) (neg p)))
def xK (p:Int):Int:=bX p (neg (uS p))
def DF (a b:Int):Int:=bX (aL a b) (neg (aL (uS a) (uS b)))
def DG (a b:Int):Int:=bX (DF a b) (neg (aL (xK a) (uS b)))
def DH (a b:Int):Int:=bX (DG a b) (neg (aL (uS a) (xK b)))
def xL (a b:Int):Int:=bX (aL (xK a) (xK b)) (neg (DH a b))
theorem tA (x:Nat) (w:World):(convert 62 62 (.float .f64 x)).run prog w=.ok (.float .f64 x) w:=run_convert_float_float w _ _ _ _ _ _ (by rw[underlying62];rfl) underlying62 rfl
theorem lJ (p:Int):Fl (iV p):=by
 unfold iV
 cases decide (p<0)
 ·exact tm _
 ·exact(tm _).neg
theorem AP (p:Int):((iV p).natAbs:Int)=(V Ieee.double (rg p).toNat:Int):=by
 unfold iV sg
 cases decide (p<0)
 ·simp
 ·simp
theorem xa {p q:Int} (hp:au p) (hq:au q) (h:aB (sL p q)=true):(aB p=true∧aB q=true)∧aB (bX p q)=true∧iV (bX p q)+iV (sL p q)=iV p+iV q:=by
 have rh:=c9 hp hq
 have rv:au (sV p q):=c9 rh (ft hp)
 have rU:=c9 rh (ft rv)
 have rX:=c9 hp (ft rU)
 have rY:=c9 hq (ft rv)
 obtain⟨pX,pY⟩:=ol rX rY h
 obtain⟨pp,pU⟩:=kh hp rU pX
 obtain⟨pq,pv⟩:=kh hq rv pY
 obtain⟨ph,_⟩:=kh rh hp pv
 have e:=yM (lJ p) (lJ q) ((gK hp hq pp pq).nr ph) ((fc rh hp ph pp).nr pv) ((fc rh rv ph pv).nr pU) ((fc hp rU pp pU).nr pX) ((fc hq rv pq pv).nr pY) ((gK rX rY pX pY).nr h)
 exact⟨⟨pp,pq⟩,ph,by unfold sL;omega⟩
def fX (p q:Int):Bool:=aB (fL p q)&&(!decide ((iV p).natAbs<(iV q).natAbs)||decide (iV (fL p q)=iV (fL q p)))
end Go.Proofs.YtkkpppgfoilgmaaGreatDoor
namespace Go.Proofs.YtkkpppgfoilgmaaGreatDoor
open Go Go.Proofs.Tryz Go.RowKit Go.Proofs.YtkkpppgfoilgmaaGreatDoor.M
theorem ki {r:Nat}:(V Ieee.double r:Int)=0↔r=0:=by
 constructor
 ·intro h
  by_cases h0:r=0
  ·exact h0
  ·have:=iO Ieee.double (show 0<r by omega)
   rw[jt] at this
   omega
 ·rintro rfl
  rw[jt]
  rfl
theorem uT {p:Int} (hp:au p):(iV p<0↔aj p<0)∧(0<iV p↔0<aj p):=by
 have hz:=@ki (rg p).toNat
 have hr:=mp hp
 unfold au at hp
 have hv:(0:Int)<=(V Ieee.double (rg p).toNat:Int):=by omega
 by_cases h:p<0
 ·have e1:iV p=-(V Ieee.double (rg p).toNat:Int):=by unfold iV sg;simp[h]
  have e2:aj p=-(rg p):=by unfold aj rg;rw[if_pos h,if_pos h]
  rw[e1,e2]
  constructor<;>constructor<;>intro g<;>omega
 ·have e1:iV p=(V Ieee.double (rg p).toNat:Int):=by unfold iV sg;simp[h]
  have e2:aj p=rg p:=by unfold aj rg;rw[if_neg h,if_neg h]
  rw[e1,e2]
  constructor<;>constructor<;>intro g<;>omega
theorem yV {p q:Int} (hp:au p) (hq:au q) (h:aj p<aj q):iV p<iV q:=by
 have rp:=mp hp
 have rq:=mp hq
 have ep:iV p=if p<0 then -(V Ieee.double (rg p).toNat:Int) else (V Ieee.double (rg p).toNat:Int):=by unfold iV sg;by_cases g:p<0<;>simp[g]
 have eq':iV q=if q<0 then -(V Ieee.double (rg q).toNat:Int) else (V Ieee.double (rg q).toNat:Int):=by unfold iV sg;by_cases g:q<0<;>simp[g]
 have kp:aj p=if p<0 then -(rg p) else rg p:=by unfold aj rg;by_cases g:p<0<;>simp[g]
 have kq:aj q=if q<0 then -(rg q) else rg q:=by unfold aj rg;by_cases g:q<0<;>simp[g]
 have zp:=@ki (rg p).toNat
 have zq:=@ki (rg q).toNat
 have m1:rg p<rg q->(V Ieee.double (rg p).toNat:Int)<V Ieee.double (rg q).toNat:=fun g=>by
  have:=iO Ieee.double (show(rg p).toNat<(rg q).toNat by omega)
  omega
 have m2:rg q<rg p->(V Ieee.double (rg q).toNat:Int)<V Ieee.double (rg p).toNat:=fun g=>by
  have:=iO Ieee.double (show(rg q).toNat<(rg p).toNat by omega)
  omega
 rw[kp,kq] at h
 rw[ep,eq']
 have hA0:(0:Int)<=(V Ieee.double (rg p).toNat:Int):=by omega
 have hB0:(0:Int)<=(V Ieee.double (rg q).toNat:Int):=by omega
 clear ep eq' kp kq
 generalize (V Ieee.double (rg p).toNat:Int)=A at *
 generalize (V Ieee.double (rg q).toNat:Int)=B at *
 by_cases a:p<0<;>by_cases b:q<0<;>simp only[a,b,if_true,if_false] at h ⊢<;>omega
theorem uU {p:Int} (h:nn p):rg (neg p)=rg p∧(decide (neg p<0)≠decide (p<0)):=by
 have hr:=h.1
 unfold au at hr
 unfold neg
 rw[if_neg h.2]
 unfold rg
 by_cases g:p<0
 ·rw[if_pos g,if_neg (by omega)]
  refine⟨by rw[if_pos g],?_⟩
  rw[decide_eq_false (by omega),decide_eq_true g]
  decide
 ·rw[if_neg g,if_pos (by omega)]
  refine⟨by rw[if_neg g];omega,?_⟩
  rw[decide_eq_true (by omega),decide_eq_false g]
  decide
end Go.Proofs.YtkkpppgfoilgmaaGreatDoor
