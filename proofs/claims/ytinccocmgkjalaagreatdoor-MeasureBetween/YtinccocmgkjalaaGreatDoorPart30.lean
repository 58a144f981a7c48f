/-
  Parts of the proof, one behind another.
-/
import Derived.Test.YtinccocmgkjalaaGreatDoorPart28
import Derived.Test.YtinccocmgkjalaaGreatDoorPart29
import Derived.ScopeJumps
set_option linter.unusedVariables false
set_option linter.unusedSimpArgs false
namespace Go.Proofs.YtinccocmgkjalaaGreatDoor
open Go Go.RowKit Go.Proofs.YtinccocmgkjalaaGreatDoor.M
def oJc (s:Nat) (sgn k:Int) (a':Act):Prop:=∃ X,(∀ W,Calls Tryz.prog 40 #[.float .f64 X,.float .f64 0] W fun r w'=>r=.returned (.int .i64 sgn)∧w'=W)∧oJ s (.float .f64 X) (.int .i64 k) a'
theorem heap_other8 {W:World} {g g':Nat} {o:Obj} (h:W.heap[g']?=some o) (hg:g' ≠ g) (x0 x1 x2 x3 x4 x5 x6 x7:Value):((((((((W.setCell ⟨g,0,none⟩ x0).setCell ⟨g,1,none⟩ x1).setCell ⟨g,2,none⟩ x2).setCell ⟨g,3,none⟩ x3).setCell ⟨g,4,none⟩ x4).setCell ⟨g,5,none⟩ x5).setCell ⟨g,6,none⟩ x6).setCell ⟨g,7,none⟩ x7).heap[g']?=some o :=
 ((((((((((Wr.refl g W).setCell 0 x0).setCell 1 x1).setCell 2 x2).setCell 3 x3).setCell 4 x4).setCell 5 x5).setCell 6 x6).setCell 7 x7).block _ (Array.getElem?_eq_some_iff.1 h).1 hg).trans h
set_option maxRecDepth 100000 in
set_option maxHeartbeats 8000000 in
theorem oTv1 {ax ay bx by' cx cy  sgn:Int} {AX AY BX BY CX CY U1 V1 U2 V2 LW RW LA RA SW DW DA AS:Nat}
  (F1:(∀ W,Calls Tryz.prog 32 #[.int .i64 ax] W fun e w'=>e=.returned (.float .f64 AX)∧w'=W))
  (F2:(∀ W,Calls Tryz.prog 32 #[.int .i64 ay] W fun e w'=>e=.returned (.float .f64 AY)∧w'=W))
  (F3:(∀ W,Calls Tryz.prog 32 #[.int .i64 bx] W fun e w'=>e=.returned (.float .f64 BX)∧w'=W))
  (F4:(∀ W,Calls Tryz.prog 32 #[.int .i64 by'] W fun e w'=>e=.returned (.float .f64 BY)∧w'=W))
  (F5:(∀ W,Calls Tryz.prog 32 #[.int .i64 cx] W fun e w'=>e=.returned (.float .f64 CX)∧w'=W))
  (F6:(∀ W,Calls Tryz.prog 32 #[.int .i64 cy] W fun e w'=>e=.returned (.float .f64 CY)∧w'=W))
  (s1:(∀ W,(binOp .sub 50 (.float .f64 AX) (.float .f64 CX)).run Tryz.prog W=.ok (.float .f64 U1) W))
  (s2:(∀ W,(binOp .sub 50 (.float .f64 BY) (.float .f64 CY)).run Tryz.prog W=.ok (.float .f64 V2) W))
  (m1:(∀ W,(binOp .mul 50 (.float .f64 U1) (.float .f64 V2)).run Tryz.prog W=.ok (.float .f64 LW) W))
  (s3:(∀ W,(binOp .sub 50 (.float .f64 AY) (.float .f64 CY)).run Tryz.prog W=.ok (.float .f64 V1) W))
  (s4:(∀ W,(binOp .sub 50 (.float .f64 BX) (.float .f64 CX)).run Tryz.prog W=.ok (.float .f64 U2) W))
  (m2:(∀ W,(binOp .mul 50 (.float .f64 V1) (.float .f64 U2)).run Tryz.prog W=.ok (.float .f64 RW) W))
  (A1:(∀ W,Calls Tryz.prog 34 #[.float .f64 LW] W fun e w'=>e=.returned (.float .f64 LA)∧w'=W))
  (A2:(∀ W,Calls Tryz.prog 34 #[.float .f64 RW] W fun e w'=>e=.returned (.float .f64 RA)∧w'=W))
  (p1:(∀ W,(binOp .add 50 (.float .f64 LA) (.float .f64 RA)).run Tryz.prog W=.ok (.float .f64 SW) W))
  (s5:(∀ W,(binOp .sub 50 (.float .f64 LW) (.float .f64 RW)).run Tryz.prog W=.ok (.float .f64 DW) W))
  (A3:(∀ W,Calls Tryz.prog 34 #[.float .f64 DW] W fun e w'=>e=.returned (.float .f64 DA)∧w'=W))
  (m3:(∀ W,(binOp .mul 50 (.float .f64 4375247037990436868) (.float .f64 SW)).run Tryz.prog W=.ok (.float .f64 AS) W))
  (o1:(FloatKind.f64.format.order DA AS=some .gt∨FloatKind.f64.format.order DA AS=some .eq))
  (CC:(∀ W,Calls Tryz.prog 40 #[.float .f64 DW,.float .f64 0] W fun r w'=>r=.returned (.int .i64 sgn)∧w'=W))
  (w:World) (H:Hold4 w) :
  Calls Tryz.prog 22 #[.agg #[.int .i64 ax,.int .i64 ay],.agg #[.int .i64 bx,.int .i64 by'],.agg #[.int .i64 cx,.int .i64 cy]] w fun r w'=>r=.returned (.agg #[.int .i64 sgn,.int .i64 1])∧Below w.heap.size w w':=by
 have hF1:Hid (∀ W,Calls Tryz.prog 32 #[.int .i64 ax] W fun e w'=>e=.returned (.float .f64 AX)∧w'=W):=F1
 clear F1
 have hF2:Hid (∀ W,Calls Tryz.prog 32 #[.int .i64 ay] W fun e w'=>e=.returned (.float .f64 AY)∧w'=W):=F2
 clear F2
 have hF3:Hid (∀ W,Calls Tryz.prog 32 #[.int .i64 bx] W fun e w'=>e=.returned (.float .f64 BX)∧w'=W):=F3
 clear F3
 have hF4:Hid (∀ W,Calls Tryz.prog 32 #[.int .i64 by'] W fun e w'=>e=.returned (.float .f64 BY)∧w'=W):=F4
 clear F4
 have hF5:Hid (∀ W,Calls Tryz.prog 32 #[.int .i64 cx] W fun e w'=>e=.returned (.float .f64 CX)∧w'=W):=F5
 clear F5
 have hF6:Hid (∀ W,Calls Tryz.prog 32 #[.int .i64 cy] W fun e w'=>e=.returned (.float .f64 CY)∧w'=W):=F6
 clear F6
 have hA1:Hid (∀ W,Calls Tryz.prog 34 #[.float .f64 LW] W fun e w'=>e=.returned (.float .f64 LA)∧w'=W):=A1
 clear A1
 have hA2:Hid (∀ W,Calls Tryz.prog 34 #[.float .f64 RW] W fun e w'=>e=.returned (.float .f64 RA)∧w'=W):=A2
 clear A2
 have hA3:Hid (∀ W,Calls Tryz.prog 34 #[.float .f64 DW] W fun e w'=>e=.returned (.float .f64 DA)∧w'=W):=A3
 clear A3
 have hCC:Hid (∀ W,Calls Tryz.prog 40 #[.float .f64 DW,.float .f64 0] W fun r w'=>r=.returned (.int .i64 sgn)∧w'=W):=CC
 clear CC
 have hst:∀ p x m w,(store p (.float .f64 x) m).run Tryz.prog w=stored Tryz.prog w p (.float .f64 x) m:=fun p x m w=>run_store _ w p _ m rfl
 rcases o1 with o1 | o1
 all_goals
  obtain ⟨hb0,a_k,b_k,c_k,r_k,f_k,hsz0⟩:=blks5 w (.cells #[.int .i64 ax,.int .i64 ay] 23) (.cells #[.int .i64 bx,.int .i64 by'] 23) (.cells #[.int .i64 cx,.int .i64 cy] 23) (.cells #[.int .i64 0,.int .i64 0] 42) (.cells #[.float .f64 0,.float .f64 0,.float .f64 0,.float .f64 0,.float .f64 0,.float .f64 0,.float .f64 0,.float .f64 0] 70)
  clear hsz0
  go_enter Tryz.func22,Tryz.ntmps22
  go_wp2
  refine wp_scope_jumps 0 (fun a' w'=>Below w.heap.size w w'∧w'.heap[w.heap.size + 1 + 1 + 1]?=some (.cells #[.int .i64 0,.int .i64 0] 42 (0,0))∧oJc w.heap.size sgn 1 a') (fun _ _=>0) rfl ?_ ?_
  ·go_wp2_with fail
   generalize ((((w.alloc (.cells #[.int .i64 ax,.int .i64 ay] 23)).alloc (.cells #[.int .i64 bx,.int .i64 by'] 23)).alloc (.cells #[.int .i64 cx,.int .i64 cy] 23)).alloc (.cells #[.int .i64 0,.int .i64 0] 42)).alloc (.cells #[.float .f64 0,.float .f64 0,.float .f64 0,.float .f64 0,.float .f64 0,.float .f64 0,.float .f64 0,.float .f64 0] 70)=x0 at hb0 a_k b_k c_k r_k f_k ⊢
   have f_a0:=blkC a_k 0 rfl
   have f_a1:=blkC a_k 1 rfl
   have f_b0:=blkC b_k 0 rfl
   have f_b1:=blkC b_k 1 rfl
   have f_c0:=blkC c_k 0 rfl
   have f_c1:=blkC c_k 1 rfl
   go_quiet (first | (go_at_call 32; with_reducible exact Calls.quiet_of_same (hF1.out _)) | (go_at_call 32; with_reducible exact Calls.quiet_of_same (hF2.out _)) | (go_at_call 32; with_reducible exact Calls.quiet_of_same (hF3.out _)) | (go_at_call 32; with_reducible exact Calls.quiet_of_same (hF4.out _)) | (go_at_call 32; with_reducible exact Calls.quiet_of_same (hF5.out _)) | (go_at_call 32; with_reducible exact Calls.quiet_of_same (hF6.out _)))
   go_wp2_with fail
   clear f_a0 f_a1 f_b0 f_b1 f_c0 f_c1
   have hd:=bDrewN (bel_refl x0) nq
   replace a_k:=blk_on hd a_k
   replace b_k:=blk_on hd b_k
   replace c_k:=blk_on hd c_k
   replace r_k:=blk_on hd r_k
   replace f_k:=blk_on hd f_k
   replace hb0:=bel_trans hb0 hd
   replace H:=H.keeps hb0
   generalize x0.drewN nq=x1 at hb0 H a_k b_k c_k r_k f_k ⊢
   clear hd
   refine (hA1.out _).mono ?_
   rintro _ wz ⟨rfl,hwz⟩
   replace hwz:=hwz.symm
   subst hwz
   go_wp2_with fail
   refine (hA2.out _).mono ?_
   rintro _ wz ⟨rfl,hwz⟩
   replace hwz:=hwz.symm
   subst hwz
   go_wp2_with fail
   refine (hA3.out _).mono ?_
   rintro _ wz ⟨rfl,hwz⟩
   replace hwz:=hwz.symm
   subst hwz
   go_wp2_with fail
   go_step3
   simp only [Exit.then,Exit.jump]
   exact ⟨rfl,hb0,r_k,DW,hCC.out,oJ_of _ (by kernel_rfl)⟩
  ·rintro a' w' ⟨hb,hr,X,hX,u,rfl⟩
   have HX:Hid (∀ W,Calls Tryz.prog 40 #[.float .f64 X,.float .f64 0] W fun r w'=>r=.returned (.int .i64 sgn)∧w'=W):=hX
   clear hX
   go_wp2_with fail
   refine (HX.out _).mono ?_
   rintro _ wz ⟨rfl,hwz⟩
   replace hwz:=hwz.symm
   subst hwz
   have k0:=blkC hr 0 rfl
   have k1:=blkC hr 1 rfl
   have z0:=blkF hr 0
   have z1:=blkF hr 1
   have q:=heap_set (heap_set hr 0 (.int .i64 sgn)) 1 (.int .i64 1)
   have e0:=blkC q 0 rfl
   have e1:=blkC q 1 rfl
   go_wp2
   simp only [Exit.jump]
   refine bodyPost_ret (v:=.agg #[.int .i64 sgn,.int .i64 1]) (by simp [results,Tryz.results22,go_sem,e0,e1]) rfl ⟨rfl,(hb.setCell (p:=⟨w.heap.size + 1 + 1 + 1,0,none⟩) (by show _ <= _ + 1 + 1 + 1; omega) _).setCell (p:=⟨w.heap.size + 1 + 1 + 1,1,none⟩) (by show _ <= _ + 1 + 1 + 1; omega) _⟩
set_option maxRecDepth 100000 in
set_option maxHeartbeats 8000000 in
theorem oTv2 {ax ay bx by' cx cy T sgn:Int} {AX AY BX BY CX CY U1 V1 U2 V2 E1 E2 E3 E4 LW RW LA RA SW DW DA AS:Nat}
  (F1:(∀ W,Calls Tryz.prog 32 #[.int .i64 ax] W fun e w'=>e=.returned (.float .f64 AX)∧w'=W))
  (F2:(∀ W,Calls Tryz.prog 32 #[.int .i64 ay] W fun e w'=>e=.returned (.float .f64 AY)∧w'=W))
  (F3:(∀ W,Calls Tryz.prog 32 #[.int .i64 bx] W fun e w'=>e=.returned (.float .f64 BX)∧w'=W))
  (F4:(∀ W,Calls Tryz.prog 32 #[.int .i64 by'] W fun e w'=>e=.returned (.float .f64 BY)∧w'=W))
  (F5:(∀ W,Calls Tryz.prog 32 #[.int .i64 cx] W fun e w'=>e=.returned (.float .f64 CX)∧w'=W))
  (F6:(∀ W,Calls Tryz.prog 32 #[.int .i64 cy] W fun e w'=>e=.returned (.float .f64 CY)∧w'=W))
  (s1:(∀ W,(binOp .sub 50 (.float .f64 AX) (.float .f64 CX)).run Tryz.prog W=.ok (.float .f64 U1) W))
  (s2:(∀ W,(binOp .sub 50 (.float .f64 BY) (.float .f64 CY)).run Tryz.prog W=.ok (.float .f64 V2) W))
  (m1:(∀ W,(binOp .mul 50 (.float .f64 U1) (.float .f64 V2)).run Tryz.prog W=.ok (.float .f64 LW) W))
  (s3:(∀ W,(binOp .sub 50 (.float .f64 AY) (.float .f64 CY)).run Tryz.prog W=.ok (.float .f64 V1) W))
  (s4:(∀ W,(binOp .sub 50 (.float .f64 BX) (.float .f64 CX)).run Tryz.prog W=.ok (.float .f64 U2) W))
  (m2:(∀ W,(binOp .mul 50 (.float .f64 V1) (.float .f64 U2)).run Tryz.prog W=.ok (.float .f64 RW) W))
  (A1:(∀ W,Calls Tryz.prog 34 #[.float .f64 LW] W fun e w'=>e=.returned (.float .f64 LA)∧w'=W))
  (A2:(∀ W,Calls Tryz.prog 34 #[.float .f64 RW] W fun e w'=>e=.returned (.float .f64 RA)∧w'=W))
  (p1:(∀ W,(binOp .add 50 (.float .f64 LA) (.float .f64 RA)).run Tryz.prog W=.ok (.float .f64 SW) W))
  (s5:(∀ W,(binOp .sub 50 (.float .f64 LW) (.float .f64 RW)).run Tryz.prog W=.ok (.float .f64 DW) W))
  (A3:(∀ W,Calls Tryz.prog 34 #[.float .f64 DW] W fun e w'=>e=.returned (.float .f64 DA)∧w'=W))
  (m3:(∀ W,(binOp .mul 50 (.float .f64 4375247037990436868) (.float .f64 SW)).run Tryz.prog W=.ok (.float .f64 AS) W))
  (o1:FloatKind.f64.format.order DA AS=some .lt)
  (CFr:(∀ W,Hold4 W->Calls Tryz.prog 35 #[.agg #[.int .i64 ax,.int .i64 ay],.agg #[.int .i64 bx,.int .i64 by'],.agg #[.int .i64 cx,.int .i64 cy]] W fun r w'=>r=.returned (.agg #[.float .f64 U1,.float .f64 E1,.float .f64 V1,.float .f64 E2,.float .f64 U2,.float .f64 E3,.float .f64 V2,.float .f64 E4])∧Below W.heap.size W w'))
  (CHd:(∀ W,Hold4 W->Calls Tryz.prog 36 #[.agg #[.float .f64 U1,.float .f64 E1,.float .f64 V1,.float .f64 E2,.float .f64 U2,.float .f64 E3,.float .f64 V2,.float .f64 E4],.float .f64 LW,.float .f64 RW] W fun r w'=>∃ h,r=.returned (.float .f64 (wd h))∧HdV T h∧Below W.heap.size W w'))
  (CEx:(∀ W,Calls Tryz.prog 37 #[.agg #[.float .f64 U1,.float .f64 E1,.float .f64 V1,.float .f64 E2,.float .f64 U2,.float .f64 E3,.float .f64 V2,.float .f64 E4]] W fun r w'=>r=.returned (.bool true)∧Below W.heap.size W w'))
  (CC:(∀ h,HdV T h->(∀ W,Calls Tryz.prog 40 #[.float .f64 (wd h),.float .f64 0] W fun r w'=>r=.returned (.int .i64 sgn)∧w'=W)))
  (w:World) (H:Hold4 w) :
  Calls Tryz.prog 22 #[.agg #[.int .i64 ax,.int .i64 ay],.agg #[.int .i64 bx,.int .i64 by'],.agg #[.int .i64 cx,.int .i64 cy]] w fun r w'=>r=.returned (.agg #[.int .i64 sgn,.int .i64 2])∧Below w.heap.size w w':=by
 have hF1:Hid (∀ W,Calls Tryz.prog 32 #[.int .i64 ax] W fun e w'=>e=.returned (.float .f64 AX)∧w'=W):=F1
 clear F1
 have hF2:Hid (∀ W,Calls Tryz.prog 32 #[.int .i64 ay] W fun e w'=>e=.returned (.float .f64 AY)∧w'=W):=F2
 clear F2
 have hF3:Hid (∀ W,Calls Tryz.prog 32 #[.int .i64 bx] W fun e w'=>e=.returned (.float .f64 BX)∧w'=W):=F3
 clear F3
 have hF4:Hid (∀ W,Calls Tryz.prog 32 #[.int .i64 by'] W fun e w'=>e=.returned (.float .f64 BY)∧w'=W):=F4
 clear F4
 have hF5:Hid (∀ W,Calls Tryz.prog 32 #[.int .i64 cx] W fun e w'=>e=.returned (.float .f64 CX)∧w'=W):=F5
 clear F5
 have hF6:Hid (∀ W,Calls Tryz.prog 32 #[.int .i64 cy] W fun e w'=>e=.returned (.float .f64 CY)∧w'=W):=F6
 clear F6
 have hA1:Hid (∀ W,Calls Tryz.prog 34 #[.float .f64 LW] W fun e w'=>e=.returned (.float .f64 LA)∧w'=W):=A1
 clear A1
 have hA2:Hid (∀ W,Calls Tryz.prog 34 #[.float .f64 RW] W fun e w'=>e=.returned (.float .f64 RA)∧w'=W):=A2
 clear A2
 have hA3:Hid (∀ W,Calls Tryz.prog 34 #[.float .f64 DW] W fun e w'=>e=.returned (.float .f64 DA)∧w'=W):=A3
 clear A3
 have hCFr:Hid (∀ W,Hold4 W->Calls Tryz.prog 35 #[.agg #[.int .i64 ax,.int .i64 ay],.agg #[.int .i64 bx,.int .i64 by'],.agg #[.int .i64 cx,.int .i64 cy]] W fun r w'=>r=.returned (.agg #[.float .f64 U1,.float .f64 E1,.float .f64 V1,.float .f64 E2,.float .f64 U2,.float .f64 E3,.float .f64 V2,.float .f64 E4])∧Below W.heap.size W w'):=CFr
 clear CFr
 have hCHd:Hid (∀ W,Hold4 W->Calls Tryz.prog 36 #[.agg #[.float .f64 U1,.float .f64 E1,.float .f64 V1,.float .f64 E2,.float .f64 U2,.float .f64 E3,.float .f64 V2,.float .f64 E4],.float .f64 LW,.float .f64 RW] W fun r w'=>∃ h,r=.returned (.float .f64 (wd h))∧HdV T h∧Below W.heap.size W w'):=CHd
 clear CHd
 have hCEx:Hid (∀ W,Calls Tryz.prog 37 #[.agg #[.float .f64 U1,.float .f64 E1,.float .f64 V1,.float .f64 E2,.float .f64 U2,.float .f64 E3,.float .f64 V2,.float .f64 E4]] W fun r w'=>r=.returned (.bool true)∧Below W.heap.size W w'):=CEx
 clear CEx
 have hCC:Hid (∀ h,HdV T h->(∀ W,Calls Tryz.prog 40 #[.float .f64 (wd h),.float .f64 0] W fun r w'=>r=.returned (.int .i64 sgn)∧w'=W)):=CC
 clear CC
 have hst:∀ p x m w,(store p (.float .f64 x) m).run Tryz.prog w=stored Tryz.prog w p (.float .f64 x) m:=fun p x m w=>run_store _ w p _ m rfl
 have HK0:=H
 obtain ⟨hb0,a_k,b_k,c_k,r_k,f_k,hsz0⟩:=blks5 w (.cells #[.int .i64 ax,.int .i64 ay] 23) (.cells #[.int .i64 bx,.int .i64 by'] 23) (.cells #[.int .i64 cx,.int .i64 cy] 23) (.cells #[.int .i64 0,.int .i64 0] 42) (.cells #[.float .f64 0,.float .f64 0,.float .f64 0,.float .f64 0,.float .f64 0,.float .f64 0,.float .f64 0,.float .f64 0] 70)
 clear hsz0
 go_enter Tryz.func22,Tryz.ntmps22
 go_wp2
 refine wp_scope_jumps 0 (fun a' w'=>Below w.heap.size w w'∧w'.heap[w.heap.size + 1 + 1 + 1]?=some (.cells #[.int .i64 0,.int .i64 0] 42 (0,0))∧oJc w.heap.size sgn 2 a') (fun _ _=>0) rfl ?_ ?_
 ·go_wp2_with fail
  generalize ((((w.alloc (.cells #[.int .i64 ax,.int .i64 ay] 23)).alloc (.cells #[.int .i64 bx,.int .i64 by'] 23)).alloc (.cells #[.int .i64 cx,.int .i64 cy] 23)).alloc (.cells #[.int .i64 0,.int .i64 0] 42)).alloc (.cells #[.float .f64 0,.float .f64 0,.float .f64 0,.float .f64 0,.float .f64 0,.float .f64 0,.float .f64 0,.float .f64 0] 70)=x0 at hb0 a_k b_k c_k r_k f_k ⊢
  have f_a0:=blkC a_k 0 rfl
  have f_a1:=blkC a_k 1 rfl
  have f_b0:=blkC b_k 0 rfl
  have f_b1:=blkC b_k 1 rfl
  have f_c0:=blkC c_k 0 rfl
  have f_c1:=blkC c_k 1 rfl
  go_quiet (first | (go_at_call 32; with_reducible exact Calls.quiet_of_same (hF1.out _)) | (go_at_call 32; with_reducible exact Calls.quiet_of_same (hF2.out _)) | (go_at_call 32; with_reducible exact Calls.quiet_of_same (hF3.out _)) | (go_at_call 32; with_reducible exact Calls.quiet_of_same (hF4.out _)) | (go_at_call 32; with_reducible exact Calls.quiet_of_same (hF5.out _)) | (go_at_call 32; with_reducible exact Calls.quiet_of_same (hF6.out _)))
  go_wp2_with fail
  clear f_a0 f_a1 f_b0 f_b1 f_c0 f_c1
  have hd:=bDrewN (bel_refl x0) nq
  replace a_k:=blk_on hd a_k
  replace b_k:=blk_on hd b_k
  replace c_k:=blk_on hd c_k
  replace r_k:=blk_on hd r_k
  replace f_k:=blk_on hd f_k
  replace hb0:=bel_trans hb0 hd
  replace H:=H.keeps hb0
  generalize x0.drewN nq=x1 at hb0 H a_k b_k c_k r_k f_k ⊢
  clear hd
  refine (hA1.out _).mono ?_
  rintro _ wz ⟨rfl,hwz⟩
  replace hwz:=hwz.symm
  subst hwz
  go_wp2_with fail
  refine (hA2.out _).mono ?_
  rintro _ wz ⟨rfl,hwz⟩
  replace hwz:=hwz.symm
  subst hwz
  go_wp2_with fail
  refine (hA3.out _).mono ?_
  rintro _ wz ⟨rfl,hwz⟩
  replace hwz:=hwz.symm
  subst hwz
  have f_a0:=blkC a_k 0 rfl
  have f_a1:=blkC a_k 1 rfl
  have f_b0:=blkC b_k 0 rfl
  have f_b1:=blkC b_k 1 rfl
  have f_c0:=blkC c_k 0 rfl
  have f_c1:=blkC c_k 1 rfl
  go_wp2_with fail
  clear f_a0 f_a1 f_b0 f_b1 f_c0 f_c1
  refine (hCFr.out _ H).mono ?_
  rintro _ y1 ⟨rfl,hw1⟩
  replace r_k:=blk_on hw1 r_k
  replace f_k:=blk_on hw1 f_k
  replace hb0:=bel_trans hb0 hw1
  replace H:=H.keeps hw1
  have k0:=blkC f_k 0 rfl
  have k1:=blkC f_k 1 rfl
  have k2:=blkC f_k 2 rfl
  have k3:=blkC f_k 3 rfl
  have k4:=blkC f_k 4 rfl
  have k5:=blkC f_k 5 rfl
  have k6:=blkC f_k 6 rfl
  have k7:=blkC f_k 7 rfl
  have z0:=blkF f_k 0
  have z1:=blkF f_k 1
  have z2:=blkF f_k 2
  have z3:=blkF f_k 3
  have z4:=blkF f_k 4
  have z5:=blkF f_k 5
  have z6:=blkF f_k 6
  have z7:=blkF f_k 7
  have q8:=heap_set8 f_k (.float .f64 U1) (.float .f64 E1) (.float .f64 V1) (.float .f64 E2) (.float .f64 U2) (.float .f64 E3) (.float .f64 V2) (.float .f64 E4)
  have e0:=blkC q8 0 rfl
  have e1:=blkC q8 1 rfl
  have e2:=blkC q8 2 rfl
  have e3:=blkC q8 3 rfl
  have e4:=blkC q8 4 rfl
  have e5:=blkC q8 5 rfl
  have e6:=blkC q8 6 rfl
  have e7:=blkC q8 7 rfl
  have hb8:=((((((((hb0.setCell (p:=⟨w.heap.size + 1 + 1 + 1 + 1,0,none⟩) (show w.heap.size <= w.heap.size + 1 + 1 + 1 + 1 by omega) (.float .f64 U1)).setCell (p:=⟨w.heap.size + 1 + 1 + 1 + 1,1,none⟩) (show w.heap.size <= w.heap.size + 1 + 1 + 1 + 1 by omega) (.float .f64 E1)).setCell (p:=⟨w.heap.size + 1 + 1 + 1 + 1,2,none⟩) (show w.heap.size <= w.heap.size + 1 + 1 + 1 + 1 by omega) (.float .f64 V1)).setCell (p:=⟨w.heap.size + 1 + 1 + 1 + 1,3,none⟩) (show w.heap.size <= w.heap.size + 1 + 1 + 1 + 1 by omega) (.float .f64 E2)).setCell (p:=⟨w.heap.size + 1 + 1 + 1 + 1,4,none⟩) (show w.heap.size <= w.heap.size + 1 + 1 + 1 + 1 by omega) (.float .f64 U2)).setCell (p:=⟨w.heap.size + 1 + 1 + 1 + 1,5,none⟩) (show w.heap.size <= w.heap.size + 1 + 1 + 1 + 1 by omega) (.float .f64 E3)).setCell (p:=⟨w.heap.size + 1 + 1 + 1 + 1,6,none⟩) (show w.heap.size <= w.heap.size + 1 + 1 + 1 + 1 by omega) (.float .f64 V2)).setCell (p:=⟨w.heap.size + 1 + 1 + 1 + 1,7,none⟩) (show w.heap.size <= w.heap.size + 1 + 1 + 1 + 1 by omega) (.float .f64 E4))
  have H8:=HK0.keeps hb8
  have r8:=heap_other8 r_k (g:=w.heap.size + 1 + 1 + 1 + 1) (by omega) (.float .f64 U1) (.float .f64 E1) (.float .f64 V1) (.float .f64 E2) (.float .f64 U2) (.float .f64 E3) (.float .f64 V2) (.float .f64 E4)
  go_wp2_with fail
  clear k0 z0 k1 z1 k2 z2 k3 z3 k4 z4 k5 z5 k6 z6 k7 z7
  clear f_k r_k hb0 H e0 e1 e2 e3 e4 e5 e6 e7
  generalize ((((((((y1.setCell ⟨w.heap.size + 1 + 1 + 1 + 1,0,none⟩ (.float .f64 U1)).setCell ⟨w.heap.size + 1 + 1 + 1 + 1,1,none⟩ (.float .f64 E1)).setCell ⟨w.heap.size + 1 + 1 + 1 + 1,2,none⟩ (.float .f64 V1)).setCell ⟨w.heap.size + 1 + 1 + 1 + 1,3,none⟩ (.float .f64 E2)).setCell ⟨w.heap.size + 1 + 1 + 1 + 1,4,none⟩ (.float .f64 U2)).setCell ⟨w.heap.size + 1 + 1 + 1 + 1,5,none⟩ (.float .f64 E3)).setCell ⟨w.heap.size + 1 + 1 + 1 + 1,6,none⟩ (.float .f64 V2)).setCell ⟨w.heap.size + 1 + 1 + 1 + 1,7,none⟩ (.float .f64 E4))=x2 at q8 hb8 H8 r8 ⊢
  refine (hCHd.out _ H8).mono ?_
  rintro _ y2 ⟨h,rfl,hv,hw2⟩
  replace q8:=blk_on hw2 q8
  replace r8:=blk_on hw2 r8
  replace hb8:=bel_trans hb8 hw2
  replace H8:=H8.keeps hw2
  have HC:Hid (∀ W,Calls Tryz.prog 40 #[.float .f64 (wd h),.float .f64 0] W fun r w'=>r=.returned (.int .i64 sgn)∧w'=W):=hCC.out h hv
  clear hv
  generalize wd h=HW at *
  have e0:=blkC q8 0 rfl
  have e1:=blkC q8 1 rfl
  have e2:=blkC q8 2 rfl
  have e3:=blkC q8 3 rfl
  have e4:=blkC q8 4 rfl
  have e5:=blkC q8 5 rfl
  have e6:=blkC q8 6 rfl
  have e7:=blkC q8 7 rfl
  go_wp2_with fail
  clear e0 e1 e2 e3 e4 e5 e6 e7
  refine (hCEx.out _).mono ?_
  rintro _ y3 ⟨rfl,hw3⟩
  replace q8:=blk_on hw3 q8
  replace r8:=blk_on hw3 r8
  replace hb8:=bel_trans hb8 hw3
  replace H8:=H8.keeps hw3
  go_wp2_with fail
  go_step3
  simp only [Exit.then,Exit.jump]
  exact ⟨rfl,hb8,r8,HW,HC.out,oJ_of _ (by kernel_rfl)⟩
 ·rintro a' w' ⟨hb,hr,X,hX,u,rfl⟩
  have HX:Hid (∀ W,Calls Tryz.prog 40 #[.float .f64 X,.float .f64 0] W fun r w'=>r=.returned (.int .i64 sgn)∧w'=W):=hX
  clear hX
  go_wp2_with fail
  refine (HX.out _).mono ?_
  rintro _ wz ⟨rfl,hwz⟩
  replace hwz:=hwz.symm
  subst hwz
  have k0:=blkC hr 0 rfl
  have k1:=blkC hr 1 rfl
  have z0:=blkF hr 0
  have z1:=blkF hr 1
  have q:=heap_set (heap_set hr 0 (.int .i64 sgn)) 1 (.int .i64 2)
  have e0:=blkC q 0 rfl
  have e1:=blkC q 1 rfl
  go_wp2
  simp only [Exit.jump]
  refine bodyPost_ret (v:=.agg #[.int .i64 sgn,.int .i64 2]) (by simp [results,Tryz.results22,go_sem,e0,e1]) rfl ⟨rfl,(hb.setCell (p:=⟨w.heap.size + 1 + 1 + 1,0,none⟩) (by show _ <= _ + 1 + 1 + 1; omega) _).setCell (p:=⟨w.heap.size + 1 + 1 + 1,1,none⟩) (by show _ <= _ + 1 + 1 + 1; omega) _⟩
set_option maxRecDepth 100000 in
set_option maxHeartbeats 8000000 in
theorem oTv3 {ax ay bx by' cx cy T sgn:Int} {AX AY BX BY CX CY U1 V1 U2 V2 E1 E2 E3 E4 LW RW LA RA SW DW DA AS HG BS:Nat}
  (F1:(∀ W,Calls Tryz.prog 32 #[.int .i64 ax] W fun e w'=>e=.returned (.float .f64 AX)∧w'=W))
  (F2:(∀ W,Calls Tryz.prog 32 #[.int .i64 ay] W fun e w'=>e=.returned (.float .f64 AY)∧w'=W))
  (F3:(∀ W,Calls Tryz.prog 32 #[.int .i64 bx] W fun e w'=>e=.returned (.float .f64 BX)∧w'=W))
  (F4:(∀ W,Calls Tryz.prog 32 #[.int .i64 by'] W fun e w'=>e=.returned (.float .f64 BY)∧w'=W))
  (F5:(∀ W,Calls Tryz.prog 32 #[.int .i64 cx] W fun e w'=>e=.returned (.float .f64 CX)∧w'=W))
  (F6:(∀ W,Calls Tryz.prog 32 #[.int .i64 cy] W fun e w'=>e=.returned (.float .f64 CY)∧w'=W))
  (s1:(∀ W,(binOp .sub 50 (.float .f64 AX) (.float .f64 CX)).run Tryz.prog W=.ok (.float .f64 U1) W))
  (s2:(∀ W,(binOp .sub 50 (.float .f64 BY) (.float .f64 CY)).run Tryz.prog W=.ok (.float .f64 V2) W))
  (m1:(∀ W,(binOp .mul 50 (.float .f64 U1) (.float .f64 V2)).run Tryz.prog W=.ok (.float .f64 LW) W))
  (s3:(∀ W,(binOp .sub 50 (.float .f64 AY) (.float .f64 CY)).run Tryz.prog W=.ok (.float .f64 V1) W))
  (s4:(∀ W,(binOp .sub 50 (.float .f64 BX) (.float .f64 CX)).run Tryz.prog W=.ok (.float .f64 U2) W))
  (m2:(∀ W,(binOp .mul 50 (.float .f64 V1) (.float .f64 U2)).run Tryz.prog W=.ok (.float .f64 RW) W))
  (A1:(∀ W,Calls Tryz.prog 34 #[.float .f64 LW] W fun e w'=>e=.returned (.float .f64 LA)∧w'=W))
  (A2:(∀ W,Calls Tryz.prog 34 #[.float .f64 RW] W fun e w'=>e=.returned (.float .f64 RA)∧w'=W))
  (p1:(∀ W,(binOp .add 50 (.float .f64 LA) (.float .f64 RA)).run Tryz.prog W=.ok (.float .f64 SW) W))
  (s5:(∀ W,(binOp .sub 50 (.float .f64 LW) (.float .f64 RW)).run Tryz.prog W=.ok (.float .f64 DW) W))
  (A3:(∀ W,Calls Tryz.prog 34 #[.float .f64 DW] W fun e w'=>e=.returned (.float .f64 DA)∧w'=W))
  (m3:(∀ W,(binOp .mul 50 (.float .f64 4375247037990436868) (.float .f64 SW)).run Tryz.prog W=.ok (.float .f64 AS) W))
  (o1:FloatKind.f64.format.order DA AS=some .lt)
  (CFr:(∀ W,Hold4 W->Calls Tryz.prog 35 #[.agg #[.int .i64 ax,.int .i64 ay],.agg #[.int .i64 bx,.int .i64 by'],.agg #[.int .i64 cx,.int .i64 cy]] W fun r w'=>r=.returned (.agg #[.float .f64 U1,.float .f64 E1,.float .f64 V1,.float .f64 E2,.float .f64 U2,.float .f64 E3,.float .f64 V2,.float .f64 E4])∧Below W.heap.size W w'))
  (CHd:(∀ W,Hold4 W->Calls Tryz.prog 36 #[.agg #[.float .f64 U1,.float .f64 E1,.float .f64 V1,.float .f64 E2,.float .f64 U2,.float .f64 E3,.float .f64 V2,.float .f64 E4],.float .f64 LW,.float .f64 RW] W fun r w'=>∃ h,r=.returned (.float .f64 (wd h))∧HdV T h∧Below W.heap.size W w'))
  (CEx:(∀ W,Calls Tryz.prog 37 #[.agg #[.float .f64 U1,.float .f64 E1,.float .f64 V1,.float .f64 E2,.float .f64 U2,.float .f64 E3,.float .f64 V2,.float .f64 E4]] W fun r w'=>r=.returned (.bool false)∧Below W.heap.size W w'))
  (HA:(∀ h,HdV T h->(∀ W,Calls Tryz.prog 34 #[.float .f64 (wd h)] W fun e w'=>e=.returned (.float .f64 HG)∧w'=W)))
  (m4:(∀ W,(binOp .mul 50 (.float .f64 4372995238176751619) (.float .f64 SW)).run Tryz.prog W=.ok (.float .f64 BS) W))
  (o2:(FloatKind.f64.format.order HG BS=some .gt∨FloatKind.f64.format.order HG BS=some .eq))
  (CC:(∀ h,HdV T h->(∀ W,Calls Tryz.prog 40 #[.float .f64 (wd h),.float .f64 0] W fun r w'=>r=.returned (.int .i64 sgn)∧w'=W)))
  (w:World) (H:Hold4 w) :
  Calls Tryz.prog 22 #[.agg #[.int .i64 ax,.int .i64 ay],.agg #[.int .i64 bx,.int .i64 by'],.agg #[.int .i64 cx,.int .i64 cy]] w fun r w'=>r=.returned (.agg #[.int .i64 sgn,.int .i64 2])∧Below w.heap.size w w':=by
 have hF1:Hid (∀ W,Calls Tryz.prog 32 #[.int .i64 ax] W fun e w'=>e=.returned (.float .f64 AX)∧w'=W):=F1
 clear F1
 have hF2:Hid (∀ W,Calls Tryz.prog 32 #[.int .i64 ay] W fun e w'=>e=.returned (.float .f64 AY)∧w'=W):=F2
 clear F2
 have hF3:Hid (∀ W,Calls Tryz.prog 32 #[.int .i64 bx] W fun e w'=>e=.returned (.float .f64 BX)∧w'=W):=F3
 clear F3
 have hF4:Hid (∀ W,Calls Tryz.prog 32 #[.int .i64 by'] W fun e w'=>e=.returned (.float .f64 BY)∧w'=W):=F4
 clear F4
 have hF5:Hid (∀ W,Calls Tryz.prog 32 #[.int .i64 cx] W fun e w'=>e=.returned (.float .f64 CX)∧w'=W):=F5
 clear F5
 have hF6:Hid (∀ W,Calls Tryz.prog 32 #[.int .i64 cy] W fun e w'=>e=.returned (.float .f64 CY)∧w'=W):=F6
 clear F6
 have hA1:Hid (∀ W,Calls Tryz.prog 34 #[.float .f64 LW] W fun e w'=>e=.returned (.float .f64 LA)∧w'=W):=A1
 clear A1
 have hA2:Hid (∀ W,Calls Tryz.prog 34 #[.float .f64 RW] W fun e w'=>e=.returned (.float .f64 RA)∧w'=W):=A2
 clear A2
 have hA3:Hid (∀ W,Calls Tryz.prog 34 #[.float .f64 DW] W fun e w'=>e=.returned (.float .f64 DA)∧w'=W):=A3
 clear A3
 have hCFr:Hid (∀ W,Hold4 W->Calls Tryz.prog 35 #[.agg #[.int .i64 ax,.int .i64 ay],.agg #[.int .i64 bx,.int .i64 by'],.agg #[.int .i64 cx,.int .i64 cy]] W fun r w'=>r=.returned (.agg #[.float .f64 U1,.float .f64 E1,.float .f64 V1,.float .f64 E2,.float .f64 U2,.float .f64 E3,.float .f64 V2,.float .f64 E4])∧Below W.heap.size W w'):=CFr
 clear CFr
 have hCHd:Hid (∀ W,Hold4 W->Calls Tryz.prog 36 #[.agg #[.float .f64 U1,.float .f64 E1,.float .f64 V1,.float .f64 E2,.float .f64 U2,.float .f64 E3,.float .f64 V2,.float .f64 E4],.float .f64 LW,.float .f64 RW] W fun r w'=>∃ h,r=.returned (.float .f64 (wd h))∧HdV T h∧Below W.heap.size W w'):=CHd
 clear CHd
 have hCEx:Hid (∀ W,Calls Tryz.prog 37 #[.agg #[.float .f64 U1,.float .f64 E1,.float .f64 V1,.float .f64 E2,.float .f64 U2,.float .f64 E3,.float .f64 V2,.float .f64 E4]] W fun r w'=>r=.returned (.bool false)∧Below W.heap.size W w'):=CEx
 clear CEx
 have hHA:Hid (∀ h,HdV T h->(∀ W,Calls Tryz.prog 34 #[.float .f64 (wd h)] W fun e w'=>e=.returned (.float .f64 HG)∧w'=W)):=HA
 clear HA
 have hCC:Hid (∀ h,HdV T h->(∀ W,Calls Tryz.prog 40 #[.float .f64 (wd h),.float .f64 0] W fun r w'=>r=.returned (.int .i64 sgn)∧w'=W)):=CC
 clear CC
 have hst:∀ p x m w,(store p (.float .f64 x) m).run Tryz.prog w=stored Tryz.prog w p (.float .f64 x) m:=fun p x m w=>run_store _ w p _ m rfl
 rcases o2 with o2 | o2
 all_goals
  have HK0:=H
  obtain ⟨hb0,a_k,b_k,c_k,r_k,f_k,hsz0⟩:=blks5 w (.cells #[.int .i64 ax,.int .i64 ay] 23) (.cells #[.int .i64 bx,.int .i64 by'] 23) (.cells #[.int .i64 cx,.int .i64 cy] 23) (.cells #[.int .i64 0,.int .i64 0] 42) (.cells #[.float .f64 0,.float .f64 0,.float .f64 0,.float .f64 0,.float .f64 0,.float .f64 0,.float .f64 0,.float .f64 0] 70)
  clear hsz0
  go_enter Tryz.func22,Tryz.ntmps22
  go_wp2
  refine wp_scope_jumps 0 (fun a' w'=>Below w.heap.size w w'∧w'.heap[w.heap.size + 1 + 1 + 1]?=some (.cells #[.int .i64 0,.int .i64 0] 42 (0,0))∧oJc w.heap.size sgn 2 a') (fun _ _=>0) rfl ?_ ?_
  ·go_wp2_with fail
   generalize ((((w.alloc (.cells #[.int .i64 ax,.int .i64 ay] 23)).alloc (.cells #[.int .i64 bx,.int .i64 by'] 23)).alloc (.cells #[.int .i64 cx,.int .i64 cy] 23)).alloc (.cells #[.int .i64 0,.int .i64 0] 42)).alloc (.cells #[.float .f64 0,.float .f64 0,.float .f64 0,.float .f64 0,.float .f64 0,.float .f64 0,.float .f64 0,.float .f64 0] 70)=x0 at hb0 a_k b_k c_k r_k f_k ⊢
   have f_a0:=blkC a_k 0 rfl
   have f_a1:=blkC a_k 1 rfl
   have f_b0:=blkC b_k 0 rfl
   have f_b1:=blkC b_k 1 rfl
   have f_c0:=blkC c_k 0 rfl
   have f_c1:=blkC c_k 1 rfl
   go_quiet (first | (go_at_call 32; with_reducible exact Calls.quiet_of_same (hF1.out _)) | (go_at_call 32; with_reducible exact Calls.quiet_of_same (hF2.out _)) | (go_at_call 32; with_reducible exact Calls.quiet_of_same (hF3.out _)) | (go_at_call 32; with_reducible exact Calls.quiet_of_same (hF4.out _)) | (go_at_call 32; with_reducible exact Calls.quiet_of_same (hF5.out _)) | (go_at_call 32; with_reducible exact Calls.quiet_of_same (hF6.out _)))
   go_wp2_with fail
   clear f_a0 f_a1 f_b0 f_b1 f_c0 f_c1
   have hd:=bDrewN (bel_refl x0) nq
   replace a_k:=blk_on hd a_k
   replace b_k:=blk_on hd b_k
   replace c_k:=blk_on hd c_k
   replace r_k:=blk_on hd r_k
   replace f_k:=blk_on hd f_k
   replace hb0:=bel_trans hb0 hd
   replace H:=H.keeps hb0
   generalize x0.drewN nq=x1 at hb0 H a_k b_k c_k r_k f_k ⊢
   clear hd
   refine (hA1.out _).mono ?_
   rintro _ wz ⟨rfl,hwz⟩
   replace hwz:=hwz.symm
   subst hwz
   go_wp2_with fail
   refine (hA2.out _).mono ?_
   rintro _ wz ⟨rfl,hwz⟩
   replace hwz:=hwz.symm
   subst hwz
   go_wp2_with fail
   refine (hA3.out _).mono ?_
   rintro _ wz ⟨rfl,hwz⟩
   replace hwz:=hwz.symm
   subst hwz
   have f_a0:=blkC a_k 0 rfl
   have f_a1:=blkC a_k 1 rfl
   have f_b0:=blkC b_k 0 rfl
   have f_b1:=blkC b_k 1 rfl
   have f_c0:=blkC c_k 0 rfl
   have f_c1:=blkC c_k 1 rfl
   go_wp2_with fail
   clear f_a0 f_a1 f_b0 f_b1 f_c0 f_c1
   refine (hCFr.out _ H).mono ?_
   rintro _ y1 ⟨rfl,hw1⟩
   replace r_k:=blk_on hw1 r_k
   replace f_k:=blk_on hw1 f_k
   replace hb0:=bel_trans hb0 hw1
   replace H:=H.keeps hw1
   have k0:=blkC f_k 0 rfl
   have k1:=blkC f_k 1 rfl
   have k2:=blkC f_k 2 rfl
   have k3:=blkC f_k 3 rfl
   have k4:=blkC f_k 4 rfl
   have k5:=blkC f_k 5 rfl
   have k6:=blkC f_k 6 rfl
   have k7:=blkC f_k 7 rfl
   have z0:=blkF f_k 0
   have z1:=blkF f_k 1
   have z2:=blkF f_k 2
   have z3:=blkF f_k 3
   have z4:=blkF f_k 4
   have z5:=blkF f_k 5
   have z6:=blkF f_k 6
   have z7:=blkF f_k 7
   have q8:=heap_set8 f_k (.float .f64 U1) (.float .f64 E1) (.float .f64 V1) (.float .f64 E2) (.float .f64 U2) (.float .f64 E3) (.float .f64 V2) (.float .f64 E4)
   have e0:=blkC q8 0 rfl
   have e1:=blkC q8 1 rfl
   have e2:=blkC q8 2 rfl
   have e3:=blkC q8 3 rfl
   have e4:=blkC q8 4 rfl
   have e5:=blkC q8 5 rfl
   have e6:=blkC q8 6 rfl
   have e7:=blkC q8 7 rfl
   have hb8:=((((((((hb0.setCell (p:=⟨w.heap.size + 1 + 1 + 1 + 1,0,none⟩) (show w.heap.size <= w.heap.size + 1 + 1 + 1 + 1 by omega) (.float .f64 U1)).setCell (p:=⟨w.heap.size + 1 + 1 + 1 + 1,1,none⟩) (show w.heap.size <= w.heap.size + 1 + 1 + 1 + 1 by omega) (.float .f64 E1)).setCell (p:=⟨w.heap.size + 1 + 1 + 1 + 1,2,none⟩) (show w.heap.size <= w.heap.size + 1 + 1 + 1 + 1 by omega) (.float .f64 V1)).setCell (p:=⟨w.heap.size + 1 + 1 + 1 + 1,3,none⟩) (show w.heap.size <= w.heap.size + 1 + 1 + 1 + 1 by omega) (.float .f64 E2)).setCell (p:=⟨w.heap.size + 1 + 1 + 1 + 1,4,none⟩) (show w.heap.size <= w.heap.size + 1 + 1 + 1 + 1 by omega) (.float .f64 U2)).setCell (p:=⟨w.heap.size + 1 + 1 + 1 + 1,5,none⟩) (show w.heap.size <= w.heap.size + 1 + 1 + 1 + 1 by omega) (.float .f64 E3)).setCell (p:=⟨w.heap.size + 1 + 1 + 1 + 1,6,none⟩) (show w.heap.size <= w.heap.size + 1 + 1 + 1 + 1 by omega) (.float .f64 V2)).setCell (p:=⟨w.heap.size + 1 + 1 + 1 + 1,7,none⟩) (show w.heap.size <= w.heap.size + 1 + 1 + 1 + 1 by omega) (.float .f64 E4))
   have H8:=HK0.keeps hb8
   have r8:=heap_other8 r_k (g:=w.heap.size + 1 + 1 + 1 + 1) (by omega) (.float .f64 U1) (.float .f64 E1) (.float .f64 V1) (.float .f64 E2) (.float .f64 U2) (.float .f64 E3) (.float .f64 V2) (.float .f64 E4)
   go_wp2_with fail
   clear k0 z0 k1 z1 k2 z2 k3 z3 k4 z4 k5 z5 k6 z6 k7 z7
   clear f_k r_k hb0 H e0 e1 e2 e3 e4 e5 e6 e7
   generalize ((((((((y1.setCell ⟨w.heap.size + 1 + 1 + 1 + 1,0,none⟩ (.float .f64 U1)).setCell ⟨w.heap.size + 1 + 1 + 1 + 1,1,none⟩ (.float .f64 E1)).setCell ⟨w.heap.size + 1 + 1 + 1 + 1,2,none⟩ (.float .f64 V1)).setCell ⟨w.heap.size + 1 + 1 + 1 + 1,3,none⟩ (.float .f64 E2)).setCell ⟨w.heap.size + 1 + 1 + 1 + 1,4,none⟩ (.float .f64 U2)).setCell ⟨w.heap.size + 1 + 1 + 1 + 1,5,none⟩ (.float .f64 E3)).setCell ⟨w.heap.size + 1 + 1 + 1 + 1,6,none⟩ (.float .f64 V2)).setCell ⟨w.heap.size + 1 + 1 + 1 + 1,7,none⟩ (.float .f64 E4))=x2 at q8 hb8 H8 r8 ⊢
   refine (hCHd.out _ H8).mono ?_
   rintro _ y2 ⟨h,rfl,hv,hw2⟩
   replace q8:=blk_on hw2 q8
   replace r8:=blk_on hw2 r8
   replace hb8:=bel_trans hb8 hw2
   replace H8:=H8.keeps hw2
   have HC:Hid (∀ W,Calls Tryz.prog 40 #[.float .f64 (wd h),.float .f64 0] W fun r w'=>r=.returned (.int .i64 sgn)∧w'=W):=hCC.out h hv
   have HAh:Hid (∀ W,Calls Tryz.prog 34 #[.float .f64 (wd h)] W fun e w'=>e=.returned (.float .f64 HG)∧w'=W):=hHA.out h hv
   clear hv
   generalize wd h=HW at *
   have e0:=blkC q8 0 rfl
   have e1:=blkC q8 1 rfl
   have e2:=blkC q8 2 rfl
   have e3:=blkC q8 3 rfl
   have e4:=blkC q8 4 rfl
   have e5:=blkC q8 5 rfl
   have e6:=blkC q8 6 rfl
   have e7:=blkC q8 7 rfl
   go_wp2_with fail
   clear e0 e1 e2 e3 e4 e5 e6 e7
   refine (hCEx.out _).mono ?_
   rintro _ y3 ⟨rfl,hw3⟩
   replace q8:=blk_on hw3 q8
   replace r8:=blk_on hw3 r8
   replace hb8:=bel_trans hb8 hw3
   replace H8:=H8.keeps hw3
   go_wp2_with fail
   refine (HAh.out _).mono ?_
   rintro _ wz ⟨rfl,hwz⟩
   replace hwz:=hwz.symm
   subst hwz
   go_wp2_with fail
   go_step3
   simp only [Exit.then,Exit.jump]
   exact ⟨rfl,hb8,r8,HW,HC.out,oJ_of _ (by kernel_rfl)⟩
  ·rintro a' w' ⟨hb,hr,X,hX,u,rfl⟩
   have HX:Hid (∀ W,Calls Tryz.prog 40 #[.float .f64 X,.float .f64 0] W fun r w'=>r=.returned (.int .i64 sgn)∧w'=W):=hX
   clear hX
   go_wp2_with fail
   refine (HX.out _).mono ?_
   rintro _ wz ⟨rfl,hwz⟩
   replace hwz:=hwz.symm
   subst hwz
   have k0:=blkC hr 0 rfl
   have k1:=blkC hr 1 rfl
   have z0:=blkF hr 0
   have z1:=blkF hr 1
   have q:=heap_set (heap_set hr 0 (.int .i64 sgn)) 1 (.int .i64 2)
   have e0:=blkC q 0 rfl
   have e1:=blkC q 1 rfl
   go_wp2
   simp only [Exit.jump]
   refine bodyPost_ret (v:=.agg #[.int .i64 sgn,.int .i64 2]) (by simp [results,Tryz.results22,go_sem,e0,e1]) rfl ⟨rfl,(hb.setCell (p:=⟨w.heap.size + 1 + 1 + 1,0,none⟩) (by show _ <= _ + 1 + 1 + 1; omega) _).setCell (p:=⟨w.heap.size + 1 + 1 + 1,1,none⟩) (by show _ <= _ + 1 + 1 + 1; omega) _⟩
set_option maxRecDepth 100000 in
set_option maxHeartbeats 8000000 in
theorem oTv4 {ax ay bx by' cx cy T tl sgn:Int} {AX AY BX BY CX CY U1 V1 U2 V2 E1 E2 E3 E4 LW RW LA RA SW DW DA AS HG BS TW DB CS KH EW:Nat}
  (F1:(∀ W,Calls Tryz.prog 32 #[.int .i64 ax] W fun e w'=>e=.returned (.float .f64 AX)∧w'=W))
  (F2:(∀ W,Calls Tryz.prog 32 #[.int .i64 ay] W fun e w'=>e=.returned (.float .f64 AY)∧w'=W))
  (F3:(∀ W,Calls Tryz.prog 32 #[.int .i64 bx] W fun e w'=>e=.returned (.float .f64 BX)∧w'=W))
  (F4:(∀ W,Calls Tryz.prog 32 #[.int .i64 by'] W fun e w'=>e=.returned (.float .f64 BY)∧w'=W))
  (F5:(∀ W,Calls Tryz.prog 32 #[.int .i64 cx] W fun e w'=>e=.returned (.float .f64 CX)∧w'=W))
  (F6:(∀ W,Calls Tryz.prog 32 #[.int .i64 cy] W fun e w'=>e=.returned (.float .f64 CY)∧w'=W))
  (s1:(∀ W,(binOp .sub 50 (.float .f64 AX) (.float .f64 CX)).run Tryz.prog W=.ok (.float .f64 U1) W))
  (s2:(∀ W,(binOp .sub 50 (.float .f64 BY) (.float .f64 CY)).run Tryz.prog W=.ok (.float .f64 V2) W))
  (m1:(∀ W,(binOp .mul 50 (.float .f64 U1) (.float .f64 V2)).run Tryz.prog W=.ok (.float .f64 LW) W))
  (s3:(∀ W,(binOp .sub 50 (.float .f64 AY) (.float .f64 CY)).run Tryz.prog W=.ok (.float .f64 V1) W))
  (s4:(∀ W,(binOp .sub 50 (.float .f64 BX) (.float .f64 CX)).run Tryz.prog W=.ok (.float .f64 U2) W))
  (m2:(∀ W,(binOp .mul 50 (.float .f64 V1) (.float .f64 U2)).run Tryz.prog W=.ok (.float .f64 RW) W))
  (A1:(∀ W,Calls Tryz.prog 34 #[.float .f64 LW] W fun e w'=>e=.returned (.float .f64 LA)∧w'=W))
  (A2:(∀ W,Calls Tryz.prog 34 #[.float .f64 RW] W fun e w'=>e=.returned (.float .f64 RA)∧w'=W))
  (p1:(∀ W,(binOp .add 50 (.float .f64 LA) (.float .f64 RA)).run Tryz.prog W=.ok (.float .f64 SW) W))
  (s5:(∀ W,(binOp .sub 50 (.float .f64 LW) (.float .f64 RW)).run Tryz.prog W=.ok (.float .f64 DW) W))
  (A3:(∀ W,Calls Tryz.prog 34 #[.float .f64 DW] W fun e w'=>e=.returned (.float .f64 DA)∧w'=W))
  (m3:(∀ W,(binOp .mul 50 (.float .f64 4375247037990436868) (.float .f64 SW)).run Tryz.prog W=.ok (.float .f64 AS) W))
  (o1:FloatKind.f64.format.order DA AS=some .lt)
  (CFr:(∀ W,Hold4 W->Calls Tryz.prog 35 #[.agg #[.int .i64 ax,.int .i64 ay],.agg #[.int .i64 bx,.int .i64 by'],.agg #[.int .i64 cx,.int .i64 cy]] W fun r w'=>r=.returned (.agg #[.float .f64 U1,.float .f64 E1,.float .f64 V1,.float .f64 E2,.float .f64 U2,.float .f64 E3,.float .f64 V2,.float .f64 E4])∧Below W.heap.size W w'))
  (CHd:(∀ W,Hold4 W->Calls Tryz.prog 36 #[.agg #[.float .f64 U1,.float .f64 E1,.float .f64 V1,.float .f64 E2,.float .f64 U2,.float .f64 E3,.float .f64 V2,.float .f64 E4],.float .f64 LW,.float .f64 RW] W fun r w'=>∃ h,r=.returned (.float .f64 (wd h))∧HdV T h∧Below W.heap.size W w'))
  (CEx:(∀ W,Calls Tryz.prog 37 #[.agg #[.float .f64 U1,.float .f64 E1,.float .f64 V1,.float .f64 E2,.float .f64 U2,.float .f64 E3,.float .f64 V2,.float .f64 E4]] W fun r w'=>r=.returned (.bool false)∧Below W.heap.size W w'))
  (HA:(∀ h,HdV T h->(∀ W,Calls Tryz.prog 34 #[.float .f64 (wd h)] W fun e w'=>e=.returned (.float .f64 HG)∧w'=W)))
  (m4:(∀ W,(binOp .mul 50 (.float .f64 4372995238176751619) (.float .f64 SW)).run Tryz.prog W=.ok (.float .f64 BS) W))
  (o2:FloatKind.f64.format.order HG BS=some .lt)
  (CT:(∀ W,Calls Tryz.prog 38 #[.agg #[.float .f64 U1,.float .f64 E1,.float .f64 V1,.float .f64 E2,.float .f64 U2,.float .f64 E3,.float .f64 V2,.float .f64 E4]] W fun r w'=>r=.returned (.float .f64 TW)∧Below W.heap.size W w'))
  (HS:(∀ h,HdV T h->(∀ W,(binOp .add 50 (.float .f64 (wd h)) (.float .f64 TW)).run Tryz.prog W=.ok (.float .f64 (wd (fsum h tl))) W)))
  (HB:(∀ h,HdV T h->(∀ W,Calls Tryz.prog 34 #[.float .f64 (wd (fsum h tl))] W fun e w'=>e=.returned (.float .f64 DB)∧w'=W)))
  (m5:(∀ W,(binOp .mul 50 (.float .f64 4143874607134277636) (.float .f64 SW)).run Tryz.prog W=.ok (.float .f64 CS) W))
  (m6:(∀ W,(binOp .mul 50 (.float .f64 4375247037990436866) (.float .f64 HG)).run Tryz.prog W=.ok (.float .f64 KH) W))
  (p2:(∀ W,(binOp .add 50 (.float .f64 CS) (.float .f64 KH)).run Tryz.prog W=.ok (.float .f64 EW) W))
  (o3:(FloatKind.f64.format.order DB EW=some .gt∨FloatKind.f64.format.order DB EW=some .eq))
  (CC:(∀ h,HdV T h->(∀ W,Calls Tryz.prog 40 #[.float .f64 (wd (fsum h tl)),.float .f64 0] W fun r w'=>r=.returned (.int .i64 sgn)∧w'=W)))
  (w:World) (H:Hold4 w) :
  Calls Tryz.prog 22 #[.agg #[.int .i64 ax,.int .i64 ay],.agg #[.int .i64 bx,.int .i64 by'],.agg #[.int .i64 cx,.int .i64 cy]] w fun r w'=>r=.returned (.agg #[.int .i64 sgn,.int .i64 3])∧Below w.heap.size w w':=by
 have hF1:Hid (∀ W,Calls Tryz.prog 32 #[.int .i64 ax] W fun e w'=>e=.returned (.float .f64 AX)∧w'=W):=F1
 clear F1
 have hF2:Hid (∀ W,Calls Tryz.prog 32 #[.int .i64 ay] W fun e w'=>e=.returned (.float .f64 AY)∧w'=W):=F2
 clear F2
 have hF3:Hid (∀ W,Calls Tryz.prog 32 #[.int .i64 bx] W fun e w'=>e=.returned (.float .f64 BX)∧w'=W):=F3
 clear F3
 have hF4:Hid (∀ W,Calls Tryz.prog 32 #[.int .i64 by'] W fun e w'=>e=.returned (.float .f64 BY)∧w'=W):=F4
 clear F4
 have hF5:Hid (∀ W,Calls Tryz.prog 32 #[.int .i64 cx] W fun e w'=>e=.returned (.float .f64 CX)∧w'=W):=F5
 clear F5
 have hF6:Hid (∀ W,Calls Tryz.prog 32 #[.int .i64 cy] W fun e w'=>e=.returned (.float .f64 CY)∧w'=W):=F6
 clear F6
 have hA1:Hid (∀ W,Calls Tryz.prog 34 #[.float .f64 LW] W fun e w'=>e=.returned (.float .f64 LA)∧w'=W):=A1
 clear A1
 have hA2:Hid (∀ W,Calls Tryz.prog 34 #[.float .f64 RW] W fun e w'=>e=.returned (.float .f64 RA)∧w'=W):=A2
 clear A2
 have hA3:Hid (∀ W,Calls Tryz.prog 34 #[.float .f64 DW] W fun e w'=>e=.returned (.float .f64 DA)∧w'=W):=A3
 clear A3
 have hCFr:Hid (∀ W,Hold4 W->Calls Tryz.prog 35 #[.agg #[.int .i64 ax,.int .i64 ay],.agg #[.int .i64 bx,.int .i64 by'],.agg #[.int .i64 cx,.int .i64 cy]] W fun r w'=>r=.returned (.agg #[.float .f64 U1,.float .f64 E1,.float .f64 V1,.float .f64 E2,.float .f64 U2,.float .f64 E3,.float .f64 V2,.float .f64 E4])∧Below W.heap.size W w'):=CFr
 clear CFr
 have hCHd:Hid (∀ W,Hold4 W->Calls Tryz.prog 36 #[.agg #[.float .f64 U1,.float .f64 E1,.float .f64 V1,.float .f64 E2,.float .f64 U2,.float .f64 E3,.float .f64 V2,.float .f64 E4],.float .f64 LW,.float .f64 RW] W fun r w'=>∃ h,r=.returned (.float .f64 (wd h))∧HdV T h∧Below W.heap.size W w'):=CHd
 clear CHd
 have hCEx:Hid (∀ W,Calls Tryz.prog 37 #[.agg #[.float .f64 U1,.float .f64 E1,.float .f64 V1,.float .f64 E2,.float .f64 U2,.float .f64 E3,.float .f64 V2,.float .f64 E4]] W fun r w'=>r=.returned (.bool false)∧Below W.heap.size W w'):=CEx
 clear CEx
 have hHA:Hid (∀ h,HdV T h->(∀ W,Calls Tryz.prog 34 #[.float .f64 (wd h)] W fun e w'=>e=.returned (.float .f64 HG)∧w'=W)):=HA
 clear HA
 have hCT:Hid (∀ W,Calls Tryz.prog 38 #[.agg #[.float .f64 U1,.float .f64 E1,.float .f64 V1,.float .f64 E2,.float .f64 U2,.float .f64 E3,.float .f64 V2,.float .f64 E4]] W fun r w'=>r=.returned (.float .f64 TW)∧Below W.heap.size W w'):=CT
 clear CT
 have hHS:Hid (∀ h,HdV T h->(∀ W,(binOp .add 50 (.float .f64 (wd h)) (.float .f64 TW)).run Tryz.prog W=.ok (.float .f64 (wd (fsum h tl))) W)):=HS
 clear HS
 have hHB:Hid (∀ h,HdV T h->(∀ W,Calls Tryz.prog 34 #[.float .f64 (wd (fsum h tl))] W fun e w'=>e=.returned (.float .f64 DB)∧w'=W)):=HB
 clear HB
 have hCC:Hid (∀ h,HdV T h->(∀ W,Calls Tryz.prog 40 #[.float .f64 (wd (fsum h tl)),.float .f64 0] W fun r w'=>r=.returned (.int .i64 sgn)∧w'=W)):=CC
 clear CC
 have hst:∀ p x m w,(store p (.float .f64 x) m).run Tryz.prog w=stored Tryz.prog w p (.float .f64 x) m:=fun p x m w=>run_store _ w p _ m rfl
 rcases o3 with o3 | o3
 all_goals
  have HK0:=H
  obtain ⟨hb0,a_k,b_k,c_k,r_k,f_k,hsz0⟩:=blks5 w (.cells #[.int .i64 ax,.int .i64 ay] 23) (.cells #[.int .i64 bx,.int .i64 by'] 23) (.cells #[.int .i64 cx,.int .i64 cy] 23) (.cells #[.int .i64 0,.int .i64 0] 42) (.cells #[.float .f64 0,.float .f64 0,.float .f64 0,.float .f64 0,.float .f64 0,.float .f64 0,.float .f64 0,.float .f64 0] 70)
  clear hsz0
  go_enter Tryz.func22,Tryz.ntmps22
  go_wp2
  refine wp_scope_jumps 0 (fun a' w'=>Below w.heap.size w w'∧w'.heap[w.heap.size + 1 + 1 + 1]?=some (.cells #[.int .i64 0,.int .i64 0] 42 (0,0))∧oJc w.heap.size sgn 3 a') (fun _ _=>0) rfl ?_ ?_
  ·go_wp2_with fail
   generalize ((((w.alloc (.cells #[.int .i64 ax,.int .i64 ay] 23)).alloc (.cells #[.int .i64 bx,.int .i64 by'] 23)).alloc (.cells #[.int .i64 cx,.int .i64 cy] 23)).alloc (.cells #[.int .i64 0,.int .i64 0] 42)).alloc (.cells #[.float .f64 0,.float .f64 0,.float .f64 0,.float .f64 0,.float .f64 0,.float .f64 0,.float .f64 0,.float .f64 0] 70)=x0 at hb0 a_k b_k c_k r_k f_k ⊢
   have f_a0:=blkC a_k 0 rfl
   have f_a1:=blkC a_k 1 rfl
   have f_b0:=blkC b_k 0 rfl
   have f_b1:=blkC b_k 1 rfl
   have f_c0:=blkC c_k 0 rfl
   have f_c1:=blkC c_k 1 rfl
   go_quiet (first | (go_at_call 32; with_reducible exact Calls.quiet_of_same (hF1.out _)) | (go_at_call 32; with_reducible exact Calls.quiet_of_same (hF2.out _)) | (go_at_call 32; with_reducible exact Calls.quiet_of_same (hF3.out _)) | (go_at_call 32; with_reducible exact Calls.quiet_of_same (hF4.out _)) | (go_at_call 32; with_reducible exact Calls.quiet_of_same (hF5.out _)) | (go_at_call 32; with_reducible exact Calls.quiet_of_same (hF6.out _)))
   go_wp2_with fail
   clear f_a0 f_a1 f_b0 f_b1 f_c0 f_c1
   have hd:=bDrewN (bel_refl x0) nq
   replace a_k:=blk_on hd a_k
   replace b_k:=blk_on hd b_k
   replace c_k:=blk_on hd c_k
   replace r_k:=blk_on hd r_k
   replace f_k:=blk_on hd f_k
   replace hb0:=bel_trans hb0 hd
   replace H:=H.keeps hb0
   generalize x0.drewN nq=x1 at hb0 H a_k b_k c_k r_k f_k ⊢
   clear hd
   refine (hA1.out _).mono ?_
   rintro _ wz ⟨rfl,hwz⟩
   replace hwz:=hwz.symm
   subst hwz
   go_wp2_with fail
   refine (hA2.out _).mono ?_
   rintro _ wz ⟨rfl,hwz⟩
   replace hwz:=hwz.symm
   subst hwz
   go_wp2_with fail
   refine (hA3.out _).mono ?_
   rintro _ wz ⟨rfl,hwz⟩
   replace hwz:=hwz.symm
   subst hwz
   have f_a0:=blkC a_k 0 rfl
   have f_a1:=blkC a_k 1 rfl
   have f_b0:=blkC b_k 0 rfl
   have f_b1:=blkC b_k 1 rfl
   have f_c0:=blkC c_k 0 rfl
   have f_c1:=blkC c_k 1 rfl
   go_wp2_with fail
   clear f_a0 f_a1 f_b0 f_b1 f_c0 f_c1
   refine (hCFr.out _ H).mono ?_
   rintro _ y1 ⟨rfl,hw1⟩
   replace r_k:=blk_on hw1 r_k
   replace f_k:=blk_on hw1 f_k
   replace hb0:=bel_trans hb0 hw1
   replace H:=H.keeps hw1
   have k0:=blkC f_k 0 rfl
   have k1:=blkC f_k 1 rfl
   have k2:=blkC f_k 2 rfl
   have k3:=blkC f_k 3 rfl
   have k4:=blkC f_k 4 rfl
   have k5:=blkC f_k 5 rfl
   have k6:=blkC f_k 6 rfl
   have k7:=blkC f_k 7 rfl
   have z0:=blkF f_k 0
   have z1:=blkF f_k 1
   have z2:=blkF f_k 2
   have z3:=blkF f_k 3
   have z4:=blkF f_k 4
   have z5:=blkF f_k 5
   have z6:=blkF f_k 6
   have z7:=blkF f_k 7
   have q8:=heap_set8 f_k (.float .f64 U1) (.float .f64 E1) (.float .f64 V1) (.float .f64 E2) (.float .f64 U2) (.float .f64 E3) (.float .f64 V2) (.float .f64 E4)
   have e0:=blkC q8 0 rfl
   have e1:=blkC q8 1 rfl
   have e2:=blkC q8 2 rfl
   have e3:=blkC q8 3 rfl
   have e4:=blkC q8 4 rfl
   have e5:=blkC q8 5 rfl
   have e6:=blkC q8 6 rfl
   have e7:=blkC q8 7 rfl
   have hb8:=((((((((hb0.setCell (p:=⟨w.heap.size + 1 + 1 + 1 + 1,0,none⟩) (show w.heap.size <= w.heap.size + 1 + 1 + 1 + 1 by omega) (.float .f64 U1)).setCell (p:=⟨w.heap.size + 1 + 1 + 1 + 1,1,none⟩) (show w.heap.size <= w.heap.size + 1 + 1 + 1 + 1 by omega) (.float .f64 E1)).setCell (p:=⟨w.heap.size + 1 + 1 + 1 + 1,2,none⟩) (show w.heap.size <= w.heap.size + 1 + 1 + 1 + 1 by omega) (.float .f64 V1)).setCell (p:=⟨w.heap.size + 1 + 1 + 1 + 1,3,none⟩) (show w.heap.size <= w.heap.size + 1 + 1 + 1 + 1 by omega) (.float .f64 E2)).setCell (p:=⟨w.heap.size + 1 + 1 + 1 + 1,4,none⟩) (show w.heap.size <= w.heap.size + 1 + 1 + 1 + 1 by omega) (.float .f64 U2)).setCell (p:=⟨w.heap.size + 1 + 1 + 1 + 1,5,none⟩) (show w.heap.size <= w.heap.size + 1 + 1 + 1 + 1 by omega) (.float .f64 E3)).setCell (p:=⟨w.heap.size + 1 + 1 + 1 + 1,6,none⟩) (show w.heap.size <= w.heap.size + 1 + 1 + 1 + 1 by omega) (.float .f64 V2)).setCell (p:=⟨w.heap.size + 1 + 1 + 1 + 1,7,none⟩) (show w.heap.size <= w.heap.size + 1 + 1 + 1 + 1 by omega) (.float .f64 E4))
   have H8:=HK0.keeps hb8
   have r8:=heap_other8 r_k (g:=w.heap.size + 1 + 1 + 1 + 1) (by omega) (.float .f64 U1) (.float .f64 E1) (.float .f64 V1) (.float .f64 E2) (.float .f64 U2) (.float .f64 E3) (.float .f64 V2) (.float .f64 E4)
   go_wp2_with fail
   clear k0 z0 k1 z1 k2 z2 k3 z3 k4 z4 k5 z5 k6 z6 k7 z7
   clear f_k r_k hb0 H e0 e1 e2 e3 e4 e5 e6 e7
   generalize ((((((((y1.setCell ⟨w.heap.size + 1 + 1 + 1 + 1,0,none⟩ (.float .f64 U1)).setCell ⟨w.heap.size + 1 + 1 + 1 + 1,1,none⟩ (.float .f64 E1)).setCell ⟨w.heap.size + 1 + 1 + 1 + 1,2,none⟩ (.float .f64 V1)).setCell ⟨w.heap.size + 1 + 1 + 1 + 1,3,none⟩ (.float .f64 E2)).setCell ⟨w.heap.size + 1 + 1 + 1 + 1,4,none⟩ (.float .f64 U2)).setCell ⟨w.heap.size + 1 + 1 + 1 + 1,5,none⟩ (.float .f64 E3)).setCell ⟨w.heap.size + 1 + 1 + 1 + 1,6,none⟩ (.float .f64 V2)).setCell ⟨w.heap.size + 1 + 1 + 1 + 1,7,none⟩ (.float .f64 E4))=x2 at q8 hb8 H8 r8 ⊢
   refine (hCHd.out _ H8).mono ?_
   rintro _ y2 ⟨h,rfl,hv,hw2⟩
   replace q8:=blk_on hw2 q8
   replace r8:=blk_on hw2 r8
   replace hb8:=bel_trans hb8 hw2
   replace H8:=H8.keeps hw2
   have HC:Hid (∀ W,Calls Tryz.prog 40 #[.float .f64 (wd (fsum h tl)),.float .f64 0] W fun r w'=>r=.returned (.int .i64 sgn)∧w'=W):=hCC.out h hv
   have HAh:Hid (∀ W,Calls Tryz.prog 34 #[.float .f64 (wd h)] W fun e w'=>e=.returned (.float .f64 HG)∧w'=W):=hHA.out h hv
   have HSh:=hHS.out h hv
   have HBh:Hid (∀ W,Calls Tryz.prog 34 #[.float .f64 (wd (fsum h tl))] W fun e w'=>e=.returned (.float .f64 DB)∧w'=W):=hHB.out h hv
   generalize wd (fsum h tl)=DH at *
   clear hv
   generalize wd h=HW at *
   have e0:=blkC q8 0 rfl
   have e1:=blkC q8 1 rfl
   have e2:=blkC q8 2 rfl
   have e3:=blkC q8 3 rfl
   have e4:=blkC q8 4 rfl
   have e5:=blkC q8 5 rfl
   have e6:=blkC q8 6 rfl
   have e7:=blkC q8 7 rfl
   go_wp2_with fail
   clear e0 e1 e2 e3 e4 e5 e6 e7
   refine (hCEx.out _).mono ?_
   rintro _ y3 ⟨rfl,hw3⟩
   replace q8:=blk_on hw3 q8
   replace r8:=blk_on hw3 r8
   replace hb8:=bel_trans hb8 hw3
   replace H8:=H8.keeps hw3
   go_wp2_with fail
   refine (HAh.out _).mono ?_
   rintro _ wz ⟨rfl,hwz⟩
   replace hwz:=hwz.symm
   subst hwz
   have e0:=blkC q8 0 rfl
   have e1:=blkC q8 1 rfl
   have e2:=blkC q8 2 rfl
   have e3:=blkC q8 3 rfl
   have e4:=blkC q8 4 rfl
   have e5:=blkC q8 5 rfl
   have e6:=blkC q8 6 rfl
   have e7:=blkC q8 7 rfl
   go_wp2_with fail
   clear e0 e1 e2 e3 e4 e5 e6 e7
   refine (hCT.out _).mono ?_
   rintro _ y4 ⟨rfl,hw4⟩
   replace q8:=blk_on hw4 q8
   replace r8:=blk_on hw4 r8
   replace hb8:=bel_trans hb8 hw4
   replace H8:=H8.keeps hw4
   go_wp2_with fail
   refine (HBh.out _).mono ?_
   rintro _ wz ⟨rfl,hwz⟩
   replace hwz:=hwz.symm
   subst hwz
   go_wp2_with fail
   refine (HAh.out _).mono ?_
   rintro _ wz ⟨rfl,hwz⟩
   replace hwz:=hwz.symm
   subst hwz
   go_wp2_with fail
   go_step3
   simp only [Exit.then,Exit.jump]
   exact ⟨rfl,hb8,r8,DH,HC.out,oJ_of _ (by kernel_rfl)⟩
  ·rintro a' w' ⟨hb,hr,X,hX,u,rfl⟩
   have HX:Hid (∀ W,Calls Tryz.prog 40 #[.float .f64 X,.float .f64 0] W fun r w'=>r=.returned (.int .i64 sgn)∧w'=W):=hX
   clear hX
   go_wp2_with fail
   refine (HX.out _).mono ?_
   rintro _ wz ⟨rfl,hwz⟩
   replace hwz:=hwz.symm
   subst hwz
   have k0:=blkC hr 0 rfl
   have k1:=blkC hr 1 rfl
   have z0:=blkF hr 0
   have z1:=blkF hr 1
   have q:=heap_set (heap_set hr 0 (.int .i64 sgn)) 1 (.int .i64 3)
   have e0:=blkC q 0 rfl
   have e1:=blkC q 1 rfl
   go_wp2
   simp only [Exit.jump]
   refine bodyPost_ret (v:=.agg #[.int .i64 sgn,.int .i64 3]) (by simp [results,Tryz.results22,go_sem,e0,e1]) rfl ⟨rfl,(hb.setCell (p:=⟨w.heap.size + 1 + 1 + 1,0,none⟩) (by show _ <= _ + 1 + 1 + 1; omega) _).setCell (p:=⟨w.heap.size + 1 + 1 + 1,1,none⟩) (by show _ <= _ + 1 + 1 + 1; omega) _⟩
end Go.Proofs.YtinccocmgkjalaaGreatDoor
