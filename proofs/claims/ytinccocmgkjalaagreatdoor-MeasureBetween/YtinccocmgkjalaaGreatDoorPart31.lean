/-
  Parts of the proof, one behind another.
-/
import Derived.Test.YtinccocmgkjalaaGreatDoorPart30
import Derived.Test.YtinccocmgkjalaaGreatDoorPart29
import Derived.ScopeJumps
import Derived.Test.YtinccocmgkjalaaGreatDoorPart27
import Derived.Test.YtinccocmgkjalaaGreatDoorPart22
import Derived.Test.YtinccocmgkjalaaGreatDoorPart25
set_option linter.unusedVariables false
set_option linter.unusedSimpArgs false
namespace Go.Proofs.YtinccocmgkjalaaGreatDoor
open Go Go.RowKit Go.Proofs.YtinccocmgkjalaaGreatDoor.M
set_option maxRecDepth 100000 in
set_option maxHeartbeats 8000000 in
theorem oTv5 {ax ay bx by' cx cy T tl sgn:Int} {AX AY BX BY CX CY U1 V1 U2 V2 E1 E2 E3 E4 LW RW LA RA SW DW DA AS HG BS TW DB CS KH EW ZW:Nat}
  (F1:(∀ W,Calls Tryz.prog 32 #[.int .i64 ax] W fun e w'=>e=.returned (.float .f64 AX)∧w'=W))
  (F2:(∀ W,Calls Tryz.prog 32 #[.int .i64 ay] W fun e w'=>e=.returned (.float .f64 AY)∧w'=W))
  (F3:(∀ W,Calls Tryz.prog 32 #[.int .i64 bx] W fun e w'=>e=.returned (.float .f64 BX)∧w'=W))
  (F4:(∀ W,Calls Tryz.prog 32 #[.int .i64 by'] W fun e w'=>e=.returned (.float .f64 BY)∧w'=W))
  (F5:(∀ W,Calls Tryz.prog 32 #[.int .i64 cx] W fun e w'=>e=.returned (.float .f64 CX)∧w'=W))
  (F6:(∀ W,Calls Tryz.prog 32 #[.int .i64 cy] W fun e w'=>e=.returned (.float .f64 CY)∧w'=W))
  (s1:(∀ W,(binOp .sub 50 (.float .f64 AX) (.float .f64 CX)).run Tryz.prog W=.ok (.float .f64 U1) W))
  (s2:(∀ W,(binOp .sub 50 (.float .f64 BY) (.float .f64 CY)).run Tryz.prog W=.ok (.float .f64 V2) W))
  (m1:(∀ W,(binOp .mul 50 (.float .f64 U1) (.float .f64 V2)).run Tryz.prog W=.ok (.float .f64 LW) W))
  (s3:(∀ W,(binOp .sub 50 (.float .f64 AY) (.float .f64 CY)).run Tryz.prog W=.ok (.float .f64 V1) W))
  (s4:(∀ W,(binOp .sub 50 (.float .f64 BX) (.float .f64 CX)).run Tryz.prog W=.ok (.float .f64 U2) W))
  (m2:(∀ W,(binOp .mul 50 (.float .f64 V1) (.float .f64 U2)).run Tryz.prog W=.ok (.float .f64 RW) W))
  (A1:(∀ W,Calls Tryz.prog 34 #[.float .f64 LW] W fun e w'=>e=.returned (.float .f64 LA)∧w'=W))
  (A2:(∀ W,Calls Tryz.prog 34 #[.float .f64 RW] W fun e w'=>e=.returned (.float .f64 RA)∧w'=W))
  (p1:(∀ W,(binOp .add 50 (.float .f64 LA) (.float .f64 RA)).run Tryz.prog W=.ok (.float .f64 SW) W))
  (s5:(∀ W,(binOp .sub 50 (.float .f64 LW) (.float .f64 RW)).run Tryz.prog W=.ok (.float .f64 DW) W))
  (A3:(∀ W,Calls Tryz.prog 34 #[.float .f64 DW] W fun e w'=>e=.returned (.float .f64 DA)∧w'=W))
  (m3:(∀ W,(binOp .mul 50 (.float .f64 4375247037990436868) (.float .f64 SW)).run Tryz.prog W=.ok (.float .f64 AS) W))
  (o1:FloatKind.f64.format.order DA AS=some .lt)
  (CFr:(∀ W,Hold4 W->Calls Tryz.prog 35 #[.agg #[.int .i64 ax,.int .i64 ay],.agg #[.int .i64 bx,.int .i64 by'],.agg #[.int .i64 cx,.int .i64 cy]] W fun r w'=>r=.returned (.agg #[.float .f64 U1,.float .f64 E1,.float .f64 V1,.float .f64 E2,.float .f64 U2,.float .f64 E3,.float .f64 V2,.float .f64 E4])∧Below W.heap.size W w'))
  (CHd:(∀ W,Hold4 W->Calls Tryz.prog 36 #[.agg #[.float .f64 U1,.float .f64 E1,.float .f64 V1,.float .f64 E2,.float .f64 U2,.float .f64 E3,.float .f64 V2,.float .f64 E4],.float .f64 LW,.float .f64 RW] W fun r w'=>∃ h,r=.returned (.float .f64 (wd h))∧HdV T h∧Below W.heap.size W w'))
  (CEx:(∀ W,Calls Tryz.prog 37 #[.agg #[.float .f64 U1,.float .f64 E1,.float .f64 V1,.float .f64 E2,.float .f64 U2,.float .f64 E3,.float .f64 V2,.float .f64 E4]] W fun r w'=>r=.returned (.bool false)∧Below W.heap.size W w'))
  (HA:(∀ h,HdV T h->(∀ W,Calls Tryz.prog 34 #[.float .f64 (wd h)] W fun e w'=>e=.returned (.float .f64 HG)∧w'=W)))
  (m4:(∀ W,(binOp .mul 50 (.float .f64 4372995238176751619) (.float .f64 SW)).run Tryz.prog W=.ok (.float .f64 BS) W))
  (o2:FloatKind.f64.format.order HG BS=some .lt)
  (CT:(∀ W,Calls Tryz.prog 38 #[.agg #[.float .f64 U1,.float .f64 E1,.float .f64 V1,.float .f64 E2,.float .f64 U2,.float .f64 E3,.float .f64 V2,.float .f64 E4]] W fun r w'=>r=.returned (.float .f64 TW)∧Below W.heap.size W w'))
  (HS:(∀ h,HdV T h->(∀ W,(binOp .add 50 (.float .f64 (wd h)) (.float .f64 TW)).run Tryz.prog W=.ok (.float .f64 (wd (fsum h tl))) W)))
  (HB:(∀ h,HdV T h->(∀ W,Calls Tryz.prog 34 #[.float .f64 (wd (fsum h tl))] W fun e w'=>e=.returned (.float .f64 DB)∧w'=W)))
  (m5:(∀ W,(binOp .mul 50 (.float .f64 4143874607134277636) (.float .f64 SW)).run Tryz.prog W=.ok (.float .f64 CS) W))
  (m6:(∀ W,(binOp .mul 50 (.float .f64 4375247037990436866) (.float .f64 HG)).run Tryz.prog W=.ok (.float .f64 KH) W))
  (p2:(∀ W,(binOp .add 50 (.float .f64 CS) (.float .f64 KH)).run Tryz.prog W=.ok (.float .f64 EW) W))
  (o3:FloatKind.f64.format.order DB EW=some .lt)
  (CAl:(∀ W,Hold4 W->Calls Tryz.prog 39 #[.agg #[.float .f64 U1,.float .f64 E1,.float .f64 V1,.float .f64 E2,.float .f64 U2,.float .f64 E3,.float .f64 V2,.float .f64 E4]] W fun r w'=>r=.returned (.float .f64 ZW)∧Below W.heap.size W w'))
  (CC:(∀ W,Calls Tryz.prog 40 #[.float .f64 ZW,.float .f64 0] W fun r w'=>r=.returned (.int .i64 sgn)∧w'=W))
  (w:World) (H:Hold4 w) :
  Calls Tryz.prog 22 #[.agg #[.int .i64 ax,.int .i64 ay],.agg #[.int .i64 bx,.int .i64 by'],.agg #[.int .i64 cx,.int .i64 cy]] w fun r w'=>r=.returned (.agg #[.int .i64 sgn,.int .i64 4])∧Below w.heap.size w w':=by
 have hF1:Hid (∀ W,Calls Tryz.prog 32 #[.int .i64 ax] W fun e w'=>e=.returned (.float .f64 AX)∧w'=W):=F1
 clear F1
 have hF2:Hid (∀ W,Calls Tryz.prog 32 #[.int .i64 ay] W fun e w'=>e=.returned (.float .f64 AY)∧w'=W):=F2
 clear F2
 have hF3:Hid (∀ W,Calls Tryz.prog 32 #[.int .i64 bx] W fun e w'=>e=.returned (.float .f64 BX)∧w'=W):=F3
 clear F3
 have hF4:Hid (∀ W,Calls Tryz.prog 32 #[.int .i64 by'] W fun e w'=>e=.returned (.float .f64 BY)∧w'=W):=F4
 clear F4
 have hF5:Hid (∀ W,Calls Tryz.prog 32 #[.int .i64 cx] W fun e w'=>e=.returned (.float .f64 CX)∧w'=W):=F5
 clear F5
 have hF6:Hid (∀ W,Calls Tryz.prog 32 #[.int .i64 cy] W fun e w'=>e=.returned (.float .f64 CY)∧w'=W):=F6
 clear F6
 have hA1:Hid (∀ W,Calls Tryz.prog 34 #[.float .f64 LW] W fun e w'=>e=.returned (.float .f64 LA)∧w'=W):=A1
 clear A1
 have hA2:Hid (∀ W,Calls Tryz.prog 34 #[.float .f64 RW] W fun e w'=>e=.returned (.float .f64 RA)∧w'=W):=A2
 clear A2
 have hA3:Hid (∀ W,Calls Tryz.prog 34 #[.float .f64 DW] W fun e w'=>e=.returned (.float .f64 DA)∧w'=W):=A3
 clear A3
 have hCFr:Hid (∀ W,Hold4 W->Calls Tryz.prog 35 #[.agg #[.int .i64 ax,.int .i64 ay],.agg #[.int .i64 bx,.int .i64 by'],.agg #[.int .i64 cx,.int .i64 cy]] W fun r w'=>r=.returned (.agg #[.float .f64 U1,.float .f64 E1,.float .f64 V1,.float .f64 E2,.float .f64 U2,.float .f64 E3,.float .f64 V2,.float .f64 E4])∧Below W.heap.size W w'):=CFr
 clear CFr
 have hCHd:Hid (∀ W,Hold4 W->Calls Tryz.prog 36 #[.agg #[.float .f64 U1,.float .f64 E1,.float .f64 V1,.float .f64 E2,.float .f64 U2,.float .f64 E3,.float .f64 V2,.float .f64 E4],.float .f64 LW,.float .f64 RW] W fun r w'=>∃ h,r=.returned (.float .f64 (wd h))∧HdV T h∧Below W.heap.size W w'):=CHd
 clear CHd
 have hCEx:Hid (∀ W,Calls Tryz.prog 37 #[.agg #[.float .f64 U1,.float .f64 E1,.float .f64 V1,.float .f64 E2,.float .f64 U2,.float .f64 E3,.float .f64 V2,.float .f64 E4]] W fun r w'=>r=.returned (.bool false)∧Below W.heap.size W w'):=CEx
 clear CEx
 have hHA:Hid (∀ h,HdV T h->(∀ W,Calls Tryz.prog 34 #[.float .f64 (wd h)] W fun e w'=>e=.returned (.float .f64 HG)∧w'=W)):=HA
 clear HA
 have hCT:Hid (∀ W,Calls Tryz.prog 38 #[.agg #[.float .f64 U1,.float .f64 E1,.float .f64 V1,.float .f64 E2,.float .f64 U2,.float .f64 E3,.float .f64 V2,.float .f64 E4]] W fun r w'=>r=.returned (.float .f64 TW)∧Below W.heap.size W w'):=CT
 clear CT
 have hHS:Hid (∀ h,HdV T h->(∀ W,(binOp .add 50 (.float .f64 (wd h)) (.float .f64 TW)).run Tryz.prog W=.ok (.float .f64 (wd (fsum h tl))) W)):=HS
 clear HS
 have hHB:Hid (∀ h,HdV T h->(∀ W,Calls Tryz.prog 34 #[.float .f64 (wd (fsum h tl))] W fun e w'=>e=.returned (.float .f64 DB)∧w'=W)):=HB
 clear HB
 have hCAl:Hid (∀ W,Hold4 W->Calls Tryz.prog 39 #[.agg #[.float .f64 U1,.float .f64 E1,.float .f64 V1,.float .f64 E2,.float .f64 U2,.float .f64 E3,.float .f64 V2,.float .f64 E4]] W fun r w'=>r=.returned (.float .f64 ZW)∧Below W.heap.size W w'):=CAl
 clear CAl
 have hCC:Hid (∀ W,Calls Tryz.prog 40 #[.float .f64 ZW,.float .f64 0] W fun r w'=>r=.returned (.int .i64 sgn)∧w'=W):=CC
 clear CC
 have hst:∀ p x m w,(store p (.float .f64 x) m).run Tryz.prog w=stored Tryz.prog w p (.float .f64 x) m:=fun p x m w=>run_store _ w p _ m rfl
 have HK0:=H
 obtain ⟨hb0,a_k,b_k,c_k,r_k,f_k,hsz0⟩:=blks5 w (.cells #[.int .i64 ax,.int .i64 ay] 23) (.cells #[.int .i64 bx,.int .i64 by'] 23) (.cells #[.int .i64 cx,.int .i64 cy] 23) (.cells #[.int .i64 0,.int .i64 0] 42) (.cells #[.float .f64 0,.float .f64 0,.float .f64 0,.float .f64 0,.float .f64 0,.float .f64 0,.float .f64 0,.float .f64 0] 70)
 clear hsz0
 go_enter Tryz.func22,Tryz.ntmps22
 go_wp2
 refine wp_scope_jumps 0 (fun a' w'=>Below w.heap.size w w'∧w'.heap[w.heap.size + 1 + 1 + 1]?=some (.cells #[.int .i64 0,.int .i64 0] 42 (0,0))∧oJc w.heap.size sgn 4 a') (fun _ _=>0) rfl ?_ ?_
 ·go_wp2_with fail
  generalize ((((w.alloc (.cells #[.int .i64 ax,.int .i64 ay] 23)).alloc (.cells #[.int .i64 bx,.int .i64 by'] 23)).alloc (.cells #[.int .i64 cx,.int .i64 cy] 23)).alloc (.cells #[.int .i64 0,.int .i64 0] 42)).alloc (.cells #[.float .f64 0,.float .f64 0,.float .f64 0,.float .f64 0,.float .f64 0,.float .f64 0,.float .f64 0,.float .f64 0] 70)=x0 at hb0 a_k b_k c_k r_k f_k ⊢
  have f_a0:=blkC a_k 0 rfl
  have f_a1:=blkC a_k 1 rfl
  have f_b0:=blkC b_k 0 rfl
  have f_b1:=blkC b_k 1 rfl
  have f_c0:=blkC c_k 0 rfl
  have f_c1:=blkC c_k 1 rfl
  go_quiet (first | (go_at_call 32; with_reducible exact Calls.quiet_of_same (hF1.out _)) | (go_at_call 32; with_reducible exact Calls.quiet_of_same (hF2.out _)) | (go_at_call 32; with_reducible exact Calls.quiet_of_same (hF3.out _)) | (go_at_call 32; with_reducible exact Calls.quiet_of_same (hF4.out _)) | (go_at_call 32; with_reducible exact Calls.quiet_of_same (hF5.out _)) | (go_at_call 32; with_reducible exact Calls.quiet_of_same (hF6.out _)))
  go_wp2_with fail
  clear f_a0 f_a1 f_b0 f_b1 f_c0 f_c1
  have hd:=bDrewN (bel_refl x0) nq
  replace a_k:=blk_on hd a_k
  replace b_k:=blk_on hd b_k
  replace c_k:=blk_on hd c_k
  replace r_k:=blk_on hd r_k
  replace f_k:=blk_on hd f_k
  replace hb0:=bel_trans hb0 hd
  replace H:=H.keeps hb0
  generalize x0.drewN nq=x1 at hb0 H a_k b_k c_k r_k f_k ⊢
  clear hd
  refine (hA1.out _).mono ?_
  rintro _ wz ⟨rfl,hwz⟩
  replace hwz:=hwz.symm
  subst hwz
  go_wp2_with fail
  refine (hA2.out _).mono ?_
  rintro _ wz ⟨rfl,hwz⟩
  replace hwz:=hwz.symm
  subst hwz
  go_wp2_with fail
  refine (hA3.out _).mono ?_
  rintro _ wz ⟨rfl,hwz⟩
  replace hwz:=hwz.symm
  subst hwz
  have f_a0:=blkC a_k 0 rfl
  have f_a1:=blkC a_k 1 rfl
  have f_b0:=blkC b_k 0 rfl
  have f_b1:=blkC b_k 1 rfl
  have f_c0:=blkC c_k 0 rfl
  have f_c1:=blkC c_k 1 rfl
  go_wp2_with fail
  clear f_a0 f_a1 f_b0 f_b1 f_c0 f_c1
  refine (hCFr.out _ H).mono ?_
  rintro _ y1 ⟨rfl,hw1⟩
  replace r_k:=blk_on hw1 r_k
  replace f_k:=blk_on hw1 f_k
  replace hb0:=bel_trans hb0 hw1
  replace H:=H.keeps hw1
  have k0:=blkC f_k 0 rfl
  have k1:=blkC f_k 1 rfl
  have k2:=blkC f_k 2 rfl
  have k3:=blkC f_k 3 rfl
  have k4:=blkC f_k 4 rfl
  have k5:=blkC f_k 5 rfl
  have k6:=blkC f_k 6 rfl
  have k7:=blkC f_k 7 rfl
  have z0:=blkF f_k 0
  have z1:=blkF f_k 1
  have z2:=blkF f_k 2
  have z3:=blkF f_k 3
  have z4:=blkF f_k 4
  have z5:=blkF f_k 5
  have z6:=blkF f_k 6
  have z7:=blkF f_k 7
  have q8:=heap_set8 f_k (.float .f64 U1) (.float .f64 E1) (.float .f64 V1) (.float .f64 E2) (.float .f64 U2) (.float .f64 E3) (.float .f64 V2) (.float .f64 E4)
  have e0:=blkC q8 0 rfl
  have e1:=blkC q8 1 rfl
  have e2:=blkC q8 2 rfl
  have e3:=blkC q8 3 rfl
  have e4:=blkC q8 4 rfl
  have e5:=blkC q8 5 rfl
  have e6:=blkC q8 6 rfl
  have e7:=blkC q8 7 rfl
  have hb8:=((((((((hb0.setCell (p:=⟨w.heap.size + 1 + 1 + 1 + 1,0,none⟩) (show w.heap.size <= w.heap.size + 1 + 1 + 1 + 1 by omega) (.float .f64 U1)).setCell (p:=⟨w.heap.size + 1 + 1 + 1 + 1,1,none⟩) (show w.heap.size <= w.heap.size + 1 + 1 + 1 + 1 by omega) (.float .f64 E1)).setCell (p:=⟨w.heap.size + 1 + 1 + 1 + 1,2,none⟩) (show w.heap.size <= w.heap.size + 1 + 1 + 1 + 1 by omega) (.float .f64 V1)).setCell (p:=⟨w.heap.size + 1 + 1 + 1 + 1,3,none⟩) (show w.heap.size <= w.heap.size + 1 + 1 + 1 + 1 by omega) (.float .f64 E2)).setCell (p:=⟨w.heap.size + 1 + 1 + 1 + 1,4,none⟩) (show w.heap.size <= w.heap.size + 1 + 1 + 1 + 1 by omega) (.float .f64 U2)).setCell (p:=⟨w.heap.size + 1 + 1 + 1 + 1,5,none⟩) (show w.heap.size <= w.heap.size + 1 + 1 + 1 + 1 by omega) (.float .f64 E3)).setCell (p:=⟨w.heap.size + 1 + 1 + 1 + 1,6,none⟩) (show w.heap.size <= w.heap.size + 1 + 1 + 1 + 1 by omega) (.float .f64 V2)).setCell (p:=⟨w.heap.size + 1 + 1 + 1 + 1,7,none⟩) (show w.heap.size <= w.heap.size + 1 + 1 + 1 + 1 by omega) (.float .f64 E4))
  have H8:=HK0.keeps hb8
  have r8:=heap_other8 r_k (g:=w.heap.size + 1 + 1 + 1 + 1) (by omega) (.float .f64 U1) (.float .f64 E1) (.float .f64 V1) (.float .f64 E2) (.float .f64 U2) (.float .f64 E3) (.float .f64 V2) (.float .f64 E4)
  go_wp2_with fail
  clear k0 z0 k1 z1 k2 z2 k3 z3 k4 z4 k5 z5 k6 z6 k7 z7
  clear f_k r_k hb0 H e0 e1 e2 e3 e4 e5 e6 e7
  generalize ((((((((y1.setCell ⟨w.heap.size + 1 + 1 + 1 + 1,0,none⟩ (.float .f64 U1)).setCell ⟨w.heap.size + 1 + 1 + 1 + 1,1,none⟩ (.float .f64 E1)).setCell ⟨w.heap.size + 1 + 1 + 1 + 1,2,none⟩ (.float .f64 V1)).setCell ⟨w.heap.size + 1 + 1 + 1 + 1,3,none⟩ (.float .f64 E2)).setCell ⟨w.heap.size + 1 + 1 + 1 + 1,4,none⟩ (.float .f64 U2)).setCell ⟨w.heap.size + 1 + 1 + 1 + 1,5,none⟩ (.float .f64 E3)).setCell ⟨w.heap.size + 1 + 1 + 1 + 1,6,none⟩ (.float .f64 V2)).setCell ⟨w.heap.size + 1 + 1 + 1 + 1,7,none⟩ (.float .f64 E4))=x2 at q8 hb8 H8 r8 ⊢
  refine (hCHd.out _ H8).mono ?_
  rintro _ y2 ⟨h,rfl,hv,hw2⟩
  replace q8:=blk_on hw2 q8
  replace r8:=blk_on hw2 r8
  replace hb8:=bel_trans hb8 hw2
  replace H8:=H8.keeps hw2
  have HAh:Hid (∀ W,Calls Tryz.prog 34 #[.float .f64 (wd h)] W fun e w'=>e=.returned (.float .f64 HG)∧w'=W):=hHA.out h hv
  have HSh:=hHS.out h hv
  have HBh:Hid (∀ W,Calls Tryz.prog 34 #[.float .f64 (wd (fsum h tl))] W fun e w'=>e=.returned (.float .f64 DB)∧w'=W):=hHB.out h hv
  generalize wd (fsum h tl)=DH at *
  clear hv
  generalize wd h=HW at *
  have e0:=blkC q8 0 rfl
  have e1:=blkC q8 1 rfl
  have e2:=blkC q8 2 rfl
  have e3:=blkC q8 3 rfl
  have e4:=blkC q8 4 rfl
  have e5:=blkC q8 5 rfl
  have e6:=blkC q8 6 rfl
  have e7:=blkC q8 7 rfl
  go_wp2_with fail
  clear e0 e1 e2 e3 e4 e5 e6 e7
  refine (hCEx.out _).mono ?_
  rintro _ y3 ⟨rfl,hw3⟩
  replace q8:=blk_on hw3 q8
  replace r8:=blk_on hw3 r8
  replace hb8:=bel_trans hb8 hw3
  replace H8:=H8.keeps hw3
  go_wp2_with fail
  refine (HAh.out _).mono ?_
  rintro _ wz ⟨rfl,hwz⟩
  replace hwz:=hwz.symm
  subst hwz
  have e0:=blkC q8 0 rfl
  have e1:=blkC q8 1 rfl
  have e2:=blkC q8 2 rfl
  have e3:=blkC q8 3 rfl
  have e4:=blkC q8 4 rfl
  have e5:=blkC q8 5 rfl
  have e6:=blkC q8 6 rfl
  have e7:=blkC q8 7 rfl
  go_wp2_with fail
  clear e0 e1 e2 e3 e4 e5 e6 e7
  refine (hCT.out _).mono ?_
  rintro _ y4 ⟨rfl,hw4⟩
  replace q8:=blk_on hw4 q8
  replace r8:=blk_on hw4 r8
  replace hb8:=bel_trans hb8 hw4
  replace H8:=H8.keeps hw4
  go_wp2_with fail
  refine (HBh.out _).mono ?_
  rintro _ wz ⟨rfl,hwz⟩
  replace hwz:=hwz.symm
  subst hwz
  go_wp2_with fail
  refine (HAh.out _).mono ?_
  rintro _ wz ⟨rfl,hwz⟩
  replace hwz:=hwz.symm
  subst hwz
  have e0:=blkC q8 0 rfl
  have e1:=blkC q8 1 rfl
  have e2:=blkC q8 2 rfl
  have e3:=blkC q8 3 rfl
  have e4:=blkC q8 4 rfl
  have e5:=blkC q8 5 rfl
  have e6:=blkC q8 6 rfl
  have e7:=blkC q8 7 rfl
  go_wp2_with fail
  clear e0 e1 e2 e3 e4 e5 e6 e7
  refine (hCAl.out _ H8).mono ?_
  rintro _ y5 ⟨rfl,hw5⟩
  replace r8:=blk_on hw5 r8
  replace hb8:=bel_trans hb8 hw5
  go_wp2_with fail
  go_step3
  simp only [Exit.then,Exit.jump]
  rename_i K9 hK9
  refine hK9 _ _ ?_
  have hr:=r8
  have hb:=hb8
  go_wp2_with fail
  refine (hCC.out _).mono ?_
  rintro _ wz ⟨rfl,hwz⟩
  replace hwz:=hwz.symm
  subst hwz
  have k0:=blkC hr 0 rfl
  have k1:=blkC hr 1 rfl
  have z0:=blkF hr 0
  have z1:=blkF hr 1
  have q:=heap_set (heap_set hr 0 (.int .i64 sgn)) 1 (.int .i64 4)
  have e0:=blkC q 0 rfl
  have e1:=blkC q 1 rfl
  go_wp2
  try simp only [Exit.jump]
  refine bodyPost_ret (v:=.agg #[.int .i64 sgn,.int .i64 4]) (by simp [results,Tryz.results22,go_sem,e0,e1]) rfl ⟨rfl,(hb.setCell (p:=⟨w.heap.size + 1 + 1 + 1,0,none⟩) (by show _ <= _ + 1 + 1 + 1; omega) _).setCell (p:=⟨w.heap.size + 1 + 1 + 1,1,none⟩) (by show _ <= _ + 1 + 1 + 1; omega) _⟩
 ·rintro a' w' ⟨hb,hr,X,hX,u,rfl⟩
  have HX:Hid (∀ W,Calls Tryz.prog 40 #[.float .f64 X,.float .f64 0] W fun r w'=>r=.returned (.int .i64 sgn)∧w'=W):=hX
  clear hX
  go_wp2_with fail
  refine (HX.out _).mono ?_
  rintro _ wz ⟨rfl,hwz⟩
  replace hwz:=hwz.symm
  subst hwz
  have k0:=blkC hr 0 rfl
  have k1:=blkC hr 1 rfl
  have z0:=blkF hr 0
  have z1:=blkF hr 1
  have q:=heap_set (heap_set hr 0 (.int .i64 sgn)) 1 (.int .i64 4)
  have e0:=blkC q 0 rfl
  have e1:=blkC q 1 rfl
  go_wp2
  simp only [Exit.jump]
  refine bodyPost_ret (v:=.agg #[.int .i64 sgn,.int .i64 4]) (by simp [results,Tryz.results22,go_sem,e0,e1]) rfl ⟨rfl,(hb.setCell (p:=⟨w.heap.size + 1 + 1 + 1,0,none⟩) (by show _ <= _ + 1 + 1 + 1; omega) _).setCell (p:=⟨w.heap.size + 1 + 1 + 1,1,none⟩) (by show _ <= _ + 1 + 1 + 1; omega) _⟩
theorem geO {d m:Int} (hd:rng d) (pd:pok d=true) (hm:rng m) (pm:pok m=true) :
  (key m <= rg d->FloatKind.f64.format.order (wd (rg d)) (wd m)=some .gt∨FloatKind.f64.format.order (wd (rg d)) (wd m)=some .eq)∧(¬ key m <= rg d->FloatKind.f64.format.order (wd (rg d)) (wd m)=some .lt):=by
 obtain ⟨q1,q2⟩:=q_rg hd
 have kR:key (rg d)=rg d:=q_key q2
 have pR:pok (rg d)=true:=by
  have h1:=pok_rg' hd
  have h2:=pok_rg' q1
  rw [rg_rg hd,<- h1] at h2
  rw [h2]; exact pd
 refine ⟨fun h=>?_,fun h=>q_lt q1 hm (q_fin pR) (q_fin pm) (by rw [kR]; omega)⟩
 rcases Int.lt_or_eq_of_le h with g | g
 ·exact .inl (q_gt q1 hm (q_fin pR) (q_fin pm) (by rw [kR]; exact g))
 ·exact .inr (q_eq q1 hm (q_fin pR) (q_fin pm) (by rw [kR]; exact g.symm))
theorem wd_oA:wd oA=4375247037990436868:=by decide
theorem wd_oB:wd oB=4372995238176751619:=by decide
theorem wd_oC:wd oC=4143874607134277636:=by decide
theorem wd_oK:wd oK=4375247037990436866:=by decide
set_option maxRecDepth 100000 in
set_option maxHeartbeats 1000000 in
theorem oTame_ok {ax ay bx by' cx cy:Int} (hax:Mz ax) (hay:Mz ay) (hbx:Mz bx) (hby:Mz by') (hcx:Mz cx) (hcy:Mz cy) (w:World) (H:Hold4 w) :
  Calls Tryz.prog 22 #[.agg #[.int .i64 ax,.int .i64 ay],.agg #[.int .i64 bx,.int .i64 by'],.agg #[.int .i64 cx,.int .i64 cy]] w fun r w'=>r=.returned (.agg #[.int .i64 (ord (oDet ax ay bx by' cx cy) 0),.int .i64 (oStT ax ay bx by' cx cy)])∧Below w.heap.size w w':=by
 have O:=oTm_of hax hay hbx hby hcx hcy
 have fw:∀ {x:Int},Mz x->FW x (wd x):=fun h=>FW.pat (q_fin h.2.1) h.1
 have s1:=fun W=>run_diffN (P:=Tryz.prog) 50 (fw hax) (fw hcx) (q_fin O.u1.p) W
 have s2:=fun W=>run_diffN (P:=Tryz.prog) 50 (fw hby) (fw hcy) (q_fin O.v2.p) W
 have s3:=fun W=>run_diffN (P:=Tryz.prog) 50 (fw hay) (fw hcy) (q_fin O.v1.p) W
 have s4:=fun W=>run_diffN (P:=Tryz.prog) 50 (fw hbx) (fw hcx) (q_fin O.u2.p) W
 have m1:=fun W=>run_prodN (P:=Tryz.prog) 50 (fx_fw O.u1) (fx_fw O.v2) (q_fin O.l.p) W
 have m2:=fun W=>run_prodN (P:=Tryz.prog) 50 (fx_fw O.v1) (fx_fw O.u2) (q_fin O.r.p) W
 have p1:=fun W=>run_sumN (P:=Tryz.prog) 50 (fx_fw O.l.abs.1) (fx_fw O.r.abs.1) (q_fin O.s.p) W
 have s5:=fun W=>run_diffN (P:=Tryz.prog) 50 (fx_fw O.l) (fx_fw O.r) (q_fin O.d.p) W
 have m3:=fun W=>run_prodN (P:=Tryz.prog) 50 (fx_fw fx_oA) (fx_fw O.s) (q_fin (fx_AS O.s).p) W
 have m4:=fun W=>run_prodN (P:=Tryz.prog) 50 (fx_fw fx_oB) (fx_fw O.s) (q_fin (fx_BS O.s).p) W
 have m5:=fun W=>run_prodN (P:=Tryz.prog) 50 (fx_fw fx_oC) (fx_fw O.s) (q_fin (fx_CS O.s).p) W
 have m6:=fun W=>run_prodN (P:=Tryz.prog) 50 (fx_fw fx_oK) (fx_fw O.h.abs.1) (q_fin (fx_KH O.h).p) W
 have p2:=fun W=>run_sumN (P:=Tryz.prog) 50 (fx_fw (fx_CS O.s)) (fx_fw (fx_KH O.h)) (q_fin (fx_E O.s O.h).p) W
 rw [wd_oA] at m3
 rw [wd_oB] at m4
 rw [wd_oC] at m5
 rw [wd_oK] at m6
 have A1:=fun W=>mathAbs O.l.r W
 have A2:=fun W=>mathAbs O.r.r W
 have A3:=fun W=>mathAbs O.d.r W
 have g1:=geO O.d.r O.d.p (fx_AS O.s).r (fx_AS O.s).p
 unfold oStT
 by_cases c1:key (fprod oA (oS ax ay bx by' cx cy)) <= rg (oD ax ay bx by' cx cy)
 ·rw [if_pos c1,oSt1 hax hay hbx hby hcx hcy c1]
  exact oTv1 (fun W=>bitsFloat _ W) (fun W=>bitsFloat _ W) (fun W=>bitsFloat _ W) (fun W=>bitsFloat _ W) (fun W=>bitsFloat _ W) (fun W=>bitsFloat _ W) s1 s2 m1 s3 s4 m2 A1 A2 p1 s5 A3 m3 (g1.1 c1) (fun W=>cmpFloat O.d.r O.d.p W) w H
 rw [if_neg c1]
 have CFr:∀ W,Hold4 W->Calls Tryz.prog 35 #[.agg #[.int .i64 ax,.int .i64 ay],.agg #[.int .i64 bx,.int .i64 by'],.agg #[.int .i64 cx,.int .i64 cy]] W _:=fun W h=>oFrame hax hay hbx hby hcx hcy W h
 have L1:=(hax.lost hcx).1
 have L2:=(hay.lost hcy).1
 have L3:=(hbx.lost hcx).1
 have L4:=(hby.lost hcy).1
 have CHd:∀ W,Hold4 W->Calls Tryz.prog 36 #[.agg #[.float .f64 (wd (fsum ax (neg cx))),.float .f64 (wd (sL ax (neg cx))),.float .f64 (wd (fsum ay (neg cy))),.float .f64 (wd (sL ay (neg cy))),.float .f64 (wd (fsum bx (neg cx))),.float .f64 (wd (sL bx (neg cx))),.float .f64 (wd (fsum by' (neg cy))),.float .f64 (wd (sL by' (neg cy)))],.float .f64 (wd (oL ax ay bx by' cx cy)),.float .f64 (wd (oR ax ay bx by' cx cy))] W fun r w'=>∃ h,r=.returned (.float .f64 (wd h))∧HdV (oHT ax ay bx by' cx cy) h∧Below W.heap.size W w':=fun W h=>by
  rcases Int.lt_trichotomy (key (oL ax ay bx by' cx cy)) (key (oR ax ay bx by' cx cy)) with g | g | g
  ·exact oHeads_ne _ _ _ _ O.u1 O.v1 O.u2 O.v2 (.inl (q_lt O.l.r O.r.r (q_fin O.l.p) (q_fin O.r.p) g)) W h
  ·have i1:=iV_le O.l.r O.r.r (Int.le_of_eq g)
   have i2:=iV_le O.r.r O.l.r (Int.le_of_eq g.symm)
   exact oHeads_eq _ _ _ _ O.u1 O.v1 O.u2 O.v2 (q_eq O.l.r O.r.r (q_fin O.l.p) (q_fin O.r.p) g) (Int.le_antisymm i1 i2) W h
  ·exact oHeads_ne _ _ _ _ O.u1 O.v1 O.u2 O.v2 (.inr (q_gt O.l.r O.r.r (q_fin O.l.p) (q_fin O.r.p) g)) W h
 have CX:∀ W,Calls Tryz.prog 37 #[.agg #[.float .f64 (wd (fsum ax (neg cx))),.float .f64 (wd (sL ax (neg cx))),.float .f64 (wd (fsum ay (neg cy))),.float .f64 (wd (sL ay (neg cy))),.float .f64 (wd (fsum bx (neg cx))),.float .f64 (wd (sL bx (neg cx))),.float .f64 (wd (fsum by' (neg cy))),.float .f64 (wd (sL by' (neg cy)))]] W fun r w'=>r=.returned (.bool (oX ax ay bx by' cx cy))∧Below W.heap.size W w':=fun W=>oExactF _ _ _ _ _ _ _ _ _ _ _ _ (nil_eq L1.r L1.p) (nil_eq L2.r L2.p) (nil_eq L3.r L3.p) (nil_eq L4.r L4.p) W
 by_cases c0:oX ax ay bx by' cx cy=true
 ·rw [c0] at CX
  rw [if_pos (.inl c0)]
  refine oTv2 (T:=oHT ax ay bx by' cx cy) (fun W=>bitsFloat _ W) (fun W=>bitsFloat _ W) (fun W=>bitsFloat _ W) (fun W=>bitsFloat _ W) (fun W=>bitsFloat _ W) (fun W=>bitsFloat _ W) s1 s2 m1 s3 s4 m2 A1 A2 p1 s5 A3 m3 (g1.2 c1) CFr CHd CX (fun h hv W=>?_) w H
  rw [oSt2 hax hay hbx hby hcx hcy hv (.inl c0)]
  exact cmpFloat hv.r hv.p W
 have c0':oX ax ay bx by' cx cy=false:=by cases q:oX ax ay bx by' cx cy <;> simp_all
 rw [c0'] at CX
 have HA:∀ h,HdV (oHT ax ay bx by' cx cy) h->∀ W,Calls Tryz.prog 34 #[.float .f64 (wd h)] W fun e w'=>e=.returned (.float .f64 (wd (rg (nrP (oHT ax ay bx by' cx cy)))))∧w'=W:=fun h hv W=>by
  rw [<- hv.g O.h]
  exact mathAbs hv.r W
 have g2:=geO O.h.r O.h.p (fx_BS O.s).r (fx_BS O.s).p
 by_cases c2:key (fprod oB (oS ax ay bx by' cx cy)) <= rg (nrP (oHT ax ay bx by' cx cy))
 ·rw [if_pos (.inr c2)]
  refine oTv3 (T:=oHT ax ay bx by' cx cy) (fun W=>bitsFloat _ W) (fun W=>bitsFloat _ W) (fun W=>bitsFloat _ W) (fun W=>bitsFloat _ W) (fun W=>bitsFloat _ W) (fun W=>bitsFloat _ W) s1 s2 m1 s3 s4 m2 A1 A2 p1 s5 A3 m3 (g1.2 c1) CFr CHd CX HA m4 (g2.1 c2) (fun h hv W=>?_) w H
  rw [oSt2 hax hay hbx hby hcx hcy hv (.inr (by rw [hv.g O.h]; exact c2))]
  exact cmpFloat hv.r hv.p W
 rw [if_neg (fun q=>q.elim c0 c2)]
 have CT:=fun W=>oTails O.u1 O.v1 O.u2 O.v2 L1 L2 L3 L4 W
 have fS:∀ {h:Int},HdV (oHT ax ay bx by' cx cy) h->Fx 670 1385 (fsum h (oTl ax ay bx by' cx cy)):=fun hv=>((hv.fx O.h).sum O.t (by decide)).1
 have HS:∀ h,HdV (oHT ax ay bx by' cx cy) h->∀ W,(binOp .add 50 (.float .f64 (wd h)) (.float .f64 (wd (oTl ax ay bx by' cx cy)))).run Tryz.prog W=.ok (.float .f64 (wd (fsum h (oTl ax ay bx by' cx cy)))) W:=fun h hv W=>run_sumN 50 (FW.pat (q_fin hv.p) hv.r) (fx_fw O.t) (q_fin (fS hv).p) W
 have HB:∀ h,HdV (oHT ax ay bx by' cx cy) h->∀ W,Calls Tryz.prog 34 #[.float .f64 (wd (fsum h (oTl ax ay bx by' cx cy)))] W fun e w'=>e=.returned (.float .f64 (wd (rg (fsum (nrP (oHT ax ay bx by' cx cy)) (oTl ax ay bx by' cx cy)))))∧w'=W:=fun h hv W=>by
  rw [<- hv.d O.h O.t]
  exact mathAbs (fS hv).r W
 have fd:=fS (HdV.self O.h)
 have g3:=geO fd.r fd.p (fx_E O.s O.h).r (fx_E O.s O.h).p
 by_cases c3:key (oE (oS ax ay bx by' cx cy) (nrP (oHT ax ay bx by' cx cy))) <= rg (fsum (nrP (oHT ax ay bx by' cx cy)) (oTl ax ay bx by' cx cy))
 ·rw [if_pos c3]
  refine oTv4 (T:=oHT ax ay bx by' cx cy) (tl:=oTl ax ay bx by' cx cy) (fun W=>bitsFloat _ W) (fun W=>bitsFloat _ W) (fun W=>bitsFloat _ W) (fun W=>bitsFloat _ W) (fun W=>bitsFloat _ W) (fun W=>bitsFloat _ W) s1 s2 m1 s3 s4 m2 A1 A2 p1 s5 A3 m3 (g1.2 c1) CFr CHd CX HA m4 (g2.2 c2) CT HS HB m5 m6 p2 (g3.1 c3) (fun h hv W=>?_) w H
  rw [oSt3 hax hay hbx hby hcx hcy hv c1 (by rw [hv.e _ O.h,hv.d O.h O.t]; exact c3)]
  exact cmpFloat (fS hv).r (fS hv).p W
 ·rw [if_neg c3]
  have z:=sgnF_facts (ord_tri (oDet ax ay bx by' cx cy))
  refine oTv5 (T:=oHT ax ay bx by' cx cy) (tl:=oTl ax ay bx by' cx cy) (fun W=>bitsFloat _ W) (fun W=>bitsFloat _ W) (fun W=>bitsFloat _ W) (fun W=>bitsFloat _ W) (fun W=>bitsFloat _ W) (fun W=>bitsFloat _ W) s1 s2 m1 s3 s4 m2 A1 A2 p1 s5 A3 m3 (g1.2 c1) CFr CHd CX HA m4 (g2.2 c2) CT HS HB m5 m6 p2 (g3.2 c3) (fun W h=>oAllF hax hay hbx hby hcx hcy W h) (fun W=>?_) w H
  have:=cmpFloat z.1 z.2.1 W
  rw [z.2.2] at this
  exact this
def FarV (ax ay bx by' cx cy dx dy V:Int):Prop:=∃ V1 V2,Dot2 (patV ax - patV bx) (patV ay - patV by') (patV ax - patV bx) (patV ay - patV by') V1∧Dot2 (patV cx - patV dx) (patV cy - patV dy) (patV cx - patV dx) (patV cy - patV dy) V2∧V=V1 - V2
theorem FarV.unique {ax ay bx by' cx cy dx dy V V':Int} (h:FarV ax ay bx by' cx cy dx dy V) (k:FarV ax ay bx by' cx cy dx dy V'):V=V':=by
 obtain ⟨a,b,h1,h2,rfl⟩:=h
 obtain ⟨c,d,k1,k2,rfl⟩:=k
 rw [h1.unique k1,h2.unique k2]
theorem subX {a b c d x y:Int} (s:Pin2 a b x) (t:Pin2 c d y):Hid (∀ W,Hold4 W->Calls Tryz.prog 43 #[.agg #[.int .i64 a,.int .i64 b],.agg #[.int .i64 c,.int .i64 d]] W fun e w'=>e=.returned (.tuple #[.agg #[.int .i64 (eLo (ePlus (eOf a) (eNeg (eOf d)))),.int .i64 (eHi (ePlus (eOf b) (eNeg (eOf c))))],.int .i64 0])∧Below W.heap.size W w')∧Okk (eLo (ePlus (eOf a) (eNeg (eOf d)))) (eHi (ePlus (eOf b) (eNeg (eOf c)))) (x - y):=by
 refine ⟨fun W h=>?_,((show x + -y=x - y from rfl) ▸ s.h.plus t.h.neg).okk⟩
 have:=spanSubE s.lo.1 s.hi.1 t.lo.1 t.hi.1 W h
 rw [s.v,t.v] at this
 exact this
def oqLo (a b c d:Int):Int:=tLo (gLo a b) (gHi a b) (gLo c d) (gHi c d)
def oqHi (a b c d:Int):Int:=tHi (gLo a b) (gHi a b) (gLo c d) (gHi c d)
def owLo (ax ay bx by' cx cy:Int):Int:=eLo (ePlus (eOf (oqLo ax cx by' cy)) (eNeg (eOf (oqHi ay cy bx cx))))
def owHi (ax ay bx by' cx cy:Int):Int:=eHi (ePlus (eOf (oqHi ax cx by' cy)) (eNeg (eOf (oqLo ay cy bx cx))))
theorem oq_okk {a b c d:Int} (ra:rng a) (rb:rng b) (rc:rng c) (rd:rng d) (pa:pok a=true) (pb:pok b=true) (pc:pok c=true) (pd:pok d=true):Okk (oqLo a b c d) (oqHi a b c d) (mulS (patV a - patV b) (patV c - patV d)) :=
 (mulX (okk_pin (gap_okk ra rb pa pb)) (okk_pin (gap_okk rc rd pc pd))).2
theorem ow_okk {ax ay bx by' cx cy:Int} (rax:rng ax) (ray:rng ay) (rbx:rng bx) (rby:rng by') (rcx:rng cx) (rcy:rng cy) (pax:pok ax=true) (pay:pok ay=true) (pbx:pok bx=true) (pby:pok by'=true) (pcx:pok cx=true) (pcy:pok cy=true):Okk (owLo ax ay bx by' cx cy) (owHi ax ay bx by' cx cy) (mulS (patV ax - patV cx) (patV by' - patV cy) - mulS (patV ay - patV cy) (patV bx - patV cx)) :=
 (subX (okk_pin (oq_okk rax rcx rby rcy pax pcx pby pcy)) (okk_pin (oq_okk ray rcy rbx rcx pay pcy pbx pcx))).2
theorem det_X {ax ay bx by' cx cy:Int} (rax:rng ax) (ray:rng ay) (rbx:rng bx) (rby:rng by') (rcx:rng cx) (rcy:rng cy) (pax:pok ax=true) (pay:pok ay=true) (pbx:pok bx=true) (pby:pok by'=true) (pcx:pok cx=true) (pcy:pok cy=true) :
  Det (patV ax - patV cx) (patV ay - patV cy) (patV bx - patV cx) (patV by' - patV cy) (oDet ax ay bx by' cx cy * pw (-2148)):=by
 rw [pat_dif rax rcx pax pcx,pat_dif ray rcy pay pcy,pat_dif rbx rcx pbx pcx,pat_dif rby rcy pby pcy]
 exact ⟨_,_,prod_scale _ _,prod_scale _ _,by unfold oDet; rw [Int.sub_mul]⟩
set_option maxRecDepth 100000 in
set_option maxHeartbeats 8000000 in
theorem oWild_ok {ax ay bx by' cx cy:Int} (rax:rng ax) (ray:rng ay) (rbx:rng bx) (rby:rng by') (rcx:rng cx) (rcy:rng cy) (pax:pok ax=true) (pay:pok ay=true) (pbx:pok bx=true) (pby:pok by'=true) (pcx:pok cx=true) (pcy:pok cy=true) (w:World) (H:Hold4 w) :
  Calls Tryz.prog 24 #[.agg #[.int .i64 ax,.int .i64 ay],.agg #[.int .i64 bx,.int .i64 by'],.agg #[.int .i64 cx,.int .i64 cy]] w fun r w'=>r=.returned (.agg #[.int .i64 (ord (oDet ax ay bx by' cx cy) 0),.int .i64 (if sgK (owLo ax ay bx by' cx cy) (owHi ax ay bx by' cx cy) then 5 else 6)])∧Below w.heap.size w w':=by
 have A1:Hid (∀ W,Hold4 W->Calls Tryz.prog 42 #[.int .i64 ax,.int .i64 cx] W fun r w'=>r=.returned (.agg #[.int .i64 (gLo ax cx),.int .i64 (gHi ax cx)])∧Below W.heap.size W w'):=fun W h=>apartSpan rax rcx pax pcx W h
 have A2:Hid (∀ W,Hold4 W->Calls Tryz.prog 42 #[.int .i64 by',.int .i64 cy] W fun r w'=>r=.returned (.agg #[.int .i64 (gLo by' cy),.int .i64 (gHi by' cy)])∧Below W.heap.size W w'):=fun W h=>apartSpan rby rcy pby pcy W h
 have A3:Hid (∀ W,Hold4 W->Calls Tryz.prog 42 #[.int .i64 ay,.int .i64 cy] W fun r w'=>r=.returned (.agg #[.int .i64 (gLo ay cy),.int .i64 (gHi ay cy)])∧Below W.heap.size W w'):=fun W h=>apartSpan ray rcy pay pcy W h
 have A4:Hid (∀ W,Hold4 W->Calls Tryz.prog 42 #[.int .i64 bx,.int .i64 cx] W fun r w'=>r=.returned (.agg #[.int .i64 (gLo bx cx),.int .i64 (gHi bx cx)])∧Below W.heap.size W w'):=fun W h=>apartSpan rbx rcx pbx pcx W h
 have M1:=(mulX (okk_pin (gap_okk rax rcx pax pcx)) (okk_pin (gap_okk rby rcy pby pcy))).1
 have M2:=(mulX (okk_pin (gap_okk ray rcy pay pcy)) (okk_pin (gap_okk rbx rcx pbx pcx))).1
 have S1:=(subX (okk_pin (oq_okk rax rcx rby rcy pax pcx pby pcy)) (okk_pin (oq_okk ray rcy rbx rcx pay pcy pbx pcx))).1
 have ok:=ow_okk rax ray rbx rby rcx rcy pax pay pbx pby pcx pcy
 have hD:=det_X rax ray rbx rby rcx rcy pax pay pbx pby pcx pcy
 have eV:mulS (patV ax - patV cx) (patV by' - patV cy) - mulS (patV ay - patV cy) (patV bx - patV cx)=oDet ax ay bx by' cx cy * pw (-2148):=by
  obtain ⟨C,D,h1,h2,h3⟩:=hD
  rw [h3,mulS_of h1,mulS_of h2]
 rw [eV] at ok
 have hso:=sgn_has ok
 rw [ord_mulP (pw_pos _)] at hso
 have CS:Hid (∀ W,Calls Tryz.prog 44 #[.agg #[.int .i64 (owLo ax ay bx by' cx cy),.int .i64 (owHi ax ay bx by' cx cy)]] W fun e w'=>e=.returned (.tuple #[.int .i64 (sgV (owLo ax ay bx by' cx cy) (owHi ax ay bx by' cx cy)),.bool (sgK (owLo ax ay bx by' cx cy) (owHi ax ay bx by' cx cy)),.int .i64 (errA (vld (owLo ax ay bx by' cx cy) (owHi ax ay bx by' cx cy)))])∧Below W.heap.size W w'):=fun W=>spanSignE ok.lo.1 ok.hi.1 W
 have HSO:Hid (sgK (owLo ax ay bx by' cx cy) (owHi ax ay bx by' cx cy)=true->sgV (owLo ax ay bx by' cx cy) (owHi ax ay bx by' cx cy)=ord (oDet ax ay bx by' cx cy) 0):=hso
 have CX:Hid (∀ W,Hold4 W->Calls Tryz.prog 46 #[.agg #[.int .i64 ax,.int .i64 ay],.agg #[.int .i64 bx,.int .i64 by'],.agg #[.int .i64 cx,.int .i64 cy]] W fun r w'=>∃ n_g n_o n_n n_c n_e,r=.returned (.agg #[.bool n_g,.slice n_o n_n n_c,.int .i64 n_e])∧(∀ W2,Below w'.heap.size w' W2->Calls Tryz.prog 45 #[.agg #[.bool n_g,.slice n_o n_n n_c,.int .i64 n_e]] W2 fun r2 w2=>r2=.returned (.tuple #[.int .i64 (ord (oDet ax ay bx by' cx cy) 0),.int .i64 0])∧Below W2.heap.size W2 w2)∧Below W.heap.size W w'):=fun W h=>by
  refine (oexact_any pax pay pbx pby pcx pcy W h).mono ?_
  rintro _ w3 ⟨v,V,rfl,hA,hV,hB⟩
  obtain ⟨n_g,n_o,n_n,n_c,n_e,rfl⟩:=dans_shape hA
  refine ⟨n_g,n_o,n_n,n_c,n_e,rfl,fun W4 h4=>?_,hA.below⟩
  have:=sign_D (hA.num.keeps h4) (hB.ok (by omega))
  rw [hV.unique hD,ord_mulP (pw_pos _)] at this
  exact this
 clear eV hso ok hD
 clear rax ray rbx rby rcx rcy pax pay pbx pby pcx pcy
 unfold owLo owHi at CS HSO ⊢
 unfold oqLo oqHi at *
 generalize ord (oDet ax ay bx by' cx cy) 0=sgn at *
 generalize sgV (eLo (ePlus (eOf (tLo (gLo ax cx) (gHi ax cx) (gLo by' cy) (gHi by' cy))) (eNeg (eOf (tHi (gLo ay cy) (gHi ay cy) (gLo bx cx) (gHi bx cx)))))) (eHi (ePlus (eOf (tHi (gLo ax cx) (gHi ax cx) (gLo by' cy) (gHi by' cy))) (eNeg (eOf (tLo (gLo ay cy) (gHi ay cy) (gLo bx cx) (gHi bx cx))))))=sgo at *
 generalize sgK (eLo (ePlus (eOf (tLo (gLo ax cx) (gHi ax cx) (gLo by' cy) (gHi by' cy))) (eNeg (eOf (tHi (gLo ay cy) (gHi ay cy) (gLo bx cx) (gHi bx cx)))))) (eHi (ePlus (eOf (tHi (gLo ax cx) (gHi ax cx) (gLo by' cy) (gHi by' cy))) (eNeg (eOf (tLo (gLo ay cy) (gHi ay cy) (gLo bx cx) (gHi bx cx))))))=kb at *
 generalize errA (vld (eLo (ePlus (eOf (tLo (gLo ax cx) (gHi ax cx) (gLo by' cy) (gHi by' cy))) (eNeg (eOf (tHi (gLo ay cy) (gHi ay cy) (gLo bx cx) (gHi bx cx)))))) (eHi (ePlus (eOf (tHi (gLo ax cx) (gHi ax cx) (gLo by' cy) (gHi by' cy))) (eNeg (eOf (tLo (gLo ay cy) (gHi ay cy) (gLo bx cx) (gHi bx cx)))))))=er0 at *
 generalize eLo (ePlus (eOf (tLo (gLo ax cx) (gHi ax cx) (gLo by' cy) (gHi by' cy))) (eNeg (eOf (tHi (gLo ay cy) (gHi ay cy) (gLo bx cx) (gHi bx cx)))))=lo at *
 generalize eHi (ePlus (eOf (tHi (gLo ax cx) (gHi ax cx) (gLo by' cy) (gHi by' cy))) (eNeg (eOf (tLo (gLo ay cy) (gHi ay cy) (gLo bx cx) (gHi bx cx)))))=hi at *
 generalize tLo (gLo ax cx) (gHi ax cx) (gLo by' cy) (gHi by' cy)=l0 at *
 generalize tHi (gLo ax cx) (gHi ax cx) (gLo by' cy) (gHi by' cy)=l1 at *
 generalize tLo (gLo ay cy) (gHi ay cy) (gLo bx cx) (gHi bx cx)=s0 at *
 generalize tHi (gLo ay cy) (gHi ay cy) (gLo bx cx) (gHi bx cx)=s1 at *
 generalize gLo ax cx=a1 at *
 generalize gHi ax cx=b1 at *
 generalize gLo by' cy=a2 at *
 generalize gHi by' cy=b2 at *
 generalize gLo ay cy=a3 at *
 generalize gHi ay cy=b3 at *
 generalize gLo bx cx=a4 at *
 generalize gHi bx cx=b4 at *
 have a_k:(w.alloc (.cells #[.int .i64 ax,.int .i64 ay] 23)).heap[w.heap.size]?=some (.cells #[.int .i64 ax,.int .i64 ay] 23):=heap_new (.cells #[.int .i64 ax,.int .i64 ay] 23) (by rfl)
 have hb0:=bel_alloc w (.cells #[.int .i64 ax,.int .i64 ay] 23)
 replace a_k:=heap_past (.cells #[.int .i64 bx,.int .i64 by'] 23) a_k
 have b_k:((w.alloc (.cells #[.int .i64 ax,.int .i64 ay] 23)).alloc (.cells #[.int .i64 bx,.int .i64 by'] 23)).heap[w.heap.size + 1]?=some (.cells #[.int .i64 bx,.int .i64 by'] 23):=heap_new (.cells #[.int .i64 bx,.int .i64 by'] 23) (by simp only [size_alloc])
 replace hb0:=bel_trans hb0 (bel_alloc (w.alloc (.cells #[.int .i64 ax,.int .i64 ay] 23)) (.cells #[.int .i64 bx,.int .i64 by'] 23))
 replace a_k:=heap_past (.cells #[.int .i64 cx,.int .i64 cy] 23) a_k
 replace b_k:=heap_past (.cells #[.int .i64 cx,.int .i64 cy] 23) b_k
 have c_k:(((w.alloc (.cells #[.int .i64 ax,.int .i64 ay] 23)).alloc (.cells #[.int .i64 bx,.int .i64 by'] 23)).alloc (.cells #[.int .i64 cx,.int .i64 cy] 23)).heap[w.heap.size + 1 + 1]?=some (.cells #[.int .i64 cx,.int .i64 cy] 23):=heap_new (.cells #[.int .i64 cx,.int .i64 cy] 23) (by simp only [size_alloc])
 replace hb0:=bel_trans hb0 (bel_alloc ((w.alloc (.cells #[.int .i64 ax,.int .i64 ay] 23)).alloc (.cells #[.int .i64 bx,.int .i64 by'] 23)) (.cells #[.int .i64 cx,.int .i64 cy] 23))
 replace a_k:=heap_past (.cells #[.int .i64 0,.int .i64 0] 42) a_k
 replace b_k:=heap_past (.cells #[.int .i64 0,.int .i64 0] 42) b_k
 replace c_k:=heap_past (.cells #[.int .i64 0,.int .i64 0] 42) c_k
 have r_k:((((w.alloc (.cells #[.int .i64 ax,.int .i64 ay] 23)).alloc (.cells #[.int .i64 bx,.int .i64 by'] 23)).alloc (.cells #[.int .i64 cx,.int .i64 cy] 23)).alloc (.cells #[.int .i64 0,.int .i64 0] 42)).heap[w.heap.size + 1 + 1 + 1]?=some (.cells #[.int .i64 0,.int .i64 0] 42):=heap_new (.cells #[.int .i64 0,.int .i64 0] 42) (by simp only [size_alloc])
 replace hb0:=bel_trans hb0 (bel_alloc (((w.alloc (.cells #[.int .i64 ax,.int .i64 ay] 23)).alloc (.cells #[.int .i64 bx,.int .i64 by'] 23)).alloc (.cells #[.int .i64 cx,.int .i64 cy] 23)) (.cells #[.int .i64 0,.int .i64 0] 42))
 go_enter Tryz.func24,Tryz.ntmps24
 go_wp2_with fail
 rename_i Q0 K00 hK00
 generalize ((((w.alloc (.cells #[.int .i64 ax,.int .i64 ay] 23)).alloc (.cells #[.int .i64 bx,.int .i64 by'] 23)).alloc (.cells #[.int .i64 cx,.int .i64 cy] 23)).alloc (.cells #[.int .i64 0,.int .i64 0] 42))=x0 at hb0 a_k b_k c_k r_k ⊢
 have H:=H.keeps hb0
 have hK1:=hK00
 have HN1:∀ (g:Nat) (x1:World) (t:Array Value),#[t.getD 0 undef,t.getD 1 undef,t.getD 2 undef,.pointer (some ⟨w.heap.size,0,none⟩),.pointer (some ⟨w.heap.size + 1,0,none⟩),.pointer (some ⟨w.heap.size + 1 + 1,0,none⟩),.pointer (some ⟨w.heap.size + 1 + 1 + 1,0,none⟩),.pointer (some ⟨g,0,none⟩),t.getD 8 undef,t.getD 9 undef,t.getD 10 undef,t.getD 11 undef,t.getD 12 undef,t.getD 13 undef,t.getD 14 undef,t.getD 15 undef,t.getD 16 undef,t.getD 17 undef,t.getD 18 undef,t.getD 19 undef,t.getD 20 undef,t.getD 21 undef,t.getD 22 undef,t.getD 23 undef,t.getD 24 undef,t.getD 25 undef,t.getD 26 undef,t.getD 27 undef,t.getD 28 undef,t.getD 29 undef,t.getD 30 undef,t.getD 31 undef,t.getD 32 undef,t.getD 33 undef,t.getD 34 undef,t.getD 35 undef,t.getD 36 undef,t.getD 37 undef,t.getD 38 undef,t.getD 39 undef,t.getD 40 undef,t.getD 41 undef,t.getD 42 undef,t.getD 43 undef,t.getD 44 undef,t.getD 45 undef,t.getD 46 undef,t.getD 47 undef,t.getD 48 undef,t.getD 49 undef,t.getD 50 undef,t.getD 51 undef,t.getD 52 undef,t.getD 53 undef,t.getD 54 undef,t.getD 55 undef,t.getD 56 undef,t.getD 57 undef,t.getD 58 undef,t.getD 59 undef,t.getD 60 undef,t.getD 61 undef,t.getD 62 undef,t.getD 63 undef,t.getD 64 undef,t.getD 65 undef,t.getD 66 undef,t.getD 67 undef,t.getD 68 undef,t.getD 69 undef,t.getD 70 undef]=t->x0.heap.size <= g->x1.heap[g]?=some (.cells #[.int .i64 l0,.int .i64 l1] 77 (0,0))->Below x0.heap.size x0 x1->Exit.then K00 Q0 Exit.normal { tmps:=t,defers:=[] } x1:=by
  intro g_l x1 t ht l_ge l_k hw1
  obtain ⟨u1,hu⟩:∃ u:Nat->Value,t=#[u 0,u 1,u 2,.pointer (some ⟨w.heap.size,0,none⟩),.pointer (some ⟨w.heap.size + 1,0,none⟩),.pointer (some ⟨w.heap.size + 1 + 1,0,none⟩),.pointer (some ⟨w.heap.size + 1 + 1 + 1,0,none⟩),.pointer (some ⟨g_l,0,none⟩),u 8,u 9,u 10,u 11,u 12,u 13,u 14,u 15,u 16,u 17,u 18,u 19,u 20,u 21,u 22,u 23,u 24,u 25,u 26,u 27,u 28,u 29,u 30,u 31,u 32,u 33,u 34,u 35,u 36,u 37,u 38,u 39,u 40,u 41,u 42,u 43,u 44,u 45,u 46,u 47,u 48,u 49,u 50,u 51,u 52,u 53,u 54,u 55,u 56,u 57,u 58,u 59,u 60,u 61,u 62,u 63,u 64,u 65,u 66,u 67,u 68,u 69,u 70]:=⟨fun k=>t.getD k undef,ht.symm⟩
  clear ht
  subst hu
  have H:=H.keeps hw1
  have a_k:=(hw1.block _ (Array.getElem?_eq_some_iff.1 a_k).1).trans a_k
  have b_k:=(hw1.block _ (Array.getElem?_eq_some_iff.1 b_k).1).trans b_k
  have c_k:=(hw1.block _ (Array.getElem?_eq_some_iff.1 c_k).1).trans c_k
  have r_k:=(hw1.block _ (Array.getElem?_eq_some_iff.1 r_k).1).trans r_k
  have hb1:=bel_trans hb0 hw1
  go_wp2_with fail
  rename_i K2 hK2
  have HN2:∀ (g:Nat) (x2:World) (t:Array Value),#[t.getD 0 undef,t.getD 1 undef,t.getD 2 undef,.pointer (some ⟨w.heap.size,0,none⟩),.pointer (some ⟨w.heap.size + 1,0,none⟩),.pointer (some ⟨w.heap.size + 1 + 1,0,none⟩),.pointer (some ⟨w.heap.size + 1 + 1 + 1,0,none⟩),.pointer (some ⟨g_l,0,none⟩),t.getD 8 undef,.pointer (some ⟨g,0,none⟩),t.getD 10 undef,t.getD 11 undef,t.getD 12 undef,t.getD 13 undef,t.getD 14 undef,t.getD 15 undef,t.getD 16 undef,t.getD 17 undef,t.getD 18 undef,t.getD 19 undef,t.getD 20 undef,t.getD 21 undef,t.getD 22 undef,t.getD 23 undef,t.getD 24 undef,t.getD 25 undef,t.getD 26 undef,t.getD 27 undef,t.getD 28 undef,t.getD 29 undef,t.getD 30 undef,t.getD 31 undef,t.getD 32 undef,t.getD 33 undef,t.getD 34 undef,t.getD 35 undef,t.getD 36 undef,t.getD 37 undef,t.getD 38 undef,t.getD 39 undef,t.getD 40 undef,t.getD 41 undef,t.getD 42 undef,t.getD 43 undef,t.getD 44 undef,t.getD 45 undef,t.getD 46 undef,t.getD 47 undef,t.getD 48 undef,t.getD 49 undef,t.getD 50 undef,t.getD 51 undef,t.getD 52 undef,t.getD 53 undef,t.getD 54 undef,t.getD 55 undef,t.getD 56 undef,t.getD 57 undef,t.getD 58 undef,t.getD 59 undef,t.getD 60 undef,t.getD 61 undef,t.getD 62 undef,t.getD 63 undef,t.getD 64 undef,t.getD 65 undef,t.getD 66 undef,t.getD 67 undef,t.getD 68 undef,t.getD 69 undef,t.getD 70 undef]=t->x1.heap.size <= g->x2.heap[g]?=some (.cells #[.int .i64 s0,.int .i64 s1] 77 (0,0))->Below x1.heap.size x1 x2->Exit.then K2 Q0 Exit.normal { tmps:=t,defers:=[] } x2:=by
   intro g_s x2 t ht s_ge s_k hw2
   obtain ⟨u2,hu⟩:∃ u:Nat->Value,t=#[u 0,u 1,u 2,.pointer (some ⟨w.heap.size,0,none⟩),.pointer (some ⟨w.heap.size + 1,0,none⟩),.pointer (some ⟨w.heap.size + 1 + 1,0,none⟩),.pointer (some ⟨w.heap.size + 1 + 1 + 1,0,none⟩),.pointer (some ⟨g_l,0,none⟩),u 8,.pointer (some ⟨g_s,0,none⟩),u 10,u 11,u 12,u 13,u 14,u 15,u 16,u 17,u 18,u 19,u 20,u 21,u 22,u 23,u 24,u 25,u 26,u 27,u 28,u 29,u 30,u 31,u 32,u 33,u 34,u 35,u 36,u 37,u 38,u 39,u 40,u 41,u 42,u 43,u 44,u 45,u 46,u 47,u 48,u 49,u 50,u 51,u 52,u 53,u 54,u 55,u 56,u 57,u 58,u 59,u 60,u 61,u 62,u 63,u 64,u 65,u 66,u 67,u 68,u 69,u 70]:=⟨fun k=>t.getD k undef,ht.symm⟩
   clear ht
   subst hu
   have H:=H.keeps hw2
   have a_k:=(hw2.block _ (Array.getElem?_eq_some_iff.1 a_k).1).trans a_k
   have b_k:=(hw2.block _ (Array.getElem?_eq_some_iff.1 b_k).1).trans b_k
   have c_k:=(hw2.block _ (Array.getElem?_eq_some_iff.1 c_k).1).trans c_k
   have r_k:=(hw2.block _ (Array.getElem?_eq_some_iff.1 r_k).1).trans r_k
   have l_k:=(hw2.block _ (Array.getElem?_eq_some_iff.1 l_k).1).trans l_k
   have hb2:=bel_trans hb1 hw2
   have f_l0:=blkC l_k 0 rfl
   have f_l1:=blkC l_k 1 rfl
   have f_s0:=blkC s_k 0 rfl
   have f_s1:=blkC s_k 1 rfl
   go_wp2_with fail
   clear f_l0 f_l1 f_s0 f_s1
   refine (S1.out _ H).mono ?_
   rintro _ ye ⟨rfl,hwe⟩
   replace a_k:=heap_past (.cells #[.int .i64 lo,.int .i64 hi] 77) (blk_on hwe a_k)
   replace b_k:=heap_past (.cells #[.int .i64 lo,.int .i64 hi] 77) (blk_on hwe b_k)
   replace c_k:=heap_past (.cells #[.int .i64 lo,.int .i64 hi] 77) (blk_on hwe c_k)
   replace r_k:=heap_past (.cells #[.int .i64 lo,.int .i64 hi] 77) (blk_on hwe r_k)
   replace H:=(H.keeps hwe).keeps (bel_alloc ye (.cells #[.int .i64 lo,.int .i64 hi] 77))
   have hbe:=bel_trans (bel_trans hb2 hwe) (bel_alloc ye (.cells #[.int .i64 lo,.int .i64 hi] 77))
   go_wp2_with fail
   generalize ye.alloc (.cells #[.int .i64 lo,.int .i64 hi] 77)=xe at a_k b_k c_k r_k H hbe ⊢
   refine (CS.out _).mono ?_
   rintro _ yf ⟨rfl,hwf⟩
   replace a_k:=blk_on hwf a_k
   replace b_k:=blk_on hwf b_k
   replace c_k:=blk_on hwf c_k
   replace r_k:=blk_on hwf r_k
   replace hbe:=bel_trans hbe hwf
   replace H:=H.keeps hwf
   cases kb
   ·have f_a0:=blkC a_k 0 rfl
    have f_a1:=blkC a_k 1 rfl
    have f_b0:=blkC b_k 0 rfl
    have f_b1:=blkC b_k 1 rfl
    have f_c0:=blkC c_k 0 rfl
    have f_c1:=blkC c_k 1 rfl
    go_wp2_with fail
    clear f_a0 f_a1 f_b0 f_b1 f_c0 f_c1
    refine (CX.out _ H).mono ?_
    rintro _ yg ⟨n_g,n_o,n_n,n_c,n_e,rfl,CG,hwg⟩
    replace r_k:=blk_on hwg r_k
    replace hbe:=bel_trans hbe hwg
    go_wp2_with fail
    refine (CG _ (bel_refl _)).mono ?_
    rintro _ yh ⟨rfl,hwh⟩
    replace r_k:=blk_on hwh r_k
    replace hbe:=bel_trans hbe hwh
    have k0:=blkC r_k 0 rfl
    have k1:=blkC r_k 1 rfl
    have z0:=blkF r_k 0
    have z1:=blkF r_k 1
    go_wp2
    exact bodyPost_ret (v:=.agg #[.int .i64 sgn,.int .i64 6]) (by simp [results,Tryz.results24,go_sem,k0,k1]) rfl ⟨rfl,((hbe.setCell (p:=⟨w.heap.size + 3,0,none⟩) (show w.heap.size <= w.heap.size + 3 by omega) _).setCell (p:=⟨w.heap.size + 3,1,none⟩) (show w.heap.size <= w.heap.size + 3 by omega) _)⟩
   ·obtain rfl:=HSO.out rfl
    have k0:=blkC r_k 0 rfl
    have k1:=blkC r_k 1 rfl
    have z0:=blkF r_k 0
    have z1:=blkF r_k 1
    go_wp2
    exact bodyPost_ret (v:=.agg #[.int .i64 sgo,.int .i64 5]) (by simp [results,Tryz.results24,go_sem,k0,k1]) rfl ⟨rfl,((hbe.setCell (p:=⟨w.heap.size + 3,0,none⟩) (show w.heap.size <= w.heap.size + 3 by omega) _).setCell (p:=⟨w.heap.size + 3,1,none⟩) (show w.heap.size <= w.heap.size + 3 by omega) _)⟩
  have KK2:∀ W,Below x1.heap.size x1 W->W.cell? ⟨w.heap.size,1,none⟩=some (.int .i64 ay)∧W.cell? ⟨w.heap.size + 2,1,none⟩=some (.int .i64 cy)∧W.cell? ⟨w.heap.size + 1,0,none⟩=some (.int .i64 bx)∧W.cell? ⟨w.heap.size + 2,0,none⟩=some (.int .i64 cx):=fun W hb=>⟨q_cell (blkC a_k 1 rfl) hb,q_cell (blkC c_k 1 rfl) hb,q_cell (blkC b_k 0 rfl) hb,q_cell (blkC c_k 0 rfl) hb⟩
  have hC2_0:=(bel_refl x1).drew
  have hT2_0:Below w.heap.size w x1.drew:=hb1.drew
  have H_2_0:=H.keeps (bel_refl x1).drew
  have hs2_0:=(bel_refl x1).drew
  go_region_held3 (fun W=>W.cell? ⟨w.heap.size,1,none⟩=some (.int .i64 ay)∧W.cell? ⟨w.heap.size + 2,1,none⟩=some (.int .i64 cy)∧W.cell? ⟨w.heap.size + 1,0,none⟩=some (.int .i64 bx)∧W.cell? ⟨w.heap.size + 2,0,none⟩=some (.int .i64 cx))
   (with_reducible first | assumption | exact KK2 _ (bel_alloc _ _).drew | exact KK2 _ hC2_0 | exact KK2 _ hC2_1 | exact KK2 _ hC2_2 | exact KK2 _ hC2_3 | exact KK2 _ (bel_trans hC2_0 (bel_alloc _ _)) | exact KK2 _ (bel_trans hC2_1 (bel_alloc _ _)) | exact KK2 _ (bel_trans hC2_2 (bel_alloc _ _)) | exact KK2 _ (bel_trans hC2_3 (bel_alloc _ _)) | exact KK2 _ (bel_set2q (hC2_3) (Nat.le_refl _) _ _) | exact KK2 _ (bel_set2q (hC2_3) (hC2_1.size) _ _) | exact KK2 _ (bel_set2q (hC2_3) (hC2_2.size) _ _) | fail)
   (first
    | (go_at_call 41; have _t:=hs2_2; refine (M2.out _ (H_2_2.keeps (by with_reducible first | exact bel_refl _ | exact bel_alloc _ _ | exact bel_dr _ _))).mono ?_; rintro _ y2_3 ⟨rfl,hq2_3⟩; have hs2_3:Below y2_2.heap.size y2_2 y2_3:=(by with_reducible first | exact hq2_3 | exact bel_trans (bel_alloc _ _) hq2_3 | exact bel_trans (bel_dr _ _) hq2_3); have hT2_3:=bel_trans hT2_2 hs2_3; have hC2_3:=bel_trans hC2_2 hs2_3; have H_2_3:=H_2_2.keeps hs2_3; with_reducible first | (have qz2:y2_3.heap[x1.heap.size]?=some (.cells #[.int .i64 0,.int .i64 0] 77 (0,0)):=blk_on hq2_3 (blk_on hq2_2 (blk_on hq2_1 (heap_a1d x1 (.cells #[.int .i64 0,.int .i64 0] 77)))); have cz2_0:=blkC qz2 0 rfl; have zz2_0:=blkF qz2 0; have cz2_1:=blkC qz2 1 rfl; have zz2_1:=blkF qz2 1) | (have qz2:y2_3.heap[y2_1.heap.size]?=some (.cells #[.int .i64 0,.int .i64 0] 77 (0,0)):=blk_on hq2_3 (blk_on hq2_2 (heap_a1 _ _)); have cz2_0:=blkC qz2 0 rfl; have zz2_0:=blkF qz2 0; have cz2_1:=blkC qz2 1 rfl; have zz2_1:=blkF qz2 1) | (have qz2:y2_3.heap[y2_2.heap.size]?=some (.cells #[.int .i64 0,.int .i64 0] 77 (0,0)):=blk_on hq2_3 (heap_a1 _ _); have cz2_0:=blkC qz2 0 rfl; have zz2_0:=blkF qz2 0; have cz2_1:=blkC qz2 1 rfl; have zz2_1:=blkF qz2 1) | skip)
    | (go_at_call 42; have _t:=hs2_1; refine (A4.out _ (H_2_1.keeps (by with_reducible first | exact bel_refl _ | exact bel_alloc _ _ | exact bel_dr _ _))).mono ?_; rintro _ y2_2 ⟨rfl,hq2_2⟩; have hs2_2:Below y2_1.heap.size y2_1 y2_2:=(by with_reducible first | exact hq2_2 | exact bel_trans (bel_alloc _ _) hq2_2 | exact bel_trans (bel_dr _ _) hq2_2); have hT2_2:=bel_trans hT2_1 hs2_2; have hC2_2:=bel_trans hC2_1 hs2_2; have H_2_2:=H_2_1.keeps hs2_2)
    | (go_at_call 42; refine (A3.out _ (H_2_0.keeps (by with_reducible first | exact bel_refl _ | exact bel_alloc _ _ | exact bel_dr _ _))).mono ?_; rintro _ y2_1 ⟨rfl,hq2_1⟩; have hs2_1:Below x1.drew.heap.size x1.drew y2_1:=(by with_reducible first | exact hq2_1 | exact bel_trans (bel_alloc _ _) hq2_1 | exact bel_trans (bel_dr _ _) hq2_1); have hT2_1:=bel_trans hT2_0 hs2_1; have hC2_1:=bel_trans hC2_0 hs2_1; have H_2_1:=H_2_0.keeps hs2_1))
  ·exact HN2 y2_3.heap.size _ _ (by kernel_rfl) ((bel_trans (bel_trans (bel_trans (hs2_0) hs2_1) hs2_2) hs2_3).size) (heap_a1 _ _) (bel_trans (bel_trans (bel_trans (bel_trans (hs2_0) hs2_1) hs2_2) hs2_3) (bel_alloc _ _))
  ·exact HN2 y2_2.heap.size _ _ (by kernel_rfl) ((bel_trans (bel_trans (hs2_0) hs2_1) hs2_2).size) (heap_set (heap_set (blk_on hq2_3 (heap_a1 _ _)) 0 _) 1 _) (bel_set2q (bel_trans (bel_trans (bel_trans (hs2_0) hs2_1) hs2_2) hs2_3) ((bel_trans (bel_trans (hs2_0) hs2_1) hs2_2).size) _ _)
  ·exact HN2 y2_1.heap.size _ _ (by kernel_rfl) ((bel_trans (hs2_0) hs2_1).size) (heap_set (heap_set (blk_on hq2_3 (blk_on hq2_2 (heap_a1 _ _))) 0 _) 1 _) (bel_set2q (bel_trans (bel_trans (bel_trans (hs2_0) hs2_1) hs2_2) hs2_3) ((bel_trans (hs2_0) hs2_1).size) _ _)
  ·exact HN2 x1.heap.size _ _ (by kernel_rfl) (Nat.le_refl _) (heap_set (heap_set (blk_on hq2_3 (blk_on hq2_2 (blk_on hq2_1 (heap_a1d x1 (.cells #[.int .i64 0,.int .i64 0] 77))))) 0 _) 1 _) (bel_set2q (bel_trans (bel_trans (bel_trans (hs2_0) hs2_1) hs2_2) hs2_3) (Nat.le_refl _) _ _)
 have KK1:∀ W,Below x0.heap.size x0 W->W.cell? ⟨w.heap.size,0,none⟩=some (.int .i64 ax)∧W.cell? ⟨w.heap.size + 2,0,none⟩=some (.int .i64 cx)∧W.cell? ⟨w.heap.size + 1,1,none⟩=some (.int .i64 by')∧W.cell? ⟨w.heap.size + 2,1,none⟩=some (.int .i64 cy):=fun W hb=>⟨q_cell (blkC a_k 0 rfl) hb,q_cell (blkC c_k 0 rfl) hb,q_cell (blkC b_k 1 rfl) hb,q_cell (blkC c_k 1 rfl) hb⟩
 have hC1_0:=(bel_refl x0).drew
 have hT1_0:Below w.heap.size w x0.drew:=hb0.drew
 have H_1_0:=H.keeps (bel_refl x0).drew
 have hs1_0:=(bel_refl x0).drew
 go_region_held3 (fun W=>W.cell? ⟨w.heap.size,0,none⟩=some (.int .i64 ax)∧W.cell? ⟨w.heap.size + 2,0,none⟩=some (.int .i64 cx)∧W.cell? ⟨w.heap.size + 1,1,none⟩=some (.int .i64 by')∧W.cell? ⟨w.heap.size + 2,1,none⟩=some (.int .i64 cy))
  (with_reducible first | assumption | exact KK1 _ (bel_alloc _ _).drew | exact KK1 _ hC1_0 | exact KK1 _ hC1_1 | exact KK1 _ hC1_2 | exact KK1 _ hC1_3 | exact KK1 _ (bel_trans hC1_0 (bel_alloc _ _)) | exact KK1 _ (bel_trans hC1_1 (bel_alloc _ _)) | exact KK1 _ (bel_trans hC1_2 (bel_alloc _ _)) | exact KK1 _ (bel_trans hC1_3 (bel_alloc _ _)) | exact KK1 _ (bel_set2q (hC1_3) (Nat.le_refl _) _ _) | exact KK1 _ (bel_set2q (hC1_3) (hC1_1.size) _ _) | exact KK1 _ (bel_set2q (hC1_3) (hC1_2.size) _ _) | fail)
  (first
   | (go_at_call 41; have _t:=hs1_2; refine (M1.out _ (H_1_2.keeps (by with_reducible first | exact bel_refl _ | exact bel_alloc _ _ | exact bel_dr _ _))).mono ?_; rintro _ y1_3 ⟨rfl,hq1_3⟩; have hs1_3:Below y1_2.heap.size y1_2 y1_3:=(by with_reducible first | exact hq1_3 | exact bel_trans (bel_alloc _ _) hq1_3 | exact bel_trans (bel_dr _ _) hq1_3); have hT1_3:=bel_trans hT1_2 hs1_3; have hC1_3:=bel_trans hC1_2 hs1_3; have H_1_3:=H_1_2.keeps hs1_3; with_reducible first | (have qz1:y1_3.heap[x0.heap.size]?=some (.cells #[.int .i64 0,.int .i64 0] 77 (0,0)):=blk_on hq1_3 (blk_on hq1_2 (blk_on hq1_1 (heap_a1d x0 (.cells #[.int .i64 0,.int .i64 0] 77)))); have cz1_0:=blkC qz1 0 rfl; have zz1_0:=blkF qz1 0; have cz1_1:=blkC qz1 1 rfl; have zz1_1:=blkF qz1 1) | (have qz1:y1_3.heap[y1_1.heap.size]?=some (.cells #[.int .i64 0,.int .i64 0] 77 (0,0)):=blk_on hq1_3 (blk_on hq1_2 (heap_a1 _ _)); have cz1_0:=blkC qz1 0 rfl; have zz1_0:=blkF qz1 0; have cz1_1:=blkC qz1 1 rfl; have zz1_1:=blkF qz1 1) | (have qz1:y1_3.heap[y1_2.heap.size]?=some (.cells #[.int .i64 0,.int .i64 0] 77 (0,0)):=blk_on hq1_3 (heap_a1 _ _); have cz1_0:=blkC qz1 0 rfl; have zz1_0:=blkF qz1 0; have cz1_1:=blkC qz1 1 rfl; have zz1_1:=blkF qz1 1) | skip)
   | (go_at_call 42; have _t:=hs1_1; refine (A2.out _ (H_1_1.keeps (by with_reducible first | exact bel_refl _ | exact bel_alloc _ _ | exact bel_dr _ _))).mono ?_; rintro _ y1_2 ⟨rfl,hq1_2⟩; have hs1_2:Below y1_1.heap.size y1_1 y1_2:=(by with_reducible first | exact hq1_2 | exact bel_trans (bel_alloc _ _) hq1_2 | exact bel_trans (bel_dr _ _) hq1_2); have hT1_2:=bel_trans hT1_1 hs1_2; have hC1_2:=bel_trans hC1_1 hs1_2; have H_1_2:=H_1_1.keeps hs1_2)
   | (go_at_call 42; refine (A1.out _ (H_1_0.keeps (by with_reducible first | exact bel_refl _ | exact bel_alloc _ _ | exact bel_dr _ _))).mono ?_; rintro _ y1_1 ⟨rfl,hq1_1⟩; have hs1_1:Below x0.drew.heap.size x0.drew y1_1:=(by with_reducible first | exact hq1_1 | exact bel_trans (bel_alloc _ _) hq1_1 | exact bel_trans (bel_dr _ _) hq1_1); have hT1_1:=bel_trans hT1_0 hs1_1; have hC1_1:=bel_trans hC1_0 hs1_1; have H_1_1:=H_1_0.keeps hs1_1))
 ·exact HN1 y1_3.heap.size _ _ (by kernel_rfl) ((bel_trans (bel_trans (bel_trans (hs1_0) hs1_1) hs1_2) hs1_3).size) (heap_a1 _ _) (bel_trans (bel_trans (bel_trans (bel_trans (hs1_0) hs1_1) hs1_2) hs1_3) (bel_alloc _ _))
 ·exact HN1 y1_2.heap.size _ _ (by kernel_rfl) ((bel_trans (bel_trans (hs1_0) hs1_1) hs1_2).size) (heap_set (heap_set (blk_on hq1_3 (heap_a1 _ _)) 0 _) 1 _) (bel_set2q (bel_trans (bel_trans (bel_trans (hs1_0) hs1_1) hs1_2) hs1_3) ((bel_trans (bel_trans (hs1_0) hs1_1) hs1_2).size) _ _)
 ·exact HN1 y1_1.heap.size _ _ (by kernel_rfl) ((bel_trans (hs1_0) hs1_1).size) (heap_set (heap_set (blk_on hq1_3 (blk_on hq1_2 (heap_a1 _ _))) 0 _) 1 _) (bel_set2q (bel_trans (bel_trans (bel_trans (hs1_0) hs1_1) hs1_2) hs1_3) ((bel_trans (hs1_0) hs1_1).size) _ _)
 ·exact HN1 x0.heap.size _ _ (by kernel_rfl) (Nat.le_refl _) (heap_set (heap_set (blk_on hq1_3 (blk_on hq1_2 (blk_on hq1_1 (heap_a1d x0 (.cells #[.int .i64 0,.int .i64 0] 77))))) 0 _) 1 _) (bel_set2q (bel_trans (bel_trans (bel_trans (hs1_0) hs1_1) hs1_2) hs1_3) (Nat.le_refl _) _ _)
end Go.Proofs.YtinccocmgkjalaaGreatDoor
