/-
  Parts of the proof, one behind another.
-/
import Derived.Test.YtafnigjehkpggaaGreatDoorPart27
import Derived.ScopeJumps
import Derived.Test.YtafnigjehkpggaaGreatDoorPart28
import Derived.Test.YtafnigjehkpggaaGreatDoorPart25
import Derived.Test.YtafnigjehkpggaaGreatDoorPart21
namespace Go.Proofs.YtafnigjehkpggaaGreatDoor
open Go Go.RowKit Go.Proofs.YtafnigjehkpggaaGreatDoor.M
set_option linter.unusedSimpArgs false
set_option linter.unusedVariables false
set_option maxRecDepth 100000 in
set_option maxHeartbeats 8000000 in
theorem oTv5 {ax ay bx by' cx cy T tl sgn:Int} {AX AY BX BY CX CY U1 V1 U2 V2 E1 E2 E3 E4 LW RW LA RA SW DW DA AS HG BS TW DB CS KH EW ZW:Nat}
    (F1:(∀ W,Calls Tryz.prog 26 #[.int .i64 ax] W fun e w'=>e=.returned (.float .f64 AX)∧w'=W))
    (F2:(∀ W,Calls Tryz.prog 26 #[.int .i64 ay] W fun e w'=>e=.returned (.float .f64 AY)∧w'=W))
    (F3:(∀ W,Calls Tryz.prog 26 #[.int .i64 bx] W fun e w'=>e=.returned (.float .f64 BX)∧w'=W))
    (F4:(∀ W,Calls Tryz.prog 26 #[.int .i64 by'] W fun e w'=>e=.returned (.float .f64 BY)∧w'=W))
    (F5:(∀ W,Calls Tryz.prog 26 #[.int .i64 cx] W fun e w'=>e=.returned (.float .f64 CX)∧w'=W))
    (F6:(∀ W,Calls Tryz.prog 26 #[.int .i64 cy] W fun e w'=>e=.returned (.float .f64 CY)∧w'=W))
    (s1:(∀ W,(binOp .sub 60 (.float .f64 AX) (.float .f64 CX)).run Tryz.prog W=.ok (.float .f64 U1) W))
    (s2:(∀ W,(binOp .sub 60 (.float .f64 BY) (.float .f64 CY)).run Tryz.prog W=.ok (.float .f64 V2) W))
    (m1:(∀ W,(binOp .mul 60 (.float .f64 U1) (.float .f64 V2)).run Tryz.prog W=.ok (.float .f64 LW) W))
    (s3:(∀ W,(binOp .sub 60 (.float .f64 AY) (.float .f64 CY)).run Tryz.prog W=.ok (.float .f64 V1) W))
    (s4:(∀ W,(binOp .sub 60 (.float .f64 BX) (.float .f64 CX)).run Tryz.prog W=.ok (.float .f64 U2) W))
    (m2:(∀ W,(binOp .mul 60 (.float .f64 V1) (.float .f64 U2)).run Tryz.prog W=.ok (.float .f64 RW) W))
    (A1:(∀ W,Calls Tryz.prog 27 #[.float .f64 LW] W fun e w'=>e=.returned (.float .f64 LA)∧w'=W))
    (A2:(∀ W,Calls Tryz.prog 27 #[.float .f64 RW] W fun e w'=>e=.returned (.float .f64 RA)∧w'=W))
    (p1:(∀ W,(binOp .add 60 (.float .f64 LA) (.float .f64 RA)).run Tryz.prog W=.ok (.float .f64 SW) W))
    (s5:(∀ W,(binOp .sub 60 (.float .f64 LW) (.float .f64 RW)).run Tryz.prog W=.ok (.float .f64 DW) W))
    (A3:(∀ W,Calls Tryz.prog 27 #[.float .f64 DW] W fun e w'=>e=.returned (.float .f64 DA)∧w'=W))
    (m3:(∀ W,(binOp .mul 60 (.float .f64 4375247037990436868) (.float .f64 SW)).run Tryz.prog W=.ok (.float .f64 AS) W))
    (o1:FloatKind.f64.format.order DA AS=some .lt)
    (CFr:(∀ W,Hold4 W->Calls Tryz.prog 28 #[.agg #[.int .i64 ax,.int .i64 ay],.agg #[.int .i64 bx,.int .i64 by'],.agg #[.int .i64 cx,.int .i64 cy]] W fun r w'=>r=.returned (.agg #[.float .f64 U1,.float .f64 E1,.float .f64 V1,.float .f64 E2,.float .f64 U2,.float .f64 E3,.float .f64 V2,.float .f64 E4])∧Below W.heap.size W w'))
    (CHd:(∀ W,Hold4 W->Calls Tryz.prog 29 #[.agg #[.float .f64 U1,.float .f64 E1,.float .f64 V1,.float .f64 E2,.float .f64 U2,.float .f64 E3,.float .f64 V2,.float .f64 E4],.float .f64 LW,.float .f64 RW] W fun r w'=>∃ h,r=.returned (.float .f64 (wd h))∧HdV T h∧Below W.heap.size W w'))
    (CEx:(∀ W,Calls Tryz.prog 30 #[.agg #[.float .f64 U1,.float .f64 E1,.float .f64 V1,.float .f64 E2,.float .f64 U2,.float .f64 E3,.float .f64 V2,.float .f64 E4]] W fun r w'=>r=.returned (.bool false)∧Below W.heap.size W w'))
    (HA:(∀ h,HdV T h->(∀ W,Calls Tryz.prog 27 #[.float .f64 (wd h)] W fun e w'=>e=.returned (.float .f64 HG)∧w'=W)))
    (m4:(∀ W,(binOp .mul 60 (.float .f64 4372995238176751619) (.float .f64 SW)).run Tryz.prog W=.ok (.float .f64 BS) W))
    (o2:FloatKind.f64.format.order HG BS=some .lt)
    (CT:(∀ W,Calls Tryz.prog 31 #[.agg #[.float .f64 U1,.float .f64 E1,.float .f64 V1,.float .f64 E2,.float .f64 U2,.float .f64 E3,.float .f64 V2,.float .f64 E4]] W fun r w'=>r=.returned (.float .f64 TW)∧Below W.heap.size W w'))
    (HS:(∀ h,HdV T h->(∀ W,(binOp .add 60 (.float .f64 (wd h)) (.float .f64 TW)).run Tryz.prog W=.ok (.float .f64 (wd (fsum h tl))) W)))
    (HB:(∀ h,HdV T h->(∀ W,Calls Tryz.prog 27 #[.float .f64 (wd (fsum h tl))] W fun e w'=>e=.returned (.float .f64 DB)∧w'=W)))
    (m5:(∀ W,(binOp .mul 60 (.float .f64 4143874607134277636) (.float .f64 SW)).run Tryz.prog W=.ok (.float .f64 CS) W))
    (m6:(∀ W,(binOp .mul 60 (.float .f64 4375247037990436866) (.float .f64 HG)).run Tryz.prog W=.ok (.float .f64 KH) W))
    (p2:(∀ W,(binOp .add 60 (.float .f64 CS) (.float .f64 KH)).run Tryz.prog W=.ok (.float .f64 EW) W))
    (o3:FloatKind.f64.format.order DB EW=some .lt)
    (CAl:(∀ W,Hold4 W->Calls Tryz.prog 32 #[.agg #[.float .f64 U1,.float .f64 E1,.float .f64 V1,.float .f64 E2,.float .f64 U2,.float .f64 E3,.float .f64 V2,.float .f64 E4]] W fun r w'=>r=.returned (.float .f64 ZW)∧Below W.heap.size W w'))
    (CC:(∀ W,Calls Tryz.prog 33 #[.float .f64 ZW,.float .f64 0] W fun r w'=>r=.returned (.int .i64 sgn)∧w'=W))
    (w:World) (H:Hold4 w) :
    Calls Tryz.prog 18 #[.agg #[.int .i64 ax,.int .i64 ay],.agg #[.int .i64 bx,.int .i64 by'],.agg #[.int .i64 cx,.int .i64 cy]] w fun r w'=>r=.returned (.agg #[.int .i64 sgn,.int .i64 4])∧Below w.heap.size w w':=by
  have hF1:Hid (∀ W,Calls Tryz.prog 26 #[.int .i64 ax] W fun e w'=>e=.returned (.float .f64 AX)∧w'=W):=F1
  clear F1
  have hF2:Hid (∀ W,Calls Tryz.prog 26 #[.int .i64 ay] W fun e w'=>e=.returned (.float .f64 AY)∧w'=W):=F2
  clear F2
  have hF3:Hid (∀ W,Calls Tryz.prog 26 #[.int .i64 bx] W fun e w'=>e=.returned (.float .f64 BX)∧w'=W):=F3
  clear F3
  have hF4:Hid (∀ W,Calls Tryz.prog 26 #[.int .i64 by'] W fun e w'=>e=.returned (.float .f64 BY)∧w'=W):=F4
  clear F4
  have hF5:Hid (∀ W,Calls Tryz.prog 26 #[.int .i64 cx] W fun e w'=>e=.returned (.float .f64 CX)∧w'=W):=F5
  clear F5
  have hF6:Hid (∀ W,Calls Tryz.prog 26 #[.int .i64 cy] W fun e w'=>e=.returned (.float .f64 CY)∧w'=W):=F6
  clear F6
  have hA1:Hid (∀ W,Calls Tryz.prog 27 #[.float .f64 LW] W fun e w'=>e=.returned (.float .f64 LA)∧w'=W):=A1
  clear A1
  have hA2:Hid (∀ W,Calls Tryz.prog 27 #[.float .f64 RW] W fun e w'=>e=.returned (.float .f64 RA)∧w'=W):=A2
  clear A2
  have hA3:Hid (∀ W,Calls Tryz.prog 27 #[.float .f64 DW] W fun e w'=>e=.returned (.float .f64 DA)∧w'=W):=A3
  clear A3
  have hCFr:Hid (∀ W,Hold4 W->Calls Tryz.prog 28 #[.agg #[.int .i64 ax,.int .i64 ay],.agg #[.int .i64 bx,.int .i64 by'],.agg #[.int .i64 cx,.int .i64 cy]] W fun r w'=>r=.returned (.agg #[.float .f64 U1,.float .f64 E1,.float .f64 V1,.float .f64 E2,.float .f64 U2,.float .f64 E3,.float .f64 V2,.float .f64 E4])∧Below W.heap.size W w'):=CFr
  clear CFr
  have hCHd:Hid (∀ W,Hold4 W->Calls Tryz.prog 29 #[.agg #[.float .f64 U1,.float .f64 E1,.float .f64 V1,.float .f64 E2,.float .f64 U2,.float .f64 E3,.float .f64 V2,.float .f64 E4],.float .f64 LW,.float .f64 RW] W fun r w'=>∃ h,r=.returned (.float .f64 (wd h))∧HdV T h∧Below W.heap.size W w'):=CHd
  clear CHd
  have hCEx:Hid (∀ W,Calls Tryz.prog 30 #[.agg #[.float .f64 U1,.float .f64 E1,.float .f64 V1,.float .f64 E2,.float .f64 U2,.float .f64 E3,.float .f64 V2,.float .f64 E4]] W fun r w'=>r=.returned (.bool false)∧Below W.heap.size W w'):=CEx
  clear CEx
  have hHA:Hid (∀ h,HdV T h->(∀ W,Calls Tryz.prog 27 #[.float .f64 (wd h)] W fun e w'=>e=.returned (.float .f64 HG)∧w'=W)):=HA
  clear HA
  have hCT:Hid (∀ W,Calls Tryz.prog 31 #[.agg #[.float .f64 U1,.float .f64 E1,.float .f64 V1,.float .f64 E2,.float .f64 U2,.float .f64 E3,.float .f64 V2,.float .f64 E4]] W fun r w'=>r=.returned (.float .f64 TW)∧Below W.heap.size W w'):=CT
  clear CT
  have hHS:Hid (∀ h,HdV T h->(∀ W,(binOp .add 60 (.float .f64 (wd h)) (.float .f64 TW)).run Tryz.prog W=.ok (.float .f64 (wd (fsum h tl))) W)):=HS
  clear HS
  have hHB:Hid (∀ h,HdV T h->(∀ W,Calls Tryz.prog 27 #[.float .f64 (wd (fsum h tl))] W fun e w'=>e=.returned (.float .f64 DB)∧w'=W)):=HB
  clear HB
  have hCAl:Hid (∀ W,Hold4 W->Calls Tryz.prog 32 #[.agg #[.float .f64 U1,.float .f64 E1,.float .f64 V1,.float .f64 E2,.float .f64 U2,.float .f64 E3,.float .f64 V2,.float .f64 E4]] W fun r w'=>r=.returned (.float .f64 ZW)∧Below W.heap.size W w'):=CAl
  clear CAl
  have hCC:Hid (∀ W,Calls Tryz.prog 33 #[.float .f64 ZW,.float .f64 0] W fun r w'=>r=.returned (.int .i64 sgn)∧w'=W):=CC
  clear CC
  have hst:∀ p x m w,(store p (.float .f64 x) m).run Tryz.prog w=stored Tryz.prog w p (.float .f64 x) m:=fun p x m w=>run_store _ w p _ m rfl
  have HK0:=H
  obtain ⟨hb0,a_k,b_k,c_k,r_k,f_k,hsz0⟩:=blks5 w (.cells #[.int .i64 ax,.int .i64 ay] 23) (.cells #[.int .i64 bx,.int .i64 by'] 23) (.cells #[.int .i64 cx,.int .i64 cy] 23) (.cells #[.int .i64 0,.int .i64 0] 26) (.cells #[.float .f64 0,.float .f64 0,.float .f64 0,.float .f64 0,.float .f64 0,.float .f64 0,.float .f64 0,.float .f64 0] 64)
  clear hsz0
  go_enter Tryz.func18,Tryz.ntmps18
  go_wp2
  refine wp_scope_jumps 0 (fun a' w'=>Below w.heap.size w w'∧w'.heap[w.heap.size + 1 + 1 + 1]?=some (.cells #[.int .i64 0,.int .i64 0] 26 (0,0))∧oJc w.heap.size sgn 4 a') (fun _ _=>0) rfl ?_ ?_
  . go_wp2_with fail
    generalize ((((w.alloc (.cells #[.int .i64 ax,.int .i64 ay] 23)).alloc (.cells #[.int .i64 bx,.int .i64 by'] 23)).alloc (.cells #[.int .i64 cx,.int .i64 cy] 23)).alloc (.cells #[.int .i64 0,.int .i64 0] 26)).alloc (.cells #[.float .f64 0,.float .f64 0,.float .f64 0,.float .f64 0,.float .f64 0,.float .f64 0,.float .f64 0,.float .f64 0] 64)=x0 at hb0 a_k b_k c_k r_k f_k ⊢
    have f_a0:=blkC a_k 0 rfl
    have f_a1:=blkC a_k 1 rfl
    have f_b0:=blkC b_k 0 rfl
    have f_b1:=blkC b_k 1 rfl
    have f_c0:=blkC c_k 0 rfl
    have f_c1:=blkC c_k 1 rfl
    go_quiet (first | (go_at_call 26; with_reducible exact Calls.quiet_of_same (hF1.out _)) | (go_at_call 26; with_reducible exact Calls.quiet_of_same (hF2.out _)) | (go_at_call 26; with_reducible exact Calls.quiet_of_same (hF3.out _)) | (go_at_call 26; with_reducible exact Calls.quiet_of_same (hF4.out _)) | (go_at_call 26; with_reducible exact Calls.quiet_of_same (hF5.out _)) | (go_at_call 26; with_reducible exact Calls.quiet_of_same (hF6.out _)))
    go_wp2_with fail
    clear f_a0 f_a1 f_b0 f_b1 f_c0 f_c1
    have hd:=bDrewN (bel_refl x0) nq
    replace a_k:=blk_on hd a_k
    replace b_k:=blk_on hd b_k
    replace c_k:=blk_on hd c_k
    replace r_k:=blk_on hd r_k
    replace f_k:=blk_on hd f_k
    replace hb0:=bel_trans hb0 hd
    replace H:=H.keeps hb0
    generalize x0.drewN nq=x1 at hb0 H a_k b_k c_k r_k f_k ⊢
    clear hd
    refine (hA1.out _).mono ?_
    rintro _ wz ⟨rfl,hwz⟩
    replace hwz:=hwz.symm
    subst hwz
    go_wp2_with fail
    refine (hA2.out _).mono ?_
    rintro _ wz ⟨rfl,hwz⟩
    replace hwz:=hwz.symm
    subst hwz
    go_wp2_with fail
    refine (hA3.out _).mono ?_
    rintro _ wz ⟨rfl,hwz⟩
    replace hwz:=hwz.symm
    subst hwz
    have f_a0:=blkC a_k 0 rfl
    have f_a1:=blkC a_k 1 rfl
    have f_b0:=blkC b_k 0 rfl
    have f_b1:=blkC b_k 1 rfl
    have f_c0:=blkC c_k 0 rfl
    have f_c1:=blkC c_k 1 rfl
    go_wp2_with fail
    clear f_a0 f_a1 f_b0 f_b1 f_c0 f_c1
    refine (hCFr.out _ H).mono ?_
    rintro _ y1 ⟨rfl,hw1⟩
    replace r_k:=blk_on hw1 r_k
    replace f_k:=blk_on hw1 f_k
    replace hb0:=bel_trans hb0 hw1
    replace H:=H.keeps hw1
    have k0:=blkC f_k 0 rfl
    have k1:=blkC f_k 1 rfl
    have k2:=blkC f_k 2 rfl
    have k3:=blkC f_k 3 rfl
    have k4:=blkC f_k 4 rfl
    have k5:=blkC f_k 5 rfl
    have k6:=blkC f_k 6 rfl
    have k7:=blkC f_k 7 rfl
    have z0:=blkF f_k 0
    have z1:=blkF f_k 1
    have z2:=blkF f_k 2
    have z3:=blkF f_k 3
    have z4:=blkF f_k 4
    have z5:=blkF f_k 5
    have z6:=blkF f_k 6
    have z7:=blkF f_k 7
    have q8:=heap_set8 f_k (.float .f64 U1) (.float .f64 E1) (.float .f64 V1) (.float .f64 E2) (.float .f64 U2) (.float .f64 E3) (.float .f64 V2) (.float .f64 E4)
    have e0:=blkC q8 0 rfl
    have e1:=blkC q8 1 rfl
    have e2:=blkC q8 2 rfl
    have e3:=blkC q8 3 rfl
    have e4:=blkC q8 4 rfl
    have e5:=blkC q8 5 rfl
    have e6:=blkC q8 6 rfl
    have e7:=blkC q8 7 rfl
    have hb8:=((((((((hb0.setCell (p:=⟨w.heap.size + 1 + 1 + 1 + 1,0,none⟩) (show w.heap.size <= w.heap.size + 1 + 1 + 1 + 1 by omega) (.float .f64 U1)).setCell (p:=⟨w.heap.size + 1 + 1 + 1 + 1,1,none⟩) (show w.heap.size <= w.heap.size + 1 + 1 + 1 + 1 by omega) (.float .f64 E1)).setCell (p:=⟨w.heap.size + 1 + 1 + 1 + 1,2,none⟩) (show w.heap.size <= w.heap.size + 1 + 1 + 1 + 1 by omega) (.float .f64 V1)).setCell (p:=⟨w.heap.size + 1 + 1 + 1 + 1,3,none⟩) (show w.heap.size <= w.heap.size + 1 + 1 + 1 + 1 by omega) (.float .f64 E2)).setCell (p:=⟨w.heap.size + 1 + 1 + 1 + 1,4,none⟩) (show w.heap.size <= w.heap.size + 1 + 1 + 1 + 1 by omega) (.float .f64 U2)).setCell (p:=⟨w.heap.size + 1 + 1 + 1 + 1,5,none⟩) (show w.heap.size <= w.heap.size + 1 + 1 + 1 + 1 by omega) (.float .f64 E3)).setCell (p:=⟨w.heap.size + 1 + 1 + 1 + 1,6,none⟩) (show w.heap.size <= w.heap.size + 1 + 1 + 1 + 1 by omega) (.float .f64 V2)).setCell (p:=⟨w.heap.size + 1 + 1 + 1 + 1,7,none⟩) (show w.heap.size <= w.heap.size + 1 + 1 + 1 + 1 by omega) (.float .f64 E4))
    have H8:=HK0.keeps hb8
    have r8:=heap_other8 r_k (g:=w.heap.size + 1 + 1 + 1 + 1) (by omega) (.float .f64 U1) (.float .f64 E1) (.float .f64 V1) (.float .f64 E2) (.float .f64 U2) (.float .f64 E3) (.float .f64 V2) (.float .f64 E4)
    go_wp2_with fail
    clear k0 z0 k1 z1 k2 z2 k3 z3 k4 z4 k5 z5 k6 z6 k7 z7
    clear f_k r_k hb0 H e0 e1 e2 e3 e4 e5 e6 e7
    generalize ((((((((y1.setCell ⟨w.heap.size + 1 + 1 + 1 + 1,0,none⟩ (.float .f64 U1)).setCell ⟨w.heap.size + 1 + 1 + 1 + 1,1,none⟩ (.float .f64 E1)).setCell ⟨w.heap.size + 1 + 1 + 1 + 1,2,none⟩ (.float .f64 V1)).setCell ⟨w.heap.size + 1 + 1 + 1 + 1,3,none⟩ (.float .f64 E2)).setCell ⟨w.heap.size + 1 + 1 + 1 + 1,4,none⟩ (.float .f64 U2)).setCell ⟨w.heap.size + 1 + 1 + 1 + 1,5,none⟩ (.float .f64 E3)).setCell ⟨w.heap.size + 1 + 1 + 1 + 1,6,none⟩ (.float .f64 V2)).setCell ⟨w.heap.size + 1 + 1 + 1 + 1,7,none⟩ (.float .f64 E4))=x2 at q8 hb8 H8 r8 ⊢
    refine (hCHd.out _ H8).mono ?_
    rintro _ y2 ⟨h,rfl,hv,hw2⟩
    replace q8:=blk_on hw2 q8
    replace r8:=blk_on hw2 r8
    replace hb8:=bel_trans hb8 hw2
    replace H8:=H8.keeps hw2
    have HAh:Hid (∀ W,Calls Tryz.prog 27 #[.float .f64 (wd h)] W fun e w'=>e=.returned (.float .f64 HG)∧w'=W):=hHA.out h hv
    have HSh:=hHS.out h hv
    have HBh:Hid (∀ W,Calls Tryz.prog 27 #[.float .f64 (wd (fsum h tl))] W fun e w'=>e=.returned (.float .f64 DB)∧w'=W):=hHB.out h hv
    generalize wd (fsum h tl)=DH at *
    clear hv
    generalize wd h=HW at *
    have e0:=blkC q8 0 rfl
    have e1:=blkC q8 1 rfl
    have e2:=blkC q8 2 rfl
    have e3:=blkC q8 3 rfl
    have e4:=blkC q8 4 rfl
    have e5:=blkC q8 5 rfl
    have e6:=blkC q8 6 rfl
    have e7:=blkC q8 7 rfl
    go_wp2_with fail
    clear e0 e1 e2 e3 e4 e5 e6 e7
    refine (hCEx.out _).mono ?_
    rintro _ y3 ⟨rfl,hw3⟩
    replace q8:=blk_on hw3 q8
    replace r8:=blk_on hw3 r8
    replace hb8:=bel_trans hb8 hw3
    replace H8:=H8.keeps hw3
    go_wp2_with fail
    refine (HAh.out _).mono ?_
    rintro _ wz ⟨rfl,hwz⟩
    replace hwz:=hwz.symm
    subst hwz
    have e0:=blkC q8 0 rfl
    have e1:=blkC q8 1 rfl
    have e2:=blkC q8 2 rfl
    have e3:=blkC q8 3 rfl
    have e4:=blkC q8 4 rfl
    have e5:=blkC q8 5 rfl
    have e6:=blkC q8 6 rfl
    have e7:=blkC q8 7 rfl
    go_wp2_with fail
    clear e0 e1 e2 e3 e4 e5 e6 e7
    refine (hCT.out _).mono ?_
    rintro _ y4 ⟨rfl,hw4⟩
    replace q8:=blk_on hw4 q8
    replace r8:=blk_on hw4 r8
    replace hb8:=bel_trans hb8 hw4
    replace H8:=H8.keeps hw4
    go_wp2_with fail
    refine (HBh.out _).mono ?_
    rintro _ wz ⟨rfl,hwz⟩
    replace hwz:=hwz.symm
    subst hwz
    go_wp2_with fail
    refine (HAh.out _).mono ?_
    rintro _ wz ⟨rfl,hwz⟩
    replace hwz:=hwz.symm
    subst hwz
    have e0:=blkC q8 0 rfl
    have e1:=blkC q8 1 rfl
    have e2:=blkC q8 2 rfl
    have e3:=blkC q8 3 rfl
    have e4:=blkC q8 4 rfl
    have e5:=blkC q8 5 rfl
    have e6:=blkC q8 6 rfl
    have e7:=blkC q8 7 rfl
    go_wp2_with fail
    clear e0 e1 e2 e3 e4 e5 e6 e7
    refine (hCAl.out _ H8).mono ?_
    rintro _ y5 ⟨rfl,hw5⟩
    replace r8:=blk_on hw5 r8
    replace hb8:=bel_trans hb8 hw5
    go_wp2_with fail
    go_step3
    simp only [Exit.then,Exit.jump]
    rename_i K9 hK9
    refine hK9 _ _ ?_
    have hr:=r8
    have hb:=hb8
    go_wp2_with fail
    refine (hCC.out _).mono ?_
    rintro _ wz ⟨rfl,hwz⟩
    replace hwz:=hwz.symm
    subst hwz
    have k0:=blkC hr 0 rfl
    have k1:=blkC hr 1 rfl
    have z0:=blkF hr 0
    have z1:=blkF hr 1
    have q:=heap_set (heap_set hr 0 (.int .i64 sgn)) 1 (.int .i64 4)
    have e0:=blkC q 0 rfl
    have e1:=blkC q 1 rfl
    go_wp2
    try simp only [Exit.jump]
    refine bodyPost_ret (v:=.agg #[.int .i64 sgn,.int .i64 4]) (by simp [results,Tryz.results18,go_sem,e0,e1]) rfl ⟨rfl,(hb.setCell (p:=⟨w.heap.size + 1 + 1 + 1,0,none⟩) (by show _ <= _ + 1 + 1 + 1; omega) _).setCell (p:=⟨w.heap.size + 1 + 1 + 1,1,none⟩) (by show _ <= _ + 1 + 1 + 1; omega) _⟩
  . rintro a' w' ⟨hb,hr,X,hX,u,rfl⟩
    have HX:Hid (∀ W,Calls Tryz.prog 33 #[.float .f64 X,.float .f64 0] W fun r w'=>r=.returned (.int .i64 sgn)∧w'=W):=hX
    clear hX
    go_wp2_with fail
    refine (HX.out _).mono ?_
    rintro _ wz ⟨rfl,hwz⟩
    replace hwz:=hwz.symm
    subst hwz
    have k0:=blkC hr 0 rfl
    have k1:=blkC hr 1 rfl
    have z0:=blkF hr 0
    have z1:=blkF hr 1
    have q:=heap_set (heap_set hr 0 (.int .i64 sgn)) 1 (.int .i64 4)
    have e0:=blkC q 0 rfl
    have e1:=blkC q 1 rfl
    go_wp2
    simp only [Exit.jump]
    refine bodyPost_ret (v:=.agg #[.int .i64 sgn,.int .i64 4]) (by simp [results,Tryz.results18,go_sem,e0,e1]) rfl ⟨rfl,(hb.setCell (p:=⟨w.heap.size + 1 + 1 + 1,0,none⟩) (by show _ <= _ + 1 + 1 + 1; omega) _).setCell (p:=⟨w.heap.size + 1 + 1 + 1,1,none⟩) (by show _ <= _ + 1 + 1 + 1; omega) _⟩
theorem geO {d m:Int} (hd:rng d) (pd:pok d=true) (hm:rng m) (pm:pok m=true) :
    (key m <= rg d->FloatKind.f64.format.order (wd (rg d)) (wd m)=some .gt∨FloatKind.f64.format.order (wd (rg d)) (wd m)=some .eq)∧(¬ key m <= rg d->FloatKind.f64.format.order (wd (rg d)) (wd m)=some .lt):=by
  obtain ⟨q1,q2⟩:=q_rg hd
  have kR:key (rg d)=rg d:=q_key q2
  have pR:pok (rg d)=true:=by
    have h1:=pok_rg' hd
    have h2:=pok_rg' q1
    rw [rg_rg hd,<- h1] at h2
    rw [h2]; exact pd
  refine ⟨fun h=>?_,fun h=>q_lt q1 hm (q_fin pR) (q_fin pm) (by rw [kR]; omega)⟩
  rcases Int.lt_or_eq_of_le h with g | g
  . exact .inl (q_gt q1 hm (q_fin pR) (q_fin pm) (by rw [kR]; exact g))
  . exact .inr (q_eq q1 hm (q_fin pR) (q_fin pm) (by rw [kR]; exact g.symm))
theorem wd_oA:wd oA=4375247037990436868:=by decide
theorem wd_oB:wd oB=4372995238176751619:=by decide
theorem wd_oC:wd oC=4143874607134277636:=by decide
theorem wd_oK:wd oK=4375247037990436866:=by decide
set_option maxRecDepth 100000 in
set_option maxHeartbeats 1000000 in
theorem oTame_ok {ax ay bx by' cx cy:Int} (hax:Mz ax) (hay:Mz ay) (hbx:Mz bx) (hby:Mz by') (hcx:Mz cx) (hcy:Mz cy) (w:World) (H:Hold4 w) :
    Calls Tryz.prog 18 #[.agg #[.int .i64 ax,.int .i64 ay],.agg #[.int .i64 bx,.int .i64 by'],.agg #[.int .i64 cx,.int .i64 cy]] w fun r w'=>r=.returned (.agg #[.int .i64 (ord (oDet ax ay bx by' cx cy) 0),.int .i64 (oStT ax ay bx by' cx cy)])∧Below w.heap.size w w':=by
  have O:=oTm_of hax hay hbx hby hcx hcy
  have fw:∀ {x:Int},Mz x->FW x (wd x):=fun h=>FW.pat (q_fin h.2.1) h.1
  have s1:=fun W=>run_diffN (P:=Tryz.prog) 60 (fw hax) (fw hcx) (q_fin O.u1.p) W
  have s2:=fun W=>run_diffN (P:=Tryz.prog) 60 (fw hby) (fw hcy) (q_fin O.v2.p) W
  have s3:=fun W=>run_diffN (P:=Tryz.prog) 60 (fw hay) (fw hcy) (q_fin O.v1.p) W
  have s4:=fun W=>run_diffN (P:=Tryz.prog) 60 (fw hbx) (fw hcx) (q_fin O.u2.p) W
  have m1:=fun W=>run_prodN (P:=Tryz.prog) 60 (fx_fw O.u1) (fx_fw O.v2) (q_fin O.l.p) W
  have m2:=fun W=>run_prodN (P:=Tryz.prog) 60 (fx_fw O.v1) (fx_fw O.u2) (q_fin O.r.p) W
  have p1:=fun W=>run_sumN (P:=Tryz.prog) 60 (fx_fw O.l.abs.1) (fx_fw O.r.abs.1) (q_fin O.s.p) W
  have s5:=fun W=>run_diffN (P:=Tryz.prog) 60 (fx_fw O.l) (fx_fw O.r) (q_fin O.d.p) W
  have m3:=fun W=>run_prodN (P:=Tryz.prog) 60 (fx_fw fx_oA) (fx_fw O.s) (q_fin (fx_AS O.s).p) W
  have m4:=fun W=>run_prodN (P:=Tryz.prog) 60 (fx_fw fx_oB) (fx_fw O.s) (q_fin (fx_BS O.s).p) W
  have m5:=fun W=>run_prodN (P:=Tryz.prog) 60 (fx_fw fx_oC) (fx_fw O.s) (q_fin (fx_CS O.s).p) W
  have m6:=fun W=>run_prodN (P:=Tryz.prog) 60 (fx_fw fx_oK) (fx_fw O.h.abs.1) (q_fin (fx_KH O.h).p) W
  have p2:=fun W=>run_sumN (P:=Tryz.prog) 60 (fx_fw (fx_CS O.s)) (fx_fw (fx_KH O.h)) (q_fin (fx_E O.s O.h).p) W
  rw [wd_oA] at m3
  rw [wd_oB] at m4
  rw [wd_oC] at m5
  rw [wd_oK] at m6
  have A1:=fun W=>mathAbs O.l.r W
  have A2:=fun W=>mathAbs O.r.r W
  have A3:=fun W=>mathAbs O.d.r W
  have g1:=geO O.d.r O.d.p (fx_AS O.s).r (fx_AS O.s).p
  unfold oStT
  by_cases c1:key (fprod oA (oS ax ay bx by' cx cy)) <= rg (oD ax ay bx by' cx cy)
  . rw [if_pos c1,oSt1 hax hay hbx hby hcx hcy c1]
    exact oTv1 (fun W=>bitsFloat _ W) (fun W=>bitsFloat _ W) (fun W=>bitsFloat _ W) (fun W=>bitsFloat _ W) (fun W=>bitsFloat _ W) (fun W=>bitsFloat _ W) s1 s2 m1 s3 s4 m2 A1 A2 p1 s5 A3 m3 (g1.1 c1) (fun W=>cmpFloat O.d.r O.d.p W) w H
  rw [if_neg c1]
  have CFr:∀ W,Hold4 W->Calls Tryz.prog 28 #[.agg #[.int .i64 ax,.int .i64 ay],.agg #[.int .i64 bx,.int .i64 by'],.agg #[.int .i64 cx,.int .i64 cy]] W _:=fun W h=>oFrame hax hay hbx hby hcx hcy W h
  have L1:=(hax.lost hcx).1
  have L2:=(hay.lost hcy).1
  have L3:=(hbx.lost hcx).1
  have L4:=(hby.lost hcy).1
  have CHd:∀ W,Hold4 W->Calls Tryz.prog 29 #[.agg #[.float .f64 (wd (fsum ax (neg cx))),.float .f64 (wd (sL ax (neg cx))),.float .f64 (wd (fsum ay (neg cy))),.float .f64 (wd (sL ay (neg cy))),.float .f64 (wd (fsum bx (neg cx))),.float .f64 (wd (sL bx (neg cx))),.float .f64 (wd (fsum by' (neg cy))),.float .f64 (wd (sL by' (neg cy)))],.float .f64 (wd (oL ax ay bx by' cx cy)),.float .f64 (wd (oR ax ay bx by' cx cy))] W fun r w'=>∃ h,r=.returned (.float .f64 (wd h))∧HdV (oHT ax ay bx by' cx cy) h∧Below W.heap.size W w':=fun W h=>by
    rcases Int.lt_trichotomy (key (oL ax ay bx by' cx cy)) (key (oR ax ay bx by' cx cy)) with g | g | g
    . exact oHeads_ne _ _ _ _ O.u1 O.v1 O.u2 O.v2 (.inl (q_lt O.l.r O.r.r (q_fin O.l.p) (q_fin O.r.p) g)) W h
    . have i1:=iV_le O.l.r O.r.r (Int.le_of_eq g)
      have i2:=iV_le O.r.r O.l.r (Int.le_of_eq g.symm)
      exact oHeads_eq _ _ _ _ O.u1 O.v1 O.u2 O.v2 (q_eq O.l.r O.r.r (q_fin O.l.p) (q_fin O.r.p) g) (Int.le_antisymm i1 i2) W h
    . exact oHeads_ne _ _ _ _ O.u1 O.v1 O.u2 O.v2 (.inr (q_gt O.l.r O.r.r (q_fin O.l.p) (q_fin O.r.p) g)) W h
  have CX:∀ W,Calls Tryz.prog 30 #[.agg #[.float .f64 (wd (fsum ax (neg cx))),.float .f64 (wd (sL ax (neg cx))),.float .f64 (wd (fsum ay (neg cy))),.float .f64 (wd (sL ay (neg cy))),.float .f64 (wd (fsum bx (neg cx))),.float .f64 (wd (sL bx (neg cx))),.float .f64 (wd (fsum by' (neg cy))),.float .f64 (wd (sL by' (neg cy)))]] W fun r w'=>r=.returned (.bool (oX ax ay bx by' cx cy))∧Below W.heap.size W w':=fun W=>oExactF _ _ _ _ _ _ _ _ _ _ _ _ (nil_eq L1.r L1.p) (nil_eq L2.r L2.p) (nil_eq L3.r L3.p) (nil_eq L4.r L4.p) W
  by_cases c0:oX ax ay bx by' cx cy=true
  . rw [c0] at CX
    rw [if_pos (.inl c0)]
    refine oTv2 (T:=oHT ax ay bx by' cx cy) (fun W=>bitsFloat _ W) (fun W=>bitsFloat _ W) (fun W=>bitsFloat _ W) (fun W=>bitsFloat _ W) (fun W=>bitsFloat _ W) (fun W=>bitsFloat _ W) s1 s2 m1 s3 s4 m2 A1 A2 p1 s5 A3 m3 (g1.2 c1) CFr CHd CX (fun h hv W=>?_) w H
    rw [oSt2 hax hay hbx hby hcx hcy hv (.inl c0)]
    exact cmpFloat hv.r hv.p W
  have c0':oX ax ay bx by' cx cy=false:=by cases q:oX ax ay bx by' cx cy <;> simp_all
  rw [c0'] at CX
  have HA:∀ h,HdV (oHT ax ay bx by' cx cy) h->∀ W,Calls Tryz.prog 27 #[.float .f64 (wd h)] W fun e w'=>e=.returned (.float .f64 (wd (rg (nrP (oHT ax ay bx by' cx cy)))))∧w'=W:=fun h hv W=>by
    rw [<- hv.g O.h]
    exact mathAbs hv.r W
  have g2:=geO O.h.r O.h.p (fx_BS O.s).r (fx_BS O.s).p
  by_cases c2:key (fprod oB (oS ax ay bx by' cx cy)) <= rg (nrP (oHT ax ay bx by' cx cy))
  . rw [if_pos (.inr c2)]
    refine oTv3 (T:=oHT ax ay bx by' cx cy) (fun W=>bitsFloat _ W) (fun W=>bitsFloat _ W) (fun W=>bitsFloat _ W) (fun W=>bitsFloat _ W) (fun W=>bitsFloat _ W) (fun W=>bitsFloat _ W) s1 s2 m1 s3 s4 m2 A1 A2 p1 s5 A3 m3 (g1.2 c1) CFr CHd CX HA m4 (g2.1 c2) (fun h hv W=>?_) w H
    rw [oSt2 hax hay hbx hby hcx hcy hv (.inr (by rw [hv.g O.h]; exact c2))]
    exact cmpFloat hv.r hv.p W
  rw [if_neg (fun q=>q.elim c0 c2)]
  have CT:=fun W=>oTails O.u1 O.v1 O.u2 O.v2 L1 L2 L3 L4 W
  have fS:∀ {h:Int},HdV (oHT ax ay bx by' cx cy) h->Fx 670 1385 (fsum h (oTl ax ay bx by' cx cy)):=fun hv=>((hv.fx O.h).sum O.t (by decide)).1
  have HS:∀ h,HdV (oHT ax ay bx by' cx cy) h->∀ W,(binOp .add 60 (.float .f64 (wd h)) (.float .f64 (wd (oTl ax ay bx by' cx cy)))).run Tryz.prog W=.ok (.float .f64 (wd (fsum h (oTl ax ay bx by' cx cy)))) W:=fun h hv W=>run_sumN 60 (FW.pat (q_fin hv.p) hv.r) (fx_fw O.t) (q_fin (fS hv).p) W
  have HB:∀ h,HdV (oHT ax ay bx by' cx cy) h->∀ W,Calls Tryz.prog 27 #[.float .f64 (wd (fsum h (oTl ax ay bx by' cx cy)))] W fun e w'=>e=.returned (.float .f64 (wd (rg (fsum (nrP (oHT ax ay bx by' cx cy)) (oTl ax ay bx by' cx cy)))))∧w'=W:=fun h hv W=>by
    rw [<- hv.d O.h O.t]
    exact mathAbs (fS hv).r W
  have fd:=fS (HdV.self O.h)
  have g3:=geO fd.r fd.p (fx_E O.s O.h).r (fx_E O.s O.h).p
  by_cases c3:key (oE (oS ax ay bx by' cx cy) (nrP (oHT ax ay bx by' cx cy))) <= rg (fsum (nrP (oHT ax ay bx by' cx cy)) (oTl ax ay bx by' cx cy))
  . rw [if_pos c3]
    refine oTv4 (T:=oHT ax ay bx by' cx cy) (tl:=oTl ax ay bx by' cx cy) (fun W=>bitsFloat _ W) (fun W=>bitsFloat _ W) (fun W=>bitsFloat _ W) (fun W=>bitsFloat _ W) (fun W=>bitsFloat _ W) (fun W=>bitsFloat _ W) s1 s2 m1 s3 s4 m2 A1 A2 p1 s5 A3 m3 (g1.2 c1) CFr CHd CX HA m4 (g2.2 c2) CT HS HB m5 m6 p2 (g3.1 c3) (fun h hv W=>?_) w H
    rw [oSt3 hax hay hbx hby hcx hcy hv c1 (by rw [hv.e _ O.h,hv.d O.h O.t]; exact c3)]
    exact cmpFloat (fS hv).r (fS hv).p W
  . rw [if_neg c3]
    have z:=sgnF_facts (ord_tri (oDet ax ay bx by' cx cy))
    refine oTv5 (T:=oHT ax ay bx by' cx cy) (tl:=oTl ax ay bx by' cx cy) (fun W=>bitsFloat _ W) (fun W=>bitsFloat _ W) (fun W=>bitsFloat _ W) (fun W=>bitsFloat _ W) (fun W=>bitsFloat _ W) (fun W=>bitsFloat _ W) s1 s2 m1 s3 s4 m2 A1 A2 p1 s5 A3 m3 (g1.2 c1) CFr CHd CX HA m4 (g2.2 c2) CT HS HB m5 m6 p2 (g3.2 c3) (fun W h=>oAllF hax hay hbx hby hcx hcy W h) (fun W=>?_) w H
    have:=cmpFloat z.1 z.2.1 W
    rw [z.2.2] at this
    exact this
def FarV (ax ay bx by' cx cy dx dy V:Int):Prop:=∃ V1 V2,Dot2 (patV ax - patV bx) (patV ay - patV by') (patV ax - patV bx) (patV ay - patV by') V1∧Dot2 (patV cx - patV dx) (patV cy - patV dy) (patV cx - patV dx) (patV cy - patV dy) V2∧V=V1 - V2
theorem FarV.unique {ax ay bx by' cx cy dx dy V V':Int} (h:FarV ax ay bx by' cx cy dx dy V) (k:FarV ax ay bx by' cx cy dx dy V'):V=V':=by
  obtain ⟨a,b,h1,h2,rfl⟩:=h
  obtain ⟨c,d,k1,k2,rfl⟩:=k
  rw [h1.unique k1,h2.unique k2]
theorem subX {a b c d x y:Int} (s:Pin2 a b x) (t:Pin2 c d y):Hid (∀ W,Hold4 W->Calls Tryz.prog 37 #[.agg #[.int .i64 a,.int .i64 b],.agg #[.int .i64 c,.int .i64 d]] W fun e w'=>e=.returned (.tuple #[.agg #[.int .i64 (eLo (ePlus (eOf a) (eNeg (eOf d)))),.int .i64 (eHi (ePlus (eOf b) (eNeg (eOf c))))],.int .i64 0])∧Below W.heap.size W w')∧Okk (eLo (ePlus (eOf a) (eNeg (eOf d)))) (eHi (ePlus (eOf b) (eNeg (eOf c)))) (x - y):=by
  refine ⟨fun W h=>?_,((show x + -y=x - y from rfl) ▸ s.h.plus t.h.neg).okk⟩
  have:=spanSubE s.lo.1 s.hi.1 t.lo.1 t.hi.1 W h
  rw [s.v,t.v] at this
  exact this
end Go.Proofs.YtafnigjehkpggaaGreatDoor
