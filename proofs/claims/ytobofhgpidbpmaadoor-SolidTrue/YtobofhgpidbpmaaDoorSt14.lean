/- Parts of the proof. -/
import Derived.Test.YtobofhgpidbpmaaDoorSt13
import Derived.Test.YtobofhgpidbpmaaDoorSt10
set_option linter.unusedVariables false
set_option linter.unusedSimpArgs false
namespace Go.Proofs.YtobofhgpidbpmaaDoor
open Go Go.RowKit Go.Proofs.YtobofhgpidbpmaaDoor.M
theorem soth0 (w:World):Calls Tryd.prog 45 #[.int .i64 0] w fun e w'=>e=.returned (.tuple #[.int .i64 1,.int .i64 2,.int .i64 3])∧w'=w:=by
  go_enter Tryd.func45,Tryd.ntmps45
  go_wp2
  exact bodyPost_ret (v:=.tuple #[.int .i64 1,.int .i64 2,.int .i64 3]) (by simp [results,Tryd.results45,go_sem]) rfl ⟨rfl,rfl⟩
theorem soth1 (w:World):Calls Tryd.prog 45 #[.int .i64 1] w fun e w'=>e=.returned (.tuple #[.int .i64 2,.int .i64 3,.int .i64 0])∧w'=w:=by
  go_enter Tryd.func45,Tryd.ntmps45
  go_wp2
  exact bodyPost_ret (v:=.tuple #[.int .i64 2,.int .i64 3,.int .i64 0]) (by simp [results,Tryd.results45,go_sem]) rfl ⟨rfl,rfl⟩
theorem soth2 (w:World):Calls Tryd.prog 45 #[.int .i64 2] w fun e w'=>e=.returned (.tuple #[.int .i64 3,.int .i64 0,.int .i64 1])∧w'=w:=by
  go_enter Tryd.func45,Tryd.ntmps45
  go_wp2
  exact bodyPost_ret (v:=.tuple #[.int .i64 3,.int .i64 0,.int .i64 1]) (by simp [results,Tryd.results45,go_sem]) rfl ⟨rfl,rfl⟩
theorem soth3 (w:World):Calls Tryd.prog 45 #[.int .i64 3] w fun e w'=>e=.returned (.tuple #[.int .i64 0,.int .i64 1,.int .i64 2])∧w'=w:=by
  go_enter Tryd.func45,Tryd.ntmps45
  go_wp2
  exact bodyPost_ret (v:=.tuple #[.int .i64 0,.int .i64 1,.int .i64 2]) (by simp [results,Tryd.results45,go_sem]) rfl ⟨rfl,rfl⟩
set_option maxRecDepth 100000 in
set_option maxHeartbeats 1000000 in
theorem ssideF_any {u:Nat->Nat->Int} (hL:Lf u) (w:World) :
    Calls Tryd.prog 18 #[.agg #[.float .f64 (wd (u 0 0)),.float .f64 (wd (u 0 1)),.float .f64 (wd (u 0 2)),.float .f64 (wd (u 1 0)),.float .f64 (wd (u 1 1)),.float .f64 (wd (u 1 2)),.float .f64 (wd (u 2 0)),.float .f64 (wd (u 2 1)),.float .f64 (wd (u 2 2)),.float .f64 (wd (u 3 0)),.float .f64 (wd (u 3 1)),.float .f64 (wd (u 3 2))]] w fun e w'=>e=.returned (.tuple #[.float .f64 (wd (dt u 0 1 2)),.float .f64 (wd (sxz u 0 1 2))])∧Below w.heap.size w w':=by
  have CF:Hid (∀ W,Calls Tryd.prog 31 #[.agg #[.float .f64 (wd (u 0 0)),.float .f64 (wd (u 0 1)),.float .f64 (wd (u 0 2)),.float .f64 (wd (u 1 0)),.float .f64 (wd (u 1 1)),.float .f64 (wd (u 1 2)),.float .f64 (wd (u 2 0)),.float .f64 (wd (u 2 1)),.float .f64 (wd (u 2 2)),.float .f64 (wd (u 3 0)),.float .f64 (wd (u 3 1)),.float .f64 (wd (u 3 2))]] W fun e w'=>∃ arr,e=.returned (.agg arr)∧FrA arr u∧Below W.heap.size W w'):=fun W=>sframe_any hL W
  have CD:Hid (∀ arr g W,FrA arr u->W.heap[g]?=some (.cells arr 73 (0,0))->Calls Tryd.prog 32 #[.pointer (some ⟨g,0,none⟩),.int .i64 0,.int .i64 1,.int .i64 2] W fun e w'=>e=.returned (.float .f64 (wd (dt u 0 1 2)))∧Below W.heap.size W w'):=fun arr g W h k=>sdet_any hL (p:=0) (q:=1) (r:=2) (by decide) (by decide) (by decide) (by decide) (by decide) (by decide) h g W k
  have CS:Hid (∀ arr g W,FrA arr u->W.heap[g]?=some (.cells arr 73 (0,0))->Calls Tryd.prog 33 #[.pointer (some ⟨g,0,none⟩),.int .i64 0,.int .i64 1,.int .i64 2] W fun e w'=>e=.returned (.float .f64 (wd (sxz u 0 1 2)))∧Below W.heap.size W w'):=fun arr g W h k=>ssize_any hL (p:=0) (q:=1) (r:=2) (by decide) (by decide) (by decide) (by decide) (by decide) (by decide) h g W k
  clear hL
  have hb0:=bel_alloc w (.cells #[.float .f64 (wd (u 0 0)),.float .f64 (wd (u 0 1)),.float .f64 (wd (u 0 2)),.float .f64 (wd (u 1 0)),.float .f64 (wd (u 1 1)),.float .f64 (wd (u 1 2)),.float .f64 (wd (u 2 0)),.float .f64 (wd (u 2 1)),.float .f64 (wd (u 2 2)),.float .f64 (wd (u 3 0)),.float .f64 (wd (u 3 1)),.float .f64 (wd (u 3 2))] 57)
  generalize wd (dt u 0 1 2)=D at *
  generalize wd (sxz u 0 1 2)=S at *
  go_enter Tryd.func18,Tryd.ntmps18
  go_wp2_with fail
  generalize w.alloc (.cells #[.float .f64 (wd (u 0 0)),.float .f64 (wd (u 0 1)),.float .f64 (wd (u 0 2)),.float .f64 (wd (u 1 0)),.float .f64 (wd (u 1 1)),.float .f64 (wd (u 1 2)),.float .f64 (wd (u 2 0)),.float .f64 (wd (u 2 1)),.float .f64 (wd (u 2 2)),.float .f64 (wd (u 3 0)),.float .f64 (wd (u 3 1)),.float .f64 (wd (u 3 2))] 57)=x0 at hb0 ⊢
  refine (CF.out _).mono ?_
  rintro _ y1 ⟨arr,rfl,hA,hw⟩
  have hi:(Tryd.prog.info? 73).map (·.size)=some arr.size:=by rw [hA.n]; kernel_rfl
  have h44:(#[.float .f64 0,.float .f64 0,.float .f64 0,.float .f64 0,.float .f64 0,.float .f64 0,.float .f64 0,.float .f64 0,.float .f64 0,.float .f64 0,.float .f64 0,.float .f64 0,.float .f64 0,.float .f64 0,.float .f64 0,.float .f64 0,.float .f64 0,.float .f64 0,.float .f64 0,.float .f64 0,.float .f64 0,.float .f64 0,.float .f64 0,.float .f64 0,.float .f64 0,.float .f64 0,.float .f64 0,.float .f64 0,.float .f64 0,.float .f64 0,.float .f64 0,.float .f64 0,.float .f64 0,.float .f64 0,.float .f64 0,.float .f64 0,.float .f64 0,.float .f64 0,.float .f64 0,.float .f64 0,.float .f64 0,.float .f64 0,.float .f64 0,.float .f64 0]:Array Value).size=arr.size:=hA.n.symm
  have ho:=hA.o
  replace hb0:=bel_trans (bel_trans hb0 hw) (bel_alloc y1 (.cells arr 73))
  have f_k:=heap_a1 y1 (.cells arr 73)
  dsimp only
  repeat (first | (refine wp_store_row 73 _ _ rfl y1.heap.size arr rfl rfl _ _ (heap_a1 y1 (.cells #[.float .f64 0,.float .f64 0,.float .f64 0,.float .f64 0,.float .f64 0,.float .f64 0,.float .f64 0,.float .f64 0,.float .f64 0,.float .f64 0,.float .f64 0,.float .f64 0,.float .f64 0,.float .f64 0,.float .f64 0,.float .f64 0,.float .f64 0,.float .f64 0,.float .f64 0,.float .f64 0,.float .f64 0,.float .f64 0,.float .f64 0,.float .f64 0,.float .f64 0,.float .f64 0,.float .f64 0,.float .f64 0,.float .f64 0,.float .f64 0,.float .f64 0,.float .f64 0,.float .f64 0,.float .f64 0,.float .f64 0,.float .f64 0,.float .f64 0,.float .f64 0,.float .f64 0,.float .f64 0,.float .f64 0,.float .f64 0,.float .f64 0,.float .f64 0] 73)) hi h44 ho ?_; rw [World.setRow_alloc_new]; dsimp only [Act.put]) | go_step)
  generalize y1.alloc (.cells arr 73)=x2 at hb0 f_k ⊢
  generalize y1.heap.size=fb at *
  clear hw ho h44 hi
  refine (CD.out _ _ _ hA f_k).mono ?_
  rintro _ y3 ⟨rfl,hw3⟩
  replace f_k:=blk_us hw3 f_k
  go_wp2_with fail
  refine (CS.out _ _ _ hA f_k).mono ?_
  rintro _ y4 ⟨rfl,hw4⟩
  go_wp2
  exact bodyPost_ret (v:=.tuple #[.float .f64 D,.float .f64 S]) (by simp [results,Tryd.results18,go_sem]) rfl ⟨rfl,bel_trans (bel_trans hb0 hw3) hw4⟩
set_option maxRecDepth 100000 in
set_option maxHeartbeats 2000000 in
theorem sphF_any {u:Nat->Nat->Int} (hL:Lf u) (w:World) :
    Calls Tryd.prog 29 #[.agg #[.float .f64 (wd (u 0 0)),.float .f64 (wd (u 0 1)),.float .f64 (wd (u 0 2)),.float .f64 (wd (u 1 0)),.float .f64 (wd (u 1 1)),.float .f64 (wd (u 1 2)),.float .f64 (wd (u 2 0)),.float .f64 (wd (u 2 1)),.float .f64 (wd (u 2 2)),.float .f64 (wd (u 3 0)),.float .f64 (wd (u 3 1)),.float .f64 (wd (u 3 2))]] w fun e w'=>e=.returned (.tuple #[.float .f64 (wd (fD u)),.float .f64 (wd (fS u))])∧Below w.heap.size w w':=by
  have CF:Hid (∀ W,Calls Tryd.prog 31 #[.agg #[.float .f64 (wd (u 0 0)),.float .f64 (wd (u 0 1)),.float .f64 (wd (u 0 2)),.float .f64 (wd (u 1 0)),.float .f64 (wd (u 1 1)),.float .f64 (wd (u 1 2)),.float .f64 (wd (u 2 0)),.float .f64 (wd (u 2 1)),.float .f64 (wd (u 2 2)),.float .f64 (wd (u 3 0)),.float .f64 (wd (u 3 1)),.float .f64 (wd (u 3 2))]] W fun e w'=>∃ arr,e=.returned (.agg arr)∧FrA arr u∧Below W.heap.size W w'):=fun W=>sframe_any hL W
  have CL0:Hid (∀ arr g W,FrA arr u->W.heap[g]?=some (.cells arr 73 (0,0))->Calls Tryd.prog 46 #[.pointer (some ⟨g,0,none⟩),.int .i64 0] W fun e w'=>e=.returned (.float .f64 (wd (lf u 0)))∧Below W.heap.size W w'):=fun arr g W h k=>slift_any hL (p:=0) (by decide) h g W k
  have CD0:Hid (∀ arr g W,FrA arr u->W.heap[g]?=some (.cells arr 73 (0,0))->Calls Tryd.prog 32 #[.pointer (some ⟨g,0,none⟩),.int .i64 1,.int .i64 2,.int .i64 3] W fun e w'=>e=.returned (.float .f64 (wd (dt u 1 2 3)))∧Below W.heap.size W w'):=fun arr g W h k=>sdet_any hL (p:=1) (q:=2) (r:=3) (by decide) (by decide) (by decide) (by decide) (by decide) (by decide) h g W k
  have CS0:Hid (∀ arr g W,FrA arr u->W.heap[g]?=some (.cells arr 73 (0,0))->Calls Tryd.prog 33 #[.pointer (some ⟨g,0,none⟩),.int .i64 3,.int .i64 1,.int .i64 2] W fun e w'=>e=.returned (.float .f64 (wd (sxz u 3 1 2)))∧Below W.heap.size W w'):=fun arr g W h k=>ssize_any hL (p:=3) (q:=1) (r:=2) (by decide) (by decide) (by decide) (by decide) (by decide) (by decide) h g W k
  have CL1:Hid (∀ arr g W,FrA arr u->W.heap[g]?=some (.cells arr 73 (0,0))->Calls Tryd.prog 46 #[.pointer (some ⟨g,0,none⟩),.int .i64 1] W fun e w'=>e=.returned (.float .f64 (wd (lf u 1)))∧Below W.heap.size W w'):=fun arr g W h k=>slift_any hL (p:=1) (by decide) h g W k
  have CD1:Hid (∀ arr g W,FrA arr u->W.heap[g]?=some (.cells arr 73 (0,0))->Calls Tryd.prog 32 #[.pointer (some ⟨g,0,none⟩),.int .i64 2,.int .i64 3,.int .i64 0] W fun e w'=>e=.returned (.float .f64 (wd (dt u 2 3 0)))∧Below W.heap.size W w'):=fun arr g W h k=>sdet_any hL (p:=2) (q:=3) (r:=0) (by decide) (by decide) (by decide) (by decide) (by decide) (by decide) h g W k
  have CS1:Hid (∀ arr g W,FrA arr u->W.heap[g]?=some (.cells arr 73 (0,0))->Calls Tryd.prog 33 #[.pointer (some ⟨g,0,none⟩),.int .i64 0,.int .i64 2,.int .i64 3] W fun e w'=>e=.returned (.float .f64 (wd (sxz u 0 2 3)))∧Below W.heap.size W w'):=fun arr g W h k=>ssize_any hL (p:=0) (q:=2) (r:=3) (by decide) (by decide) (by decide) (by decide) (by decide) (by decide) h g W k
  have CL2:Hid (∀ arr g W,FrA arr u->W.heap[g]?=some (.cells arr 73 (0,0))->Calls Tryd.prog 46 #[.pointer (some ⟨g,0,none⟩),.int .i64 2] W fun e w'=>e=.returned (.float .f64 (wd (lf u 2)))∧Below W.heap.size W w'):=fun arr g W h k=>slift_any hL (p:=2) (by decide) h g W k
  have CD2:Hid (∀ arr g W,FrA arr u->W.heap[g]?=some (.cells arr 73 (0,0))->Calls Tryd.prog 32 #[.pointer (some ⟨g,0,none⟩),.int .i64 3,.int .i64 0,.int .i64 1] W fun e w'=>e=.returned (.float .f64 (wd (dt u 3 0 1)))∧Below W.heap.size W w'):=fun arr g W h k=>sdet_any hL (p:=3) (q:=0) (r:=1) (by decide) (by decide) (by decide) (by decide) (by decide) (by decide) h g W k
  have CS2:Hid (∀ arr g W,FrA arr u->W.heap[g]?=some (.cells arr 73 (0,0))->Calls Tryd.prog 33 #[.pointer (some ⟨g,0,none⟩),.int .i64 1,.int .i64 3,.int .i64 0] W fun e w'=>e=.returned (.float .f64 (wd (sxz u 1 3 0)))∧Below W.heap.size W w'):=fun arr g W h k=>ssize_any hL (p:=1) (q:=3) (r:=0) (by decide) (by decide) (by decide) (by decide) (by decide) (by decide) h g W k
  have CL3:Hid (∀ arr g W,FrA arr u->W.heap[g]?=some (.cells arr 73 (0,0))->Calls Tryd.prog 46 #[.pointer (some ⟨g,0,none⟩),.int .i64 3] W fun e w'=>e=.returned (.float .f64 (wd (lf u 3)))∧Below W.heap.size W w'):=fun arr g W h k=>slift_any hL (p:=3) (by decide) h g W k
  have CD3:Hid (∀ arr g W,FrA arr u->W.heap[g]?=some (.cells arr 73 (0,0))->Calls Tryd.prog 32 #[.pointer (some ⟨g,0,none⟩),.int .i64 0,.int .i64 1,.int .i64 2] W fun e w'=>e=.returned (.float .f64 (wd (dt u 0 1 2)))∧Below W.heap.size W w'):=fun arr g W h k=>sdet_any hL (p:=0) (q:=1) (r:=2) (by decide) (by decide) (by decide) (by decide) (by decide) (by decide) h g W k
  have CS3:Hid (∀ arr g W,FrA arr u->W.heap[g]?=some (.cells arr 73 (0,0))->Calls Tryd.prog 33 #[.pointer (some ⟨g,0,none⟩),.int .i64 2,.int .i64 0,.int .i64 1] W fun e w'=>e=.returned (.float .f64 (wd (sxz u 2 0 1)))∧Below W.heap.size W w'):=fun arr g W h k=>ssize_any hL (p:=2) (q:=0) (r:=1) (by decide) (by decide) (by decide) (by decide) (by decide) (by decide) h g W k
  have fl0:=(lf_dv (hL.lg (p:=0) (by decide))).1
  have fd0:=(dt_dv (hL.lg (p:=1) (by decide)) (hL.lg (p:=2) (by decide)) (hL.lg (p:=3) (by decide))).1
  have fs0:=(sxz_sz (hL.lg (p:=3) (by decide)) (hL.lg (p:=1) (by decide)) (hL.lg (p:=2) (by decide))).1
  have ft0:=(tt_dv (hL.lg (p:=0) (by decide)) (hL.lg (p:=1) (by decide)) (hL.lg (p:=2) (by decide)) (hL.lg (p:=3) (by decide))).1
  have fz0:=(ts_sp (hL.lg (p:=0) (by decide)) (hL.lg (p:=1) (by decide)) (hL.lg (p:=2) (by decide)) (hL.lg (p:=3) (by decide))).1
  have m0:∀ W,(binOp .mul 45 (.float .f64 (wd (lf u 0))) (.float .f64 (wd (dt u 1 2 3)))).run Tryd.prog W=.ok (.float .f64 (wd (tt u 0 1 2 3))) W:=mul_run fl0 fd0 ft0.p
  have n0:∀ W,(binOp .mul 45 (.float .f64 (wd (sxz u 3 1 2))) (.float .f64 (wd (lf u 0)))).run Tryd.prog W=.ok (.float .f64 (wd (ts u 0 1 2 3))) W:=mul_run fs0 fl0 fz0.p
  have fl1:=(lf_dv (hL.lg (p:=1) (by decide))).1
  have fd1:=(dt_dv (hL.lg (p:=2) (by decide)) (hL.lg (p:=3) (by decide)) (hL.lg (p:=0) (by decide))).1
  have fs1:=(sxz_sz (hL.lg (p:=0) (by decide)) (hL.lg (p:=2) (by decide)) (hL.lg (p:=3) (by decide))).1
  have ft1:=(tt_dv (hL.lg (p:=1) (by decide)) (hL.lg (p:=2) (by decide)) (hL.lg (p:=3) (by decide)) (hL.lg (p:=0) (by decide))).1
  have fz1:=(ts_sp (hL.lg (p:=1) (by decide)) (hL.lg (p:=2) (by decide)) (hL.lg (p:=3) (by decide)) (hL.lg (p:=0) (by decide))).1
  have m1:∀ W,(binOp .mul 45 (.float .f64 (wd (lf u 1))) (.float .f64 (wd (dt u 2 3 0)))).run Tryd.prog W=.ok (.float .f64 (wd (tt u 1 2 3 0))) W:=mul_run fl1 fd1 ft1.p
  have n1:∀ W,(binOp .mul 45 (.float .f64 (wd (sxz u 0 2 3))) (.float .f64 (wd (lf u 1)))).run Tryd.prog W=.ok (.float .f64 (wd (ts u 1 2 3 0))) W:=mul_run fs1 fl1 fz1.p
  have fl2:=(lf_dv (hL.lg (p:=2) (by decide))).1
  have fd2:=(dt_dv (hL.lg (p:=3) (by decide)) (hL.lg (p:=0) (by decide)) (hL.lg (p:=1) (by decide))).1
  have fs2:=(sxz_sz (hL.lg (p:=1) (by decide)) (hL.lg (p:=3) (by decide)) (hL.lg (p:=0) (by decide))).1
  have ft2:=(tt_dv (hL.lg (p:=2) (by decide)) (hL.lg (p:=3) (by decide)) (hL.lg (p:=0) (by decide)) (hL.lg (p:=1) (by decide))).1
  have fz2:=(ts_sp (hL.lg (p:=2) (by decide)) (hL.lg (p:=3) (by decide)) (hL.lg (p:=0) (by decide)) (hL.lg (p:=1) (by decide))).1
  have m2:∀ W,(binOp .mul 45 (.float .f64 (wd (lf u 2))) (.float .f64 (wd (dt u 3 0 1)))).run Tryd.prog W=.ok (.float .f64 (wd (tt u 2 3 0 1))) W:=mul_run fl2 fd2 ft2.p
  have n2:∀ W,(binOp .mul 45 (.float .f64 (wd (sxz u 1 3 0))) (.float .f64 (wd (lf u 2)))).run Tryd.prog W=.ok (.float .f64 (wd (ts u 2 3 0 1))) W:=mul_run fs2 fl2 fz2.p
  have fl3:=(lf_dv (hL.lg (p:=3) (by decide))).1
  have fd3:=(dt_dv (hL.lg (p:=0) (by decide)) (hL.lg (p:=1) (by decide)) (hL.lg (p:=2) (by decide))).1
  have fs3:=(sxz_sz (hL.lg (p:=2) (by decide)) (hL.lg (p:=0) (by decide)) (hL.lg (p:=1) (by decide))).1
  have ft3:=(tt_dv (hL.lg (p:=3) (by decide)) (hL.lg (p:=0) (by decide)) (hL.lg (p:=1) (by decide)) (hL.lg (p:=2) (by decide))).1
  have fz3:=(ts_sp (hL.lg (p:=3) (by decide)) (hL.lg (p:=0) (by decide)) (hL.lg (p:=1) (by decide)) (hL.lg (p:=2) (by decide))).1
  have m3:∀ W,(binOp .mul 45 (.float .f64 (wd (lf u 3))) (.float .f64 (wd (dt u 0 1 2)))).run Tryd.prog W=.ok (.float .f64 (wd (tt u 3 0 1 2))) W:=mul_run fl3 fd3 ft3.p
  have n3:∀ W,(binOp .mul 45 (.float .f64 (wd (sxz u 2 0 1))) (.float .f64 (wd (lf u 3)))).run Tryd.prog W=.ok (.float .f64 (wd (ts u 3 0 1 2))) W:=mul_run fs3 fl3 fz3.p
  have hg:∀ p,p<4->Lg (fun p k=>iV (u p k)) u p:=fun p hp=>hL.lg hp
  obtain ⟨g0,-⟩:=sum0_fx fz0 (by decide)
  obtain ⟨g1,-⟩:=g0.sum fz1 (by decide)
  obtain ⟨g2,-⟩:=g1.sum (fz2.up (show 1848<=1850 by decide)) (by decide)
  have a0:=add_run (fx_zero (a:=0) (b:=0)) fz0 g0.p
  have a1:=add_run g0 fz1 g1.p
  have a2:=add_run g1 fz2 g2.p
  have a3:∀ W,(binOp .add 45 (.float .f64 (wd (fsum (fsum (fsum 0 (ts u 0 1 2 3)) (ts u 1 2 3 0)) (ts u 2 3 0 1)))) (.float .f64 (wd (ts u 3 0 1 2)))).run Tryd.prog W=.ok (.float .f64 (wd (fS u))) W:=add_run g2 fz3 (fS_sz hg).1.p
  rw [wd_0] at a0
  obtain ⟨h1,-⟩:=ft3.sum ft2.neg.1 (by decide)
  obtain ⟨h2,-⟩:=ft1.sum ft0.neg.1 (by decide)
  have s1:=sub_run ft3 ft2 h1.p
  have s2:=sub_run ft1 ft0 h2.p
  have s3:∀ W,(binOp .add 45 (.float .f64 (wd (fsum (tt u 3 0 1 2) (neg (tt u 2 3 0 1))))) (.float .f64 (wd (fsum (tt u 1 2 3 0) (neg (tt u 0 1 2 3)))))).run Tryd.prog W=.ok (.float .f64 (wd (fD u))) W:=add_run h1 h2 (fD_dv hg).1.p
  clear hg g0 g1 g2 h1 h2
  clear fl0 fd0 fs0 ft0 fz0
  clear fl1 fd1 fs1 ft1 fz1
  clear fl2 fd2 fs2 ft2 fz2
  clear fl3 fd3 fs3 ft3 fz3
  have hb0:=bel_alloc w (.cells #[.float .f64 (wd (u 0 0)),.float .f64 (wd (u 0 1)),.float .f64 (wd (u 0 2)),.float .f64 (wd (u 1 0)),.float .f64 (wd (u 1 1)),.float .f64 (wd (u 1 2)),.float .f64 (wd (u 2 0)),.float .f64 (wd (u 2 1)),.float .f64 (wd (u 2 2)),.float .f64 (wd (u 3 0)),.float .f64 (wd (u 3 1)),.float .f64 (wd (u 3 2))] 57)
  clear hL
  generalize wd (fS u)=S4 at *
  generalize wd (fD u)=D at *
  generalize wd (fsum (fsum (fsum 0 (ts u 0 1 2 3)) (ts u 1 2 3 0)) (ts u 2 3 0 1))=S3 at *
  generalize wd (fsum (fsum 0 (ts u 0 1 2 3)) (ts u 1 2 3 0))=S2 at *
  generalize wd (fsum 0 (ts u 0 1 2 3))=S1 at *
  generalize wd (fsum (tt u 3 0 1 2) (neg (tt u 2 3 0 1)))=D1 at *
  generalize wd (fsum (tt u 1 2 3 0) (neg (tt u 0 1 2 3)))=D2 at *
  generalize wd (tt u 0 1 2 3)=T0 at *
  generalize wd (ts u 0 1 2 3)=Z0 at *
  generalize wd (lf u 0)=L0 at *
  generalize wd (dt u 1 2 3)=E0 at *
  generalize wd (sxz u 3 1 2)=X0 at *
  generalize wd (tt u 1 2 3 0)=T1 at *
  generalize wd (ts u 1 2 3 0)=Z1 at *
  generalize wd (lf u 1)=L1 at *
  generalize wd (dt u 2 3 0)=E1 at *
  generalize wd (sxz u 0 2 3)=X1 at *
  generalize wd (tt u 2 3 0 1)=T2 at *
  generalize wd (ts u 2 3 0 1)=Z2 at *
  generalize wd (lf u 2)=L2 at *
  generalize wd (dt u 3 0 1)=E2 at *
  generalize wd (sxz u 1 3 0)=X2 at *
  generalize wd (tt u 3 0 1 2)=T3 at *
  generalize wd (ts u 3 0 1 2)=Z3 at *
  generalize wd (lf u 3)=L3 at *
  generalize wd (dt u 0 1 2)=E3 at *
  generalize wd (sxz u 2 0 1)=X3 at *
  go_enter Tryd.func29,Tryd.ntmps29
  go_wp2_with fail
  generalize w.alloc (.cells #[.float .f64 (wd (u 0 0)),.float .f64 (wd (u 0 1)),.float .f64 (wd (u 0 2)),.float .f64 (wd (u 1 0)),.float .f64 (wd (u 1 1)),.float .f64 (wd (u 1 2)),.float .f64 (wd (u 2 0)),.float .f64 (wd (u 2 1)),.float .f64 (wd (u 2 2)),.float .f64 (wd (u 3 0)),.float .f64 (wd (u 3 1)),.float .f64 (wd (u 3 2))] 57)=x0 at hb0 ⊢
  refine (CF.out _).mono ?_
  rintro _ y1 ⟨arr,rfl,hA,hw⟩
  have hi:(Tryd.prog.info? 73).map (·.size)=some arr.size:=by rw [hA.n]; kernel_rfl
  have h44:(#[.float .f64 0,.float .f64 0,.float .f64 0,.float .f64 0,.float .f64 0,.float .f64 0,.float .f64 0,.float .f64 0,.float .f64 0,.float .f64 0,.float .f64 0,.float .f64 0,.float .f64 0,.float .f64 0,.float .f64 0,.float .f64 0,.float .f64 0,.float .f64 0,.float .f64 0,.float .f64 0,.float .f64 0,.float .f64 0,.float .f64 0,.float .f64 0,.float .f64 0,.float .f64 0,.float .f64 0,.float .f64 0,.float .f64 0,.float .f64 0,.float .f64 0,.float .f64 0,.float .f64 0,.float .f64 0,.float .f64 0,.float .f64 0,.float .f64 0,.float .f64 0,.float .f64 0,.float .f64 0,.float .f64 0,.float .f64 0,.float .f64 0,.float .f64 0]:Array Value).size=arr.size:=hA.n.symm
  have ho:=hA.o
  have hB:w.heap.size<=y1.heap.size:=Nat.le_trans hb0.size hw.size
  replace hb0:=bel_trans (bel_trans hb0 hw) (bel_alloc2 y1 (.cells arr 73) (.cells #[.float .f64 0,.float .f64 0,.float .f64 0,.float .f64 0] 89))
  have f_k:=heap_a2 y1 (.cells arr 73) (.cells #[.float .f64 0,.float .f64 0,.float .f64 0,.float .f64 0] 89)
  have t_k:=heap_b2 y1 (.cells arr 73) (.cells #[.float .f64 0,.float .f64 0,.float .f64 0,.float .f64 0] 89)
  dsimp only
  iterate 5 go_step
  refine wp_store_row 73 _ _ rfl y1.heap.size arr rfl rfl _ _ (heap_a1 y1 (.cells #[.float .f64 0,.float .f64 0,.float .f64 0,.float .f64 0,.float .f64 0,.float .f64 0,.float .f64 0,.float .f64 0,.float .f64 0,.float .f64 0,.float .f64 0,.float .f64 0,.float .f64 0,.float .f64 0,.float .f64 0,.float .f64 0,.float .f64 0,.float .f64 0,.float .f64 0,.float .f64 0,.float .f64 0,.float .f64 0,.float .f64 0,.float .f64 0,.float .f64 0,.float .f64 0,.float .f64 0,.float .f64 0,.float .f64 0,.float .f64 0,.float .f64 0,.float .f64 0,.float .f64 0,.float .f64 0,.float .f64 0,.float .f64 0,.float .f64 0,.float .f64 0,.float .f64 0,.float .f64 0,.float .f64 0,.float .f64 0,.float .f64 0,.float .f64 0] 73)) hi h44 ho ?_
  rw [World.setRow_alloc_new]
  dsimp only [Act.put]
  go_wp2_with fail
  have hfb:y1.heap.size≠y1.heap.size+1:=by omega
  have hst:∀ p x m w,(store p (.float .f64 x) m).run Tryd.prog w=stored Tryd.prog w p (.float .f64 x) m:=fun p x m w=>run_store _ w p _ m rfl
  generalize (y1.alloc (.cells arr 73)).alloc (.cells #[.float .f64 0,.float .f64 0,.float .f64 0,.float .f64 0] 89)=x2 at hb0 f_k t_k ⊢
  go_loopw [13,3] (fun i x wr=>wr.heap[y1.heap.size]?=some (.cells arr 73 (0,0))∧Below w.heap.size w wr∧((i=.int .i64 0∧x=.float .f64 0∧wr.heap[y1.heap.size+1]?=some (.cells #[.float .f64 0,.float .f64 0,.float .f64 0,.float .f64 0] 89 (0,0)))∨(i=.int .i64 1∧x=.float .f64 S1∧wr.heap[y1.heap.size+1]?=some (.cells #[.float .f64 T0,.float .f64 0,.float .f64 0,.float .f64 0] 89 (0,0)))∨(i=.int .i64 2∧x=.float .f64 S2∧wr.heap[y1.heap.size+1]?=some (.cells #[.float .f64 T0,.float .f64 T1,.float .f64 0,.float .f64 0] 89 (0,0)))∨(i=.int .i64 3∧x=.float .f64 S3∧wr.heap[y1.heap.size+1]?=some (.cells #[.float .f64 T0,.float .f64 T1,.float .f64 T2,.float .f64 0] 89 (0,0)))∨(i=.int .i64 4∧x=.float .f64 S4∧wr.heap[y1.heap.size+1]?=some (.cells #[.float .f64 T0,.float .f64 T1,.float .f64 T2,.float .f64 T3] 89 (0,0))))) (fun i _ _=>4-(intOf i).toNat)
  case atStart=>exact ⟨f_k,hb0,.inl ⟨rfl,rfl,t_k⟩⟩
  case round=>
    clear f_k t_k hb0
    obtain ⟨f_k,hb0,hrel⟩:=hrel
    have hge:w.heap.size<=y1.heap.size+1:=by omega
    rcases hrel with ⟨rfl,rfl,t_k⟩ | ⟨rfl,rfl,t_k⟩ | ⟨rfl,rfl,t_k⟩ | ⟨rfl,rfl,t_k⟩ | ⟨rfl,rfl,t_k⟩
    . go_wp2_with fail
      refine (soth0 _).mono ?_
      rintro _ wz ⟨rfl,hwz⟩
      replace hwz:=hwz.symm
      subst hwz
      go_wp2_with fail
      refine (CL0.out _ _ _ hA f_k).mono ?_
      rintro _ y3 ⟨rfl,hw3⟩
      replace f_k:=blk_us hw3 f_k
      replace t_k:=blk_us hw3 t_k
      replace hb0:=bel_trans hb0 hw3
      clear hw3
      go_wp2_with fail
      refine (CD0.out _ _ _ hA f_k).mono ?_
      rintro _ y4 ⟨rfl,hw4⟩
      replace f_k:=blk_us hw4 f_k
      replace t_k:=blk_us hw4 t_k
      replace hb0:=bel_trans hb0 hw4
      clear hw4
      have e1:=blkC t_k 0 rfl
      have e2:=blkF t_k 0
      go_wp2_with fail
      clear e1 e2
      replace f_k:=heap_ne f_k hfb 0 (.float .f64 T0)
      replace t_k:=heap_set t_k 0 (.float .f64 T0)
      replace hb0:=hb0.setCell (p:=⟨y1.heap.size+1,0,none⟩) hge (.float .f64 T0)
      change (y4.setCell ⟨y1.heap.size+1,0,none⟩ (.float .f64 T0)).heap[y1.heap.size+1]?=some (.cells #[.float .f64 T0,.float .f64 0,.float .f64 0,.float .f64 0] 89 (0,0)) at t_k
      generalize y4.setCell ⟨y1.heap.size+1,0,none⟩ (.float .f64 T0)=x5 at f_k t_k hb0 ⊢
      refine (CS0.out _ _ _ hA f_k).mono ?_
      rintro _ y6 ⟨rfl,hw6⟩
      replace f_k:=blk_us hw6 f_k
      replace t_k:=blk_us hw6 t_k
      replace hb0:=bel_trans hb0 hw6
      clear hw6
      go_wp2_with fail
      go_roundw
      case rel=>exact ⟨f_k,hb0,.inr (.inl ⟨by go_num,rfl,t_k⟩)⟩
      case measure=>simp [intOf]
    . go_wp2_with fail
      refine (soth1 _).mono ?_
      rintro _ wz ⟨rfl,hwz⟩
      replace hwz:=hwz.symm
      subst hwz
      go_wp2_with fail
      refine (CL1.out _ _ _ hA f_k).mono ?_
      rintro _ y3 ⟨rfl,hw3⟩
      replace f_k:=blk_us hw3 f_k
      replace t_k:=blk_us hw3 t_k
      replace hb0:=bel_trans hb0 hw3
      clear hw3
      go_wp2_with fail
      refine (CD1.out _ _ _ hA f_k).mono ?_
      rintro _ y4 ⟨rfl,hw4⟩
      replace f_k:=blk_us hw4 f_k
      replace t_k:=blk_us hw4 t_k
      replace hb0:=bel_trans hb0 hw4
      clear hw4
      have e1:=blkC t_k 1 rfl
      have e2:=blkF t_k 1
      go_wp2_with fail
      clear e1 e2
      replace f_k:=heap_ne f_k hfb 1 (.float .f64 T1)
      replace t_k:=heap_set t_k 1 (.float .f64 T1)
      replace hb0:=hb0.setCell (p:=⟨y1.heap.size+1,1,none⟩) hge (.float .f64 T1)
      change (y4.setCell ⟨y1.heap.size+1,1,none⟩ (.float .f64 T1)).heap[y1.heap.size+1]?=some (.cells #[.float .f64 T0,.float .f64 T1,.float .f64 0,.float .f64 0] 89 (0,0)) at t_k
      generalize y4.setCell ⟨y1.heap.size+1,1,none⟩ (.float .f64 T1)=x5 at f_k t_k hb0 ⊢
      refine (CS1.out _ _ _ hA f_k).mono ?_
      rintro _ y6 ⟨rfl,hw6⟩
      replace f_k:=blk_us hw6 f_k
      replace t_k:=blk_us hw6 t_k
      replace hb0:=bel_trans hb0 hw6
      clear hw6
      go_wp2_with fail
      go_roundw
      case rel=>exact ⟨f_k,hb0,.inr (.inr (.inl ⟨by go_num,rfl,t_k⟩))⟩
      case measure=>simp [intOf]
    . go_wp2_with fail
      refine (soth2 _).mono ?_
      rintro _ wz ⟨rfl,hwz⟩
      replace hwz:=hwz.symm
      subst hwz
      go_wp2_with fail
      refine (CL2.out _ _ _ hA f_k).mono ?_
      rintro _ y3 ⟨rfl,hw3⟩
      replace f_k:=blk_us hw3 f_k
      replace t_k:=blk_us hw3 t_k
      replace hb0:=bel_trans hb0 hw3
      clear hw3
      go_wp2_with fail
      refine (CD2.out _ _ _ hA f_k).mono ?_
      rintro _ y4 ⟨rfl,hw4⟩
      replace f_k:=blk_us hw4 f_k
      replace t_k:=blk_us hw4 t_k
      replace hb0:=bel_trans hb0 hw4
      clear hw4
      have e1:=blkC t_k 2 rfl
      have e2:=blkF t_k 2
      go_wp2_with fail
      clear e1 e2
      replace f_k:=heap_ne f_k hfb 2 (.float .f64 T2)
      replace t_k:=heap_set t_k 2 (.float .f64 T2)
      replace hb0:=hb0.setCell (p:=⟨y1.heap.size+1,2,none⟩) hge (.float .f64 T2)
      change (y4.setCell ⟨y1.heap.size+1,2,none⟩ (.float .f64 T2)).heap[y1.heap.size+1]?=some (.cells #[.float .f64 T0,.float .f64 T1,.float .f64 T2,.float .f64 0] 89 (0,0)) at t_k
      generalize y4.setCell ⟨y1.heap.size+1,2,none⟩ (.float .f64 T2)=x5 at f_k t_k hb0 ⊢
      refine (CS2.out _ _ _ hA f_k).mono ?_
      rintro _ y6 ⟨rfl,hw6⟩
      replace f_k:=blk_us hw6 f_k
      replace t_k:=blk_us hw6 t_k
      replace hb0:=bel_trans hb0 hw6
      clear hw6
      go_wp2_with fail
      go_roundw
      case rel=>exact ⟨f_k,hb0,.inr (.inr (.inr (.inl ⟨by go_num,rfl,t_k⟩)))⟩
      case measure=>simp [intOf]
    . go_wp2_with fail
      refine (soth3 _).mono ?_
      rintro _ wz ⟨rfl,hwz⟩
      replace hwz:=hwz.symm
      subst hwz
      go_wp2_with fail
      refine (CL3.out _ _ _ hA f_k).mono ?_
      rintro _ y3 ⟨rfl,hw3⟩
      replace f_k:=blk_us hw3 f_k
      replace t_k:=blk_us hw3 t_k
      replace hb0:=bel_trans hb0 hw3
      clear hw3
      go_wp2_with fail
      refine (CD3.out _ _ _ hA f_k).mono ?_
      rintro _ y4 ⟨rfl,hw4⟩
      replace f_k:=blk_us hw4 f_k
      replace t_k:=blk_us hw4 t_k
      replace hb0:=bel_trans hb0 hw4
      clear hw4
      have e1:=blkC t_k 3 rfl
      have e2:=blkF t_k 3
      go_wp2_with fail
      clear e1 e2
      replace f_k:=heap_ne f_k hfb 3 (.float .f64 T3)
      replace t_k:=heap_set t_k 3 (.float .f64 T3)
      replace hb0:=hb0.setCell (p:=⟨y1.heap.size+1,3,none⟩) hge (.float .f64 T3)
      change (y4.setCell ⟨y1.heap.size+1,3,none⟩ (.float .f64 T3)).heap[y1.heap.size+1]?=some (.cells #[.float .f64 T0,.float .f64 T1,.float .f64 T2,.float .f64 T3] 89 (0,0)) at t_k
      generalize y4.setCell ⟨y1.heap.size+1,3,none⟩ (.float .f64 T3)=x5 at f_k t_k hb0 ⊢
      refine (CS3.out _ _ _ hA f_k).mono ?_
      rintro _ y6 ⟨rfl,hw6⟩
      replace f_k:=blk_us hw6 f_k
      replace t_k:=blk_us hw6 t_k
      replace hb0:=bel_trans hb0 hw6
      clear hw6
      go_wp2_with fail
      go_roundw
      case rel=>exact ⟨f_k,hb0,.inr (.inr (.inr (.inr (⟨by go_num,rfl,t_k⟩))))⟩
      case measure=>simp [intOf]
    . have e0:=blkC t_k 0 rfl
      have e1:=blkC t_k 1 rfl
      have e2:=blkC t_k 2 rfl
      have e3:=blkC t_k 3 rfl
      go_wp2
      exact bodyPost_ret (v:=.tuple #[.float .f64 D,.float .f64 S4]) (by simp [results,Tryd.results29,go_sem]) rfl ⟨rfl,hb0⟩
structure Sps (w:World) (ao:Option Addr) (n cap:Nat) (s:Nat->Nat->Int):Prop where
  le:n<=cap
  max:cap<=9223372036854775807
  spot:0<n->∃ b off,ao=some ⟨b,off,none⟩∧b<w.heap.size∧∀ i,i<n->w.cell? ⟨b,off+i*3,none⟩=some (.int .i64 (s i 0))∧w.cell? ⟨b,off+i*3+1,none⟩=some (.int .i64 (s i 1))∧w.cell? ⟨b,off+i*3+2,none⟩=some (.int .i64 (s i 2))
theorem Sps.keeps {w w':World} {ao:Option Addr} {n cap:Nat} {s:Nat->Nat->Int} (h:Sps w ao n cap s) (hb:Below w.heap.size w w'):Sps w' ao n cap s :=
  ⟨h.le,h.max,fun hn=>by
    obtain ⟨b,off,rfl,hlt,hc⟩:=h.spot hn
    exact ⟨b,off,rfl,Nat.lt_of_lt_of_le hlt hb.size,fun i hi=>⟨(hb.cell (p:=⟨b,off+i*3,none⟩) hlt).trans (hc i hi).1,(hb.cell (p:=⟨b,off+i*3+1,none⟩) hlt).trans (hc i hi).2.1,(hb.cell (p:=⟨b,off+i*3+2,none⟩) hlt).trans (hc i hi).2.2⟩⟩⟩
def sok (s:Nat->Nat->Int) (i:Nat):Bool:=pok (s i 0) && pok (s i 1) && pok (s i 2)
def stm (s:Nat->Nat->Int) (i:Nat):Bool:=tame (s i 0) && tame (s i 1) && tame (s i 2)
set_option maxRecDepth 100000 in
set_option maxHeartbeats 1000000 in
theorem scoord_any (x y z:Int) (w:World):Calls Tryd.prog 36 #[.agg #[.int .i64 x,.int .i64 y,.int .i64 z]] w fun e w'=>e=.returned (.agg #[.int .i64 x,.int .i64 y,.int .i64 z])∧Below w.heap.size w w':=by
  go_enter Tryd.func36,Tryd.ntmps36
  go_wp2
  exact bodyPost_ret (v:=.agg #[.int .i64 x,.int .i64 y,.int .i64 z]) (by simp [results,Tryd.results36,go_sem]) rfl ⟨rfl,bel_alloc2 _ _ _⟩
set_option maxRecDepth 100000 in
set_option maxHeartbeats 1000000 in
theorem sgood_any (ao:Option Addr) (n cap:Nat) (s:Nat->Nat->Int) (w:World) (h:Sps w ao n cap s) (hs:∀ i k,rng (s i k)) :
    Calls Tryd.prog 20 #[.slice ao n cap] w fun x w'=>x=.returned (.bool (allB (sok s) n))∧Below w.heap.size w w':=by
  have hl:=h.le
  have hm:=h.max
  have e0:errF true=0:=rfl
  have e1:errF false=10:=rfl
  have CC:Hid (∀ i W,Calls Tryd.prog 35 #[.agg #[.int .i64 (s i 0),.int .i64 (s i 1),.int .i64 (s i 2)]] W fun e w'=>e=.returned (.int .i64 (errF (sok s i)))∧Below W.heap.size W w'):=fun i W=>pointCheckSpace (hs i 0) (hs i 1) (hs i 2) W
  clear hs
  go_enter Tryd.func20,Tryd.ntmps20
  go_wp2_with fail
  go_loopw [7] (fun i wr=>∃ k:Nat,k<=n∧i=.int .i64 k∧Hid (∀ j,j<k->sok s j=true)∧Below w.heap.size w wr) (fun i _=>n-(intOf i).toNat)
  case atStart=>exact ⟨0,Nat.zero_le _,rfl,fun j hj=>by omega,bel_refl _⟩
  case round=>
    obtain ⟨k,hk,rfl,HO,hbw⟩:=hrel
    by_cases hlt:k<n
    . obtain ⟨b,off,rfl,hb,hc⟩:=h.spot (by omega)
      have c0:=(hbw.cell (p:=⟨b,off+k*3,none⟩) hb).trans (hc k hlt).1
      have c1:=(hbw.cell (p:=⟨b,off+k*3+1,none⟩) hb).trans (hc k hlt).2.1
      have c2:=(hbw.cell (p:=⟨b,off+k*3+2,none⟩) hb).trans (hc k hlt).2.2
      have CK:Hid (∀ W,Calls Tryd.prog 35 #[.agg #[.int .i64 (s k 0),.int .i64 (s k 1),.int .i64 (s k 2)]] W fun e w'=>e=.returned (.int .i64 (errF (sok s k)))∧Below W.heap.size W w'):=CC.out k
      have HK:Hid (∀ q:sok s k=false,false=allB (sok s) n):=fun q=>(decide_eq_false fun hx=>by have:=hx k hlt; rw [this] at q; cases q).symm
      have HY:Hid (sok s k=true->∀ j,j<k+1->sok s j=true):=fun q j hj=>by
        by_cases e:j=k
        . subst e; exact q
        . exact HO.out j (by omega)
      clear hc
      by_cases hok:sok s k=true
      . rw [hok,e0] at CK
        replace HY:Hid (∀ j,j<k+1->sok s j=true):=HY.out hok
        clear hok
        go_wp2_with (go_at_call 35; refine (CK.out _).mono ?_; rintro x w1 ⟨rfl,hb1⟩)
        go_roundw
        case rel=>exact ⟨k+1,by omega,by go_num,HY,hbw.trans ((bel_trans (bel_alloc _ _) hb1).mono hbw.size)⟩
        case measure=>simp [intOf]; omega
      . have hok':sok s k=false:=by simpa using hok
        rw [hok',e1] at CK
        replace HK:Hid (false=allB (sok s) n):=HK.out hok'
        clear hok hok' HY
        go_wp2_with (go_at_call 35; refine (CK.out _).mono ?_; rintro x w1 ⟨rfl,hb1⟩)
        go_ret
        exact ⟨ret_bool HK.out,hbw.trans ((bel_trans (bel_alloc _ _) hb1).mono hbw.size)⟩
    . obtain rfl:k=n:=by omega
      have HD:Hid (true=allB (sok s) k):=(decide_eq_true HO.out).symm
      go_wp2
      go_ret
      exact ⟨ret_bool HD.out,hbw⟩
theorem q_refSpace {x y z:Int} (hx:rng x) (hy:rng y) (hz:rng z) (w:World) :
    Calls Tryd.prog 12 #[.agg #[.int .i64 x,.int .i64 y,.int .i64 z]] w fun e w'=>e=.returned (.bool (pok x && pok y && pok z))∧Below w.heap.size w w':=by
  cases h1:pok x <;> cases h2:pok y <;> cases h3:pok z
  all_goals
    go_enter Tryd.func12,Tryd.ntmps12
    go_wp2_with fail
    refine (q_coord hx _).mono ?_
    rintro _ _ ⟨rfl,rfl⟩
    go_wp2_with fail
    refine (q_coord hy _).mono ?_
    rintro _ _ ⟨rfl,rfl⟩
    go_wp2_with fail
    refine (q_coord hz _).mono ?_
    rintro _ _ ⟨rfl,rfl⟩
    go_wp2
    go_ret
    exact ⟨rfl,bel_alloc _ _⟩
set_option maxRecDepth 100000 in
set_option maxHeartbeats 1000000 in
theorem slgood_any (ao:Option Addr) (n cap:Nat) (s:Nat->Nat->Int) (w:World) (h:Sps w ao n cap s) (hs:∀ i k,rng (s i k)) :
    Calls Tryd.prog 5 #[.slice ao n cap] w fun x w'=>x=.returned (.bool (allB (sok s) n))∧Below w.heap.size w w':=by
  have hl:=h.le
  have hm:=h.max
  have CC:Hid (∀ i W,Calls Tryd.prog 12 #[.agg #[.int .i64 (s i 0),.int .i64 (s i 1),.int .i64 (s i 2)]] W fun e w'=>e=.returned (.bool (sok s i))∧Below W.heap.size W w'):=fun i W=>q_refSpace (hs i 0) (hs i 1) (hs i 2) W
  clear hs
  go_enter Tryd.func5,Tryd.ntmps5
  go_wp2_with fail
  go_loopw [3] (fun i wr=>∃ k:Nat,k<=n∧i=.int .i64 k∧Hid (∀ j,j<k->sok s j=true)∧Below w.heap.size w wr) (fun i _=>n-(intOf i).toNat)
  case atStart=>exact ⟨0,Nat.zero_le _,rfl,fun j hj=>by omega,bel_refl _⟩
  case round=>
    obtain ⟨k,hk,rfl,HO,hbw⟩:=hrel
    by_cases hlt:k<n
    . obtain ⟨b,off,rfl,hb,hc⟩:=h.spot (by omega)
      have c0:=(hbw.cell (p:=⟨b,off+k*3,none⟩) hb).trans (hc k hlt).1
      have c1:=(hbw.cell (p:=⟨b,off+k*3+1,none⟩) hb).trans (hc k hlt).2.1
      have c2:=(hbw.cell (p:=⟨b,off+k*3+2,none⟩) hb).trans (hc k hlt).2.2
      have CK:Hid (∀ W,Calls Tryd.prog 12 #[.agg #[.int .i64 (s k 0),.int .i64 (s k 1),.int .i64 (s k 2)]] W fun e w'=>e=.returned (.bool (sok s k))∧Below W.heap.size W w'):=CC.out k
      have HK:Hid (∀ q:sok s k=false,false=allB (sok s) n):=fun q=>(decide_eq_false fun hx=>by have:=hx k hlt; rw [this] at q; cases q).symm
      have HY:Hid (sok s k=true->∀ j,j<k+1->sok s j=true):=fun q j hj=>by
        by_cases e:j=k
        . subst e; exact q
        . exact HO.out j (by omega)
      clear hc
      by_cases hok:sok s k=true
      . rw [hok] at CK
        replace HY:Hid (∀ j,j<k+1->sok s j=true):=HY.out hok
        clear hok
        go_wp2_with (go_at_call 12; refine (CK.out _).mono ?_; rintro x w1 ⟨rfl,hb1⟩)
        go_roundw
        case rel=>exact ⟨k+1,by omega,by go_num,HY,hbw.trans (hb1.mono hbw.size)⟩
        case measure=>simp [intOf]; omega
      . have hok':sok s k=false:=by simpa using hok
        rw [hok'] at CK
        replace HK:Hid (false=allB (sok s) n):=HK.out hok'
        clear hok hok' HY
        go_wp2_with (go_at_call 12; refine (CK.out _).mono ?_; rintro x w1 ⟨rfl,hb1⟩)
        go_ret
        exact ⟨ret_bool HK.out,hbw.trans (hb1.mono hbw.size)⟩
    . obtain rfl:k=n:=by omega
      have HD:Hid (true=allB (sok s) k):=(decide_eq_true HO.out).symm
      go_wp2
      go_ret
      exact ⟨ret_bool HD.out,hbw⟩
set_option maxRecDepth 100000 in
set_option maxHeartbeats 1000000 in
theorem stame_any (ao:Option Addr) (n cap:Nat) (s:Nat->Nat->Int) (w:World) (h:Sps w ao n cap s) (hs:∀ i k,rng (s i k)) :
    Calls Tryd.prog 21 #[.slice ao n cap] w fun x w'=>x=.returned (.bool (allB (stm s) n))∧Below w.heap.size w w':=by
  have hl:=h.le
  have hm:=h.max
  have CT:Hid (∀ i k W,Calls Tryd.prog 37 #[.int .i64 (s i k)] W fun e w'=>e=.returned (.bool (tame (s i k)))∧w'=W):=fun i k W=>pointTame (hs i k) W
  clear hs
  go_enter Tryd.func21,Tryd.ntmps21
  go_wp2_with fail
  go_loopw [9] (fun i wr=>∃ k:Nat,k<=n∧i=.int .i64 k∧Hid (∀ j,j<k->stm s j=true)∧Below w.heap.size w wr) (fun i _=>n-(intOf i).toNat)
  case atStart=>exact ⟨0,Nat.zero_le _,rfl,fun j hj=>by omega,bel_refl _⟩
  case round=>
    obtain ⟨k,hk,rfl,HO,hbw⟩:=hrel
    by_cases hlt:k<n
    . obtain ⟨b,off,rfl,hb,hc⟩:=h.spot (by omega)
      have c0:=(hbw.cell (p:=⟨b,off+k*3,none⟩) hb).trans (hc k hlt).1
      have c1:=(hbw.cell (p:=⟨b,off+k*3+1,none⟩) hb).trans (hc k hlt).2.1
      have c2:=(hbw.cell (p:=⟨b,off+k*3+2,none⟩) hb).trans (hc k hlt).2.2
      have C0:Hid (∀ W,Calls Tryd.prog 37 #[.int .i64 (s k 0)] W fun e w'=>e=.returned (.bool (tame (s k 0)))∧w'=W):=CT.out k 0
      have C1:Hid (∀ W,Calls Tryd.prog 37 #[.int .i64 (s k 1)] W fun e w'=>e=.returned (.bool (tame (s k 1)))∧w'=W):=CT.out k 1
      have C2:Hid (∀ W,Calls Tryd.prog 37 #[.int .i64 (s k 2)] W fun e w'=>e=.returned (.bool (tame (s k 2)))∧w'=W):=CT.out k 2
      have HK:Hid (∀ q:stm s k=false,false=allB (stm s) n):=fun q=>(decide_eq_false fun hx=>by have:=hx k hlt; rw [this] at q; cases q).symm
      have HY:Hid (stm s k=true->∀ j,j<k+1->stm s j=true):=fun q j hj=>by
        by_cases e:j=k
        . subst e; exact q
        . exact HO.out j (by omega)
      have HX:Hid (stm s k=(tame (s k 0) && tame (s k 1) && tame (s k 2))):=rfl
      clear hc
      generalize s k 0=x0 at *
      generalize s k 1=x1 at *
      generalize s k 2=x2 at *
      have i0:∀ w,(Instr.index 78 (.agg #[.int .i64 x0,.int .i64 x1,.int .i64 x2]) (.int .i64 0)).run Tryd.prog w=.ok (.int .i64 x0) w:=fun _=>by kernel_rfl
      have i1:∀ w,(Instr.index 78 (.agg #[.int .i64 x0,.int .i64 x1,.int .i64 x2]) (.int .i64 1)).run Tryd.prog w=.ok (.int .i64 x1) w:=fun _=>by kernel_rfl
      have i2:∀ w,(Instr.index 78 (.agg #[.int .i64 x0,.int .i64 x1,.int .i64 x2]) (.int .i64 2)).run Tryd.prog w=.ok (.int .i64 x2) w:=fun _=>by kernel_rfl
      go_wp2_with fail
      refine (scoord_any _ _ _ _).mono ?_
      rintro _ y1 ⟨rfl,hy1⟩
      replace hbw:=hbw.trans ((bel_trans (bel_alloc _ _) hy1).mono hbw.size)
      clear c0 c1 c2 hy1
      go_wp2_with fail
      go_loopw [15] (fun i wr=>Hid (wr=y1)∧(i=.int .i64 0∨(i=.int .i64 1∧tame x0=true)∨(i=.int .i64 2∧tame x0=true∧tame x1=true)∨(i=.int .i64 3∧tame x0=true∧tame x1=true∧tame x2=true))) (fun i _=>3-(intOf i).toNat)
      case atStart=>exact ⟨rfl,.inl rfl⟩
      case round=>
        obtain ⟨HW,hrel⟩:=hrel
        obtain rfl:=HW.out
        rcases hrel with rfl | ⟨rfl,t0⟩ | ⟨rfl,t0,t1⟩ | ⟨rfl,t0,t1,t2⟩
        . cases hp:tame x0
          . rw [hp] at C0
            replace HK:Hid (false=allB (stm s) n):=HK.out (by rw [HX.out,hp]; rfl)
            go_wp2_with fail
            refine (C0.out _).mono ?_
            rintro _ wz ⟨rfl,hwz⟩
            replace hwz:=hwz.symm
            subst hwz
            go_wp2
            go_ret
            exact ⟨ret_bool HK.out,hbw⟩
          . have hp':Hid (tame x0=true):=hp
            rw [hp] at C0
            clear hp
            go_wp2_with fail
            refine (C0.out _).mono ?_
            rintro _ wz ⟨rfl,hwz⟩
            replace hwz:=hwz.symm
            subst hwz
            go_wp2
            go_roundw
            case rel=>exact ⟨hideIt trivial,.inr (.inl ⟨by go_num,trivial⟩)⟩
            case measure=>simp [intOf]
        . have t0:Hid (tame x0=true):=t0
          cases hp:tame x1
          . rw [hp] at C1
            replace HK:Hid (false=allB (stm s) n):=HK.out (by rw [HX.out,hp,t0.out]; rfl)
            go_wp2_with fail
            refine (C1.out _).mono ?_
            rintro _ wz ⟨rfl,hwz⟩
            replace hwz:=hwz.symm
            subst hwz
            go_wp2
            go_ret
            exact ⟨ret_bool HK.out,hbw⟩
          . have hp':Hid (tame x1=true):=hp
            rw [hp] at C1
            clear hp
            go_wp2_with fail
            refine (C1.out _).mono ?_
            rintro _ wz ⟨rfl,hwz⟩
            replace hwz:=hwz.symm
            subst hwz
            go_wp2
            go_roundw
            case rel=>exact ⟨hideIt trivial,.inr (.inr (.inl ⟨by go_num,t0.out,trivial⟩))⟩
            case measure=>simp [intOf]
        . have t0:Hid (tame x0=true∧tame x1=true):=⟨t0,t1⟩
          clear t1
          cases hp:tame x2
          . rw [hp] at C2
            replace HK:Hid (false=allB (stm s) n):=HK.out (by rw [HX.out,hp,t0.out.1,t0.out.2]; rfl)
            go_wp2_with fail
            refine (C2.out _).mono ?_
            rintro _ wz ⟨rfl,hwz⟩
            replace hwz:=hwz.symm
            subst hwz
            go_wp2
            go_ret
            exact ⟨ret_bool HK.out,hbw⟩
          . have hp':Hid (tame x2=true):=hp
            rw [hp] at C2
            clear hp
            go_wp2_with fail
            refine (C2.out _).mono ?_
            rintro _ wz ⟨rfl,hwz⟩
            replace hwz:=hwz.symm
            subst hwz
            go_wp2
            go_roundw
            case rel=>exact ⟨hideIt trivial,.inr (.inr (.inr ⟨by go_num,t0.out.1,t0.out.2,trivial⟩))⟩
            case measure=>simp [intOf]
        . replace HY:Hid (∀ j,j<k+1->stm s j=true):=HY.out (by rw [HX.out,t0,t1,t2]; rfl)
          clear t0 t1 t2
          go_wp2
          go_roundw
          case rel=>exact ⟨k+1,by omega,by go_num,HY,hbw⟩
          case measure=>simp [intOf]; omega
    . obtain rfl:k=n:=by omega
      have HD:Hid (true=allB (stm s) k):=(decide_eq_true HO.out).symm
      go_wp2
      go_ret
      exact ⟨ret_bool HD.out,hbw⟩
end Go.Proofs.YtobofhgpidbpmaaDoor
