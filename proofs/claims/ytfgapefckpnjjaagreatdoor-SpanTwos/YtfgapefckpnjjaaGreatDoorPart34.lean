/-
  plumblaw8's is and twos, by what the calls answer (tools/p8e.py)
-/
import Derived.Test.YtfgapefckpnjjaaGreatDoorPart33
import Derived.Deep.RegionHeld3
set_option linter.unusedVariables false
set_option linter.unusedSimpArgs false
namespace Go.Proofs.YtfgapefckpnjjaaGreatDoor
open Go Go.RowKit Go.Proofs.YtfgapefckpnjjaaGreatDoor.M
set_option maxRecDepth 100000 in
theorem is8_bad (x y:Int) (w:World):Calls Tryz.prog 19 #[.agg #[.int .i64 0,.int .i64 0],.int .i64 1,.bool true,.agg #[.int .i64 x,.int .i64 y]] w fun e w'=>e=.returned (.bool true)∧Below w.heap.size w w':=by
  have hb:=bel_refl w
  go_enter Tryz.func19,Tryz.ntmps19
  have s_k:=heap_a2 w (.cells #[.int .i64 0,.int .i64 0] 23) (.cells #[.int .i64 x,.int .i64 y] 23)
  have t_k:=heap_b2 w (.cells #[.int .i64 0,.int .i64 0] 23) (.cells #[.int .i64 x,.int .i64 y] 23)
  have f0:=blkC s_k 0 rfl
  have f1:=blkC s_k 1 rfl
  have f2:=blkC t_k 0 rfl
  have f3:=blkC t_k 1 rfl
  go_wp2
  go_ret
  exact ⟨rfl,bel_alloc2 w _ _⟩
set_option maxRecDepth 100000 in
theorem is_good (x y:Int) (w:World):Calls Tryz.prog 19 #[.agg #[.int .i64 x,.int .i64 y],.int .i64 0,.bool false,.agg #[.int .i64 x,.int .i64 y]] w fun e w'=>e=.returned (.bool true)∧Below w.heap.size w w':=by
  have hb:=bel_refl w
  go_enter Tryz.func19,Tryz.ntmps19
  have s_k:=heap_a2 w (.cells #[.int .i64 x,.int .i64 y] 23) (.cells #[.int .i64 x,.int .i64 y] 23)
  have t_k:=heap_b2 w (.cells #[.int .i64 x,.int .i64 y] 23) (.cells #[.int .i64 x,.int .i64 y] 23)
  have f0:=blkC s_k 0 rfl
  have f1:=blkC s_k 1 rfl
  have f2:=blkC t_k 0 rfl
  have f3:=blkC t_k 1 rfl
  go_wp2
  go_ret
  exact ⟨rfl,bel_alloc2 w _ _⟩
set_option maxRecDepth 100000 in
set_option maxHeartbeats 4000000 in
theorem twos8_bad {a b c d:Int} (v1 v2:Bool) (hv:(v1 && v2)=false) (w:World) (H:Hold4 w) (VA:Hid (∀ W,Calls Tryz.prog 11 #[.agg #[.int .i64 a,.int .i64 b]] W fun e w'=>e=.returned (.bool v1)∧Below W.heap.size W w')) (VB:Hid (∀ W,Calls Tryz.prog 11 #[.agg #[.int .i64 c,.int .i64 d]] W fun e w'=>e=.returned (.bool v2)∧Below W.heap.size W w')) (PA:Hid (∀ W,Hold4 W->Calls Tryz.prog 9 #[.agg #[.int .i64 a,.int .i64 b],.agg #[.int .i64 c,.int .i64 d]] W fun e w'=>e=.returned (.tuple #[.agg #[.int .i64 0,.int .i64 0],.int .i64 1])∧Below W.heap.size W w')) (PB:Hid (∀ W,Hold4 W->Calls Tryz.prog 27 #[.agg #[.int .i64 a,.int .i64 b],.agg #[.int .i64 c,.int .i64 d]] W fun e w'=>e=.returned (.tuple #[.agg #[.int .i64 0,.int .i64 0],.int .i64 1])∧Below W.heap.size W w')) (PC:Hid (∀ W,Hold4 W->Calls Tryz.prog 28 #[.agg #[.int .i64 a,.int .i64 b],.agg #[.int .i64 c,.int .i64 d]] W fun e w'=>e=.returned (.tuple #[.agg #[.int .i64 0,.int .i64 0],.int .i64 1])∧Below W.heap.size W w')) (PJ:Hid (∀ W,Hold4 W->Calls Tryz.prog 30 #[.agg #[.int .i64 a,.int .i64 b],.agg #[.int .i64 c,.int .i64 d]] W fun e w'=>e=.returned (.tuple #[.agg #[.int .i64 0,.int .i64 0],.int .i64 1])∧Below W.heap.size W w')) (PM:Hid (∀ W,Hold4 W->Calls Tryz.prog 29 #[.agg #[.int .i64 a,.int .i64 b],.agg #[.int .i64 c,.int .i64 d]] W fun e w'=>e=.returned (.tuple #[.agg #[.int .i64 0,.int .i64 0],.bool false,.int .i64 1])∧Below W.heap.size W w')) :
    Calls Tryz.prog 8 #[.agg #[.int .i64 a,.int .i64 b],.agg #[.int .i64 c,.int .i64 d]] w fun e w'=>e=.returned (.bool true)∧Below w.heap.size w w':=by
  cases v1
  . clear VB hv
    have hb:=bel_refl w
    go_enter Tryz.func8,Tryz.ntmps8
    have s_k:(w.alloc (.cells #[.int .i64 a,.int .i64 b] 23)).heap[w.heap.size]?=some (.cells #[.int .i64 a,.int .i64 b] 23):=heap_new (.cells #[.int .i64 a,.int .i64 b] 23) (by simp only [size_alloc])
    have H:=H.keeps (bel_alloc w (.cells #[.int .i64 a,.int .i64 b] 23))
    have hb:=bel_trans hb (bel_alloc w (.cells #[.int .i64 a,.int .i64 b] 23))
    have s_k:=heap_past (.cells #[.int .i64 c,.int .i64 d] 23) s_k
    have t_k:((w.alloc (.cells #[.int .i64 a,.int .i64 b] 23)).alloc (.cells #[.int .i64 c,.int .i64 d] 23)).heap[w.heap.size + 1]?=some (.cells #[.int .i64 c,.int .i64 d] 23):=heap_new (.cells #[.int .i64 c,.int .i64 d] 23) (by simp only [size_alloc])
    have H:=H.keeps (bel_alloc (w.alloc (.cells #[.int .i64 a,.int .i64 b] 23)) (.cells #[.int .i64 c,.int .i64 d] 23))
    have hb:=bel_trans hb (bel_alloc (w.alloc (.cells #[.int .i64 a,.int .i64 b] 23)) (.cells #[.int .i64 c,.int .i64 d] 23))
    have f_s0:=blkC s_k 0 rfl
    have f_s1:=blkC s_k 1 rfl
    go_wp2_with fail
    clear f_s0 f_s1
    generalize ((w.alloc (.cells #[.int .i64 a,.int .i64 b] 23)).alloc (.cells #[.int .i64 c,.int .i64 d] 23))=x1 at s_k t_k H hb ⊢
    refine (VA.out _).mono ?_
    rintro _ y2 ⟨rfl,hw⟩
    have s_k:=blk_up hw s_k
    have t_k:=blk_up hw t_k
    have H:=H.keeps hw
    have hb:=bel_trans hb hw
    have f_s0:=blkC s_k 0 rfl
    have f_s1:=blkC s_k 1 rfl
    have f_t0:=blkC t_k 0 rfl
    have f_t1:=blkC t_k 1 rfl
    go_wp2_with fail
    clear f_s0 f_s1 f_t0 f_t1
    refine (PA.out _ H).mono ?_
    rintro _ y3 ⟨rfl,hw⟩
    have s_k:=blk_up hw s_k
    have t_k:=blk_up hw t_k
    have H:=H.keeps hw
    have hb:=bel_trans hb hw
    have s_k:=heap_past (.cells #[.int .i64 0,.int .i64 0] 23) s_k
    have t_k:=heap_past (.cells #[.int .i64 0,.int .i64 0] 23) t_k
    have x0_k:(y3.alloc (.cells #[.int .i64 0,.int .i64 0] 23)).heap[y3.heap.size]?=some (.cells #[.int .i64 0,.int .i64 0] 23):=heap_new (.cells #[.int .i64 0,.int .i64 0] 23) (by simp only [size_alloc])
    have H:=H.keeps (bel_alloc y3 (.cells #[.int .i64 0,.int .i64 0] 23))
    have hb:=bel_trans hb (bel_alloc y3 (.cells #[.int .i64 0,.int .i64 0] 23))
    have f_s0:=blkC s_k 0 rfl
    have f_s1:=blkC s_k 1 rfl
    have f_t0:=blkC t_k 0 rfl
    have f_t1:=blkC t_k 1 rfl
    go_wp2_with fail
    clear f_s0 f_s1 f_t0 f_t1
    generalize (y3.alloc (.cells #[.int .i64 0,.int .i64 0] 23))=x4 at s_k t_k x0_k H hb ⊢
    refine (PB.out _ H).mono ?_
    rintro _ y5 ⟨rfl,hw⟩
    have s_k:=blk_up hw s_k
    have t_k:=blk_up hw t_k
    have x0_k:=blk_up hw x0_k
    have H:=H.keeps hw
    have hb:=bel_trans hb hw
    have s_k:=heap_past (.cells #[.int .i64 0,.int .i64 0] 23) s_k
    have t_k:=heap_past (.cells #[.int .i64 0,.int .i64 0] 23) t_k
    have x0_k:=heap_past (.cells #[.int .i64 0,.int .i64 0] 23) x0_k
    have x1_k:(y5.alloc (.cells #[.int .i64 0,.int .i64 0] 23)).heap[y5.heap.size]?=some (.cells #[.int .i64 0,.int .i64 0] 23):=heap_new (.cells #[.int .i64 0,.int .i64 0] 23) (by simp only [size_alloc])
    have H:=H.keeps (bel_alloc y5 (.cells #[.int .i64 0,.int .i64 0] 23))
    have hb:=bel_trans hb (bel_alloc y5 (.cells #[.int .i64 0,.int .i64 0] 23))
    have f_s0:=blkC s_k 0 rfl
    have f_s1:=blkC s_k 1 rfl
    have f_t0:=blkC t_k 0 rfl
    have f_t1:=blkC t_k 1 rfl
    go_wp2_with fail
    clear f_s0 f_s1 f_t0 f_t1
    generalize (y5.alloc (.cells #[.int .i64 0,.int .i64 0] 23))=x6 at s_k t_k x0_k x1_k H hb ⊢
    refine (PC.out _ H).mono ?_
    rintro _ y7 ⟨rfl,hw⟩
    have s_k:=blk_up hw s_k
    have t_k:=blk_up hw t_k
    have x0_k:=blk_up hw x0_k
    have x1_k:=blk_up hw x1_k
    have H:=H.keeps hw
    have hb:=bel_trans hb hw
    have s_k:=heap_past (.cells #[.int .i64 0,.int .i64 0] 23) s_k
    have t_k:=heap_past (.cells #[.int .i64 0,.int .i64 0] 23) t_k
    have x0_k:=heap_past (.cells #[.int .i64 0,.int .i64 0] 23) x0_k
    have x1_k:=heap_past (.cells #[.int .i64 0,.int .i64 0] 23) x1_k
    have x2_k:(y7.alloc (.cells #[.int .i64 0,.int .i64 0] 23)).heap[y7.heap.size]?=some (.cells #[.int .i64 0,.int .i64 0] 23):=heap_new (.cells #[.int .i64 0,.int .i64 0] 23) (by simp only [size_alloc])
    have H:=H.keeps (bel_alloc y7 (.cells #[.int .i64 0,.int .i64 0] 23))
    have hb:=bel_trans hb (bel_alloc y7 (.cells #[.int .i64 0,.int .i64 0] 23))
    have f_s0:=blkC s_k 0 rfl
    have f_s1:=blkC s_k 1 rfl
    have f_t0:=blkC t_k 0 rfl
    have f_t1:=blkC t_k 1 rfl
    go_wp2_with fail
    clear f_s0 f_s1 f_t0 f_t1
    generalize (y7.alloc (.cells #[.int .i64 0,.int .i64 0] 23))=x8 at s_k t_k x0_k x1_k x2_k H hb ⊢
    refine (PM.out _ H).mono ?_
    rintro _ y9 ⟨rfl,hw⟩
    have s_k:=blk_up hw s_k
    have t_k:=blk_up hw t_k
    have x0_k:=blk_up hw x0_k
    have x1_k:=blk_up hw x1_k
    have x2_k:=blk_up hw x2_k
    have H:=H.keeps hw
    have hb:=bel_trans hb hw
    have s_k:=heap_past (.cells #[.int .i64 0,.int .i64 0] 23) s_k
    have t_k:=heap_past (.cells #[.int .i64 0,.int .i64 0] 23) t_k
    have x0_k:=heap_past (.cells #[.int .i64 0,.int .i64 0] 23) x0_k
    have x1_k:=heap_past (.cells #[.int .i64 0,.int .i64 0] 23) x1_k
    have x2_k:=heap_past (.cells #[.int .i64 0,.int .i64 0] 23) x2_k
    have x3_k:(y9.alloc (.cells #[.int .i64 0,.int .i64 0] 23)).heap[y9.heap.size]?=some (.cells #[.int .i64 0,.int .i64 0] 23):=heap_new (.cells #[.int .i64 0,.int .i64 0] 23) (by simp only [size_alloc])
    have H:=H.keeps (bel_alloc y9 (.cells #[.int .i64 0,.int .i64 0] 23))
    have hb:=bel_trans hb (bel_alloc y9 (.cells #[.int .i64 0,.int .i64 0] 23))
    have f_s0:=blkC s_k 0 rfl
    have f_s1:=blkC s_k 1 rfl
    have f_t0:=blkC t_k 0 rfl
    have f_t1:=blkC t_k 1 rfl
    go_wp2_with fail
    clear f_s0 f_s1 f_t0 f_t1
    generalize (y9.alloc (.cells #[.int .i64 0,.int .i64 0] 23))=x10 at s_k t_k x0_k x1_k x2_k x3_k H hb ⊢
    refine (PJ.out _ H).mono ?_
    rintro _ y11 ⟨rfl,hw⟩
    have s_k:=blk_up hw s_k
    have t_k:=blk_up hw t_k
    have x0_k:=blk_up hw x0_k
    have x1_k:=blk_up hw x1_k
    have x2_k:=blk_up hw x2_k
    have x3_k:=blk_up hw x3_k
    have H:=H.keeps hw
    have hb:=bel_trans hb hw
    have s_k:=heap_past (.cells #[.int .i64 0,.int .i64 0] 23) s_k
    have t_k:=heap_past (.cells #[.int .i64 0,.int .i64 0] 23) t_k
    have x0_k:=heap_past (.cells #[.int .i64 0,.int .i64 0] 23) x0_k
    have x1_k:=heap_past (.cells #[.int .i64 0,.int .i64 0] 23) x1_k
    have x2_k:=heap_past (.cells #[.int .i64 0,.int .i64 0] 23) x2_k
    have x3_k:=heap_past (.cells #[.int .i64 0,.int .i64 0] 23) x3_k
    have x4_k:(y11.alloc (.cells #[.int .i64 0,.int .i64 0] 23)).heap[y11.heap.size]?=some (.cells #[.int .i64 0,.int .i64 0] 23):=heap_new (.cells #[.int .i64 0,.int .i64 0] 23) (by simp only [size_alloc])
    have H:=H.keeps (bel_alloc y11 (.cells #[.int .i64 0,.int .i64 0] 23))
    have hb:=bel_trans hb (bel_alloc y11 (.cells #[.int .i64 0,.int .i64 0] 23))
    have f_x00:=blkC x0_k 0 rfl
    have f_x01:=blkC x0_k 1 rfl
    have f_s0:=blkC s_k 0 rfl
    have f_s1:=blkC s_k 1 rfl
    go_wp2_with fail
    clear f_x00 f_x01 f_s0 f_s1
    generalize (y11.alloc (.cells #[.int .i64 0,.int .i64 0] 23))=x12 at s_k t_k x0_k x1_k x2_k x3_k x4_k H hb ⊢
    refine (is8_bad _ _ _).mono ?_
    rintro _ y13 ⟨rfl,hw⟩
    have s_k:=blk_up hw s_k
    have t_k:=blk_up hw t_k
    have x0_k:=blk_up hw x0_k
    have x1_k:=blk_up hw x1_k
    have x2_k:=blk_up hw x2_k
    have x3_k:=blk_up hw x3_k
    have x4_k:=blk_up hw x4_k
    have H:=H.keeps hw
    have hb:=bel_trans hb hw
    have f_x10:=blkC x1_k 0 rfl
    have f_x11:=blkC x1_k 1 rfl
    have f_s0:=blkC s_k 0 rfl
    have f_s1:=blkC s_k 1 rfl
    go_wp2_with fail
    clear f_x10 f_x11 f_s0 f_s1
    refine (is8_bad _ _ _).mono ?_
    rintro _ y14 ⟨rfl,hw⟩
    have s_k:=blk_up hw s_k
    have t_k:=blk_up hw t_k
    have x0_k:=blk_up hw x0_k
    have x1_k:=blk_up hw x1_k
    have x2_k:=blk_up hw x2_k
    have x3_k:=blk_up hw x3_k
    have x4_k:=blk_up hw x4_k
    have H:=H.keeps hw
    have hb:=bel_trans hb hw
    have f_x20:=blkC x2_k 0 rfl
    have f_x21:=blkC x2_k 1 rfl
    have f_s0:=blkC s_k 0 rfl
    have f_s1:=blkC s_k 1 rfl
    go_wp2_with fail
    clear f_x20 f_x21 f_s0 f_s1
    refine (is8_bad _ _ _).mono ?_
    rintro _ y15 ⟨rfl,hw⟩
    have s_k:=blk_up hw s_k
    have t_k:=blk_up hw t_k
    have x0_k:=blk_up hw x0_k
    have x1_k:=blk_up hw x1_k
    have x2_k:=blk_up hw x2_k
    have x3_k:=blk_up hw x3_k
    have x4_k:=blk_up hw x4_k
    have H:=H.keeps hw
    have hb:=bel_trans hb hw
    have f_x30:=blkC x3_k 0 rfl
    have f_x31:=blkC x3_k 1 rfl
    have f_s0:=blkC s_k 0 rfl
    have f_s1:=blkC s_k 1 rfl
    go_wp2_with fail
    clear f_x30 f_x31 f_s0 f_s1
    refine (is8_bad _ _ _).mono ?_
    rintro _ y16 ⟨rfl,hw⟩
    have s_k:=blk_up hw s_k
    have t_k:=blk_up hw t_k
    have x0_k:=blk_up hw x0_k
    have x1_k:=blk_up hw x1_k
    have x2_k:=blk_up hw x2_k
    have x3_k:=blk_up hw x3_k
    have x4_k:=blk_up hw x4_k
    have H:=H.keeps hw
    have hb:=bel_trans hb hw
    have f_x40:=blkC x4_k 0 rfl
    have f_x41:=blkC x4_k 1 rfl
    have f_s0:=blkC s_k 0 rfl
    have f_s1:=blkC s_k 1 rfl
    go_wp2_with fail
    clear f_x40 f_x41 f_s0 f_s1
    refine (is8_bad _ _ _).mono ?_
    rintro _ y17 ⟨rfl,hw⟩
    have s_k:=blk_up hw s_k
    have t_k:=blk_up hw t_k
    have x0_k:=blk_up hw x0_k
    have x1_k:=blk_up hw x1_k
    have x2_k:=blk_up hw x2_k
    have x3_k:=blk_up hw x3_k
    have x4_k:=blk_up hw x4_k
    have H:=H.keeps hw
    have hb:=bel_trans hb hw
    go_wp2
    go_ret
    exact ⟨rfl,hb⟩
  . have h2:v2=false:=hv
    subst h2
    clear hv
    have hb:=bel_refl w
    go_enter Tryz.func8,Tryz.ntmps8
    have s_k:(w.alloc (.cells #[.int .i64 a,.int .i64 b] 23)).heap[w.heap.size]?=some (.cells #[.int .i64 a,.int .i64 b] 23):=heap_new (.cells #[.int .i64 a,.int .i64 b] 23) (by simp only [size_alloc])
    have H:=H.keeps (bel_alloc w (.cells #[.int .i64 a,.int .i64 b] 23))
    have hb:=bel_trans hb (bel_alloc w (.cells #[.int .i64 a,.int .i64 b] 23))
    have s_k:=heap_past (.cells #[.int .i64 c,.int .i64 d] 23) s_k
    have t_k:((w.alloc (.cells #[.int .i64 a,.int .i64 b] 23)).alloc (.cells #[.int .i64 c,.int .i64 d] 23)).heap[w.heap.size + 1]?=some (.cells #[.int .i64 c,.int .i64 d] 23):=heap_new (.cells #[.int .i64 c,.int .i64 d] 23) (by simp only [size_alloc])
    have H:=H.keeps (bel_alloc (w.alloc (.cells #[.int .i64 a,.int .i64 b] 23)) (.cells #[.int .i64 c,.int .i64 d] 23))
    have hb:=bel_trans hb (bel_alloc (w.alloc (.cells #[.int .i64 a,.int .i64 b] 23)) (.cells #[.int .i64 c,.int .i64 d] 23))
    have f_s0:=blkC s_k 0 rfl
    have f_s1:=blkC s_k 1 rfl
    go_wp2_with fail
    clear f_s0 f_s1
    generalize ((w.alloc (.cells #[.int .i64 a,.int .i64 b] 23)).alloc (.cells #[.int .i64 c,.int .i64 d] 23))=x1 at s_k t_k H hb ⊢
    refine (VA.out _).mono ?_
    rintro _ y2 ⟨rfl,hw⟩
    have s_k:=blk_up hw s_k
    have t_k:=blk_up hw t_k
    have H:=H.keeps hw
    have hb:=bel_trans hb hw
    have f_t0:=blkC t_k 0 rfl
    have f_t1:=blkC t_k 1 rfl
    go_wp2_with fail
    clear f_t0 f_t1
    refine (VB.out _).mono ?_
    rintro _ y3 ⟨rfl,hw⟩
    have s_k:=blk_up hw s_k
    have t_k:=blk_up hw t_k
    have H:=H.keeps hw
    have hb:=bel_trans hb hw
    have f_s0:=blkC s_k 0 rfl
    have f_s1:=blkC s_k 1 rfl
    have f_t0:=blkC t_k 0 rfl
    have f_t1:=blkC t_k 1 rfl
    go_wp2_with fail
    clear f_s0 f_s1 f_t0 f_t1
    refine (PA.out _ H).mono ?_
    rintro _ y4 ⟨rfl,hw⟩
    have s_k:=blk_up hw s_k
    have t_k:=blk_up hw t_k
    have H:=H.keeps hw
    have hb:=bel_trans hb hw
    have s_k:=heap_past (.cells #[.int .i64 0,.int .i64 0] 23) s_k
    have t_k:=heap_past (.cells #[.int .i64 0,.int .i64 0] 23) t_k
    have x0_k:(y4.alloc (.cells #[.int .i64 0,.int .i64 0] 23)).heap[y4.heap.size]?=some (.cells #[.int .i64 0,.int .i64 0] 23):=heap_new (.cells #[.int .i64 0,.int .i64 0] 23) (by simp only [size_alloc])
    have H:=H.keeps (bel_alloc y4 (.cells #[.int .i64 0,.int .i64 0] 23))
    have hb:=bel_trans hb (bel_alloc y4 (.cells #[.int .i64 0,.int .i64 0] 23))
    have f_s0:=blkC s_k 0 rfl
    have f_s1:=blkC s_k 1 rfl
    have f_t0:=blkC t_k 0 rfl
    have f_t1:=blkC t_k 1 rfl
    go_wp2_with fail
    clear f_s0 f_s1 f_t0 f_t1
    generalize (y4.alloc (.cells #[.int .i64 0,.int .i64 0] 23))=x5 at s_k t_k x0_k H hb ⊢
    refine (PB.out _ H).mono ?_
    rintro _ y6 ⟨rfl,hw⟩
    have s_k:=blk_up hw s_k
    have t_k:=blk_up hw t_k
    have x0_k:=blk_up hw x0_k
    have H:=H.keeps hw
    have hb:=bel_trans hb hw
    have s_k:=heap_past (.cells #[.int .i64 0,.int .i64 0] 23) s_k
    have t_k:=heap_past (.cells #[.int .i64 0,.int .i64 0] 23) t_k
    have x0_k:=heap_past (.cells #[.int .i64 0,.int .i64 0] 23) x0_k
    have x1_k:(y6.alloc (.cells #[.int .i64 0,.int .i64 0] 23)).heap[y6.heap.size]?=some (.cells #[.int .i64 0,.int .i64 0] 23):=heap_new (.cells #[.int .i64 0,.int .i64 0] 23) (by simp only [size_alloc])
    have H:=H.keeps (bel_alloc y6 (.cells #[.int .i64 0,.int .i64 0] 23))
    have hb:=bel_trans hb (bel_alloc y6 (.cells #[.int .i64 0,.int .i64 0] 23))
    have f_s0:=blkC s_k 0 rfl
    have f_s1:=blkC s_k 1 rfl
    have f_t0:=blkC t_k 0 rfl
    have f_t1:=blkC t_k 1 rfl
    go_wp2_with fail
    clear f_s0 f_s1 f_t0 f_t1
    generalize (y6.alloc (.cells #[.int .i64 0,.int .i64 0] 23))=x7 at s_k t_k x0_k x1_k H hb ⊢
    refine (PC.out _ H).mono ?_
    rintro _ y8 ⟨rfl,hw⟩
    have s_k:=blk_up hw s_k
    have t_k:=blk_up hw t_k
    have x0_k:=blk_up hw x0_k
    have x1_k:=blk_up hw x1_k
    have H:=H.keeps hw
    have hb:=bel_trans hb hw
    have s_k:=heap_past (.cells #[.int .i64 0,.int .i64 0] 23) s_k
    have t_k:=heap_past (.cells #[.int .i64 0,.int .i64 0] 23) t_k
    have x0_k:=heap_past (.cells #[.int .i64 0,.int .i64 0] 23) x0_k
    have x1_k:=heap_past (.cells #[.int .i64 0,.int .i64 0] 23) x1_k
    have x2_k:(y8.alloc (.cells #[.int .i64 0,.int .i64 0] 23)).heap[y8.heap.size]?=some (.cells #[.int .i64 0,.int .i64 0] 23):=heap_new (.cells #[.int .i64 0,.int .i64 0] 23) (by simp only [size_alloc])
    have H:=H.keeps (bel_alloc y8 (.cells #[.int .i64 0,.int .i64 0] 23))
    have hb:=bel_trans hb (bel_alloc y8 (.cells #[.int .i64 0,.int .i64 0] 23))
    have f_s0:=blkC s_k 0 rfl
    have f_s1:=blkC s_k 1 rfl
    have f_t0:=blkC t_k 0 rfl
    have f_t1:=blkC t_k 1 rfl
    go_wp2_with fail
    clear f_s0 f_s1 f_t0 f_t1
    generalize (y8.alloc (.cells #[.int .i64 0,.int .i64 0] 23))=x9 at s_k t_k x0_k x1_k x2_k H hb ⊢
    refine (PM.out _ H).mono ?_
    rintro _ y10 ⟨rfl,hw⟩
    have s_k:=blk_up hw s_k
    have t_k:=blk_up hw t_k
    have x0_k:=blk_up hw x0_k
    have x1_k:=blk_up hw x1_k
    have x2_k:=blk_up hw x2_k
    have H:=H.keeps hw
    have hb:=bel_trans hb hw
    have s_k:=heap_past (.cells #[.int .i64 0,.int .i64 0] 23) s_k
    have t_k:=heap_past (.cells #[.int .i64 0,.int .i64 0] 23) t_k
    have x0_k:=heap_past (.cells #[.int .i64 0,.int .i64 0] 23) x0_k
    have x1_k:=heap_past (.cells #[.int .i64 0,.int .i64 0] 23) x1_k
    have x2_k:=heap_past (.cells #[.int .i64 0,.int .i64 0] 23) x2_k
    have x3_k:(y10.alloc (.cells #[.int .i64 0,.int .i64 0] 23)).heap[y10.heap.size]?=some (.cells #[.int .i64 0,.int .i64 0] 23):=heap_new (.cells #[.int .i64 0,.int .i64 0] 23) (by simp only [size_alloc])
    have H:=H.keeps (bel_alloc y10 (.cells #[.int .i64 0,.int .i64 0] 23))
    have hb:=bel_trans hb (bel_alloc y10 (.cells #[.int .i64 0,.int .i64 0] 23))
    have f_s0:=blkC s_k 0 rfl
    have f_s1:=blkC s_k 1 rfl
    have f_t0:=blkC t_k 0 rfl
    have f_t1:=blkC t_k 1 rfl
    go_wp2_with fail
    clear f_s0 f_s1 f_t0 f_t1
    generalize (y10.alloc (.cells #[.int .i64 0,.int .i64 0] 23))=x11 at s_k t_k x0_k x1_k x2_k x3_k H hb ⊢
    refine (PJ.out _ H).mono ?_
    rintro _ y12 ⟨rfl,hw⟩
    have s_k:=blk_up hw s_k
    have t_k:=blk_up hw t_k
    have x0_k:=blk_up hw x0_k
    have x1_k:=blk_up hw x1_k
    have x2_k:=blk_up hw x2_k
    have x3_k:=blk_up hw x3_k
    have H:=H.keeps hw
    have hb:=bel_trans hb hw
    have s_k:=heap_past (.cells #[.int .i64 0,.int .i64 0] 23) s_k
    have t_k:=heap_past (.cells #[.int .i64 0,.int .i64 0] 23) t_k
    have x0_k:=heap_past (.cells #[.int .i64 0,.int .i64 0] 23) x0_k
    have x1_k:=heap_past (.cells #[.int .i64 0,.int .i64 0] 23) x1_k
    have x2_k:=heap_past (.cells #[.int .i64 0,.int .i64 0] 23) x2_k
    have x3_k:=heap_past (.cells #[.int .i64 0,.int .i64 0] 23) x3_k
    have x4_k:(y12.alloc (.cells #[.int .i64 0,.int .i64 0] 23)).heap[y12.heap.size]?=some (.cells #[.int .i64 0,.int .i64 0] 23):=heap_new (.cells #[.int .i64 0,.int .i64 0] 23) (by simp only [size_alloc])
    have H:=H.keeps (bel_alloc y12 (.cells #[.int .i64 0,.int .i64 0] 23))
    have hb:=bel_trans hb (bel_alloc y12 (.cells #[.int .i64 0,.int .i64 0] 23))
    have f_x00:=blkC x0_k 0 rfl
    have f_x01:=blkC x0_k 1 rfl
    have f_s0:=blkC s_k 0 rfl
    have f_s1:=blkC s_k 1 rfl
    go_wp2_with fail
    clear f_x00 f_x01 f_s0 f_s1
    generalize (y12.alloc (.cells #[.int .i64 0,.int .i64 0] 23))=x13 at s_k t_k x0_k x1_k x2_k x3_k x4_k H hb ⊢
    refine (is8_bad _ _ _).mono ?_
    rintro _ y14 ⟨rfl,hw⟩
    have s_k:=blk_up hw s_k
    have t_k:=blk_up hw t_k
    have x0_k:=blk_up hw x0_k
    have x1_k:=blk_up hw x1_k
    have x2_k:=blk_up hw x2_k
    have x3_k:=blk_up hw x3_k
    have x4_k:=blk_up hw x4_k
    have H:=H.keeps hw
    have hb:=bel_trans hb hw
    have f_x10:=blkC x1_k 0 rfl
    have f_x11:=blkC x1_k 1 rfl
    have f_s0:=blkC s_k 0 rfl
    have f_s1:=blkC s_k 1 rfl
    go_wp2_with fail
    clear f_x10 f_x11 f_s0 f_s1
    refine (is8_bad _ _ _).mono ?_
    rintro _ y15 ⟨rfl,hw⟩
    have s_k:=blk_up hw s_k
    have t_k:=blk_up hw t_k
    have x0_k:=blk_up hw x0_k
    have x1_k:=blk_up hw x1_k
    have x2_k:=blk_up hw x2_k
    have x3_k:=blk_up hw x3_k
    have x4_k:=blk_up hw x4_k
    have H:=H.keeps hw
    have hb:=bel_trans hb hw
    have f_x20:=blkC x2_k 0 rfl
    have f_x21:=blkC x2_k 1 rfl
    have f_s0:=blkC s_k 0 rfl
    have f_s1:=blkC s_k 1 rfl
    go_wp2_with fail
    clear f_x20 f_x21 f_s0 f_s1
    refine (is8_bad _ _ _).mono ?_
    rintro _ y16 ⟨rfl,hw⟩
    have s_k:=blk_up hw s_k
    have t_k:=blk_up hw t_k
    have x0_k:=blk_up hw x0_k
    have x1_k:=blk_up hw x1_k
    have x2_k:=blk_up hw x2_k
    have x3_k:=blk_up hw x3_k
    have x4_k:=blk_up hw x4_k
    have H:=H.keeps hw
    have hb:=bel_trans hb hw
    have f_x30:=blkC x3_k 0 rfl
    have f_x31:=blkC x3_k 1 rfl
    have f_s0:=blkC s_k 0 rfl
    have f_s1:=blkC s_k 1 rfl
    go_wp2_with fail
    clear f_x30 f_x31 f_s0 f_s1
    refine (is8_bad _ _ _).mono ?_
    rintro _ y17 ⟨rfl,hw⟩
    have s_k:=blk_up hw s_k
    have t_k:=blk_up hw t_k
    have x0_k:=blk_up hw x0_k
    have x1_k:=blk_up hw x1_k
    have x2_k:=blk_up hw x2_k
    have x3_k:=blk_up hw x3_k
    have x4_k:=blk_up hw x4_k
    have H:=H.keeps hw
    have hb:=bel_trans hb hw
    have f_x40:=blkC x4_k 0 rfl
    have f_x41:=blkC x4_k 1 rfl
    have f_s0:=blkC s_k 0 rfl
    have f_s1:=blkC s_k 1 rfl
    go_wp2_with fail
    clear f_x40 f_x41 f_s0 f_s1
    refine (is8_bad _ _ _).mono ?_
    rintro _ y18 ⟨rfl,hw⟩
    have s_k:=blk_up hw s_k
    have t_k:=blk_up hw t_k
    have x0_k:=blk_up hw x0_k
    have x1_k:=blk_up hw x1_k
    have x2_k:=blk_up hw x2_k
    have x3_k:=blk_up hw x3_k
    have x4_k:=blk_up hw x4_k
    have H:=H.keeps hw
    have hb:=bel_trans hb hw
    go_wp2
    go_ret
    exact ⟨rfl,hb⟩
set_option maxRecDepth 100000 in
set_option maxHeartbeats 16000000 in
theorem twos_good {a b c d p0 p1 q0 q1 u0 u1 m0 m1 j0 j1:Int} (mk:Bool) (w:World) (H:Hold4 w) (VA:Hid (∀ W,Calls Tryz.prog 11 #[.agg #[.int .i64 a,.int .i64 b]] W fun e w'=>e=.returned (.bool true)∧Below W.heap.size W w')) (VB:Hid (∀ W,Calls Tryz.prog 11 #[.agg #[.int .i64 c,.int .i64 d]] W fun e w'=>e=.returned (.bool true)∧Below W.heap.size W w')) (PA:Hid (∀ W,Hold4 W->Calls Tryz.prog 9 #[.agg #[.int .i64 a,.int .i64 b],.agg #[.int .i64 c,.int .i64 d]] W fun e w'=>e=.returned (.tuple #[.agg #[.int .i64 p0,.int .i64 p1],.int .i64 0])∧Below W.heap.size W w')) (PB:Hid (∀ W,Hold4 W->Calls Tryz.prog 27 #[.agg #[.int .i64 a,.int .i64 b],.agg #[.int .i64 c,.int .i64 d]] W fun e w'=>e=.returned (.tuple #[.agg #[.int .i64 q0,.int .i64 q1],.int .i64 0])∧Below W.heap.size W w')) (PC:Hid (∀ W,Hold4 W->Calls Tryz.prog 28 #[.agg #[.int .i64 a,.int .i64 b],.agg #[.int .i64 c,.int .i64 d]] W fun e w'=>e=.returned (.tuple #[.agg #[.int .i64 u0,.int .i64 u1],.int .i64 0])∧Below W.heap.size W w')) (PJ:Hid (∀ W,Hold4 W->Calls Tryz.prog 30 #[.agg #[.int .i64 a,.int .i64 b],.agg #[.int .i64 c,.int .i64 d]] W fun e w'=>e=.returned (.tuple #[.agg #[.int .i64 j0,.int .i64 j1],.int .i64 0])∧Below W.heap.size W w')) (PM:Hid (∀ W,Hold4 W->Calls Tryz.prog 29 #[.agg #[.int .i64 a,.int .i64 b],.agg #[.int .i64 c,.int .i64 d]] W fun e w'=>e=.returned (.tuple #[.agg #[.int .i64 m0,.int .i64 m1],.bool mk,.int .i64 0])∧Below W.heap.size W w')) (RA:Hid (∀ W,Calls Tryz.prog 32 #[.agg #[.int .i64 a,.int .i64 b],.agg #[.int .i64 c,.int .i64 d]] W fun e w'=>e=.returned (.agg #[.int .i64 p0,.int .i64 p1])∧Below W.heap.size W w')) (RB:Hid (∀ W,Calls Tryz.prog 33 #[.agg #[.int .i64 a,.int .i64 b],.agg #[.int .i64 c,.int .i64 d]] W fun e w'=>e=.returned (.agg #[.int .i64 q0,.int .i64 q1])∧Below W.heap.size W w')) (RC:Hid (∀ W,Calls Tryz.prog 34 #[.agg #[.int .i64 a,.int .i64 b],.agg #[.int .i64 c,.int .i64 d]] W fun e w'=>e=.returned (.agg #[.int .i64 u0,.int .i64 u1])∧Below W.heap.size W w')) (RJ:Hid (∀ W,Calls Tryz.prog 35 #[.agg #[.int .i64 a,.int .i64 b],.agg #[.int .i64 c,.int .i64 d]] W fun e w'=>e=.returned (.agg #[.int .i64 j0,.int .i64 j1])∧Below W.heap.size W w')) (RM:Hid (∀ W,Calls Tryz.prog 31 #[.agg #[.int .i64 a,.int .i64 b],.agg #[.int .i64 c,.int .i64 d]] W fun e w'=>e=.returned (.tuple #[.agg #[.int .i64 m0,.int .i64 m1],.bool mk])∧Below W.heap.size W w')) :
    Calls Tryz.prog 8 #[.agg #[.int .i64 a,.int .i64 b],.agg #[.int .i64 c,.int .i64 d]] w fun e w'=>e=.returned (.bool true)∧Below w.heap.size w w':=by
  have hb:=bel_refl w
  go_enter Tryz.func8,Tryz.ntmps8
  have s_k:(w.alloc (.cells #[.int .i64 a,.int .i64 b] 23)).heap[w.heap.size]?=some (.cells #[.int .i64 a,.int .i64 b] 23):=heap_new (.cells #[.int .i64 a,.int .i64 b] 23) (by simp only [size_alloc])
  have H:=H.keeps (bel_alloc w (.cells #[.int .i64 a,.int .i64 b] 23))
  have hb:=bel_trans hb (bel_alloc w (.cells #[.int .i64 a,.int .i64 b] 23))
  have s_k:=heap_past (.cells #[.int .i64 c,.int .i64 d] 23) s_k
  have t_k:((w.alloc (.cells #[.int .i64 a,.int .i64 b] 23)).alloc (.cells #[.int .i64 c,.int .i64 d] 23)).heap[w.heap.size + 1]?=some (.cells #[.int .i64 c,.int .i64 d] 23):=heap_new (.cells #[.int .i64 c,.int .i64 d] 23) (by simp only [size_alloc])
  have H:=H.keeps (bel_alloc (w.alloc (.cells #[.int .i64 a,.int .i64 b] 23)) (.cells #[.int .i64 c,.int .i64 d] 23))
  have hb:=bel_trans hb (bel_alloc (w.alloc (.cells #[.int .i64 a,.int .i64 b] 23)) (.cells #[.int .i64 c,.int .i64 d] 23))
  have f_s0:=blkC s_k 0 rfl
  have f_s1:=blkC s_k 1 rfl
  go_wp2_with fail
  clear f_s0 f_s1
  generalize ((w.alloc (.cells #[.int .i64 a,.int .i64 b] 23)).alloc (.cells #[.int .i64 c,.int .i64 d] 23))=x1 at s_k t_k H hb ⊢
  refine (VA.out _).mono ?_
  rintro _ y2 ⟨rfl,hw⟩
  have s_k:=blk_up hw s_k
  have t_k:=blk_up hw t_k
  have H:=H.keeps hw
  have hb:=bel_trans hb hw
  have f_t0:=blkC t_k 0 rfl
  have f_t1:=blkC t_k 1 rfl
  go_wp2_with fail
  clear f_t0 f_t1
  refine (VB.out _).mono ?_
  rintro _ y3 ⟨rfl,hw⟩
  have s_k:=blk_up hw s_k
  have t_k:=blk_up hw t_k
  have H:=H.keeps hw
  have hb:=bel_trans hb hw
  have f_s0:=blkC s_k 0 rfl
  have f_s1:=blkC s_k 1 rfl
  have f_t0:=blkC t_k 0 rfl
  have f_t1:=blkC t_k 1 rfl
  go_wp2_with fail
  clear f_s0 f_s1 f_t0 f_t1
  refine (PA.out _ H).mono ?_
  rintro _ y4 ⟨rfl,hw⟩
  have s_k:=blk_up hw s_k
  have t_k:=blk_up hw t_k
  have H:=H.keeps hw
  have hb:=bel_trans hb hw
  have s_k:=heap_past (.cells #[.int .i64 p0,.int .i64 p1] 23) s_k
  have t_k:=heap_past (.cells #[.int .i64 p0,.int .i64 p1] 23) t_k
  have xp_k:(y4.alloc (.cells #[.int .i64 p0,.int .i64 p1] 23)).heap[y4.heap.size]?=some (.cells #[.int .i64 p0,.int .i64 p1] 23):=heap_new (.cells #[.int .i64 p0,.int .i64 p1] 23) (by simp only [size_alloc])
  have H:=H.keeps (bel_alloc y4 (.cells #[.int .i64 p0,.int .i64 p1] 23))
  have hb:=bel_trans hb (bel_alloc y4 (.cells #[.int .i64 p0,.int .i64 p1] 23))
  have f_s0:=blkC s_k 0 rfl
  have f_s1:=blkC s_k 1 rfl
  have f_t0:=blkC t_k 0 rfl
  have f_t1:=blkC t_k 1 rfl
  go_wp2_with fail
  clear f_s0 f_s1 f_t0 f_t1
  generalize (y4.alloc (.cells #[.int .i64 p0,.int .i64 p1] 23))=x5 at s_k t_k xp_k H hb ⊢
  refine (PB.out _ H).mono ?_
  rintro _ y6 ⟨rfl,hw⟩
  have s_k:=blk_up hw s_k
  have t_k:=blk_up hw t_k
  have xp_k:=blk_up hw xp_k
  have H:=H.keeps hw
  have hb:=bel_trans hb hw
  have s_k:=heap_past (.cells #[.int .i64 q0,.int .i64 q1] 23) s_k
  have t_k:=heap_past (.cells #[.int .i64 q0,.int .i64 q1] 23) t_k
  have xp_k:=heap_past (.cells #[.int .i64 q0,.int .i64 q1] 23) xp_k
  have xq_k:(y6.alloc (.cells #[.int .i64 q0,.int .i64 q1] 23)).heap[y6.heap.size]?=some (.cells #[.int .i64 q0,.int .i64 q1] 23):=heap_new (.cells #[.int .i64 q0,.int .i64 q1] 23) (by simp only [size_alloc])
  have H:=H.keeps (bel_alloc y6 (.cells #[.int .i64 q0,.int .i64 q1] 23))
  have hb:=bel_trans hb (bel_alloc y6 (.cells #[.int .i64 q0,.int .i64 q1] 23))
  have f_s0:=blkC s_k 0 rfl
  have f_s1:=blkC s_k 1 rfl
  have f_t0:=blkC t_k 0 rfl
  have f_t1:=blkC t_k 1 rfl
  go_wp2_with fail
  clear f_s0 f_s1 f_t0 f_t1
  generalize (y6.alloc (.cells #[.int .i64 q0,.int .i64 q1] 23))=x7 at s_k t_k xp_k xq_k H hb ⊢
  refine (PC.out _ H).mono ?_
  rintro _ y8 ⟨rfl,hw⟩
  have s_k:=blk_up hw s_k
  have t_k:=blk_up hw t_k
  have xp_k:=blk_up hw xp_k
  have xq_k:=blk_up hw xq_k
  have H:=H.keeps hw
  have hb:=bel_trans hb hw
  have s_k:=heap_past (.cells #[.int .i64 u0,.int .i64 u1] 23) s_k
  have t_k:=heap_past (.cells #[.int .i64 u0,.int .i64 u1] 23) t_k
  have xp_k:=heap_past (.cells #[.int .i64 u0,.int .i64 u1] 23) xp_k
  have xq_k:=heap_past (.cells #[.int .i64 u0,.int .i64 u1] 23) xq_k
  have xu_k:(y8.alloc (.cells #[.int .i64 u0,.int .i64 u1] 23)).heap[y8.heap.size]?=some (.cells #[.int .i64 u0,.int .i64 u1] 23):=heap_new (.cells #[.int .i64 u0,.int .i64 u1] 23) (by simp only [size_alloc])
  have H:=H.keeps (bel_alloc y8 (.cells #[.int .i64 u0,.int .i64 u1] 23))
  have hb:=bel_trans hb (bel_alloc y8 (.cells #[.int .i64 u0,.int .i64 u1] 23))
  have f_s0:=blkC s_k 0 rfl
  have f_s1:=blkC s_k 1 rfl
  have f_t0:=blkC t_k 0 rfl
  have f_t1:=blkC t_k 1 rfl
  go_wp2_with fail
  clear f_s0 f_s1 f_t0 f_t1
  generalize (y8.alloc (.cells #[.int .i64 u0,.int .i64 u1] 23))=x9 at s_k t_k xp_k xq_k xu_k H hb ⊢
  refine (PM.out _ H).mono ?_
  rintro _ y10 ⟨rfl,hw⟩
  have s_k:=blk_up hw s_k
  have t_k:=blk_up hw t_k
  have xp_k:=blk_up hw xp_k
  have xq_k:=blk_up hw xq_k
  have xu_k:=blk_up hw xu_k
  have H:=H.keeps hw
  have hb:=bel_trans hb hw
  have s_k:=heap_past (.cells #[.int .i64 m0,.int .i64 m1] 23) s_k
  have t_k:=heap_past (.cells #[.int .i64 m0,.int .i64 m1] 23) t_k
  have xp_k:=heap_past (.cells #[.int .i64 m0,.int .i64 m1] 23) xp_k
  have xq_k:=heap_past (.cells #[.int .i64 m0,.int .i64 m1] 23) xq_k
  have xu_k:=heap_past (.cells #[.int .i64 m0,.int .i64 m1] 23) xu_k
  have xm_k:(y10.alloc (.cells #[.int .i64 m0,.int .i64 m1] 23)).heap[y10.heap.size]?=some (.cells #[.int .i64 m0,.int .i64 m1] 23):=heap_new (.cells #[.int .i64 m0,.int .i64 m1] 23) (by simp only [size_alloc])
  have H:=H.keeps (bel_alloc y10 (.cells #[.int .i64 m0,.int .i64 m1] 23))
  have hb:=bel_trans hb (bel_alloc y10 (.cells #[.int .i64 m0,.int .i64 m1] 23))
  have f_s0:=blkC s_k 0 rfl
  have f_s1:=blkC s_k 1 rfl
  have f_t0:=blkC t_k 0 rfl
  have f_t1:=blkC t_k 1 rfl
  go_wp2_with fail
  clear f_s0 f_s1 f_t0 f_t1
  generalize (y10.alloc (.cells #[.int .i64 m0,.int .i64 m1] 23))=x11 at s_k t_k xp_k xq_k xu_k xm_k H hb ⊢
  refine (PJ.out _ H).mono ?_
  rintro _ y12 ⟨rfl,hw⟩
  have s_k:=blk_up hw s_k
  have t_k:=blk_up hw t_k
  have xp_k:=blk_up hw xp_k
  have xq_k:=blk_up hw xq_k
  have xu_k:=blk_up hw xu_k
  have xm_k:=blk_up hw xm_k
  have H:=H.keeps hw
  have hb:=bel_trans hb hw
  have s_k:=heap_past (.cells #[.int .i64 j0,.int .i64 j1] 23) s_k
  have t_k:=heap_past (.cells #[.int .i64 j0,.int .i64 j1] 23) t_k
  have xp_k:=heap_past (.cells #[.int .i64 j0,.int .i64 j1] 23) xp_k
  have xq_k:=heap_past (.cells #[.int .i64 j0,.int .i64 j1] 23) xq_k
  have xu_k:=heap_past (.cells #[.int .i64 j0,.int .i64 j1] 23) xu_k
  have xm_k:=heap_past (.cells #[.int .i64 j0,.int .i64 j1] 23) xm_k
  have xj_k:(y12.alloc (.cells #[.int .i64 j0,.int .i64 j1] 23)).heap[y12.heap.size]?=some (.cells #[.int .i64 j0,.int .i64 j1] 23):=heap_new (.cells #[.int .i64 j0,.int .i64 j1] 23) (by simp only [size_alloc])
  have H:=H.keeps (bel_alloc y12 (.cells #[.int .i64 j0,.int .i64 j1] 23))
  have hb:=bel_trans hb (bel_alloc y12 (.cells #[.int .i64 j0,.int .i64 j1] 23))
  have f_s0:=blkC s_k 0 rfl
  have f_s1:=blkC s_k 1 rfl
  have f_t0:=blkC t_k 0 rfl
  have f_t1:=blkC t_k 1 rfl
  go_wp2_with fail
  clear f_s0 f_s1 f_t0 f_t1
  generalize (y12.alloc (.cells #[.int .i64 j0,.int .i64 j1] 23))=x13 at s_k t_k xp_k xq_k xu_k xm_k xj_k H hb ⊢
  refine (RM.out _).mono ?_
  rintro _ y14 ⟨rfl,hw⟩
  have s_k:=blk_up hw s_k
  have t_k:=blk_up hw t_k
  have xp_k:=blk_up hw xp_k
  have xq_k:=blk_up hw xq_k
  have xu_k:=blk_up hw xu_k
  have xm_k:=blk_up hw xm_k
  have xj_k:=blk_up hw xj_k
  have H:=H.keeps hw
  have hb:=bel_trans hb hw
  have s_k:=heap_past (.cells #[.int .i64 m0,.int .i64 m1] 23) s_k
  have t_k:=heap_past (.cells #[.int .i64 m0,.int .i64 m1] 23) t_k
  have xp_k:=heap_past (.cells #[.int .i64 m0,.int .i64 m1] 23) xp_k
  have xq_k:=heap_past (.cells #[.int .i64 m0,.int .i64 m1] 23) xq_k
  have xu_k:=heap_past (.cells #[.int .i64 m0,.int .i64 m1] 23) xu_k
  have xm_k:=heap_past (.cells #[.int .i64 m0,.int .i64 m1] 23) xm_k
  have xj_k:=heap_past (.cells #[.int .i64 m0,.int .i64 m1] 23) xj_k
  have xr_k:(y14.alloc (.cells #[.int .i64 m0,.int .i64 m1] 23)).heap[y14.heap.size]?=some (.cells #[.int .i64 m0,.int .i64 m1] 23):=heap_new (.cells #[.int .i64 m0,.int .i64 m1] 23) (by simp only [size_alloc])
  have H:=H.keeps (bel_alloc y14 (.cells #[.int .i64 m0,.int .i64 m1] 23))
  have hb:=bel_trans hb (bel_alloc y14 (.cells #[.int .i64 m0,.int .i64 m1] 23))
  go_wp2_with fail
  generalize (y14.alloc (.cells #[.int .i64 m0,.int .i64 m1] 23))=x15 at s_k t_k xp_k xq_k xu_k xm_k xj_k xr_k H hb ⊢
  have KK:∀ W,Below x15.heap.size x15 W->W.cell? ⟨w.heap.size,0,none⟩=some (.int .i64 a)∧W.cell? ⟨w.heap.size,1,none⟩=some (.int .i64 b)∧W.cell? ⟨w.heap.size + 1,0,none⟩=some (.int .i64 c)∧W.cell? ⟨w.heap.size + 1,1,none⟩=some (.int .i64 d)∧W.cell? ⟨y4.heap.size,0,none⟩=some (.int .i64 p0)∧W.cell? ⟨y4.heap.size,1,none⟩=some (.int .i64 p1)∧W.cell? ⟨y6.heap.size,0,none⟩=some (.int .i64 q0)∧W.cell? ⟨y6.heap.size,1,none⟩=some (.int .i64 q1)∧W.cell? ⟨y8.heap.size,0,none⟩=some (.int .i64 u0)∧W.cell? ⟨y8.heap.size,1,none⟩=some (.int .i64 u1)∧W.cell? ⟨y10.heap.size,0,none⟩=some (.int .i64 m0)∧W.cell? ⟨y10.heap.size,1,none⟩=some (.int .i64 m1)∧W.cell? ⟨y12.heap.size,0,none⟩=some (.int .i64 j0)∧W.cell? ⟨y12.heap.size,1,none⟩=some (.int .i64 j1)∧W.cell? ⟨y14.heap.size,0,none⟩=some (.int .i64 m0)∧W.cell? ⟨y14.heap.size,1,none⟩=some (.int .i64 m1):=fun W hW=>⟨q_cell (blkC s_k 0 rfl) hW,q_cell (blkC s_k 1 rfl) hW,q_cell (blkC t_k 0 rfl) hW,q_cell (blkC t_k 1 rfl) hW,q_cell (blkC xp_k 0 rfl) hW,q_cell (blkC xp_k 1 rfl) hW,q_cell (blkC xq_k 0 rfl) hW,q_cell (blkC xq_k 1 rfl) hW,q_cell (blkC xu_k 0 rfl) hW,q_cell (blkC xu_k 1 rfl) hW,q_cell (blkC xm_k 0 rfl) hW,q_cell (blkC xm_k 1 rfl) hW,q_cell (blkC xj_k 0 rfl) hW,q_cell (blkC xj_k 1 rfl) hW,q_cell (blkC xr_k 0 rfl) hW,q_cell (blkC xr_k 1 rfl) hW⟩
  have B0:Below x15.heap.size x15 x15.drew:=(bel_refl _).drew
  clear PA PB PC PM PJ VA VB RM H
  cases mk
  all_goals
    go_region_held3 (fun W=>W.cell? ⟨w.heap.size,0,none⟩=some (.int .i64 a)∧W.cell? ⟨w.heap.size,1,none⟩=some (.int .i64 b)∧W.cell? ⟨w.heap.size + 1,0,none⟩=some (.int .i64 c)∧W.cell? ⟨w.heap.size + 1,1,none⟩=some (.int .i64 d)∧W.cell? ⟨y4.heap.size,0,none⟩=some (.int .i64 p0)∧W.cell? ⟨y4.heap.size,1,none⟩=some (.int .i64 p1)∧W.cell? ⟨y6.heap.size,0,none⟩=some (.int .i64 q0)∧W.cell? ⟨y6.heap.size,1,none⟩=some (.int .i64 q1)∧W.cell? ⟨y8.heap.size,0,none⟩=some (.int .i64 u0)∧W.cell? ⟨y8.heap.size,1,none⟩=some (.int .i64 u1)∧W.cell? ⟨y10.heap.size,0,none⟩=some (.int .i64 m0)∧W.cell? ⟨y10.heap.size,1,none⟩=some (.int .i64 m1)∧W.cell? ⟨y12.heap.size,0,none⟩=some (.int .i64 j0)∧W.cell? ⟨y12.heap.size,1,none⟩=some (.int .i64 j1)∧W.cell? ⟨y14.heap.size,0,none⟩=some (.int .i64 m0)∧W.cell? ⟨y14.heap.size,1,none⟩=some (.int .i64 m1))
      (first | assumption | exact KK _ B0 | exact KK _ B1 | exact KK _ B2 | exact KK _ B3 | exact KK _ B4 | exact KK _ B5 | exact KK _ B6 | exact KK _ B7 | exact KK _ B8 | exact KK _ B9 | fail)
      (first
        | (go_at_call 19; have _t:=hs8; refine (is_good j0 j1 _).mono ?_; rintro _ y_9 ⟨rfl,hs9⟩; have B9:=bel_trans B8 hs9)
        | (go_at_call 35; have _t:=hs7; refine (RJ.out _).mono ?_; rintro _ y_8 ⟨rfl,hs8⟩; have B8:=bel_trans B7 hs8)
        | (go_at_call 19; have _t:=hs6; refine (is_good m0 m1 _).mono ?_; rintro _ y_7 ⟨rfl,hs7⟩; have B7:=bel_trans B6 hs7)
        | (go_at_call 19; have _t:=hs5; refine (is_good u0 u1 _).mono ?_; rintro _ y_6 ⟨rfl,hs6⟩; have B6:=bel_trans B5 hs6)
        | (go_at_call 34; have _t:=hs4; refine (RC.out _).mono ?_; rintro _ y_5 ⟨rfl,hs5⟩; have B5:=bel_trans B4 hs5)
        | (go_at_call 19; have _t:=hs3; refine (is_good q0 q1 _).mono ?_; rintro _ y_4 ⟨rfl,hs4⟩; have B4:=bel_trans B3 hs4)
        | (go_at_call 33; have _t:=hs2; refine (RB.out _).mono ?_; rintro _ y_3 ⟨rfl,hs3⟩; have B3:=bel_trans B2 hs3)
        | (go_at_call 19; have _t:=hs1; refine (is_good p0 p1 _).mono ?_; rintro _ y_2 ⟨rfl,hs2⟩; have B2:=bel_trans B1 hs2)
        | (go_at_call 32; refine (RA.out _).mono ?_; rintro _ y_1 ⟨rfl,hs1⟩; have B1:=bel_trans B0 hs1))
    go_wp2
    all_goals go_ret
    all_goals exact ⟨rfl,bel_trans hb B9⟩
end Go.Proofs.YtfgapefckpnjjaaGreatDoor
