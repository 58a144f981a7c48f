/-
  plumblaw8's is and twos, by what the calls answer (tools/p8e.py)
-/
import Derived.Test.YtkkpppgfoilgmaaGreatDoorPart29
import Derived.Deep.RegionHeld3
set_option maxRecDepth 100000
set_option maxHeartbeats 8000000
set_option linter.unusedVariables false
set_option linter.unusedSimpArgs false
namespace Go.Proofs.YtkkpppgfoilgmaaGreatDoor
open Go Go.Proofs.Tryz Go.RowKit Go.Proofs.YtkkpppgfoilgmaaGreatDoor.M
theorem dK (x y:Int) (w:World):Calls prog 18 #[.agg #[.int .i64 0,.int .i64 0],.int .i64 1,.bool true,.agg #[.int .i64 x,.int .i64 y]] w fun e w'=>e=.returned (.bool true)∧Below w.heap.size w w':=by
 have hb:=ap w
 go_enter func18,ntmps18
 have s_k:=aU w (.cells #[.int .i64 0,.int .i64 0] 23) (.cells #[.int .i64 x,.int .i64 y] 23)
 have t_k:=aR w (.cells #[.int .i64 0,.int .i64 0] 23) (.cells #[.int .i64 x,.int .i64 y] 23)
 have f0:=aa s_k 0 rfl
 have f1:=aa s_k 1 rfl
 have f2:=aa t_k 0 rfl
 have f3:=aa t_k 1 rfl
 go_wp2
 go_ret
 exact⟨rfl,ar w _ _⟩
theorem dM (x y:Int) (w:World):Calls prog 18 #[.agg #[.int .i64 x,.int .i64 y],.int .i64 0,.bool false,.agg #[.int .i64 x,.int .i64 y]] w fun e w'=>e=.returned (.bool true)∧Below w.heap.size w w':=by
 have hb:=ap w
 go_enter func18,ntmps18
 have s_k:=aU w (.cells #[.int .i64 x,.int .i64 y] 23) (.cells #[.int .i64 x,.int .i64 y] 23)
 have t_k:=aR w (.cells #[.int .i64 x,.int .i64 y] 23) (.cells #[.int .i64 x,.int .i64 y] 23)
 have f0:=aa s_k 0 rfl
 have f1:=aa s_k 1 rfl
 have f2:=aa t_k 0 rfl
 have f3:=aa t_k 1 rfl
 go_wp2
 go_ret
 exact⟨rfl,ar w _ _⟩
theorem yb {a b c d:Int} (v1 v2:Bool) (hv:(v1&&v2)=false) (w:World) (H:ax w) (VA:Hid (∀ W,Calls prog 10 #[.agg #[.int .i64 a,.int .i64 b]] W fun e w'=>e=.returned (.bool v1)∧Below W.heap.size W w')) (VB:Hid (∀ W,Calls prog 10 #[.agg #[.int .i64 c,.int .i64 d]] W fun e w'=>e=.returned (.bool v2)∧Below W.heap.size W w')) (PA:Hid (∀ W,ax W->Calls prog 8 #[.agg #[.int .i64 a,.int .i64 b],.agg #[.int .i64 c,.int .i64 d]] W fun e w'=>e=.returned (.tuple #[.agg #[.int .i64 0,.int .i64 0],.int .i64 1])∧Below W.heap.size W w')) (PB:Hid (∀ W,ax W->Calls prog 26 #[.agg #[.int .i64 a,.int .i64 b],.agg #[.int .i64 c,.int .i64 d]] W fun e w'=>e=.returned (.tuple #[.agg #[.int .i64 0,.int .i64 0],.int .i64 1])∧Below W.heap.size W w')) (PC:Hid (∀ W,ax W->Calls prog 27 #[.agg #[.int .i64 a,.int .i64 b],.agg #[.int .i64 c,.int .i64 d]] W fun e w'=>e=.returned (.tuple #[.agg #[.int .i64 0,.int .i64 0],.int .i64 1])∧Below W.heap.size W w')) (PJ:Hid (∀ W,ax W->Calls prog 29 #[.agg #[.int .i64 a,.int .i64 b],.agg #[.int .i64 c,.int .i64 d]] W fun e w'=>e=.returned (.tuple #[.agg #[.int .i64 0,.int .i64 0],.int .i64 1])∧Below W.heap.size W w')) (PM:Hid (∀ W,ax W->Calls prog 28 #[.agg #[.int .i64 a,.int .i64 b],.agg #[.int .i64 c,.int .i64 d]] W fun e w'=>e=.returned (.tuple #[.agg #[.int .i64 0,.int .i64 0],.bool false,.int .i64 1])∧Below W.heap.size W w')) :
  Calls prog 7 #[.agg #[.int .i64 a,.int .i64 b],.agg #[.int .i64 c,.int .i64 d]] w fun e w'=>e=.returned (.bool true)∧Below w.heap.size w w':=by
 cases v1
 ·clear VB hv
  have hb:=ap w
  go_enter func7,ntmps7
  have s_k:(w.alloc (.cells #[.int .i64 a,.int .i64 b] 23)).heap[w.heap.size]?=some (.cells #[.int .i64 a,.int .i64 b] 23):=av (.cells #[.int .i64 a,.int .i64 b] 23) (by simp only[ak])
  have H:=H.keeps (ae w (.cells #[.int .i64 a,.int .i64 b] 23))
  have hb:=ab hb (ae w (.cells #[.int .i64 a,.int .i64 b] 23))
  have s_k:=ah (.cells #[.int .i64 c,.int .i64 d] 23) s_k
  have t_k:((w.alloc (.cells #[.int .i64 a,.int .i64 b] 23)).alloc (.cells #[.int .i64 c,.int .i64 d] 23)).heap[w.heap.size+1]?=some (.cells #[.int .i64 c,.int .i64 d] 23):=av (.cells #[.int .i64 c,.int .i64 d] 23) (by simp only[ak])
  have H:=H.keeps (ae (w.alloc (.cells #[.int .i64 a,.int .i64 b] 23)) (.cells #[.int .i64 c,.int .i64 d] 23))
  have hb:=ab hb (ae (w.alloc (.cells #[.int .i64 a,.int .i64 b] 23)) (.cells #[.int .i64 c,.int .i64 d] 23))
  have f_s0:=aa s_k 0 rfl
  have f_s1:=aa s_k 1 rfl
  go_wp2_with fail
  clear f_s0 f_s1
  generalize ((w.alloc (.cells #[.int .i64 a,.int .i64 b] 23)).alloc (.cells #[.int .i64 c,.int .i64 d] 23))=x1 at s_k t_k H hb ⊢
  refine(VA.out _).mono ?_
  rintro _ y2 ⟨rfl,hw⟩
  have s_k:=ac hw s_k
  have t_k:=ac hw t_k
  have H:=H.keeps hw
  have hb:=ab hb hw
  have f_s0:=aa s_k 0 rfl
  have f_s1:=aa s_k 1 rfl
  have f_t0:=aa t_k 0 rfl
  have f_t1:=aa t_k 1 rfl
  go_wp2_with fail
  clear f_s0 f_s1 f_t0 f_t1
  refine(PA.out _ H).mono ?_
  rintro _ y3 ⟨rfl,hw⟩
  have s_k:=ac hw s_k
  have t_k:=ac hw t_k
  have H:=H.keeps hw
  have hb:=ab hb hw
  have s_k:=ah (.cells #[.int .i64 0,.int .i64 0] 23) s_k
  have t_k:=ah (.cells #[.int .i64 0,.int .i64 0] 23) t_k
  have x0_k:(y3.alloc (.cells #[.int .i64 0,.int .i64 0] 23)).heap[y3.heap.size]?=some (.cells #[.int .i64 0,.int .i64 0] 23):=av (.cells #[.int .i64 0,.int .i64 0] 23) (by simp only[ak])
  have H:=H.keeps (ae y3 (.cells #[.int .i64 0,.int .i64 0] 23))
  have hb:=ab hb (ae y3 (.cells #[.int .i64 0,.int .i64 0] 23))
  have f_s0:=aa s_k 0 rfl
  have f_s1:=aa s_k 1 rfl
  have f_t0:=aa t_k 0 rfl
  have f_t1:=aa t_k 1 rfl
  go_wp2_with fail
  clear f_s0 f_s1 f_t0 f_t1
  generalize (y3.alloc (.cells #[.int .i64 0,.int .i64 0] 23))=x4 at s_k t_k x0_k H hb ⊢
  refine(PB.out _ H).mono ?_
  rintro _ y5 ⟨rfl,hw⟩
  have s_k:=ac hw s_k
  have t_k:=ac hw t_k
  have x0_k:=ac hw x0_k
  have H:=H.keeps hw
  have hb:=ab hb hw
  have s_k:=ah (.cells #[.int .i64 0,.int .i64 0] 23) s_k
  have t_k:=ah (.cells #[.int .i64 0,.int .i64 0] 23) t_k
  have x0_k:=ah (.cells #[.int .i64 0,.int .i64 0] 23) x0_k
  have x1_k:(y5.alloc (.cells #[.int .i64 0,.int .i64 0] 23)).heap[y5.heap.size]?=some (.cells #[.int .i64 0,.int .i64 0] 23):=av (.cells #[.int .i64 0,.int .i64 0] 23) (by simp only[ak])
  have H:=H.keeps (ae y5 (.cells #[.int .i64 0,.int .i64 0] 23))
  have hb:=ab hb (ae y5 (.cells #[.int .i64 0,.int .i64 0] 23))
  have f_s0:=aa s_k 0 rfl
  have f_s1:=aa s_k 1 rfl
  have f_t0:=aa t_k 0 rfl
  have f_t1:=aa t_k 1 rfl
  go_wp2_with fail
  clear f_s0 f_s1 f_t0 f_t1
  generalize (y5.alloc (.cells #[.int .i64 0,.int .i64 0] 23))=x6 at s_k t_k x0_k x1_k H hb ⊢
  refine(PC.out _ H).mono ?_
  rintro _ y7 ⟨rfl,hw⟩
  have s_k:=ac hw s_k
  have t_k:=ac hw t_k
  have x0_k:=ac hw x0_k
  have x1_k:=ac hw x1_k
  have H:=H.keeps hw
  have hb:=ab hb hw
  have s_k:=ah (.cells #[.int .i64 0,.int .i64 0] 23) s_k
  have t_k:=ah (.cells #[.int .i64 0,.int .i64 0] 23) t_k
  have x0_k:=ah (.cells #[.int .i64 0,.int .i64 0] 23) x0_k
  have x1_k:=ah (.cells #[.int .i64 0,.int .i64 0] 23) x1_k
  have x2_k:(y7.alloc (.cells #[.int .i64 0,.int .i64 0] 23)).heap[y7.heap.size]?=some (.cells #[.int .i64 0,.int .i64 0] 23):=av (.cells #[.int .i64 0,.int .i64 0] 23) (by simp only[ak])
  have H:=H.keeps (ae y7 (.cells #[.int .i64 0,.int .i64 0] 23))
  have hb:=ab hb (ae y7 (.cells #[.int .i64 0,.int .i64 0] 23))
  have f_s0:=aa s_k 0 rfl
  have f_s1:=aa s_k 1 rfl
  have f_t0:=aa t_k 0 rfl
  have f_t1:=aa t_k 1 rfl
  go_wp2_with fail
  clear f_s0 f_s1 f_t0 f_t1
  generalize (y7.alloc (.cells #[.int .i64 0,.int .i64 0] 23))=x8 at s_k t_k x0_k x1_k x2_k H hb ⊢
  refine(PM.out _ H).mono ?_
  rintro _ y9 ⟨rfl,hw⟩
  have s_k:=ac hw s_k
  have t_k:=ac hw t_k
  have x0_k:=ac hw x0_k
  have x1_k:=ac hw x1_k
  have x2_k:=ac hw x2_k
  have H:=H.keeps hw
  have hb:=ab hb hw
  have s_k:=ah (.cells #[.int .i64 0,.int .i64 0] 23) s_k
  have t_k:=ah (.cells #[.int .i64 0,.int .i64 0] 23) t_k
  have x0_k:=ah (.cells #[.int .i64 0,.int .i64 0] 23) x0_k
  have x1_k:=ah (.cells #[.int .i64 0,.int .i64 0] 23) x1_k
  have x2_k:=ah (.cells #[.int .i64 0,.int .i64 0] 23) x2_k
  have x3_k:(y9.alloc (.cells #[.int .i64 0,.int .i64 0] 23)).heap[y9.heap.size]?=some (.cells #[.int .i64 0,.int .i64 0] 23):=av (.cells #[.int .i64 0,.int .i64 0] 23) (by simp only[ak])
  have H:=H.keeps (ae y9 (.cells #[.int .i64 0,.int .i64 0] 23))
  have hb:=ab hb (ae y9 (.cells #[.int .i64 0,.int .i64 0] 23))
  have f_s0:=aa s_k 0 rfl
  have f_s1:=aa s_k 1 rfl
  have f_t0:=aa t_k 0 rfl
  have f_t1:=aa t_k 1 rfl
  go_wp2_with fail
  clear f_s0 f_s1 f_t0 f_t1
  generalize (y9.alloc (.cells #[.int .i64 0,.int .i64 0] 23))=x10 at s_k t_k x0_k x1_k x2_k x3_k H hb ⊢
  refine(PJ.out _ H).mono ?_
  rintro _ y11 ⟨rfl,hw⟩
  have s_k:=ac hw s_k
  have t_k:=ac hw t_k
  have x0_k:=ac hw x0_k
  have x1_k:=ac hw x1_k
  have x2_k:=ac hw x2_k
  have x3_k:=ac hw x3_k
  have H:=H.keeps hw
  have hb:=ab hb hw
  have s_k:=ah (.cells #[.int .i64 0,.int .i64 0] 23) s_k
  have t_k:=ah (.cells #[.int .i64 0,.int .i64 0] 23) t_k
  have x0_k:=ah (.cells #[.int .i64 0,.int .i64 0] 23) x0_k
  have x1_k:=ah (.cells #[.int .i64 0,.int .i64 0] 23) x1_k
  have x2_k:=ah (.cells #[.int .i64 0,.int .i64 0] 23) x2_k
  have x3_k:=ah (.cells #[.int .i64 0,.int .i64 0] 23) x3_k
  have x4_k:(y11.alloc (.cells #[.int .i64 0,.int .i64 0] 23)).heap[y11.heap.size]?=some (.cells #[.int .i64 0,.int .i64 0] 23):=av (.cells #[.int .i64 0,.int .i64 0] 23) (by simp only[ak])
  have H:=H.keeps (ae y11 (.cells #[.int .i64 0,.int .i64 0] 23))
  have hb:=ab hb (ae y11 (.cells #[.int .i64 0,.int .i64 0] 23))
  have f_x00:=aa x0_k 0 rfl
  have f_x01:=aa x0_k 1 rfl
  have f_s0:=aa s_k 0 rfl
  have f_s1:=aa s_k 1 rfl
  go_wp2_with fail
  clear f_x00 f_x01 f_s0 f_s1
  generalize (y11.alloc (.cells #[.int .i64 0,.int .i64 0] 23))=x12 at s_k t_k x0_k x1_k x2_k x3_k x4_k H hb ⊢
  refine(dK _ _ _).mono ?_
  rintro _ y13 ⟨rfl,hw⟩
  have s_k:=ac hw s_k
  have t_k:=ac hw t_k
  have x0_k:=ac hw x0_k
  have x1_k:=ac hw x1_k
  have x2_k:=ac hw x2_k
  have x3_k:=ac hw x3_k
  have x4_k:=ac hw x4_k
  have H:=H.keeps hw
  have hb:=ab hb hw
  have f_x10:=aa x1_k 0 rfl
  have f_x11:=aa x1_k 1 rfl
  have f_s0:=aa s_k 0 rfl
  have f_s1:=aa s_k 1 rfl
  go_wp2_with fail
  clear f_x10 f_x11 f_s0 f_s1
  refine(dK _ _ _).mono ?_
  rintro _ y14 ⟨rfl,hw⟩
  have s_k:=ac hw s_k
  have t_k:=ac hw t_k
  have x0_k:=ac hw x0_k
  have x1_k:=ac hw x1_k
  have x2_k:=ac hw x2_k
  have x3_k:=ac hw x3_k
  have x4_k:=ac hw x4_k
  have H:=H.keeps hw
  have hb:=ab hb hw
  have f_x20:=aa x2_k 0 rfl
  have f_x21:=aa x2_k 1 rfl
  have f_s0:=aa s_k 0 rfl
  have f_s1:=aa s_k 1 rfl
  go_wp2_with fail
  clear f_x20 f_x21 f_s0 f_s1
  refine(dK _ _ _).mono ?_
  rintro _ y15 ⟨rfl,hw⟩
  have s_k:=ac hw s_k
  have t_k:=ac hw t_k
  have x0_k:=ac hw x0_k
  have x1_k:=ac hw x1_k
  have x2_k:=ac hw x2_k
  have x3_k:=ac hw x3_k
  have x4_k:=ac hw x4_k
  have H:=H.keeps hw
  have hb:=ab hb hw
  have f_x30:=aa x3_k 0 rfl
  have f_x31:=aa x3_k 1 rfl
  have f_s0:=aa s_k 0 rfl
  have f_s1:=aa s_k 1 rfl
  go_wp2_with fail
  clear f_x30 f_x31 f_s0 f_s1
  refine(dK _ _ _).mono ?_
  rintro _ y16 ⟨rfl,hw⟩
  have s_k:=ac hw s_k
  have t_k:=ac hw t_k
  have x0_k:=ac hw x0_k
  have x1_k:=ac hw x1_k
  have x2_k:=ac hw x2_k
  have x3_k:=ac hw x3_k
  have x4_k:=ac hw x4_k
  have H:=H.keeps hw
  have hb:=ab hb hw
  have f_x40:=aa x4_k 0 rfl
  have f_x41:=aa x4_k 1 rfl
  have f_s0:=aa s_k 0 rfl
  have f_s1:=aa s_k 1 rfl
  go_wp2_with fail
  clear f_x40 f_x41 f_s0 f_s1
  refine(dK _ _ _).mono ?_
  rintro _ y17 ⟨rfl,hw⟩
  have s_k:=ac hw s_k
  have t_k:=ac hw t_k
  have x0_k:=ac hw x0_k
  have x1_k:=ac hw x1_k
  have x2_k:=ac hw x2_k
  have x3_k:=ac hw x3_k
  have x4_k:=ac hw x4_k
  have H:=H.keeps hw
  have hb:=ab hb hw
  go_wp2
  go_ret
  exact⟨rfl,hb⟩
 ·have h2:v2=false:=hv
  subst h2
  clear hv
  have hb:=ap w
  go_enter func7,ntmps7
  have s_k:(w.alloc (.cells #[.int .i64 a,.int .i64 b] 23)).heap[w.heap.size]?=some (.cells #[.int .i64 a,.int .i64 b] 23):=av (.cells #[.int .i64 a,.int .i64 b] 23) (by simp only[ak])
  have H:=H.keeps (ae w (.cells #[.int .i64 a,.int .i64 b] 23))
  have hb:=ab hb (ae w (.cells #[.int .i64 a,.int .i64 b] 23))
  have s_k:=ah (.cells #[.int .i64 c,.int .i64 d] 23) s_k
  have t_k:((w.alloc (.cells #[.int .i64 a,.int .i64 b] 23)).alloc (.cells #[.int .i64 c,.int .i64 d] 23)).heap[w.heap.size+1]?=some (.cells #[.int .i64 c,.int .i64 d] 23):=av (.cells #[.int .i64 c,.int .i64 d] 23) (by simp only[ak])
  have H:=H.keeps (ae (w.alloc (.cells #[.int .i64 a,.int .i64 b] 23)) (.cells #[.int .i64 c,.int .i64 d] 23))
  have hb:=ab hb (ae (w.alloc (.cells #[.int .i64 a,.int .i64 b] 23)) (.cells #[.int .i64 c,.int .i64 d] 23))
  have f_s0:=aa s_k 0 rfl
  have f_s1:=aa s_k 1 rfl
  go_wp2_with fail
  clear f_s0 f_s1
  generalize ((w.alloc (.cells #[.int .i64 a,.int .i64 b] 23)).alloc (.cells #[.int .i64 c,.int .i64 d] 23))=x1 at s_k t_k H hb ⊢
  refine(VA.out _).mono ?_
  rintro _ y2 ⟨rfl,hw⟩
  have s_k:=ac hw s_k
  have t_k:=ac hw t_k
  have H:=H.keeps hw
  have hb:=ab hb hw
  have f_t0:=aa t_k 0 rfl
  have f_t1:=aa t_k 1 rfl
  go_wp2_with fail
  clear f_t0 f_t1
  refine(VB.out _).mono ?_
  rintro _ y3 ⟨rfl,hw⟩
  have s_k:=ac hw s_k
  have t_k:=ac hw t_k
  have H:=H.keeps hw
  have hb:=ab hb hw
  have f_s0:=aa s_k 0 rfl
  have f_s1:=aa s_k 1 rfl
  have f_t0:=aa t_k 0 rfl
  have f_t1:=aa t_k 1 rfl
  go_wp2_with fail
  clear f_s0 f_s1 f_t0 f_t1
  refine(PA.out _ H).mono ?_
  rintro _ y4 ⟨rfl,hw⟩
  have s_k:=ac hw s_k
  have t_k:=ac hw t_k
  have H:=H.keeps hw
  have hb:=ab hb hw
  have s_k:=ah (.cells #[.int .i64 0,.int .i64 0] 23) s_k
  have t_k:=ah (.cells #[.int .i64 0,.int .i64 0] 23) t_k
  have x0_k:(y4.alloc (.cells #[.int .i64 0,.int .i64 0] 23)).heap[y4.heap.size]?=some (.cells #[.int .i64 0,.int .i64 0] 23):=av (.cells #[.int .i64 0,.int .i64 0] 23) (by simp only[ak])
  have H:=H.keeps (ae y4 (.cells #[.int .i64 0,.int .i64 0] 23))
  have hb:=ab hb (ae y4 (.cells #[.int .i64 0,.int .i64 0] 23))
  have f_s0:=aa s_k 0 rfl
  have f_s1:=aa s_k 1 rfl
  have f_t0:=aa t_k 0 rfl
  have f_t1:=aa t_k 1 rfl
  go_wp2_with fail
  clear f_s0 f_s1 f_t0 f_t1
  generalize (y4.alloc (.cells #[.int .i64 0,.int .i64 0] 23))=x5 at s_k t_k x0_k H hb ⊢
  refine(PB.out _ H).mono ?_
  rintro _ y6 ⟨rfl,hw⟩
  have s_k:=ac hw s_k
  have t_k:=ac hw t_k
  have x0_k:=ac hw x0_k
  have H:=H.keeps hw
  have hb:=ab hb hw
  have s_k:=ah (.cells #[.int .i64 0,.int .i64 0] 23) s_k
  have t_k:=ah (.cells #[.int .i64 0,.int .i64 0] 23) t_k
  have x0_k:=ah (.cells #[.int .i64 0,.int .i64 0] 23) x0_k
  have x1_k:(y6.alloc (.cells #[.int .i64 0,.int .i64 0] 23)).heap[y6.heap.size]?=some (.cells #[.int .i64 0,.int .i64 0] 23):=av (.cells #[.int .i64 0,.int .i64 0] 23) (by simp only[ak])
  have H:=H.keeps (ae y6 (.cells #[.int .i64 0,.int .i64 0] 23))
  have hb:=ab hb (ae y6 (.cells #[.int .i64 0,.int .i64 0] 23))
  have f_s0:=aa s_k 0 rfl
  have f_s1:=aa s_k 1 rfl
  have f_t0:=aa t_k 0 rfl
  have f_t1:=aa t_k 1 rfl
  go_wp2_with fail
  clear f_s0 f_s1 f_t0 f_t1
  generalize (y6.alloc (.cells #[.int .i64 0,.int .i64 0] 23))=x7 at s_k t_k x0_k x1_k H hb ⊢
  refine(PC.out _ H).mono ?_
  rintro _ y8 ⟨rfl,hw⟩
  have s_k:=ac hw s_k
  have t_k:=ac hw t_k
  have x0_k:=ac hw x0_k
  have x1_k:=ac hw x1_k
  have H:=H.keeps hw
  have hb:=ab hb hw
  have s_k:=ah (.cells #[.int .i64 0,.int .i64 0] 23) s_k
  have t_k:=ah (.cells #[.int .i64 0,.int .i64 0] 23) t_k
  have x0_k:=ah (.cells #[.int .i64 0,.int .i64 0] 23) x0_k
  have x1_k:=ah (.cells #[.int .i64 0,.int .i64 0] 23) x1_k
  have x2_k:(y8.alloc (.cells #[.int .i64 0,.int .i64 0] 23)).heap[y8.heap.size]?=some (.cells #[.int .i64 0,.int .i64 0] 23):=av (.cells #[.int .i64 0,.int .i64 0] 23) (by simp only[ak])
  have H:=H.keeps (ae y8 (.cells #[.int .i64 0,.int .i64 0] 23))
  have hb:=ab hb (ae y8 (.cells #[.int .i64 0,.int .i64 0] 23))
  have f_s0:=aa s_k 0 rfl
  have f_s1:=aa s_k 1 rfl
  have f_t0:=aa t_k 0 rfl
  have f_t1:=aa t_k 1 rfl
  go_wp2_with fail
  clear f_s0 f_s1 f_t0 f_t1
  generalize (y8.alloc (.cells #[.int .i64 0,.int .i64 0] 23))=x9 at s_k t_k x0_k x1_k x2_k H hb ⊢
  refine(PM.out _ H).mono ?_
  rintro _ y10 ⟨rfl,hw⟩
  have s_k:=ac hw s_k
  have t_k:=ac hw t_k
  have x0_k:=ac hw x0_k
  have x1_k:=ac hw x1_k
  have x2_k:=ac hw x2_k
  have H:=H.keeps hw
  have hb:=ab hb hw
  have s_k:=ah (.cells #[.int .i64 0,.int .i64 0] 23) s_k
  have t_k:=ah (.cells #[.int .i64 0,.int .i64 0] 23) t_k
  have x0_k:=ah (.cells #[.int .i64 0,.int .i64 0] 23) x0_k
  have x1_k:=ah (.cells #[.int .i64 0,.int .i64 0] 23) x1_k
  have x2_k:=ah (.cells #[.int .i64 0,.int .i64 0] 23) x2_k
  have x3_k:(y10.alloc (.cells #[.int .i64 0,.int .i64 0] 23)).heap[y10.heap.size]?=some (.cells #[.int .i64 0,.int .i64 0] 23):=av (.cells #[.int .i64 0,.int .i64 0] 23) (by simp only[ak])
  have H:=H.keeps (ae y10 (.cells #[.int .i64 0,.int .i64 0] 23))
  have hb:=ab hb (ae y10 (.cells #[.int .i64 0,.int .i64 0] 23))
  have f_s0:=aa s_k 0 rfl
  have f_s1:=aa s_k 1 rfl
  have f_t0:=aa t_k 0 rfl
  have f_t1:=aa t_k 1 rfl
  go_wp2_with fail
  clear f_s0 f_s1 f_t0 f_t1
  generalize (y10.alloc (.cells #[.int .i64 0,.int .i64 0] 23))=x11 at s_k t_k x0_k x1_k x2_k x3_k H hb ⊢
  refine(PJ.out _ H).mono ?_
  rintro _ y12 ⟨rfl,hw⟩
  have s_k:=ac hw s_k
  have t_k:=ac hw t_k
  have x0_k:=ac hw x0_k
  have x1_k:=ac hw x1_k
  have x2_k:=ac hw x2_k
  have x3_k:=ac hw x3_k
  have H:=H.keeps hw
  have hb:=ab hb hw
  have s_k:=ah (.cells #[.int .i64 0,.int .i64 0] 23) s_k
  have t_k:=ah (.cells #[.int .i64 0,.int .i64 0] 23) t_k
  have x0_k:=ah (.cells #[.int .i64 0,.int .i64 0] 23) x0_k
  have x1_k:=ah (.cells #[.int .i64 0,.int .i64 0] 23) x1_k
  have x2_k:=ah (.cells #[.int .i64 0,.int .i64 0] 23) x2_k
  have x3_k:=ah (.cells #[.int .i64 0,.int .i64 0] 23) x3_k
  have x4_k:(y12.alloc (.cells #[.int .i64 0,.int .i64 0] 23)).heap[y12.heap.size]?=some (.cells #[.int .i64 0,.int .i64 0] 23):=av (.cells #[.int .i64 0,.int .i64 0] 23) (by simp only[ak])
  have H:=H.keeps (ae y12 (.cells #[.int .i64 0,.int .i64 0] 23))
  have hb:=ab hb (ae y12 (.cells #[.int .i64 0,.int .i64 0] 23))
  have f_x00:=aa x0_k 0 rfl
  have f_x01:=aa x0_k 1 rfl
  have f_s0:=aa s_k 0 rfl
  have f_s1:=aa s_k 1 rfl
  go_wp2_with fail
  clear f_x00 f_x01 f_s0 f_s1
  generalize (y12.alloc (.cells #[.int .i64 0,.int .i64 0] 23))=x13 at s_k t_k x0_k x1_k x2_k x3_k x4_k H hb ⊢
  refine(dK _ _ _).mono ?_
  rintro _ y14 ⟨rfl,hw⟩
  have s_k:=ac hw s_k
  have t_k:=ac hw t_k
  have x0_k:=ac hw x0_k
  have x1_k:=ac hw x1_k
  have x2_k:=ac hw x2_k
  have x3_k:=ac hw x3_k
  have x4_k:=ac hw x4_k
  have H:=H.keeps hw
  have hb:=ab hb hw
  have f_x10:=aa x1_k 0 rfl
  have f_x11:=aa x1_k 1 rfl
  have f_s0:=aa s_k 0 rfl
  have f_s1:=aa s_k 1 rfl
  go_wp2_with fail
  clear f_x10 f_x11 f_s0 f_s1
  refine(dK _ _ _).mono ?_
  rintro _ y15 ⟨rfl,hw⟩
  have s_k:=ac hw s_k
  have t_k:=ac hw t_k
  have x0_k:=ac hw x0_k
  have x1_k:=ac hw x1_k
  have x2_k:=ac hw x2_k
  have x3_k:=ac hw x3_k
  have x4_k:=ac hw x4_k
  have H:=H.keeps hw
  have hb:=ab hb hw
  have f_x20:=aa x2_k 0 rfl
  have f_x21:=aa x2_k 1 rfl
  have f_s0:=aa s_k 0 rfl
  have f_s1:=aa s_k 1 rfl
  go_wp2_with fail
  clear f_x20 f_x21 f_s0 f_s1
  refine(dK _ _ _).mono ?_
  rintro _ y16 ⟨rfl,hw⟩
  have s_k:=ac hw s_k
  have t_k:=ac hw t_k
  have x0_k:=ac hw x0_k
  have x1_k:=ac hw x1_k
  have x2_k:=ac hw x2_k
  have x3_k:=ac hw x3_k
  have x4_k:=ac hw x4_k
  have H:=H.keeps hw
  have hb:=ab hb hw
  have f_x30:=aa x3_k 0 rfl
  have f_x31:=aa x3_k 1 rfl
  have f_s0:=aa s_k 0 rfl
  have f_s1:=aa s_k 1 rfl
  go_wp2_with fail
  clear f_x30 f_x31 f_s0 f_s1
  refine(dK _ _ _).mono ?_
  rintro _ y17 ⟨rfl,hw⟩
  have s_k:=ac hw s_k
  have t_k:=ac hw t_k
  have x0_k:=ac hw x0_k
  have x1_k:=ac hw x1_k
  have x2_k:=ac hw x2_k
  have x3_k:=ac hw x3_k
  have x4_k:=ac hw x4_k
  have H:=H.keeps hw
  have hb:=ab hb hw
  have f_x40:=aa x4_k 0 rfl
  have f_x41:=aa x4_k 1 rfl
  have f_s0:=aa s_k 0 rfl
  have f_s1:=aa s_k 1 rfl
  go_wp2_with fail
  clear f_x40 f_x41 f_s0 f_s1
  refine(dK _ _ _).mono ?_
  rintro _ y18 ⟨rfl,hw⟩
  have s_k:=ac hw s_k
  have t_k:=ac hw t_k
  have x0_k:=ac hw x0_k
  have x1_k:=ac hw x1_k
  have x2_k:=ac hw x2_k
  have x3_k:=ac hw x3_k
  have x4_k:=ac hw x4_k
  have H:=H.keeps hw
  have hb:=ab hb hw
  go_wp2
  go_ret
  exact⟨rfl,hb⟩
theorem yc {a b c d p0 p1 q0 q1 u0 u1 m0 m1 j0 j1:Int} (mk:Bool) (w:World) (H:ax w) (VA:Hid (∀ W,Calls prog 10 #[.agg #[.int .i64 a,.int .i64 b]] W fun e w'=>e=.returned (.bool true)∧Below W.heap.size W w')) (VB:Hid (∀ W,Calls prog 10 #[.agg #[.int .i64 c,.int .i64 d]] W fun e w'=>e=.returned (.bool true)∧Below W.heap.size W w')) (PA:Hid (∀ W,ax W->Calls prog 8 #[.agg #[.int .i64 a,.int .i64 b],.agg #[.int .i64 c,.int .i64 d]] W fun e w'=>e=.returned (.tuple #[.agg #[.int .i64 p0,.int .i64 p1],.int .i64 0])∧Below W.heap.size W w')) (PB:Hid (∀ W,ax W->Calls prog 26 #[.agg #[.int .i64 a,.int .i64 b],.agg #[.int .i64 c,.int .i64 d]] W fun e w'=>e=.returned (.tuple #[.agg #[.int .i64 q0,.int .i64 q1],.int .i64 0])∧Below W.heap.size W w')) (PC:Hid (∀ W,ax W->Calls prog 27 #[.agg #[.int .i64 a,.int .i64 b],.agg #[.int .i64 c,.int .i64 d]] W fun e w'=>e=.returned (.tuple #[.agg #[.int .i64 u0,.int .i64 u1],.int .i64 0])∧Below W.heap.size W w')) (PJ:Hid (∀ W,ax W->Calls prog 29 #[.agg #[.int .i64 a,.int .i64 b],.agg #[.int .i64 c,.int .i64 d]] W fun e w'=>e=.returned (.tuple #[.agg #[.int .i64 j0,.int .i64 j1],.int .i64 0])∧Below W.heap.size W w')) (PM:Hid (∀ W,ax W->Calls prog 28 #[.agg #[.int .i64 a,.int .i64 b],.agg #[.int .i64 c,.int .i64 d]] W fun e w'=>e=.returned (.tuple #[.agg #[.int .i64 m0,.int .i64 m1],.bool mk,.int .i64 0])∧Below W.heap.size W w')) (RA:Hid (∀ W,Calls prog 31 #[.agg #[.int .i64 a,.int .i64 b],.agg #[.int .i64 c,.int .i64 d]] W fun e w'=>e=.returned (.agg #[.int .i64 p0,.int .i64 p1])∧Below W.heap.size W w')) (RB:Hid (∀ W,Calls prog 32 #[.agg #[.int .i64 a,.int .i64 b],.agg #[.int .i64 c,.int .i64 d]] W fun e w'=>e=.returned (.agg #[.int .i64 q0,.int .i64 q1])∧Below W.heap.size W w')) (RC:Hid (∀ W,Calls prog 33 #[.agg #[.int .i64 a,.int .i64 b],.agg #[.int .i64 c,.int .i64 d]] W fun e w'=>e=.returned (.agg #[.int .i64 u0,.int .i64 u1])∧Below W.heap.size W w')) (RJ:Hid (∀ W,Calls prog 34 #[.agg #[.int .i64 a,.int .i64 b],.agg #[.int .i64 c,.int .i64 d]] W fun e w'=>e=.returned (.agg #[.int .i64 j0,.int .i64 j1])∧Below W.heap.size W w')) (RM:Hid (∀ W,Calls prog 30 #[.agg #[.int .i64 a,.int .i64 b],.agg #[.int .i64 c,.int .i64 d]] W fun e w'=>e=.returned (.tuple #[.agg #[.int .i64 m0,.int .i64 m1],.bool mk])∧Below W.heap.size W w')) :
    Calls prog 7 #[.agg #[.int .i64 a,.int .i64 b],.agg #[.int .i64 c,.int .i64 d]] w fun e w'=>e=.returned (.bool true)∧Below w.heap.size w w':=by
  have hb:=ap w
  go_enter func7,ntmps7
  have s_k:(w.alloc (.cells #[.int .i64 a,.int .i64 b] 23)).heap[w.heap.size]?=some (.cells #[.int .i64 a,.int .i64 b] 23):=av (.cells #[.int .i64 a,.int .i64 b] 23) (by simp only[ak])
  have H:=H.keeps (ae w (.cells #[.int .i64 a,.int .i64 b] 23))
  have hb:=ab hb (ae w (.cells #[.int .i64 a,.int .i64 b] 23))
  have s_k:=ah (.cells #[.int .i64 c,.int .i64 d] 23) s_k
  have t_k:((w.alloc (.cells #[.int .i64 a,.int .i64 b] 23)).alloc (.cells #[.int .i64 c,.int .i64 d] 23)).heap[w.heap.size+1]?=some (.cells #[.int .i64 c,.int .i64 d] 23):=av (.cells #[.int .i64 c,.int .i64 d] 23) (by simp only[ak])
  have H:=H.keeps (ae (w.alloc (.cells #[.int .i64 a,.int .i64 b] 23)) (.cells #[.int .i64 c,.int .i64 d] 23))
  have hb:=ab hb (ae (w.alloc (.cells #[.int .i64 a,.int .i64 b] 23)) (.cells #[.int .i64 c,.int .i64 d] 23))
  have f_s0:=aa s_k 0 rfl
  have f_s1:=aa s_k 1 rfl
  go_wp2_with fail
  clear f_s0 f_s1
  generalize ((w.alloc (.cells #[.int .i64 a,.int .i64 b] 23)).alloc (.cells #[.int .i64 c,.int .i64 d] 23))=x1 at s_k t_k H hb ⊢
  refine(VA.out _).mono ?_
  rintro _ y2 ⟨rfl,hw⟩
  have s_k:=ac hw s_k
  have t_k:=ac hw t_k
  have H:=H.keeps hw
  have hb:=ab hb hw
  have f_t0:=aa t_k 0 rfl
  have f_t1:=aa t_k 1 rfl
  go_wp2_with fail
  clear f_t0 f_t1
  refine(VB.out _).mono ?_
  rintro _ y3 ⟨rfl,hw⟩
  have s_k:=ac hw s_k
  have t_k:=ac hw t_k
  have H:=H.keeps hw
  have hb:=ab hb hw
  have f_s0:=aa s_k 0 rfl
  have f_s1:=aa s_k 1 rfl
  have f_t0:=aa t_k 0 rfl
  have f_t1:=aa t_k 1 rfl
  go_wp2_with fail
  clear f_s0 f_s1 f_t0 f_t1
  refine(PA.out _ H).mono ?_
  rintro _ y4 ⟨rfl,hw⟩
  have s_k:=ac hw s_k
  have t_k:=ac hw t_k
  have H:=H.keeps hw
  have hb:=ab hb hw
  have s_k:=ah (.cells #[.int .i64 p0,.int .i64 p1] 23) s_k
  have t_k:=ah (.cells #[.int .i64 p0,.int .i64 p1] 23) t_k
  have xp_k:(y4.alloc (.cells #[.int .i64 p0,.int .i64 p1] 23)).heap[y4.heap.size]?=some (.cells #[.int .i64 p0,.int .i64 p1] 23):=av (.cells #[.int .i64 p0,.int .i64 p1] 23) (by simp only[ak])
  have H:=H.keeps (ae y4 (.cells #[.int .i64 p0,.int .i64 p1] 23))
  have hb:=ab hb (ae y4 (.cells #[.int .i64 p0,.int .i64 p1] 23))
  have f_s0:=aa s_k 0 rfl
  have f_s1:=aa s_k 1 rfl
  have f_t0:=aa t_k 0 rfl
  have f_t1:=aa t_k 1 rfl
  go_wp2_with fail
  clear f_s0 f_s1 f_t0 f_t1
  generalize (y4.alloc (.cells #[.int .i64 p0,.int .i64 p1] 23))=x5 at s_k t_k xp_k H hb ⊢
  refine(PB.out _ H).mono ?_
  rintro _ y6 ⟨rfl,hw⟩
  have s_k:=ac hw s_k
  have t_k:=ac hw t_k
  have xp_k:=ac hw xp_k
  have H:=H.keeps hw
  have hb:=ab hb hw
  have s_k:=ah (.cells #[.int .i64 q0,.int .i64 q1] 23) s_k
  have t_k:=ah (.cells #[.int .i64 q0,.int .i64 q1] 23) t_k
  have xp_k:=ah (.cells #[.int .i64 q0,.int .i64 q1] 23) xp_k
  have xq_k:(y6.alloc (.cells #[.int .i64 q0,.int .i64 q1] 23)).heap[y6.heap.size]?=some (.cells #[.int .i64 q0,.int .i64 q1] 23):=av (.cells #[.int .i64 q0,.int .i64 q1] 23) (by simp only[ak])
  have H:=H.keeps (ae y6 (.cells #[.int .i64 q0,.int .i64 q1] 23))
  have hb:=ab hb (ae y6 (.cells #[.int .i64 q0,.int .i64 q1] 23))
  have f_s0:=aa s_k 0 rfl
  have f_s1:=aa s_k 1 rfl
  have f_t0:=aa t_k 0 rfl
  have f_t1:=aa t_k 1 rfl
  go_wp2_with fail
  clear f_s0 f_s1 f_t0 f_t1
  generalize (y6.alloc (.cells #[.int .i64 q0,.int .i64 q1] 23))=x7 at s_k t_k xp_k xq_k H hb ⊢
  refine(PC.out _ H).mono ?_
  rintro _ y8 ⟨rfl,hw⟩
  have s_k:=ac hw s_k
  have t_k:=ac hw t_k
  have xp_k:=ac hw xp_k
  have xq_k:=ac hw xq_k
  have H:=H.keeps hw
  have hb:=ab hb hw
  have s_k:=ah (.cells #[.int .i64 u0,.int .i64 u1] 23) s_k
  have t_k:=ah (.cells #[.int .i64 u0,.int .i64 u1] 23) t_k
  have xp_k:=ah (.cells #[.int .i64 u0,.int .i64 u1] 23) xp_k
  have xq_k:=ah (.cells #[.int .i64 u0,.int .i64 u1] 23) xq_k
  have xu_k:(y8.alloc (.cells #[.int .i64 u0,.int .i64 u1] 23)).heap[y8.heap.size]?=some (.cells #[.int .i64 u0,.int .i64 u1] 23):=av (.cells #[.int .i64 u0,.int .i64 u1] 23) (by simp only[ak])
  have H:=H.keeps (ae y8 (.cells #[.int .i64 u0,.int .i64 u1] 23))
  have hb:=ab hb (ae y8 (.cells #[.int .i64 u0,.int .i64 u1] 23))
  have f_s0:=aa s_k 0 rfl
  have f_s1:=aa s_k 1 rfl
  have f_t0:=aa t_k 0 rfl
  have f_t1:=aa t_k 1 rfl
  go_wp2_with fail
  clear f_s0 f_s1 f_t0 f_t1
  generalize (y8.alloc (.cells #[.int .i64 u0,.int .i64 u1] 23))=x9 at s_k t_k xp_k xq_k xu_k H hb ⊢
  refine(PM.out _ H).mono ?_
  rintro _ y10 ⟨rfl,hw⟩
  have s_k:=ac hw s_k
  have t_k:=ac hw t_k
  have xp_k:=ac hw xp_k
  have xq_k:=ac hw xq_k
  have xu_k:=ac hw xu_k
  have H:=H.keeps hw
  have hb:=ab hb hw
  have s_k:=ah (.cells #[.int .i64 m0,.int .i64 m1] 23) s_k
  have t_k:=ah (.cells #[.int .i64 m0,.int .i64 m1] 23) t_k
  have xp_k:=ah (.cells #[.int .i64 m0,.int .i64 m1] 23) xp_k
  have xq_k:=ah (.cells #[.int .i64 m0,.int .i64 m1] 23) xq_k
  have xu_k:=ah (.cells #[.int .i64 m0,.int .i64 m1] 23) xu_k
  have xm_k:(y10.alloc (.cells #[.int .i64 m0,.int .i64 m1] 23)).heap[y10.heap.size]?=some (.cells #[.int .i64 m0,.int .i64 m1] 23):=av (.cells #[.int .i64 m0,.int .i64 m1] 23) (by simp only[ak])
  have H:=H.keeps (ae y10 (.cells #[.int .i64 m0,.int .i64 m1] 23))
  have hb:=ab hb (ae y10 (.cells #[.int .i64 m0,.int .i64 m1] 23))
  have f_s0:=aa s_k 0 rfl
  have f_s1:=aa s_k 1 rfl
  have f_t0:=aa t_k 0 rfl
  have f_t1:=aa t_k 1 rfl
  go_wp2_with fail
  clear f_s0 f_s1 f_t0 f_t1
  generalize (y10.alloc (.cells #[.int .i64 m0,.int .i64 m1] 23))=x11 at s_k t_k xp_k xq_k xu_k xm_k H hb ⊢
  refine(PJ.out _ H).mono ?_
  rintro _ y12 ⟨rfl,hw⟩
  have s_k:=ac hw s_k
  have t_k:=ac hw t_k
  have xp_k:=ac hw xp_k
  have xq_k:=ac hw xq_k
  have xu_k:=ac hw xu_k
  have xm_k:=ac hw xm_k
  have H:=H.keeps hw
  have hb:=ab hb hw
  have s_k:=ah (.cells #[.int .i64 j0,.int .i64 j1] 23) s_k
  have t_k:=ah (.cells #[.int .i64 j0,.int .i64 j1] 23) t_k
  have xp_k:=ah (.cells #[.int .i64 j0,.int .i64 j1] 23) xp_k
  have xq_k:=ah (.cells #[.int .i64 j0,.int .i64 j1] 23) xq_k
  have xu_k:=ah (.cells #[.int .i64 j0,.int .i64 j1] 23) xu_k
  have xm_k:=ah (.cells #[.int .i64 j0,.int .i64 j1] 23) xm_k
  have xj_k:(y12.alloc (.cells #[.int .i64 j0,.int .i64 j1] 23)).heap[y12.heap.size]?=some (.cells #[.int .i64 j0,.int .i64 j1] 23):=av (.cells #[.int .i64 j0,.int .i64 j1] 23) (by simp only[ak])
  have H:=H.keeps (ae y12 (.cells #[.int .i64 j0,.int .i64 j1] 23))
  have hb:=ab hb (ae y12 (.cells #[.int .i64 j0,.int .i64 j1] 23))
  have f_s0:=aa s_k 0 rfl
  have f_s1:=aa s_k 1 rfl
  have f_t0:=aa t_k 0 rfl
  have f_t1:=aa t_k 1 rfl
  go_wp2_with fail
  clear f_s0 f_s1 f_t0 f_t1
  generalize (y12.alloc (.cells #[.int .i64 j0,.int .i64 j1] 23))=x13 at s_k t_k xp_k xq_k xu_k xm_k xj_k H hb ⊢
  refine(RM.out _).mono ?_
  rintro _ y14 ⟨rfl,hw⟩
  have s_k:=ac hw s_k
  have t_k:=ac hw t_k
  have xp_k:=ac hw xp_k
  have xq_k:=ac hw xq_k
  have xu_k:=ac hw xu_k
  have xm_k:=ac hw xm_k
  have xj_k:=ac hw xj_k
  have H:=H.keeps hw
  have hb:=ab hb hw
  have s_k:=ah (.cells #[.int .i64 m0,.int .i64 m1] 23) s_k
  have t_k:=ah (.cells #[.int .i64 m0,.int .i64 m1] 23) t_k
  have xp_k:=ah (.cells #[.int .i64 m0,.int .i64 m1] 23) xp_k
  have xq_k:=ah (.cells #[.int .i64 m0,.int .i64 m1] 23) xq_k
  have xu_k:=ah (.cells #[.int .i64 m0,.int .i64 m1] 23) xu_k
  have xm_k:=ah (.cells #[.int .i64 m0,.int .i64 m1] 23) xm_k
  have xj_k:=ah (.cells #[.int .i64 m0,.int .i64 m1] 23) xj_k
  have xr_k:(y14.alloc (.cells #[.int .i64 m0,.int .i64 m1] 23)).heap[y14.heap.size]?=some (.cells #[.int .i64 m0,.int .i64 m1] 23):=av (.cells #[.int .i64 m0,.int .i64 m1] 23) (by simp only[ak])
  have H:=H.keeps (ae y14 (.cells #[.int .i64 m0,.int .i64 m1] 23))
  have hb:=ab hb (ae y14 (.cells #[.int .i64 m0,.int .i64 m1] 23))
  go_wp2_with fail
  generalize (y14.alloc (.cells #[.int .i64 m0,.int .i64 m1] 23))=x15 at s_k t_k xp_k xq_k xu_k xm_k xj_k xr_k H hb ⊢
  have KK:∀ W,Below x15.heap.size x15 W->W.cell? ⟨w.heap.size,0,none⟩=some (.int .i64 a)∧W.cell? ⟨w.heap.size,1,none⟩=some (.int .i64 b)∧W.cell? ⟨w.heap.size+1,0,none⟩=some (.int .i64 c)∧W.cell? ⟨w.heap.size+1,1,none⟩=some (.int .i64 d)∧W.cell? ⟨y4.heap.size,0,none⟩=some (.int .i64 p0)∧W.cell? ⟨y4.heap.size,1,none⟩=some (.int .i64 p1)∧W.cell? ⟨y6.heap.size,0,none⟩=some (.int .i64 q0)∧W.cell? ⟨y6.heap.size,1,none⟩=some (.int .i64 q1)∧W.cell? ⟨y8.heap.size,0,none⟩=some (.int .i64 u0)∧W.cell? ⟨y8.heap.size,1,none⟩=some (.int .i64 u1)∧W.cell? ⟨y10.heap.size,0,none⟩=some (.int .i64 m0)∧W.cell? ⟨y10.heap.size,1,none⟩=some (.int .i64 m1)∧W.cell? ⟨y12.heap.size,0,none⟩=some (.int .i64 j0)∧W.cell? ⟨y12.heap.size,1,none⟩=some (.int .i64 j1)∧W.cell? ⟨y14.heap.size,0,none⟩=some (.int .i64 m0)∧W.cell? ⟨y14.heap.size,1,none⟩=some (.int .i64 m1):=fun W hW=>⟨am (aa s_k 0 rfl) hW,am (aa s_k 1 rfl) hW,am (aa t_k 0 rfl) hW,am (aa t_k 1 rfl) hW,am (aa xp_k 0 rfl) hW,am (aa xp_k 1 rfl) hW,am (aa xq_k 0 rfl) hW,am (aa xq_k 1 rfl) hW,am (aa xu_k 0 rfl) hW,am (aa xu_k 1 rfl) hW,am (aa xm_k 0 rfl) hW,am (aa xm_k 1 rfl) hW,am (aa xj_k 0 rfl) hW,am (aa xj_k 1 rfl) hW,am (aa xr_k 0 rfl) hW,am (aa xr_k 1 rfl) hW⟩
  have B0:Below x15.heap.size x15 x15.drew:=(ap _).drew
  clear PA PB PC PM PJ VA VB RM H
  cases mk
  all_goals
    go_region_held3 (fun W=>W.cell? ⟨w.heap.size,0,none⟩=some (.int .i64 a)∧W.cell? ⟨w.heap.size,1,none⟩=some (.int .i64 b)∧W.cell? ⟨w.heap.size+1,0,none⟩=some (.int .i64 c)∧W.cell? ⟨w.heap.size+1,1,none⟩=some (.int .i64 d)∧W.cell? ⟨y4.heap.size,0,none⟩=some (.int .i64 p0)∧W.cell? ⟨y4.heap.size,1,none⟩=some (.int .i64 p1)∧W.cell? ⟨y6.heap.size,0,none⟩=some (.int .i64 q0)∧W.cell? ⟨y6.heap.size,1,none⟩=some (.int .i64 q1)∧W.cell? ⟨y8.heap.size,0,none⟩=some (.int .i64 u0)∧W.cell? ⟨y8.heap.size,1,none⟩=some (.int .i64 u1)∧W.cell? ⟨y10.heap.size,0,none⟩=some (.int .i64 m0)∧W.cell? ⟨y10.heap.size,1,none⟩=some (.int .i64 m1)∧W.cell? ⟨y12.heap.size,0,none⟩=some (.int .i64 j0)∧W.cell? ⟨y12.heap.size,1,none⟩=some (.int .i64 j1)∧W.cell? ⟨y14.heap.size,0,none⟩=some (.int .i64 m0)∧W.cell? ⟨y14.heap.size,1,none⟩=some (.int .i64 m1))
      (first|assumption|exact KK _ B0|exact KK _ B1|exact KK _ B2|exact KK _ B3|exact KK _ B4|exact KK _ B5|exact KK _ B6|exact KK _ B7|exact KK _ B8|exact KK _ B9|fail)
      (first
        | (go_at_call 18;have _t:=hs8;refine(dM j0 j1 _).mono ?_;rintro _ y_9 ⟨rfl,hs9⟩;have B9:=ab B8 hs9)
        | (go_at_call 34;have _t:=hs7;refine(RJ.out _).mono ?_;rintro _ y_8 ⟨rfl,hs8⟩;have B8:=ab B7 hs8)
        | (go_at_call 18;have _t:=hs6;refine(dM m0 m1 _).mono ?_;rintro _ y_7 ⟨rfl,hs7⟩;have B7:=ab B6 hs7)
        | (go_at_call 18;have _t:=hs5;refine(dM u0 u1 _).mono ?_;rintro _ y_6 ⟨rfl,hs6⟩;have B6:=ab B5 hs6)
        | (go_at_call 33;have _t:=hs4;refine(RC.out _).mono ?_;rintro _ y_5 ⟨rfl,hs5⟩;have B5:=ab B4 hs5)
        | (go_at_call 18;have _t:=hs3;refine(dM q0 q1 _).mono ?_;rintro _ y_4 ⟨rfl,hs4⟩;have B4:=ab B3 hs4)
        | (go_at_call 32;have _t:=hs2;refine(RB.out _).mono ?_;rintro _ y_3 ⟨rfl,hs3⟩;have B3:=ab B2 hs3)
        | (go_at_call 18;have _t:=hs1;refine(dM p0 p1 _).mono ?_;rintro _ y_2 ⟨rfl,hs2⟩;have B2:=ab B1 hs2)
        | (go_at_call 31; refine (RA.out _).mono ?_; rintro _ y_1 ⟨rfl,hs1⟩; have B1:=ab B0 hs1))
    go_wp2
    all_goals go_ret
    all_goals exact⟨rfl,ab hb B9⟩
end Go.Proofs.YtkkpppgfoilgmaaGreatDoor
