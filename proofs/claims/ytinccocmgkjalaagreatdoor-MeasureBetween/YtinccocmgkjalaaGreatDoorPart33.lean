/-
  Parts of the proof, one behind another.
-/
import Derived.Test.YtinccocmgkjalaaGreatDoorPart32
import Derived.Test.YtinccocmgkjalaaGreatDoorPart8
import Derived.Test.YtinccocmgkjalaaGreatDoorPart12
import Derived.Test.YtinccocmgkjalaaGreatDoorPart17
set_option linter.unusedVariables false
set_option linter.unusedSimpArgs false
namespace Go.Proofs.YtinccocmgkjalaaGreatDoor
open Go Go.RowKit Go.Proofs.YtinccocmgkjalaaGreatDoor.M
set_option maxRecDepth 100000 in
set_option maxHeartbeats 8000000 in
theorem r10exact_any {ax ay bx by' cx cy:Int} (pax:pok ax=true) (pay:pok ay=true) (pbx:pok bx=true) (pby:pok by'=true) (pcx:pok cx=true) (pcy:pok cy=true) (rax:rng ax) (ray:rng ay) (rbx:rng bx) (rby:rng by') (rcx:rng cx) (rcy:rng cy) (w:World) :
  Calls Tryz.prog 27 #[.agg #[.int .i64 ax,.int .i64 ay],.agg #[.int .i64 bx,.int .i64 by'],.agg #[.int .i64 cx,.int .i64 cy]] w fun r w'=>∃ v V,r=.returned v∧DAn w.heap.size w' V v∧Below w.heap.size w w'∧Det (patV ax - patV cx) (patV ay - patV cy) (patV bx - patV cx) (patV by' - patV cy) V:=by
 have Eax:Hid (∀ W,Calls Tryz.prog 48 #[.int .i64 ax] W fun r w'=>∃ v,r=.returned v∧DAns W w' (patV ax) v):=fun W=>r3exact_any ax W rax pax
 have Bax:=patV_bd pax
 have Eay:Hid (∀ W,Calls Tryz.prog 48 #[.int .i64 ay] W fun r w'=>∃ v,r=.returned v∧DAns W w' (patV ay) v):=fun W=>r3exact_any ay W ray pay
 have Bay:=patV_bd pay
 have Ebx:Hid (∀ W,Calls Tryz.prog 48 #[.int .i64 bx] W fun r w'=>∃ v,r=.returned v∧DAns W w' (patV bx) v):=fun W=>r3exact_any bx W rbx pbx
 have Bbx:=patV_bd pbx
 have Eby:Hid (∀ W,Calls Tryz.prog 48 #[.int .i64 by'] W fun r w'=>∃ v,r=.returned v∧DAns W w' (patV by') v):=fun W=>r3exact_any by' W rby pby
 have Bby:=patV_bd pby
 have Ecx:Hid (∀ W,Calls Tryz.prog 48 #[.int .i64 cx] W fun r w'=>∃ v,r=.returned v∧DAns W w' (patV cx) v):=fun W=>r3exact_any cx W rcx pcx
 have Bcx:=patV_bd pcx
 have Ecy:Hid (∀ W,Calls Tryz.prog 48 #[.int .i64 cy] W fun r w'=>∃ v,r=.returned v∧DAns W w' (patV cy) v):=fun W=>r3exact_any cy W rcy pcy
 have Bcy:=patV_bd pcy
 generalize patV ax=Vax at *
 generalize patV ay=Vay at *
 generalize patV bx=Vbx at *
 generalize patV by'=Vby at *
 generalize patV cx=Vcx at *
 generalize patV cy=Vcy at *
 clear pax pay pbx pby pcx pcy rax ray rbx rby rcx rcy
 have hb0:=bel_a4 w (.cells #[.int .i64 ax,.int .i64 ay] 23) (.cells #[.int .i64 bx,.int .i64 by'] 23) (.cells #[.int .i64 cx,.int .i64 cy] 23) (.cells #[.bool false,.slice none 0 0,.int .i64 0] 34)
 have a_k:=h4_0 w (.cells #[.int .i64 ax,.int .i64 ay] 23) (.cells #[.int .i64 bx,.int .i64 by'] 23) (.cells #[.int .i64 cx,.int .i64 cy] 23) (.cells #[.bool false,.slice none 0 0,.int .i64 0] 34)
 have b_k:=h4_1 w (.cells #[.int .i64 ax,.int .i64 ay] 23) (.cells #[.int .i64 bx,.int .i64 by'] 23) (.cells #[.int .i64 cx,.int .i64 cy] 23) (.cells #[.bool false,.slice none 0 0,.int .i64 0] 34)
 have c_k:=h4_2 w (.cells #[.int .i64 ax,.int .i64 ay] 23) (.cells #[.int .i64 bx,.int .i64 by'] 23) (.cells #[.int .i64 cx,.int .i64 cy] 23) (.cells #[.bool false,.slice none 0 0,.int .i64 0] 34)
 have r_k:=h4_3 w (.cells #[.int .i64 ax,.int .i64 ay] 23) (.cells #[.int .i64 bx,.int .i64 by'] 23) (.cells #[.int .i64 cx,.int .i64 cy] 23) (.cells #[.bool false,.slice none 0 0,.int .i64 0] 34)
 go_enter Tryz.func27,Tryz.ntmps27
 go_wp2_with fail
 rename_i Q0 Ka0 hKa0 Kb0 hKb0
 generalize (((w.alloc (.cells #[.int .i64 ax,.int .i64 ay] 23)).alloc (.cells #[.int .i64 bx,.int .i64 by'] 23)).alloc (.cells #[.int .i64 cx,.int .i64 cy] 23)).alloc (.cells #[.bool false,.slice none 0 0,.int .i64 0] 34)=x0 at hb0 a_k b_k c_k r_k ⊢
 refine (Ecx.out _).mono ?_
 rintro _ y1 ⟨v,rfl,h1⟩
 obtain ⟨cx_g,cx_o,cx_n,cx_c,cx_e,rfl⟩:=dans_shape h1
 have hw1:=h1.below
 have cx_D:=h1.dan.lower hb0.size
 have a_k:=(hw1.block _ (Array.getElem?_eq_some_iff.1 a_k).1).trans a_k
 have b_k:=(hw1.block _ (Array.getElem?_eq_some_iff.1 b_k).1).trans b_k
 have c_k:=(hw1.block _ (Array.getElem?_eq_some_iff.1 c_k).1).trans c_k
 have r_k:=(hw1.block _ (Array.getElem?_eq_some_iff.1 r_k).1).trans r_k
 have hb1:=bel_trans hb0 hw1
 have a_k:=heap_past (.cells #[.bool cx_g,.slice cx_o cx_n cx_c,.int .i64 cx_e] 34) a_k
 have b_k:=heap_past (.cells #[.bool cx_g,.slice cx_o cx_n cx_c,.int .i64 cx_e] 34) b_k
 have c_k:=heap_past (.cells #[.bool cx_g,.slice cx_o cx_n cx_c,.int .i64 cx_e] 34) c_k
 have r_k:=heap_past (.cells #[.bool cx_g,.slice cx_o cx_n cx_c,.int .i64 cx_e] 34) r_k
 have cx_k:=heap_a1 y1 (.cells #[.bool cx_g,.slice cx_o cx_n cx_c,.int .i64 cx_e] 34)
 have cx_D:=cx_D.keeps (bel_alloc y1 (.cells #[.bool cx_g,.slice cx_o cx_n cx_c,.int .i64 cx_e] 34))
 have hb2':=bel_trans hb1 (bel_alloc y1 (.cells #[.bool cx_g,.slice cx_o cx_n cx_c,.int .i64 cx_e] 34))
 have f_c1:=blkC c_k 1 rfl
 go_wp2_with fail
 clear f_c1
 generalize y1.alloc (.cells #[.bool cx_g,.slice cx_o cx_n cx_c,.int .i64 cx_e] 34)=x2 at a_k b_k c_k r_k cx_k cx_D hb2' ⊢
 refine (Ecy.out _).mono ?_
 rintro _ y2 ⟨v,rfl,h2⟩
 obtain ⟨cy_g,cy_o,cy_n,cy_c,cy_e,rfl⟩:=dans_shape h2
 have hw2:=h2.below
 have cy_D:=h2.dan.lower hb2'.size
 have a_k:=(hw2.block _ (Array.getElem?_eq_some_iff.1 a_k).1).trans a_k
 have b_k:=(hw2.block _ (Array.getElem?_eq_some_iff.1 b_k).1).trans b_k
 have c_k:=(hw2.block _ (Array.getElem?_eq_some_iff.1 c_k).1).trans c_k
 have r_k:=(hw2.block _ (Array.getElem?_eq_some_iff.1 r_k).1).trans r_k
 have cx_k:=(hw2.block _ (Array.getElem?_eq_some_iff.1 cx_k).1).trans cx_k
 have cx_D:=cx_D.keeps hw2
 have hb2:=bel_trans hb2' hw2
 have a_k:=heap_past (.cells #[.bool cy_g,.slice cy_o cy_n cy_c,.int .i64 cy_e] 34) a_k
 have b_k:=heap_past (.cells #[.bool cy_g,.slice cy_o cy_n cy_c,.int .i64 cy_e] 34) b_k
 have c_k:=heap_past (.cells #[.bool cy_g,.slice cy_o cy_n cy_c,.int .i64 cy_e] 34) c_k
 have r_k:=heap_past (.cells #[.bool cy_g,.slice cy_o cy_n cy_c,.int .i64 cy_e] 34) r_k
 have cx_k:=heap_past (.cells #[.bool cy_g,.slice cy_o cy_n cy_c,.int .i64 cy_e] 34) cx_k
 have cy_k:=heap_a1 y2 (.cells #[.bool cy_g,.slice cy_o cy_n cy_c,.int .i64 cy_e] 34)
 have cx_D:=cx_D.keeps (bel_alloc y2 (.cells #[.bool cy_g,.slice cy_o cy_n cy_c,.int .i64 cy_e] 34))
 have cy_D:=cy_D.keeps (bel_alloc y2 (.cells #[.bool cy_g,.slice cy_o cy_n cy_c,.int .i64 cy_e] 34))
 have hb3':=bel_trans hb2 (bel_alloc y2 (.cells #[.bool cy_g,.slice cy_o cy_n cy_c,.int .i64 cy_e] 34))
 go_wp2_with fail
 generalize y2.alloc (.cells #[.bool cy_g,.slice cy_o cy_n cy_c,.int .i64 cy_e] 34)=x3 at a_k b_k c_k r_k cx_k cy_k cx_D cy_D hb3' ⊢
 have hr_ax1:=(Array.getElem?_eq_some_iff.1 r_k).1
 rename_i K4 hK4
 have HN4:∀ (g:Nat) (x4:World) (t:Array Value) (ax1_g:Bool) (ax1_o:Option Addr) (ax1_n ax1_c:Nat) (ax1_e:Int),#[t.getD 0 undef,t.getD 1 undef,t.getD 2 undef,.pointer (some ⟨w.heap.size,0,none⟩),.pointer (some ⟨w.heap.size + 1,0,none⟩),.pointer (some ⟨w.heap.size + 1 + 1,0,none⟩),.pointer (some ⟨w.heap.size + 1 + 1 + 1,0,none⟩),.pointer (some ⟨y1.heap.size,0,none⟩),.pointer (some ⟨y2.heap.size,0,none⟩),.pointer (some ⟨g,0,none⟩),t.getD 10 undef,t.getD 11 undef,t.getD 12 undef,t.getD 13 undef,t.getD 14 undef,t.getD 15 undef,t.getD 16 undef,t.getD 17 undef,t.getD 18 undef,t.getD 19 undef,t.getD 20 undef,t.getD 21 undef,t.getD 22 undef,t.getD 23 undef,t.getD 24 undef,t.getD 25 undef,t.getD 26 undef,t.getD 27 undef,t.getD 28 undef,t.getD 29 undef,t.getD 30 undef,t.getD 31 undef,t.getD 32 undef,t.getD 33 undef,t.getD 34 undef,t.getD 35 undef,t.getD 36 undef,t.getD 37 undef,t.getD 38 undef,t.getD 39 undef,t.getD 40 undef,t.getD 41 undef,t.getD 42 undef,t.getD 43 undef,t.getD 44 undef,t.getD 45 undef]=t->x3.heap.size <= g->x4.heap[g]?=some (.cells #[.bool ax1_g,.slice ax1_o ax1_n ax1_c,.int .i64 ax1_e] 34 (0,0))->Below x3.heap.size x3 x4->DAn w.heap.size x4 (Vax - Vcx) (.agg #[.bool ax1_g,.slice ax1_o ax1_n ax1_c,.int .i64 ax1_e])->Exit.then K4 Q0 Exit.normal { tmps:=t,defers:=[] } x4:=by
  intro g_ax1 x4 t ax1_g ax1_o ax1_n ax1_c ax1_e  ht ax1_ge ax1_k hw4 ax1_D 
  obtain ⟨u4,hu⟩:∃ u:Nat->Value,t=#[u 0,u 1,u 2,.pointer (some ⟨w.heap.size,0,none⟩),.pointer (some ⟨w.heap.size + 1,0,none⟩),.pointer (some ⟨w.heap.size + 1 + 1,0,none⟩),.pointer (some ⟨w.heap.size + 1 + 1 + 1,0,none⟩),.pointer (some ⟨y1.heap.size,0,none⟩),.pointer (some ⟨y2.heap.size,0,none⟩),.pointer (some ⟨g_ax1,0,none⟩),u 10,u 11,u 12,u 13,u 14,u 15,u 16,u 17,u 18,u 19,u 20,u 21,u 22,u 23,u 24,u 25,u 26,u 27,u 28,u 29,u 30,u 31,u 32,u 33,u 34,u 35,u 36,u 37,u 38,u 39,u 40,u 41,u 42,u 43,u 44,u 45]:=⟨fun k=>t.getD k undef,ht.symm⟩
  clear ht
  subst hu
  have a_k:=(hw4.block _ (Array.getElem?_eq_some_iff.1 a_k).1).trans a_k
  have b_k:=(hw4.block _ (Array.getElem?_eq_some_iff.1 b_k).1).trans b_k
  have c_k:=(hw4.block _ (Array.getElem?_eq_some_iff.1 c_k).1).trans c_k
  have r_k:=(hw4.block _ (Array.getElem?_eq_some_iff.1 r_k).1).trans r_k
  have cx_k:=(hw4.block _ (Array.getElem?_eq_some_iff.1 cx_k).1).trans cx_k
  have cx_D:=cx_D.keeps hw4
  have cy_k:=(hw4.block _ (Array.getElem?_eq_some_iff.1 cy_k).1).trans cy_k
  have cy_D:=cy_D.keeps hw4
  have hb4:=bel_trans hb3' hw4
  go_wp2_with fail
  have hr_ay1:=(Array.getElem?_eq_some_iff.1 r_k).1
  rename_i K5 hK5
  have HN5:∀ (g:Nat) (x5:World) (t:Array Value) (ay1_g:Bool) (ay1_o:Option Addr) (ay1_n ay1_c:Nat) (ay1_e:Int),#[t.getD 0 undef,t.getD 1 undef,t.getD 2 undef,.pointer (some ⟨w.heap.size,0,none⟩),.pointer (some ⟨w.heap.size + 1,0,none⟩),.pointer (some ⟨w.heap.size + 1 + 1,0,none⟩),.pointer (some ⟨w.heap.size + 1 + 1 + 1,0,none⟩),.pointer (some ⟨y1.heap.size,0,none⟩),.pointer (some ⟨y2.heap.size,0,none⟩),.pointer (some ⟨g_ax1,0,none⟩),.pointer (some ⟨g,0,none⟩),t.getD 11 undef,t.getD 12 undef,t.getD 13 undef,t.getD 14 undef,t.getD 15 undef,t.getD 16 undef,t.getD 17 undef,t.getD 18 undef,t.getD 19 undef,t.getD 20 undef,t.getD 21 undef,t.getD 22 undef,t.getD 23 undef,t.getD 24 undef,t.getD 25 undef,t.getD 26 undef,t.getD 27 undef,t.getD 28 undef,t.getD 29 undef,t.getD 30 undef,t.getD 31 undef,t.getD 32 undef,t.getD 33 undef,t.getD 34 undef,t.getD 35 undef,t.getD 36 undef,t.getD 37 undef,t.getD 38 undef,t.getD 39 undef,t.getD 40 undef,t.getD 41 undef,t.getD 42 undef,t.getD 43 undef,t.getD 44 undef,t.getD 45 undef]=t->x4.heap.size <= g->x5.heap[g]?=some (.cells #[.bool ay1_g,.slice ay1_o ay1_n ay1_c,.int .i64 ay1_e] 34 (0,0))->Below x4.heap.size x4 x5->DAn w.heap.size x5 (Vay - Vcy) (.agg #[.bool ay1_g,.slice ay1_o ay1_n ay1_c,.int .i64 ay1_e])->Exit.then K5 Q0 Exit.normal { tmps:=t,defers:=[] } x5:=by
   intro g_ay1 x5 t ay1_g ay1_o ay1_n ay1_c ay1_e  ht ay1_ge ay1_k hw5 ay1_D 
   obtain ⟨u5,hu⟩:∃ u:Nat->Value,t=#[u 0,u 1,u 2,.pointer (some ⟨w.heap.size,0,none⟩),.pointer (some ⟨w.heap.size + 1,0,none⟩),.pointer (some ⟨w.heap.size + 1 + 1,0,none⟩),.pointer (some ⟨w.heap.size + 1 + 1 + 1,0,none⟩),.pointer (some ⟨y1.heap.size,0,none⟩),.pointer (some ⟨y2.heap.size,0,none⟩),.pointer (some ⟨g_ax1,0,none⟩),.pointer (some ⟨g_ay1,0,none⟩),u 11,u 12,u 13,u 14,u 15,u 16,u 17,u 18,u 19,u 20,u 21,u 22,u 23,u 24,u 25,u 26,u 27,u 28,u 29,u 30,u 31,u 32,u 33,u 34,u 35,u 36,u 37,u 38,u 39,u 40,u 41,u 42,u 43,u 44,u 45]:=⟨fun k=>t.getD k undef,ht.symm⟩
   clear ht
   subst hu
   have a_k:=(hw5.block _ (Array.getElem?_eq_some_iff.1 a_k).1).trans a_k
   have b_k:=(hw5.block _ (Array.getElem?_eq_some_iff.1 b_k).1).trans b_k
   have c_k:=(hw5.block _ (Array.getElem?_eq_some_iff.1 c_k).1).trans c_k
   have r_k:=(hw5.block _ (Array.getElem?_eq_some_iff.1 r_k).1).trans r_k
   have cx_k:=(hw5.block _ (Array.getElem?_eq_some_iff.1 cx_k).1).trans cx_k
   have cx_D:=cx_D.keeps hw5
   have cy_k:=(hw5.block _ (Array.getElem?_eq_some_iff.1 cy_k).1).trans cy_k
   have cy_D:=cy_D.keeps hw5
   have ax1_k:=(hw5.block _ (Array.getElem?_eq_some_iff.1 ax1_k).1).trans ax1_k
   have ax1_D:=ax1_D.keeps hw5
   have hb5:=bel_trans hb4 hw5
   go_wp2_with fail
   have hr_bx1:=(Array.getElem?_eq_some_iff.1 r_k).1
   rename_i K6 hK6
   have HN6:∀ (g:Nat) (x6:World) (t:Array Value) (bx1_g:Bool) (bx1_o:Option Addr) (bx1_n bx1_c:Nat) (bx1_e:Int),#[t.getD 0 undef,t.getD 1 undef,t.getD 2 undef,.pointer (some ⟨w.heap.size,0,none⟩),.pointer (some ⟨w.heap.size + 1,0,none⟩),.pointer (some ⟨w.heap.size + 1 + 1,0,none⟩),.pointer (some ⟨w.heap.size + 1 + 1 + 1,0,none⟩),.pointer (some ⟨y1.heap.size,0,none⟩),.pointer (some ⟨y2.heap.size,0,none⟩),.pointer (some ⟨g_ax1,0,none⟩),.pointer (some ⟨g_ay1,0,none⟩),.pointer (some ⟨g,0,none⟩),t.getD 12 undef,t.getD 13 undef,t.getD 14 undef,t.getD 15 undef,t.getD 16 undef,t.getD 17 undef,t.getD 18 undef,t.getD 19 undef,t.getD 20 undef,t.getD 21 undef,t.getD 22 undef,t.getD 23 undef,t.getD 24 undef,t.getD 25 undef,t.getD 26 undef,t.getD 27 undef,t.getD 28 undef,t.getD 29 undef,t.getD 30 undef,t.getD 31 undef,t.getD 32 undef,t.getD 33 undef,t.getD 34 undef,t.getD 35 undef,t.getD 36 undef,t.getD 37 undef,t.getD 38 undef,t.getD 39 undef,t.getD 40 undef,t.getD 41 undef,t.getD 42 undef,t.getD 43 undef,t.getD 44 undef,t.getD 45 undef]=t->x5.heap.size <= g->x6.heap[g]?=some (.cells #[.bool bx1_g,.slice bx1_o bx1_n bx1_c,.int .i64 bx1_e] 34 (0,0))->Below x5.heap.size x5 x6->DAn w.heap.size x6 (Vbx - Vcx) (.agg #[.bool bx1_g,.slice bx1_o bx1_n bx1_c,.int .i64 bx1_e])->Exit.then K6 Q0 Exit.normal { tmps:=t,defers:=[] } x6:=by
    intro g_bx1 x6 t bx1_g bx1_o bx1_n bx1_c bx1_e  ht bx1_ge bx1_k hw6 bx1_D 
    obtain ⟨u6,hu⟩:∃ u:Nat->Value,t=#[u 0,u 1,u 2,.pointer (some ⟨w.heap.size,0,none⟩),.pointer (some ⟨w.heap.size + 1,0,none⟩),.pointer (some ⟨w.heap.size + 1 + 1,0,none⟩),.pointer (some ⟨w.heap.size + 1 + 1 + 1,0,none⟩),.pointer (some ⟨y1.heap.size,0,none⟩),.pointer (some ⟨y2.heap.size,0,none⟩),.pointer (some ⟨g_ax1,0,none⟩),.pointer (some ⟨g_ay1,0,none⟩),.pointer (some ⟨g_bx1,0,none⟩),u 12,u 13,u 14,u 15,u 16,u 17,u 18,u 19,u 20,u 21,u 22,u 23,u 24,u 25,u 26,u 27,u 28,u 29,u 30,u 31,u 32,u 33,u 34,u 35,u 36,u 37,u 38,u 39,u 40,u 41,u 42,u 43,u 44,u 45]:=⟨fun k=>t.getD k undef,ht.symm⟩
    clear ht
    subst hu
    have a_k:=(hw6.block _ (Array.getElem?_eq_some_iff.1 a_k).1).trans a_k
    have b_k:=(hw6.block _ (Array.getElem?_eq_some_iff.1 b_k).1).trans b_k
    have c_k:=(hw6.block _ (Array.getElem?_eq_some_iff.1 c_k).1).trans c_k
    have r_k:=(hw6.block _ (Array.getElem?_eq_some_iff.1 r_k).1).trans r_k
    have cx_k:=(hw6.block _ (Array.getElem?_eq_some_iff.1 cx_k).1).trans cx_k
    have cx_D:=cx_D.keeps hw6
    have cy_k:=(hw6.block _ (Array.getElem?_eq_some_iff.1 cy_k).1).trans cy_k
    have cy_D:=cy_D.keeps hw6
    have ax1_k:=(hw6.block _ (Array.getElem?_eq_some_iff.1 ax1_k).1).trans ax1_k
    have ax1_D:=ax1_D.keeps hw6
    have ay1_k:=(hw6.block _ (Array.getElem?_eq_some_iff.1 ay1_k).1).trans ay1_k
    have ay1_D:=ay1_D.keeps hw6
    have hb6:=bel_trans hb5 hw6
    go_wp2_with fail
    have hr_by1:=(Array.getElem?_eq_some_iff.1 r_k).1
    rename_i K7 hK7
    have HN7:∀ (g:Nat) (x7:World) (t:Array Value) (by1_g:Bool) (by1_o:Option Addr) (by1_n by1_c:Nat) (by1_e:Int),#[t.getD 0 undef,t.getD 1 undef,t.getD 2 undef,.pointer (some ⟨w.heap.size,0,none⟩),.pointer (some ⟨w.heap.size + 1,0,none⟩),.pointer (some ⟨w.heap.size + 1 + 1,0,none⟩),.pointer (some ⟨w.heap.size + 1 + 1 + 1,0,none⟩),.pointer (some ⟨y1.heap.size,0,none⟩),.pointer (some ⟨y2.heap.size,0,none⟩),.pointer (some ⟨g_ax1,0,none⟩),.pointer (some ⟨g_ay1,0,none⟩),.pointer (some ⟨g_bx1,0,none⟩),.pointer (some ⟨g,0,none⟩),t.getD 13 undef,t.getD 14 undef,t.getD 15 undef,t.getD 16 undef,t.getD 17 undef,t.getD 18 undef,t.getD 19 undef,t.getD 20 undef,t.getD 21 undef,t.getD 22 undef,t.getD 23 undef,t.getD 24 undef,t.getD 25 undef,t.getD 26 undef,t.getD 27 undef,t.getD 28 undef,t.getD 29 undef,t.getD 30 undef,t.getD 31 undef,t.getD 32 undef,t.getD 33 undef,t.getD 34 undef,t.getD 35 undef,t.getD 36 undef,t.getD 37 undef,t.getD 38 undef,t.getD 39 undef,t.getD 40 undef,t.getD 41 undef,t.getD 42 undef,t.getD 43 undef,t.getD 44 undef,t.getD 45 undef]=t->x6.heap.size <= g->x7.heap[g]?=some (.cells #[.bool by1_g,.slice by1_o by1_n by1_c,.int .i64 by1_e] 34 (0,0))->Below x6.heap.size x6 x7->DAn w.heap.size x7 (Vby - Vcy) (.agg #[.bool by1_g,.slice by1_o by1_n by1_c,.int .i64 by1_e])->Exit.then K7 Q0 Exit.normal { tmps:=t,defers:=[] } x7:=by
     intro g_by1 x7 t by1_g by1_o by1_n by1_c by1_e  ht by1_ge by1_k hw7 by1_D 
     obtain ⟨u7,hu⟩:∃ u:Nat->Value,t=#[u 0,u 1,u 2,.pointer (some ⟨w.heap.size,0,none⟩),.pointer (some ⟨w.heap.size + 1,0,none⟩),.pointer (some ⟨w.heap.size + 1 + 1,0,none⟩),.pointer (some ⟨w.heap.size + 1 + 1 + 1,0,none⟩),.pointer (some ⟨y1.heap.size,0,none⟩),.pointer (some ⟨y2.heap.size,0,none⟩),.pointer (some ⟨g_ax1,0,none⟩),.pointer (some ⟨g_ay1,0,none⟩),.pointer (some ⟨g_bx1,0,none⟩),.pointer (some ⟨g_by1,0,none⟩),u 13,u 14,u 15,u 16,u 17,u 18,u 19,u 20,u 21,u 22,u 23,u 24,u 25,u 26,u 27,u 28,u 29,u 30,u 31,u 32,u 33,u 34,u 35,u 36,u 37,u 38,u 39,u 40,u 41,u 42,u 43,u 44,u 45]:=⟨fun k=>t.getD k undef,ht.symm⟩
     clear ht
     subst hu
     have a_k:=(hw7.block _ (Array.getElem?_eq_some_iff.1 a_k).1).trans a_k
     have b_k:=(hw7.block _ (Array.getElem?_eq_some_iff.1 b_k).1).trans b_k
     have c_k:=(hw7.block _ (Array.getElem?_eq_some_iff.1 c_k).1).trans c_k
     have r_k:=(hw7.block _ (Array.getElem?_eq_some_iff.1 r_k).1).trans r_k
     have cx_k:=(hw7.block _ (Array.getElem?_eq_some_iff.1 cx_k).1).trans cx_k
     have cx_D:=cx_D.keeps hw7
     have cy_k:=(hw7.block _ (Array.getElem?_eq_some_iff.1 cy_k).1).trans cy_k
     have cy_D:=cy_D.keeps hw7
     have ax1_k:=(hw7.block _ (Array.getElem?_eq_some_iff.1 ax1_k).1).trans ax1_k
     have ax1_D:=ax1_D.keeps hw7
     have ay1_k:=(hw7.block _ (Array.getElem?_eq_some_iff.1 ay1_k).1).trans ay1_k
     have ay1_D:=ay1_D.keeps hw7
     have bx1_k:=(hw7.block _ (Array.getElem?_eq_some_iff.1 bx1_k).1).trans bx1_k
     have bx1_D:=bx1_D.keeps hw7
     have hb7:=bel_trans hb6 hw7
     go_wp2_with fail
     have B1:=Bax.sub Bcx (by decide)
     have B2:=Bby.sub Bcy (by decide)
     have B3:=Bay.sub Bcy (by decide)
     have B4:=Bbx.sub Bcx (by decide)
     have ne_ax1:g_ax1 ≠ w.heap.size + 3:=by have:=ax1_ge; omega
     have ne_by1:g_by1 ≠ w.heap.size + 3:=by have:=by1_ge; omega
     have ne_ay1:g_ay1 ≠ w.heap.size + 3:=by have:=ay1_ge; omega
     have ne_bx1:g_bx1 ≠ w.heap.size + 3:=by have:=bx1_ge; omega
     have KK8:∀ W,Below x7.heap.size x7 W->W.cell? ⟨g_ax1,0,none⟩=some (.bool ax1_g)∧W.cell? ⟨g_ax1,1,none⟩=some (.slice ax1_o ax1_n ax1_c)∧W.cell? ⟨g_ax1,2,none⟩=some (.int .i64 ax1_e)∧W.cell? ⟨g_by1,0,none⟩=some (.bool by1_g)∧W.cell? ⟨g_by1,1,none⟩=some (.slice by1_o by1_n by1_c)∧W.cell? ⟨g_by1,2,none⟩=some (.int .i64 by1_e)∧W.cell? ⟨g_ay1,0,none⟩=some (.bool ay1_g)∧W.cell? ⟨g_ay1,1,none⟩=some (.slice ay1_o ay1_n ay1_c)∧W.cell? ⟨g_ay1,2,none⟩=some (.int .i64 ay1_e)∧W.cell? ⟨g_bx1,0,none⟩=some (.bool bx1_g)∧W.cell? ⟨g_bx1,1,none⟩=some (.slice bx1_o bx1_n bx1_c)∧W.cell? ⟨g_bx1,2,none⟩=some (.int .i64 bx1_e):=fun W hb=>⟨q_cell (blkC ax1_k 0 rfl) hb,q_cell (blkC ax1_k 1 rfl) hb,q_cell (blkC ax1_k 2 rfl) hb,q_cell (blkC by1_k 0 rfl) hb,q_cell (blkC by1_k 1 rfl) hb,q_cell (blkC by1_k 2 rfl) hb,q_cell (blkC ay1_k 0 rfl) hb,q_cell (blkC ay1_k 1 rfl) hb,q_cell (blkC ay1_k 2 rfl) hb,q_cell (blkC bx1_k 0 rfl) hb,q_cell (blkC bx1_k 1 rfl) hb,q_cell (blkC bx1_k 2 rfl) hb⟩
     have hC8_0:=(bel_refl x7).drew
     have hs8_0:=(bel_refl x7).drew
     have hT8_0:Below w.heap.size w x7.drew:=hb7.drew
     have ax1_D_8_0:=ax1_D.keeps (bel_refl x7).drew
     have by1_D_8_0:=by1_D.keeps (bel_refl x7).drew
     have ay1_D_8_0:=ay1_D.keeps (bel_refl x7).drew
     have bx1_D_8_0:=bx1_D.keeps (bel_refl x7).drew
     go_region_held3 (fun W=>W.cell? ⟨g_ax1,0,none⟩=some (.bool ax1_g)∧W.cell? ⟨g_ax1,1,none⟩=some (.slice ax1_o ax1_n ax1_c)∧W.cell? ⟨g_ax1,2,none⟩=some (.int .i64 ax1_e)∧W.cell? ⟨g_by1,0,none⟩=some (.bool by1_g)∧W.cell? ⟨g_by1,1,none⟩=some (.slice by1_o by1_n by1_c)∧W.cell? ⟨g_by1,2,none⟩=some (.int .i64 by1_e)∧W.cell? ⟨g_ay1,0,none⟩=some (.bool ay1_g)∧W.cell? ⟨g_ay1,1,none⟩=some (.slice ay1_o ay1_n ay1_c)∧W.cell? ⟨g_ay1,2,none⟩=some (.int .i64 ay1_e)∧W.cell? ⟨g_bx1,0,none⟩=some (.bool bx1_g)∧W.cell? ⟨g_bx1,1,none⟩=some (.slice bx1_o bx1_n bx1_c)∧W.cell? ⟨g_bx1,2,none⟩=some (.int .i64 bx1_e))
      (first | assumption | exact KK8 _ hC8_0 | exact KK8 _ hC8_1 | exact KK8 _ hC8_2 | exact KK8 _ hC8_3 | exact ⟨cellS (KK8 _ hC8_3).1 ne_ax1 _ _ _,cellS (KK8 _ hC8_3).2.1 ne_ax1 _ _ _,cellS (KK8 _ hC8_3).2.2.1 ne_ax1 _ _ _,cellS (KK8 _ hC8_3).2.2.2.1 ne_by1 _ _ _,cellS (KK8 _ hC8_3).2.2.2.2.1 ne_by1 _ _ _,cellS (KK8 _ hC8_3).2.2.2.2.2.1 ne_by1 _ _ _,cellS (KK8 _ hC8_3).2.2.2.2.2.2.1 ne_ay1 _ _ _,cellS (KK8 _ hC8_3).2.2.2.2.2.2.2.1 ne_ay1 _ _ _,cellS (KK8 _ hC8_3).2.2.2.2.2.2.2.2.1 ne_ay1 _ _ _,cellS (KK8 _ hC8_3).2.2.2.2.2.2.2.2.2.1 ne_bx1 _ _ _,cellS (KK8 _ hC8_3).2.2.2.2.2.2.2.2.2.2.1 ne_bx1 _ _ _,cellS (KK8 _ hC8_3).2.2.2.2.2.2.2.2.2.2.2 ne_bx1 _ _ _⟩ | fail)
      (first
       | (go_at_call 49; have _t:=hs8_2; refine (r3minus_any l_A s_A (Nat.le_trans hT8_2.size (Nat.le_refl _)) l_B s_B (by omega)).mono ?_; rintro _ y8_3 ⟨v,rfl,nm8,hq8_3⟩; obtain ⟨n_g,n_o,n_n,n_c,n_e,rfl⟩:=nm8.shape; have hs8_3:Below y8_2.heap.size y8_2 y8_3:=(by first | exact hq8_3 | exact bel_trans (bel_alloc _ _) hq8_3); have hT8_3:=bel_trans hT8_2 hs8_3; have hC8_3:=bel_trans hC8_2 hs8_3; have ax1_D_8_3:=ax1_D_8_2.keeps hs8_3; have by1_D_8_3:=by1_D_8_2.keeps hs8_3; have ay1_D_8_3:=ay1_D_8_2.keeps hs8_3; have bx1_D_8_3:=bx1_D_8_2.keeps hs8_3; have hr:=blk_on hs8_3 (blk_on hs8_2 (blk_on hs8_1 (blk_on hs8_0 r_k))); have k0:=(fun _=>blkC hr 0 rfl) hs8_3; have k1:=(fun _=>blkC hr 1 rfl) hs8_3; have k2:=(fun _=>blkC hr 2 rfl) hs8_3; have z0:=(fun _=>blkF hr 0) hs8_3; have z1:=(fun _=>blkF hr 1) hs8_3; have z2:=(fun _=>blkF hr 2) hs8_3; first | (have qz8:y8_3.heap[x7.heap.size]?=some (.cells #[.bool false,.slice none 0 0,.int .i64 0] 34 (0,0)):=blk_on hq8_3 (blk_on hq8_2 (blk_on hq8_1 (heap_a1 x7 (.cells #[.bool false,.slice none 0 0,.int .i64 0] 34)))); have cz8_0:=blkC qz8 0 rfl; have zz8_0:=blkF qz8 0; have cz8_1:=blkC qz8 1 rfl; have zz8_1:=blkF qz8 1; have cz8_2:=blkC qz8 2 rfl; have zz8_2:=blkF qz8 2) | (have qz8:y8_3.heap[y8_1.heap.size]?=some (.cells #[.bool false,.slice none 0 0,.int .i64 0] 34 (0,0)):=blk_on hq8_3 (blk_on hq8_2 (heap_a1 _ _)); have cz8_0:=blkC qz8 0 rfl; have zz8_0:=blkF qz8 0; have cz8_1:=blkC qz8 1 rfl; have zz8_1:=blkF qz8 1; have cz8_2:=blkC qz8 2 rfl; have zz8_2:=blkF qz8 2) | (have qz8:y8_3.heap[y8_2.heap.size]?=some (.cells #[.bool false,.slice none 0 0,.int .i64 0] 34 (0,0)):=blk_on hq8_3 (heap_a1 _ _); have cz8_0:=blkC qz8 0 rfl; have zz8_0:=blkF qz8 0; have cz8_1:=blkC qz8 1 rfl; have zz8_1:=blkF qz8 1; have cz8_2:=blkC qz8 2 rfl; have zz8_2:=blkF qz8 2) | skip)
       | (go_at_call 50; have _t:=hs8_1; refine (r3times_any (ay1_D_8_1.keeps (by first | exact bel_refl _ | exact bel_alloc _ _)).num (bx1_D_8_1.keeps (by first | exact bel_refl _ | exact bel_alloc _ _)).num B3 B4 (by omega)).mono ?_; rintro _ y8_2 ⟨v,s_V,rfl,nb8,s_E,s_B⟩; obtain ⟨s_g,s_o,s_n,s_c,s_e,rfl⟩:=dans_shape nb8; have hq8_2:=nb8.below; have s_A:=nb8.dan.lower (Nat.le_trans hT8_1.size (by first | exact Nat.le_refl _ | exact (bel_alloc _ _).size)); have hs8_2:Below y8_1.heap.size y8_1 y8_2:=(by first | exact hq8_2 | exact bel_trans (bel_alloc _ _) hq8_2); have hT8_2:=bel_trans hT8_1 hs8_2; have hC8_2:=bel_trans hC8_1 hs8_2; have ax1_D_8_2:=ax1_D_8_1.keeps hs8_2; have by1_D_8_2:=by1_D_8_1.keeps hs8_2; have ay1_D_8_2:=ay1_D_8_1.keeps hs8_2; have bx1_D_8_2:=bx1_D_8_1.keeps hs8_2; have l_A:=l_A.keeps hs8_2)
       | (go_at_call 50; refine (r3times_any (ax1_D_8_0.keeps (by first | exact bel_refl _ | exact bel_alloc _ _)).num (by1_D_8_0.keeps (by first | exact bel_refl _ | exact bel_alloc _ _)).num B1 B2 (by omega)).mono ?_; rintro _ y8_1 ⟨v,l_V,rfl,na8,l_E,l_B⟩; obtain ⟨l_g,l_o,l_n,l_c,l_e,rfl⟩:=dans_shape na8; have hq8_1:=na8.below; have l_A:=na8.dan.lower (Nat.le_trans hT8_0.size (by first | exact Nat.le_refl _ | exact (bel_alloc _ _).size)); have hs8_1:Below x7.drew.heap.size x7.drew y8_1:=(by first | exact hq8_1 | exact bel_trans (bel_alloc _ _) hq8_1); have hT8_1:=bel_trans hT8_0 hs8_1; have hC8_1:=bel_trans hC8_0 hs8_1; have ax1_D_8_1:=ax1_D_8_0.keeps hs8_1; have by1_D_8_1:=by1_D_8_0.keeps hs8_1; have ay1_D_8_1:=ay1_D_8_0.keeps hs8_1; have bx1_D_8_1:=bx1_D_8_0.keeps hs8_1))
     go_wp2
     refine bodyPost_ret (v:=.agg #[.bool n_g,.slice n_o n_n n_c,.int .i64 n_e]) (by simp [results,Tryz.results27,go_sem,k0,k1,k2]) rfl ⟨_,l_V - s_V,rfl,dan_res3 nm8 hr _ _ _,bel_set3 hT8_3 (by omega) _ _ _,⟨l_V,s_V,l_E,s_E,rfl⟩⟩
    have KK7:∀ W,Below x6.heap.size x6 W->W.cell? ⟨w.heap.size + 1,1,none⟩=some (.int .i64 by')∧W.cell? ⟨y2.heap.size,0,none⟩=some (.bool cy_g)∧W.cell? ⟨y2.heap.size,1,none⟩=some (.slice cy_o cy_n cy_c)∧W.cell? ⟨y2.heap.size,2,none⟩=some (.int .i64 cy_e):=fun W hb=>⟨q_cell (blkC b_k 1 rfl) hb,q_cell (blkC cy_k 0 rfl) hb,q_cell (blkC cy_k 1 rfl) hb,q_cell (blkC cy_k 2 rfl) hb⟩
    have hC7_0:=(bel_refl x6).drew
    have hT7_0:Below w.heap.size w x6.drew:=hb6.drew
    have cy_D_7_0:=cy_D.keeps (bel_refl x6).drew
    have hs7_0:=(bel_refl x6).drew
    go_region_held3 (fun W=>W.cell? ⟨w.heap.size + 1,1,none⟩=some (.int .i64 by')∧W.cell? ⟨y2.heap.size,0,none⟩=some (.bool cy_g)∧W.cell? ⟨y2.heap.size,1,none⟩=some (.slice cy_o cy_n cy_c)∧W.cell? ⟨y2.heap.size,2,none⟩=some (.int .i64 cy_e))
     (first | assumption | exact KK7 _ hC7_0 | exact KK7 _ hC7_1 | exact KK7 _ hC7_2 | exact KK7 _ (bel_trans hC7_0 (bel_alloc _ _)) | exact KK7 _ (bel_trans hC7_1 (bel_alloc _ _)) | exact KK7 _ (bel_trans hC7_2 (bel_alloc _ _)) | exact KK7 _ (bel_set3' hC7_2 (Nat.le_refl _) _ _ _) | exact KK7 _ (bel_set3' hC7_2 hC7_1.size _ _ _) | fail)
     (first
      | (go_at_call 49; have _t:=hs7_1; refine (r3minus_any (np7.keeps (by first | exact bel_refl _ | exact bel_alloc _ _)) (cy_D_7_1.keeps (by first | exact bel_refl _ | exact bel_alloc _ _)) (Nat.le_trans hT7_1.size (by first | exact Nat.le_refl _ | exact (bel_alloc _ _).size)) Bby Bcy (by omega)).mono ?_; rintro _ y7_2 ⟨v,rfl,nm7,hq7_2⟩; obtain ⟨by1_g,by1_o,by1_n,by1_c,by1_e,rfl⟩:=nm7.shape; have by1_A:=nm7; have hs7_2:Below y7_1.heap.size y7_1 y7_2:=(by first | exact hq7_2 | exact bel_trans (bel_alloc _ _) hq7_2); have hT7_2:=bel_trans hT7_1 hs7_2; have hC7_2:=bel_trans hC7_1 hs7_2; have cy_D_7_2:=cy_D_7_1.keeps hs7_2; first | (have qz7:y7_2.heap[x6.heap.size]?=some (.cells #[.bool false,.slice none 0 0,.int .i64 0] 34 (0,0)):=blk_on hq7_2 (blk_on hq7_1 (heap_a1 x6 (.cells #[.bool false,.slice none 0 0,.int .i64 0] 34))); have cz7_0:=blkC qz7 0 rfl; have zz7_0:=blkF qz7 0; have cz7_1:=blkC qz7 1 rfl; have zz7_1:=blkF qz7 1; have cz7_2:=blkC qz7 2 rfl; have zz7_2:=blkF qz7 2) | (have qz7:y7_2.heap[y7_1.heap.size]?=some (.cells #[.bool false,.slice none 0 0,.int .i64 0] 34 (0,0)):=blk_on hq7_2 (heap_a1 _ _); have cz7_0:=blkC qz7 0 rfl; have zz7_0:=blkF qz7 0; have cz7_1:=blkC qz7 1 rfl; have zz7_1:=blkF qz7 1; have cz7_2:=blkC qz7 2 rfl; have zz7_2:=blkF qz7 2) | skip)
      | (go_at_call 48; refine (Eby.out _).mono ?_; rintro _ y7_1 ⟨v,rfl,na7⟩; obtain ⟨p_g,p_o,p_n,p_c,p_e,rfl⟩:=dans_shape na7; have hq7_1:=na7.below; have np7:=na7.dan.lower (Nat.le_trans hT7_0.size (by first | exact Nat.le_refl _ | exact (bel_alloc _ _).size)); have hs7_1:Below x6.drew.heap.size x6.drew y7_1:=(by first | exact hq7_1 | exact bel_trans (bel_alloc _ _) hq7_1); have hT7_1:=bel_trans hT7_0 hs7_1; have hC7_1:=bel_trans hC7_0 hs7_1; have cy_D_7_1:=cy_D_7_0.keeps hs7_1))
    ·exact HN7 y7_2.heap.size _ _ _ _ _ _ _  (by kernel_rfl) ((bel_trans (bel_trans (hs7_0) hs7_1) hs7_2).size) (heap_a1 _ _) (bel_trans (bel_trans (bel_trans (hs7_0) hs7_1) hs7_2) (bel_alloc _ _)) (by1_A.keeps (bel_alloc _ _)) 
    ·exact HN7 y7_1.heap.size _ _ _ _ _ _ _  (by kernel_rfl) ((bel_trans (hs7_0) hs7_1).size) (heap_set (heap_set (heap_set (blk_on hq7_2 (heap_a1 _ _)) 0 _) 1 _) 2 _) (bel_set3' (bel_trans (bel_trans (hs7_0) hs7_1) hs7_2) ((bel_trans (hs7_0) hs7_1).size) _ _ _) (dan_res3 by1_A (blk_on hq7_2 (heap_a1 _ _)) _ _ _) 
    ·exact HN7 x6.heap.size _ _ _ _ _ _ _  (by kernel_rfl) (Nat.le_refl _) (heap_set (heap_set (heap_set (blk_on hq7_2 (blk_on hq7_1 (heap_a1 x6 (.cells #[.bool false,.slice none 0 0,.int .i64 0] 34)))) 0 _) 1 _) 2 _) (bel_set3' (bel_trans (bel_trans (hs7_0) hs7_1) hs7_2) (Nat.le_refl _) _ _ _) (dan_res3 by1_A (blk_on hq7_2 (blk_on hq7_1 (heap_a1 x6 (.cells #[.bool false,.slice none 0 0,.int .i64 0] 34)))) _ _ _) 
   have KK6:∀ W,Below x5.heap.size x5 W->W.cell? ⟨w.heap.size + 1,0,none⟩=some (.int .i64 bx)∧W.cell? ⟨y1.heap.size,0,none⟩=some (.bool cx_g)∧W.cell? ⟨y1.heap.size,1,none⟩=some (.slice cx_o cx_n cx_c)∧W.cell? ⟨y1.heap.size,2,none⟩=some (.int .i64 cx_e):=fun W hb=>⟨q_cell (blkC b_k 0 rfl) hb,q_cell (blkC cx_k 0 rfl) hb,q_cell (blkC cx_k 1 rfl) hb,q_cell (blkC cx_k 2 rfl) hb⟩
   have hC6_0:=(bel_refl x5).drew
   have hT6_0:Below w.heap.size w x5.drew:=hb5.drew
   have cx_D_6_0:=cx_D.keeps (bel_refl x5).drew
   have hs6_0:=(bel_refl x5).drew
   go_region_held3 (fun W=>W.cell? ⟨w.heap.size + 1,0,none⟩=some (.int .i64 bx)∧W.cell? ⟨y1.heap.size,0,none⟩=some (.bool cx_g)∧W.cell? ⟨y1.heap.size,1,none⟩=some (.slice cx_o cx_n cx_c)∧W.cell? ⟨y1.heap.size,2,none⟩=some (.int .i64 cx_e))
    (first | assumption | exact KK6 _ hC6_0 | exact KK6 _ hC6_1 | exact KK6 _ hC6_2 | exact KK6 _ (bel_trans hC6_0 (bel_alloc _ _)) | exact KK6 _ (bel_trans hC6_1 (bel_alloc _ _)) | exact KK6 _ (bel_trans hC6_2 (bel_alloc _ _)) | exact KK6 _ (bel_set3' hC6_2 (Nat.le_refl _) _ _ _) | exact KK6 _ (bel_set3' hC6_2 hC6_1.size _ _ _) | fail)
    (first
     | (go_at_call 49; have _t:=hs6_1; refine (r3minus_any (np6.keeps (by first | exact bel_refl _ | exact bel_alloc _ _)) (cx_D_6_1.keeps (by first | exact bel_refl _ | exact bel_alloc _ _)) (Nat.le_trans hT6_1.size (by first | exact Nat.le_refl _ | exact (bel_alloc _ _).size)) Bbx Bcx (by omega)).mono ?_; rintro _ y6_2 ⟨v,rfl,nm6,hq6_2⟩; obtain ⟨bx1_g,bx1_o,bx1_n,bx1_c,bx1_e,rfl⟩:=nm6.shape; have bx1_A:=nm6; have hs6_2:Below y6_1.heap.size y6_1 y6_2:=(by first | exact hq6_2 | exact bel_trans (bel_alloc _ _) hq6_2); have hT6_2:=bel_trans hT6_1 hs6_2; have hC6_2:=bel_trans hC6_1 hs6_2; have cx_D_6_2:=cx_D_6_1.keeps hs6_2; first | (have qz6:y6_2.heap[x5.heap.size]?=some (.cells #[.bool false,.slice none 0 0,.int .i64 0] 34 (0,0)):=blk_on hq6_2 (blk_on hq6_1 (heap_a1 x5 (.cells #[.bool false,.slice none 0 0,.int .i64 0] 34))); have cz6_0:=blkC qz6 0 rfl; have zz6_0:=blkF qz6 0; have cz6_1:=blkC qz6 1 rfl; have zz6_1:=blkF qz6 1; have cz6_2:=blkC qz6 2 rfl; have zz6_2:=blkF qz6 2) | (have qz6:y6_2.heap[y6_1.heap.size]?=some (.cells #[.bool false,.slice none 0 0,.int .i64 0] 34 (0,0)):=blk_on hq6_2 (heap_a1 _ _); have cz6_0:=blkC qz6 0 rfl; have zz6_0:=blkF qz6 0; have cz6_1:=blkC qz6 1 rfl; have zz6_1:=blkF qz6 1; have cz6_2:=blkC qz6 2 rfl; have zz6_2:=blkF qz6 2) | skip)
     | (go_at_call 48; refine (Ebx.out _).mono ?_; rintro _ y6_1 ⟨v,rfl,na6⟩; obtain ⟨p_g,p_o,p_n,p_c,p_e,rfl⟩:=dans_shape na6; have hq6_1:=na6.below; have np6:=na6.dan.lower (Nat.le_trans hT6_0.size (by first | exact Nat.le_refl _ | exact (bel_alloc _ _).size)); have hs6_1:Below x5.drew.heap.size x5.drew y6_1:=(by first | exact hq6_1 | exact bel_trans (bel_alloc _ _) hq6_1); have hT6_1:=bel_trans hT6_0 hs6_1; have hC6_1:=bel_trans hC6_0 hs6_1; have cx_D_6_1:=cx_D_6_0.keeps hs6_1))
   ·exact HN6 y6_2.heap.size _ _ _ _ _ _ _  (by kernel_rfl) ((bel_trans (bel_trans (hs6_0) hs6_1) hs6_2).size) (heap_a1 _ _) (bel_trans (bel_trans (bel_trans (hs6_0) hs6_1) hs6_2) (bel_alloc _ _)) (bx1_A.keeps (bel_alloc _ _)) 
   ·exact HN6 y6_1.heap.size _ _ _ _ _ _ _  (by kernel_rfl) ((bel_trans (hs6_0) hs6_1).size) (heap_set (heap_set (heap_set (blk_on hq6_2 (heap_a1 _ _)) 0 _) 1 _) 2 _) (bel_set3' (bel_trans (bel_trans (hs6_0) hs6_1) hs6_2) ((bel_trans (hs6_0) hs6_1).size) _ _ _) (dan_res3 bx1_A (blk_on hq6_2 (heap_a1 _ _)) _ _ _) 
   ·exact HN6 x5.heap.size _ _ _ _ _ _ _  (by kernel_rfl) (Nat.le_refl _) (heap_set (heap_set (heap_set (blk_on hq6_2 (blk_on hq6_1 (heap_a1 x5 (.cells #[.bool false,.slice none 0 0,.int .i64 0] 34)))) 0 _) 1 _) 2 _) (bel_set3' (bel_trans (bel_trans (hs6_0) hs6_1) hs6_2) (Nat.le_refl _) _ _ _) (dan_res3 bx1_A (blk_on hq6_2 (blk_on hq6_1 (heap_a1 x5 (.cells #[.bool false,.slice none 0 0,.int .i64 0] 34)))) _ _ _) 
  have KK5:∀ W,Below x4.heap.size x4 W->W.cell? ⟨w.heap.size,1,none⟩=some (.int .i64 ay)∧W.cell? ⟨y2.heap.size,0,none⟩=some (.bool cy_g)∧W.cell? ⟨y2.heap.size,1,none⟩=some (.slice cy_o cy_n cy_c)∧W.cell? ⟨y2.heap.size,2,none⟩=some (.int .i64 cy_e):=fun W hb=>⟨q_cell (blkC a_k 1 rfl) hb,q_cell (blkC cy_k 0 rfl) hb,q_cell (blkC cy_k 1 rfl) hb,q_cell (blkC cy_k 2 rfl) hb⟩
  have hC5_0:=(bel_refl x4).drew
  have hT5_0:Below w.heap.size w x4.drew:=hb4.drew
  have cy_D_5_0:=cy_D.keeps (bel_refl x4).drew
  have hs5_0:=(bel_refl x4).drew
  go_region_held3 (fun W=>W.cell? ⟨w.heap.size,1,none⟩=some (.int .i64 ay)∧W.cell? ⟨y2.heap.size,0,none⟩=some (.bool cy_g)∧W.cell? ⟨y2.heap.size,1,none⟩=some (.slice cy_o cy_n cy_c)∧W.cell? ⟨y2.heap.size,2,none⟩=some (.int .i64 cy_e))
   (first | assumption | exact KK5 _ hC5_0 | exact KK5 _ hC5_1 | exact KK5 _ hC5_2 | exact KK5 _ (bel_trans hC5_0 (bel_alloc _ _)) | exact KK5 _ (bel_trans hC5_1 (bel_alloc _ _)) | exact KK5 _ (bel_trans hC5_2 (bel_alloc _ _)) | exact KK5 _ (bel_set3' hC5_2 (Nat.le_refl _) _ _ _) | exact KK5 _ (bel_set3' hC5_2 hC5_1.size _ _ _) | fail)
   (first
    | (go_at_call 49; have _t:=hs5_1; refine (r3minus_any (np5.keeps (by first | exact bel_refl _ | exact bel_alloc _ _)) (cy_D_5_1.keeps (by first | exact bel_refl _ | exact bel_alloc _ _)) (Nat.le_trans hT5_1.size (by first | exact Nat.le_refl _ | exact (bel_alloc _ _).size)) Bay Bcy (by omega)).mono ?_; rintro _ y5_2 ⟨v,rfl,nm5,hq5_2⟩; obtain ⟨ay1_g,ay1_o,ay1_n,ay1_c,ay1_e,rfl⟩:=nm5.shape; have ay1_A:=nm5; have hs5_2:Below y5_1.heap.size y5_1 y5_2:=(by first | exact hq5_2 | exact bel_trans (bel_alloc _ _) hq5_2); have hT5_2:=bel_trans hT5_1 hs5_2; have hC5_2:=bel_trans hC5_1 hs5_2; have cy_D_5_2:=cy_D_5_1.keeps hs5_2; first | (have qz5:y5_2.heap[x4.heap.size]?=some (.cells #[.bool false,.slice none 0 0,.int .i64 0] 34 (0,0)):=blk_on hq5_2 (blk_on hq5_1 (heap_a1 x4 (.cells #[.bool false,.slice none 0 0,.int .i64 0] 34))); have cz5_0:=blkC qz5 0 rfl; have zz5_0:=blkF qz5 0; have cz5_1:=blkC qz5 1 rfl; have zz5_1:=blkF qz5 1; have cz5_2:=blkC qz5 2 rfl; have zz5_2:=blkF qz5 2) | (have qz5:y5_2.heap[y5_1.heap.size]?=some (.cells #[.bool false,.slice none 0 0,.int .i64 0] 34 (0,0)):=blk_on hq5_2 (heap_a1 _ _); have cz5_0:=blkC qz5 0 rfl; have zz5_0:=blkF qz5 0; have cz5_1:=blkC qz5 1 rfl; have zz5_1:=blkF qz5 1; have cz5_2:=blkC qz5 2 rfl; have zz5_2:=blkF qz5 2) | skip)
    | (go_at_call 48; refine (Eay.out _).mono ?_; rintro _ y5_1 ⟨v,rfl,na5⟩; obtain ⟨p_g,p_o,p_n,p_c,p_e,rfl⟩:=dans_shape na5; have hq5_1:=na5.below; have np5:=na5.dan.lower (Nat.le_trans hT5_0.size (by first | exact Nat.le_refl _ | exact (bel_alloc _ _).size)); have hs5_1:Below x4.drew.heap.size x4.drew y5_1:=(by first | exact hq5_1 | exact bel_trans (bel_alloc _ _) hq5_1); have hT5_1:=bel_trans hT5_0 hs5_1; have hC5_1:=bel_trans hC5_0 hs5_1; have cy_D_5_1:=cy_D_5_0.keeps hs5_1))
  ·exact HN5 y5_2.heap.size _ _ _ _ _ _ _  (by kernel_rfl) ((bel_trans (bel_trans (hs5_0) hs5_1) hs5_2).size) (heap_a1 _ _) (bel_trans (bel_trans (bel_trans (hs5_0) hs5_1) hs5_2) (bel_alloc _ _)) (ay1_A.keeps (bel_alloc _ _)) 
  ·exact HN5 y5_1.heap.size _ _ _ _ _ _ _  (by kernel_rfl) ((bel_trans (hs5_0) hs5_1).size) (heap_set (heap_set (heap_set (blk_on hq5_2 (heap_a1 _ _)) 0 _) 1 _) 2 _) (bel_set3' (bel_trans (bel_trans (hs5_0) hs5_1) hs5_2) ((bel_trans (hs5_0) hs5_1).size) _ _ _) (dan_res3 ay1_A (blk_on hq5_2 (heap_a1 _ _)) _ _ _) 
  ·exact HN5 x4.heap.size _ _ _ _ _ _ _  (by kernel_rfl) (Nat.le_refl _) (heap_set (heap_set (heap_set (blk_on hq5_2 (blk_on hq5_1 (heap_a1 x4 (.cells #[.bool false,.slice none 0 0,.int .i64 0] 34)))) 0 _) 1 _) 2 _) (bel_set3' (bel_trans (bel_trans (hs5_0) hs5_1) hs5_2) (Nat.le_refl _) _ _ _) (dan_res3 ay1_A (blk_on hq5_2 (blk_on hq5_1 (heap_a1 x4 (.cells #[.bool false,.slice none 0 0,.int .i64 0] 34)))) _ _ _) 
 have KK4:∀ W,Below x3.heap.size x3 W->W.cell? ⟨w.heap.size,0,none⟩=some (.int .i64 ax)∧W.cell? ⟨y1.heap.size,0,none⟩=some (.bool cx_g)∧W.cell? ⟨y1.heap.size,1,none⟩=some (.slice cx_o cx_n cx_c)∧W.cell? ⟨y1.heap.size,2,none⟩=some (.int .i64 cx_e):=fun W hb=>⟨q_cell (blkC a_k 0 rfl) hb,q_cell (blkC cx_k 0 rfl) hb,q_cell (blkC cx_k 1 rfl) hb,q_cell (blkC cx_k 2 rfl) hb⟩
 have hC4_0:=(bel_refl x3).drew
 have hT4_0:Below w.heap.size w x3.drew:=hb3'.drew
 have cx_D_4_0:=cx_D.keeps (bel_refl x3).drew
 have hs4_0:=(bel_refl x3).drew
 go_region_held3 (fun W=>W.cell? ⟨w.heap.size,0,none⟩=some (.int .i64 ax)∧W.cell? ⟨y1.heap.size,0,none⟩=some (.bool cx_g)∧W.cell? ⟨y1.heap.size,1,none⟩=some (.slice cx_o cx_n cx_c)∧W.cell? ⟨y1.heap.size,2,none⟩=some (.int .i64 cx_e))
  (first | assumption | exact KK4 _ hC4_0 | exact KK4 _ hC4_1 | exact KK4 _ hC4_2 | exact KK4 _ (bel_trans hC4_0 (bel_alloc _ _)) | exact KK4 _ (bel_trans hC4_1 (bel_alloc _ _)) | exact KK4 _ (bel_trans hC4_2 (bel_alloc _ _)) | exact KK4 _ (bel_set3' hC4_2 (Nat.le_refl _) _ _ _) | exact KK4 _ (bel_set3' hC4_2 hC4_1.size _ _ _) | fail)
  (first
   | (go_at_call 49; have _t:=hs4_1; refine (r3minus_any (np4.keeps (by first | exact bel_refl _ | exact bel_alloc _ _)) (cx_D_4_1.keeps (by first | exact bel_refl _ | exact bel_alloc _ _)) (Nat.le_trans hT4_1.size (by first | exact Nat.le_refl _ | exact (bel_alloc _ _).size)) Bax Bcx (by omega)).mono ?_; rintro _ y4_2 ⟨v,rfl,nm4,hq4_2⟩; obtain ⟨ax1_g,ax1_o,ax1_n,ax1_c,ax1_e,rfl⟩:=nm4.shape; have ax1_A:=nm4; have hs4_2:Below y4_1.heap.size y4_1 y4_2:=(by first | exact hq4_2 | exact bel_trans (bel_alloc _ _) hq4_2); have hT4_2:=bel_trans hT4_1 hs4_2; have hC4_2:=bel_trans hC4_1 hs4_2; have cx_D_4_2:=cx_D_4_1.keeps hs4_2; first | (have qz4:y4_2.heap[x3.heap.size]?=some (.cells #[.bool false,.slice none 0 0,.int .i64 0] 34 (0,0)):=blk_on hq4_2 (blk_on hq4_1 (heap_a1 x3 (.cells #[.bool false,.slice none 0 0,.int .i64 0] 34))); have cz4_0:=blkC qz4 0 rfl; have zz4_0:=blkF qz4 0; have cz4_1:=blkC qz4 1 rfl; have zz4_1:=blkF qz4 1; have cz4_2:=blkC qz4 2 rfl; have zz4_2:=blkF qz4 2) | (have qz4:y4_2.heap[y4_1.heap.size]?=some (.cells #[.bool false,.slice none 0 0,.int .i64 0] 34 (0,0)):=blk_on hq4_2 (heap_a1 _ _); have cz4_0:=blkC qz4 0 rfl; have zz4_0:=blkF qz4 0; have cz4_1:=blkC qz4 1 rfl; have zz4_1:=blkF qz4 1; have cz4_2:=blkC qz4 2 rfl; have zz4_2:=blkF qz4 2) | skip)
   | (go_at_call 48; refine (Eax.out _).mono ?_; rintro _ y4_1 ⟨v,rfl,na4⟩; obtain ⟨p_g,p_o,p_n,p_c,p_e,rfl⟩:=dans_shape na4; have hq4_1:=na4.below; have np4:=na4.dan.lower (Nat.le_trans hT4_0.size (by first | exact Nat.le_refl _ | exact (bel_alloc _ _).size)); have hs4_1:Below x3.drew.heap.size x3.drew y4_1:=(by first | exact hq4_1 | exact bel_trans (bel_alloc _ _) hq4_1); have hT4_1:=bel_trans hT4_0 hs4_1; have hC4_1:=bel_trans hC4_0 hs4_1; have cx_D_4_1:=cx_D_4_0.keeps hs4_1))
 ·exact HN4 y4_2.heap.size _ _ _ _ _ _ _  (by kernel_rfl) ((bel_trans (bel_trans (hs4_0) hs4_1) hs4_2).size) (heap_a1 _ _) (bel_trans (bel_trans (bel_trans (hs4_0) hs4_1) hs4_2) (bel_alloc _ _)) (ax1_A.keeps (bel_alloc _ _)) 
 ·exact HN4 y4_1.heap.size _ _ _ _ _ _ _  (by kernel_rfl) ((bel_trans (hs4_0) hs4_1).size) (heap_set (heap_set (heap_set (blk_on hq4_2 (heap_a1 _ _)) 0 _) 1 _) 2 _) (bel_set3' (bel_trans (bel_trans (hs4_0) hs4_1) hs4_2) ((bel_trans (hs4_0) hs4_1).size) _ _ _) (dan_res3 ax1_A (blk_on hq4_2 (heap_a1 _ _)) _ _ _) 
 ·exact HN4 x3.heap.size _ _ _ _ _ _ _  (by kernel_rfl) (Nat.le_refl _) (heap_set (heap_set (heap_set (blk_on hq4_2 (blk_on hq4_1 (heap_a1 x3 (.cells #[.bool false,.slice none 0 0,.int .i64 0] 34)))) 0 _) 1 _) 2 _) (bel_set3' (bel_trans (bel_trans (hs4_0) hs4_1) hs4_2) (Nat.le_refl _) _ _ _) (dan_res3 ax1_A (blk_on hq4_2 (blk_on hq4_1 (heap_a1 x3 (.cells #[.bool false,.slice none 0 0,.int .i64 0] 34)))) _ _ _) 
end Go.Proofs.YtinccocmgkjalaaGreatDoor
namespace Go.Proofs.YtinccocmgkjalaaGreatDoor
open Go Go.ChangeShapes Go.WideShapes Go.ChangeAt Go.RowKit Go.Proofs.YtinccocmgkjalaaGreatDoor.M
theorem q_cellsPoint:Tryz.prog.cellsOf 23=2:=by kernel_rfl
theorem q_cellsInt:Tryz.prog.cellsOf 3=1:=by kernel_rfl
set_option maxRecDepth 100000 in
theorem point_cells {H:Type} {enc:TypeId × Value->H} {W:World} {n:Nat} {cs:List Value} {x:DataW H × List MemPlace}
  (h:DataW.trod enc Tryz.prog W 0 (fun _=>true) true n 23 cs=some x) :
  ∃ a b:Int,cs=[.int .i64 a,.int .i64 b]∧rng a∧rng b:=by
 obtain ⟨xs,m,_,rfl,hl,hlen,hf⟩:=DataW.trod_struct Tryz.underlying23 h
 rw [q_cellsPoint] at hl
 match cs,hl with
 | [v0,v1],_=>
  match xs,hlen with
  | [y0,y1],_=>
   have f0:DataW.trod enc Tryz.prog W 0 (fun _=>true) true m 3 (([v0,v1].drop 0).take (Tryz.prog.cellsOf 3))=some y0:=hf 0 _ rfl
   have f1:DataW.trod enc Tryz.prog W 0 (fun _=>true) true m 3 (([v0,v1].drop 1).take (Tryz.prog.cellsOf 3))=some y1:=hf 1 _ rfl
   rw [q_cellsInt] at f0 f1
   simp only [List.drop_zero,List.drop_succ_cons,List.take_succ_cons,List.take_zero] at f0 f1
   obtain ⟨k0,e0,_,w0⟩:=DataW.trod_int Tryz.underlying3 f0
   obtain ⟨k1,e1,_,w1⟩:=DataW.trod_int Tryz.underlying3 f1
   simp at e0 e1
   subst e0 e1
   exact ⟨k0,k1,rfl,rng_of w0,rng_of w1⟩
set_option maxRecDepth 100000 in
theorem point_of {H:Type} {enc:TypeId × Value->H} {W:World} {base:Nat} {v:Value} {d:DataW H} {p:List MemPlace} (hv:Value.okWide Tryz.prog W .any base 23 v)
  (h:DataW.Trod enc Tryz.prog W 0 (fun _=>true) true 23 v d p):∃ a b:Int,v=.agg #[.int .i64 a,.int .i64 b]∧rng a∧rng b:=by
 obtain ⟨cs,rfl,hc⟩:=okWide_struct Tryz.underlying23 hv
 obtain ⟨fuel,hf⟩:=h
 obtain ⟨a,b,hr,h1,h2⟩:=point_cells hf
 refine ⟨a,b,?_,h1,h2⟩
 congr 1
 have:cs.toList=[.int .i64 a,.int .i64 b]:=by simpa [Value.cells] using hr
 exact Array.toList_inj.1 this
end Go.Proofs.YtinccocmgkjalaaGreatDoor
namespace Go.Proofs.YtinccocmgkjalaaGreatDoor.pointLaws
open Go Go.ChangeShapes Go.WideShapes Go.ChangeAt Go.RowKit Go.Proofs.YtinccocmgkjalaaGreatDoor Go.Proofs.YtinccocmgkjalaaGreatDoor.M
theorem pcmp_back (ax ay bx by':Int):pcmp bx by' ax ay=- pcmp ax ay bx by':=by
 unfold pcmp cmp
 repeat' split
 all_goals omega
theorem heap3 (w:World) (a b c:Obj):(((w.alloc a).alloc b).alloc c).heap[w.heap.size]?=some a∧(((w.alloc a).alloc b).alloc c).heap[w.heap.size + 1]?=some b∧(((w.alloc a).alloc b).alloc c).heap[w.heap.size + 2]?=some c:=by
 have h:(((w.alloc a).alloc b).alloc c).heap=((w.heap.push a).push b).push c:=rfl
 rw [h]
 refine ⟨?_,?_,?_⟩
 ·simp [Array.getElem?_push]
  omega
 ·rw [Array.getElem?_push,if_neg (by simp),Array.getElem?_push,if_pos (by simp)]
 ·rw [Array.getElem?_push,if_pos (by simp)]
end Go.Proofs.YtinccocmgkjalaaGreatDoor.pointLaws
