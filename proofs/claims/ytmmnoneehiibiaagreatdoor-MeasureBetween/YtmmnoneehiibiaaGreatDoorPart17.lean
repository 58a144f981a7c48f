/- Parts of the proof. -/
import Derived.Test.YtmmnoneehiibiaaGreatDoorPart16
set_option linter.unusedVariables false
set_option linter.unusedSimpArgs false
namespace Go.Proofs.YtmmnoneehiibiaaGreatDoor
open Go Go.RowKit Go.Proofs.YtmmnoneehiibiaaGreatDoor.M
def btw (e1 e2 s:Int):Bool:=if 0<e1*e2 then false else decide (s=0)
theorem mul3 {x y:Int} (hx:x=-1∨x=0∨x=1) (hy:y=-1∨y=0∨y=1):wrap64 (x*y)=x*y:=by
  rcases hx with rfl | rfl | rfl <;> rcases hy with rfl | rfl | rfl <;> exact IntWalk.wrap64_in _ ⟨by decide,by decide⟩
set_option maxRecDepth 100000 in
set_option maxHeartbeats 4000000 in
theorem mBetween_no {ax ay bx by' cx cy:Int} (rax:rng ax) (ray:rng ay) (rbx:rng bx) (rby:rng by') (rcx:rng cx) (rcy:rng cy) (hno:(ptok ax ay && ptok bx by' && ptok cx cy)=false) (w:World) :
    Calls Tryz.prog 5 #[.agg #[.int .i64 ax,.int .i64 ay],.agg #[.int .i64 bx,.int .i64 by'],.agg #[.int .i64 cx,.int .i64 cy]] w fun r w'=>r=.returned (.tuple #[.bool false,.int .i64 10])∧Below w.heap.size w w':=by
  have CG:Hid (∀ W gl,W.heap[gl]?=some (.cells #[.int .i64 ax,.int .i64 ay,.int .i64 bx,.int .i64 by',.int .i64 cx,.int .i64 cy] 23 (0,0))->Calls Tryz.prog 11 #[.slice (some ⟨gl,0,none⟩) 3 3] W fun r w'=>r=.returned (.bool false)∧Below W.heap.size W w'):=fun W gl hl=>by
    have:=mgood_any _ _ _ _ _ W (pts3 W hl) (rng3 rax rbx rcx) (rng3 ray rby rcy)
    rw [allB3 ptok,hno] at this
    exact this
  clear rax ray rbx rby rcx rcy hno
  obtain ⟨hb0,a_k,b_k,c_k,hsz0⟩:=blks3 w (.cells #[.int .i64 ax,.int .i64 ay] 23) (.cells #[.int .i64 bx,.int .i64 by'] 23) (.cells #[.int .i64 cx,.int .i64 cy] 23)
  have hsz:Hid _:=hideIt hsz0
  clear hsz0
  have f_a0:=blkC a_k 0 rfl
  have f_a1:=blkC a_k 1 rfl
  have f_b0:=blkC b_k 0 rfl
  have f_b1:=blkC b_k 1 rfl
  have f_c0:=blkC c_k 0 rfl
  have f_c1:=blkC c_k 1 rfl
  go_enter Tryz.func5,Tryz.ntmps5
  go_wp2_with fail
  clear f_a0 f_a1 f_b0 f_b1 f_c0 f_c1
  generalize (((w.alloc (.cells #[.int .i64 ax,.int .i64 ay] 23)).alloc (.cells #[.int .i64 bx,.int .i64 by'] 23)).alloc (.cells #[.int .i64 cx,.int .i64 cy] 23))=x0 at hb0 a_k b_k c_k hsz ⊢
  have l_k:=heap_new (.cells #[.int .i64 ax,.int .i64 ay,.int .i64 bx,.int .i64 by',.int .i64 cx,.int .i64 cy] 23) hsz.out.symm
  refine (CG.out _ _ l_k).mono ?_
  rintro _ y1 ⟨rfl,hw1⟩
  go_wp2
  exact bodyPost_ret (v:=.tuple #[.bool false,.int .i64 10]) (by simp [results,Tryz.results5,go_sem]) rfl ⟨rfl,bel_trans hb0 (bel_trans (bel_alloc x0 (.cells #[.int .i64 ax,.int .i64 ay,.int .i64 bx,.int .i64 by',.int .i64 cx,.int .i64 cy] 23)) hw1)⟩
set_option maxRecDepth 100000 in
set_option maxHeartbeats 4000000 in
theorem mBetween_ok {ax ay bx by' cx cy:Int} (rax:rng ax) (ray:rng ay) (rbx:rng bx) (rby:rng by') (rcx:rng cx) (rcy:rng cy) (pax:pok ax=true) (pay:pok ay=true) (pbx:pok bx=true) (pby:pok by'=true) (pcx:pok cx=true) (pcy:pok cy=true) (w:World) (H:Hold4 w) :
    Calls Tryz.prog 5 #[.agg #[.int .i64 ax,.int .i64 ay],.agg #[.int .i64 bx,.int .i64 by'],.agg #[.int .i64 cx,.int .i64 cy]] w fun r w'=>r=.returned (.tuple #[.bool (btw (pcmp ax ay bx by') (pcmp cx cy bx by') (ord (oDet ax ay bx by' cx cy) 0)),.int .i64 0])∧Below w.heap.size w w':=by
  have CG:Hid (∀ W gl,W.heap[gl]?=some (.cells #[.int .i64 ax,.int .i64 ay,.int .i64 bx,.int .i64 by',.int .i64 cx,.int .i64 cy] 23 (0,0))->Calls Tryz.prog 11 #[.slice (some ⟨gl,0,none⟩) 3 3] W fun r w'=>r=.returned (.bool true)∧Below W.heap.size W w'):=fun W gl hl=>by
    have:=mgood_any _ _ _ _ _ W (pts3 W hl) (rng3 rax rbx rcx) (rng3 ray rby rcy)
    rw [allB3 ptok,show (ptok ax ay && ptok bx by' && ptok cx cy)=true by unfold ptok; rw [pax,pay,pbx,pby,pcx,pcy]; rfl] at this
    exact this
  have C1:Hid (∀ W,Calls Tryz.prog 12 #[.agg #[.int .i64 ax,.int .i64 ay],.agg #[.int .i64 bx,.int .i64 by']] W fun e w'=>e=.returned (.tuple #[.int .i64 (pcmp ax ay bx by'),.int .i64 0])∧Below W.heap.size W w'):=fun W=>by
    have:=pointCmp rax ray rbx rby W
    rw [pax,pay,pbx,pby] at this
    exact this
  have C2:Hid (∀ W,Calls Tryz.prog 12 #[.agg #[.int .i64 cx,.int .i64 cy],.agg #[.int .i64 bx,.int .i64 by']] W fun e w'=>e=.returned (.tuple #[.int .i64 (pcmp cx cy bx by'),.int .i64 0])∧Below W.heap.size W w'):=fun W=>by
    have:=pointCmp rcx rcy rbx rby W
    rw [pcx,pcy,pbx,pby] at this
    exact this
  have C3:Hid (∀ W,Hold4 W->Calls Tryz.prog 13 #[.agg #[.int .i64 ax,.int .i64 ay],.agg #[.int .i64 bx,.int .i64 by'],.agg #[.int .i64 cx,.int .i64 cy]] W fun r w'=>r=.returned (.tuple #[.agg #[.int .i64 (ord (oDet ax ay bx by' cx cy) 0),.int .i64 (oSt ax ay bx by' cx cy)],.int .i64 0])∧Below W.heap.size W w'):=fun W h=>oSign_ok rax ray rbx rby rcx rcy pax pay pbx pby pcx pcy W h
  have hm:=mul3 (pcmp_any ax ay bx by') (pcmp_any cx cy bx by')
  clear rax ray rbx rby rcx rcy pax pay pbx pby pcx pcy
  generalize pcmp ax ay bx by'=e1 at *
  generalize pcmp cx cy bx by'=e2 at *
  generalize ord (oDet ax ay bx by' cx cy) 0=sgn at *
  generalize oSt ax ay bx by' cx cy=st at *
  unfold btw
  by_cases hp:0<e1*e2
  . rw [if_pos hp]
    obtain ⟨hb0,a_k,b_k,c_k,hsz0⟩:=blks3 w (.cells #[.int .i64 ax,.int .i64 ay] 23) (.cells #[.int .i64 bx,.int .i64 by'] 23) (.cells #[.int .i64 cx,.int .i64 cy] 23)
    have hsz:Hid _:=hideIt hsz0
    clear hsz0
    have f_a0:=blkC a_k 0 rfl
    have f_a1:=blkC a_k 1 rfl
    have f_b0:=blkC b_k 0 rfl
    have f_b1:=blkC b_k 1 rfl
    have f_c0:=blkC c_k 0 rfl
    have f_c1:=blkC c_k 1 rfl
    go_enter Tryz.func5,Tryz.ntmps5
    go_wp2_with fail
    clear f_a0 f_a1 f_b0 f_b1 f_c0 f_c1
    generalize (((w.alloc (.cells #[.int .i64 ax,.int .i64 ay] 23)).alloc (.cells #[.int .i64 bx,.int .i64 by'] 23)).alloc (.cells #[.int .i64 cx,.int .i64 cy] 23))=x0 at hb0 a_k b_k c_k hsz ⊢
    have l_k:=heap_new (.cells #[.int .i64 ax,.int .i64 ay,.int .i64 bx,.int .i64 by',.int .i64 cx,.int .i64 cy] 23) hsz.out.symm
    refine (CG.out _ _ l_k).mono ?_
    rintro _ y1 ⟨rfl,hw1⟩
    replace a_k:=blk_on hw1 (heap_past (.cells #[.int .i64 ax,.int .i64 ay,.int .i64 bx,.int .i64 by',.int .i64 cx,.int .i64 cy] 23) a_k)
    replace b_k:=blk_on hw1 (heap_past (.cells #[.int .i64 ax,.int .i64 ay,.int .i64 bx,.int .i64 by',.int .i64 cx,.int .i64 cy] 23) b_k)
    replace c_k:=blk_on hw1 (heap_past (.cells #[.int .i64 ax,.int .i64 ay,.int .i64 bx,.int .i64 by',.int .i64 cx,.int .i64 cy] 23) c_k)
    replace hb0:=bel_trans hb0 (bel_trans (bel_alloc x0 (.cells #[.int .i64 ax,.int .i64 ay,.int .i64 bx,.int .i64 by',.int .i64 cx,.int .i64 cy] 23)) hw1)
    have f_a0:=blkC a_k 0 rfl
    have f_a1:=blkC a_k 1 rfl
    have f_b0:=blkC b_k 0 rfl
    have f_b1:=blkC b_k 1 rfl
    go_wp2_with fail
    clear f_a0 f_a1 f_b0 f_b1
    refine (C1.out _).mono ?_
    rintro _ y2 ⟨rfl,hw2⟩
    replace a_k:=blk_on hw2 a_k
    replace b_k:=blk_on hw2 b_k
    replace c_k:=blk_on hw2 c_k
    replace hb0:=bel_trans hb0 hw2
    have f_c0:=blkC c_k 0 rfl
    have f_c1:=blkC c_k 1 rfl
    have f_b0:=blkC b_k 0 rfl
    have f_b1:=blkC b_k 1 rfl
    go_wp2_with fail
    clear f_c0 f_c1 f_b0 f_b1
    refine (C2.out _).mono ?_
    rintro _ y3 ⟨rfl,hw3⟩
    replace a_k:=blk_on hw3 a_k
    replace b_k:=blk_on hw3 b_k
    replace c_k:=blk_on hw3 c_k
    replace hb0:=bel_trans hb0 hw3
    go_wp2
    exact bodyPost_ret (v:=.tuple #[.bool false,.int .i64 0]) (by simp [results,Tryz.results5,go_sem]) rfl ⟨rfl,hb0⟩
  . rw [if_neg hp]
    obtain ⟨hb0,a_k,b_k,c_k,hsz0⟩:=blks3 w (.cells #[.int .i64 ax,.int .i64 ay] 23) (.cells #[.int .i64 bx,.int .i64 by'] 23) (.cells #[.int .i64 cx,.int .i64 cy] 23)
    have hsz:Hid _:=hideIt hsz0
    clear hsz0
    have f_a0:=blkC a_k 0 rfl
    have f_a1:=blkC a_k 1 rfl
    have f_b0:=blkC b_k 0 rfl
    have f_b1:=blkC b_k 1 rfl
    have f_c0:=blkC c_k 0 rfl
    have f_c1:=blkC c_k 1 rfl
    go_enter Tryz.func5,Tryz.ntmps5
    go_wp2_with fail
    clear f_a0 f_a1 f_b0 f_b1 f_c0 f_c1
    generalize (((w.alloc (.cells #[.int .i64 ax,.int .i64 ay] 23)).alloc (.cells #[.int .i64 bx,.int .i64 by'] 23)).alloc (.cells #[.int .i64 cx,.int .i64 cy] 23))=x0 at hb0 a_k b_k c_k hsz ⊢
    have l_k:=heap_new (.cells #[.int .i64 ax,.int .i64 ay,.int .i64 bx,.int .i64 by',.int .i64 cx,.int .i64 cy] 23) hsz.out.symm
    refine (CG.out _ _ l_k).mono ?_
    rintro _ y1 ⟨rfl,hw1⟩
    replace a_k:=blk_on hw1 (heap_past (.cells #[.int .i64 ax,.int .i64 ay,.int .i64 bx,.int .i64 by',.int .i64 cx,.int .i64 cy] 23) a_k)
    replace b_k:=blk_on hw1 (heap_past (.cells #[.int .i64 ax,.int .i64 ay,.int .i64 bx,.int .i64 by',.int .i64 cx,.int .i64 cy] 23) b_k)
    replace c_k:=blk_on hw1 (heap_past (.cells #[.int .i64 ax,.int .i64 ay,.int .i64 bx,.int .i64 by',.int .i64 cx,.int .i64 cy] 23) c_k)
    replace hb0:=bel_trans hb0 (bel_trans (bel_alloc x0 (.cells #[.int .i64 ax,.int .i64 ay,.int .i64 bx,.int .i64 by',.int .i64 cx,.int .i64 cy] 23)) hw1)
    have f_a0:=blkC a_k 0 rfl
    have f_a1:=blkC a_k 1 rfl
    have f_b0:=blkC b_k 0 rfl
    have f_b1:=blkC b_k 1 rfl
    go_wp2_with fail
    clear f_a0 f_a1 f_b0 f_b1
    refine (C1.out _).mono ?_
    rintro _ y2 ⟨rfl,hw2⟩
    replace a_k:=blk_on hw2 a_k
    replace b_k:=blk_on hw2 b_k
    replace c_k:=blk_on hw2 c_k
    replace hb0:=bel_trans hb0 hw2
    have f_c0:=blkC c_k 0 rfl
    have f_c1:=blkC c_k 1 rfl
    have f_b0:=blkC b_k 0 rfl
    have f_b1:=blkC b_k 1 rfl
    go_wp2_with fail
    clear f_c0 f_c1 f_b0 f_b1
    refine (C2.out _).mono ?_
    rintro _ y3 ⟨rfl,hw3⟩
    replace a_k:=blk_on hw3 a_k
    replace b_k:=blk_on hw3 b_k
    replace c_k:=blk_on hw3 c_k
    replace hb0:=bel_trans hb0 hw3
    have f_a0:=blkC a_k 0 rfl
    have f_a1:=blkC a_k 1 rfl
    have f_b0:=blkC b_k 0 rfl
    have f_b1:=blkC b_k 1 rfl
    have f_c0:=blkC c_k 0 rfl
    have f_c1:=blkC c_k 1 rfl
    go_wp2_with fail
    clear f_a0 f_a1 f_b0 f_b1 f_c0 f_c1
    replace H:=H.keeps hb0
    refine (C3.out _ H).mono ?_
    rintro _ y4 ⟨rfl,hw4⟩
    have v_k:=heap_a1 y4 (.cells #[.int .i64 sgn,.int .i64 st] 42)
    replace hb0:=bel_trans hb0 (bel_trans hw4 (bel_alloc y4 (.cells #[.int .i64 sgn,.int .i64 st] 42)))
    have f_v0:=blkC v_k 0 rfl
    go_wp2
    exact bodyPost_ret (v:=.tuple #[.bool (decide (sgn=0)),.int .i64 0]) (by simp [results,Tryz.results5,go_sem]; rfl) rfl ⟨rfl,hb0⟩
set_option maxRecDepth 100000 in
set_option maxHeartbeats 1000000 in
theorem r3SigB {w:World} {g:Bool} {o:Option Addr} {n c:Nat} {e V:Int} (h:DNum w (.agg #[.bool g,.slice o n c,.int .i64 e]) V) :
    Calls Tryz.prog 26 #[.agg #[.bool g,.slice o n c,.int .i64 e]] w fun r w'=>r=.returned (.int .i64 (ord V 0))∧Below w.heap.size w w':=by
  obtain ⟨hs,hm⟩:=sgn_ord h
  rw [<- hs]
  have CS:Hid (∀ W,Calls Tryz.prog 47 #[.agg #[.bool g,.slice o n c,.int .i64 e]] W fun r w'=>r=.returned (.int .i64 (sgn g n))∧Below W.heap.size W w'):=fun W=>rsign3_any g o n c e W hm
  clear hs h
  generalize sgn g n=s at *
  have hb:=bel_alloc w (.cells #[.bool g,.slice o n c,.int .i64 e] 34)
  go_enter Tryz.func26,Tryz.ntmps26
  go_wp2_with fail
  refine (CS.out _).mono ?_
  rintro _ y1 ⟨rfl,hw1⟩
  have hb1:=bel_trans hb hw1
  go_wp2
  go_ret
  exact ⟨rfl,hb1⟩
set_option maxRecDepth 100000 in
set_option maxHeartbeats 2000000 in
theorem r10Sign {ax ay bx by' cx cy:Int} (rax:rng ax) (ray:rng ay) (rbx:rng bx) (rby:rng by') (rcx:rng cx) (rcy:rng cy) (pax:pok ax=true) (pay:pok ay=true) (pbx:pok bx=true) (pby:pok by'=true) (pcx:pok cx=true) (pcy:pok cy=true) (w:World) :
    Calls Tryz.prog 15 #[.agg #[.int .i64 ax,.int .i64 ay],.agg #[.int .i64 bx,.int .i64 by'],.agg #[.int .i64 cx,.int .i64 cy]] w fun r w'=>r=.returned (.int .i64 (ord (oDet ax ay bx by' cx cy) 0))∧Below w.heap.size w w':=by
  have CD:Hid (∀ W,Calls Tryz.prog 27 #[.agg #[.int .i64 ax,.int .i64 ay],.agg #[.int .i64 bx,.int .i64 by'],.agg #[.int .i64 cx,.int .i64 cy]] W fun r w'=>∃ g o n c e V,r=.returned (.agg #[.bool g,.slice o n c,.int .i64 e])∧DNum w' (.agg #[.bool g,.slice o n c,.int .i64 e]) V∧ord V 0=ord (oDet ax ay bx by' cx cy) 0∧Below W.heap.size W w'):=fun W=>by
    refine (r10exact_any pax pay pbx pby pcx pcy rax ray rbx rby rcx rcy W).mono ?_
    rintro r w' ⟨v,V,rfl,hD,hb,hV⟩
    obtain ⟨g,o,n,c,e,rfl⟩:=hD.shape
    exact ⟨g,o,n,c,e,V,rfl,hD.num,by rw [hV.unique (det_X rax ray rbx rby rcx rcy pax pay pbx pby pcx pcy)]; exact ord_mulP (pw_pos _),hb⟩
  clear rax ray rbx rby rcx rcy pax pay pbx pby pcx pcy
  generalize ord (oDet ax ay bx by' cx cy) 0=s at *
  obtain ⟨hb0,a_k,b_k,c_k,hsz0⟩:=blks3 w (.cells #[.int .i64 ax,.int .i64 ay] 23) (.cells #[.int .i64 bx,.int .i64 by'] 23) (.cells #[.int .i64 cx,.int .i64 cy] 23)
  clear hsz0
  have f_a0:=blkC a_k 0 rfl
  have f_a1:=blkC a_k 1 rfl
  have f_b0:=blkC b_k 0 rfl
  have f_b1:=blkC b_k 1 rfl
  have f_c0:=blkC c_k 0 rfl
  have f_c1:=blkC c_k 1 rfl
  go_enter Tryz.func15,Tryz.ntmps15
  go_wp2_with fail
  clear f_a0 f_a1 f_b0 f_b1 f_c0 f_c1
  generalize (((w.alloc (.cells #[.int .i64 ax,.int .i64 ay] 23)).alloc (.cells #[.int .i64 bx,.int .i64 by'] 23)).alloc (.cells #[.int .i64 cx,.int .i64 cy] 23))=x0 at hb0 a_k b_k c_k ⊢
  refine (CD.out _).mono ?_
  rintro _ y1 ⟨g,o,n,c,e,V,rfl,hD,hV,hw1⟩
  have hb1:=bel_trans hb0 hw1
  have CS:Hid (Calls Tryz.prog 26 #[.agg #[.bool g,.slice o n c,.int .i64 e]] y1 fun r w'=>r=.returned (.int .i64 s)∧Below y1.heap.size y1 w'):=by rw [<- hV]; exact r3SigB hD
  clear hV hD
  go_wp2_with fail
  refine CS.out.mono ?_
  rintro _ y2 ⟨rfl,hw2⟩
  go_wp2
  go_ret
  exact ⟨rfl,bel_trans hb1 hw2⟩
def btwR (x y s:Int):Bool:=decide (s=0) && ((decide (x<=0) && decide (y<=0)) || (decide (0<=x) && decide (0<=y)))
theorem btw_eq {e1 e2 s:Int} (h1:e1=-1∨e1=0∨e1=1) (h2:e2=-1∨e2=0∨e2=1):btwR e1 (-e2) s=btw e1 e2 s∧btw e2 e1 (-s)=btw e1 e2 s:=by
  have n0:(-s=0)=(s=0):=propext ⟨fun h=>by omega,fun h=>by omega⟩
  rcases h1 with rfl | rfl | rfl <;> rcases h2 with rfl | rfl | rfl <;> simp [btw,btwR,n0]
set_option maxRecDepth 100000 in
set_option maxHeartbeats 4000000 in
theorem r13Between {ax ay bx by' cx cy:Int} (rax:rng ax) (ray:rng ay) (rbx:rng bx) (rby:rng by') (rcx:rng cx) (rcy:rng cy) (pax:pok ax=true) (pay:pok ay=true) (pbx:pok bx=true) (pby:pok by'=true) (pcx:pok cx=true) (pcy:pok cy=true) (w:World) :
    Calls Tryz.prog 8 #[.agg #[.int .i64 ax,.int .i64 ay],.agg #[.int .i64 bx,.int .i64 by'],.agg #[.int .i64 cx,.int .i64 cy]] w fun r w'=>r=.returned (.bool (btwR (pcmp ax ay bx by') (pcmp bx by' cx cy) (ord (oDet ax ay bx by' cx cy) 0)))∧Below w.heap.size w w':=by
  have C0:Hid (∀ W,Calls Tryz.prog 15 #[.agg #[.int .i64 ax,.int .i64 ay],.agg #[.int .i64 bx,.int .i64 by'],.agg #[.int .i64 cx,.int .i64 cy]] W fun r w'=>r=.returned (.int .i64 (ord (oDet ax ay bx by' cx cy) 0))∧Below W.heap.size W w'):=fun W=>r10Sign rax ray rbx rby rcx rcy pax pay pbx pby pcx pcy W
  have C1:Hid (∀ W,Calls Tryz.prog 16 #[.agg #[.int .i64 ax,.int .i64 ay],.agg #[.int .i64 bx,.int .i64 by']] W fun e w'=>e=.returned (.int .i64 (pcmp ax ay bx by'))∧Below W.heap.size W w'):=fun W=>q_refCmp rax ray rbx rby W
  have C2:Hid (∀ W,Calls Tryz.prog 16 #[.agg #[.int .i64 bx,.int .i64 by'],.agg #[.int .i64 cx,.int .i64 cy]] W fun e w'=>e=.returned (.int .i64 (pcmp bx by' cx cy))∧Below W.heap.size W w'):=fun W=>q_refCmp rbx rby rcx rcy W
  have h1:=pcmp_any ax ay bx by'
  have h2:=pcmp_any bx by' cx cy
  clear rax ray rbx rby rcx rcy pax pay pbx pby pcx pcy
  generalize pcmp ax ay bx by'=x at *
  generalize pcmp bx by' cx cy=y at *
  generalize ord (oDet ax ay bx by' cx cy) 0=s at *
  by_cases hs:s=0
  all_goals rcases h1 with rfl | rfl | rfl
  all_goals rcases h2 with rfl | rfl | rfl
  all_goals
    obtain ⟨hb0,a_k,b_k,c_k,hsz0⟩:=blks3 w (.cells #[.int .i64 ax,.int .i64 ay] 23) (.cells #[.int .i64 bx,.int .i64 by'] 23) (.cells #[.int .i64 cx,.int .i64 cy] 23)
    clear hsz0
    have f_a0:=blkC a_k 0 rfl
    have f_a1:=blkC a_k 1 rfl
    have f_b0:=blkC b_k 0 rfl
    have f_b1:=blkC b_k 1 rfl
    have f_c0:=blkC c_k 0 rfl
    have f_c1:=blkC c_k 1 rfl
    go_enter Tryz.func8,Tryz.ntmps8
    go_wp2_with fail
    clear f_a0 f_a1 f_b0 f_b1 f_c0 f_c1
    generalize (((w.alloc (.cells #[.int .i64 ax,.int .i64 ay] 23)).alloc (.cells #[.int .i64 bx,.int .i64 by'] 23)).alloc (.cells #[.int .i64 cx,.int .i64 cy] 23))=x0 at hb0 a_k b_k c_k ⊢
    refine (C0.out _).mono ?_
    rintro _ y1 ⟨rfl,hw1⟩
    replace a_k:=blk_on hw1 a_k
    replace b_k:=blk_on hw1 b_k
    replace c_k:=blk_on hw1 c_k
    replace hb0:=bel_trans hb0 hw1
    have f_a0:=blkC a_k 0 rfl
    have f_a1:=blkC a_k 1 rfl
    have f_b0:=blkC b_k 0 rfl
    have f_b1:=blkC b_k 1 rfl
    go_wp2_with fail
    clear f_a0 f_a1 f_b0 f_b1
    refine (C1.out _).mono ?_
    rintro _ y2 ⟨rfl,hw2⟩
    replace a_k:=blk_on hw2 a_k
    replace b_k:=blk_on hw2 b_k
    replace c_k:=blk_on hw2 c_k
    replace hb0:=bel_trans hb0 hw2
    have f_b0:=blkC b_k 0 rfl
    have f_b1:=blkC b_k 1 rfl
    have f_c0:=blkC c_k 0 rfl
    have f_c1:=blkC c_k 1 rfl
    go_wp2_with fail
    clear f_b0 f_b1 f_c0 f_c1
    refine (C2.out _).mono ?_
    rintro _ y3 ⟨rfl,hw3⟩
    go_wp2
    go_ret
    exact ⟨b_ret_bool (by simp [btwR,hs]),bel_trans hb0 hw3⟩
set_option maxRecDepth 100000 in
set_option maxHeartbeats 2000000 in
theorem mDot_yes {ax ay bx by' cx cy:Int} (rax:rng ax) (ray:rng ay) (rbx:rng bx) (rby:rng by') (rcx:rng cx) (rcy:rng cy) (pax:pok ax=true) (pay:pok ay=true) (pbx:pok bx=true) (pby:pok by'=true) (pcx:pok cx=true) (pcy:pok cy=true) (w:World) (H:Hold4 w) :
    Calls Tryz.prog 17 #[.agg #[.int .i64 ax,.int .i64 ay],.agg #[.int .i64 bx,.int .i64 by'],.agg #[.int .i64 cx,.int .i64 cy]] w fun r w'=>∃ v V,r=.returned (.tuple #[v,.int .i64 0])∧DAns w w' V v∧Dot2 (patV ax-patV bx) (patV ay-patV by') (patV cx-patV bx) (patV cy-patV by') V∧Bd 8100 V:=by
  have CG:Hid (∀ W g,W.heap[g]?=some (.cells #[.int .i64 ax,.int .i64 ay,.int .i64 bx,.int .i64 by',.int .i64 cx,.int .i64 cy] 23)->Calls Tryz.prog 11 #[.slice (some ⟨g,0,none⟩) 3 3] W fun x w'=>x=.returned (.bool true)∧Below W.heap.size W w'):=fun W g h=>by
    have:=mgood_any _ _ _ _ _ W (pts3 W h) (rng3 rax rbx rcx) (rng3 ray rby rcy)
    rw [allB3] at this
    have e:(ptok ax ay && ptok bx by' && ptok cx cy)=true:=by unfold ptok; rw [pax,pay,pbx,pby,pcx,pcy]; rfl
    rw [e] at this
    exact this
  have CD:Hid (∀ W,Hold4 W->Calls Tryz.prog 30 #[.agg #[.func (.func 51) #[] #[],.func (.func 52) #[] #[],.func (.func 53) #[] #[],.func (.func 54) #[] #[]],.agg #[.int .i64 ax,.int .i64 ay],.agg #[.int .i64 bx,.int .i64 by'],.agg #[.int .i64 cx,.int .i64 cy]] W fun r w'=>∃ v V,r=.returned v∧DAns W w' V v∧Dot2 (patV ax-patV bx) (patV ay-patV by') (patV cx-patV bx) (patV cy-patV by') V∧Bd 8100 V):=fun W h=>mdotN_any pax pay pbx pby pcx pcy W h
  clear rax ray rbx rby rcx rcy pax pay pbx pby pcx pcy
  have a_k:(w.alloc (.cells #[.int .i64 ax,.int .i64 ay] 23)).heap[w.heap.size]?=some (.cells #[.int .i64 ax,.int .i64 ay] 23):=heap_new (.cells #[.int .i64 ax,.int .i64 ay] 23) (by rfl)
  have hb0:=bel_alloc w (.cells #[.int .i64 ax,.int .i64 ay] 23)
  replace a_k:=heap_past (.cells #[.int .i64 bx,.int .i64 by'] 23) a_k
  have b_k:((w.alloc (.cells #[.int .i64 ax,.int .i64 ay] 23)).alloc (.cells #[.int .i64 bx,.int .i64 by'] 23)).heap[w.heap.size+1]?=some (.cells #[.int .i64 bx,.int .i64 by'] 23):=heap_new (.cells #[.int .i64 bx,.int .i64 by'] 23) (by simp only [size_alloc])
  replace hb0:=bel_trans hb0 (bel_alloc (w.alloc (.cells #[.int .i64 ax,.int .i64 ay] 23)) (.cells #[.int .i64 bx,.int .i64 by'] 23))
  replace a_k:=heap_past (.cells #[.int .i64 cx,.int .i64 cy] 23) a_k
  replace b_k:=heap_past (.cells #[.int .i64 cx,.int .i64 cy] 23) b_k
  have c_k:(((w.alloc (.cells #[.int .i64 ax,.int .i64 ay] 23)).alloc (.cells #[.int .i64 bx,.int .i64 by'] 23)).alloc (.cells #[.int .i64 cx,.int .i64 cy] 23)).heap[w.heap.size+1+1]?=some (.cells #[.int .i64 cx,.int .i64 cy] 23):=heap_new (.cells #[.int .i64 cx,.int .i64 cy] 23) (by simp only [size_alloc])
  replace hb0:=bel_trans hb0 (bel_alloc ((w.alloc (.cells #[.int .i64 ax,.int .i64 ay] 23)).alloc (.cells #[.int .i64 bx,.int .i64 by'] 23)) (.cells #[.int .i64 cx,.int .i64 cy] 23))
  replace a_k:=heap_past (.cells #[.bool false,.slice none 0 0,.int .i64 0] 34) a_k
  replace b_k:=heap_past (.cells #[.bool false,.slice none 0 0,.int .i64 0] 34) b_k
  replace c_k:=heap_past (.cells #[.bool false,.slice none 0 0,.int .i64 0] 34) c_k
  have r_k:((((w.alloc (.cells #[.int .i64 ax,.int .i64 ay] 23)).alloc (.cells #[.int .i64 bx,.int .i64 by'] 23)).alloc (.cells #[.int .i64 cx,.int .i64 cy] 23)).alloc (.cells #[.bool false,.slice none 0 0,.int .i64 0] 34)).heap[w.heap.size+1+1+1]?=some (.cells #[.bool false,.slice none 0 0,.int .i64 0] 34):=heap_new (.cells #[.bool false,.slice none 0 0,.int .i64 0] 34) (by simp only [size_alloc])
  replace hb0:=bel_trans hb0 (bel_alloc (((w.alloc (.cells #[.int .i64 ax,.int .i64 ay] 23)).alloc (.cells #[.int .i64 bx,.int .i64 by'] 23)).alloc (.cells #[.int .i64 cx,.int .i64 cy] 23)) (.cells #[.bool false,.slice none 0 0,.int .i64 0] 34))
  have hsz0:((((w.alloc (.cells #[.int .i64 ax,.int .i64 ay] 23)).alloc (.cells #[.int .i64 bx,.int .i64 by'] 23)).alloc (.cells #[.int .i64 cx,.int .i64 cy] 23)).alloc (.cells #[.bool false,.slice none 0 0,.int .i64 0] 34)).heap.size=w.heap.size+1+1+1+1:=by simp only [size_alloc]
  have hsz:Hid (((((w.alloc (.cells #[.int .i64 ax,.int .i64 ay] 23)).alloc (.cells #[.int .i64 bx,.int .i64 by'] 23)).alloc (.cells #[.int .i64 cx,.int .i64 cy] 23)).alloc (.cells #[.bool false,.slice none 0 0,.int .i64 0] 34)).heap.size=w.heap.size+1+1+1+1):=hsz0
  clear hsz0
  have f_a0:=blkC a_k 0 rfl
  have f_a1:=blkC a_k 1 rfl
  have f_b0:=blkC b_k 0 rfl
  have f_b1:=blkC b_k 1 rfl
  have f_c0:=blkC c_k 0 rfl
  have f_c1:=blkC c_k 1 rfl
  go_enter Tryz.func17,Tryz.ntmps17
  go_wp2_with fail
  clear f_a0 f_a1 f_b0 f_b1 f_c0 f_c1
  generalize ((((w.alloc (.cells #[.int .i64 ax,.int .i64 ay] 23)).alloc (.cells #[.int .i64 bx,.int .i64 by'] 23)).alloc (.cells #[.int .i64 cx,.int .i64 cy] 23)).alloc (.cells #[.bool false,.slice none 0 0,.int .i64 0] 34))=x0 at hb0 a_k b_k c_k r_k hsz ⊢
  refine (CG.out _ _ (heap_new _ hsz.out.symm)).mono ?_
  rintro _ y1 ⟨rfl,hw1⟩
  replace a_k:=blk_on hw1 (heap_past (.cells #[.int .i64 ax,.int .i64 ay,.int .i64 bx,.int .i64 by',.int .i64 cx,.int .i64 cy] 23) a_k)
  replace b_k:=blk_on hw1 (heap_past (.cells #[.int .i64 ax,.int .i64 ay,.int .i64 bx,.int .i64 by',.int .i64 cx,.int .i64 cy] 23) b_k)
  replace c_k:=blk_on hw1 (heap_past (.cells #[.int .i64 ax,.int .i64 ay,.int .i64 bx,.int .i64 by',.int .i64 cx,.int .i64 cy] 23) c_k)
  replace r_k:=blk_on hw1 (heap_past (.cells #[.int .i64 ax,.int .i64 ay,.int .i64 bx,.int .i64 by',.int .i64 cx,.int .i64 cy] 23) r_k)
  replace hb0:=bel_trans (bel_trans hb0 (bel_alloc x0 (.cells #[.int .i64 ax,.int .i64 ay,.int .i64 bx,.int .i64 by',.int .i64 cx,.int .i64 cy] 23))) hw1
  have H:=H.keeps hb0
  go_wp2_with fail
  have KK1:∀ W,Below y1.heap.size y1 W->W.cell? ⟨w.heap.size,0,none⟩=some (.int .i64 ax)∧W.cell? ⟨w.heap.size,1,none⟩=some (.int .i64 ay)∧W.cell? ⟨w.heap.size+1,0,none⟩=some (.int .i64 bx)∧W.cell? ⟨w.heap.size+1,1,none⟩=some (.int .i64 by')∧W.cell? ⟨w.heap.size+2,0,none⟩=some (.int .i64 cx)∧W.cell? ⟨w.heap.size+2,1,none⟩=some (.int .i64 cy):=fun W hb=>⟨q_cell (blkC a_k 0 rfl) hb,q_cell (blkC a_k 1 rfl) hb,q_cell (blkC b_k 0 rfl) hb,q_cell (blkC b_k 1 rfl) hb,q_cell (blkC c_k 0 rfl) hb,q_cell (blkC c_k 1 rfl) hb⟩
  have ne_a:w.heap.size≠w.heap.size+1+1+1:=by omega
  have ne_b:w.heap.size+1≠w.heap.size+1+1+1:=by omega
  have ne_c:w.heap.size+2≠w.heap.size+1+1+1:=by omega
  have hC1_0:=(bel_refl y1).drew
  have hs1_0:=(bel_refl y1).drew
  have hT1_0:Below w.heap.size w y1.drew:=hb0.drew
  have H_1_0:=H.keeps (bel_refl y1).drew
  have hrs:=(Array.getElem?_eq_some_iff.1 r_k).1
  go_region_held3 (fun W=>W.cell? ⟨w.heap.size,0,none⟩=some (.int .i64 ax)∧W.cell? ⟨w.heap.size,1,none⟩=some (.int .i64 ay)∧W.cell? ⟨w.heap.size+1,0,none⟩=some (.int .i64 bx)∧W.cell? ⟨w.heap.size+1,1,none⟩=some (.int .i64 by')∧W.cell? ⟨w.heap.size+2,0,none⟩=some (.int .i64 cx)∧W.cell? ⟨w.heap.size+2,1,none⟩=some (.int .i64 cy))
    (with_reducible first | assumption | exact KK1 _ hC1_0 | exact KK1 _ hC1_1 | exact KK1 _ hC1_2 | exact ⟨cellS (KK1 _ hC1_2).1 ne_a _ _ _,cellS (KK1 _ hC1_2).2.1 ne_a _ _ _,cellS (KK1 _ hC1_2).2.2.1 ne_b _ _ _,cellS (KK1 _ hC1_2).2.2.2.1 ne_b _ _ _,cellS (KK1 _ hC1_2).2.2.2.2.1 ne_c _ _ _,cellS (KK1 _ hC1_2).2.2.2.2.2 ne_c _ _ _⟩ | fail)
    (first
      | (go_at_call 30; have _t:=hs1_1; refine (CD.out _ (H_1_1.keeps (by with_reducible first | exact bel_refl _ | exact bel_alloc _ _ | exact bel_dr _ _))).mono ?_; rintro _ y1_2 ⟨v,V,rfl,na1,hV,hB⟩; obtain ⟨n_g,n_o,n_n,n_c,n_e,rfl⟩:=dans_shape na1; have hq1_2:=na1.below; have hs1_2:Below y1_1.heap.size y1_1 y1_2:=(by with_reducible first | exact hq1_2 | exact bel_trans (bel_alloc _ _) hq1_2 | exact bel_trans (bel_dr _ _) hq1_2); have hT1_2:=bel_trans hT1_1 hs1_2; have hC1_2:=bel_trans hC1_1 hs1_2; have H_1_2:=H_1_1.keeps hs1_2; have hr:=blk_on hs1_2 (blk_on hs1_1 (blk_on hs1_0 r_k)); have k0:=(fun _=>blkC hr 0 rfl) hs1_2; have z0:=(fun _=>blkF hr 0) hs1_2; have k1:=(fun _=>blkC hr 1 rfl) hs1_2; have z1:=(fun _=>blkF hr 1) hs1_2; have k2:=(fun _=>blkC hr 2 rfl) hs1_2; have z2:=(fun _=>blkF hr 2) hs1_2)
      | (go_at_call 29; refine (mexactNumbers _).mono ?_; rintro _ y1_1 ⟨rfl,hq1_1⟩; have hs1_1:Below y1.drew.heap.size y1.drew y1_1:=(by with_reducible first | exact hq1_1 | exact bel_trans (bel_alloc _ _) hq1_1 | exact bel_trans (bel_dr _ _) hq1_1); have hT1_1:=bel_trans hT1_0 hs1_1; have hC1_1:=bel_trans hC1_0 hs1_1; have H_1_1:=H_1_0.keeps hs1_1))
  go_wp2
  refine bodyPost_ret (v:=.tuple #[.agg #[.bool n_g,.slice n_o n_n n_c,.int .i64 n_e],.int .i64 0]) (by simp [results,Tryz.results17,go_sem,k0,k1,k2]) rfl ⟨_,V,rfl,?_,hV,hB⟩
  exact dans_res3 (g:=w.heap.size+3) na1 (bel_trans hb0 (by first | exact hs1_1 | exact bel_trans hs1_0 hs1_1)) (by omega) (Nat.lt_of_lt_of_le hrs (bel_trans hs1_0 hs1_1).size) _ _ _
set_option maxRecDepth 100000 in
set_option maxHeartbeats 4000000 in
theorem osame_D {w:World} {x y:Value} {A B:Int} (hx:DNum w x A) (hy:DNum w y B) :
    Calls Tryz.prog 10 #[x,y] w fun r w'=>r=.returned (.bool (decide (A=B)))∧Below w.heap.size w w':=by
  obtain ⟨g,s,m,e,rfl,dx,ao,n,ca,a,rfl,hR,hN,rfl⟩:=hx
  obtain ⟨g',s',m',e',rfl,dy,bo,n',cb,b,rfl,hR',hN',rfl⟩:=hy
  have hu:A=B->g=g'∧val a n=val b n'∧e=e':=fun q=>by subst q; exact dx.unique dy
  have hm1:=hR.max
  have hl1:=hR.le
  have hm2:=hR'.max
  have hl2:=hR'.le
  have hb2:=bel_alloc2 w (.cells #[.bool g,.slice ao n ca,.int .i64 e] 34) (.cells #[.bool g',.slice bo n' cb,.int .i64 e'] 34)
  by_cases hg:g=g'∧e=e'∧n=n'
  . obtain ⟨rfl,rfl,rfl⟩:=hg
    have q0:=heap_a2 w (.cells #[.bool g,.slice ao n ca,.int .i64 e] 34) (.cells #[.bool g,.slice bo n cb,.int .i64 e] 34)
    have q1:=heap_b2 w (.cells #[.bool g,.slice ao n ca,.int .i64 e] 34) (.cells #[.bool g,.slice bo n cb,.int .i64 e] 34)
    have HR:=hR.keeps hb2
    have HR':=hR'.keeps hb2
    have hAB:(∀ i,i<n->a i=b i)->A=B:=fun q=>by rw [dx.val,dy.val,val_congr q]
    go_enter Tryz.func10,Tryz.ntmps10
    go_wp2_with fail
    have k1:=blkC q0 1 rfl
    have j1:=blkC q1 1 rfl
    clear q0 q1 hu hR hR'
    generalize (w.alloc (.cells #[.bool g,.slice ao n ca,.int .i64 e] 34)).alloc (.cells #[.bool g,.slice bo n cb,.int .i64 e] 34)=wx at hb2 k1 j1 HR HR' ⊢
    have HNa:Hid (Nrm a n):=hN
    have HNb:Hid (Nrm b n):=hN'
    have HAB:Hid ((∀ i,i<n->a i=b i)->A=B):=hAB
    have HBA:Hid (A=B->∀ i,i<n->a i=b i):=fun q=>val_inj hN.1 hN'.1 (by subst q; exact (dx.unique dy).2.1)
    clear hN hN' hAB dx dy
    go_loopw [5] (fun i wr=>∃ k:Nat,k<=n∧i=.int .i64 k∧Hid (∀ i,i<k->a i=b i)∧Below wx.heap.size wx wr) (fun i _=>n-(intOf i).toNat)
    case atStart=>exact ⟨0,Nat.zero_le _,rfl,fun i hi=>by omega,bel_refl _⟩
    case round=>
      obtain ⟨k,hk,rfl,HS,hbw⟩:=hrel
      have k1':=cell_keeps k1 hbw
      have j1':=cell_keeps j1 hbw
      by_cases hlt:k<n
      . obtain ⟨ba,fa,rfl,hba,hca⟩:=HR.spot (by omega)
        obtain ⟨bb,fb,rfl,hbb,hcb⟩:=HR'.spot (by omega)
        have c1:=(hbw.cell (p:=⟨ba,fa+k,none⟩) hba).trans (hca k (by omega))
        have c2:=(hbw.cell (p:=⟨bb,fb+k,none⟩) hbb).trans (hcb k (by omega))
        clear hca hcb
        by_cases h1:a k=b k
        . have h2:(a k == b k)=true:=by simpa using h1
          rw [h1] at c1
          go_wp2_with fail
          go_quiet (fail)
          go_wp2
          go_roundw
          case rel=>exact ⟨k+1,by omega,by go_num,fun i hi=>by by_cases e:i=k; (· rw [e]; exact h1); (· exact HS.out i (by omega)),bDrewN hbw _⟩
          case measure=>simp [intOf]; try omega
        . have h2:(a k == b k)=false:=by simpa using h1
          have hne:A≠B:=fun q=>h1 (HBA.out q k hlt)
          have hdd:Hid (false=decide (A=B)):=(decide_eq_false hne).symm
          clear hne
          go_wp2_with fail
          go_quiet (fail)
          go_wp2
          go_ret
          exact ⟨ret_bool hdd.out,bel_trans hb2 (bDrewN hbw _)⟩
      . obtain rfl:k=n:=by omega
        have hdd:Hid (true=decide (A=B)):=(decide_eq_true (HAB.out HS.out)).symm
        go_wp2
        go_ret
        exact ⟨ret_bool hdd.out,bel_trans hb2 hbw⟩
  . have hne:A≠B:=fun q=>hg ⟨(hu q).1,(hu q).2.2,nrm_len hN hN' (hu q).2.1⟩
    rw [decide_eq_false hne]
    by_cases c1:g=g'
    . subst c1
      by_cases c2:e=e'
      . subst c2
        have c3:n≠n':=fun q=>hg ⟨rfl,rfl,q⟩
        have c4:((n:Int) == (n':Int))=false:=by simp; omega
        clear hu
        go_enter Tryz.func10,Tryz.ntmps10
        go_wp2
        all_goals go_ret
        all_goals exact ⟨rfl,hb2⟩
      . have c4:(e == e')=false:=by simpa using c2
        clear hu
        go_enter Tryz.func10,Tryz.ntmps10
        go_wp2
        all_goals go_ret
        all_goals exact ⟨rfl,hb2⟩
    . have c4:(g == g')=false:=by simpa using c1
      clear hu
      go_enter Tryz.func10,Tryz.ntmps10
      go_wp2
      all_goals go_ret
      all_goals exact ⟨rfl,hb2⟩
set_option maxRecDepth 100000 in
set_option maxHeartbeats 1000000 in
theorem mSquare_yes {ax ay bx by':Int} (rax:rng ax) (ray:rng ay) (rbx:rng bx) (rby:rng by') (pax:pok ax=true) (pay:pok ay=true) (pbx:pok bx=true) (pby:pok by'=true) (w:World) (H:Hold4 w) :
    Calls Tryz.prog 9 #[.agg #[.int .i64 ax,.int .i64 ay],.agg #[.int .i64 bx,.int .i64 by']] w fun r w'=>∃ v V,r=.returned (.tuple #[v,.int .i64 0])∧DAns w w' V v∧Dot2 (patV ax-patV bx) (patV ay-patV by') (patV ax-patV bx) (patV ay-patV by') V∧Bd 8100 V:=by
  have CD:Hid (∀ W,Hold4 W->Calls Tryz.prog 17 #[.agg #[.int .i64 ax,.int .i64 ay],.agg #[.int .i64 bx,.int .i64 by'],.agg #[.int .i64 ax,.int .i64 ay]] W fun r w'=>∃ v V,r=.returned (.tuple #[v,.int .i64 0])∧DAns W w' V v∧Dot2 (patV ax-patV bx) (patV ay-patV by') (patV ax-patV bx) (patV ay-patV by') V∧Bd 8100 V):=fun W h=>mDot_yes rax ray rbx rby rax ray pax pay pbx pby pax pay W h
  clear rax ray rbx rby pax pay pbx pby
  have a_k:(w.alloc (.cells #[.int .i64 ax,.int .i64 ay] 23)).heap[w.heap.size]?=some (.cells #[.int .i64 ax,.int .i64 ay] 23):=heap_new (.cells #[.int .i64 ax,.int .i64 ay] 23) (by rfl)
  have hb0:=bel_alloc w (.cells #[.int .i64 ax,.int .i64 ay] 23)
  replace a_k:=heap_past (.cells #[.int .i64 bx,.int .i64 by'] 23) a_k
  have b_k:((w.alloc (.cells #[.int .i64 ax,.int .i64 ay] 23)).alloc (.cells #[.int .i64 bx,.int .i64 by'] 23)).heap[w.heap.size+1]?=some (.cells #[.int .i64 bx,.int .i64 by'] 23):=heap_new (.cells #[.int .i64 bx,.int .i64 by'] 23) (by simp only [size_alloc])
  replace hb0:=bel_trans hb0 (bel_alloc (w.alloc (.cells #[.int .i64 ax,.int .i64 ay] 23)) (.cells #[.int .i64 bx,.int .i64 by'] 23))
  replace a_k:=heap_past (.cells #[.bool false,.slice none 0 0,.int .i64 0] 34) a_k
  replace b_k:=heap_past (.cells #[.bool false,.slice none 0 0,.int .i64 0] 34) b_k
  have r_k:(((w.alloc (.cells #[.int .i64 ax,.int .i64 ay] 23)).alloc (.cells #[.int .i64 bx,.int .i64 by'] 23)).alloc (.cells #[.bool false,.slice none 0 0,.int .i64 0] 34)).heap[w.heap.size+1+1]?=some (.cells #[.bool false,.slice none 0 0,.int .i64 0] 34):=heap_new (.cells #[.bool false,.slice none 0 0,.int .i64 0] 34) (by simp only [size_alloc])
  replace hb0:=bel_trans hb0 (bel_alloc ((w.alloc (.cells #[.int .i64 ax,.int .i64 ay] 23)).alloc (.cells #[.int .i64 bx,.int .i64 by'] 23)) (.cells #[.bool false,.slice none 0 0,.int .i64 0] 34))
  have f_a0:=blkC a_k 0 rfl
  have f_a1:=blkC a_k 1 rfl
  have f_b0:=blkC b_k 0 rfl
  have f_b1:=blkC b_k 1 rfl
  go_enter Tryz.func9,Tryz.ntmps9
  go_wp2_with fail
  clear f_a0 f_a1 f_b0 f_b1
  generalize (((w.alloc (.cells #[.int .i64 ax,.int .i64 ay] 23)).alloc (.cells #[.int .i64 bx,.int .i64 by'] 23)).alloc (.cells #[.bool false,.slice none 0 0,.int .i64 0] 34))=x0 at hb0 a_k b_k r_k ⊢
  have H:=H.keeps hb0
  have hs0:=(Array.getElem?_eq_some_iff.1 r_k).1
  refine (CD.out _ H).mono ?_
  rintro _ y2 ⟨v,V,rfl,h2,hD,hB⟩
  obtain ⟨n_g,n_o,n_n,n_c,n_e,rfl⟩:=dans_shape h2
  have hw2:=h2.below
  replace r_k:=blk_on hw2 r_k
  have k0:=blkC r_k 0 rfl
  have z0:=blkF r_k 0
  have k1:=blkC r_k 1 rfl
  have z1:=blkF r_k 1
  have k2:=blkC r_k 2 rfl
  have z2:=blkF r_k 2
  go_wp2
  refine bodyPost_ret (v:=.tuple #[.agg #[.bool n_g,.slice n_o n_n n_c,.int .i64 n_e],.int .i64 0]) (by simp [results,Tryz.results9,go_sem,k0,k1,k2]) rfl ⟨_,V,rfl,?_,hD,hB⟩
  exact dans_res3 (g:=w.heap.size+2) h2 hb0 (by omega) hs0 _ _ _
theorem mnum (x:Int) (w:World) :
    Calls Tryz.prog 7 #[.int .i64 x] w fun e w'=>e=.returned (.int .i64 x)∧w'=w:=by
  go_enter Tryz.func7,Tryz.ntmps7
  go_wp2
  go_ret
  exact ⟨b_ret_int (by first | rfl | omega),rfl⟩
theorem pv_0:patV 0=0:=by
  unfold patV
  rw [show pmag 0=0 by decide,show pneg 0=false by decide]
  show (0:Int)*_=0
  rw [Int.zero_mul]
theorem pv_3:patV 4613937818241073152=3*pw 0:=by
  unfold patV
  rw [show pneg 4613937818241073152=false by decide,show pmag 4613937818241073152=6755399441055744 by decide,show pexp 4613937818241073152=-51 by decide,pw_step (e:=-51) (k:=0) (l:=51) (by omega) (by omega)]
  generalize pw (-51)=p
  show 6755399441055744*p=3*(p*2^51)
  rw [show (2:Int)^51=2251799813685248 by decide]
  omega
theorem pv_4:patV 4616189618054758400=4*pw 0:=by
  unfold patV
  rw [show pneg 4616189618054758400=false by decide,show pmag 4616189618054758400=4503599627370496 by decide,show pexp 4616189618054758400=-50 by decide,pw_step (e:=-50) (k:=0) (l:=50) (by omega) (by omega)]
  generalize pw (-50)=p
  show 4503599627370496*p=4*(p*2^50)
  rw [show (2:Int)^50=1125899906842624 by decide]
  omega
theorem sq_of {C Y S k:Int} (h:C*S=(0-k*Y)*(0-k*Y)) (e:Y=S):C*S=(k*k*Y)*S:=by
  subst e
  rw [h]
  grind
theorem pw_0M:pw 0=2^4194304:=by unfold pw; congr 1
theorem sq_3_4 {V:Int} (h:Dot2 (patV 0-patV 4613937818241073152) (patV 0-patV 4616189618054758400) (patV 0-patV 4613937818241073152) (patV 0-patV 4616189618054758400) V):V=sg false 25*pw 0:=by
  obtain ⟨C,D,h1,h2,rfl⟩:=h
  rw [pv_0,pv_3] at h1
  rw [pv_0,pv_4] at h2
  rw [scale_inj (sq_of h1 pw_0M),scale_inj (sq_of h2 pw_0M)]
  generalize pw 0=p
  show 3*3*p+4*4*p=25*p
  omega
set_option maxRecDepth 100000 in
set_option maxHeartbeats 1000000 in
theorem alive13 (w:World) (H:Hold4 w):Calls Tryz.prog 4 #[] w fun e w'=>e=.returned (.bool true)∧Below w.heap.size w w':=by
  have CS:Hid (∀ W,Hold4 W->Calls Tryz.prog 9 #[.agg #[.int .i64 0,.int .i64 0],.agg #[.int .i64 4613937818241073152,.int .i64 4616189618054758400]] W fun r w'=>∃ v V,r=.returned (.tuple #[v,.int .i64 0])∧DAns W w' V v∧Dot2 (patV 0-patV 4613937818241073152) (patV 0-patV 4616189618054758400) (patV 0-patV 4613937818241073152) (patV 0-patV 4616189618054758400) V∧Bd 8100 V):=fun W h=>mSquare_yes (by unfold rng; decide) (by unfold rng; decide) (by unfold rng; decide) (by unfold rng; decide) (by decide) (by decide) (by decide) (by decide) W h
  go_enter Tryz.func4,Tryz.ntmps4
  go_wp2_with fail
  refine (CS.out _ H).mono ?_
  rintro _ y1 ⟨v,V,rfl,h1,hD,hB⟩
  replace hD:Hid (V=sg false 25*pw 0):=sq_3_4 hD
  obtain ⟨x_g,x_o,x_n,x_c,x_e,rfl⟩:=dans_shape h1
  have hw1:=h1.below
  have x_D:=h1.num
  clear h1 hB CS
  have x_k:=heap_a1 y1 (.cells #[.bool x_g,.slice x_o x_n x_c,.int .i64 x_e] 34)
  have x_D:=x_D.keeps (bel_alloc y1 (.cells #[.bool x_g,.slice x_o x_n x_c,.int .i64 x_e] 34))
  have hb1:=bel_trans hw1 (bel_alloc y1 (.cells #[.bool x_g,.slice x_o x_n x_c,.int .i64 x_e] 34))
  go_wp2_with (go_at_call 7; refine (mnum _ _).mono ?_; rintro _ wz ⟨rfl,hwz⟩; replace hwz:=hwz.symm; subst hwz)
  have hl:=dnum_lit (w:=(y1.alloc (.cells #[.bool x_g,.slice x_o x_n x_c,.int .i64 x_e] 34)).alloc (.cells #[.int .i64 25] 3)) (g:=y1.heap.size+1) false (m:=25) (e:=0) (by decide) (by decide) (by decide) (by decide) (heap_new _ (by simp only [size_alloc]))
  have x_E:=x_D.keeps (bel_alloc (y1.alloc (.cells #[.bool x_g,.slice x_o x_n x_c,.int .i64 x_e] 34)) (.cells #[.int .i64 25] 3))
  refine (osame_D x_E hl).mono ?_
  rintro _ y2 ⟨rfl,hw2⟩
  have he:decide (V=sg false 25*pw 0)=true:=decide_eq_true hD.out
  rw [he]
  have hb2:=bel_trans (bel_trans hb1 (bel_alloc _ _)) hw2
  clear he hD hl x_E
  go_wp2
  go_ret
  exact ⟨rfl,hb2⟩
end Go.Proofs.YtmmnoneehiibiaaGreatDoor
namespace Go.Proofs.YtmmnoneehiibiaaGreatDoor
open Go Go.ChangeShapes Go.WideShapes Go.ChangeAt Go.RowKit Go.Proofs.YtmmnoneehiibiaaGreatDoor.M
theorem q_cellsPoint:Tryz.prog.cellsOf 23=2:=by kernel_rfl
theorem q_cellsInt:Tryz.prog.cellsOf 3=1:=by kernel_rfl
set_option maxRecDepth 100000 in
theorem point_cells {H:Type} {enc:TypeId × Value->H} {W:World} {n:Nat} {cs:List Value} {x:DataW H × List MemPlace}
    (h:DataW.trod enc Tryz.prog W 0 (fun _=>true) true n 23 cs=some x) :
    ∃ a b:Int,cs=[.int .i64 a,.int .i64 b]∧rng a∧rng b:=by
  obtain ⟨xs,m,_,rfl,hl,hlen,hf⟩:=DataW.trod_struct Tryz.underlying23 h
  rw [q_cellsPoint] at hl
  match cs,hl with
  | [v0,v1],_=>
    match xs,hlen with
    | [y0,y1],_=>
      have f0:DataW.trod enc Tryz.prog W 0 (fun _=>true) true m 3 (([v0,v1].drop 0).take (Tryz.prog.cellsOf 3))=some y0:=hf 0 _ rfl
      have f1:DataW.trod enc Tryz.prog W 0 (fun _=>true) true m 3 (([v0,v1].drop 1).take (Tryz.prog.cellsOf 3))=some y1:=hf 1 _ rfl
      rw [q_cellsInt] at f0 f1
      simp only [List.drop_zero,List.drop_succ_cons,List.take_succ_cons,List.take_zero] at f0 f1
      obtain ⟨k0,e0,_,w0⟩:=DataW.trod_int Tryz.underlying3 f0
      obtain ⟨k1,e1,_,w1⟩:=DataW.trod_int Tryz.underlying3 f1
      simp at e0 e1
      subst e0 e1
      exact ⟨k0,k1,rfl,rng_of w0,rng_of w1⟩
set_option maxRecDepth 100000 in
theorem point_of {H:Type} {enc:TypeId × Value->H} {W:World} {base:Nat} {v:Value} {d:DataW H} {p:List MemPlace} (hv:Value.okWide Tryz.prog W .any base 23 v)
    (h:DataW.Trod enc Tryz.prog W 0 (fun _=>true) true 23 v d p):∃ a b:Int,v=.agg #[.int .i64 a,.int .i64 b]∧rng a∧rng b:=by
  obtain ⟨cs,rfl,hc⟩:=okWide_struct Tryz.underlying23 hv
  obtain ⟨fuel,hf⟩:=h
  obtain ⟨a,b,hr,h1,h2⟩:=point_cells hf
  refine ⟨a,b,?_,h1,h2⟩
  congr 1
  have:cs.toList=[.int .i64 a,.int .i64 b]:=by simpa [Value.cells] using hr
  exact Array.toList_inj.1 this
end Go.Proofs.YtmmnoneehiibiaaGreatDoor
