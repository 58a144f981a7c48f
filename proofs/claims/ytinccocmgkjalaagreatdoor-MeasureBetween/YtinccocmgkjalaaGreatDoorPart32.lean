/-
  Parts of the proof, one behind another.
-/
import Derived.Test.YtinccocmgkjalaaGreatDoorPart22
import Derived.Test.YtinccocmgkjalaaGreatDoorPart17
import Derived.Test.YtinccocmgkjalaaGreatDoorPart31
import Derived.Test.YtinccocmgkjalaaGreatDoorPart21
import Derived.Test.YtinccocmgkjalaaGreatDoorPart6
import Derived.Test.YtinccocmgkjalaaGreatDoorPart7
set_option linter.unusedVariables false
set_option linter.unusedSimpArgs false
namespace Go.Proofs.YtinccocmgkjalaaGreatDoor
open Go Go.RowKit Go.Proofs.YtinccocmgkjalaaGreatDoor.M
set_option maxRecDepth 100000 in
theorem opoints_any {ax ay bx by' cx cy:Int} (rax:rng ax) (ray:rng ay) (rbx:rng bx) (rby:rng by') (rcx:rng cx) (rcy:rng cy) (w:World) :
  Calls Tryz.prog 23 #[.agg #[.int .i64 ax,.int .i64 ay],.agg #[.int .i64 bx,.int .i64 by'],.agg #[.int .i64 cx,.int .i64 cy]] w fun r w'=>r=.returned (.bool ((pok ax && pok ay) && (pok bx && pok by') && (pok cx && pok cy)))∧Below w.heap.size w w':=by
 have CA:Hid (∀ W,Calls Tryz.prog 18 #[.agg #[.int .i64 ax,.int .i64 ay]] W fun e w'=>e=.returned (.int .i64 (errF (pok ax && pok ay)))∧Below W.heap.size W w'):=fun W=>pointCheck rax ray W
 have CB:Hid (∀ W,Calls Tryz.prog 18 #[.agg #[.int .i64 bx,.int .i64 by']] W fun e w'=>e=.returned (.int .i64 (errF (pok bx && pok by')))∧Below W.heap.size W w'):=fun W=>pointCheck rbx rby W
 have CC:Hid (∀ W,Calls Tryz.prog 18 #[.agg #[.int .i64 cx,.int .i64 cy]] W fun e w'=>e=.returned (.int .i64 (errF (pok cx && pok cy)))∧Below W.heap.size W w'):=fun W=>pointCheck rcx rcy W
 have hb0:=bel_a3 w (.cells #[.int .i64 ax,.int .i64 ay] 23) (.cells #[.int .i64 bx,.int .i64 by'] 23) (.cells #[.int .i64 cx,.int .i64 cy] 23)
 have a_k:=h3_0 w (.cells #[.int .i64 ax,.int .i64 ay] 23) (.cells #[.int .i64 bx,.int .i64 by'] 23) (.cells #[.int .i64 cx,.int .i64 cy] 23)
 have b_k:=h3_1 w (.cells #[.int .i64 ax,.int .i64 ay] 23) (.cells #[.int .i64 bx,.int .i64 by'] 23) (.cells #[.int .i64 cx,.int .i64 cy] 23)
 have c_k:=h3_2 w (.cells #[.int .i64 ax,.int .i64 ay] 23) (.cells #[.int .i64 bx,.int .i64 by'] 23) (.cells #[.int .i64 cx,.int .i64 cy] 23)
 clear rax ray rbx rby rcx rcy
 have e0:errF true=0:=rfl
 have e1:errF false=10:=rfl
 generalize (pok ax && pok ay)=P at *
 generalize (pok bx && pok by')=Q at *
 generalize (pok cx && pok cy)=R at *
 cases P
 ·rw [e1] at CA
  go_enter Tryz.func23,Tryz.ntmps23
  go_wp2_with fail
  generalize ((w.alloc (.cells #[.int .i64 ax,.int .i64 ay] 23)).alloc (.cells #[.int .i64 bx,.int .i64 by'] 23)).alloc (.cells #[.int .i64 cx,.int .i64 cy] 23)=x0 at hb0 a_k b_k c_k ⊢
  refine (CA.out _).mono ?_
  rintro _ y0 ⟨rfl,hw0⟩
  have b_k:=(hw0.block _ (Array.getElem?_eq_some_iff.1 b_k).1).trans b_k
  have c_k:=(hw0.block _ (Array.getElem?_eq_some_iff.1 c_k).1).trans c_k
  have hb1:=bel_trans hb0 hw0
  go_wp2
  all_goals go_ret
  all_goals exact ⟨rfl,by first | exact hb1 | exact hb1.drew⟩
 rw [e0] at CA
 cases Q
 ·rw [e1] at CB
  go_enter Tryz.func23,Tryz.ntmps23
  go_wp2_with fail
  generalize ((w.alloc (.cells #[.int .i64 ax,.int .i64 ay] 23)).alloc (.cells #[.int .i64 bx,.int .i64 by'] 23)).alloc (.cells #[.int .i64 cx,.int .i64 cy] 23)=x0 at hb0 a_k b_k c_k ⊢
  refine (CA.out _).mono ?_
  rintro _ y0 ⟨rfl,hw0⟩
  have b_k:=(hw0.block _ (Array.getElem?_eq_some_iff.1 b_k).1).trans b_k
  have c_k:=(hw0.block _ (Array.getElem?_eq_some_iff.1 c_k).1).trans c_k
  have hb1:=bel_trans hb0 hw0
  have f10:=blkC b_k 0 rfl
  have f11:=blkC b_k 1 rfl
  go_wp2_with fail
  refine (CB.out _).mono ?_
  rintro _ y1 ⟨rfl,hw1⟩
  have c_k:=(hw1.block _ (Array.getElem?_eq_some_iff.1 c_k).1).trans c_k
  have hb2:=bel_trans hb1 hw1
  go_wp2
  all_goals go_ret
  all_goals exact ⟨rfl,by first | exact hb2 | exact hb2.drew⟩
 rw [e0] at CB
 cases R
 ·rw [e1] at CC
  go_enter Tryz.func23,Tryz.ntmps23
  go_wp2_with fail
  generalize ((w.alloc (.cells #[.int .i64 ax,.int .i64 ay] 23)).alloc (.cells #[.int .i64 bx,.int .i64 by'] 23)).alloc (.cells #[.int .i64 cx,.int .i64 cy] 23)=x0 at hb0 a_k b_k c_k ⊢
  refine (CA.out _).mono ?_
  rintro _ y0 ⟨rfl,hw0⟩
  have b_k:=(hw0.block _ (Array.getElem?_eq_some_iff.1 b_k).1).trans b_k
  have c_k:=(hw0.block _ (Array.getElem?_eq_some_iff.1 c_k).1).trans c_k
  have hb1:=bel_trans hb0 hw0
  have f10:=blkC b_k 0 rfl
  have f11:=blkC b_k 1 rfl
  go_wp2_with fail
  refine (CB.out _).mono ?_
  rintro _ y1 ⟨rfl,hw1⟩
  have c_k:=(hw1.block _ (Array.getElem?_eq_some_iff.1 c_k).1).trans c_k
  have hb2:=bel_trans hb1 hw1
  have f20:=blkC c_k 0 rfl
  have f21:=blkC c_k 1 rfl
  go_wp2_with fail
  refine (CC.out _).mono ?_
  rintro _ y2 ⟨rfl,hw2⟩
  have hb3:=bel_trans hb2 hw2
  go_wp2
  all_goals go_ret
  all_goals exact ⟨rfl,by first | exact hb3 | exact hb3.drew⟩
 ·rw [e0] at CC
  go_enter Tryz.func23,Tryz.ntmps23
  go_wp2_with fail
  generalize ((w.alloc (.cells #[.int .i64 ax,.int .i64 ay] 23)).alloc (.cells #[.int .i64 bx,.int .i64 by'] 23)).alloc (.cells #[.int .i64 cx,.int .i64 cy] 23)=x0 at hb0 a_k b_k c_k ⊢
  refine (CA.out _).mono ?_
  rintro _ y0 ⟨rfl,hw0⟩
  have b_k:=(hw0.block _ (Array.getElem?_eq_some_iff.1 b_k).1).trans b_k
  have c_k:=(hw0.block _ (Array.getElem?_eq_some_iff.1 c_k).1).trans c_k
  have hb1:=bel_trans hb0 hw0
  have f10:=blkC b_k 0 rfl
  have f11:=blkC b_k 1 rfl
  go_wp2_with fail
  refine (CB.out _).mono ?_
  rintro _ y1 ⟨rfl,hw1⟩
  have c_k:=(hw1.block _ (Array.getElem?_eq_some_iff.1 c_k).1).trans c_k
  have hb2:=bel_trans hb1 hw1
  have f20:=blkC c_k 0 rfl
  have f21:=blkC c_k 1 rfl
  go_wp2_with fail
  refine (CC.out _).mono ?_
  rintro _ y2 ⟨rfl,hw2⟩
  have hb3:=bel_trans hb2 hw2
  go_wp2
  all_goals go_ret
  all_goals exact ⟨rfl,by first | exact hb3 | exact hb3.drew⟩
def oSt (ax ay bx by' cx cy:Int):Int:=if allT3 ax ay bx by' cx cy then oStT ax ay bx by' cx cy else if sgK (owLo ax ay bx by' cx cy) (owHi ax ay bx by' cx cy) then 5 else 6
set_option maxRecDepth 100000 in
set_option maxHeartbeats 4000000 in
theorem oSign_walk {ax ay bx by' cx cy V U:Int} {b1 b2 b3:Bool} (hb:(b1 && b2 && b3)=true) (T1:∀ W,Calls Tryz.prog 21 #[.agg #[.int .i64 ax,.int .i64 ay]] W fun e w'=>e=.returned (.bool b1)∧Below W.heap.size W w') (T2:∀ W,Calls Tryz.prog 21 #[.agg #[.int .i64 bx,.int .i64 by']] W fun e w'=>e=.returned (.bool b2)∧Below W.heap.size W w') (T3:∀ W,Calls Tryz.prog 21 #[.agg #[.int .i64 cx,.int .i64 cy]] W fun e w'=>e=.returned (.bool b3)∧Below W.heap.size W w')
  (CV:∀ W,Hold4 W->Calls Tryz.prog 22 #[.agg #[.int .i64 ax,.int .i64 ay],.agg #[.int .i64 bx,.int .i64 by'],.agg #[.int .i64 cx,.int .i64 cy]] W fun r w'=>r=.returned (.agg #[.int .i64 V,.int .i64 U])∧Below W.heap.size W w') (w:World) (H:Hold4 w) :
  Calls Tryz.prog 13 #[.agg #[.int .i64 ax,.int .i64 ay],.agg #[.int .i64 bx,.int .i64 by'],.agg #[.int .i64 cx,.int .i64 cy]] w fun r w'=>r=.returned (.tuple #[.agg #[.int .i64 V,.int .i64 U],.int .i64 0])∧Below w.heap.size w w':=by
 obtain ⟨⟨rfl,rfl⟩,rfl⟩:(b1=true∧b2=true)∧b3=true:=by simpa using hb
 clear hb
 have h1:Hid _:=hideIt T1
 have h2:Hid _:=hideIt T2
 have h3:Hid _:=hideIt T3
 have h4:Hid _:=hideIt CV
 clear T1 T2 T3 CV
 obtain ⟨hb0,a_k,b_k,c_k,r_k,hsz0⟩:=blks4 w (.cells #[.int .i64 ax,.int .i64 ay] 23) (.cells #[.int .i64 bx,.int .i64 by'] 23) (.cells #[.int .i64 cx,.int .i64 cy] 23) (.cells #[.int .i64 0,.int .i64 0] 42)
 clear hsz0
 have f_a0:=blkC a_k 0 rfl
 have f_a1:=blkC a_k 1 rfl
 go_enter Tryz.func13,Tryz.ntmps13
 go_wp2_with fail
 clear f_a0 f_a1
 generalize ((((w.alloc (.cells #[.int .i64 ax,.int .i64 ay] 23)).alloc (.cells #[.int .i64 bx,.int .i64 by'] 23)).alloc (.cells #[.int .i64 cx,.int .i64 cy] 23)).alloc (.cells #[.int .i64 0,.int .i64 0] 42))=x0 at hb0 a_k b_k c_k r_k ⊢
 refine (h1.out _).mono ?_
 rintro _ y1 ⟨rfl,hw1⟩
 replace a_k:=blk_on hw1 a_k
 replace b_k:=blk_on hw1 b_k
 replace c_k:=blk_on hw1 c_k
 replace r_k:=blk_on hw1 r_k
 replace hb0:=bel_trans hb0 hw1
 have f_b0:=blkC b_k 0 rfl
 have f_b1:=blkC b_k 1 rfl
 go_wp2_with fail
 clear f_b0 f_b1
 refine (h2.out _).mono ?_
 rintro _ y2 ⟨rfl,hw2⟩
 replace a_k:=blk_on hw2 a_k
 replace b_k:=blk_on hw2 b_k
 replace c_k:=blk_on hw2 c_k
 replace r_k:=blk_on hw2 r_k
 replace hb0:=bel_trans hb0 hw2
 have f_c0:=blkC c_k 0 rfl
 have f_c1:=blkC c_k 1 rfl
 go_wp2_with fail
 clear f_c0 f_c1
 refine (h3.out _).mono ?_
 rintro _ y3 ⟨rfl,hw3⟩
 replace a_k:=blk_on hw3 a_k
 replace b_k:=blk_on hw3 b_k
 replace c_k:=blk_on hw3 c_k
 replace r_k:=blk_on hw3 r_k
 replace hb0:=bel_trans hb0 hw3
 have f_a0:=blkC a_k 0 rfl
 have f_a1:=blkC a_k 1 rfl
 have f_b0:=blkC b_k 0 rfl
 have f_b1:=blkC b_k 1 rfl
 have f_c0:=blkC c_k 0 rfl
 have f_c1:=blkC c_k 1 rfl
 go_wp2_with fail
 clear f_a0 f_a1 f_b0 f_b1 f_c0 f_c1
 replace H:=H.keeps hb0
 refine (h4.out _ H).mono ?_
 rintro _ y4 ⟨rfl,hw4⟩
 replace r_k:=blk_on hw4 r_k
 replace hb0:=bel_trans hb0 hw4
 have k0:=blkC r_k 0 rfl
 have k1:=blkC r_k 1 rfl
 have z0:=blkF r_k 0
 have z1:=blkF r_k 1
 go_wp2
 exact bodyPost_ret (v:=.tuple #[.agg #[.int .i64 V,.int .i64 U],.int .i64 0]) (by simp [results,Tryz.results13,go_sem,k0,k1]) rfl ⟨rfl,((hb0.setCell (p:=⟨w.heap.size + 1 + 1 + 1,0,none⟩) (show w.heap.size <= w.heap.size + 1 + 1 + 1 by omega) _).setCell (p:=⟨w.heap.size + 1 + 1 + 1,1,none⟩) (show w.heap.size <= w.heap.size + 1 + 1 + 1 by omega) _)⟩
set_option maxRecDepth 100000 in
set_option maxHeartbeats 4000000 in
theorem oSign_wild {ax ay bx by' cx cy V U:Int} {b1 b2 b3:Bool} (hb:(b1 && b2 && b3)=false) (T1:∀ W,Calls Tryz.prog 21 #[.agg #[.int .i64 ax,.int .i64 ay]] W fun e w'=>e=.returned (.bool b1)∧Below W.heap.size W w') (T2:∀ W,Calls Tryz.prog 21 #[.agg #[.int .i64 bx,.int .i64 by']] W fun e w'=>e=.returned (.bool b2)∧Below W.heap.size W w') (T3:∀ W,Calls Tryz.prog 21 #[.agg #[.int .i64 cx,.int .i64 cy]] W fun e w'=>e=.returned (.bool b3)∧Below W.heap.size W w')
  (CP:∀ W,Calls Tryz.prog 23 #[.agg #[.int .i64 ax,.int .i64 ay],.agg #[.int .i64 bx,.int .i64 by'],.agg #[.int .i64 cx,.int .i64 cy]] W fun r w'=>r=.returned (.bool true)∧Below W.heap.size W w')
  (CV:∀ W,Hold4 W->Calls Tryz.prog 24 #[.agg #[.int .i64 ax,.int .i64 ay],.agg #[.int .i64 bx,.int .i64 by'],.agg #[.int .i64 cx,.int .i64 cy]] W fun r w'=>r=.returned (.agg #[.int .i64 V,.int .i64 U])∧Below W.heap.size W w') (w:World) (H:Hold4 w) :
  Calls Tryz.prog 13 #[.agg #[.int .i64 ax,.int .i64 ay],.agg #[.int .i64 bx,.int .i64 by'],.agg #[.int .i64 cx,.int .i64 cy]] w fun r w'=>r=.returned (.tuple #[.agg #[.int .i64 V,.int .i64 U],.int .i64 0])∧Below w.heap.size w w':=by
 have h1:Hid _:=hideIt T1
 have h2:Hid _:=hideIt T2
 have h3:Hid _:=hideIt T3
 have h5:Hid _:=hideIt CP
 have h4:Hid _:=hideIt CV
 clear T1 T2 T3 CP CV
 cases b1
 ·clear h2 h3
  obtain ⟨hb0,a_k,b_k,c_k,r_k,hsz0⟩:=blks4 w (.cells #[.int .i64 ax,.int .i64 ay] 23) (.cells #[.int .i64 bx,.int .i64 by'] 23) (.cells #[.int .i64 cx,.int .i64 cy] 23) (.cells #[.int .i64 0,.int .i64 0] 42)
  clear hsz0
  have f_a0:=blkC a_k 0 rfl
  have f_a1:=blkC a_k 1 rfl
  go_enter Tryz.func13,Tryz.ntmps13
  go_wp2_with fail
  clear f_a0 f_a1
  generalize ((((w.alloc (.cells #[.int .i64 ax,.int .i64 ay] 23)).alloc (.cells #[.int .i64 bx,.int .i64 by'] 23)).alloc (.cells #[.int .i64 cx,.int .i64 cy] 23)).alloc (.cells #[.int .i64 0,.int .i64 0] 42))=x0 at hb0 a_k b_k c_k r_k ⊢
  refine (h1.out _).mono ?_
  rintro _ y1 ⟨rfl,hw1⟩
  replace a_k:=blk_on hw1 a_k
  replace b_k:=blk_on hw1 b_k
  replace c_k:=blk_on hw1 c_k
  replace r_k:=blk_on hw1 r_k
  replace hb0:=bel_trans hb0 hw1
  have f_a0:=blkC a_k 0 rfl
  have f_a1:=blkC a_k 1 rfl
  have f_b0:=blkC b_k 0 rfl
  have f_b1:=blkC b_k 1 rfl
  have f_c0:=blkC c_k 0 rfl
  have f_c1:=blkC c_k 1 rfl
  go_wp2_with fail
  clear f_a0 f_a1 f_b0 f_b1 f_c0 f_c1
  refine (h5.out _).mono ?_
  rintro _ y5 ⟨rfl,hw5⟩
  replace a_k:=blk_on hw5 a_k
  replace b_k:=blk_on hw5 b_k
  replace c_k:=blk_on hw5 c_k
  replace r_k:=blk_on hw5 r_k
  replace hb0:=bel_trans hb0 hw5
  have f_a0:=blkC a_k 0 rfl
  have f_a1:=blkC a_k 1 rfl
  have f_b0:=blkC b_k 0 rfl
  have f_b1:=blkC b_k 1 rfl
  have f_c0:=blkC c_k 0 rfl
  have f_c1:=blkC c_k 1 rfl
  go_wp2_with fail
  clear f_a0 f_a1 f_b0 f_b1 f_c0 f_c1
  replace H:=H.keeps hb0
  refine (h4.out _ H).mono ?_
  rintro _ y4 ⟨rfl,hw4⟩
  replace r_k:=blk_on hw4 r_k
  replace hb0:=bel_trans hb0 hw4
  have k0:=blkC r_k 0 rfl
  have k1:=blkC r_k 1 rfl
  have z0:=blkF r_k 0
  have z1:=blkF r_k 1
  go_wp2
  exact bodyPost_ret (v:=.tuple #[.agg #[.int .i64 V,.int .i64 U],.int .i64 0]) (by simp [results,Tryz.results13,go_sem,k0,k1]) rfl ⟨rfl,((hb0.setCell (p:=⟨w.heap.size + 1 + 1 + 1,0,none⟩) (show w.heap.size <= w.heap.size + 1 + 1 + 1 by omega) _).setCell (p:=⟨w.heap.size + 1 + 1 + 1,1,none⟩) (show w.heap.size <= w.heap.size + 1 + 1 + 1 by omega) _)⟩
 cases b2
 ·clear h3
  obtain ⟨hb0,a_k,b_k,c_k,r_k,hsz0⟩:=blks4 w (.cells #[.int .i64 ax,.int .i64 ay] 23) (.cells #[.int .i64 bx,.int .i64 by'] 23) (.cells #[.int .i64 cx,.int .i64 cy] 23) (.cells #[.int .i64 0,.int .i64 0] 42)
  clear hsz0
  have f_a0:=blkC a_k 0 rfl
  have f_a1:=blkC a_k 1 rfl
  go_enter Tryz.func13,Tryz.ntmps13
  go_wp2_with fail
  clear f_a0 f_a1
  generalize ((((w.alloc (.cells #[.int .i64 ax,.int .i64 ay] 23)).alloc (.cells #[.int .i64 bx,.int .i64 by'] 23)).alloc (.cells #[.int .i64 cx,.int .i64 cy] 23)).alloc (.cells #[.int .i64 0,.int .i64 0] 42))=x0 at hb0 a_k b_k c_k r_k ⊢
  refine (h1.out _).mono ?_
  rintro _ y1 ⟨rfl,hw1⟩
  replace a_k:=blk_on hw1 a_k
  replace b_k:=blk_on hw1 b_k
  replace c_k:=blk_on hw1 c_k
  replace r_k:=blk_on hw1 r_k
  replace hb0:=bel_trans hb0 hw1
  have f_b0:=blkC b_k 0 rfl
  have f_b1:=blkC b_k 1 rfl
  go_wp2_with fail
  clear f_b0 f_b1
  refine (h2.out _).mono ?_
  rintro _ y2 ⟨rfl,hw2⟩
  replace a_k:=blk_on hw2 a_k
  replace b_k:=blk_on hw2 b_k
  replace c_k:=blk_on hw2 c_k
  replace r_k:=blk_on hw2 r_k
  replace hb0:=bel_trans hb0 hw2
  have f_a0:=blkC a_k 0 rfl
  have f_a1:=blkC a_k 1 rfl
  have f_b0:=blkC b_k 0 rfl
  have f_b1:=blkC b_k 1 rfl
  have f_c0:=blkC c_k 0 rfl
  have f_c1:=blkC c_k 1 rfl
  go_wp2_with fail
  clear f_a0 f_a1 f_b0 f_b1 f_c0 f_c1
  refine (h5.out _).mono ?_
  rintro _ y5 ⟨rfl,hw5⟩
  replace a_k:=blk_on hw5 a_k
  replace b_k:=blk_on hw5 b_k
  replace c_k:=blk_on hw5 c_k
  replace r_k:=blk_on hw5 r_k
  replace hb0:=bel_trans hb0 hw5
  have f_a0:=blkC a_k 0 rfl
  have f_a1:=blkC a_k 1 rfl
  have f_b0:=blkC b_k 0 rfl
  have f_b1:=blkC b_k 1 rfl
  have f_c0:=blkC c_k 0 rfl
  have f_c1:=blkC c_k 1 rfl
  go_wp2_with fail
  clear f_a0 f_a1 f_b0 f_b1 f_c0 f_c1
  replace H:=H.keeps hb0
  refine (h4.out _ H).mono ?_
  rintro _ y4 ⟨rfl,hw4⟩
  replace r_k:=blk_on hw4 r_k
  replace hb0:=bel_trans hb0 hw4
  have k0:=blkC r_k 0 rfl
  have k1:=blkC r_k 1 rfl
  have z0:=blkF r_k 0
  have z1:=blkF r_k 1
  go_wp2
  exact bodyPost_ret (v:=.tuple #[.agg #[.int .i64 V,.int .i64 U],.int .i64 0]) (by simp [results,Tryz.results13,go_sem,k0,k1]) rfl ⟨rfl,((hb0.setCell (p:=⟨w.heap.size + 1 + 1 + 1,0,none⟩) (show w.heap.size <= w.heap.size + 1 + 1 + 1 by omega) _).setCell (p:=⟨w.heap.size + 1 + 1 + 1,1,none⟩) (show w.heap.size <= w.heap.size + 1 + 1 + 1 by omega) _)⟩
 cases b3
 ·skip
  obtain ⟨hb0,a_k,b_k,c_k,r_k,hsz0⟩:=blks4 w (.cells #[.int .i64 ax,.int .i64 ay] 23) (.cells #[.int .i64 bx,.int .i64 by'] 23) (.cells #[.int .i64 cx,.int .i64 cy] 23) (.cells #[.int .i64 0,.int .i64 0] 42)
  clear hsz0
  have f_a0:=blkC a_k 0 rfl
  have f_a1:=blkC a_k 1 rfl
  go_enter Tryz.func13,Tryz.ntmps13
  go_wp2_with fail
  clear f_a0 f_a1
  generalize ((((w.alloc (.cells #[.int .i64 ax,.int .i64 ay] 23)).alloc (.cells #[.int .i64 bx,.int .i64 by'] 23)).alloc (.cells #[.int .i64 cx,.int .i64 cy] 23)).alloc (.cells #[.int .i64 0,.int .i64 0] 42))=x0 at hb0 a_k b_k c_k r_k ⊢
  refine (h1.out _).mono ?_
  rintro _ y1 ⟨rfl,hw1⟩
  replace a_k:=blk_on hw1 a_k
  replace b_k:=blk_on hw1 b_k
  replace c_k:=blk_on hw1 c_k
  replace r_k:=blk_on hw1 r_k
  replace hb0:=bel_trans hb0 hw1
  have f_b0:=blkC b_k 0 rfl
  have f_b1:=blkC b_k 1 rfl
  go_wp2_with fail
  clear f_b0 f_b1
  refine (h2.out _).mono ?_
  rintro _ y2 ⟨rfl,hw2⟩
  replace a_k:=blk_on hw2 a_k
  replace b_k:=blk_on hw2 b_k
  replace c_k:=blk_on hw2 c_k
  replace r_k:=blk_on hw2 r_k
  replace hb0:=bel_trans hb0 hw2
  have f_c0:=blkC c_k 0 rfl
  have f_c1:=blkC c_k 1 rfl
  go_wp2_with fail
  clear f_c0 f_c1
  refine (h3.out _).mono ?_
  rintro _ y3 ⟨rfl,hw3⟩
  replace a_k:=blk_on hw3 a_k
  replace b_k:=blk_on hw3 b_k
  replace c_k:=blk_on hw3 c_k
  replace r_k:=blk_on hw3 r_k
  replace hb0:=bel_trans hb0 hw3
  have f_a0:=blkC a_k 0 rfl
  have f_a1:=blkC a_k 1 rfl
  have f_b0:=blkC b_k 0 rfl
  have f_b1:=blkC b_k 1 rfl
  have f_c0:=blkC c_k 0 rfl
  have f_c1:=blkC c_k 1 rfl
  go_wp2_with fail
  clear f_a0 f_a1 f_b0 f_b1 f_c0 f_c1
  refine (h5.out _).mono ?_
  rintro _ y5 ⟨rfl,hw5⟩
  replace a_k:=blk_on hw5 a_k
  replace b_k:=blk_on hw5 b_k
  replace c_k:=blk_on hw5 c_k
  replace r_k:=blk_on hw5 r_k
  replace hb0:=bel_trans hb0 hw5
  have f_a0:=blkC a_k 0 rfl
  have f_a1:=blkC a_k 1 rfl
  have f_b0:=blkC b_k 0 rfl
  have f_b1:=blkC b_k 1 rfl
  have f_c0:=blkC c_k 0 rfl
  have f_c1:=blkC c_k 1 rfl
  go_wp2_with fail
  clear f_a0 f_a1 f_b0 f_b1 f_c0 f_c1
  replace H:=H.keeps hb0
  refine (h4.out _ H).mono ?_
  rintro _ y4 ⟨rfl,hw4⟩
  replace r_k:=blk_on hw4 r_k
  replace hb0:=bel_trans hb0 hw4
  have k0:=blkC r_k 0 rfl
  have k1:=blkC r_k 1 rfl
  have z0:=blkF r_k 0
  have z1:=blkF r_k 1
  go_wp2
  exact bodyPost_ret (v:=.tuple #[.agg #[.int .i64 V,.int .i64 U],.int .i64 0]) (by simp [results,Tryz.results13,go_sem,k0,k1]) rfl ⟨rfl,((hb0.setCell (p:=⟨w.heap.size + 1 + 1 + 1,0,none⟩) (show w.heap.size <= w.heap.size + 1 + 1 + 1 by omega) _).setCell (p:=⟨w.heap.size + 1 + 1 + 1,1,none⟩) (show w.heap.size <= w.heap.size + 1 + 1 + 1 by omega) _)⟩
 ·simp at hb
theorem allT3_eq (ax ay bx by' cx cy:Int):allT3 ax ay bx by' cx cy=((tame ax && tame ay) && (tame bx && tame by') && (tame cx && tame cy)):=rfl
theorem oSign_ok {ax ay bx by' cx cy:Int} (rax:rng ax) (ray:rng ay) (rbx:rng bx) (rby:rng by') (rcx:rng cx) (rcy:rng cy) (pax:pok ax=true) (pay:pok ay=true) (pbx:pok bx=true) (pby:pok by'=true) (pcx:pok cx=true) (pcy:pok cy=true) (w:World) (H:Hold4 w) :
  Calls Tryz.prog 13 #[.agg #[.int .i64 ax,.int .i64 ay],.agg #[.int .i64 bx,.int .i64 by'],.agg #[.int .i64 cx,.int .i64 cy]] w fun r w'=>r=.returned (.tuple #[.agg #[.int .i64 (ord (oDet ax ay bx by' cx cy) 0),.int .i64 (oSt ax ay bx by' cx cy)],.int .i64 0])∧Below w.heap.size w w':=by
 cases hT:allT3 ax ay bx by' cx cy
 ·have CP:∀ W,Calls Tryz.prog 23 #[.agg #[.int .i64 ax,.int .i64 ay],.agg #[.int .i64 bx,.int .i64 by'],.agg #[.int .i64 cx,.int .i64 cy]] W fun r w'=>r=.returned (.bool true)∧Below W.heap.size W w':=fun W=>by
   have:=opoints_any rax ray rbx rby rcx rcy W
   rw [pax,pay,pbx,pby,pcx,pcy] at this
   exact this
  have e:oSt ax ay bx by' cx cy=if sgK (owLo ax ay bx by' cx cy) (owHi ax ay bx by' cx cy) then 5 else 6:=by unfold oSt; rw [hT]; rfl
  rw [e]
  exact oSign_wild (hT ▸ (allT3_eq ax ay bx by' cx cy).symm) (fun W=>o_tame rax ray W) (fun W=>o_tame rbx rby W) (fun W=>o_tame rcx rcy W) CP (fun W h=>oWild_ok rax ray rbx rby rcx rcy pax pay pbx pby pcx pcy W h) w H
 ·obtain ⟨hax,hay,hbx,hby,hcx,hcy⟩:=tame3 rax ray rbx rby rcx rcy hT
  have e:oSt ax ay bx by' cx cy=oStT ax ay bx by' cx cy:=by unfold oSt; rw [hT]; rfl
  rw [e]
  exact oSign_walk (hT ▸ (allT3_eq ax ay bx by' cx cy).symm) (fun W=>o_tame rax ray W) (fun W=>o_tame rbx rby W) (fun W=>o_tame rcx rcy W) (fun W h=>oTame_ok hax hay hbx hby hcx hcy W h) w H
set_option maxRecDepth 100000 in
set_option maxHeartbeats 1000000 in
theorem rof_any (b:Int) (w:World) (hb:rng b) (hp:pok b=true) :
  Calls Tryz.prog 76 #[.int .i64 b] w fun r w'=>∃ v,r=.returned v∧DAns w w' (sg (pneg b) (pmag b) * pw (pexp b)) v:=by
 obtain ⟨i0,i1,i2,i3⟩:=pmag_in hp
 have hF:=fun W=>rfrom_any (pmag b) W i0 (by omega)
 have hN:=fun W ao n cap d (h:Row W ao n cap d) (hd:Dig d n) (hn:n <= 40000)=>rnorm_any (pneg b) ao n cap d (pexp b) W h hd hn (by omega) (by omega)
 have hP:=fun W=>refParts b W hb
 generalize pneg b=ng at *
 generalize pexp b=ex at *
 generalize pmag b=mg at *
 rw [hp] at hP
 go_enter Tryz.func76,Tryz.ntmps76
 go_wp2_with fail
 refine (hP _).mono ?_
 rintro r w1 ⟨rfl,rfl⟩
 go_wp2_with fail
 refine (hF _).mono ?_
 rintro r w2 ⟨v,rfl,hA⟩
 obtain ⟨so,sn,sc,d,rfl,hR,hNr,hv⟩:=hA.num
 have hsn:sn <= 100:=hA.num.len (k:=100) (by have:=P_le (show 3 <= 100 by omega); have:P 3=1237940039285380274899124224:=rfl; omega)
 have hbw:=bel_trans (bel_alloc w _) hA.below
 go_wp2_with fail
 refine (hN _ _ _ _ _ hR hNr.1 (by omega)).mono ?_
 rw [hv]
 rintro r w3 ⟨v,rfl,hD⟩
 obtain ⟨ng',s',m',e',rfl,hyy,hA2⟩:=id hD
 obtain ⟨so',sn',sc',rfl⟩:=hA2.num.shape
 have q0:=((bel_trans hA.below hD.below).block w.heap.size (by rw [size1]; omega)).trans (heap_a1 _ _)
 have x0:=blkC q0 0 rfl
 have x1:=blkC q0 1 rfl
 have x2:=blkC q0 2 rfl
 have z0:=blkF q0 0
 have z1:=blkF q0 1
 have z2:=blkF q0 2
 go_wp2
 refine bodyPost_ret (v:=.agg #[.bool ng',.slice so' sn' sc',.int .i64 e']) (by simp [results,Tryz.results76,go_sem,x0,x1,x2]) rfl ⟨_,rfl,?_⟩
 exact dans_res3 (g:=w.heap.size) hD hbw (Nat.le_refl _) (Nat.lt_of_lt_of_le (by rw [size1]; omega) hA.below.size) _ _ _
set_option maxRecDepth 100000 in
theorem r3exact_any (b:Int) (w:World) (hb:rng b) (hp:pok b=true) :
  Calls Tryz.prog 48 #[.int .i64 b] w fun r w'=>∃ v,r=.returned v∧DAns w w' (patV b) v:=by
 have r_k:=heap_a1 w (.cells #[.bool false,.slice none 0 0,.int .i64 0] 34)
 have hb0:=bel_alloc w (.cells #[.bool false,.slice none 0 0,.int .i64 0] 34)
 have CO:Hid (∀ W,Calls Tryz.prog 76 #[.int .i64 b] W fun r w'=>∃ v,r=.returned v∧DAns W w' (patV b) v):=fun W=>rof_any b W hb hp
 go_enter Tryz.func48,Tryz.ntmps48
 go_wp2_with fail
 generalize w.alloc (.cells #[.bool false,.slice none 0 0,.int .i64 0] 34)=x0 at r_k hb0 ⊢
 have hs0:=(Array.getElem?_eq_some_iff.1 r_k).1
 refine (CO.out _).mono ?_
 rintro _ y1 ⟨v,rfl,h1⟩
 obtain ⟨n_g,n_o,n_n,n_c,n_e,rfl⟩:=dans_shape h1
 have hw:=h1.below
 have r_k:=(hw.block _ (Array.getElem?_eq_some_iff.1 r_k).1).trans r_k
 have k0:=blkC r_k 0 rfl
 have k1:=blkC r_k 1 rfl
 have k2:=blkC r_k 2 rfl
 have z0:=blkF r_k 0
 have z1:=blkF r_k 1
 have z2:=blkF r_k 2
 go_wp2
 refine bodyPost_ret (v:=.agg #[.bool n_g,.slice n_o n_n n_c,.int .i64 n_e]) (by simp [results,Tryz.results48,go_sem,k0,k1,k2]) rfl ⟨_,rfl,?_⟩
 exact dans_res3 (g:=w.heap.size) h1 hb0 (Nat.le_refl _) hs0 _ _ _
theorem dan_opp {B:Nat} {w:World} {y:NumR} (h:DAn B w y.V y.v) (ok:okR y=true):DAn B w (-y.V) y.opp.v:=by
 obtain ⟨m,h1,h2⟩:=DAn.parts h
 obtain ⟨e1,e2⟩:=opp_V ok
 rw [e1] at e2
 obtain ⟨_,rfl,_⟩:=h1.unique (okR_dy ok).1
 exact ⟨_,_,_,_,rfl,e2,h2⟩
theorem DAn.shape {B:Nat} {w:World} {V:Int} {v:Value} (h:DAn B w V v):∃ ng so sn sc e,v=.agg #[.bool ng,.slice so sn sc,.int .i64 e]:=h.three
set_option maxRecDepth 100000 in
theorem r3minus_any {B:Nat} {w:World} {x y:Value} {A C:Int} {K:Nat} (hx:DAn B w A x) (hy:DAn B w C y) (hB:B <= w.heap.size) (bA:Bd K A) (bC:Bd K C) (hK:K <= 28000) :
  Calls Tryz.prog 49 #[x,y] w fun r w'=>∃ v,r=.returned v∧DAn B w' (A - C) v∧Below w.heap.size w w':=by
 have CS:∀ W,Below w.heap.size w W->Calls Tryz.prog 77 #[x,y] W fun r w'=>∃ v,r=.returned v∧DAn B w' (A - C) v∧Below W.heap.size W w':=fun W hW=>by
  have hx':=hx.keeps hW
  have hy':=hy.keeps hW
  obtain ⟨x,rfl,hR,ok,rfl⟩:=hx'.num.open (bA.ok (by omega))
  obtain ⟨y,rfl,hR',ok',rfl⟩:=hy'.num.open (bC.ok (by omega))
  refine (rsub3_any x y W hR hR' ok ok' (K:=K) (by omega) bA bC).mono ?_
  rintro r w' ⟨v,rfl,h⟩
  refine ⟨v,rfl,?_,h.1⟩
  rw [Int.sub_eq_add_neg]
  rcases h.2 with h1 | ⟨h1,rfl⟩ | ⟨h1,rfl⟩
  ·exact h1.dan.lower (Nat.le_trans hB hW.size)
  ·rw [h1,Int.zero_add]; exact (dan_opp hy' ok').keeps h.1
  ·rw [h1,Int.add_zero]; exact hx'.keeps h.1
 obtain ⟨p_g,p_o,p_n,p_c,p_e,rfl⟩:=hx.shape
 obtain ⟨q_g,q_o,q_n,q_c,q_e,rfl⟩:=hy.shape
 clear hx hy bA bC
 have hb0:=bel_a3 w (.cells #[.bool p_g,.slice p_o p_n p_c,.int .i64 p_e] 34) (.cells #[.bool q_g,.slice q_o q_n q_c,.int .i64 q_e] 34) (.cells #[.bool false,.slice none 0 0,.int .i64 0] 34)
 have r_k:=h3_2 w (.cells #[.bool p_g,.slice p_o p_n p_c,.int .i64 p_e] 34) (.cells #[.bool q_g,.slice q_o q_n q_c,.int .i64 q_e] 34) (.cells #[.bool false,.slice none 0 0,.int .i64 0] 34)
 go_enter Tryz.func49,Tryz.ntmps49
 go_wp2_with fail
 generalize ((w.alloc (.cells #[.bool p_g,.slice p_o p_n p_c,.int .i64 p_e] 34)).alloc (.cells #[.bool q_g,.slice q_o q_n q_c,.int .i64 q_e] 34)).alloc (.cells #[.bool false,.slice none 0 0,.int .i64 0] 34)=x0 at r_k hb0 ⊢
 refine (CS _ hb0).mono ?_
 rintro _ y1 ⟨v,rfl,h1,hw⟩
 obtain ⟨n_g,n_o,n_n,n_c,n_e,rfl⟩:=h1.shape
 have r_k:=(hw.block _ (Array.getElem?_eq_some_iff.1 r_k).1).trans r_k
 have k0:=blkC r_k 0 rfl
 have k1:=blkC r_k 1 rfl
 have k2:=blkC r_k 2 rfl
 have z0:=blkF r_k 0
 have z1:=blkF r_k 1
 have z2:=blkF r_k 2
 go_wp2
 refine bodyPost_ret (v:=.agg #[.bool n_g,.slice n_o n_n n_c,.int .i64 n_e]) (by simp [results,Tryz.results49,go_sem,k0,k1,k2]) rfl ⟨_,rfl,dan_res3 h1 r_k _ _ _,bel_set3 (bel_trans hb0 hw) (by omega) _ _ _⟩
set_option maxRecDepth 100000 in
theorem r3times_any {w:World} {x y:Value} {A C:Int} {K:Nat} (hx:DNum w x A) (hy:DNum w y C) (bA:Bd K A) (bC:Bd K C) (hK:K <= 14000) :
  Calls Tryz.prog 50 #[x,y] w fun r w'=>∃ v V,r=.returned v∧DAns w w' V v∧V * 2 ^ 4194304=A * C∧Bd (2 * K) V:=by
 have CS:∀ W,Below w.heap.size w W->Calls Tryz.prog 78 #[x,y] W fun r w'=>∃ v V,r=.returned v∧DAns W w' V v∧V * 2 ^ 4194304=A * C∧Bd (2 * K) V:=fun W hW=>by
  have hx':=hx.keeps hW
  have hy':=hy.keeps hW
  obtain ⟨x,rfl,hR,ok,rfl⟩:=hx'.open (bA.ok (by omega))
  obtain ⟨y,rfl,hR',ok',rfl⟩:=hy'.open (bC.ok (by omega))
  refine (rmul3_any x y W hR hR' (okR_sane ok) (okR_sane ok')).mono ?_
  rintro r w' ⟨v,rfl,h⟩
  have hC:=mulV_eq (x:=x) (y:=y) (by have:=(okR_sane ok).2.2.1; omega) (by have:=(okR_sane ok').2.2.1; omega)
  exact ⟨v,_,rfl,h,hC,bA.mul bC hC (by omega)⟩
 obtain ⟨p,rfl,_,_,_⟩:=hx.open (bA.ok (by omega))
 obtain ⟨q,rfl,_,_,_⟩:=hy.open (bC.ok (by omega))
 obtain ⟨p_g,p_o,p_n,p_c,p_d,p_e⟩:=p
 obtain ⟨q_g,q_o,q_n,q_c,q_d,q_e⟩:=q
 unfold NumR.v at *
 simp only at *
 clear hx hy bA bC
 have hb0:=bel_a3 w (.cells #[.bool p_g,.slice p_o p_n p_c,.int .i64 p_e] 34) (.cells #[.bool q_g,.slice q_o q_n q_c,.int .i64 q_e] 34) (.cells #[.bool false,.slice none 0 0,.int .i64 0] 34)
 have r_k:=h3_2 w (.cells #[.bool p_g,.slice p_o p_n p_c,.int .i64 p_e] 34) (.cells #[.bool q_g,.slice q_o q_n q_c,.int .i64 q_e] 34) (.cells #[.bool false,.slice none 0 0,.int .i64 0] 34)
 go_enter Tryz.func50,Tryz.ntmps50
 go_wp2_with fail
 generalize ((w.alloc (.cells #[.bool p_g,.slice p_o p_n p_c,.int .i64 p_e] 34)).alloc (.cells #[.bool q_g,.slice q_o q_n q_c,.int .i64 q_e] 34)).alloc (.cells #[.bool false,.slice none 0 0,.int .i64 0] 34)=x0 at r_k hb0 ⊢
 have hs0:=(Array.getElem?_eq_some_iff.1 r_k).1
 refine (CS _ hb0).mono ?_
 rintro _ y1 ⟨v,V,rfl,h1,hE,hBd⟩
 obtain ⟨n_g,n_o,n_n,n_c,n_e,rfl⟩:=dans_shape h1
 have hw:=h1.below
 have r_k:=(hw.block _ (Array.getElem?_eq_some_iff.1 r_k).1).trans r_k
 have k0:=blkC r_k 0 rfl
 have k1:=blkC r_k 1 rfl
 have k2:=blkC r_k 2 rfl
 have z0:=blkF r_k 0
 have z1:=blkF r_k 1
 have z2:=blkF r_k 2
 go_wp2
 refine bodyPost_ret (v:=.agg #[.bool n_g,.slice n_o n_n n_c,.int .i64 n_e]) (by simp [results,Tryz.results50,go_sem,k0,k1,k2]) rfl ⟨_,V,rfl,?_,hE,hBd⟩
 exact dans_res3 (g:=w.heap.size + 2) h1 hb0 (by omega) hs0 _ _ _
end Go.Proofs.YtinccocmgkjalaaGreatDoor
