/-
  Parts of the proof, one behind another.
-/
import Derived.Test.YtafnigjehkpggaaGreatDoorPart21
import Derived.Test.YtafnigjehkpggaaGreatDoorPart16
import Derived.Test.YtafnigjehkpggaaGreatDoorPart29
import Derived.Test.YtafnigjehkpggaaGreatDoorPart30
import Derived.Test.YtafnigjehkpggaaGreatDoorPart7
import Derived.Test.YtafnigjehkpggaaGreatDoorPart11
namespace Go.Proofs.YtafnigjehkpggaaGreatDoor
open Go Go.RowKit Go.Proofs.YtafnigjehkpggaaGreatDoor.M
set_option linter.unusedSimpArgs false
set_option linter.unusedVariables false
set_option maxRecDepth 100000 in
theorem opoints_any {ax ay bx by' cx cy:Int} (rax:rng ax) (ray:rng ay) (rbx:rng bx) (rby:rng by') (rcx:rng cx) (rcy:rng cy) (w:World) :
    Calls Tryz.prog 19 #[.agg #[.int .i64 ax,.int .i64 ay],.agg #[.int .i64 bx,.int .i64 by'],.agg #[.int .i64 cx,.int .i64 cy]] w fun r w'=>r=.returned (.bool ((pok ax && pok ay) && (pok bx && pok by') && (pok cx && pok cy)))∧Below w.heap.size w w':=by
  have CA:Hid (∀ W,Calls Tryz.prog 34 #[.agg #[.int .i64 ax,.int .i64 ay]] W fun e w'=>e=.returned (.int .i64 (errF (pok ax && pok ay)))∧Below W.heap.size W w'):=fun W=>pointCheck rax ray W
  have CB:Hid (∀ W,Calls Tryz.prog 34 #[.agg #[.int .i64 bx,.int .i64 by']] W fun e w'=>e=.returned (.int .i64 (errF (pok bx && pok by')))∧Below W.heap.size W w'):=fun W=>pointCheck rbx rby W
  have CC:Hid (∀ W,Calls Tryz.prog 34 #[.agg #[.int .i64 cx,.int .i64 cy]] W fun e w'=>e=.returned (.int .i64 (errF (pok cx && pok cy)))∧Below W.heap.size W w'):=fun W=>pointCheck rcx rcy W
  have hb0:=bel_a3 w (.cells #[.int .i64 ax,.int .i64 ay] 23) (.cells #[.int .i64 bx,.int .i64 by'] 23) (.cells #[.int .i64 cx,.int .i64 cy] 23)
  have a_k:=h3_0 w (.cells #[.int .i64 ax,.int .i64 ay] 23) (.cells #[.int .i64 bx,.int .i64 by'] 23) (.cells #[.int .i64 cx,.int .i64 cy] 23)
  have b_k:=h3_1 w (.cells #[.int .i64 ax,.int .i64 ay] 23) (.cells #[.int .i64 bx,.int .i64 by'] 23) (.cells #[.int .i64 cx,.int .i64 cy] 23)
  have c_k:=h3_2 w (.cells #[.int .i64 ax,.int .i64 ay] 23) (.cells #[.int .i64 bx,.int .i64 by'] 23) (.cells #[.int .i64 cx,.int .i64 cy] 23)
  clear rax ray rbx rby rcx rcy
  have e0:errF true=0:=rfl
  have e1:errF false=10:=rfl
  generalize (pok ax && pok ay)=P at *
  generalize (pok bx && pok by')=Q at *
  generalize (pok cx && pok cy)=R at *
  cases P
  . rw [e1] at CA
    go_enter Tryz.func19,Tryz.ntmps19
    go_wp2_with fail
    generalize ((w.alloc (.cells #[.int .i64 ax,.int .i64 ay] 23)).alloc (.cells #[.int .i64 bx,.int .i64 by'] 23)).alloc (.cells #[.int .i64 cx,.int .i64 cy] 23)=x0 at hb0 a_k b_k c_k ⊢
    refine (CA.out _).mono ?_
    rintro _ y0 ⟨rfl,hw0⟩
    have b_k:=(hw0.block _ (Array.getElem?_eq_some_iff.1 b_k).1).trans b_k
    have c_k:=(hw0.block _ (Array.getElem?_eq_some_iff.1 c_k).1).trans c_k
    have hb1:=bel_trans hb0 hw0
    go_wp2
    all_goals go_ret
    all_goals exact ⟨rfl,by first | exact hb1 | exact hb1.drew⟩
  rw [e0] at CA
  cases Q
  . rw [e1] at CB
    go_enter Tryz.func19,Tryz.ntmps19
    go_wp2_with fail
    generalize ((w.alloc (.cells #[.int .i64 ax,.int .i64 ay] 23)).alloc (.cells #[.int .i64 bx,.int .i64 by'] 23)).alloc (.cells #[.int .i64 cx,.int .i64 cy] 23)=x0 at hb0 a_k b_k c_k ⊢
    refine (CA.out _).mono ?_
    rintro _ y0 ⟨rfl,hw0⟩
    have b_k:=(hw0.block _ (Array.getElem?_eq_some_iff.1 b_k).1).trans b_k
    have c_k:=(hw0.block _ (Array.getElem?_eq_some_iff.1 c_k).1).trans c_k
    have hb1:=bel_trans hb0 hw0
    have f10:=blkC b_k 0 rfl
    have f11:=blkC b_k 1 rfl
    go_wp2_with fail
    refine (CB.out _).mono ?_
    rintro _ y1 ⟨rfl,hw1⟩
    have c_k:=(hw1.block _ (Array.getElem?_eq_some_iff.1 c_k).1).trans c_k
    have hb2:=bel_trans hb1 hw1
    go_wp2
    all_goals go_ret
    all_goals exact ⟨rfl,by first | exact hb2 | exact hb2.drew⟩
  rw [e0] at CB
  cases R
  . rw [e1] at CC
    go_enter Tryz.func19,Tryz.ntmps19
    go_wp2_with fail
    generalize ((w.alloc (.cells #[.int .i64 ax,.int .i64 ay] 23)).alloc (.cells #[.int .i64 bx,.int .i64 by'] 23)).alloc (.cells #[.int .i64 cx,.int .i64 cy] 23)=x0 at hb0 a_k b_k c_k ⊢
    refine (CA.out _).mono ?_
    rintro _ y0 ⟨rfl,hw0⟩
    have b_k:=(hw0.block _ (Array.getElem?_eq_some_iff.1 b_k).1).trans b_k
    have c_k:=(hw0.block _ (Array.getElem?_eq_some_iff.1 c_k).1).trans c_k
    have hb1:=bel_trans hb0 hw0
    have f10:=blkC b_k 0 rfl
    have f11:=blkC b_k 1 rfl
    go_wp2_with fail
    refine (CB.out _).mono ?_
    rintro _ y1 ⟨rfl,hw1⟩
    have c_k:=(hw1.block _ (Array.getElem?_eq_some_iff.1 c_k).1).trans c_k
    have hb2:=bel_trans hb1 hw1
    have f20:=blkC c_k 0 rfl
    have f21:=blkC c_k 1 rfl
    go_wp2_with fail
    refine (CC.out _).mono ?_
    rintro _ y2 ⟨rfl,hw2⟩
    have hb3:=bel_trans hb2 hw2
    go_wp2
    all_goals go_ret
    all_goals exact ⟨rfl,by first | exact hb3 | exact hb3.drew⟩
  . rw [e0] at CC
    go_enter Tryz.func19,Tryz.ntmps19
    go_wp2_with fail
    generalize ((w.alloc (.cells #[.int .i64 ax,.int .i64 ay] 23)).alloc (.cells #[.int .i64 bx,.int .i64 by'] 23)).alloc (.cells #[.int .i64 cx,.int .i64 cy] 23)=x0 at hb0 a_k b_k c_k ⊢
    refine (CA.out _).mono ?_
    rintro _ y0 ⟨rfl,hw0⟩
    have b_k:=(hw0.block _ (Array.getElem?_eq_some_iff.1 b_k).1).trans b_k
    have c_k:=(hw0.block _ (Array.getElem?_eq_some_iff.1 c_k).1).trans c_k
    have hb1:=bel_trans hb0 hw0
    have f10:=blkC b_k 0 rfl
    have f11:=blkC b_k 1 rfl
    go_wp2_with fail
    refine (CB.out _).mono ?_
    rintro _ y1 ⟨rfl,hw1⟩
    have c_k:=(hw1.block _ (Array.getElem?_eq_some_iff.1 c_k).1).trans c_k
    have hb2:=bel_trans hb1 hw1
    have f20:=blkC c_k 0 rfl
    have f21:=blkC c_k 1 rfl
    go_wp2_with fail
    refine (CC.out _).mono ?_
    rintro _ y2 ⟨rfl,hw2⟩
    have hb3:=bel_trans hb2 hw2
    go_wp2
    all_goals go_ret
    all_goals exact ⟨rfl,by first | exact hb3 | exact hb3.drew⟩
set_option maxRecDepth 100000 in
theorem ogood_any {ax ay bx by' cx cy:Int} (rax:rng ax) (ray:rng ay) (rbx:rng bx) (rby:rng by') (rcx:rng cx) (rcy:rng cy) (w:World) :
    Calls Tryz.prog 12 #[.agg #[.int .i64 ax,.int .i64 ay],.agg #[.int .i64 bx,.int .i64 by'],.agg #[.int .i64 cx,.int .i64 cy]] w fun r w'=>r=.returned (.bool ((pok ax && pok ay) && (pok bx && pok by') && (pok cx && pok cy)))∧Below w.heap.size w w':=by
  have CA:Hid (∀ W,Calls Tryz.prog 22 #[.agg #[.int .i64 ax,.int .i64 ay]] W fun e w'=>e=.returned (.bool (pok ax && pok ay))∧Below W.heap.size W w'):=fun W=>q_refFinite rax ray W
  have CB:Hid (∀ W,Calls Tryz.prog 22 #[.agg #[.int .i64 bx,.int .i64 by']] W fun e w'=>e=.returned (.bool (pok bx && pok by'))∧Below W.heap.size W w'):=fun W=>q_refFinite rbx rby W
  have CC:Hid (∀ W,Calls Tryz.prog 22 #[.agg #[.int .i64 cx,.int .i64 cy]] W fun e w'=>e=.returned (.bool (pok cx && pok cy))∧Below W.heap.size W w'):=fun W=>q_refFinite rcx rcy W
  have hb0:=bel_a3 w (.cells #[.int .i64 ax,.int .i64 ay] 23) (.cells #[.int .i64 bx,.int .i64 by'] 23) (.cells #[.int .i64 cx,.int .i64 cy] 23)
  have a_k:=h3_0 w (.cells #[.int .i64 ax,.int .i64 ay] 23) (.cells #[.int .i64 bx,.int .i64 by'] 23) (.cells #[.int .i64 cx,.int .i64 cy] 23)
  have b_k:=h3_1 w (.cells #[.int .i64 ax,.int .i64 ay] 23) (.cells #[.int .i64 bx,.int .i64 by'] 23) (.cells #[.int .i64 cx,.int .i64 cy] 23)
  have c_k:=h3_2 w (.cells #[.int .i64 ax,.int .i64 ay] 23) (.cells #[.int .i64 bx,.int .i64 by'] 23) (.cells #[.int .i64 cx,.int .i64 cy] 23)
  clear rax ray rbx rby rcx rcy
  have e0:errF true=0:=rfl
  have e1:errF false=10:=rfl
  generalize (pok ax && pok ay)=P at *
  generalize (pok bx && pok by')=Q at *
  generalize (pok cx && pok cy)=R at *
  cases P <;> cases Q <;> cases R
  all_goals
    go_enter Tryz.func12,Tryz.ntmps12
    go_wp2_with fail
    generalize ((w.alloc (.cells #[.int .i64 ax,.int .i64 ay] 23)).alloc (.cells #[.int .i64 bx,.int .i64 by'] 23)).alloc (.cells #[.int .i64 cx,.int .i64 cy] 23)=x0 at hb0 a_k b_k c_k ⊢
    refine (CA.out _).mono ?_
    rintro _ y0 ⟨rfl,hw0⟩
    have b_k:=(hw0.block _ (Array.getElem?_eq_some_iff.1 b_k).1).trans b_k
    have c_k:=(hw0.block _ (Array.getElem?_eq_some_iff.1 c_k).1).trans c_k
    have hb1:=bel_trans hb0 hw0
    have f10:=blkC b_k 0 rfl
    have f11:=blkC b_k 1 rfl
    go_wp2_with fail
    refine (CB.out _).mono ?_
    rintro _ y1 ⟨rfl,hw1⟩
    have c_k:=(hw1.block _ (Array.getElem?_eq_some_iff.1 c_k).1).trans c_k
    have hb2:=bel_trans hb1 hw1
    have f20:=blkC c_k 0 rfl
    have f21:=blkC c_k 1 rfl
    go_wp2_with fail
    refine (CC.out _).mono ?_
    rintro _ y2 ⟨rfl,hw2⟩
    have hb3:=bel_trans hb2 hw2
    go_wp2
    all_goals go_ret
    all_goals exact ⟨rfl,by first | exact hb3 | exact hb3.drew⟩
def oSt (ax ay bx by' cx cy:Int):Int:=if allT3 ax ay bx by' cx cy then oStT ax ay bx by' cx cy else if sgK (owLo ax ay bx by' cx cy) (owHi ax ay bx by' cx cy) then 5 else 6
set_option maxRecDepth 100000 in
set_option maxHeartbeats 4000000 in
theorem oSign_walk {ax ay bx by' cx cy V U:Int} {b1 b2 b3:Bool} (hb:(b1 && b2 && b3)=true) (T1:∀ W,Calls Tryz.prog 17 #[.agg #[.int .i64 ax,.int .i64 ay]] W fun e w'=>e=.returned (.bool b1)∧Below W.heap.size W w') (T2:∀ W,Calls Tryz.prog 17 #[.agg #[.int .i64 bx,.int .i64 by']] W fun e w'=>e=.returned (.bool b2)∧Below W.heap.size W w') (T3:∀ W,Calls Tryz.prog 17 #[.agg #[.int .i64 cx,.int .i64 cy]] W fun e w'=>e=.returned (.bool b3)∧Below W.heap.size W w')
    (CV:∀ W,Hold4 W->Calls Tryz.prog 18 #[.agg #[.int .i64 ax,.int .i64 ay],.agg #[.int .i64 bx,.int .i64 by'],.agg #[.int .i64 cx,.int .i64 cy]] W fun r w'=>r=.returned (.agg #[.int .i64 V,.int .i64 U])∧Below W.heap.size W w') (w:World) (H:Hold4 w) :
    Calls Tryz.prog 8 #[.agg #[.int .i64 ax,.int .i64 ay],.agg #[.int .i64 bx,.int .i64 by'],.agg #[.int .i64 cx,.int .i64 cy]] w fun r w'=>r=.returned (.tuple #[.agg #[.int .i64 V,.int .i64 U],.int .i64 0])∧Below w.heap.size w w':=by
  obtain ⟨⟨rfl,rfl⟩,rfl⟩:(b1=true∧b2=true)∧b3=true:=by simpa using hb
  clear hb
  have h1:Hid _:=hideIt T1
  have h2:Hid _:=hideIt T2
  have h3:Hid _:=hideIt T3
  have h4:Hid _:=hideIt CV
  clear T1 T2 T3 CV
  obtain ⟨hb0,a_k,b_k,c_k,r_k,hsz0⟩:=blks4 w (.cells #[.int .i64 ax,.int .i64 ay] 23) (.cells #[.int .i64 bx,.int .i64 by'] 23) (.cells #[.int .i64 cx,.int .i64 cy] 23) (.cells #[.int .i64 0,.int .i64 0] 26)
  clear hsz0
  have f_a0:=blkC a_k 0 rfl
  have f_a1:=blkC a_k 1 rfl
  go_enter Tryz.func8,Tryz.ntmps8
  go_wp2_with fail
  clear f_a0 f_a1
  generalize ((((w.alloc (.cells #[.int .i64 ax,.int .i64 ay] 23)).alloc (.cells #[.int .i64 bx,.int .i64 by'] 23)).alloc (.cells #[.int .i64 cx,.int .i64 cy] 23)).alloc (.cells #[.int .i64 0,.int .i64 0] 26))=x0 at hb0 a_k b_k c_k r_k ⊢
  refine (h1.out _).mono ?_
  rintro _ y1 ⟨rfl,hw1⟩
  replace a_k:=blk_on hw1 a_k
  replace b_k:=blk_on hw1 b_k
  replace c_k:=blk_on hw1 c_k
  replace r_k:=blk_on hw1 r_k
  replace hb0:=bel_trans hb0 hw1
  have f_b0:=blkC b_k 0 rfl
  have f_b1:=blkC b_k 1 rfl
  go_wp2_with fail
  clear f_b0 f_b1
  refine (h2.out _).mono ?_
  rintro _ y2 ⟨rfl,hw2⟩
  replace a_k:=blk_on hw2 a_k
  replace b_k:=blk_on hw2 b_k
  replace c_k:=blk_on hw2 c_k
  replace r_k:=blk_on hw2 r_k
  replace hb0:=bel_trans hb0 hw2
  have f_c0:=blkC c_k 0 rfl
  have f_c1:=blkC c_k 1 rfl
  go_wp2_with fail
  clear f_c0 f_c1
  refine (h3.out _).mono ?_
  rintro _ y3 ⟨rfl,hw3⟩
  replace a_k:=blk_on hw3 a_k
  replace b_k:=blk_on hw3 b_k
  replace c_k:=blk_on hw3 c_k
  replace r_k:=blk_on hw3 r_k
  replace hb0:=bel_trans hb0 hw3
  have f_a0:=blkC a_k 0 rfl
  have f_a1:=blkC a_k 1 rfl
  have f_b0:=blkC b_k 0 rfl
  have f_b1:=blkC b_k 1 rfl
  have f_c0:=blkC c_k 0 rfl
  have f_c1:=blkC c_k 1 rfl
  go_wp2_with fail
  clear f_a0 f_a1 f_b0 f_b1 f_c0 f_c1
  replace H:=H.keeps hb0
  refine (h4.out _ H).mono ?_
  rintro _ y4 ⟨rfl,hw4⟩
  replace r_k:=blk_on hw4 r_k
  replace hb0:=bel_trans hb0 hw4
  have k0:=blkC r_k 0 rfl
  have k1:=blkC r_k 1 rfl
  have z0:=blkF r_k 0
  have z1:=blkF r_k 1
  go_wp2
  exact bodyPost_ret (v:=.tuple #[.agg #[.int .i64 V,.int .i64 U],.int .i64 0]) (by simp [results,Tryz.results8,go_sem,k0,k1]) rfl ⟨rfl,((hb0.setCell (p:=⟨w.heap.size + 1 + 1 + 1,0,none⟩) (show w.heap.size <= w.heap.size + 1 + 1 + 1 by omega) _).setCell (p:=⟨w.heap.size + 1 + 1 + 1,1,none⟩) (show w.heap.size <= w.heap.size + 1 + 1 + 1 by omega) _)⟩
set_option maxRecDepth 100000 in
set_option maxHeartbeats 4000000 in
theorem oSign_wild {ax ay bx by' cx cy V U:Int} {b1 b2 b3:Bool} (hb:(b1 && b2 && b3)=false) (T1:∀ W,Calls Tryz.prog 17 #[.agg #[.int .i64 ax,.int .i64 ay]] W fun e w'=>e=.returned (.bool b1)∧Below W.heap.size W w') (T2:∀ W,Calls Tryz.prog 17 #[.agg #[.int .i64 bx,.int .i64 by']] W fun e w'=>e=.returned (.bool b2)∧Below W.heap.size W w') (T3:∀ W,Calls Tryz.prog 17 #[.agg #[.int .i64 cx,.int .i64 cy]] W fun e w'=>e=.returned (.bool b3)∧Below W.heap.size W w')
    (CP:∀ W,Calls Tryz.prog 19 #[.agg #[.int .i64 ax,.int .i64 ay],.agg #[.int .i64 bx,.int .i64 by'],.agg #[.int .i64 cx,.int .i64 cy]] W fun r w'=>r=.returned (.bool true)∧Below W.heap.size W w')
    (CV:∀ W,Hold4 W->Calls Tryz.prog 20 #[.agg #[.int .i64 ax,.int .i64 ay],.agg #[.int .i64 bx,.int .i64 by'],.agg #[.int .i64 cx,.int .i64 cy]] W fun r w'=>r=.returned (.agg #[.int .i64 V,.int .i64 U])∧Below W.heap.size W w') (w:World) (H:Hold4 w) :
    Calls Tryz.prog 8 #[.agg #[.int .i64 ax,.int .i64 ay],.agg #[.int .i64 bx,.int .i64 by'],.agg #[.int .i64 cx,.int .i64 cy]] w fun r w'=>r=.returned (.tuple #[.agg #[.int .i64 V,.int .i64 U],.int .i64 0])∧Below w.heap.size w w':=by
  have h1:Hid _:=hideIt T1
  have h2:Hid _:=hideIt T2
  have h3:Hid _:=hideIt T3
  have h5:Hid _:=hideIt CP
  have h4:Hid _:=hideIt CV
  clear T1 T2 T3 CP CV
  cases b1
  . clear h2 h3
    obtain ⟨hb0,a_k,b_k,c_k,r_k,hsz0⟩:=blks4 w (.cells #[.int .i64 ax,.int .i64 ay] 23) (.cells #[.int .i64 bx,.int .i64 by'] 23) (.cells #[.int .i64 cx,.int .i64 cy] 23) (.cells #[.int .i64 0,.int .i64 0] 26)
    clear hsz0
    have f_a0:=blkC a_k 0 rfl
    have f_a1:=blkC a_k 1 rfl
    go_enter Tryz.func8,Tryz.ntmps8
    go_wp2_with fail
    clear f_a0 f_a1
    generalize ((((w.alloc (.cells #[.int .i64 ax,.int .i64 ay] 23)).alloc (.cells #[.int .i64 bx,.int .i64 by'] 23)).alloc (.cells #[.int .i64 cx,.int .i64 cy] 23)).alloc (.cells #[.int .i64 0,.int .i64 0] 26))=x0 at hb0 a_k b_k c_k r_k ⊢
    refine (h1.out _).mono ?_
    rintro _ y1 ⟨rfl,hw1⟩
    replace a_k:=blk_on hw1 a_k
    replace b_k:=blk_on hw1 b_k
    replace c_k:=blk_on hw1 c_k
    replace r_k:=blk_on hw1 r_k
    replace hb0:=bel_trans hb0 hw1
    have f_a0:=blkC a_k 0 rfl
    have f_a1:=blkC a_k 1 rfl
    have f_b0:=blkC b_k 0 rfl
    have f_b1:=blkC b_k 1 rfl
    have f_c0:=blkC c_k 0 rfl
    have f_c1:=blkC c_k 1 rfl
    go_wp2_with fail
    clear f_a0 f_a1 f_b0 f_b1 f_c0 f_c1
    refine (h5.out _).mono ?_
    rintro _ y5 ⟨rfl,hw5⟩
    replace a_k:=blk_on hw5 a_k
    replace b_k:=blk_on hw5 b_k
    replace c_k:=blk_on hw5 c_k
    replace r_k:=blk_on hw5 r_k
    replace hb0:=bel_trans hb0 hw5
    have f_a0:=blkC a_k 0 rfl
    have f_a1:=blkC a_k 1 rfl
    have f_b0:=blkC b_k 0 rfl
    have f_b1:=blkC b_k 1 rfl
    have f_c0:=blkC c_k 0 rfl
    have f_c1:=blkC c_k 1 rfl
    go_wp2_with fail
    clear f_a0 f_a1 f_b0 f_b1 f_c0 f_c1
    replace H:=H.keeps hb0
    refine (h4.out _ H).mono ?_
    rintro _ y4 ⟨rfl,hw4⟩
    replace r_k:=blk_on hw4 r_k
    replace hb0:=bel_trans hb0 hw4
    have k0:=blkC r_k 0 rfl
    have k1:=blkC r_k 1 rfl
    have z0:=blkF r_k 0
    have z1:=blkF r_k 1
    go_wp2
    exact bodyPost_ret (v:=.tuple #[.agg #[.int .i64 V,.int .i64 U],.int .i64 0]) (by simp [results,Tryz.results8,go_sem,k0,k1]) rfl ⟨rfl,((hb0.setCell (p:=⟨w.heap.size + 1 + 1 + 1,0,none⟩) (show w.heap.size <= w.heap.size + 1 + 1 + 1 by omega) _).setCell (p:=⟨w.heap.size + 1 + 1 + 1,1,none⟩) (show w.heap.size <= w.heap.size + 1 + 1 + 1 by omega) _)⟩
  cases b2
  . clear h3
    obtain ⟨hb0,a_k,b_k,c_k,r_k,hsz0⟩:=blks4 w (.cells #[.int .i64 ax,.int .i64 ay] 23) (.cells #[.int .i64 bx,.int .i64 by'] 23) (.cells #[.int .i64 cx,.int .i64 cy] 23) (.cells #[.int .i64 0,.int .i64 0] 26)
    clear hsz0
    have f_a0:=blkC a_k 0 rfl
    have f_a1:=blkC a_k 1 rfl
    go_enter Tryz.func8,Tryz.ntmps8
    go_wp2_with fail
    clear f_a0 f_a1
    generalize ((((w.alloc (.cells #[.int .i64 ax,.int .i64 ay] 23)).alloc (.cells #[.int .i64 bx,.int .i64 by'] 23)).alloc (.cells #[.int .i64 cx,.int .i64 cy] 23)).alloc (.cells #[.int .i64 0,.int .i64 0] 26))=x0 at hb0 a_k b_k c_k r_k ⊢
    refine (h1.out _).mono ?_
    rintro _ y1 ⟨rfl,hw1⟩
    replace a_k:=blk_on hw1 a_k
    replace b_k:=blk_on hw1 b_k
    replace c_k:=blk_on hw1 c_k
    replace r_k:=blk_on hw1 r_k
    replace hb0:=bel_trans hb0 hw1
    have f_b0:=blkC b_k 0 rfl
    have f_b1:=blkC b_k 1 rfl
    go_wp2_with fail
    clear f_b0 f_b1
    refine (h2.out _).mono ?_
    rintro _ y2 ⟨rfl,hw2⟩
    replace a_k:=blk_on hw2 a_k
    replace b_k:=blk_on hw2 b_k
    replace c_k:=blk_on hw2 c_k
    replace r_k:=blk_on hw2 r_k
    replace hb0:=bel_trans hb0 hw2
    have f_a0:=blkC a_k 0 rfl
    have f_a1:=blkC a_k 1 rfl
    have f_b0:=blkC b_k 0 rfl
    have f_b1:=blkC b_k 1 rfl
    have f_c0:=blkC c_k 0 rfl
    have f_c1:=blkC c_k 1 rfl
    go_wp2_with fail
    clear f_a0 f_a1 f_b0 f_b1 f_c0 f_c1
    refine (h5.out _).mono ?_
    rintro _ y5 ⟨rfl,hw5⟩
    replace a_k:=blk_on hw5 a_k
    replace b_k:=blk_on hw5 b_k
    replace c_k:=blk_on hw5 c_k
    replace r_k:=blk_on hw5 r_k
    replace hb0:=bel_trans hb0 hw5
    have f_a0:=blkC a_k 0 rfl
    have f_a1:=blkC a_k 1 rfl
    have f_b0:=blkC b_k 0 rfl
    have f_b1:=blkC b_k 1 rfl
    have f_c0:=blkC c_k 0 rfl
    have f_c1:=blkC c_k 1 rfl
    go_wp2_with fail
    clear f_a0 f_a1 f_b0 f_b1 f_c0 f_c1
    replace H:=H.keeps hb0
    refine (h4.out _ H).mono ?_
    rintro _ y4 ⟨rfl,hw4⟩
    replace r_k:=blk_on hw4 r_k
    replace hb0:=bel_trans hb0 hw4
    have k0:=blkC r_k 0 rfl
    have k1:=blkC r_k 1 rfl
    have z0:=blkF r_k 0
    have z1:=blkF r_k 1
    go_wp2
    exact bodyPost_ret (v:=.tuple #[.agg #[.int .i64 V,.int .i64 U],.int .i64 0]) (by simp [results,Tryz.results8,go_sem,k0,k1]) rfl ⟨rfl,((hb0.setCell (p:=⟨w.heap.size + 1 + 1 + 1,0,none⟩) (show w.heap.size <= w.heap.size + 1 + 1 + 1 by omega) _).setCell (p:=⟨w.heap.size + 1 + 1 + 1,1,none⟩) (show w.heap.size <= w.heap.size + 1 + 1 + 1 by omega) _)⟩
  cases b3
  . skip
    obtain ⟨hb0,a_k,b_k,c_k,r_k,hsz0⟩:=blks4 w (.cells #[.int .i64 ax,.int .i64 ay] 23) (.cells #[.int .i64 bx,.int .i64 by'] 23) (.cells #[.int .i64 cx,.int .i64 cy] 23) (.cells #[.int .i64 0,.int .i64 0] 26)
    clear hsz0
    have f_a0:=blkC a_k 0 rfl
    have f_a1:=blkC a_k 1 rfl
    go_enter Tryz.func8,Tryz.ntmps8
    go_wp2_with fail
    clear f_a0 f_a1
    generalize ((((w.alloc (.cells #[.int .i64 ax,.int .i64 ay] 23)).alloc (.cells #[.int .i64 bx,.int .i64 by'] 23)).alloc (.cells #[.int .i64 cx,.int .i64 cy] 23)).alloc (.cells #[.int .i64 0,.int .i64 0] 26))=x0 at hb0 a_k b_k c_k r_k ⊢
    refine (h1.out _).mono ?_
    rintro _ y1 ⟨rfl,hw1⟩
    replace a_k:=blk_on hw1 a_k
    replace b_k:=blk_on hw1 b_k
    replace c_k:=blk_on hw1 c_k
    replace r_k:=blk_on hw1 r_k
    replace hb0:=bel_trans hb0 hw1
    have f_b0:=blkC b_k 0 rfl
    have f_b1:=blkC b_k 1 rfl
    go_wp2_with fail
    clear f_b0 f_b1
    refine (h2.out _).mono ?_
    rintro _ y2 ⟨rfl,hw2⟩
    replace a_k:=blk_on hw2 a_k
    replace b_k:=blk_on hw2 b_k
    replace c_k:=blk_on hw2 c_k
    replace r_k:=blk_on hw2 r_k
    replace hb0:=bel_trans hb0 hw2
    have f_c0:=blkC c_k 0 rfl
    have f_c1:=blkC c_k 1 rfl
    go_wp2_with fail
    clear f_c0 f_c1
    refine (h3.out _).mono ?_
    rintro _ y3 ⟨rfl,hw3⟩
    replace a_k:=blk_on hw3 a_k
    replace b_k:=blk_on hw3 b_k
    replace c_k:=blk_on hw3 c_k
    replace r_k:=blk_on hw3 r_k
    replace hb0:=bel_trans hb0 hw3
    have f_a0:=blkC a_k 0 rfl
    have f_a1:=blkC a_k 1 rfl
    have f_b0:=blkC b_k 0 rfl
    have f_b1:=blkC b_k 1 rfl
    have f_c0:=blkC c_k 0 rfl
    have f_c1:=blkC c_k 1 rfl
    go_wp2_with fail
    clear f_a0 f_a1 f_b0 f_b1 f_c0 f_c1
    refine (h5.out _).mono ?_
    rintro _ y5 ⟨rfl,hw5⟩
    replace a_k:=blk_on hw5 a_k
    replace b_k:=blk_on hw5 b_k
    replace c_k:=blk_on hw5 c_k
    replace r_k:=blk_on hw5 r_k
    replace hb0:=bel_trans hb0 hw5
    have f_a0:=blkC a_k 0 rfl
    have f_a1:=blkC a_k 1 rfl
    have f_b0:=blkC b_k 0 rfl
    have f_b1:=blkC b_k 1 rfl
    have f_c0:=blkC c_k 0 rfl
    have f_c1:=blkC c_k 1 rfl
    go_wp2_with fail
    clear f_a0 f_a1 f_b0 f_b1 f_c0 f_c1
    replace H:=H.keeps hb0
    refine (h4.out _ H).mono ?_
    rintro _ y4 ⟨rfl,hw4⟩
    replace r_k:=blk_on hw4 r_k
    replace hb0:=bel_trans hb0 hw4
    have k0:=blkC r_k 0 rfl
    have k1:=blkC r_k 1 rfl
    have z0:=blkF r_k 0
    have z1:=blkF r_k 1
    go_wp2
    exact bodyPost_ret (v:=.tuple #[.agg #[.int .i64 V,.int .i64 U],.int .i64 0]) (by simp [results,Tryz.results8,go_sem,k0,k1]) rfl ⟨rfl,((hb0.setCell (p:=⟨w.heap.size + 1 + 1 + 1,0,none⟩) (show w.heap.size <= w.heap.size + 1 + 1 + 1 by omega) _).setCell (p:=⟨w.heap.size + 1 + 1 + 1,1,none⟩) (show w.heap.size <= w.heap.size + 1 + 1 + 1 by omega) _)⟩
  . simp at hb
theorem allT3_eq (ax ay bx by' cx cy:Int):allT3 ax ay bx by' cx cy=((tame ax && tame ay) && (tame bx && tame by') && (tame cx && tame cy)):=rfl
theorem oSign_ok {ax ay bx by' cx cy:Int} (rax:rng ax) (ray:rng ay) (rbx:rng bx) (rby:rng by') (rcx:rng cx) (rcy:rng cy) (pax:pok ax=true) (pay:pok ay=true) (pbx:pok bx=true) (pby:pok by'=true) (pcx:pok cx=true) (pcy:pok cy=true) (w:World) (H:Hold4 w) :
    Calls Tryz.prog 8 #[.agg #[.int .i64 ax,.int .i64 ay],.agg #[.int .i64 bx,.int .i64 by'],.agg #[.int .i64 cx,.int .i64 cy]] w fun r w'=>r=.returned (.tuple #[.agg #[.int .i64 (ord (oDet ax ay bx by' cx cy) 0),.int .i64 (oSt ax ay bx by' cx cy)],.int .i64 0])∧Below w.heap.size w w':=by
  cases hT:allT3 ax ay bx by' cx cy
  . have CP:∀ W,Calls Tryz.prog 19 #[.agg #[.int .i64 ax,.int .i64 ay],.agg #[.int .i64 bx,.int .i64 by'],.agg #[.int .i64 cx,.int .i64 cy]] W fun r w'=>r=.returned (.bool true)∧Below W.heap.size W w':=fun W=>by
      have:=opoints_any rax ray rbx rby rcx rcy W
      rw [pax,pay,pbx,pby,pcx,pcy] at this
      exact this
    cases hk:sgK (owLo ax ay bx by' cx cy) (owHi ax ay bx by' cx cy)
    . have e:oSt ax ay bx by' cx cy=6:=by unfold oSt; rw [hT,hk]; rfl
      rw [e]
      exact oSign_wild (hT ▸ (allT3_eq ax ay bx by' cx cy).symm) (fun W=>o_tame rax ray W) (fun W=>o_tame rbx rby W) (fun W=>o_tame rcx rcy W) CP (fun W h=>oWild_no rax ray rbx rby rcx rcy pax pay pbx pby pcx pcy hk W h) w H
    . have e:oSt ax ay bx by' cx cy=5:=by unfold oSt; rw [hT,hk]; rfl
      rw [e]
      exact oSign_wild (hT ▸ (allT3_eq ax ay bx by' cx cy).symm) (fun W=>o_tame rax ray W) (fun W=>o_tame rbx rby W) (fun W=>o_tame rcx rcy W) CP (fun W h=>oWild_yes rax ray rbx rby rcx rcy pax pay pbx pby pcx pcy hk W h) w H
  . obtain ⟨hax,hay,hbx,hby,hcx,hcy⟩:=tame3 rax ray rbx rby rcx rcy hT
    have e:oSt ax ay bx by' cx cy=oStT ax ay bx by' cx cy:=by unfold oSt; rw [hT]; rfl
    rw [e]
    exact oSign_walk (hT ▸ (allT3_eq ax ay bx by' cx cy).symm) (fun W=>o_tame rax ray W) (fun W=>o_tame rbx rby W) (fun W=>o_tame rcx rcy W) (fun W h=>oTame_ok hax hay hbx hby hcx hcy W h) w H
def s2K (b k:Int):Bool:=decide (q0 b=0) || !(decide (fld b=0) || decide (fld b + k < 1) || decide (2046 < fld b + k))
def s2V (b k:Int):Int:=if q0 b=0 then b else if s2K b k then b + k * 4503599627370496 else 0
theorem s2_fin {b k:Int} (hb:rng b) (pb:pok b=true) (hk:s2K b k=true):rng (s2V b k)∧pok (s2V b k)=true:=by
  unfold s2V
  by_cases h0:q0 b=0
  . rw [if_pos h0]; exact ⟨hb,pb⟩
  . rw [if_neg h0,if_pos hk]
    unfold s2K at hk
    simp only [h0,decide_false,Bool.false_or,Bool.not_eq_true',Bool.or_eq_false_iff,decide_eq_false_iff_not] at hk
    obtain ⟨⟨h1,h2⟩,h3⟩:=hk
    unfold fld at h1 h2 h3
    unfold rng pok fld at *
    refine ⟨by omega,?_⟩
    simp only [Bool.not_eq_true',decide_eq_false_iff_not]
    omega
theorem s2_worth {b k:Int} (hb:rng b) (pb:pok b=true) (hk:s2K b k=true) (k0:-600 <= k) (k1:k <= 600):2 ^ 600 * iV (s2V b k)=2 ^ (600 + k).toNat * iV b:=by
  obtain ⟨r1,p1⟩:=s2_fin hb pb hk
  unfold s2V at *
  by_cases h0:q0 b=0
  . rw [if_pos h0]
    have z:iV b=0:=by
      refine rg_iV0 hb ?_
      unfold q0 at h0
      unfold rg
      split at h0 <;> split <;> omega
    rw [z,Int.mul_zero,Int.mul_zero]
  . rw [if_neg h0,if_pos hk] at *
    unfold s2K at hk
    simp only [h0,decide_false,Bool.false_or,Bool.not_eq_true',Bool.or_eq_false_iff,decide_eq_false_iff_not] at hk
    obtain ⟨⟨h1,h2⟩,h3⟩:=hk
    have f1:=iV_form hb pb
    have f2:=iV_form r1 p1
    have g1:pmag (b + k * 4503599627370496)=pmag b∧pexp (b + k * 4503599627370496)=pexp b + k∧(b + k * 4503599627370496 < 0 ↔ b < 0)∧pexp b=fld b - 1075∧0 <= pmag b:=by
      have q:=pparts pb
      unfold pmag pexp
      have e:fld (b + k * 4503599627370496)=fld b + k:=by unfold rng at hb; unfold fld at *; omega
      have e2:frc (b + k * 4503599627370496)=frc b:=by unfold frc; omega
      have e3:0 <= frc b:=by unfold frc; omega
      rw [e,e2,if_neg (show ¬ fld b + k=2047 by omega),if_neg (show ¬ fld b + k=0 by omega),if_neg q,if_neg h1,if_neg (show ¬ fld b + k=2047 by omega),if_neg (show ¬ fld b + k=0 by omega),if_neg q,if_neg h1]
      refine ⟨rfl,by omega,?_,rfl,by omega⟩
      unfold rng at hb
      unfold fld at *
      omega
    obtain ⟨m1,m2,m3,m4,m5⟩:=g1
    rw [m1,m2] at f2
    have f3:0 <= fld b:=by unfold fld; omega
    have n1:(pexp b + k + 1074).toNat + 600=(pexp b + 1074).toNat + (600 + k).toNat:=by omega
    have e4:(2:Int) ^ (pexp b + k + 1074).toNat * 2 ^ 600=2 ^ (pexp b + 1074).toNat * 2 ^ (600 + k).toNat:=by rw [<- Int.pow_add,<- Int.pow_add,n1]
    have sg1:(0 <= iV b ↔ ¬ b < 0)∨iV b=0:=by
      by_cases c:b < 0
      . have:iV b <= 0:=by unfold iV; rw [decide_eq_true c]; show -_ <= _; omega
        by_cases d:iV b=0
        . exact .inr d
        . exact .inl ⟨fun _=>by omega,fun h=>absurd c h⟩
      . have:0 <= iV b:=by unfold iV; rw [decide_eq_false c]; exact Int.natCast_nonneg _
        exact .inl ⟨fun _=>c,fun _=>this⟩
    have aP:∀ x:Int,¬ x < 0->iV x=((iV x).natAbs:Int):=fun x c=>by
      have:0 <= iV x:=by unfold iV; rw [decide_eq_false c]; exact Int.natCast_nonneg _
      omega
    have aN:∀ x:Int,x < 0->iV x=-((iV x).natAbs:Int):=fun x c=>by
      have:iV x <= 0:=by unfold iV; rw [decide_eq_true c]; show -_ <= _; omega
      omega
    have e5:(2:Int) ^ 600 * (pmag b * 2 ^ (pexp b + k + 1074).toNat)=2 ^ (600 + k).toNat * (pmag b * 2 ^ (pexp b + 1074).toNat):=by
      generalize (2:Int) ^ 600=X at *
      generalize (2:Int) ^ (600 + k).toNat=Y at *
      generalize (2:Int) ^ (pexp b + k + 1074).toNat=Z at *
      generalize (2:Int) ^ (pexp b + 1074).toNat=U at *
      generalize pmag b=M at *
      have:X * (M * Z)=M * (Z * X):=by grind
      rw [this,e4]
      grind
    by_cases c:b < 0
    . rw [aN b c,aN _ (m3.2 c),f1,f2,Int.mul_neg,Int.mul_neg,e5]
    . rw [aP b c,aP _ (fun d=>c (m3.1 d)),f1,f2,e5]
theorem s2_det {ax ay bx by' cx cy k:Int} (rax:rng ax) (ray:rng ay) (rbx:rng bx) (rby:rng by') (rcx:rng cx) (rcy:rng cy) (pax:pok ax=true) (pay:pok ay=true) (pbx:pok bx=true) (pby:pok by'=true) (pcx:pok cx=true) (pcy:pok cy=true) (k0:-600 <= k) (k1:k <= 600) (h1:s2K ax k=true) (h2:s2K ay k=true) (h3:s2K bx k=true) (h4:s2K by' k=true) (h5:s2K cx k=true) (h6:s2K cy k=true) :
    ord (oDet (s2V ax k) (s2V ay k) (s2V bx k) (s2V by' k) (s2V cx k) (s2V cy k)) 0=ord (oDet ax ay bx by' cx cy) 0:=by
  have w1:=s2_worth rax pax h1 k0 k1
  have w2:=s2_worth ray pay h2 k0 k1
  have w3:=s2_worth rbx pbx h3 k0 k1
  have w4:=s2_worth rby pby h4 k0 k1
  have w5:=s2_worth rcx pcx h5 k0 k1
  have w6:=s2_worth rcy pcy h6 k0 k1
  have q1:=p2 600
  have q2:=p2 (600 + k).toNat
  unfold oDet
  generalize (2:Int) ^ 600=X at *
  generalize (2:Int) ^ (600 + k).toNat=Y at *
  generalize iV (s2V ax k)=a' at *
  generalize iV (s2V ay k)=b' at *
  generalize iV (s2V bx k)=c' at *
  generalize iV (s2V by' k)=d' at *
  generalize iV (s2V cx k)=e' at *
  generalize iV (s2V cy k)=f' at *
  generalize iV ax=a at *
  generalize iV ay=b at *
  generalize iV bx=c at *
  generalize iV by'=d at *
  generalize iV cx=e at *
  generalize iV cy=f at *
  have e1:((a' - e') * (d' - f') - (b' - f') * (c' - e')) * (X * X)=((a - e) * (d - f) - (b - f) * (c - e)) * (Y * Y):=by
    have:((a' - e') * (d' - f') - (b' - f') * (c' - e')) * (X * X)=(X * a' - X * e') * (X * d' - X * f') - (X * b' - X * f') * (X * c' - X * e'):=by grind
    rw [this,w1,w2,w3,w4,w5,w6]
    grind
  have o1:=ord_mulP (x:=(a' - e') * (d' - f') - (b' - f') * (c' - e')) (Int.mul_pos q1 q1)
  have o2:=ord_mulP (x:=(a - e) * (d - f) - (b - f) * (c - e)) (Int.mul_pos q2 q2)
  rw [<- o1,<- o2,e1]
set_option maxRecDepth 100000 in
set_option maxHeartbeats 2000000 in
theorem oScaled {b k:Int} (hb:rng b) (k0:-600 <= k) (k1:k <= 600) (w:World) :
    Calls Tryz.prog 24 #[.int .i64 b,.int .i64 k] w fun r w'=>r=.returned (.tuple #[.int .i64 (s2V b k),.bool (s2K b k)])∧w'=w:=by
  have CZ:Hid (∀ W,Calls Tryz.prog 23 #[.int .i64 b] W fun e w'=>e=.returned (.int .i64 (q0 b))∧w'=W):=fun W=>q_zero b W
  have hm:bits .and .i64 (b / 4503599627370496) 2047=fld b:=and_i64_mask (b / 4503599627370496) 11 (by omega)
  have r1:0 <= fld b∧fld b <= 2047:=by unfold fld; omega
  have w1:wrap64 (fld b + k)=fld b + k:=IntWalk.wrap64_in _ ⟨by omega,by omega⟩
  have w2:wrap64 (k * 4503599627370496)=k * 4503599627370496:=IntWalk.wrap64_in _ ⟨by omega,by omega⟩
  unfold s2V
  by_cases h0:q0 b=0
  . have e:s2K b k=true:=by unfold s2K; simp [h0]
    rw [if_pos h0,e]
    rw [h0] at CZ
    clear r1 w1 w2 e h0
    go_enter Tryz.func24,Tryz.ntmps24
    go_wp2_with fail
    refine (CZ.out _).mono ?_
    rintro _ wz ⟨rfl,hwz⟩
    replace hwz:=hwz.symm
    subst hwz
    go_wp2
    exact bodyPost_ret (v:=.tuple #[.int .i64 b,.bool true]) (by simp [results,Tryz.results24,go_sem]) rfl ⟨rfl,rfl⟩
  . rw [if_neg h0]
    have hz:¬ q0 b=0:=h0
    by_cases c1:fld b=0
    . have e:s2K b k=false:=by unfold s2K; simp [h0,c1]
      rw [e]
      rw [c1] at hm
      clear r1 w1 w2 e c1 h0
      generalize q0 b=z at *
      go_enter Tryz.func24,Tryz.ntmps24
      go_wp2_with fail
      refine (CZ.out _).mono ?_
      rintro _ wz ⟨rfl,hwz⟩
      replace hwz:=hwz.symm
      subst hwz
      go_wp2
      exact bodyPost_ret (v:=.tuple #[.int .i64 0,.bool false]) (by simp [results,Tryz.results24,go_sem]) rfl ⟨rfl,rfl⟩
    . by_cases c2:fld b + k < 1
      . have e:s2K b k=false:=by unfold s2K; simp [h0,c1,c2]
        rw [e]
        clear r1 w2 e h0
        generalize fld b=f at *
        generalize q0 b=z at *
        go_enter Tryz.func24,Tryz.ntmps24
        go_wp2_with fail
        refine (CZ.out _).mono ?_
        rintro _ wz ⟨rfl,hwz⟩
        replace hwz:=hwz.symm
        subst hwz
        go_wp2
        exact bodyPost_ret (v:=.tuple #[.int .i64 0,.bool false]) (by simp [results,Tryz.results24,go_sem]) rfl ⟨rfl,rfl⟩
      . by_cases c3:2046 < fld b + k
        . have e:s2K b k=false:=by unfold s2K; simp [h0,c1,c2,c3]
          rw [e]
          clear r1 w2 e h0
          generalize fld b=f at *
          generalize q0 b=z at *
          go_enter Tryz.func24,Tryz.ntmps24
          go_wp2_with fail
          refine (CZ.out _).mono ?_
          rintro _ wz ⟨rfl,hwz⟩
          replace hwz:=hwz.symm
          subst hwz
          go_wp2
          exact bodyPost_ret (v:=.tuple #[.int .i64 0,.bool false]) (by simp [results,Tryz.results24,go_sem]) rfl ⟨rfl,rfl⟩
        . have e:s2K b k=true:=by unfold s2K; simp [h0,c1,c2,c3]
          have w3:wrap64 (b + k * 4503599627370496)=b + k * 4503599627370496:=by
            refine IntWalk.wrap64_in _ ⟨?_,?_⟩ <;> (unfold rng at hb; unfold fld at c2 c3; omega)
          rw [e]
          clear r1 e h0
          have d2:decide (fld b + k < 1)=false:=decide_eq_false c2
          have d3:decide (2046 < fld b + k)=false:=decide_eq_false c3
          generalize fld b=f at *
          generalize q0 b=z at *
          go_enter Tryz.func24,Tryz.ntmps24
          go_wp2_with fail
          refine (CZ.out _).mono ?_
          rintro _ wz ⟨rfl,hwz⟩
          replace hwz:=hwz.symm
          subst hwz
          go_wp2
          exact bodyPost_ret (v:=.tuple #[.int .i64 (b + k * 4503599627370496),.bool true]) (by simp [results,Tryz.results24,go_sem]) rfl ⟨rfl,rfl⟩
set_option maxRecDepth 100000 in
set_option maxHeartbeats 2000000 in
theorem oScaledP {x y k:Int} (hx:rng x) (hy:rng y) (k0:-600 <= k) (k1:k <= 600) (w:World) :
    Calls Tryz.prog 15 #[.agg #[.int .i64 x,.int .i64 y],.int .i64 k] w fun r w'=>r=.returned (.tuple #[.agg #[.int .i64 (s2V x k),.int .i64 (s2V y k)],.bool (s2K x k && s2K y k)])∧Below w.heap.size w w':=by
  have C1:Hid (∀ W,Calls Tryz.prog 24 #[.int .i64 x,.int .i64 k] W fun r w'=>r=.returned (.tuple #[.int .i64 (s2V x k),.bool (s2K x k)])∧w'=W):=fun W=>oScaled hx k0 k1 W
  have C2:Hid (∀ W,Calls Tryz.prog 24 #[.int .i64 y,.int .i64 k] W fun r w'=>r=.returned (.tuple #[.int .i64 (s2V y k),.bool (s2K y k)])∧w'=W):=fun W=>oScaled hy k0 k1 W
  clear hx hy k0 k1
  generalize s2V x k=X at *
  generalize s2V y k=Y at *
  generalize s2K x k=bx at *
  generalize s2K y k=by' at *
  obtain ⟨hb0,a_k,r_k,hsz0⟩:=blks2 w (.cells #[.int .i64 x,.int .i64 y] 23) (.cells #[.int .i64 0,.int .i64 0] 23)
  clear hsz0
  have f0:=blkC a_k 0 rfl
  have f1:=blkC a_k 1 rfl
  cases bx <;> cases by'
  all_goals
    go_enter Tryz.func15,Tryz.ntmps15
    go_wp2_with fail
    generalize ((w.alloc (.cells #[.int .i64 x,.int .i64 y] 23)).alloc (.cells #[.int .i64 0,.int .i64 0] 23))=x0 at hb0 a_k r_k f0 f1 ⊢
    have k0:=blkC r_k 0 rfl
    have k1:=blkC r_k 1 rfl
    have z0:=blkF r_k 0
    have z1:=blkF r_k 1
    have q:=heap_set (heap_set r_k 0 (.int .i64 X)) 1 (.int .i64 Y)
    have e0:=blkC q 0 rfl
    have e1:=blkC q 1 rfl
    refine (C1.out _).mono ?_
    rintro _ wz ⟨rfl,hwz⟩
    replace hwz:=hwz.symm
    subst hwz
    go_wp2_with fail
    refine (C2.out _).mono ?_
    rintro _ wz ⟨rfl,hwz⟩
    replace hwz:=hwz.symm
    subst hwz
    go_wp2
    exact bodyPost_ret (v:=.tuple #[.agg #[.int .i64 X,.int .i64 Y],.bool _]) (by simp [results,Tryz.results15,go_sem,e0,e1]; try rfl) rfl ⟨rfl,((hb0.setCell (p:=⟨w.heap.size + 1,0,none⟩) (show w.heap.size <= w.heap.size + 1 by omega) _).setCell (p:=⟨w.heap.size + 1,1,none⟩) (show w.heap.size <= w.heap.size + 1 by omega) _)⟩
end Go.Proofs.YtafnigjehkpggaaGreatDoor
namespace Go.Proofs.YtafnigjehkpggaaGreatDoor
open Go Go.ChangeShapes Go.WideShapes Go.ChangeAt Go.RowKit Go.Proofs.YtafnigjehkpggaaGreatDoor.M
set_option linter.unusedSimpArgs false
set_option linter.unusedVariables false
theorem q_cellsPoint:Tryz.prog.cellsOf 23=2:=by kernel_rfl
theorem q_cellsInt:Tryz.prog.cellsOf 3=1:=by kernel_rfl
set_option maxRecDepth 100000 in
theorem point_cells {H:Type} {enc:TypeId × Value->H} {W:World} {n:Nat} {cs:List Value} {x:DataW H × List MemPlace}
    (h:DataW.trod enc Tryz.prog W 0 (fun _=>true) true n 23 cs=some x) :
    ∃ a b:Int,cs=[.int .i64 a,.int .i64 b]∧rng a∧rng b:=by
  obtain ⟨xs,m,_,rfl,hl,hlen,hf⟩:=DataW.trod_struct Tryz.underlying23 h
  rw [q_cellsPoint] at hl
  match cs,hl with
  | [v0,v1],_=>
    match xs,hlen with
    | [y0,y1],_=>
      have f0:DataW.trod enc Tryz.prog W 0 (fun _=>true) true m 3 (([v0,v1].drop 0).take (Tryz.prog.cellsOf 3))=some y0:=hf 0 _ rfl
      have f1:DataW.trod enc Tryz.prog W 0 (fun _=>true) true m 3 (([v0,v1].drop 1).take (Tryz.prog.cellsOf 3))=some y1:=hf 1 _ rfl
      rw [q_cellsInt] at f0 f1
      simp only [List.drop_zero,List.drop_succ_cons,List.take_succ_cons,List.take_zero] at f0 f1
      obtain ⟨k0,e0,_,w0⟩:=DataW.trod_int Tryz.underlying3 f0
      obtain ⟨k1,e1,_,w1⟩:=DataW.trod_int Tryz.underlying3 f1
      simp at e0 e1
      subst e0 e1
      exact ⟨k0,k1,rfl,rng_of w0,rng_of w1⟩
set_option maxRecDepth 100000 in
theorem point_of {H:Type} {enc:TypeId × Value->H} {W:World} {base:Nat} {v:Value} {d:DataW H} {p:List MemPlace} (hv:Value.okWide Tryz.prog W .any base 23 v)
    (h:DataW.Trod enc Tryz.prog W 0 (fun _=>true) true 23 v d p):∃ a b:Int,v=.agg #[.int .i64 a,.int .i64 b]∧rng a∧rng b:=by
  obtain ⟨cs,rfl,hc⟩:=okWide_struct Tryz.underlying23 hv
  obtain ⟨fuel,hf⟩:=h
  obtain ⟨a,b,hr,h1,h2⟩:=point_cells hf
  refine ⟨a,b,?_,h1,h2⟩
  congr 1
  have:cs.toList=[.int .i64 a,.int .i64 b]:=by simpa [Value.cells] using hr
  exact Array.toList_inj.1 this
end Go.Proofs.YtafnigjehkpggaaGreatDoor
