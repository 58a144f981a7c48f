/-
  Parts of the proof, one behind another.
-/
import Derived.Test.YtafnigjehkpggaaGreatDoorPart29
import Derived.Test.YtafnigjehkpggaaGreatDoorPart30
import Derived.Test.YtafnigjehkpggaaGreatDoorPart20
import Derived.Test.YtafnigjehkpggaaGreatDoorPart7
import Derived.Test.YtafnigjehkpggaaGreatDoorPart11
namespace Go.Proofs.YtafnigjehkpggaaGreatDoor
open Go Go.RowKit Go.Proofs.YtafnigjehkpggaaGreatDoor.M
set_option linter.unusedSimpArgs false
set_option linter.unusedVariables false
def oSt (ax ay bx by' cx cy:Int):Int:=if allT3 ax ay bx by' cx cy then oStT ax ay bx by' cx cy else if sgK (owLo ax ay bx by' cx cy) (owHi ax ay bx by' cx cy) then 5 else 6
theorem oSt_range (ax ay bx by' cx cy:Int):1 <= oSt ax ay bx by' cx cy∧oSt ax ay bx by' cx cy <= 6:=by
  unfold oSt oStT
  split
  . split
    . omega
    . split
      . omega
      . split <;> omega
  . split <;> omega
set_option maxRecDepth 100000 in
set_option maxHeartbeats 4000000 in
theorem oSign_walk {ax ay bx by' cx cy V U:Int} {b1 b2 b3:Bool} (hb:(b1 && b2 && b3)=true) (T1:∀ W,Calls Tryz.prog 17 #[.agg #[.int .i64 ax,.int .i64 ay]] W fun e w'=>e=.returned (.bool b1)∧Below W.heap.size W w') (T2:∀ W,Calls Tryz.prog 17 #[.agg #[.int .i64 bx,.int .i64 by']] W fun e w'=>e=.returned (.bool b2)∧Below W.heap.size W w') (T3:∀ W,Calls Tryz.prog 17 #[.agg #[.int .i64 cx,.int .i64 cy]] W fun e w'=>e=.returned (.bool b3)∧Below W.heap.size W w')
    (CV:∀ W,Hold4 W->Calls Tryz.prog 18 #[.agg #[.int .i64 ax,.int .i64 ay],.agg #[.int .i64 bx,.int .i64 by'],.agg #[.int .i64 cx,.int .i64 cy]] W fun r w'=>r=.returned (.agg #[.int .i64 V,.int .i64 U])∧Below W.heap.size W w') (w:World) (H:Hold4 w) :
    Calls Tryz.prog 8 #[.agg #[.int .i64 ax,.int .i64 ay],.agg #[.int .i64 bx,.int .i64 by'],.agg #[.int .i64 cx,.int .i64 cy]] w fun r w'=>r=.returned (.tuple #[.agg #[.int .i64 V,.int .i64 U],.int .i64 0])∧Below w.heap.size w w':=by
  obtain ⟨⟨rfl,rfl⟩,rfl⟩:(b1=true∧b2=true)∧b3=true:=by simpa using hb
  clear hb
  have h1:Hid _:=hideIt T1
  have h2:Hid _:=hideIt T2
  have h3:Hid _:=hideIt T3
  have h4:Hid _:=hideIt CV
  clear T1 T2 T3 CV
  obtain ⟨hb0,a_k,b_k,c_k,r_k,hsz0⟩:=blks4 w (.cells #[.int .i64 ax,.int .i64 ay] 23) (.cells #[.int .i64 bx,.int .i64 by'] 23) (.cells #[.int .i64 cx,.int .i64 cy] 23) (.cells #[.int .i64 0,.int .i64 0] 26)
  clear hsz0
  have f_a0:=blkC a_k 0 rfl
  have f_a1:=blkC a_k 1 rfl
  go_enter Tryz.func8,Tryz.ntmps8
  go_wp2_with fail
  clear f_a0 f_a1
  generalize ((((w.alloc (.cells #[.int .i64 ax,.int .i64 ay] 23)).alloc (.cells #[.int .i64 bx,.int .i64 by'] 23)).alloc (.cells #[.int .i64 cx,.int .i64 cy] 23)).alloc (.cells #[.int .i64 0,.int .i64 0] 26))=x0 at hb0 a_k b_k c_k r_k ⊢
  refine (h1.out _).mono ?_
  rintro _ y1 ⟨rfl,hw1⟩
  replace a_k:=blk_on hw1 a_k
  replace b_k:=blk_on hw1 b_k
  replace c_k:=blk_on hw1 c_k
  replace r_k:=blk_on hw1 r_k
  replace hb0:=bel_trans hb0 hw1
  have f_b0:=blkC b_k 0 rfl
  have f_b1:=blkC b_k 1 rfl
  go_wp2_with fail
  clear f_b0 f_b1
  refine (h2.out _).mono ?_
  rintro _ y2 ⟨rfl,hw2⟩
  replace a_k:=blk_on hw2 a_k
  replace b_k:=blk_on hw2 b_k
  replace c_k:=blk_on hw2 c_k
  replace r_k:=blk_on hw2 r_k
  replace hb0:=bel_trans hb0 hw2
  have f_c0:=blkC c_k 0 rfl
  have f_c1:=blkC c_k 1 rfl
  go_wp2_with fail
  clear f_c0 f_c1
  refine (h3.out _).mono ?_
  rintro _ y3 ⟨rfl,hw3⟩
  replace a_k:=blk_on hw3 a_k
  replace b_k:=blk_on hw3 b_k
  replace c_k:=blk_on hw3 c_k
  replace r_k:=blk_on hw3 r_k
  replace hb0:=bel_trans hb0 hw3
  have f_a0:=blkC a_k 0 rfl
  have f_a1:=blkC a_k 1 rfl
  have f_b0:=blkC b_k 0 rfl
  have f_b1:=blkC b_k 1 rfl
  have f_c0:=blkC c_k 0 rfl
  have f_c1:=blkC c_k 1 rfl
  go_wp2_with fail
  clear f_a0 f_a1 f_b0 f_b1 f_c0 f_c1
  replace H:=H.keeps hb0
  refine (h4.out _ H).mono ?_
  rintro _ y4 ⟨rfl,hw4⟩
  replace r_k:=blk_on hw4 r_k
  replace hb0:=bel_trans hb0 hw4
  have k0:=blkC r_k 0 rfl
  have k1:=blkC r_k 1 rfl
  have z0:=blkF r_k 0
  have z1:=blkF r_k 1
  go_wp2
  exact bodyPost_ret (v:=.tuple #[.agg #[.int .i64 V,.int .i64 U],.int .i64 0]) (by simp [results,Tryz.results8,go_sem,k0,k1]) rfl ⟨rfl,((hb0.setCell (p:=⟨w.heap.size + 1 + 1 + 1,0,none⟩) (show w.heap.size <= w.heap.size + 1 + 1 + 1 by omega) _).setCell (p:=⟨w.heap.size + 1 + 1 + 1,1,none⟩) (show w.heap.size <= w.heap.size + 1 + 1 + 1 by omega) _)⟩
set_option maxRecDepth 100000 in
set_option maxHeartbeats 4000000 in
theorem oSign_none {ax ay bx by' cx cy V U:Int} {b1 b2 b3:Bool} (hb:(b1 && b2 && b3)=false) (T1:∀ W,Calls Tryz.prog 17 #[.agg #[.int .i64 ax,.int .i64 ay]] W fun e w'=>e=.returned (.bool b1)∧Below W.heap.size W w') (T2:∀ W,Calls Tryz.prog 17 #[.agg #[.int .i64 bx,.int .i64 by']] W fun e w'=>e=.returned (.bool b2)∧Below W.heap.size W w') (T3:∀ W,Calls Tryz.prog 17 #[.agg #[.int .i64 cx,.int .i64 cy]] W fun e w'=>e=.returned (.bool b3)∧Below W.heap.size W w')
    (CP:∀ W,Calls Tryz.prog 19 #[.agg #[.int .i64 ax,.int .i64 ay],.agg #[.int .i64 bx,.int .i64 by'],.agg #[.int .i64 cx,.int .i64 cy]] W fun r w'=>r=.returned (.bool false)∧Below W.heap.size W w') (w:World) (H:Hold4 w) :
    Calls Tryz.prog 8 #[.agg #[.int .i64 ax,.int .i64 ay],.agg #[.int .i64 bx,.int .i64 by'],.agg #[.int .i64 cx,.int .i64 cy]] w fun r w'=>r=.returned (.tuple #[.agg #[.int .i64 0,.int .i64 0],.int .i64 10])∧Below w.heap.size w w':=by
  have h1:Hid _:=hideIt T1
  have h2:Hid _:=hideIt T2
  have h3:Hid _:=hideIt T3
  have h5:Hid _:=hideIt CP
  clear T1 T2 T3 CP
  cases b1
  . clear h2 h3
    obtain ⟨hb0,a_k,b_k,c_k,r_k,hsz0⟩:=blks4 w (.cells #[.int .i64 ax,.int .i64 ay] 23) (.cells #[.int .i64 bx,.int .i64 by'] 23) (.cells #[.int .i64 cx,.int .i64 cy] 23) (.cells #[.int .i64 0,.int .i64 0] 26)
    clear hsz0
    have f_a0:=blkC a_k 0 rfl
    have f_a1:=blkC a_k 1 rfl
    go_enter Tryz.func8,Tryz.ntmps8
    go_wp2_with fail
    clear f_a0 f_a1
    generalize ((((w.alloc (.cells #[.int .i64 ax,.int .i64 ay] 23)).alloc (.cells #[.int .i64 bx,.int .i64 by'] 23)).alloc (.cells #[.int .i64 cx,.int .i64 cy] 23)).alloc (.cells #[.int .i64 0,.int .i64 0] 26))=x0 at hb0 a_k b_k c_k r_k ⊢
    refine (h1.out _).mono ?_
    rintro _ y1 ⟨rfl,hw1⟩
    replace a_k:=blk_on hw1 a_k
    replace b_k:=blk_on hw1 b_k
    replace c_k:=blk_on hw1 c_k
    replace r_k:=blk_on hw1 r_k
    replace hb0:=bel_trans hb0 hw1
    have f_a0:=blkC a_k 0 rfl
    have f_a1:=blkC a_k 1 rfl
    have f_b0:=blkC b_k 0 rfl
    have f_b1:=blkC b_k 1 rfl
    have f_c0:=blkC c_k 0 rfl
    have f_c1:=blkC c_k 1 rfl
    go_wp2_with fail
    clear f_a0 f_a1 f_b0 f_b1 f_c0 f_c1
    refine (h5.out _).mono ?_
    rintro _ y5 ⟨rfl,hw5⟩
    replace a_k:=blk_on hw5 a_k
    replace b_k:=blk_on hw5 b_k
    replace c_k:=blk_on hw5 c_k
    replace r_k:=blk_on hw5 r_k
    replace hb0:=bel_trans hb0 hw5
    have k0:=blkC r_k 0 rfl
    have k1:=blkC r_k 1 rfl
    have z0:=blkF r_k 0
    have z1:=blkF r_k 1
    go_wp2
    exact bodyPost_ret (v:=.tuple #[.agg #[.int .i64 0,.int .i64 0],.int .i64 10]) (by simp [results,Tryz.results8,go_sem,k0,k1]) rfl ⟨rfl,((hb0.setCell (p:=⟨w.heap.size + 1 + 1 + 1,0,none⟩) (show w.heap.size <= w.heap.size + 1 + 1 + 1 by omega) _).setCell (p:=⟨w.heap.size + 1 + 1 + 1,1,none⟩) (show w.heap.size <= w.heap.size + 1 + 1 + 1 by omega) _)⟩
  cases b2
  . clear h3
    obtain ⟨hb0,a_k,b_k,c_k,r_k,hsz0⟩:=blks4 w (.cells #[.int .i64 ax,.int .i64 ay] 23) (.cells #[.int .i64 bx,.int .i64 by'] 23) (.cells #[.int .i64 cx,.int .i64 cy] 23) (.cells #[.int .i64 0,.int .i64 0] 26)
    clear hsz0
    have f_a0:=blkC a_k 0 rfl
    have f_a1:=blkC a_k 1 rfl
    go_enter Tryz.func8,Tryz.ntmps8
    go_wp2_with fail
    clear f_a0 f_a1
    generalize ((((w.alloc (.cells #[.int .i64 ax,.int .i64 ay] 23)).alloc (.cells #[.int .i64 bx,.int .i64 by'] 23)).alloc (.cells #[.int .i64 cx,.int .i64 cy] 23)).alloc (.cells #[.int .i64 0,.int .i64 0] 26))=x0 at hb0 a_k b_k c_k r_k ⊢
    refine (h1.out _).mono ?_
    rintro _ y1 ⟨rfl,hw1⟩
    replace a_k:=blk_on hw1 a_k
    replace b_k:=blk_on hw1 b_k
    replace c_k:=blk_on hw1 c_k
    replace r_k:=blk_on hw1 r_k
    replace hb0:=bel_trans hb0 hw1
    have f_b0:=blkC b_k 0 rfl
    have f_b1:=blkC b_k 1 rfl
    go_wp2_with fail
    clear f_b0 f_b1
    refine (h2.out _).mono ?_
    rintro _ y2 ⟨rfl,hw2⟩
    replace a_k:=blk_on hw2 a_k
    replace b_k:=blk_on hw2 b_k
    replace c_k:=blk_on hw2 c_k
    replace r_k:=blk_on hw2 r_k
    replace hb0:=bel_trans hb0 hw2
    have f_a0:=blkC a_k 0 rfl
    have f_a1:=blkC a_k 1 rfl
    have f_b0:=blkC b_k 0 rfl
    have f_b1:=blkC b_k 1 rfl
    have f_c0:=blkC c_k 0 rfl
    have f_c1:=blkC c_k 1 rfl
    go_wp2_with fail
    clear f_a0 f_a1 f_b0 f_b1 f_c0 f_c1
    refine (h5.out _).mono ?_
    rintro _ y5 ⟨rfl,hw5⟩
    replace a_k:=blk_on hw5 a_k
    replace b_k:=blk_on hw5 b_k
    replace c_k:=blk_on hw5 c_k
    replace r_k:=blk_on hw5 r_k
    replace hb0:=bel_trans hb0 hw5
    have k0:=blkC r_k 0 rfl
    have k1:=blkC r_k 1 rfl
    have z0:=blkF r_k 0
    have z1:=blkF r_k 1
    go_wp2
    exact bodyPost_ret (v:=.tuple #[.agg #[.int .i64 0,.int .i64 0],.int .i64 10]) (by simp [results,Tryz.results8,go_sem,k0,k1]) rfl ⟨rfl,((hb0.setCell (p:=⟨w.heap.size + 1 + 1 + 1,0,none⟩) (show w.heap.size <= w.heap.size + 1 + 1 + 1 by omega) _).setCell (p:=⟨w.heap.size + 1 + 1 + 1,1,none⟩) (show w.heap.size <= w.heap.size + 1 + 1 + 1 by omega) _)⟩
  cases b3
  . skip
    obtain ⟨hb0,a_k,b_k,c_k,r_k,hsz0⟩:=blks4 w (.cells #[.int .i64 ax,.int .i64 ay] 23) (.cells #[.int .i64 bx,.int .i64 by'] 23) (.cells #[.int .i64 cx,.int .i64 cy] 23) (.cells #[.int .i64 0,.int .i64 0] 26)
    clear hsz0
    have f_a0:=blkC a_k 0 rfl
    have f_a1:=blkC a_k 1 rfl
    go_enter Tryz.func8,Tryz.ntmps8
    go_wp2_with fail
    clear f_a0 f_a1
    generalize ((((w.alloc (.cells #[.int .i64 ax,.int .i64 ay] 23)).alloc (.cells #[.int .i64 bx,.int .i64 by'] 23)).alloc (.cells #[.int .i64 cx,.int .i64 cy] 23)).alloc (.cells #[.int .i64 0,.int .i64 0] 26))=x0 at hb0 a_k b_k c_k r_k ⊢
    refine (h1.out _).mono ?_
    rintro _ y1 ⟨rfl,hw1⟩
    replace a_k:=blk_on hw1 a_k
    replace b_k:=blk_on hw1 b_k
    replace c_k:=blk_on hw1 c_k
    replace r_k:=blk_on hw1 r_k
    replace hb0:=bel_trans hb0 hw1
    have f_b0:=blkC b_k 0 rfl
    have f_b1:=blkC b_k 1 rfl
    go_wp2_with fail
    clear f_b0 f_b1
    refine (h2.out _).mono ?_
    rintro _ y2 ⟨rfl,hw2⟩
    replace a_k:=blk_on hw2 a_k
    replace b_k:=blk_on hw2 b_k
    replace c_k:=blk_on hw2 c_k
    replace r_k:=blk_on hw2 r_k
    replace hb0:=bel_trans hb0 hw2
    have f_c0:=blkC c_k 0 rfl
    have f_c1:=blkC c_k 1 rfl
    go_wp2_with fail
    clear f_c0 f_c1
    refine (h3.out _).mono ?_
    rintro _ y3 ⟨rfl,hw3⟩
    replace a_k:=blk_on hw3 a_k
    replace b_k:=blk_on hw3 b_k
    replace c_k:=blk_on hw3 c_k
    replace r_k:=blk_on hw3 r_k
    replace hb0:=bel_trans hb0 hw3
    have f_a0:=blkC a_k 0 rfl
    have f_a1:=blkC a_k 1 rfl
    have f_b0:=blkC b_k 0 rfl
    have f_b1:=blkC b_k 1 rfl
    have f_c0:=blkC c_k 0 rfl
    have f_c1:=blkC c_k 1 rfl
    go_wp2_with fail
    clear f_a0 f_a1 f_b0 f_b1 f_c0 f_c1
    refine (h5.out _).mono ?_
    rintro _ y5 ⟨rfl,hw5⟩
    replace a_k:=blk_on hw5 a_k
    replace b_k:=blk_on hw5 b_k
    replace c_k:=blk_on hw5 c_k
    replace r_k:=blk_on hw5 r_k
    replace hb0:=bel_trans hb0 hw5
    have k0:=blkC r_k 0 rfl
    have k1:=blkC r_k 1 rfl
    have z0:=blkF r_k 0
    have z1:=blkF r_k 1
    go_wp2
    exact bodyPost_ret (v:=.tuple #[.agg #[.int .i64 0,.int .i64 0],.int .i64 10]) (by simp [results,Tryz.results8,go_sem,k0,k1]) rfl ⟨rfl,((hb0.setCell (p:=⟨w.heap.size + 1 + 1 + 1,0,none⟩) (show w.heap.size <= w.heap.size + 1 + 1 + 1 by omega) _).setCell (p:=⟨w.heap.size + 1 + 1 + 1,1,none⟩) (show w.heap.size <= w.heap.size + 1 + 1 + 1 by omega) _)⟩
  . simp at hb
set_option maxRecDepth 100000 in
set_option maxHeartbeats 4000000 in
theorem oSign_wild {ax ay bx by' cx cy V U:Int} {b1 b2 b3:Bool} (hb:(b1 && b2 && b3)=false) (T1:∀ W,Calls Tryz.prog 17 #[.agg #[.int .i64 ax,.int .i64 ay]] W fun e w'=>e=.returned (.bool b1)∧Below W.heap.size W w') (T2:∀ W,Calls Tryz.prog 17 #[.agg #[.int .i64 bx,.int .i64 by']] W fun e w'=>e=.returned (.bool b2)∧Below W.heap.size W w') (T3:∀ W,Calls Tryz.prog 17 #[.agg #[.int .i64 cx,.int .i64 cy]] W fun e w'=>e=.returned (.bool b3)∧Below W.heap.size W w')
    (CP:∀ W,Calls Tryz.prog 19 #[.agg #[.int .i64 ax,.int .i64 ay],.agg #[.int .i64 bx,.int .i64 by'],.agg #[.int .i64 cx,.int .i64 cy]] W fun r w'=>r=.returned (.bool true)∧Below W.heap.size W w')
    (CV:∀ W,Hold4 W->Calls Tryz.prog 20 #[.agg #[.int .i64 ax,.int .i64 ay],.agg #[.int .i64 bx,.int .i64 by'],.agg #[.int .i64 cx,.int .i64 cy]] W fun r w'=>r=.returned (.agg #[.int .i64 V,.int .i64 U])∧Below W.heap.size W w') (w:World) (H:Hold4 w) :
    Calls Tryz.prog 8 #[.agg #[.int .i64 ax,.int .i64 ay],.agg #[.int .i64 bx,.int .i64 by'],.agg #[.int .i64 cx,.int .i64 cy]] w fun r w'=>r=.returned (.tuple #[.agg #[.int .i64 V,.int .i64 U],.int .i64 0])∧Below w.heap.size w w':=by
  have h1:Hid _:=hideIt T1
  have h2:Hid _:=hideIt T2
  have h3:Hid _:=hideIt T3
  have h5:Hid _:=hideIt CP
  have h4:Hid _:=hideIt CV
  clear T1 T2 T3 CP CV
  cases b1
  . clear h2 h3
    obtain ⟨hb0,a_k,b_k,c_k,r_k,hsz0⟩:=blks4 w (.cells #[.int .i64 ax,.int .i64 ay] 23) (.cells #[.int .i64 bx,.int .i64 by'] 23) (.cells #[.int .i64 cx,.int .i64 cy] 23) (.cells #[.int .i64 0,.int .i64 0] 26)
    clear hsz0
    have f_a0:=blkC a_k 0 rfl
    have f_a1:=blkC a_k 1 rfl
    go_enter Tryz.func8,Tryz.ntmps8
    go_wp2_with fail
    clear f_a0 f_a1
    generalize ((((w.alloc (.cells #[.int .i64 ax,.int .i64 ay] 23)).alloc (.cells #[.int .i64 bx,.int .i64 by'] 23)).alloc (.cells #[.int .i64 cx,.int .i64 cy] 23)).alloc (.cells #[.int .i64 0,.int .i64 0] 26))=x0 at hb0 a_k b_k c_k r_k ⊢
    refine (h1.out _).mono ?_
    rintro _ y1 ⟨rfl,hw1⟩
    replace a_k:=blk_on hw1 a_k
    replace b_k:=blk_on hw1 b_k
    replace c_k:=blk_on hw1 c_k
    replace r_k:=blk_on hw1 r_k
    replace hb0:=bel_trans hb0 hw1
    have f_a0:=blkC a_k 0 rfl
    have f_a1:=blkC a_k 1 rfl
    have f_b0:=blkC b_k 0 rfl
    have f_b1:=blkC b_k 1 rfl
    have f_c0:=blkC c_k 0 rfl
    have f_c1:=blkC c_k 1 rfl
    go_wp2_with fail
    clear f_a0 f_a1 f_b0 f_b1 f_c0 f_c1
    refine (h5.out _).mono ?_
    rintro _ y5 ⟨rfl,hw5⟩
    replace a_k:=blk_on hw5 a_k
    replace b_k:=blk_on hw5 b_k
    replace c_k:=blk_on hw5 c_k
    replace r_k:=blk_on hw5 r_k
    replace hb0:=bel_trans hb0 hw5
    have f_a0:=blkC a_k 0 rfl
    have f_a1:=blkC a_k 1 rfl
    have f_b0:=blkC b_k 0 rfl
    have f_b1:=blkC b_k 1 rfl
    have f_c0:=blkC c_k 0 rfl
    have f_c1:=blkC c_k 1 rfl
    go_wp2_with fail
    clear f_a0 f_a1 f_b0 f_b1 f_c0 f_c1
    replace H:=H.keeps hb0
    refine (h4.out _ H).mono ?_
    rintro _ y4 ⟨rfl,hw4⟩
    replace r_k:=blk_on hw4 r_k
    replace hb0:=bel_trans hb0 hw4
    have k0:=blkC r_k 0 rfl
    have k1:=blkC r_k 1 rfl
    have z0:=blkF r_k 0
    have z1:=blkF r_k 1
    go_wp2
    exact bodyPost_ret (v:=.tuple #[.agg #[.int .i64 V,.int .i64 U],.int .i64 0]) (by simp [results,Tryz.results8,go_sem,k0,k1]) rfl ⟨rfl,((hb0.setCell (p:=⟨w.heap.size + 1 + 1 + 1,0,none⟩) (show w.heap.size <= w.heap.size + 1 + 1 + 1 by omega) _).setCell (p:=⟨w.heap.size + 1 + 1 + 1,1,none⟩) (show w.heap.size <= w.heap.size + 1 + 1 + 1 by omega) _)⟩
  cases b2
  . clear h3
    obtain ⟨hb0,a_k,b_k,c_k,r_k,hsz0⟩:=blks4 w (.cells #[.int .i64 ax,.int .i64 ay] 23) (.cells #[.int .i64 bx,.int .i64 by'] 23) (.cells #[.int .i64 cx,.int .i64 cy] 23) (.cells #[.int .i64 0,.int .i64 0] 26)
    clear hsz0
    have f_a0:=blkC a_k 0 rfl
    have f_a1:=blkC a_k 1 rfl
    go_enter Tryz.func8,Tryz.ntmps8
    go_wp2_with fail
    clear f_a0 f_a1
    generalize ((((w.alloc (.cells #[.int .i64 ax,.int .i64 ay] 23)).alloc (.cells #[.int .i64 bx,.int .i64 by'] 23)).alloc (.cells #[.int .i64 cx,.int .i64 cy] 23)).alloc (.cells #[.int .i64 0,.int .i64 0] 26))=x0 at hb0 a_k b_k c_k r_k ⊢
    refine (h1.out _).mono ?_
    rintro _ y1 ⟨rfl,hw1⟩
    replace a_k:=blk_on hw1 a_k
    replace b_k:=blk_on hw1 b_k
    replace c_k:=blk_on hw1 c_k
    replace r_k:=blk_on hw1 r_k
    replace hb0:=bel_trans hb0 hw1
    have f_b0:=blkC b_k 0 rfl
    have f_b1:=blkC b_k 1 rfl
    go_wp2_with fail
    clear f_b0 f_b1
    refine (h2.out _).mono ?_
    rintro _ y2 ⟨rfl,hw2⟩
    replace a_k:=blk_on hw2 a_k
    replace b_k:=blk_on hw2 b_k
    replace c_k:=blk_on hw2 c_k
    replace r_k:=blk_on hw2 r_k
    replace hb0:=bel_trans hb0 hw2
    have f_a0:=blkC a_k 0 rfl
    have f_a1:=blkC a_k 1 rfl
    have f_b0:=blkC b_k 0 rfl
    have f_b1:=blkC b_k 1 rfl
    have f_c0:=blkC c_k 0 rfl
    have f_c1:=blkC c_k 1 rfl
    go_wp2_with fail
    clear f_a0 f_a1 f_b0 f_b1 f_c0 f_c1
    refine (h5.out _).mono ?_
    rintro _ y5 ⟨rfl,hw5⟩
    replace a_k:=blk_on hw5 a_k
    replace b_k:=blk_on hw5 b_k
    replace c_k:=blk_on hw5 c_k
    replace r_k:=blk_on hw5 r_k
    replace hb0:=bel_trans hb0 hw5
    have f_a0:=blkC a_k 0 rfl
    have f_a1:=blkC a_k 1 rfl
    have f_b0:=blkC b_k 0 rfl
    have f_b1:=blkC b_k 1 rfl
    have f_c0:=blkC c_k 0 rfl
    have f_c1:=blkC c_k 1 rfl
    go_wp2_with fail
    clear f_a0 f_a1 f_b0 f_b1 f_c0 f_c1
    replace H:=H.keeps hb0
    refine (h4.out _ H).mono ?_
    rintro _ y4 ⟨rfl,hw4⟩
    replace r_k:=blk_on hw4 r_k
    replace hb0:=bel_trans hb0 hw4
    have k0:=blkC r_k 0 rfl
    have k1:=blkC r_k 1 rfl
    have z0:=blkF r_k 0
    have z1:=blkF r_k 1
    go_wp2
    exact bodyPost_ret (v:=.tuple #[.agg #[.int .i64 V,.int .i64 U],.int .i64 0]) (by simp [results,Tryz.results8,go_sem,k0,k1]) rfl ⟨rfl,((hb0.setCell (p:=⟨w.heap.size + 1 + 1 + 1,0,none⟩) (show w.heap.size <= w.heap.size + 1 + 1 + 1 by omega) _).setCell (p:=⟨w.heap.size + 1 + 1 + 1,1,none⟩) (show w.heap.size <= w.heap.size + 1 + 1 + 1 by omega) _)⟩
  cases b3
  . skip
    obtain ⟨hb0,a_k,b_k,c_k,r_k,hsz0⟩:=blks4 w (.cells #[.int .i64 ax,.int .i64 ay] 23) (.cells #[.int .i64 bx,.int .i64 by'] 23) (.cells #[.int .i64 cx,.int .i64 cy] 23) (.cells #[.int .i64 0,.int .i64 0] 26)
    clear hsz0
    have f_a0:=blkC a_k 0 rfl
    have f_a1:=blkC a_k 1 rfl
    go_enter Tryz.func8,Tryz.ntmps8
    go_wp2_with fail
    clear f_a0 f_a1
    generalize ((((w.alloc (.cells #[.int .i64 ax,.int .i64 ay] 23)).alloc (.cells #[.int .i64 bx,.int .i64 by'] 23)).alloc (.cells #[.int .i64 cx,.int .i64 cy] 23)).alloc (.cells #[.int .i64 0,.int .i64 0] 26))=x0 at hb0 a_k b_k c_k r_k ⊢
    refine (h1.out _).mono ?_
    rintro _ y1 ⟨rfl,hw1⟩
    replace a_k:=blk_on hw1 a_k
    replace b_k:=blk_on hw1 b_k
    replace c_k:=blk_on hw1 c_k
    replace r_k:=blk_on hw1 r_k
    replace hb0:=bel_trans hb0 hw1
    have f_b0:=blkC b_k 0 rfl
    have f_b1:=blkC b_k 1 rfl
    go_wp2_with fail
    clear f_b0 f_b1
    refine (h2.out _).mono ?_
    rintro _ y2 ⟨rfl,hw2⟩
    replace a_k:=blk_on hw2 a_k
    replace b_k:=blk_on hw2 b_k
    replace c_k:=blk_on hw2 c_k
    replace r_k:=blk_on hw2 r_k
    replace hb0:=bel_trans hb0 hw2
    have f_c0:=blkC c_k 0 rfl
    have f_c1:=blkC c_k 1 rfl
    go_wp2_with fail
    clear f_c0 f_c1
    refine (h3.out _).mono ?_
    rintro _ y3 ⟨rfl,hw3⟩
    replace a_k:=blk_on hw3 a_k
    replace b_k:=blk_on hw3 b_k
    replace c_k:=blk_on hw3 c_k
    replace r_k:=blk_on hw3 r_k
    replace hb0:=bel_trans hb0 hw3
    have f_a0:=blkC a_k 0 rfl
    have f_a1:=blkC a_k 1 rfl
    have f_b0:=blkC b_k 0 rfl
    have f_b1:=blkC b_k 1 rfl
    have f_c0:=blkC c_k 0 rfl
    have f_c1:=blkC c_k 1 rfl
    go_wp2_with fail
    clear f_a0 f_a1 f_b0 f_b1 f_c0 f_c1
    refine (h5.out _).mono ?_
    rintro _ y5 ⟨rfl,hw5⟩
    replace a_k:=blk_on hw5 a_k
    replace b_k:=blk_on hw5 b_k
    replace c_k:=blk_on hw5 c_k
    replace r_k:=blk_on hw5 r_k
    replace hb0:=bel_trans hb0 hw5
    have f_a0:=blkC a_k 0 rfl
    have f_a1:=blkC a_k 1 rfl
    have f_b0:=blkC b_k 0 rfl
    have f_b1:=blkC b_k 1 rfl
    have f_c0:=blkC c_k 0 rfl
    have f_c1:=blkC c_k 1 rfl
    go_wp2_with fail
    clear f_a0 f_a1 f_b0 f_b1 f_c0 f_c1
    replace H:=H.keeps hb0
    refine (h4.out _ H).mono ?_
    rintro _ y4 ⟨rfl,hw4⟩
    replace r_k:=blk_on hw4 r_k
    replace hb0:=bel_trans hb0 hw4
    have k0:=blkC r_k 0 rfl
    have k1:=blkC r_k 1 rfl
    have z0:=blkF r_k 0
    have z1:=blkF r_k 1
    go_wp2
    exact bodyPost_ret (v:=.tuple #[.agg #[.int .i64 V,.int .i64 U],.int .i64 0]) (by simp [results,Tryz.results8,go_sem,k0,k1]) rfl ⟨rfl,((hb0.setCell (p:=⟨w.heap.size + 1 + 1 + 1,0,none⟩) (show w.heap.size <= w.heap.size + 1 + 1 + 1 by omega) _).setCell (p:=⟨w.heap.size + 1 + 1 + 1,1,none⟩) (show w.heap.size <= w.heap.size + 1 + 1 + 1 by omega) _)⟩
  . simp at hb
theorem allT3_eq (ax ay bx by' cx cy:Int):allT3 ax ay bx by' cx cy=((tame ax && tame ay) && (tame bx && tame by') && (tame cx && tame cy)):=rfl
theorem oSign_ok {ax ay bx by' cx cy:Int} (rax:rng ax) (ray:rng ay) (rbx:rng bx) (rby:rng by') (rcx:rng cx) (rcy:rng cy) (pax:pok ax=true) (pay:pok ay=true) (pbx:pok bx=true) (pby:pok by'=true) (pcx:pok cx=true) (pcy:pok cy=true) (w:World) (H:Hold4 w) :
    Calls Tryz.prog 8 #[.agg #[.int .i64 ax,.int .i64 ay],.agg #[.int .i64 bx,.int .i64 by'],.agg #[.int .i64 cx,.int .i64 cy]] w fun r w'=>r=.returned (.tuple #[.agg #[.int .i64 (ord (oDet ax ay bx by' cx cy) 0),.int .i64 (oSt ax ay bx by' cx cy)],.int .i64 0])∧Below w.heap.size w w':=by
  cases hT:allT3 ax ay bx by' cx cy
  . have CP:∀ W,Calls Tryz.prog 19 #[.agg #[.int .i64 ax,.int .i64 ay],.agg #[.int .i64 bx,.int .i64 by'],.agg #[.int .i64 cx,.int .i64 cy]] W fun r w'=>r=.returned (.bool true)∧Below W.heap.size W w':=fun W=>by
      have:=opoints_any rax ray rbx rby rcx rcy W
      rw [pax,pay,pbx,pby,pcx,pcy] at this
      exact this
    cases hk:sgK (owLo ax ay bx by' cx cy) (owHi ax ay bx by' cx cy)
    . have e:oSt ax ay bx by' cx cy=6:=by unfold oSt; rw [hT,hk]; rfl
      rw [e]
      exact oSign_wild (hT ▸ (allT3_eq ax ay bx by' cx cy).symm) (fun W=>o_tame rax ray W) (fun W=>o_tame rbx rby W) (fun W=>o_tame rcx rcy W) CP (fun W h=>oWild_no rax ray rbx rby rcx rcy pax pay pbx pby pcx pcy hk W h) w H
    . have e:oSt ax ay bx by' cx cy=5:=by unfold oSt; rw [hT,hk]; rfl
      rw [e]
      exact oSign_wild (hT ▸ (allT3_eq ax ay bx by' cx cy).symm) (fun W=>o_tame rax ray W) (fun W=>o_tame rbx rby W) (fun W=>o_tame rcx rcy W) CP (fun W h=>oWild_yes rax ray rbx rby rcx rcy pax pay pbx pby pcx pcy hk W h) w H
  . obtain ⟨hax,hay,hbx,hby,hcx,hcy⟩:=tame3 rax ray rbx rby rcx rcy hT
    have e:oSt ax ay bx by' cx cy=oStT ax ay bx by' cx cy:=by unfold oSt; rw [hT]; rfl
    rw [e]
    exact oSign_walk (hT ▸ (allT3_eq ax ay bx by' cx cy).symm) (fun W=>o_tame rax ray W) (fun W=>o_tame rbx rby W) (fun W=>o_tame rcx rcy W) (fun W h=>oTame_ok hax hay hbx hby hcx hcy W h) w H
theorem oSign_no {ax ay bx by' cx cy:Int} (rax:rng ax) (ray:rng ay) (rbx:rng bx) (rby:rng by') (rcx:rng cx) (rcy:rng cy) (hno:((pok ax && pok ay) && (pok bx && pok by') && (pok cx && pok cy))=false) (w:World) (H:Hold4 w) :
    Calls Tryz.prog 8 #[.agg #[.int .i64 ax,.int .i64 ay],.agg #[.int .i64 bx,.int .i64 by'],.agg #[.int .i64 cx,.int .i64 cy]] w fun r w'=>r=.returned (.tuple #[.agg #[.int .i64 0,.int .i64 0],.int .i64 10])∧Below w.heap.size w w':=by
  have hT:allT3 ax ay bx by' cx cy=false:=by
    cases h:allT3 ax ay bx by' cx cy
    . rfl
    . obtain ⟨hax,hay,hbx,hby,hcx,hcy⟩:=tame3 rax ray rbx rby rcx rcy h
      rw [hax.2.1,hay.2.1,hbx.2.1,hby.2.1,hcx.2.1,hcy.2.1] at hno
      cases hno
  have CP:∀ W,Calls Tryz.prog 19 #[.agg #[.int .i64 ax,.int .i64 ay],.agg #[.int .i64 bx,.int .i64 by'],.agg #[.int .i64 cx,.int .i64 cy]] W fun r w'=>r=.returned (.bool false)∧Below W.heap.size W w':=fun W=>by
    have:=opoints_any rax ray rbx rby rcx rcy W
    rw [hno] at this
    exact this
  exact oSign_none (V:=0) (U:=0) (hT ▸ (allT3_eq ax ay bx by' cx cy).symm) (fun W=>o_tame rax ray W) (fun W=>o_tame rbx rby W) (fun W=>o_tame rcx rcy W) CP w H
set_option maxRecDepth 100000 in
set_option maxHeartbeats 2000000 in
theorem oExactF_yes {ax ay bx by' cx cy:Int} (rax:rng ax) (ray:rng ay) (rbx:rng bx) (rby:rng by') (rcx:rng cx) (rcy:rng cy) (pax:pok ax=true) (pay:pok ay=true) (pbx:pok bx=true) (pby:pok by'=true) (pcx:pok cx=true) (pcy:pok cy=true) (w:World) (H:Hold4 w) :
    Calls Tryz.prog 9 #[.agg #[.int .i64 ax,.int .i64 ay],.agg #[.int .i64 bx,.int .i64 by'],.agg #[.int .i64 cx,.int .i64 cy]] w fun r w'=>∃ v V,r=.returned (.tuple #[v,.int .i64 0])∧DAns w w' V v∧Det (patV ax - patV cx) (patV ay - patV cy) (patV bx - patV cx) (patV by' - patV cy) V∧Bd 8100 V:=by
  have CP:Hid (∀ W,Calls Tryz.prog 19 #[.agg #[.int .i64 ax,.int .i64 ay],.agg #[.int .i64 bx,.int .i64 by'],.agg #[.int .i64 cx,.int .i64 cy]] W fun r w'=>r=.returned (.bool true)∧Below W.heap.size W w'):=fun W=>by
    have:=opoints_any rax ray rbx rby rcx rcy W
    rw [pax,pay,pbx,pby,pcx,pcy] at this
    exact this
  have CE:Hid (∀ W,Hold4 W->Calls Tryz.prog 21 #[.agg #[.int .i64 ax,.int .i64 ay],.agg #[.int .i64 bx,.int .i64 by'],.agg #[.int .i64 cx,.int .i64 cy]] W fun r w'=>∃ v V,r=.returned v∧DAns W w' V v∧Det (patV ax - patV cx) (patV ay - patV cy) (patV bx - patV cx) (patV by' - patV cy) V∧Bd 8100 V):=fun W h=>oexact_any pax pay pbx pby pcx pcy W h
  clear rax ray rbx rby rcx rcy pax pay pbx pby pcx pcy
  have hb0:=bel_a4 w (.cells #[.int .i64 ax,.int .i64 ay] 23) (.cells #[.int .i64 bx,.int .i64 by'] 23) (.cells #[.int .i64 cx,.int .i64 cy] 23) (.cells #[.bool false,.slice none 0 0,.int .i64 0] 32)
  have a_k:=h4_0 w (.cells #[.int .i64 ax,.int .i64 ay] 23) (.cells #[.int .i64 bx,.int .i64 by'] 23) (.cells #[.int .i64 cx,.int .i64 cy] 23) (.cells #[.bool false,.slice none 0 0,.int .i64 0] 32)
  have b_k:=h4_1 w (.cells #[.int .i64 ax,.int .i64 ay] 23) (.cells #[.int .i64 bx,.int .i64 by'] 23) (.cells #[.int .i64 cx,.int .i64 cy] 23) (.cells #[.bool false,.slice none 0 0,.int .i64 0] 32)
  have c_k:=h4_2 w (.cells #[.int .i64 ax,.int .i64 ay] 23) (.cells #[.int .i64 bx,.int .i64 by'] 23) (.cells #[.int .i64 cx,.int .i64 cy] 23) (.cells #[.bool false,.slice none 0 0,.int .i64 0] 32)
  have r_k:=h4_3 w (.cells #[.int .i64 ax,.int .i64 ay] 23) (.cells #[.int .i64 bx,.int .i64 by'] 23) (.cells #[.int .i64 cx,.int .i64 cy] 23) (.cells #[.bool false,.slice none 0 0,.int .i64 0] 32)
  go_enter Tryz.func9,Tryz.ntmps9
  go_wp2_with fail
  generalize (((w.alloc (.cells #[.int .i64 ax,.int .i64 ay] 23)).alloc (.cells #[.int .i64 bx,.int .i64 by'] 23)).alloc (.cells #[.int .i64 cx,.int .i64 cy] 23)).alloc (.cells #[.bool false,.slice none 0 0,.int .i64 0] 32)=x0 at hb0 a_k b_k c_k r_k ⊢
  refine (CP.out _).mono ?_
  rintro _ y1 ⟨rfl,hw1⟩
  have a_k:=(hw1.block _ (Array.getElem?_eq_some_iff.1 a_k).1).trans a_k
  have b_k:=(hw1.block _ (Array.getElem?_eq_some_iff.1 b_k).1).trans b_k
  have c_k:=(hw1.block _ (Array.getElem?_eq_some_iff.1 c_k).1).trans c_k
  have r_k:=(hw1.block _ (Array.getElem?_eq_some_iff.1 r_k).1).trans r_k
  have hb1:=bel_trans hb0 hw1
  have H:=H.keeps hb1
  have f_a0:=blkC a_k 0 rfl
  have f_a1:=blkC a_k 1 rfl
  have f_b0:=blkC b_k 0 rfl
  have f_b1:=blkC b_k 1 rfl
  have f_c0:=blkC c_k 0 rfl
  have f_c1:=blkC c_k 1 rfl
  have hs0:=(Array.getElem?_eq_some_iff.1 r_k).1
  go_wp2_with fail
  refine (CE.out _ H).mono ?_
  rintro _ y2 ⟨v,V,rfl,h2,hD,hB⟩
  obtain ⟨n_g,n_o,n_n,n_c,n_e,rfl⟩:=dans_shape h2
  have hw2:=h2.below
  have r_k:=(hw2.block _ (Array.getElem?_eq_some_iff.1 r_k).1).trans r_k
  have k0:=blkC r_k 0 rfl
  have z0:=blkF r_k 0
  have k1:=blkC r_k 1 rfl
  have z1:=blkF r_k 1
  have k2:=blkC r_k 2 rfl
  have z2:=blkF r_k 2
  go_wp2
  refine bodyPost_ret (v:=.tuple #[.agg #[.bool n_g,.slice n_o n_n n_c,.int .i64 n_e],.int .i64 0]) (by simp [results,Tryz.results9,go_sem,k0,k1,k2]) rfl ⟨_,V,rfl,?_,hD,hB⟩
  exact dans_res3 (g:=w.heap.size + 3) h2 hb1 (by omega) hs0 _ _ _
set_option maxRecDepth 100000 in
set_option maxHeartbeats 2000000 in
theorem oExactF_no {ax ay bx by' cx cy:Int} (rax:rng ax) (ray:rng ay) (rbx:rng bx) (rby:rng by') (rcx:rng cx) (rcy:rng cy) (hno:((pok ax && pok ay) && (pok bx && pok by') && (pok cx && pok cy))=false) (w:World) :
    Calls Tryz.prog 9 #[.agg #[.int .i64 ax,.int .i64 ay],.agg #[.int .i64 bx,.int .i64 by'],.agg #[.int .i64 cx,.int .i64 cy]] w fun r w'=>r=.returned (.tuple #[.agg #[.bool false,.slice none 0 0,.int .i64 0],.int .i64 10])∧Below w.heap.size w w':=by
  have CP:Hid (∀ W,Calls Tryz.prog 19 #[.agg #[.int .i64 ax,.int .i64 ay],.agg #[.int .i64 bx,.int .i64 by'],.agg #[.int .i64 cx,.int .i64 cy]] W fun r w'=>r=.returned (.bool false)∧Below W.heap.size W w'):=fun W=>by
    have:=opoints_any rax ray rbx rby rcx rcy W
    rw [hno] at this
    exact this
  clear rax ray rbx rby rcx rcy hno
  have hb0:=bel_a4 w (.cells #[.int .i64 ax,.int .i64 ay] 23) (.cells #[.int .i64 bx,.int .i64 by'] 23) (.cells #[.int .i64 cx,.int .i64 cy] 23) (.cells #[.bool false,.slice none 0 0,.int .i64 0] 32)
  have a_k:=h4_0 w (.cells #[.int .i64 ax,.int .i64 ay] 23) (.cells #[.int .i64 bx,.int .i64 by'] 23) (.cells #[.int .i64 cx,.int .i64 cy] 23) (.cells #[.bool false,.slice none 0 0,.int .i64 0] 32)
  have b_k:=h4_1 w (.cells #[.int .i64 ax,.int .i64 ay] 23) (.cells #[.int .i64 bx,.int .i64 by'] 23) (.cells #[.int .i64 cx,.int .i64 cy] 23) (.cells #[.bool false,.slice none 0 0,.int .i64 0] 32)
  have c_k:=h4_2 w (.cells #[.int .i64 ax,.int .i64 ay] 23) (.cells #[.int .i64 bx,.int .i64 by'] 23) (.cells #[.int .i64 cx,.int .i64 cy] 23) (.cells #[.bool false,.slice none 0 0,.int .i64 0] 32)
  have r_k:=h4_3 w (.cells #[.int .i64 ax,.int .i64 ay] 23) (.cells #[.int .i64 bx,.int .i64 by'] 23) (.cells #[.int .i64 cx,.int .i64 cy] 23) (.cells #[.bool false,.slice none 0 0,.int .i64 0] 32)
  go_enter Tryz.func9,Tryz.ntmps9
  go_wp2_with fail
  generalize (((w.alloc (.cells #[.int .i64 ax,.int .i64 ay] 23)).alloc (.cells #[.int .i64 bx,.int .i64 by'] 23)).alloc (.cells #[.int .i64 cx,.int .i64 cy] 23)).alloc (.cells #[.bool false,.slice none 0 0,.int .i64 0] 32)=x0 at hb0 a_k b_k c_k r_k ⊢
  refine (CP.out _).mono ?_
  rintro _ y1 ⟨rfl,hw1⟩
  have a_k:=(hw1.block _ (Array.getElem?_eq_some_iff.1 a_k).1).trans a_k
  have b_k:=(hw1.block _ (Array.getElem?_eq_some_iff.1 b_k).1).trans b_k
  have c_k:=(hw1.block _ (Array.getElem?_eq_some_iff.1 c_k).1).trans c_k
  have r_k:=(hw1.block _ (Array.getElem?_eq_some_iff.1 r_k).1).trans r_k
  have hb1:=bel_trans hb0 hw1
  have k0:=blkC r_k 0 rfl
  have z0:=blkF r_k 0
  have k1:=blkC r_k 1 rfl
  have z1:=blkF r_k 1
  have k2:=blkC r_k 2 rfl
  have z2:=blkF r_k 2
  go_wp2
  refine bodyPost_ret (v:=.tuple #[.agg #[.bool false,.slice none 0 0,.int .i64 0],.int .i64 10]) (by simp [results,Tryz.results9,go_sem,k0,k1,k2]) rfl ⟨rfl,by first | exact bel_set3 hb1 (by omega) _ _ _ | exact hb1⟩
set_option maxRecDepth 100000 in
set_option maxHeartbeats 1000000 in
theorem oSig {w:World} {g:Bool} {o:Option Addr} {n c:Nat} {e V:Int} (h:DNum w (.agg #[.bool g,.slice o n c,.int .i64 e]) V) :
    Calls Tryz.prog 11 #[.agg #[.bool g,.slice o n c,.int .i64 e]] w fun r w'=>r=.returned (.int .i64 (ord V 0))∧Below w.heap.size w w':=by
  obtain ⟨hs,hm⟩:=sgn_ord h
  rw [<- hs]
  clear hs h
  have b_k:=heap_a1 w (.cells #[.bool g,.slice o n c,.int .i64 e] 32)
  have f0:=blkC b_k 0 rfl
  have f1:=blkC b_k 1 rfl
  unfold sgn
  by_cases hn:n=0
  . subst hn
    rw [if_pos rfl]
    go_enter Tryz.func11,Tryz.ntmps11
    go_wp2
    go_ret
    exact ⟨rfl,bel_alloc _ _⟩
  . have hn':¬ (n:Int)=0:=by omega
    rw [if_neg hn]
    cases g
    . go_enter Tryz.func11,Tryz.ntmps11
      go_wp2
      go_ret
      exact ⟨rfl,bel_alloc _ _⟩
    . go_enter Tryz.func11,Tryz.ntmps11
      go_wp2
      go_ret
      exact ⟨rfl,bel_alloc _ _⟩
end Go.Proofs.YtafnigjehkpggaaGreatDoor
namespace Go.Proofs.YtafnigjehkpggaaGreatDoor
open Go Go.ChangeShapes Go.WideShapes Go.ChangeAt Go.RowKit Go.Proofs.YtafnigjehkpggaaGreatDoor.M
set_option linter.unusedSimpArgs false
set_option linter.unusedVariables false
theorem q_cellsPoint:Tryz.prog.cellsOf 23=2:=by kernel_rfl
theorem q_cellsInt:Tryz.prog.cellsOf 3=1:=by kernel_rfl
set_option maxRecDepth 100000 in
theorem point_cells {H:Type} {enc:TypeId × Value->H} {W:World} {n:Nat} {cs:List Value} {x:DataW H × List MemPlace}
    (h:DataW.trod enc Tryz.prog W 0 (fun _=>true) true n 23 cs=some x) :
    ∃ a b:Int,cs=[.int .i64 a,.int .i64 b]∧rng a∧rng b:=by
  obtain ⟨xs,m,_,rfl,hl,hlen,hf⟩:=DataW.trod_struct Tryz.underlying23 h
  rw [q_cellsPoint] at hl
  match cs,hl with
  | [v0,v1],_=>
    match xs,hlen with
    | [y0,y1],_=>
      have f0:DataW.trod enc Tryz.prog W 0 (fun _=>true) true m 3 (([v0,v1].drop 0).take (Tryz.prog.cellsOf 3))=some y0:=hf 0 _ rfl
      have f1:DataW.trod enc Tryz.prog W 0 (fun _=>true) true m 3 (([v0,v1].drop 1).take (Tryz.prog.cellsOf 3))=some y1:=hf 1 _ rfl
      rw [q_cellsInt] at f0 f1
      simp only [List.drop_zero,List.drop_succ_cons,List.take_succ_cons,List.take_zero] at f0 f1
      obtain ⟨k0,e0,_,w0⟩:=DataW.trod_int Tryz.underlying3 f0
      obtain ⟨k1,e1,_,w1⟩:=DataW.trod_int Tryz.underlying3 f1
      simp at e0 e1
      subst e0 e1
      exact ⟨k0,k1,rfl,rng_of w0,rng_of w1⟩
set_option maxRecDepth 100000 in
theorem point_of {H:Type} {enc:TypeId × Value->H} {W:World} {base:Nat} {v:Value} {d:DataW H} {p:List MemPlace} (hv:Value.okWide Tryz.prog W .any base 23 v)
    (h:DataW.Trod enc Tryz.prog W 0 (fun _=>true) true 23 v d p):∃ a b:Int,v=.agg #[.int .i64 a,.int .i64 b]∧rng a∧rng b:=by
  obtain ⟨cs,rfl,hc⟩:=okWide_struct Tryz.underlying23 hv
  obtain ⟨fuel,hf⟩:=h
  obtain ⟨a,b,hr,h1,h2⟩:=point_cells hf
  refine ⟨a,b,?_,h1,h2⟩
  congr 1
  have:cs.toList=[.int .i64 a,.int .i64 b]:=by simpa [Value.cells] using hr
  exact Array.toList_inj.1 this
end Go.Proofs.YtafnigjehkpggaaGreatDoor
