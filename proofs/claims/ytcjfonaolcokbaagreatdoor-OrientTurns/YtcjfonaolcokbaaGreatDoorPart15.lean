/- Parts of the proof. -/
import Derived.Test.YtcjfonaolcokbaaGreatDoorPart14
set_option maxRecDepth 100000
set_option maxHeartbeats 8000000
set_option linter.unusedVariables false
set_option linter.unusedSimpArgs false
namespace Go.Proofs.YtcjfonaolcokbaaGreatDoor
open Go Go.RowKit Go.Proofs.YtcjfonaolcokbaaGreatDoor.M
theorem rM {ax ay bx by' cx cy:Int} (rax:aj ax) (ray:aj ay) (rbx:aj bx) (rby:aj by') (rcx:aj cx) (rcy:aj cy) (w:World) :
  Calls Tryz.prog 14 #[.agg #[.int .i64 ax,.int .i64 ay],.agg #[.int .i64 bx,.int .i64 by'],.agg #[.int .i64 cx,.int .i64 cy]] w fun r w'=>r=.returned (.bool ((ak ax && ak ay) && (ak bx && ak by') && (ak cx && ak cy)))∧Below w.heap.size w w':=by
 have CA:Hid (∀ W,Calls Tryz.prog 28 #[.agg #[.int .i64 ax,.int .i64 ay]] W fun e w'=>e=.returned (.int .i64 (mp (ak ax && ak ay)))∧Below W.heap.size W w'):=fun W=>oP rax ray W
 have CB:Hid (∀ W,Calls Tryz.prog 28 #[.agg #[.int .i64 bx,.int .i64 by']] W fun e w'=>e=.returned (.int .i64 (mp (ak bx && ak by')))∧Below W.heap.size W w'):=fun W=>oP rbx rby W
 have CC:Hid (∀ W,Calls Tryz.prog 28 #[.agg #[.int .i64 cx,.int .i64 cy]] W fun e w'=>e=.returned (.int .i64 (mp (ak cx && ak cy)))∧Below W.heap.size W w'):=fun W=>oP rcx rcy W
 have hb0:=nI w (.cells #[.int .i64 ax,.int .i64 ay] 23) (.cells #[.int .i64 bx,.int .i64 by'] 23) (.cells #[.int .i64 cx,.int .i64 cy] 23)
 have a_k:=xk w (.cells #[.int .i64 ax,.int .i64 ay] 23) (.cells #[.int .i64 bx,.int .i64 by'] 23) (.cells #[.int .i64 cx,.int .i64 cy] 23)
 have b_k:=xl w (.cells #[.int .i64 ax,.int .i64 ay] 23) (.cells #[.int .i64 bx,.int .i64 by'] 23) (.cells #[.int .i64 cx,.int .i64 cy] 23)
 have c_k:=xm w (.cells #[.int .i64 ax,.int .i64 ay] 23) (.cells #[.int .i64 bx,.int .i64 by'] 23) (.cells #[.int .i64 cx,.int .i64 cy] 23)
 clear rax ray rbx rby rcx rcy
 have e0:mp true=0:=rfl
 have e1:mp false=10:=rfl
 generalize (ak ax && ak ay)=P at *
 generalize (ak bx && ak by')=Q at *
 generalize (ak cx && ak cy)=R at *
 cases P
 ·rw [e1] at CA
  go_enter Tryz.func14,Tryz.ntmps14
  go_wp2_with fail
  generalize ((w.alloc (.cells #[.int .i64 ax,.int .i64 ay] 23)).alloc (.cells #[.int .i64 bx,.int .i64 by'] 23)).alloc (.cells #[.int .i64 cx,.int .i64 cy] 23)=x0 at hb0 a_k b_k c_k ⊢
  refine (CA.out _).mono ?_
  rintro _ y0 ⟨rfl,hw0⟩
  have b_k:=(hw0.block _ (Array.getElem?_eq_some_iff.1 b_k).1).trans b_k
  have c_k:=(hw0.block _ (Array.getElem?_eq_some_iff.1 c_k).1).trans c_k
  have hb1:=aa hb0 hw0
  go_wp2
  all_goals go_ret
  all_goals exact ⟨rfl,by first | exact hb1 | exact hb1.drew⟩
 rw [e0] at CA
 cases Q
 ·rw [e1] at CB
  go_enter Tryz.func14,Tryz.ntmps14
  go_wp2_with fail
  generalize ((w.alloc (.cells #[.int .i64 ax,.int .i64 ay] 23)).alloc (.cells #[.int .i64 bx,.int .i64 by'] 23)).alloc (.cells #[.int .i64 cx,.int .i64 cy] 23)=x0 at hb0 a_k b_k c_k ⊢
  refine (CA.out _).mono ?_
  rintro _ y0 ⟨rfl,hw0⟩
  have b_k:=(hw0.block _ (Array.getElem?_eq_some_iff.1 b_k).1).trans b_k
  have c_k:=(hw0.block _ (Array.getElem?_eq_some_iff.1 c_k).1).trans c_k
  have hb1:=aa hb0 hw0
  have f10:=ac b_k 0 rfl
  have f11:=ac b_k 1 rfl
  go_wp2_with fail
  refine (CB.out _).mono ?_
  rintro _ y1 ⟨rfl,hw1⟩
  have c_k:=(hw1.block _ (Array.getElem?_eq_some_iff.1 c_k).1).trans c_k
  have hb2:=aa hb1 hw1
  go_wp2
  all_goals go_ret
  all_goals exact ⟨rfl,by first | exact hb2 | exact hb2.drew⟩
 rw [e0] at CB
 cases R
 ·rw [e1] at CC
  go_enter Tryz.func14,Tryz.ntmps14
  go_wp2_with fail
  generalize ((w.alloc (.cells #[.int .i64 ax,.int .i64 ay] 23)).alloc (.cells #[.int .i64 bx,.int .i64 by'] 23)).alloc (.cells #[.int .i64 cx,.int .i64 cy] 23)=x0 at hb0 a_k b_k c_k ⊢
  refine (CA.out _).mono ?_
  rintro _ y0 ⟨rfl,hw0⟩
  have b_k:=(hw0.block _ (Array.getElem?_eq_some_iff.1 b_k).1).trans b_k
  have c_k:=(hw0.block _ (Array.getElem?_eq_some_iff.1 c_k).1).trans c_k
  have hb1:=aa hb0 hw0
  have f10:=ac b_k 0 rfl
  have f11:=ac b_k 1 rfl
  go_wp2_with fail
  refine (CB.out _).mono ?_
  rintro _ y1 ⟨rfl,hw1⟩
  have c_k:=(hw1.block _ (Array.getElem?_eq_some_iff.1 c_k).1).trans c_k
  have hb2:=aa hb1 hw1
  have f20:=ac c_k 0 rfl
  have f21:=ac c_k 1 rfl
  go_wp2_with fail
  refine (CC.out _).mono ?_
  rintro _ y2 ⟨rfl,hw2⟩
  have hb3:=aa hb2 hw2
  go_wp2
  all_goals go_ret
  all_goals exact ⟨rfl,by first | exact hb3 | exact hb3.drew⟩
 ·rw [e0] at CC
  go_enter Tryz.func14,Tryz.ntmps14
  go_wp2_with fail
  generalize ((w.alloc (.cells #[.int .i64 ax,.int .i64 ay] 23)).alloc (.cells #[.int .i64 bx,.int .i64 by'] 23)).alloc (.cells #[.int .i64 cx,.int .i64 cy] 23)=x0 at hb0 a_k b_k c_k ⊢
  refine (CA.out _).mono ?_
  rintro _ y0 ⟨rfl,hw0⟩
  have b_k:=(hw0.block _ (Array.getElem?_eq_some_iff.1 b_k).1).trans b_k
  have c_k:=(hw0.block _ (Array.getElem?_eq_some_iff.1 c_k).1).trans c_k
  have hb1:=aa hb0 hw0
  have f10:=ac b_k 0 rfl
  have f11:=ac b_k 1 rfl
  go_wp2_with fail
  refine (CB.out _).mono ?_
  rintro _ y1 ⟨rfl,hw1⟩
  have c_k:=(hw1.block _ (Array.getElem?_eq_some_iff.1 c_k).1).trans c_k
  have hb2:=aa hb1 hw1
  have f20:=ac c_k 0 rfl
  have f21:=ac c_k 1 rfl
  go_wp2_with fail
  refine (CC.out _).mono ?_
  rintro _ y2 ⟨rfl,hw2⟩
  have hb3:=aa hb2 hw2
  go_wp2
  all_goals go_ret
  all_goals exact ⟨rfl,by first | exact hb3 | exact hb3.drew⟩
theorem wm {ax ay bx by' cx cy:Int} (rax:aj ax) (ray:aj ay) (rbx:aj bx) (rby:aj by') (rcx:aj cx) (rcy:aj cy) (w:World) :
  Calls Tryz.prog 5 #[.agg #[.int .i64 ax,.int .i64 ay],.agg #[.int .i64 bx,.int .i64 by'],.agg #[.int .i64 cx,.int .i64 cy]] w fun r w'=>r=.returned (.bool ((ak ax && ak ay) && (ak bx && ak by') && (ak cx && ak cy)))∧Below w.heap.size w w':=by
 have CA:Hid (∀ W,Calls Tryz.prog 11 #[.agg #[.int .i64 ax,.int .i64 ay]] W fun e w'=>e=.returned (.bool (ak ax && ak ay))∧Below W.heap.size W w'):=fun W=>ns rax ray W
 have CB:Hid (∀ W,Calls Tryz.prog 11 #[.agg #[.int .i64 bx,.int .i64 by']] W fun e w'=>e=.returned (.bool (ak bx && ak by'))∧Below W.heap.size W w'):=fun W=>ns rbx rby W
 have CC:Hid (∀ W,Calls Tryz.prog 11 #[.agg #[.int .i64 cx,.int .i64 cy]] W fun e w'=>e=.returned (.bool (ak cx && ak cy))∧Below W.heap.size W w'):=fun W=>ns rcx rcy W
 have hb0:=nI w (.cells #[.int .i64 ax,.int .i64 ay] 23) (.cells #[.int .i64 bx,.int .i64 by'] 23) (.cells #[.int .i64 cx,.int .i64 cy] 23)
 have a_k:=xk w (.cells #[.int .i64 ax,.int .i64 ay] 23) (.cells #[.int .i64 bx,.int .i64 by'] 23) (.cells #[.int .i64 cx,.int .i64 cy] 23)
 have b_k:=xl w (.cells #[.int .i64 ax,.int .i64 ay] 23) (.cells #[.int .i64 bx,.int .i64 by'] 23) (.cells #[.int .i64 cx,.int .i64 cy] 23)
 have c_k:=xm w (.cells #[.int .i64 ax,.int .i64 ay] 23) (.cells #[.int .i64 bx,.int .i64 by'] 23) (.cells #[.int .i64 cx,.int .i64 cy] 23)
 clear rax ray rbx rby rcx rcy
 have e0:mp true=0:=rfl
 have e1:mp false=10:=rfl
 generalize (ak ax && ak ay)=P at *
 generalize (ak bx && ak by')=Q at *
 generalize (ak cx && ak cy)=R at *
 cases P <;> cases Q <;> cases R
 all_goals
  go_enter Tryz.func5,Tryz.ntmps5
  go_wp2_with fail
  generalize ((w.alloc (.cells #[.int .i64 ax,.int .i64 ay] 23)).alloc (.cells #[.int .i64 bx,.int .i64 by'] 23)).alloc (.cells #[.int .i64 cx,.int .i64 cy] 23)=x0 at hb0 a_k b_k c_k ⊢
  refine (CA.out _).mono ?_
  rintro _ y0 ⟨rfl,hw0⟩
  have b_k:=(hw0.block _ (Array.getElem?_eq_some_iff.1 b_k).1).trans b_k
  have c_k:=(hw0.block _ (Array.getElem?_eq_some_iff.1 c_k).1).trans c_k
  have hb1:=aa hb0 hw0
  have f10:=ac b_k 0 rfl
  have f11:=ac b_k 1 rfl
  go_wp2_with fail
  refine (CB.out _).mono ?_
  rintro _ y1 ⟨rfl,hw1⟩
  have c_k:=(hw1.block _ (Array.getElem?_eq_some_iff.1 c_k).1).trans c_k
  have hb2:=aa hb1 hw1
  have f20:=ac c_k 0 rfl
  have f21:=ac c_k 1 rfl
  go_wp2_with fail
  refine (CC.out _).mono ?_
  rintro _ y2 ⟨rfl,hw2⟩
  have hb3:=aa hb2 hw2
  go_wp2
  all_goals go_ret
  all_goals exact ⟨rfl,by first | exact hb3 | exact hb3.drew⟩
def n7 (ax ay bx by' cx cy:Int):Int:=if lR ax ay bx by' cx cy then sT ax ay bx by' cx cy else if pB (lD ax ay bx by' cx cy) (lE ax ay bx by' cx cy) then 5 else 6
theorem Cj {ax ay bx by' cx cy V U:Int} {b1 b2 b3:Bool} (hb:(b1 && b2 && b3)=true) (T1:∀ W,Calls Tryz.prog 12 #[.agg #[.int .i64 ax,.int .i64 ay]] W fun e w'=>e=.returned (.bool b1)∧Below W.heap.size W w') (T2:∀ W,Calls Tryz.prog 12 #[.agg #[.int .i64 bx,.int .i64 by']] W fun e w'=>e=.returned (.bool b2)∧Below W.heap.size W w') (T3:∀ W,Calls Tryz.prog 12 #[.agg #[.int .i64 cx,.int .i64 cy]] W fun e w'=>e=.returned (.bool b3)∧Below W.heap.size W w')
  (CV:∀ W,aD W->Calls Tryz.prog 13 #[.agg #[.int .i64 ax,.int .i64 ay],.agg #[.int .i64 bx,.int .i64 by'],.agg #[.int .i64 cx,.int .i64 cy]] W fun r w'=>r=.returned (.agg #[.int .i64 V,.int .i64 U])∧Below W.heap.size W w') (w:World) (H:aD w) :
  Calls Tryz.prog 6 #[.agg #[.int .i64 ax,.int .i64 ay],.agg #[.int .i64 bx,.int .i64 by'],.agg #[.int .i64 cx,.int .i64 cy]] w fun r w'=>r=.returned (.tuple #[.agg #[.int .i64 V,.int .i64 U],.int .i64 0])∧Below w.heap.size w w':=by
 obtain ⟨⟨rfl,rfl⟩,rfl⟩:(b1=true∧b2=true)∧b3=true:=by simpa using hb
 clear hb
 have h1:Hid _:=cH T1
 have h2:Hid _:=cH T2
 have h3:Hid _:=cH T3
 have h4:Hid _:=cH CV
 clear T1 T2 T3 CV
 obtain ⟨hb0,a_k,b_k,c_k,r_k,hsz0⟩:=tV w (.cells #[.int .i64 ax,.int .i64 ay] 23) (.cells #[.int .i64 bx,.int .i64 by'] 23) (.cells #[.int .i64 cx,.int .i64 cy] 23) (.cells #[.int .i64 0,.int .i64 0] 28)
 clear hsz0
 have f_a0:=ac a_k 0 rfl
 have f_a1:=ac a_k 1 rfl
 go_enter Tryz.func6,Tryz.ntmps6
 go_wp2_with fail
 clear f_a0 f_a1
 generalize ((((w.alloc (.cells #[.int .i64 ax,.int .i64 ay] 23)).alloc (.cells #[.int .i64 bx,.int .i64 by'] 23)).alloc (.cells #[.int .i64 cx,.int .i64 cy] 23)).alloc (.cells #[.int .i64 0,.int .i64 0] 28))=x0 at hb0 a_k b_k c_k r_k ⊢
 refine (h1.out _).mono ?_
 rintro _ y1 ⟨rfl,hw1⟩
 replace a_k:=am hw1 a_k
 replace b_k:=am hw1 b_k
 replace c_k:=am hw1 c_k
 replace r_k:=am hw1 r_k
 replace hb0:=aa hb0 hw1
 have f_b0:=ac b_k 0 rfl
 have f_b1:=ac b_k 1 rfl
 go_wp2_with fail
 clear f_b0 f_b1
 refine (h2.out _).mono ?_
 rintro _ y2 ⟨rfl,hw2⟩
 replace a_k:=am hw2 a_k
 replace b_k:=am hw2 b_k
 replace c_k:=am hw2 c_k
 replace r_k:=am hw2 r_k
 replace hb0:=aa hb0 hw2
 have f_c0:=ac c_k 0 rfl
 have f_c1:=ac c_k 1 rfl
 go_wp2_with fail
 clear f_c0 f_c1
 refine (h3.out _).mono ?_
 rintro _ y3 ⟨rfl,hw3⟩
 replace a_k:=am hw3 a_k
 replace b_k:=am hw3 b_k
 replace c_k:=am hw3 c_k
 replace r_k:=am hw3 r_k
 replace hb0:=aa hb0 hw3
 have f_a0:=ac a_k 0 rfl
 have f_a1:=ac a_k 1 rfl
 have f_b0:=ac b_k 0 rfl
 have f_b1:=ac b_k 1 rfl
 have f_c0:=ac c_k 0 rfl
 have f_c1:=ac c_k 1 rfl
 go_wp2_with fail
 clear f_a0 f_a1 f_b0 f_b1 f_c0 f_c1
 replace H:=H.keeps hb0
 refine (h4.out _ H).mono ?_
 rintro _ y4 ⟨rfl,hw4⟩
 replace r_k:=am hw4 r_k
 replace hb0:=aa hb0 hw4
 have k0:=ac r_k 0 rfl
 have k1:=ac r_k 1 rfl
 have z0:=aw r_k 0
 have z1:=aw r_k 1
 go_wp2
 exact bodyPost_ret (v:=.tuple #[.agg #[.int .i64 V,.int .i64 U],.int .i64 0]) (by simp [results,Tryz.results6,go_sem,k0,k1]) rfl ⟨rfl,((hb0.setCell (p:=⟨w.heap.size+1+1+1,0,none⟩) (show w.heap.size<=w.heap.size+1+1+1 by omega) _).setCell (p:=⟨w.heap.size+1+1+1,1,none⟩) (show w.heap.size<=w.heap.size+1+1+1 by omega) _)⟩
theorem Ck {ax ay bx by' cx cy V U:Int} {b1 b2 b3:Bool} (hb:(b1 && b2 && b3)=false) (T1:∀ W,Calls Tryz.prog 12 #[.agg #[.int .i64 ax,.int .i64 ay]] W fun e w'=>e=.returned (.bool b1)∧Below W.heap.size W w') (T2:∀ W,Calls Tryz.prog 12 #[.agg #[.int .i64 bx,.int .i64 by']] W fun e w'=>e=.returned (.bool b2)∧Below W.heap.size W w') (T3:∀ W,Calls Tryz.prog 12 #[.agg #[.int .i64 cx,.int .i64 cy]] W fun e w'=>e=.returned (.bool b3)∧Below W.heap.size W w')
  (CP:∀ W,Calls Tryz.prog 14 #[.agg #[.int .i64 ax,.int .i64 ay],.agg #[.int .i64 bx,.int .i64 by'],.agg #[.int .i64 cx,.int .i64 cy]] W fun r w'=>r=.returned (.bool true)∧Below W.heap.size W w')
  (CV:∀ W,aD W->Calls Tryz.prog 15 #[.agg #[.int .i64 ax,.int .i64 ay],.agg #[.int .i64 bx,.int .i64 by'],.agg #[.int .i64 cx,.int .i64 cy]] W fun r w'=>r=.returned (.agg #[.int .i64 V,.int .i64 U])∧Below W.heap.size W w') (w:World) (H:aD w) :
  Calls Tryz.prog 6 #[.agg #[.int .i64 ax,.int .i64 ay],.agg #[.int .i64 bx,.int .i64 by'],.agg #[.int .i64 cx,.int .i64 cy]] w fun r w'=>r=.returned (.tuple #[.agg #[.int .i64 V,.int .i64 U],.int .i64 0])∧Below w.heap.size w w':=by
 have h1:Hid _:=cH T1
 have h2:Hid _:=cH T2
 have h3:Hid _:=cH T3
 have h5:Hid _:=cH CP
 have h4:Hid _:=cH CV
 clear T1 T2 T3 CP CV
 cases b1
 ·clear h2 h3
  obtain ⟨hb0,a_k,b_k,c_k,r_k,hsz0⟩:=tV w (.cells #[.int .i64 ax,.int .i64 ay] 23) (.cells #[.int .i64 bx,.int .i64 by'] 23) (.cells #[.int .i64 cx,.int .i64 cy] 23) (.cells #[.int .i64 0,.int .i64 0] 28)
  clear hsz0
  have f_a0:=ac a_k 0 rfl
  have f_a1:=ac a_k 1 rfl
  go_enter Tryz.func6,Tryz.ntmps6
  go_wp2_with fail
  clear f_a0 f_a1
  generalize ((((w.alloc (.cells #[.int .i64 ax,.int .i64 ay] 23)).alloc (.cells #[.int .i64 bx,.int .i64 by'] 23)).alloc (.cells #[.int .i64 cx,.int .i64 cy] 23)).alloc (.cells #[.int .i64 0,.int .i64 0] 28))=x0 at hb0 a_k b_k c_k r_k ⊢
  refine (h1.out _).mono ?_
  rintro _ y1 ⟨rfl,hw1⟩
  replace a_k:=am hw1 a_k
  replace b_k:=am hw1 b_k
  replace c_k:=am hw1 c_k
  replace r_k:=am hw1 r_k
  replace hb0:=aa hb0 hw1
  have f_a0:=ac a_k 0 rfl
  have f_a1:=ac a_k 1 rfl
  have f_b0:=ac b_k 0 rfl
  have f_b1:=ac b_k 1 rfl
  have f_c0:=ac c_k 0 rfl
  have f_c1:=ac c_k 1 rfl
  go_wp2_with fail
  clear f_a0 f_a1 f_b0 f_b1 f_c0 f_c1
  refine (h5.out _).mono ?_
  rintro _ y5 ⟨rfl,hw5⟩
  replace a_k:=am hw5 a_k
  replace b_k:=am hw5 b_k
  replace c_k:=am hw5 c_k
  replace r_k:=am hw5 r_k
  replace hb0:=aa hb0 hw5
  have f_a0:=ac a_k 0 rfl
  have f_a1:=ac a_k 1 rfl
  have f_b0:=ac b_k 0 rfl
  have f_b1:=ac b_k 1 rfl
  have f_c0:=ac c_k 0 rfl
  have f_c1:=ac c_k 1 rfl
  go_wp2_with fail
  clear f_a0 f_a1 f_b0 f_b1 f_c0 f_c1
  replace H:=H.keeps hb0
  refine (h4.out _ H).mono ?_
  rintro _ y4 ⟨rfl,hw4⟩
  replace r_k:=am hw4 r_k
  replace hb0:=aa hb0 hw4
  have k0:=ac r_k 0 rfl
  have k1:=ac r_k 1 rfl
  have z0:=aw r_k 0
  have z1:=aw r_k 1
  go_wp2
  exact bodyPost_ret (v:=.tuple #[.agg #[.int .i64 V,.int .i64 U],.int .i64 0]) (by simp [results,Tryz.results6,go_sem,k0,k1]) rfl ⟨rfl,((hb0.setCell (p:=⟨w.heap.size+1+1+1,0,none⟩) (show w.heap.size<=w.heap.size+1+1+1 by omega) _).setCell (p:=⟨w.heap.size+1+1+1,1,none⟩) (show w.heap.size<=w.heap.size+1+1+1 by omega) _)⟩
 cases b2
 ·clear h3
  obtain ⟨hb0,a_k,b_k,c_k,r_k,hsz0⟩:=tV w (.cells #[.int .i64 ax,.int .i64 ay] 23) (.cells #[.int .i64 bx,.int .i64 by'] 23) (.cells #[.int .i64 cx,.int .i64 cy] 23) (.cells #[.int .i64 0,.int .i64 0] 28)
  clear hsz0
  have f_a0:=ac a_k 0 rfl
  have f_a1:=ac a_k 1 rfl
  go_enter Tryz.func6,Tryz.ntmps6
  go_wp2_with fail
  clear f_a0 f_a1
  generalize ((((w.alloc (.cells #[.int .i64 ax,.int .i64 ay] 23)).alloc (.cells #[.int .i64 bx,.int .i64 by'] 23)).alloc (.cells #[.int .i64 cx,.int .i64 cy] 23)).alloc (.cells #[.int .i64 0,.int .i64 0] 28))=x0 at hb0 a_k b_k c_k r_k ⊢
  refine (h1.out _).mono ?_
  rintro _ y1 ⟨rfl,hw1⟩
  replace a_k:=am hw1 a_k
  replace b_k:=am hw1 b_k
  replace c_k:=am hw1 c_k
  replace r_k:=am hw1 r_k
  replace hb0:=aa hb0 hw1
  have f_b0:=ac b_k 0 rfl
  have f_b1:=ac b_k 1 rfl
  go_wp2_with fail
  clear f_b0 f_b1
  refine (h2.out _).mono ?_
  rintro _ y2 ⟨rfl,hw2⟩
  replace a_k:=am hw2 a_k
  replace b_k:=am hw2 b_k
  replace c_k:=am hw2 c_k
  replace r_k:=am hw2 r_k
  replace hb0:=aa hb0 hw2
  have f_a0:=ac a_k 0 rfl
  have f_a1:=ac a_k 1 rfl
  have f_b0:=ac b_k 0 rfl
  have f_b1:=ac b_k 1 rfl
  have f_c0:=ac c_k 0 rfl
  have f_c1:=ac c_k 1 rfl
  go_wp2_with fail
  clear f_a0 f_a1 f_b0 f_b1 f_c0 f_c1
  refine (h5.out _).mono ?_
  rintro _ y5 ⟨rfl,hw5⟩
  replace a_k:=am hw5 a_k
  replace b_k:=am hw5 b_k
  replace c_k:=am hw5 c_k
  replace r_k:=am hw5 r_k
  replace hb0:=aa hb0 hw5
  have f_a0:=ac a_k 0 rfl
  have f_a1:=ac a_k 1 rfl
  have f_b0:=ac b_k 0 rfl
  have f_b1:=ac b_k 1 rfl
  have f_c0:=ac c_k 0 rfl
  have f_c1:=ac c_k 1 rfl
  go_wp2_with fail
  clear f_a0 f_a1 f_b0 f_b1 f_c0 f_c1
  replace H:=H.keeps hb0
  refine (h4.out _ H).mono ?_
  rintro _ y4 ⟨rfl,hw4⟩
  replace r_k:=am hw4 r_k
  replace hb0:=aa hb0 hw4
  have k0:=ac r_k 0 rfl
  have k1:=ac r_k 1 rfl
  have z0:=aw r_k 0
  have z1:=aw r_k 1
  go_wp2
  exact bodyPost_ret (v:=.tuple #[.agg #[.int .i64 V,.int .i64 U],.int .i64 0]) (by simp [results,Tryz.results6,go_sem,k0,k1]) rfl ⟨rfl,((hb0.setCell (p:=⟨w.heap.size+1+1+1,0,none⟩) (show w.heap.size<=w.heap.size+1+1+1 by omega) _).setCell (p:=⟨w.heap.size+1+1+1,1,none⟩) (show w.heap.size<=w.heap.size+1+1+1 by omega) _)⟩
 cases b3
 ·skip
  obtain ⟨hb0,a_k,b_k,c_k,r_k,hsz0⟩:=tV w (.cells #[.int .i64 ax,.int .i64 ay] 23) (.cells #[.int .i64 bx,.int .i64 by'] 23) (.cells #[.int .i64 cx,.int .i64 cy] 23) (.cells #[.int .i64 0,.int .i64 0] 28)
  clear hsz0
  have f_a0:=ac a_k 0 rfl
  have f_a1:=ac a_k 1 rfl
  go_enter Tryz.func6,Tryz.ntmps6
  go_wp2_with fail
  clear f_a0 f_a1
  generalize ((((w.alloc (.cells #[.int .i64 ax,.int .i64 ay] 23)).alloc (.cells #[.int .i64 bx,.int .i64 by'] 23)).alloc (.cells #[.int .i64 cx,.int .i64 cy] 23)).alloc (.cells #[.int .i64 0,.int .i64 0] 28))=x0 at hb0 a_k b_k c_k r_k ⊢
  refine (h1.out _).mono ?_
  rintro _ y1 ⟨rfl,hw1⟩
  replace a_k:=am hw1 a_k
  replace b_k:=am hw1 b_k
  replace c_k:=am hw1 c_k
  replace r_k:=am hw1 r_k
  replace hb0:=aa hb0 hw1
  have f_b0:=ac b_k 0 rfl
  have f_b1:=ac b_k 1 rfl
  go_wp2_with fail
  clear f_b0 f_b1
  refine (h2.out _).mono ?_
  rintro _ y2 ⟨rfl,hw2⟩
  replace a_k:=am hw2 a_k
  replace b_k:=am hw2 b_k
  replace c_k:=am hw2 c_k
  replace r_k:=am hw2 r_k
  replace hb0:=aa hb0 hw2
  have f_c0:=ac c_k 0 rfl
  have f_c1:=ac c_k 1 rfl
  go_wp2_with fail
  clear f_c0 f_c1
  refine (h3.out _).mono ?_
  rintro _ y3 ⟨rfl,hw3⟩
  replace a_k:=am hw3 a_k
  replace b_k:=am hw3 b_k
  replace c_k:=am hw3 c_k
  replace r_k:=am hw3 r_k
  replace hb0:=aa hb0 hw3
  have f_a0:=ac a_k 0 rfl
  have f_a1:=ac a_k 1 rfl
  have f_b0:=ac b_k 0 rfl
  have f_b1:=ac b_k 1 rfl
  have f_c0:=ac c_k 0 rfl
  have f_c1:=ac c_k 1 rfl
  go_wp2_with fail
  clear f_a0 f_a1 f_b0 f_b1 f_c0 f_c1
  refine (h5.out _).mono ?_
  rintro _ y5 ⟨rfl,hw5⟩
  replace a_k:=am hw5 a_k
  replace b_k:=am hw5 b_k
  replace c_k:=am hw5 c_k
  replace r_k:=am hw5 r_k
  replace hb0:=aa hb0 hw5
  have f_a0:=ac a_k 0 rfl
  have f_a1:=ac a_k 1 rfl
  have f_b0:=ac b_k 0 rfl
  have f_b1:=ac b_k 1 rfl
  have f_c0:=ac c_k 0 rfl
  have f_c1:=ac c_k 1 rfl
  go_wp2_with fail
  clear f_a0 f_a1 f_b0 f_b1 f_c0 f_c1
  replace H:=H.keeps hb0
  refine (h4.out _ H).mono ?_
  rintro _ y4 ⟨rfl,hw4⟩
  replace r_k:=am hw4 r_k
  replace hb0:=aa hb0 hw4
  have k0:=ac r_k 0 rfl
  have k1:=ac r_k 1 rfl
  have z0:=aw r_k 0
  have z1:=aw r_k 1
  go_wp2
  exact bodyPost_ret (v:=.tuple #[.agg #[.int .i64 V,.int .i64 U],.int .i64 0]) (by simp [results,Tryz.results6,go_sem,k0,k1]) rfl ⟨rfl,((hb0.setCell (p:=⟨w.heap.size+1+1+1,0,none⟩) (show w.heap.size<=w.heap.size+1+1+1 by omega) _).setCell (p:=⟨w.heap.size+1+1+1,1,none⟩) (show w.heap.size<=w.heap.size+1+1+1 by omega) _)⟩
 ·simp at hb
theorem zi (ax ay bx by' cx cy:Int):lR ax ay bx by' cx cy=((cm ax && cm ay) && (cm bx && cm by') && (cm cx && cm cy)):=rfl
theorem pj {ax ay bx by' cx cy:Int} (rax:aj ax) (ray:aj ay) (rbx:aj bx) (rby:aj by') (rcx:aj cx) (rcy:aj cy) (pax:ak ax=true) (pay:ak ay=true) (pbx:ak bx=true) (pby:ak by'=true) (pcx:ak cx=true) (pcy:ak cy=true) (w:World) (H:aD w) :
  Calls Tryz.prog 6 #[.agg #[.int .i64 ax,.int .i64 ay],.agg #[.int .i64 bx,.int .i64 by'],.agg #[.int .i64 cx,.int .i64 cy]] w fun r w'=>r=.returned (.tuple #[.agg #[.int .i64 (bz (bV ax ay bx by' cx cy) 0),.int .i64 (n7 ax ay bx by' cx cy)],.int .i64 0])∧Below w.heap.size w w':=by
 cases hT:lR ax ay bx by' cx cy
 ·have CP:∀ W,Calls Tryz.prog 14 #[.agg #[.int .i64 ax,.int .i64 ay],.agg #[.int .i64 bx,.int .i64 by'],.agg #[.int .i64 cx,.int .i64 cy]] W fun r w'=>r=.returned (.bool true)∧Below W.heap.size W w':=fun W=>by
   have:=rM rax ray rbx rby rcx rcy W
   rw [pax,pay,pbx,pby,pcx,pcy] at this
   exact this
  have e:n7 ax ay bx by' cx cy=if pB (lD ax ay bx by' cx cy) (lE ax ay bx by' cx cy) then 5 else 6:=by unfold n7; rw [hT]; rfl
  rw [e]
  exact Ck (hT ▸ (zi ax ay bx by' cx cy).symm) (fun W=>kG rax ray W) (fun W=>kG rbx rby W) (fun W=>kG rcx rcy W) CP (fun W h=>Hu rax ray rbx rby rcx rcy pax pay pbx pby pcx pcy W h) w H
 ·obtain ⟨hax,hay,hbx,hby,hcx,hcy⟩:=IN rax ray rbx rby rcx rcy hT
  have e:n7 ax ay bx by' cx cy=sT ax ay bx by' cx cy:=by unfold n7; rw [hT]; rfl
  rw [e]
  exact Cj (hT ▸ (zi ax ay bx by' cx cy).symm) (fun W=>kG rax ray W) (fun W=>kG rbx rby W) (fun W=>kG rcx rcy W) (fun W h=>Hs hax hay hbx hby hcx hcy W h) w H
theorem eO {x:Int} (hx:aj x) (px:ak x=true):aj (q0 x)∧ak (q0 x)=true∧iV (q0 x)=iV x∧ar (q0 x)=ar x∧cm (q0 x)=cm x:=by
 unfold q0
 by_cases h:x=-9223372036854775808
 ·subst h
  rw [if_pos rfl]
  have i1:iV (-9223372036854775808)=0:=nZ hx (by decide)
  have i2:iV 0=0:=nZ (by unfold aj; decide) (by decide)
  refine ⟨by unfold aj; decide,by decide,by rw [i1,i2],?_,by decide⟩
  rw [bF (by unfold aj; decide) (by decide),bF hx px,i1,i2]
 ·rw [if_neg h]
  exact ⟨hx,px,rfl,rfl,rfl⟩
theorem IR {x:Int} (hx:aj x) (px:ak x=true):aN (q0 x)=aN x:=by
 obtain ⟨r,p,_,v,_⟩:=eO hx px
 rw [gD (dT r p).2,gD (dT hx px).2,v]
theorem Cl {p q:Int} (hp:aj p) (hq:aj q) (pp:ak p=true) (pq:ak q=true):bY (q0 p) (q0 q)=bY p q∧bZ (q0 p) (q0 q)=bZ p q:=by
 unfold bY bZ
 rw [IR hp pp,IR hq pq]
 exact ⟨rfl,rfl⟩
theorem Mz.q0 {x:Int} (h:Mz x):Mz (q0 x)∧iV (q0 x)=iV x:=by
 obtain ⟨r,p,v,_,_⟩:=eO h.1 h.2.1
 exact ⟨⟨r,p,v ▸ h.2.2.1,v ▸ h.2.2.2⟩,v⟩
theorem ri {p q:Int} (hp:Mz p) (hq:Mz q):iV (ap (q0 p) (neg (q0 q)))=iV (ap p (neg q))∧iV (sL (q0 p) (neg (q0 q)))=iV (sL p (neg q)):=by
 obtain ⟨m1,v1⟩:=hp.q0
 obtain ⟨m2,v2⟩:=hq.q0
 obtain ⟨n1,n2,n3⟩:=bS hq.1 hq.2.1
 obtain ⟨k1,k2,k3⟩:=bS m2.1 m2.2.1
 have a:iV (ap (q0 p) (neg (q0 q)))=iV (ap p (neg q)):=by
  rw [mF m1.1 k1 m1.2.1 k2,mF hp.1 n1 hp.2.1 n2,k3,n3,v1,v2]
 obtain ⟨_,x1,_⟩:=hp.lost hq
 obtain ⟨_,x2,_⟩:=m1.lost m2
 rw [v1,v2,a] at x2
 exact ⟨a,by omega⟩
theorem j7 {p q p' q':Int} (hp:Fx 872 1226 p) (hq:Fx 872 1226 q) (hp':Fx 872 1226 p') (hq':Fx 872 1226 q') (e1:iV p'=iV p) (e2:iV q'=iV q):iV (aq p' q')=iV (aq p q):=by
 obtain ⟨_,_,T,hT,_⟩:=hp.prod hq (by decide) (by decide) (by decide)
 rw [AW hp.r hq.r hp.p hq.p hT,AW hp'.r hq'.r hp'.p hq'.p (by rw [e1,e2]; exact hT)]
theorem mH {p q p' q':Int} (hp:aj p) (hq:aj q) (hp':aj p') (hq':aj q') (k1:ak p=true) (k2:ak q=true) (k3:ak p'=true) (k4:ak q'=true) (e1:iV p'=iV p) (e2:iV q'=iV q):iV (ap p' q')=iV (ap p q):=by
 rw [mF hp hq k1 k2,mF hp' hq' k3 k4,e1,e2]
theorem L9 {ax ay bx by' cx cy:Int} (hax:Mz ax) (hay:Mz ay) (hbx:Mz bx) (hby:Mz by') (hcx:Mz cx) (hcy:Mz cy) :
  sT (q0 ax) (q0 ay) (q0 bx) (q0 by') (q0 cx) (q0 cy)=sT ax ay bx by' cx cy:=by
 have O:=mG hax hay hbx hby hcx hcy
 have O':=mG hax.q0.1 hay.q0.1 hbx.q0.1 hby.q0.1 hcx.q0.1 hcy.q0.1
 obtain ⟨d1,l1⟩:=ri hax hcx
 obtain ⟨d2,l2⟩:=ri hay hcy
 obtain ⟨d3,l3⟩:=ri hbx hcx
 obtain ⟨d4,l4⟩:=ri hby hcy
 have L1:=(hax.lost hcx).1
 have L2:=(hay.lost hcy).1
 have L3:=(hbx.lost hcx).1
 have L4:=(hby.lost hcy).1
 have K1:=(hax.q0.1.lost hcx.q0.1).1
 have K2:=(hay.q0.1.lost hcy.q0.1).1
 have K3:=(hbx.q0.1.lost hcx.q0.1).1
 have K4:=(hby.q0.1.lost hcy.q0.1).1
 have eL:iV (oL (q0 ax) (q0 ay) (q0 bx) (q0 by') (q0 cx) (q0 cy))=iV (oL ax ay bx by' cx cy):=j7 O.u1 O.v2 O'.u1 O'.v2 d1 d4
 have eR:iV (oR (q0 ax) (q0 ay) (q0 bx) (q0 by') (q0 cx) (q0 cy))=iV (oR ax ay bx by' cx cy):=j7 O.v1 O.u2 O'.v1 O'.u2 d2 d3
 have eS:oS (q0 ax) (q0 ay) (q0 bx) (q0 by') (q0 cx) (q0 cy)=oS ax ay bx by' cx cy:=by
  unfold oS
  rw [lf O'.l.r O.l.r eL,lf O'.r.r O.r.r eR]
 have eD:rg (oD (q0 ax) (q0 ay) (q0 bx) (q0 by') (q0 cx) (q0 cy))=rg (oD ax ay bx by' cx cy):=by
  refine lf O'.d.r O.d.r ?_
  obtain ⟨n,ne⟩:=O.r.neg
  obtain ⟨n',ne'⟩:=O'.r.neg
  exact mH O.l.r n.r O'.l.r n'.r O.l.p n.p O'.l.p n'.p eL (by rw [ne,ne',eR])
 have eX:oX (q0 ax) (q0 ay) (q0 bx) (q0 by') (q0 cx) (q0 cy)=oX ax ay bx by' cx cy:=by
  unfold oX
  rw [lf K1.r L1.r l1,lf K2.r L2.r l2,lf K3.r L3.r l3,lf K4.r L4.r l4]
 have eH:jZ (q0 ax) (q0 ay) (q0 bx) (q0 by') (q0 cx) (q0 cy)=jZ ax ay bx by' cx cy:=by
  unfold jZ hT
  rw [d1,d2,d3,d4]
 have eT:iV (mY (q0 ax) (q0 ay) (q0 bx) (q0 by') (q0 cx) (q0 cy))=iV (mY ax ay bx by' cx cy):=by
  have q1:=(O.u1.prod L4 (by decide) (by decide) (by decide)).1
  have q2:=(O.v2.prod L1 (by decide) (by decide) (by decide)).1
  have q3:=(O.v1.prod L3 (by decide) (by decide) (by decide)).1
  have q4:=(O.u2.prod L2 (by decide) (by decide) (by decide)).1
  have r1:=(O'.u1.prod K4 (by decide) (by decide) (by decide)).1
  have r2:=(O'.v2.prod K1 (by decide) (by decide) (by decide)).1
  have r3:=(O'.v1.prod K3 (by decide) (by decide) (by decide)).1
  have r4:=(O'.u2.prod K2 (by decide) (by decide) (by decide)).1
  have s1:=(q1.sum q2 (by decide)).1
  have s2:=(q3.sum q4 (by decide)).1
  have t1:=(r1.sum r2 (by decide)).1
  have t2:=(r3.sum r4 (by decide)).1
  obtain ⟨n,ne⟩:=s2.neg
  obtain ⟨n',ne'⟩:=t2.neg
  have e1:=mH q1.r q2.r r1.r r2.r q1.p q2.p r1.p r2.p (j7 O.u1 L4 O'.u1 K4 d1 l4) (j7 O.v2 L1 O'.v2 K1 d4 l1)
  have e2:=mH q3.r q4.r r3.r r4.r q3.p q4.p r3.p r4.p (j7 O.v1 L3 O'.v1 K3 d2 l3) (j7 O.u2 L2 O'.u2 K2 d3 l2)
  exact mH s1.r n.r t1.r n'.r s1.p n.p t1.p n'.p e1 (by rw [ne,ne',e2])
 have eF:rg (ap (fN (jZ ax ay bx by' cx cy)) (mY (q0 ax) (q0 ay) (q0 bx) (q0 by') (q0 cx) (q0 cy)))=rg (ap (fN (jZ ax ay bx by' cx cy)) (mY ax ay bx by' cx cy)):=by
  refine lf (O.h.sum O'.t (by decide)).1.r (O.h.sum O.t (by decide)).1.r ?_
  exact mH O.h.r O.t.r O.h.r O'.t.r O.h.p O.t.p O.h.p O'.t.p rfl eT
 unfold sT
 rw [eS,eD,eX,eH,eF]
theorem Nq {ax ay bx by' cx cy:Int} (rax:aj ax) (ray:aj ay) (rbx:aj bx) (rby:aj by') (rcx:aj cx) (rcy:aj cy) (pax:ak ax=true) (pay:ak ay=true) (pbx:ak bx=true) (pby:ak by'=true) (pcx:ak cx=true) (pcy:ak cy=true) :
  n7 (q0 ax) (q0 ay) (q0 bx) (q0 by') (q0 cx) (q0 cy)=n7 ax ay bx by' cx cy∧bV (q0 ax) (q0 ay) (q0 bx) (q0 by') (q0 cx) (q0 cy)=bV ax ay bx by' cx cy:=by
 obtain ⟨r1,p1,v1,w1,t1⟩:=eO rax pax
 obtain ⟨r2,p2,v2,w2,t2⟩:=eO ray pay
 obtain ⟨r3,p3,v3,w3,t3⟩:=eO rbx pbx
 obtain ⟨r4,p4,v4,w4,t4⟩:=eO rby pby
 obtain ⟨r5,p5,v5,w5,t5⟩:=eO rcx pcx
 obtain ⟨r6,p6,v6,w6,t6⟩:=eO rcy pcy
 have eT:lR (q0 ax) (q0 ay) (q0 bx) (q0 by') (q0 cx) (q0 cy)=lR ax ay bx by' cx cy:=by
  unfold lR qu
  rw [t1,t2,t3,t4,t5,t6]
 refine ⟨?_,by unfold bV; rw [v1,v2,v3,v4,v5,v6]⟩
 unfold n7
 rw [eT]
 cases h:lR ax ay bx by' cx cy
 ·obtain ⟨a1,a2⟩:=Cl rax rcx pax pcx
  obtain ⟨b1,b2⟩:=Cl rby rcy pby pcy
  obtain ⟨c1,c2⟩:=Cl ray rcy pay pcy
  obtain ⟨d1,d2⟩:=Cl rbx rcx pbx pcx
  have nf:¬ (false=true):=by decide
  rw [if_neg nf,if_neg nf]
  unfold lD lE zg zh
  rw [a1,a2,b1,b2,c1,c2,d1,d2]
 ·obtain ⟨hax,hay,hbx,hby,hcx,hcy⟩:=IN rax ray rbx rby rcx rcy h
  rw [if_pos rfl,if_pos rfl,L9 hax hay hbx hby hcx hcy]
theorem Hv (ax ay bx by' cx cy:Int):bV bx by' cx cy ax ay=bV ax ay bx by' cx cy∧bV cx cy ax ay bx by'=bV ax ay bx by' cx cy∧bV bx by' ax ay cx cy=-bV ax ay bx by' cx cy∧bV ax ay cx cy bx by'=-bV ax ay bx by' cx cy∧bV cx cy bx by' ax ay=-bV ax ay bx by' cx cy:=by
 unfold bV
 generalize iV ax=a
 generalize iV ay=b
 generalize iV bx=c
 generalize iV by'=d
 generalize iV cx=e
 generalize iV cy=f
 refine ⟨by grind,by grind,by grind,by grind,by grind⟩
theorem Fk (ax ay bx by':Int):bV ax ay bx by' ax ay=0:=by
 unfold bV
 rw [Int.sub_self,Int.sub_self,Int.zero_mul,Int.zero_mul]
 rfl
theorem rN {ax ay bx by' cx cy:Int} (rax:aj ax) (ray:aj ay) (rbx:aj bx) (rby:aj by') (rcx:aj cx) (rcy:aj cy) (pax:ak ax=true) (pay:ak ay=true) (pbx:ak bx=true) (pby:ak by'=true) (pcx:ak cx=true) (pcy:ak cy=true) (w:World) (H:aD w) :
  Calls Tryz.prog 7 #[.agg #[.int .i64 ax,.int .i64 ay],.agg #[.int .i64 bx,.int .i64 by'],.agg #[.int .i64 cx,.int .i64 cy]] w fun r w'=>∃ v V,r=.returned (.tuple #[v,.int .i64 0])∧bG w w' V v∧yG (ar ax-ar cx) (ar ay-ar cy) (ar bx-ar cx) (ar by'-ar cy) V∧Bd 8100 V:=by
 have CP:Hid (∀ W,Calls Tryz.prog 14 #[.agg #[.int .i64 ax,.int .i64 ay],.agg #[.int .i64 bx,.int .i64 by'],.agg #[.int .i64 cx,.int .i64 cy]] W fun r w'=>r=.returned (.bool true)∧Below W.heap.size W w'):=fun W=>by
  have:=rM rax ray rbx rby rcx rcy W
  rw [pax,pay,pbx,pby,pcx,pcy] at this
  exact this
 have CE:Hid (∀ W,aD W->Calls Tryz.prog 16 #[.agg #[.int .i64 ax,.int .i64 ay],.agg #[.int .i64 bx,.int .i64 by'],.agg #[.int .i64 cx,.int .i64 cy]] W fun r w'=>∃ v V,r=.returned v∧bG W w' V v∧yG (ar ax-ar cx) (ar ay-ar cy) (ar bx-ar cx) (ar by'-ar cy) V∧Bd 8100 V):=fun W h=>tU pax pay pbx pby pcx pcy W h
 clear rax ray rbx rby rcx rcy pax pay pbx pby pcx pcy
 have hb0:=lm w (.cells #[.int .i64 ax,.int .i64 ay] 23) (.cells #[.int .i64 bx,.int .i64 by'] 23) (.cells #[.int .i64 cx,.int .i64 cy] 23) (.cells #[.bool false,.slice none 0 0,.int .i64 0] 34)
 have a_k:=uw w (.cells #[.int .i64 ax,.int .i64 ay] 23) (.cells #[.int .i64 bx,.int .i64 by'] 23) (.cells #[.int .i64 cx,.int .i64 cy] 23) (.cells #[.bool false,.slice none 0 0,.int .i64 0] 34)
 have b_k:=ux w (.cells #[.int .i64 ax,.int .i64 ay] 23) (.cells #[.int .i64 bx,.int .i64 by'] 23) (.cells #[.int .i64 cx,.int .i64 cy] 23) (.cells #[.bool false,.slice none 0 0,.int .i64 0] 34)
 have c_k:=uy w (.cells #[.int .i64 ax,.int .i64 ay] 23) (.cells #[.int .i64 bx,.int .i64 by'] 23) (.cells #[.int .i64 cx,.int .i64 cy] 23) (.cells #[.bool false,.slice none 0 0,.int .i64 0] 34)
 have r_k:=uz w (.cells #[.int .i64 ax,.int .i64 ay] 23) (.cells #[.int .i64 bx,.int .i64 by'] 23) (.cells #[.int .i64 cx,.int .i64 cy] 23) (.cells #[.bool false,.slice none 0 0,.int .i64 0] 34)
 go_enter Tryz.func7,Tryz.ntmps7
 go_wp2_with fail
 generalize (((w.alloc (.cells #[.int .i64 ax,.int .i64 ay] 23)).alloc (.cells #[.int .i64 bx,.int .i64 by'] 23)).alloc (.cells #[.int .i64 cx,.int .i64 cy] 23)).alloc (.cells #[.bool false,.slice none 0 0,.int .i64 0] 34)=x0 at hb0 a_k b_k c_k r_k ⊢
 refine (CP.out _).mono ?_
 rintro _ y1 ⟨rfl,hw1⟩
 have a_k:=(hw1.block _ (Array.getElem?_eq_some_iff.1 a_k).1).trans a_k
 have b_k:=(hw1.block _ (Array.getElem?_eq_some_iff.1 b_k).1).trans b_k
 have c_k:=(hw1.block _ (Array.getElem?_eq_some_iff.1 c_k).1).trans c_k
 have r_k:=(hw1.block _ (Array.getElem?_eq_some_iff.1 r_k).1).trans r_k
 have hb1:=aa hb0 hw1
 have H:=H.keeps hb1
 have f_a0:=ac a_k 0 rfl
 have f_a1:=ac a_k 1 rfl
 have f_b0:=ac b_k 0 rfl
 have f_b1:=ac b_k 1 rfl
 have f_c0:=ac c_k 0 rfl
 have f_c1:=ac c_k 1 rfl
 have hs0:=(Array.getElem?_eq_some_iff.1 r_k).1
 go_wp2_with fail
 refine (CE.out _ H).mono ?_
 rintro _ y2 ⟨v,V,rfl,h2,hD,hB⟩
 obtain ⟨n_g,n_o,n_n,n_c,n_e,rfl⟩:=bW h2
 have hw2:=h2.below
 have r_k:=(hw2.block _ (Array.getElem?_eq_some_iff.1 r_k).1).trans r_k
 have k0:=ac r_k 0 rfl
 have z0:=aw r_k 0
 have k1:=ac r_k 1 rfl
 have z1:=aw r_k 1
 have k2:=ac r_k 2 rfl
 have z2:=aw r_k 2
 go_wp2
 refine bodyPost_ret (v:=.tuple #[.agg #[.bool n_g,.slice n_o n_n n_c,.int .i64 n_e],.int .i64 0]) (by simp [results,Tryz.results7,go_sem,k0,k1,k2]) rfl ⟨_,V,rfl,?_,hD,hB⟩
 exact dY (g:=w.heap.size+3) h2 hb1 (by omega) hs0 _ _ _
theorem ji {w:World} {x y:Value} {A B:Int} (hx:df w x A) (hy:df w y B) :
  Calls Tryz.prog 9 #[x,y] w fun r w'=>r=.returned (.bool (decide (A=B)))∧Below w.heap.size w w':=by
 obtain ⟨g,s,m,e,rfl,dx,ao,n,ca,a,rfl,hR,hN,rfl⟩:=hx
 obtain ⟨g',s',m',e',rfl,dy,bo,n',cb,b,rfl,hR',hN',rfl⟩:=hy
 have hu:A=B->g=g'∧val a n=val b n'∧e=e':=fun q=>by subst q; exact dx.unique dy
 have hm1:=hR.max
 have hl1:=hR.le
 have hm2:=hR'.max
 have hl2:=hR'.le
 have hb2:=aP w (.cells #[.bool g,.slice ao n ca,.int .i64 e] 34) (.cells #[.bool g',.slice bo n' cb,.int .i64 e'] 34)
 by_cases hg:g=g'∧e=e'∧n=n'
 ·obtain ⟨rfl,rfl,rfl⟩:=hg
  have q0:=dJ w (.cells #[.bool g,.slice ao n ca,.int .i64 e] 34) (.cells #[.bool g,.slice bo n cb,.int .i64 e] 34)
  have q1:=cR w (.cells #[.bool g,.slice ao n ca,.int .i64 e] 34) (.cells #[.bool g,.slice bo n cb,.int .i64 e] 34)
  have HR:=hR.keeps hb2
  have HR':=hR'.keeps hb2
  have hAB:(∀ i,i<n->a i=b i)->A=B:=fun q=>by rw [dx.val,dy.val,jK q]
  go_enter Tryz.func9,Tryz.ntmps9
  go_wp2_with fail
  have k1:=ac q0 1 rfl
  have j1:=ac q1 1 rfl
  clear q0 q1 hu hR hR'
  generalize (w.alloc (.cells #[.bool g,.slice ao n ca,.int .i64 e] 34)).alloc (.cells #[.bool g,.slice bo n cb,.int .i64 e] 34)=wx at hb2 k1 j1 HR HR' ⊢
  have HNa:Hid (cT a n):=hN
  have HNb:Hid (cT b n):=hN'
  have HAB:Hid ((∀ i,i<n->a i=b i)->A=B):=hAB
  have HBA:Hid (A=B->∀ i,i<n->a i=b i):=fun q=>zP hN.1 hN'.1 (by subst q; exact (dx.unique dy).2.1)
  clear hN hN' hAB dx dy
  go_loopw [5] (fun i wr=>∃ k:Nat,k<=n∧i=.int .i64 k∧Hid (∀ i,i<k->a i=b i)∧Below wx.heap.size wx wr) (fun i _=>n-(intOf i).toNat)
  case atStart=>exact ⟨0,Nat.zero_le _,rfl,fun i hi=>by omega,aA _⟩
  case round=>
   obtain ⟨k,hk,rfl,HS,hbw⟩:=hrel
   have k1':=aT k1 hbw
   have j1':=aT j1 hbw
   by_cases hlt:k<n
   ·obtain ⟨ba,fa,rfl,hba,hca⟩:=HR.spot (by omega)
    obtain ⟨bb,fb,rfl,hbb,hcb⟩:=HR'.spot (by omega)
    have c1:=(hbw.cell (p:=⟨ba,fa+k,none⟩) hba).trans (hca k (by omega))
    have c2:=(hbw.cell (p:=⟨bb,fb+k,none⟩) hbb).trans (hcb k (by omega))
    clear hca hcb
    by_cases h1:a k=b k
    ·have h2:(a k == b k)=true:=by simpa using h1
     rw [h1] at c1
     go_wp2_with fail
     go_quiet (fail)
     go_wp2
     go_roundw
     case rel=>exact ⟨k+1,by omega,by go_num,fun i hi=>by by_cases e:i=k; (· rw [e]; exact h1); (· exact HS.out i (by omega)),iu hbw _⟩
     case measure=>simp [intOf]; try omega
    ·have h2:(a k == b k)=false:=by simpa using h1
     have hne:A≠B:=fun q=>h1 (HBA.out q k hlt)
     have hdd:Hid (false=decide (A=B)):=(decide_eq_false hne).symm
     clear hne
     go_wp2_with fail
     go_quiet (fail)
     go_wp2
     go_ret
     exact ⟨b5 hdd.out,aa hb2 (iu hbw _)⟩
   ·obtain rfl:k=n:=by omega
    have hdd:Hid (true=decide (A=B)):=(decide_eq_true (HAB.out HS.out)).symm
    go_wp2
    go_ret
    exact ⟨b5 hdd.out,aa hb2 hbw⟩
 ·have hne:A≠B:=fun q=>hg ⟨(hu q).1,(hu q).2.2,IS hN hN' (hu q).2.1⟩
  rw [decide_eq_false hne]
  by_cases c1:g=g'
  ·subst c1
   by_cases c2:e=e'
   ·subst c2
    have c3:n≠n':=fun q=>hg ⟨rfl,rfl,q⟩
    have c4:((n:Int) == (n':Int))=false:=by simp; omega
    clear hu
    go_enter Tryz.func9,Tryz.ntmps9
    go_wp2
    all_goals go_ret
    all_goals exact ⟨rfl,hb2⟩
   ·have c4:(e == e')=false:=by simpa using c2
    clear hu
    go_enter Tryz.func9,Tryz.ntmps9
    go_wp2
    all_goals go_ret
    all_goals exact ⟨rfl,hb2⟩
  ·have c4:(g == g')=false:=by simpa using c1
   clear hu
   go_enter Tryz.func9,Tryz.ntmps9
   go_wp2
   all_goals go_ret
   all_goals exact ⟨rfl,hb2⟩
end Go.Proofs.YtcjfonaolcokbaaGreatDoor
namespace Go.Proofs.YtcjfonaolcokbaaGreatDoor
open Go Go.ChangeShapes Go.WideShapes Go.ChangeAt Go.RowKit Go.Proofs.YtcjfonaolcokbaaGreatDoor.M
theorem zj:Tryz.prog.cellsOf 23=2:=by kernel_rfl
theorem Cm:Tryz.prog.cellsOf 3=1:=by kernel_rfl
theorem zO {H:Type} {enc:TypeId × Value->H} {W:World} {n:Nat} {cs:List Value} {x:DataW H × List MemPlace}
  (h:DataW.trod enc Tryz.prog W 0 (fun _=>true) true n 23 cs=some x) :
  ∃ a b:Int,cs=[.int .i64 a,.int .i64 b]∧aj a∧aj b:=by
 obtain ⟨xs,m,_,rfl,hl,hlen,hf⟩:=DataW.trod_struct Tryz.underlying23 h
 rw [zj] at hl
 match cs,hl with
 | [v0,v1],_=>
  match xs,hlen with
  | [y0,y1],_=>
   have f0:DataW.trod enc Tryz.prog W 0 (fun _=>true) true m 3 (([v0,v1].drop 0).take (Tryz.prog.cellsOf 3))=some y0:=hf 0 _ rfl
   have f1:DataW.trod enc Tryz.prog W 0 (fun _=>true) true m 3 (([v0,v1].drop 1).take (Tryz.prog.cellsOf 3))=some y1:=hf 1 _ rfl
   rw [Cm] at f0 f1
   simp only [List.drop_zero,List.drop_succ_cons,List.take_succ_cons,List.take_zero] at f0 f1
   obtain ⟨k0,e0,_,w0⟩:=DataW.trod_int Tryz.underlying3 f0
   obtain ⟨k1,e1,_,w1⟩:=DataW.trod_int Tryz.underlying3 f1
   simp at e0 e1
   subst e0 e1
   exact ⟨k0,k1,rfl,Dp w0,Dp w1⟩
theorem sX {H:Type} {enc:TypeId × Value->H} {W:World} {base:Nat} {v:Value} {d:DataW H} {p:List MemPlace} (hv:Value.okWide Tryz.prog W .any base 23 v)
  (h:DataW.Trod enc Tryz.prog W 0 (fun _=>true) true 23 v d p):∃ a b:Int,v=.agg #[.int .i64 a,.int .i64 b]∧aj a∧aj b:=by
 obtain ⟨cs,rfl,hc⟩:=okWide_struct Tryz.underlying23 hv
 obtain ⟨fuel,hf⟩:=h
 obtain ⟨a,b,hr,h1,h2⟩:=zO hf
 refine ⟨a,b,?_,h1,h2⟩
 congr 1
 have:cs.toList=[.int .i64 a,.int .i64 b]:=by simpa [Value.cells] using hr
 exact Array.toList_inj.1 this
end Go.Proofs.YtcjfonaolcokbaaGreatDoor
