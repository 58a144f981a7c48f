/-
  MeasureBetween: for every three points the law returns true: what lies between is the document's answer, from either end, or ErrFinite. As a card: the library's tables and the layout of package bits start as the program's text lays them.
-/
import Derived.Test.YtmmnoneehiibiaaGreatDoorPart17
import Derived.Test.YtmmnoneehiibiaaGreatDoorCards
import Derived.Test.YtmmnoneehiibiaaGreatDoorTie
set_option linter.unusedVariables false
set_option linter.unusedSimpArgs false
namespace Go.Proofs.YtmmnoneehiibiaaGreatDoor.measureBetween
open Go Go.ChangeShapes Go.WideShapes Go.ChangeAt Go.RowKit Go.Proofs.YtmmnoneehiibiaaGreatDoor Go.Proofs.YtmmnoneehiibiaaGreatDoor.M
set_option maxRecDepth 100000 in
set_option maxHeartbeats 4000000 in
theorem walk_no {ax ay bx by' cx cy:Int} (C1:(∀ W,Hold4 W->Calls Tryz.prog 5 #[.agg #[.int .i64 ax,.int .i64 ay],.agg #[.int .i64 bx,.int .i64 by'],.agg #[.int .i64 cx,.int .i64 cy]] W fun r w'=>r=.returned (.tuple #[.bool false,.int .i64 10])∧Below W.heap.size W w')) (C2:(∀ W gl,W.heap[gl]?=some (.cells #[.int .i64 ax,.int .i64 ay,.int .i64 bx,.int .i64 by',.int .i64 cx,.int .i64 cy] 23 (0,0))->Calls Tryz.prog 6 #[.slice (some ⟨gl,0,none⟩) 3 3] W fun r w'=>r=.returned (.bool false)∧Below W.heap.size W w')) (w:World) (H:Hold4 w) :
    Calls Tryz.prog 3 #[.agg #[.int .i64 ax,.int .i64 ay],.agg #[.int .i64 bx,.int .i64 by'],.agg #[.int .i64 cx,.int .i64 cy]] w fun e w'=>e=.returned (.bool true)∧Below w.heap.size w w':=by
  have h1:Hid (∀ W,Hold4 W->Calls Tryz.prog 5 #[.agg #[.int .i64 ax,.int .i64 ay],.agg #[.int .i64 bx,.int .i64 by'],.agg #[.int .i64 cx,.int .i64 cy]] W fun r w'=>r=.returned (.tuple #[.bool false,.int .i64 10])∧Below W.heap.size W w'):=C1
  have h2:Hid (∀ W gl,W.heap[gl]?=some (.cells #[.int .i64 ax,.int .i64 ay,.int .i64 bx,.int .i64 by',.int .i64 cx,.int .i64 cy] 23 (0,0))->Calls Tryz.prog 6 #[.slice (some ⟨gl,0,none⟩) 3 3] W fun r w'=>r=.returned (.bool false)∧Below W.heap.size W w'):=C2
  clear C1 C2
  obtain ⟨hb0,a_k,b_k,c_k,hsz0⟩:=blks3 w (.cells #[.int .i64 ax,.int .i64 ay] 23) (.cells #[.int .i64 bx,.int .i64 by'] 23) (.cells #[.int .i64 cx,.int .i64 cy] 23)
  clear hsz0
  go_enter Tryz.func3,Tryz.ntmps3
  go_wp2_with fail
  generalize (((w.alloc (.cells #[.int .i64 ax,.int .i64 ay] 23)).alloc (.cells #[.int .i64 bx,.int .i64 by'] 23)).alloc (.cells #[.int .i64 cx,.int .i64 cy] 23))=x0 at hb0 a_k b_k c_k ⊢
  replace H:=H.keeps hb0
  refine (alive13 _ H).mono ?_
  rintro _ y1 ⟨rfl,hw1⟩
  replace a_k:=blk_on hw1 a_k
  replace b_k:=blk_on hw1 b_k
  replace c_k:=blk_on hw1 c_k
  replace hb0:=bel_trans hb0 hw1
  replace H:=H.keeps hw1
  have f_a0:=blkC a_k 0 rfl
  have f_a1:=blkC a_k 1 rfl
  have f_b0:=blkC b_k 0 rfl
  have f_b1:=blkC b_k 1 rfl
  have f_c0:=blkC c_k 0 rfl
  have f_c1:=blkC c_k 1 rfl
  go_wp2_with fail
  clear f_a0 f_a1 f_b0 f_b1 f_c0 f_c1
  refine (h1.out _ H).mono ?_
  rintro _ y2 ⟨rfl,hw2⟩
  replace a_k:=blk_on hw2 a_k
  replace b_k:=blk_on hw2 b_k
  replace c_k:=blk_on hw2 c_k
  replace hb0:=bel_trans hb0 hw2
  replace H:=H.keeps hw2
  have f_a0:=blkC a_k 0 rfl
  have f_a1:=blkC a_k 1 rfl
  have f_b0:=blkC b_k 0 rfl
  have f_b1:=blkC b_k 1 rfl
  have f_c0:=blkC c_k 0 rfl
  have f_c1:=blkC c_k 1 rfl
  go_wp2_with fail
  clear f_a0 f_a1 f_b0 f_b1 f_c0 f_c1
  refine (h2.out _ _ (heap_a1 y2 (.cells #[.int .i64 ax,.int .i64 ay,.int .i64 bx,.int .i64 by',.int .i64 cx,.int .i64 cy] 23))).mono ?_
  rintro _ y3 ⟨rfl,hw3⟩
  replace a_k:=blk_on hw3 (heap_past (.cells #[.int .i64 ax,.int .i64 ay,.int .i64 bx,.int .i64 by',.int .i64 cx,.int .i64 cy] 23) a_k)
  replace b_k:=blk_on hw3 (heap_past (.cells #[.int .i64 ax,.int .i64 ay,.int .i64 bx,.int .i64 by',.int .i64 cx,.int .i64 cy] 23) b_k)
  replace c_k:=blk_on hw3 (heap_past (.cells #[.int .i64 ax,.int .i64 ay,.int .i64 bx,.int .i64 by',.int .i64 cx,.int .i64 cy] 23) c_k)
  replace hb0:=bel_trans hb0 (bel_trans (bel_alloc y2 (.cells #[.int .i64 ax,.int .i64 ay,.int .i64 bx,.int .i64 by',.int .i64 cx,.int .i64 cy] 23)) hw3)
  go_wp2_with (go_at_call 7; refine (mnum _ _).mono ?_; rintro _ _ ⟨rfl,rfl⟩)
  go_ret
  exact ⟨rfl,hb0⟩
set_option maxRecDepth 100000 in
set_option maxHeartbeats 8000000 in
theorem walk_yes {ax ay bx by' cx cy:Int} {v:Bool} (C1:(∀ W,Hold4 W->Calls Tryz.prog 5 #[.agg #[.int .i64 ax,.int .i64 ay],.agg #[.int .i64 bx,.int .i64 by'],.agg #[.int .i64 cx,.int .i64 cy]] W fun r w'=>r=.returned (.tuple #[.bool v,.int .i64 0])∧Below W.heap.size W w')) (C2:(∀ W gl,W.heap[gl]?=some (.cells #[.int .i64 ax,.int .i64 ay,.int .i64 bx,.int .i64 by',.int .i64 cx,.int .i64 cy] 23 (0,0))->Calls Tryz.prog 6 #[.slice (some ⟨gl,0,none⟩) 3 3] W fun r w'=>r=.returned (.bool true)∧Below W.heap.size W w')) (C3:(∀ W,Hold4 W->Calls Tryz.prog 5 #[.agg #[.int .i64 cx,.int .i64 cy],.agg #[.int .i64 bx,.int .i64 by'],.agg #[.int .i64 ax,.int .i64 ay]] W fun r w'=>r=.returned (.tuple #[.bool v,.int .i64 0])∧Below W.heap.size W w')) (C4:(∀ W,Calls Tryz.prog 8 #[.agg #[.int .i64 ax,.int .i64 ay],.agg #[.int .i64 bx,.int .i64 by'],.agg #[.int .i64 cx,.int .i64 cy]] W fun r w'=>r=.returned (.bool v)∧Below W.heap.size W w')) (w:World) (H:Hold4 w) :
    Calls Tryz.prog 3 #[.agg #[.int .i64 ax,.int .i64 ay],.agg #[.int .i64 bx,.int .i64 by'],.agg #[.int .i64 cx,.int .i64 cy]] w fun e w'=>e=.returned (.bool true)∧Below w.heap.size w w':=by
  have h1:Hid (∀ W,Hold4 W->Calls Tryz.prog 5 #[.agg #[.int .i64 ax,.int .i64 ay],.agg #[.int .i64 bx,.int .i64 by'],.agg #[.int .i64 cx,.int .i64 cy]] W fun r w'=>r=.returned (.tuple #[.bool v,.int .i64 0])∧Below W.heap.size W w'):=C1
  have h2:Hid (∀ W gl,W.heap[gl]?=some (.cells #[.int .i64 ax,.int .i64 ay,.int .i64 bx,.int .i64 by',.int .i64 cx,.int .i64 cy] 23 (0,0))->Calls Tryz.prog 6 #[.slice (some ⟨gl,0,none⟩) 3 3] W fun r w'=>r=.returned (.bool true)∧Below W.heap.size W w'):=C2
  have h3:Hid (∀ W,Hold4 W->Calls Tryz.prog 5 #[.agg #[.int .i64 cx,.int .i64 cy],.agg #[.int .i64 bx,.int .i64 by'],.agg #[.int .i64 ax,.int .i64 ay]] W fun r w'=>r=.returned (.tuple #[.bool v,.int .i64 0])∧Below W.heap.size W w'):=C3
  have h4:Hid (∀ W,Calls Tryz.prog 8 #[.agg #[.int .i64 ax,.int .i64 ay],.agg #[.int .i64 bx,.int .i64 by'],.agg #[.int .i64 cx,.int .i64 cy]] W fun r w'=>r=.returned (.bool v)∧Below W.heap.size W w'):=C4
  clear C1 C2 C3 C4
  cases v
  all_goals
    obtain ⟨hb0,a_k,b_k,c_k,hsz0⟩:=blks3 w (.cells #[.int .i64 ax,.int .i64 ay] 23) (.cells #[.int .i64 bx,.int .i64 by'] 23) (.cells #[.int .i64 cx,.int .i64 cy] 23)
    clear hsz0
    go_enter Tryz.func3,Tryz.ntmps3
    go_wp2_with fail
    generalize (((w.alloc (.cells #[.int .i64 ax,.int .i64 ay] 23)).alloc (.cells #[.int .i64 bx,.int .i64 by'] 23)).alloc (.cells #[.int .i64 cx,.int .i64 cy] 23))=x0 at hb0 a_k b_k c_k ⊢
    replace H:=H.keeps hb0
    refine (alive13 _ H).mono ?_
    rintro _ y1 ⟨rfl,hw1⟩
    replace a_k:=blk_on hw1 a_k
    replace b_k:=blk_on hw1 b_k
    replace c_k:=blk_on hw1 c_k
    replace hb0:=bel_trans hb0 hw1
    replace H:=H.keeps hw1
    have f_a0:=blkC a_k 0 rfl
    have f_a1:=blkC a_k 1 rfl
    have f_b0:=blkC b_k 0 rfl
    have f_b1:=blkC b_k 1 rfl
    have f_c0:=blkC c_k 0 rfl
    have f_c1:=blkC c_k 1 rfl
    go_wp2_with fail
    clear f_a0 f_a1 f_b0 f_b1 f_c0 f_c1
    refine (h1.out _ H).mono ?_
    rintro _ y2 ⟨rfl,hw2⟩
    replace a_k:=blk_on hw2 a_k
    replace b_k:=blk_on hw2 b_k
    replace c_k:=blk_on hw2 c_k
    replace hb0:=bel_trans hb0 hw2
    replace H:=H.keeps hw2
    have f_a0:=blkC a_k 0 rfl
    have f_a1:=blkC a_k 1 rfl
    have f_b0:=blkC b_k 0 rfl
    have f_b1:=blkC b_k 1 rfl
    have f_c0:=blkC c_k 0 rfl
    have f_c1:=blkC c_k 1 rfl
    go_wp2_with fail
    clear f_a0 f_a1 f_b0 f_b1 f_c0 f_c1
    refine (h2.out _ _ (heap_a1 y2 (.cells #[.int .i64 ax,.int .i64 ay,.int .i64 bx,.int .i64 by',.int .i64 cx,.int .i64 cy] 23))).mono ?_
    rintro _ y3 ⟨rfl,hw3⟩
    replace a_k:=blk_on hw3 (heap_past (.cells #[.int .i64 ax,.int .i64 ay,.int .i64 bx,.int .i64 by',.int .i64 cx,.int .i64 cy] 23) a_k)
    replace b_k:=blk_on hw3 (heap_past (.cells #[.int .i64 ax,.int .i64 ay,.int .i64 bx,.int .i64 by',.int .i64 cx,.int .i64 cy] 23) b_k)
    replace c_k:=blk_on hw3 (heap_past (.cells #[.int .i64 ax,.int .i64 ay,.int .i64 bx,.int .i64 by',.int .i64 cx,.int .i64 cy] 23) c_k)
    replace hb0:=bel_trans hb0 (bel_trans (bel_alloc y2 (.cells #[.int .i64 ax,.int .i64 ay,.int .i64 bx,.int .i64 by',.int .i64 cx,.int .i64 cy] 23)) hw3)
    replace H:=H.keeps (bel_trans (bel_alloc y2 (.cells #[.int .i64 ax,.int .i64 ay,.int .i64 bx,.int .i64 by',.int .i64 cx,.int .i64 cy] 23)) hw3)
    have f_a0:=blkC a_k 0 rfl
    have f_a1:=blkC a_k 1 rfl
    have f_b0:=blkC b_k 0 rfl
    have f_b1:=blkC b_k 1 rfl
    have f_c0:=blkC c_k 0 rfl
    have f_c1:=blkC c_k 1 rfl
    go_wp2_with fail
    clear f_a0 f_a1 f_b0 f_b1 f_c0 f_c1
    refine (h3.out _ H).mono ?_
    rintro _ y4 ⟨rfl,hw4⟩
    replace a_k:=blk_on hw4 a_k
    replace b_k:=blk_on hw4 b_k
    replace c_k:=blk_on hw4 c_k
    replace hb0:=bel_trans hb0 hw4
    have f_a0:=blkC a_k 0 rfl
    have f_a1:=blkC a_k 1 rfl
    have f_b0:=blkC b_k 0 rfl
    have f_b1:=blkC b_k 1 rfl
    have f_c0:=blkC c_k 0 rfl
    have f_c1:=blkC c_k 1 rfl
    go_wp2_with (go_at_call 7; refine (mnum _ _).mono ?_; rintro _ _ ⟨rfl,rfl⟩)
    clear f_a0 f_a1 f_b0 f_b1 f_c0 f_c1
    refine (h4.out _).mono ?_
    rintro _ y5 ⟨rfl,hw5⟩
    go_wp2
    go_ret
    exact ⟨rfl,bel_trans hb0 hw5⟩
theorem pcmp_rev (ax ay bx by':Int):pcmp bx by' ax ay=- pcmp ax ay bx by':=by
  unfold pcmp cmp
  repeat' split
  all_goals omega
theorem det_back (ax ay bx by' cx cy:Int):ord (oDet cx cy bx by' ax ay) 0=-ord (oDet ax ay bx by' cx cy) 0:=by
  have e:oDet cx cy bx by' ax ay=-oDet ax ay bx by' cx cy:=by
    unfold oDet
    generalize iV ax=a
    generalize iV ay=b
    generalize iV bx=c
    generalize iV by'=d
    generalize iV cx=e
    generalize iV cy=f
    grind
  rw [e]
  generalize oDet ax ay bx by' cx cy=x
  unfold ord
  split <;> split <;> (try split) <;> (try split) <;> omega
theorem walk (ax ay bx by' cx cy:Int) (w:World) (rax:rng ax) (ray:rng ay) (rbx:rng bx) (rby:rng by') (rcx:rng cx) (rcy:rng cy) (H:Hold4 w) :
    Calls Tryz.prog 3 #[.agg #[.int .i64 ax,.int .i64 ay],.agg #[.int .i64 bx,.int .i64 by'],.agg #[.int .i64 cx,.int .i64 cy]] w fun e w'=>e=.returned (.bool true)∧Below w.heap.size w w':=by
  have CG:∀ b,(ptok ax ay && ptok bx by' && ptok cx cy)=b->(∀ W gl,W.heap[gl]?=some (.cells #[.int .i64 ax,.int .i64 ay,.int .i64 bx,.int .i64 by',.int .i64 cx,.int .i64 cy] 23 (0,0))->Calls Tryz.prog 6 #[.slice (some ⟨gl,0,none⟩) 3 3] W fun r w'=>r=.returned (.bool b)∧Below W.heap.size W w'):=fun b hb W gl hl=>by
    have:=lgood_any _ _ _ _ _ W (pts3 W hl) (rng3 rax rbx rcx) (rng3 ray rby rcy)
    rw [allB3 ptok,hb] at this
    exact this
  by_cases h:(ptok ax ay && ptok bx by' && ptok cx cy)=true
  . obtain ⟨⟨⟨h1,h2⟩,h3,h4⟩,h5,h6⟩:((pok ax=true∧pok ay=true)∧pok bx=true∧pok by'=true)∧pok cx=true∧pok cy=true:=by unfold ptok at h; simpa using h
    have e:=btw_eq (s:=ord (oDet ax ay bx by' cx cy) 0) (pcmp_any ax ay bx by') (pcmp_any cx cy bx by')
    have d:=(det_back ax ay bx by' cx cy)
    refine walk_yes (fun W hh=>mBetween_ok rax ray rbx rby rcx rcy h1 h2 h3 h4 h5 h6 W hh) (CG true h) (fun W hh=>?_) (fun W=>?_) w H
    . have:=mBetween_ok rcx rcy rbx rby rax ray h5 h6 h3 h4 h1 h2 W hh
      rw [d,e.2] at this
      exact this
    . have:=r13Between rax ray rbx rby rcx rcy h1 h2 h3 h4 h5 h6 W
      rw [pcmp_rev cx cy bx by',e.1] at this
      exact this
  . have hno:(ptok ax ay && ptok bx by' && ptok cx cy)=false:=by simpa using h
    exact walk_no (fun W _=>mBetween_no rax ray rbx rby rcx rcy hno W) (CG false hno) w H
theorem own:ownKnob Tryz.prog.godebug=none:=by kernel_rfl
theorem laidOut:laidOutB Tryz.prog=true:=by kernel_rfl
theorem door_met (os:Os) (args:Array Value):laidMetH Tryz.prog Rows.measureBetweenRow.laid ((World.doorLaid Tryz.prog 400 os).forCall (fun _ _=>0) ⟨#[],args,[]⟩).memory :=
  laidMetH_of_parts3 (fuel:=8) (laidMet_of_run' 8 (by kernel_rfl) (by kernel_rfl)) (by kernel_rfl) (by kernel_rfl)
set_option maxRecDepth 100000 in
theorem lifted (os:Os) (started:os.Started) (H:Type) (enc:TypeId × Value->H) :
    ReturnsInHanded {} Tryz.checked os 3 .any (fun w args=>(Rows.measureBetweenSpec.pre enc Tryz.prog Tryz.f3 [] false w args∧laidMetH Tryz.prog Rows.measureBetweenRow.laid w)∧sizedMet enc Tryz.prog Tryz.f3 (OpenSpec.ofChange Rows.measureBetweenSpec) false w args)
      (Rows.measureBetweenSpec.post enc Tryz.prog Tryz.f3 false true false false):=by
  refine returnsInHanded_of_change_and (C:=Tryz.checked) (X:=fun w _=>laidMetH Tryz.prog Rows.measureBetweenRow.laid w) (fun _ _ _ hh h=>h.of_heap hh) own started (by kernel_rfl) Tryz.func3
    (ChangeSpec.witness_shaped (enc:=enc) (C:=Tryz.checked) (os:=os) (X:=fun w _=>laidMetH Tryz.prog Rows.measureBetweenRow.laid w) false (World.doorLaid Tryz.prog 400 os) #[.agg #[.int .i64 0,.int .i64 0],.agg #[.int .i64 0,.int .i64 0],.agg #[.int .i64 0,.int .i64 0]] 8 rfl (World.shaped_of_RefB (by kernel_rfl) (by kernel_rfl)) (by kernel_rfl) (by kernel_rfl) (by kernel_rfl) (door_met os _)) ?_
  intro W base args ds gs before hval0 hW _ _ hL _
  have hval:∀ (j:Nat) t v,Tryz.f3.params[j]?=some t->args[j]?=some v->Value.okWide Tryz.prog W .any base t v:=hval0
  have hW':=hW
  obtain ⟨p,q,hA0,hV,rfl,hfz,hnd⟩:=hW
  have hA:DataW.TrodAll enc Tryz.prog W 0 (fun _=>true) true Tryz.f3.params.toList args.toList ds p:=hA0
  rw [Tryz.params3] at hA hval
  obtain ⟨v0,vs0,d0,ds0,p0,q0,hargs,rfl,rfl,h0,r0⟩:=trodAll_cons hA
  obtain ⟨v1,vs1,d1,ds1,p1,q1,rfl,rfl,rfl,h1,r1⟩:=trodAll_cons r0
  obtain ⟨v2,vs2,d2,ds2,p2,q2,rfl,rfl,rfl,h2,r2⟩:=trodAll_cons r1
  obtain ⟨rfl,rfl,rfl⟩:=trodAll_nil r2
  obtain rfl:args=#[v0,v1,v2]:=by cases args; simp_all
  obtain ⟨rfl,rfl⟩:=trodVars_none hV
  have k0:=h0
  have lt0:∀ x ∈ p0,x.block<W.heap.size:=by obtain ⟨m,hm⟩:=k0; exact DataW.trod_lt m _ _ _ hm
  obtain ⟨x0,y0,rfl,w0,g0⟩:=point_of (hval 0 23 v0 rfl rfl) h0
  have k1:=h1
  have lt1:∀ x ∈ p1,x.block<W.heap.size:=by obtain ⟨m,hm⟩:=k1; exact DataW.trod_lt m _ _ _ hm
  obtain ⟨x1,y1,rfl,w1,g1⟩:=point_of (hval 1 23 v1 rfl rfl) h1
  have k2:=h2
  have lt2:∀ x ∈ p2,x.block<W.heap.size:=by obtain ⟨m,hm⟩:=k2; exact DataW.trod_lt m _ _ _ hm
  obtain ⟨x2,y2,rfl,w2,g2⟩:=point_of (hval 2 23 v2 rfl rfl) h2
  clear hA0 hval0
  refine (walk x0 y0 x1 y1 x2 y2 W w0 g0 w1 g1 w2 g2 (hold6_of hL)).mono fun e W' ⟨he,bel⟩=>?_
  subst he
  exact ⟨_,rfl,_,_,_,[],_,[],hW',trodAll_mk1 (shut_bool Tryz.underlying4 _),(trodAll_cons_mk (Below.trod laidOut (by kernel_rfl) (of_decide_eq_true (by kernel_rfl)) k0 bel lt0) (trodAll_cons_mk (Below.trod laidOut (by kernel_rfl) (of_decide_eq_true (by kernel_rfl)) k1 bel lt1) (trodAll_cons_mk (Below.trod laidOut (by kernel_rfl) (of_decide_eq_true (by kernel_rfl)) k2 bel lt2) trodAll_mk0))),rfl,bel.frame _,fun h=>by cases h⟩
theorem said:Rows.MeasureBetweenSaid :=
  OpenClaim.holds_of_wide 3 Tryz.f3 rfl rfl rfl rfl rfl rfl rfl ⟨rfl,rfl,rfl,rfl,rfl⟩ rfl rfl rfl rfl rfl (by kernel_rfl) Tryz.func3 (by kernel_rfl)
    (of_decide_eq_true (by kernel_rfl)) (by unfold Func.isWrapper; first | (rw [if_pos (by decide +kernel)]; kernel_rfl) | (rw [if_neg (by decide +kernel)]; exact ⟨rfl,rfl⟩))
    (fun os started H enc _=>lifted os started H enc)
theorem plain (f:FuncId) (fn:Func) (hf:Tryz.pinned.checked.prog.funcNamed Tryz.f3.name=some f) (hfn:Tryz.pinned.checked.prog.funcs[f]?=some fn) :
    true=Tryz.pinned.checked.prog.looks []∧∀ (j:Nat) t,fn.params[j]?=some t->Tryz.pinned.checked.prog.wantsStandIn t=false:=by
  obtain rfl:f=3:=Option.some.inj ((show Tryz.prog.funcNamed Tryz.f3.name=some 3 by kernel_rfl).symm.trans hf) |>.symm
  obtain rfl:fn=Tryz.f3:=(Option.some.inj (Tryz.func3.symm.trans hfn)).symm
  refine ⟨by kernel_rfl,fun j t ht=>?_⟩
  rw [Tryz.params3] at ht
  obtain rfl:t=23:=by simpa using Array.mem_of_getElem? ht
  exact (show Tryz.prog.wantsStandIn 23=false by kernel_rfl)
theorem card:Rows.MeasureBetweenCardSaid :=
  Claim7.holds_tied_plain_at .later [] _ _ _ _ said (fun _ h=>by cases h) (by kernel_rfl) (fun _ h=>by cases h) measureBetween_row_tie rfl ⟨rfl,rfl⟩ (by kernel_rfl) rfl plain (by kernel_rfl)
end Go.Proofs.YtmmnoneehiibiaaGreatDoor.measureBetween
namespace Go.Proofs.YtmmnoneehiibiaaGreatDoor
theorem measureBetween_holds:Rows.MeasureBetweenCardSaid:=measureBetween.card
end Go.Proofs.YtmmnoneehiibiaaGreatDoor
