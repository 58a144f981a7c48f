/- Parts of the proof. -/
import Derived.Test.YtfgapefckpnjjaaGreatDoorPart33
import Derived.Deep.RegionHeld3
import Derived.Test.YtfgapefckpnjjaaGreatDoorPart14
import Derived.Test.YtfgapefckpnjjaaGreatDoorPart34
import Derived.Test.YtfgapefckpnjjaaGreatDoorPart35
import Derived.Test.YtfgapefckpnjjaaGreatDoorPart37
import Derived.Test.YtfgapefckpnjjaaGreatDoorPart39
import Derived.Test.YtfgapefckpnjjaaGreatDoorPart16
import Derived.Test.YtfgapefckpnjjaaGreatDoorPart15
import Derived.Test.YtfgapefckpnjjaaGreatDoorPart7
import Derived.Test.YtfgapefckpnjjaaGreatDoorPart10
set_option linter.unusedVariables false
set_option linter.unusedSimpArgs false
namespace Go.Proofs.YtfgapefckpnjjaaGreatDoor
open Go Go.RowKit Go.Proofs.YtfgapefckpnjjaaGreatDoor.M
set_option maxRecDepth 100000 in
set_option maxHeartbeats 4000000 in
theorem r8Valid {a b:Int} (ra:rng a) (rb:rng b) (w:World):Calls Tryz.prog 11 #[.agg #[.int .i64 a,.int .i64 b]] w fun e w'=>e=.returned (.bool (rvld a b))∧Below w.heap.size w w':=by
  have CA:Hid (∀ W,Calls Tryz.prog 40 #[.int .i64 a] W fun e w'=>e=.returned (.int .i64 (cls a))∧w'=W):=fun W=>refClass a W ra
  have CB:Hid (∀ W,Calls Tryz.prog 40 #[.int .i64 b] W fun e w'=>e=.returned (.int .i64 (cls b))∧w'=W):=fun W=>refClass b W rb
  unfold rvld
  by_cases ha:cls a=4
  . rw [ha] at CA ⊢
    have e:(!decide ((4:Int)=4) && (!decide (cls b=4) && (!decide ((eOf a).i=1) && (!decide ((eOf b).i=-1) && decide (eOrd (eOf a) (eOf b) <= 0)))))=false:=by simp
    rw [e]
    clear e
    have hb:=bel_refl w
    go_enter Tryz.func11,Tryz.ntmps11
    have s_k:(w.alloc (.cells #[.int .i64 a,.int .i64 b] 23)).heap[w.heap.size]?=some (.cells #[.int .i64 a,.int .i64 b] 23):=heap_new (.cells #[.int .i64 a,.int .i64 b] 23) (by simp only [size_alloc])
    have hb:=bel_trans hb (bel_alloc w (.cells #[.int .i64 a,.int .i64 b] 23))
    have f_s0:=blkC s_k 0 rfl
    have f_s1:=blkC s_k 1 rfl
    go_wp2_with fail
    clear f_s0 f_s1
    generalize (w.alloc (.cells #[.int .i64 a,.int .i64 b] 23))=x1 at s_k hb ⊢
    refine (CA.out _).mono ?_
    rintro _ _ ⟨rfl,rfl⟩
    go_wp2
    go_ret
    exact ⟨rfl,hb⟩
  . have ha2:(cls a == 4)=false:=by simp; exact ha
    by_cases hb':cls b=4
    . rw [hb'] at CB ⊢
      have e:(!decide (cls a=4) && (!decide ((4:Int)=4) && (!decide ((eOf a).i=1) && (!decide ((eOf b).i=-1) && decide (eOrd (eOf a) (eOf b) <= 0)))))=false:=by simp
      rw [e]
      generalize cls a=ca at *
      clear e ha hb'
      have hb:=bel_refl w
      go_enter Tryz.func11,Tryz.ntmps11
      have s_k:(w.alloc (.cells #[.int .i64 a,.int .i64 b] 23)).heap[w.heap.size]?=some (.cells #[.int .i64 a,.int .i64 b] 23):=heap_new (.cells #[.int .i64 a,.int .i64 b] 23) (by simp only [size_alloc])
      have hb:=bel_trans hb (bel_alloc w (.cells #[.int .i64 a,.int .i64 b] 23))
      have f_s0:=blkC s_k 0 rfl
      have f_s1:=blkC s_k 1 rfl
      go_wp2_with fail
      clear f_s0 f_s1
      generalize (w.alloc (.cells #[.int .i64 a,.int .i64 b] 23))=x1 at s_k hb ⊢
      refine (CA.out _).mono ?_
      rintro _ _ ⟨rfl,rfl⟩
      have f_s1:=blkC s_k 1 rfl
      go_wp2_with fail
      clear f_s1
      refine (CB.out _).mono ?_
      rintro _ _ ⟨rfl,rfl⟩
      go_wp2
      go_ret
      exact ⟨rfl,hb⟩
    . have hb2:(cls b == 4)=false:=by simp; exact hb'
      have na:nn a:=⟨ra,ha⟩
      have nb:nn b:=⟨rb,hb'⟩
      rw [decide_eq_false ha,decide_eq_false hb']
      simp only [Bool.not_false,Bool.true_and]
      have OA:Hid (∀ W,Calls Tryz.prog 41 #[.int .i64 a] W fun r w'=>∃ v,r=.returned v∧EA w' v (eOf a)∧Below W.heap.size W w'):=fun W=>e8of na W
      have OB:Hid (∀ W,Calls Tryz.prog 41 #[.int .i64 b] W fun r w'=>∃ v,r=.returned v∧EA w' v (eOf b)∧Below W.heap.size W w'):=fun W=>e8of nb W
      have OO:Hid (∀ (u v:Value) W,EA W u (eOf a)->EA W v (eOf b)->Calls Tryz.prog 42 #[u,v] W fun r w'=>r=.returned (.int .i64 (eOrd (eOf a) (eOf b)))∧Below W.heap.size W w'):=fun u v W hu hv=>e8order hu.ev hv.ev (K:=4000) (by omega) (bd_of _) (bd_of _)
      generalize eOf a=A at *
      generalize eOf b=B at *
      generalize cls a=ca at *
      generalize cls b=cb at *
      generalize eOrd A B=O at *
      obtain ⟨ai,hai⟩:∃ ai,A.i=ai:=⟨_,rfl⟩
      obtain ⟨bi,hbi⟩:∃ bi,B.i=bi:=⟨_,rfl⟩
      have OA2:Hid (∀ W,Calls Tryz.prog 41 #[.int .i64 a] W fun r w'=>∃ g o n c e,r=.returned (.agg #[.int .i64 ai,.bool g,.slice o n c,.int .i64 e])∧DAn 0 w' A.v (.agg #[.bool g,.slice o n c,.int .i64 e])∧Below W.heap.size W w'):=fun W=>by
        refine (OA.out W).mono ?_
        rintro r w' ⟨v,rfl,⟨g,o,n,c,e,rfl,hD⟩,hb⟩
        exact ⟨g,o,n,c,e,by rw [hai],hD,hb⟩
      have OB2:Hid (∀ W,Calls Tryz.prog 41 #[.int .i64 b] W fun r w'=>∃ g o n c e,r=.returned (.agg #[.int .i64 bi,.bool g,.slice o n c,.int .i64 e])∧DAn 0 w' B.v (.agg #[.bool g,.slice o n c,.int .i64 e])∧Below W.heap.size W w'):=fun W=>by
        refine (OB.out W).mono ?_
        rintro r w' ⟨v,rfl,⟨g,o,n,c,e,rfl,hD⟩,hb⟩
        exact ⟨g,o,n,c,e,by rw [hbi],hD,hb⟩
      have OO2:Hid (∀ (g:Bool) (o:Option Addr) (n c:Nat) (e:Int) (g':Bool) (o':Option Addr) (n' c':Nat) (e':Int) W,DAn 0 W A.v (.agg #[.bool g,.slice o n c,.int .i64 e])->DAn 0 W B.v (.agg #[.bool g',.slice o' n' c',.int .i64 e'])->Calls Tryz.prog 42 #[.agg #[.int .i64 ai,.bool g,.slice o n c,.int .i64 e],.agg #[.int .i64 bi,.bool g',.slice o' n' c',.int .i64 e']] W fun r w'=>r=.returned (.int .i64 O)∧Below W.heap.size W w'):=fun g o n c e g' o' n' c' e' W h1 h2=>OO.out _ _ W ⟨g,o,n,c,e,by rw [hai],h1⟩ ⟨g',o',n',c',e',by rw [hbi],h2⟩
      rw [hai,hbi]
      clear ha hb' na nb OA OB OO hai hbi
      by_cases h1:ai=1
      . subst h1
        have e:(!decide ((1:Int)=1) && (!decide (bi=-1) && decide (O <= 0)))=false:=by simp
        rw [e]
        clear e OO2
        have hb:=bel_refl w
        go_enter Tryz.func11,Tryz.ntmps11
        have s_k:(w.alloc (.cells #[.int .i64 a,.int .i64 b] 23)).heap[w.heap.size]?=some (.cells #[.int .i64 a,.int .i64 b] 23):=heap_new (.cells #[.int .i64 a,.int .i64 b] 23) (by simp only [size_alloc])
        have hb:=bel_trans hb (bel_alloc w (.cells #[.int .i64 a,.int .i64 b] 23))
        have f_s0:=blkC s_k 0 rfl
        have f_s1:=blkC s_k 1 rfl
        go_wp2_with fail
        clear f_s0 f_s1
        generalize (w.alloc (.cells #[.int .i64 a,.int .i64 b] 23))=x1 at s_k hb ⊢
        refine (CA.out _).mono ?_
        rintro _ _ ⟨rfl,rfl⟩
        have f_s1:=blkC s_k 1 rfl
        go_wp2_with fail
        clear f_s1
        refine (CB.out _).mono ?_
        rintro _ _ ⟨rfl,rfl⟩
        have f_s0:=blkC s_k 0 rfl
        have f_s1:=blkC s_k 1 rfl
        go_wp2_with fail
        clear f_s0 f_s1
        refine (OA2.out _).mono ?_
        rintro _ y2 ⟨p_g,p_o,p_n,p_c,p_e,rfl,p_D,hw⟩
        have s_k:=blk_up hw s_k
        have hb:=bel_trans hb hw
        have s_k:=heap_past (.cells #[.int .i64 1,.bool p_g,.slice p_o p_n p_c,.int .i64 p_e] 68) s_k
        have p_k:(y2.alloc (.cells #[.int .i64 1,.bool p_g,.slice p_o p_n p_c,.int .i64 p_e] 68)).heap[y2.heap.size]?=some (.cells #[.int .i64 1,.bool p_g,.slice p_o p_n p_c,.int .i64 p_e] 68):=heap_new (.cells #[.int .i64 1,.bool p_g,.slice p_o p_n p_c,.int .i64 p_e] 68) (by simp only [size_alloc])
        have p_D:=p_D.keeps (bel_alloc y2 (.cells #[.int .i64 1,.bool p_g,.slice p_o p_n p_c,.int .i64 p_e] 68))
        have hb:=bel_trans hb (bel_alloc y2 (.cells #[.int .i64 1,.bool p_g,.slice p_o p_n p_c,.int .i64 p_e] 68))
        have f_s0:=blkC s_k 0 rfl
        have f_s1:=blkC s_k 1 rfl
        go_wp2_with fail
        clear f_s0 f_s1
        generalize (y2.alloc (.cells #[.int .i64 1,.bool p_g,.slice p_o p_n p_c,.int .i64 p_e] 68))=x3 at s_k p_k p_D hb ⊢
        refine (OB2.out _).mono ?_
        rintro _ y4 ⟨q_g,q_o,q_n,q_c,q_e,rfl,q_D,hw⟩
        have s_k:=blk_up hw s_k
        have p_k:=blk_up hw p_k
        have p_D:=p_D.keeps hw
        have hb:=bel_trans hb hw
        have q_k:=heap_a1 y4 (.cells #[.int .i64 bi,.bool q_g,.slice q_o q_n q_c,.int .i64 q_e] 68)
        have p_k:=heap_past (.cells #[.int .i64 bi,.bool q_g,.slice q_o q_n q_c,.int .i64 q_e] 68) p_k
        have hb:=bel_trans hb (bel_alloc y4 (.cells #[.int .i64 bi,.bool q_g,.slice q_o q_n q_c,.int .i64 q_e] 68))
        have f_p0:=blkC p_k 0 rfl
        have f_q0:=blkC q_k 0 rfl
        go_wp2
        go_ret
        exact ⟨rfl,hb⟩
      . have h1':(ai != 1)=true:=by simp; exact h1
        by_cases h2:bi=-1
        . subst h2
          have e:(!decide (ai=1) && (!decide ((-1:Int)=-1) && decide (O <= 0)))=false:=by simp
          rw [e]
          clear e OO2 h1
          have hb:=bel_refl w
          go_enter Tryz.func11,Tryz.ntmps11
          have s_k:(w.alloc (.cells #[.int .i64 a,.int .i64 b] 23)).heap[w.heap.size]?=some (.cells #[.int .i64 a,.int .i64 b] 23):=heap_new (.cells #[.int .i64 a,.int .i64 b] 23) (by simp only [size_alloc])
          have hb:=bel_trans hb (bel_alloc w (.cells #[.int .i64 a,.int .i64 b] 23))
          have f_s0:=blkC s_k 0 rfl
          have f_s1:=blkC s_k 1 rfl
          go_wp2_with fail
          clear f_s0 f_s1
          generalize (w.alloc (.cells #[.int .i64 a,.int .i64 b] 23))=x1 at s_k hb ⊢
          refine (CA.out _).mono ?_
          rintro _ _ ⟨rfl,rfl⟩
          have f_s1:=blkC s_k 1 rfl
          go_wp2_with fail
          clear f_s1
          refine (CB.out _).mono ?_
          rintro _ _ ⟨rfl,rfl⟩
          have f_s0:=blkC s_k 0 rfl
          have f_s1:=blkC s_k 1 rfl
          go_wp2_with fail
          clear f_s0 f_s1
          refine (OA2.out _).mono ?_
          rintro _ y2 ⟨p_g,p_o,p_n,p_c,p_e,rfl,p_D,hw⟩
          have s_k:=blk_up hw s_k
          have hb:=bel_trans hb hw
          have s_k:=heap_past (.cells #[.int .i64 ai,.bool p_g,.slice p_o p_n p_c,.int .i64 p_e] 68) s_k
          have p_k:(y2.alloc (.cells #[.int .i64 ai,.bool p_g,.slice p_o p_n p_c,.int .i64 p_e] 68)).heap[y2.heap.size]?=some (.cells #[.int .i64 ai,.bool p_g,.slice p_o p_n p_c,.int .i64 p_e] 68):=heap_new (.cells #[.int .i64 ai,.bool p_g,.slice p_o p_n p_c,.int .i64 p_e] 68) (by simp only [size_alloc])
          have p_D:=p_D.keeps (bel_alloc y2 (.cells #[.int .i64 ai,.bool p_g,.slice p_o p_n p_c,.int .i64 p_e] 68))
          have hb:=bel_trans hb (bel_alloc y2 (.cells #[.int .i64 ai,.bool p_g,.slice p_o p_n p_c,.int .i64 p_e] 68))
          have f_s0:=blkC s_k 0 rfl
          have f_s1:=blkC s_k 1 rfl
          go_wp2_with fail
          clear f_s0 f_s1
          generalize (y2.alloc (.cells #[.int .i64 ai,.bool p_g,.slice p_o p_n p_c,.int .i64 p_e] 68))=x3 at s_k p_k p_D hb ⊢
          refine (OB2.out _).mono ?_
          rintro _ y4 ⟨q_g,q_o,q_n,q_c,q_e,rfl,q_D,hw⟩
          have s_k:=blk_up hw s_k
          have p_k:=blk_up hw p_k
          have p_D:=p_D.keeps hw
          have hb:=bel_trans hb hw
          have q_k:=heap_a1 y4 (.cells #[.int .i64 (-1),.bool q_g,.slice q_o q_n q_c,.int .i64 q_e] 68)
          have p_k:=heap_past (.cells #[.int .i64 (-1),.bool q_g,.slice q_o q_n q_c,.int .i64 q_e] 68) p_k
          have hb:=bel_trans hb (bel_alloc y4 (.cells #[.int .i64 (-1),.bool q_g,.slice q_o q_n q_c,.int .i64 q_e] 68))
          have f_p0:=blkC p_k 0 rfl
          have f_q0:=blkC q_k 0 rfl
          go_wp2
          go_ret
          exact ⟨rfl,hb⟩
        . have h2':(bi != -1)=true:=by simp; exact h2
          have e:(!decide (ai=1) && (!decide (bi=-1) && decide (O <= 0)))=decide (O <= 0):=by simp [h1,h2]
          rw [e]
          clear e h1 h2
          have hb:=bel_refl w
          go_enter Tryz.func11,Tryz.ntmps11
          have s_k:(w.alloc (.cells #[.int .i64 a,.int .i64 b] 23)).heap[w.heap.size]?=some (.cells #[.int .i64 a,.int .i64 b] 23):=heap_new (.cells #[.int .i64 a,.int .i64 b] 23) (by simp only [size_alloc])
          have hb:=bel_trans hb (bel_alloc w (.cells #[.int .i64 a,.int .i64 b] 23))
          have f_s0:=blkC s_k 0 rfl
          have f_s1:=blkC s_k 1 rfl
          go_wp2_with fail
          clear f_s0 f_s1
          generalize (w.alloc (.cells #[.int .i64 a,.int .i64 b] 23))=x1 at s_k hb ⊢
          refine (CA.out _).mono ?_
          rintro _ _ ⟨rfl,rfl⟩
          have f_s1:=blkC s_k 1 rfl
          go_wp2_with fail
          clear f_s1
          refine (CB.out _).mono ?_
          rintro _ _ ⟨rfl,rfl⟩
          have f_s0:=blkC s_k 0 rfl
          have f_s1:=blkC s_k 1 rfl
          go_wp2_with fail
          clear f_s0 f_s1
          refine (OA2.out _).mono ?_
          rintro _ y2 ⟨p_g,p_o,p_n,p_c,p_e,rfl,p_D,hw⟩
          have s_k:=blk_up hw s_k
          have hb:=bel_trans hb hw
          have s_k:=heap_past (.cells #[.int .i64 ai,.bool p_g,.slice p_o p_n p_c,.int .i64 p_e] 68) s_k
          have p_k:(y2.alloc (.cells #[.int .i64 ai,.bool p_g,.slice p_o p_n p_c,.int .i64 p_e] 68)).heap[y2.heap.size]?=some (.cells #[.int .i64 ai,.bool p_g,.slice p_o p_n p_c,.int .i64 p_e] 68):=heap_new (.cells #[.int .i64 ai,.bool p_g,.slice p_o p_n p_c,.int .i64 p_e] 68) (by simp only [size_alloc])
          have p_D:=p_D.keeps (bel_alloc y2 (.cells #[.int .i64 ai,.bool p_g,.slice p_o p_n p_c,.int .i64 p_e] 68))
          have hb:=bel_trans hb (bel_alloc y2 (.cells #[.int .i64 ai,.bool p_g,.slice p_o p_n p_c,.int .i64 p_e] 68))
          have f_s0:=blkC s_k 0 rfl
          have f_s1:=blkC s_k 1 rfl
          go_wp2_with fail
          clear f_s0 f_s1
          generalize (y2.alloc (.cells #[.int .i64 ai,.bool p_g,.slice p_o p_n p_c,.int .i64 p_e] 68))=x3 at s_k p_k p_D hb ⊢
          refine (OB2.out _).mono ?_
          rintro _ y4 ⟨q_g,q_o,q_n,q_c,q_e,rfl,q_D,hw⟩
          have s_k:=blk_up hw s_k
          have p_k:=blk_up hw p_k
          have p_D:=p_D.keeps hw
          have hb:=bel_trans hb hw
          have s_k:=heap_past (.cells #[.int .i64 bi,.bool q_g,.slice q_o q_n q_c,.int .i64 q_e] 68) s_k
          have p_k:=heap_past (.cells #[.int .i64 bi,.bool q_g,.slice q_o q_n q_c,.int .i64 q_e] 68) p_k
          have q_k:(y4.alloc (.cells #[.int .i64 bi,.bool q_g,.slice q_o q_n q_c,.int .i64 q_e] 68)).heap[y4.heap.size]?=some (.cells #[.int .i64 bi,.bool q_g,.slice q_o q_n q_c,.int .i64 q_e] 68):=heap_new (.cells #[.int .i64 bi,.bool q_g,.slice q_o q_n q_c,.int .i64 q_e] 68) (by simp only [size_alloc])
          have p_D:=p_D.keeps (bel_alloc y4 (.cells #[.int .i64 bi,.bool q_g,.slice q_o q_n q_c,.int .i64 q_e] 68))
          have q_D:=q_D.keeps (bel_alloc y4 (.cells #[.int .i64 bi,.bool q_g,.slice q_o q_n q_c,.int .i64 q_e] 68))
          have hb:=bel_trans hb (bel_alloc y4 (.cells #[.int .i64 bi,.bool q_g,.slice q_o q_n q_c,.int .i64 q_e] 68))
          have f_p0:=blkC p_k 0 rfl
          have f_p1:=blkC p_k 1 rfl
          have f_p2:=blkC p_k 2 rfl
          have f_p3:=blkC p_k 3 rfl
          have f_q0:=blkC q_k 0 rfl
          have f_q1:=blkC q_k 1 rfl
          have f_q2:=blkC q_k 2 rfl
          have f_q3:=blkC q_k 3 rfl
          go_wp2_with fail
          clear f_p0 f_p1 f_p2 f_p3 f_q0 f_q1 f_q2 f_q3
          generalize (y4.alloc (.cells #[.int .i64 bi,.bool q_g,.slice q_o q_n q_c,.int .i64 q_e] 68))=x5 at s_k p_k q_k p_D q_D hb ⊢
          refine (OO2.out _ _ _ _ _ _ _ _ _ _ _ p_D q_D).mono ?_
          rintro _ y6 ⟨rfl,hw⟩
          have s_k:=blk_up hw s_k
          have p_k:=blk_up hw p_k
          have q_k:=blk_up hw q_k
          have p_D:=p_D.keeps hw
          have q_D:=q_D.keeps hw
          have hb:=bel_trans hb hw
          go_wp2
          go_ret
          exact ⟨rfl,hb⟩
set_option maxRecDepth 100000 in
set_option maxHeartbeats 4000000 in
theorem spanMeetE {a b c d:Int} (ha:rng a) (hb:rng b) (hc':rng c) (hd:rng d) (w:World) (L:Lays w) :
    Calls Tryz.prog 29 #[spn a b,spn c d] w fun e w'=>∃ X Y:Int,e=.returned (.tuple #[.agg #[.int .i64 X,.int .i64 Y],.bool ((vld a b && vld c d) && vld (maxP a c) (minP b d)),.int .i64 (errA (vld a b && vld c d))])∧((vld a b && vld c d)=true->vld (maxP a c) (minP b d)=true->X=canon (maxP a c)∧Y=canon (minP b d))∧(((vld a b && vld c d) && vld (maxP a c) (minP b d))=false->X=0∧Y=0)∧Below w.heap.size w w':=by
  have R1:=fun W=>spanReadX a b W
  have R2:=fun W=>spanReadX c d W
  have V1:Hid (∀ W,Calls Tryz.prog 39 #[ivl a b] W fun e w'=>e=.returned (.bool (vld a b))∧Below W.heap.size W w'):=fun W=>ivlValid ha hb W
  have V2:Hid (∀ W,Calls Tryz.prog 39 #[ivl c d] W fun e w'=>e=.returned (.bool (vld c d))∧Below W.heap.size W w'):=fun W=>ivlValid hc' hd W
  unfold spn ivl at *
  obtain ⟨q0,q1,q2,hs,hb3⟩:=heap3 w (.cells #[.int .i64 a,.int .i64 b] 23) (.cells #[.int .i64 c,.int .i64 d] 23) (.cells #[.int .i64 0,.int .i64 0] 23)
  go_enter Tryz.func29,Tryz.ntmps29
  go_wp2_with fail
  have k0:=blkC q0 0 rfl
  have k1:=blkC q0 1 rfl
  have k2:=blkC q1 0 rfl
  have k3:=blkC q1 1 rfl
  generalize ((w.alloc (.cells #[.int .i64 a,.int .i64 b] 23)).alloc (.cells #[.int .i64 c,.int .i64 d] 23)).alloc (.cells #[.int .i64 0,.int .i64 0] 23)=wx at *
  have hst:∀ (p:Addr) (n:Nat) (m:Mode) (w:World),(store p (.float .f64 n) m).run Tryz.prog w=stored Tryz.prog w p (.float .f64 n) m:=fun p n m w=>run_store _ w p _ m rfl
  have hc:(w.heap.size < w.heap.size + 3∧w.heap.size + 1 < w.heap.size + 3∧w.heap.size + 3 <= wx.drew.heap.size)∧wx.drew.cell? ⟨w.heap.size,0,none⟩=some (.int .i64 a)∧wx.drew.cell? ⟨w.heap.size,1,none⟩=some (.int .i64 b)∧wx.drew.cell? ⟨w.heap.size + 1,0,none⟩=some (.int .i64 c)∧wx.drew.cell? ⟨w.heap.size + 1,1,none⟩=some (.int .i64 d):=⟨⟨by omega,by omega,by show _ <= wx.heap.size; omega⟩,k0,k1,k2,k3⟩
  rename_i Q' K haK
  have H:∀ (gi gj:Nat) (W:World),W.heap[gi]?=some (.cells #[.float .f64 (wd a),.float .f64 (wd b)] 64 (0,0))->W.heap[gj]?=some (.cells #[.float .f64 (wd c),.float .f64 (wd d)] 64 (0,0))->Below wx.heap.size wx W ->
      Exit.then K Q' Exit.normal { tmps:=#[.agg #[.int .i64 a,.int .i64 b],.agg #[.int .i64 c,.int .i64 d],.pointer (some ⟨w.heap.size,0,none⟩),.pointer (some ⟨w.heap.size + 1,0,none⟩),.pointer (some ⟨w.heap.size + 1 + 1,0,none⟩),.bool false,.int .i64 0,.pointer (some ⟨gi,0,none⟩),.pointer (some ⟨gj,0,none⟩),undef,.agg #[.int .i64 a,.int .i64 b],.agg #[.float .f64 (wd a),.float .f64 (wd b)],.agg #[.int .i64 c,.int .i64 d],.agg #[.float .f64 (wd c),.float .f64 (wd d)],undef,undef,undef,undef,undef,undef,undef,undef,undef,undef,undef,undef,undef,undef,undef,undef,undef,undef,undef,undef,undef,undef,undef,undef,undef,undef],defers:=[] } W:=by
    intro gi gj W hgi hgj hbW
    clear hc k0 k1 k2 k3 q0 q1 R1 R2
    have i0:=blkC hgi 0 rfl
    have i1:=blkC hgi 1 rfl
    go_wp2_with fail
    refine (V1.out _).mono ?_
    rintro _ w1 ⟨rfl,hb4⟩
    have hgi1:=(hb4.block _ (Array.getElem?_eq_some_iff.1 hgi).1).trans hgi
    have hgj1:=(hb4.block _ (Array.getElem?_eq_some_iff.1 hgj).1).trans hgj
    clear i0 i1
    have j0:=blkC hgj1 0 rfl
    have j1:=blkC hgj1 1 rfl
    by_cases h1:vld a b=false
    . rw [h1]
      have hbR:=bel_trans hbW hb4
      have d2:=(hbR.block _ (Array.getElem?_eq_some_iff.1 q2).1).trans q2
      have d3:=q_heap_set d2 0 (.int .i64 0)
      have d4:=q_heap_set d3 1 (.int .i64 0)
      have f0:=blkC d2 0 rfl
      have z0:=blkF d2 0
      have f1:=blkC d3 1 rfl
      have z1:=blkF d3 1
      have e0:=blkC d4 0 rfl
      have e1:=blkC d4 1 rfl
      have hbe:=((bel_trans hb3 hbR).setCell (p:=⟨w.heap.size + 1 + 1,0,none⟩) (show w.heap.size <= w.heap.size + 1 + 1 by omega) (.int .i64 0)).setCell (p:=⟨w.heap.size + 1 + 1,1,none⟩) (show w.heap.size <= w.heap.size + 1 + 1 by omega) (.int .i64 0)
      clear d2 d3 d4
      go_wp2
      refine bodyPost_ret (v:=.tuple #[.agg #[.int .i64 0,.int .i64 0],.bool false,.int .i64 1]) (by simp [results,Tryz.results29,go_sem,e0,e1]) rfl ⟨_,_,by rw [h1]; rfl,(fun hx=>by rw [h1] at hx; cases hx),(fun _=>⟨rfl,rfl⟩),hbe⟩
    replace h1:vld a b=true:=by simpa using h1
    rw [h1]
    go_wp2_with fail
    refine (V2.out _).mono ?_
    rintro _ w2 ⟨rfl,hb5⟩
    have hgi2:=(hb5.block _ (Array.getElem?_eq_some_iff.1 hgi1).1).trans hgi1
    have hgj2:=(hb5.block _ (Array.getElem?_eq_some_iff.1 hgj1).1).trans hgj1
    clear j0 j1
    have hbR:=bel_trans hbW (bel_trans hb4 hb5)
    by_cases h2:vld c d=false
    . rw [h2]
      have d2:=(hbR.block _ (Array.getElem?_eq_some_iff.1 q2).1).trans q2
      have d3:=q_heap_set d2 0 (.int .i64 0)
      have d4:=q_heap_set d3 1 (.int .i64 0)
      have f0:=blkC d2 0 rfl
      have z0:=blkF d2 0
      have f1:=blkC d3 1 rfl
      have z1:=blkF d3 1
      have e0:=blkC d4 0 rfl
      have e1:=blkC d4 1 rfl
      have hbe:=((bel_trans hb3 hbR).setCell (p:=⟨w.heap.size + 1 + 1,0,none⟩) (show w.heap.size <= w.heap.size + 1 + 1 by omega) (.int .i64 0)).setCell (p:=⟨w.heap.size + 1 + 1,1,none⟩) (show w.heap.size <= w.heap.size + 1 + 1 by omega) (.int .i64 0)
      clear d2 d3 d4
      go_wp2
      refine bodyPost_ret (v:=.tuple #[.agg #[.int .i64 0,.int .i64 0],.bool false,.int .i64 1]) (by simp [results,Tryz.results29,go_sem,e0,e1]) rfl ⟨_,_,by rw [h2,Bool.and_false]; rfl,(fun hx=>by rw [h2,Bool.and_false] at hx; cases hx),(fun _=>⟨rfl,rfl⟩),hbe⟩
    replace h2:vld c d=true:=by simpa using h2
    rw [h2]
    obtain ⟨va,vb,_,_,_⟩:=vld_iff.1 h1
    obtain ⟨vc,vd,_,_,_⟩:=vld_iff.1 h2
    obtain ⟨nx,_,_,_⟩:=maxP_nn ⟨ha,va⟩ ⟨hc',vc⟩
    obtain ⟨ny,_,_,_⟩:=minP_nn ⟨hb,vb⟩ ⟨hd,vd⟩
    have RX:=fun ts t W=>run_maxF (P:=Tryz.prog) ⟨ha,va⟩ ⟨hc',vc⟩ ts t W
    have RN:=fun ts t W=>run_minF (P:=Tryz.prog) ⟨hb,vb⟩ ⟨hd,vd⟩ ts t W
    have V3:Hid (∀ W,Calls Tryz.prog 39 #[.agg #[.float .f64 (wd (maxP a c)),.float .f64 (wd (minP b d))]] W fun e w'=>e=.returned (.bool (vld (maxP a c) (minP b d)))∧Below W.heap.size W w'):=fun W=>ivlValid nx.1 ny.1 W
    have CT:Hid (∀ W,Lays W->Calls Tryz.prog 43 #[.agg #[.float .f64 (wd (maxP a c)),.float .f64 (wd (minP b d))]] W fun e w'=>e=.returned (.agg #[.int .i64 (canon (maxP a c)),.int .i64 (canon (minP b d))])∧Below W.heap.size W w'):=fun W LW=>spanTold nx ny W LW
    have L2:=L.below' (bel_trans hb3 hbR)
    have i0:=blkC hgi2 0 rfl
    have i1:=blkC hgi2 1 rfl
    have j0:=blkC hgj2 0 rfl
    have j1:=blkC hgj2 1 rfl
    go_wp2_with fail
    have hba:=bel_alloc w2 (.cells #[.float .f64 (wd (maxP a c)),.float .f64 (wd (minP b d))] 64)
    have hgb:(w2.alloc (.cells #[.float .f64 (wd (maxP a c)),.float .f64 (wd (minP b d))] 64)).heap[w2.heap.size]?=some (.cells #[.float .f64 (wd (maxP a c)),.float .f64 (wd (minP b d))] 64 (0,0)):=by show (w2.heap.push _)[w2.heap.size]?=_; simp
    generalize w2.alloc (.cells #[.float .f64 (wd (maxP a c)),.float .f64 (wd (minP b d))] 64)=w3 at *
    clear i0 i1 j0 j1 RX RN hst
    refine (V3.out _).mono ?_
    rintro _ w4 ⟨rfl,hb6⟩
    replace hbR:=bel_trans hbR (bel_trans hba hb6)
    replace L2:=L.below' (bel_trans hb3 hbR)
    have hgb1:=(hb6.block _ (Array.getElem?_eq_some_iff.1 hgb).1).trans hgb
    by_cases h3:vld (maxP a c) (minP b d)=false
    . rw [h3]
      have d2:=(hbR.block _ (Array.getElem?_eq_some_iff.1 q2).1).trans q2
      have d3:=q_heap_set d2 0 (.int .i64 0)
      have d4:=q_heap_set d3 1 (.int .i64 0)
      have f0:=blkC d2 0 rfl
      have z0:=blkF d2 0
      have f1:=blkC d3 1 rfl
      have z1:=blkF d3 1
      have e0:=blkC d4 0 rfl
      have e1:=blkC d4 1 rfl
      have hbe:=((bel_trans hb3 hbR).setCell (p:=⟨w.heap.size + 1 + 1,0,none⟩) (show w.heap.size <= w.heap.size + 1 + 1 by omega) (.int .i64 0)).setCell (p:=⟨w.heap.size + 1 + 1,1,none⟩) (show w.heap.size <= w.heap.size + 1 + 1 by omega) (.int .i64 0)
      clear d2 d3 d4
      go_wp2
      refine bodyPost_ret (v:=.tuple #[.agg #[.int .i64 0,.int .i64 0],.bool false,.int .i64 0]) (by simp [results,Tryz.results29,go_sem,e0,e1]) rfl ⟨_,_,by rw [h1,h2,h3]; rfl,(fun _ hx=>by rw [h3] at hx; cases hx),(fun _=>⟨rfl,rfl⟩),hbe⟩
    replace h3:vld (maxP a c) (minP b d)=true:=by simpa using h3
    rw [h3]
    have m0:=blkC hgb1 0 rfl
    have m1:=blkC hgb1 1 rfl
    go_wp2_with fail
    refine (CT.out _ L2).mono ?_
    rintro _ w5 ⟨rfl,hb7⟩
    replace hbR:=bel_trans hbR hb7
    have d2:=(hbR.block _ (Array.getElem?_eq_some_iff.1 q2).1).trans q2
    have d3:=q_heap_set d2 0 (.int .i64 (canon (maxP a c)))
    have d4:=q_heap_set d3 1 (.int .i64 (canon (minP b d)))
    have f0:=blkC d2 0 rfl
    have z0:=blkF d2 0
    have f1:=blkC d3 1 rfl
    have z1:=blkF d3 1
    have e0:=blkC d4 0 rfl
    have e1:=blkC d4 1 rfl
    have hbe:=((bel_trans hb3 hbR).setCell (p:=⟨w.heap.size + 1 + 1,0,none⟩) (show w.heap.size <= w.heap.size + 1 + 1 by omega) (.int .i64 (canon (maxP a c)))).setCell (p:=⟨w.heap.size + 1 + 1,1,none⟩) (show w.heap.size <= w.heap.size + 1 + 1 by omega) (.int .i64 (canon (minP b d)))
    clear d2 d3 d4
    go_wp2
    refine bodyPost_ret (v:=.tuple #[.agg #[.int .i64 (canon (maxP a c)),.int .i64 (canon (minP b d))],.bool true,.int .i64 0]) (by simp [results,Tryz.results29,go_sem,e0,e1]) rfl ⟨_,_,by rw [h1,h2,h3]; rfl,(fun _ _=>⟨rfl,rfl⟩),(fun hx=>by rw [h1,h2,h3] at hx; cases hx),hbe⟩
  go_region_held3 (fun W=>(w.heap.size < w.heap.size + 3∧w.heap.size + 1 < w.heap.size + 3∧w.heap.size + 3 <= W.heap.size)∧W.cell? ⟨w.heap.size,0,none⟩=some (.int .i64 a)∧W.cell? ⟨w.heap.size,1,none⟩=some (.int .i64 b)∧W.cell? ⟨w.heap.size + 1,0,none⟩=some (.int .i64 c)∧W.cell? ⟨w.heap.size + 1,1,none⟩=some (.int .i64 d))
    (first | assumption | (repeat (first | exact hc | refine s4_drew ?_ | refine s4_alloc _ ?_ | refine s4_set (by first | omega | (simp; omega)) ?_)))
    (first
      | (go_at_call 38; have _t:=T1; refine (R2 _).mono ?_; rintro _ _ ⟨rfl,rfl⟩)
      | (go_at_call 38; refine (R1 _).mono ?_; rintro _ _ ⟨rfl,rfl⟩; have T1:True:=trivial))
  all_goals
    refine H _ _ _ ?_ ?_ hl6_b
    all_goals first
      | exact hl6_0 hs rfl
      | exact hl6_1 hs rfl
      | exact hl6_2 hs rfl
      | exact hl6_3 hs rfl
      | exact hl6_4 hs rfl
      | exact hl6_5 hs rfl
end Go.Proofs.YtfgapefckpnjjaaGreatDoor
namespace Go.Proofs.YtfgapefckpnjjaaGreatDoor
open Go Go.ChangeShapes Go.WideShapes Go.ChangeAt Go.RowKit Go.Proofs.YtfgapefckpnjjaaGreatDoor.M
set_option maxRecDepth 100000 in
set_option maxHeartbeats 4000000 in
theorem twos_ok {a b c d:Int} (ra:rng a) (rb:rng b) (rc:rng c) (rd:rng d) (w:World) (H:Hold4 w) :
    Calls Tryz.prog 8 #[.agg #[.int .i64 a,.int .i64 b],.agg #[.int .i64 c,.int .i64 d]] w fun e w'=>e=.returned (.bool true)∧Below w.heap.size w w':=by
  have VA:∀ W,Calls Tryz.prog 11 #[.agg #[.int .i64 a,.int .i64 b]] W fun e w'=>e=.returned (.bool (vld a b))∧Below W.heap.size W w':=fun W=>by
    have:=r8Valid ra rb W
    rwa [rvld_eq ra rb] at this
  have VB:∀ W,Calls Tryz.prog 11 #[.agg #[.int .i64 c,.int .i64 d]] W fun e w'=>e=.returned (.bool (vld c d))∧Below W.heap.size W w':=fun W=>by
    have:=r8Valid rc rd W
    rwa [rvld_eq rc rd] at this
  have PA:=fun W (HW:Hold4 W)=>spanAddE ra rb rc rd W HW
  have PB:=fun W (HW:Hold4 W)=>spanSubE ra rb rc rd W HW
  have PC:=fun W (HW:Hold4 W)=>spanMulE ra rb rc rd W HW
  have PJ:=fun W (HW:Hold4 W)=>spanJoin ra rb rc rd W HW.env.lays
  have PM:=fun W (HW:Hold4 W)=>spanMeetE ra rb rc rd W HW.env.lays
  by_cases hv:(vld a b && vld c d)=true
  . have va:vld a b=true:=by revert hv; cases vld a b <;> simp
    have vc:vld c d=true:=by revert hv; cases vld a b <;> simp
    obtain ⟨na,nb,-,-,-⟩:=vld_lo ra rb va
    obtain ⟨nc,nd,-,-,-⟩:=vld_lo rc rd vc
    rw [va] at VA
    rw [vc] at VB
    simp only [hv,Bool.true_and,forall_const] at PA PB PC PJ PM
    obtain ⟨j1,j2⟩:=join_e na nb nc nd
    obtain ⟨m1,m2,m3⟩:=meet_e na nb nc nd va vc
    rw [j1,j2] at PJ
    rw [m1,m2,m3] at PM
    refine twos_good (decide (eOrd (eMax (eOf a) (eOf c)) (eMin (eOf b) (eOf d)) <= 0)) w H VA VB PA PB PC PJ (m0:=if eOrd (eMax (eOf a) (eOf c)) (eMin (eOf b) (eOf d)) <= 0 then eLo (eMax (eOf a) (eOf c)) else 0) (m1:=if eOrd (eMax (eOf a) (eOf c)) (eMin (eOf b) (eOf d)) <= 0 then eHi (eMin (eOf b) (eOf d)) else 0) ?_ (fun W=>r8Plus na nb nc nd W) (fun W=>r8Minus na nb nc nd W) (fun W=>r8Times na nb nc nd W) (fun W=>r8Join na nb nc nd W) (fun W=>r8Meet na nb nc nd W)
    intro W HW
    refine (PM W HW).mono ?_
    rintro e w' ⟨X,Y,rfl,h1,h2,hb⟩
    by_cases k:eOrd (eMax (eOf a) (eOf c)) (eMin (eOf b) (eOf d)) <= 0
    . obtain ⟨rfl,rfl⟩:=h1 (decide_eq_true k)
      exact ⟨by simp only [k,if_true]; rfl,hb⟩
    . obtain ⟨rfl,rfl⟩:=h2 (decide_eq_false k)
      exact ⟨by simp only [k,if_false]; rfl,hb⟩
  . have hv:(vld a b && vld c d)=false:=by revert hv; cases (vld a b && vld c d) <;> simp
    simp only [hv] at PA PB PC PJ PM
    refine twos8_bad _ _ hv w H VA VB PA PB PC PJ ?_
    intro W HW
    refine (PM W HW).mono ?_
    rintro e w' ⟨X,Y,rfl,h1,h2,hb⟩
    obtain ⟨rfl,rfl⟩:=h2 rfl
    exact ⟨rfl,hb⟩
theorem q_cellsSpan:Tryz.prog.cellsOf 23=2:=by kernel_rfl
theorem q_cellsIntS:Tryz.prog.cellsOf 3=1:=by kernel_rfl
set_option maxRecDepth 100000 in
theorem span_cells {H:Type} {enc:TypeId × Value->H} {W:World} {n:Nat} {cs:List Value} {x:DataW H × List MemPlace}
    (h:DataW.trod enc Tryz.prog W 0 (fun _=>true) true n 23 cs=some x) :
    ∃ a b:Int,cs=[.int .i64 a,.int .i64 b]∧rng a∧rng b:=by
  obtain ⟨xs,m,_,rfl,hl,hlen,hf⟩:=DataW.trod_struct Tryz.underlying23 h
  rw [q_cellsSpan] at hl
  match cs,hl with
  | [v0,v1],_=>
    match xs,hlen with
    | [y0,y1],_=>
      have f0:DataW.trod enc Tryz.prog W 0 (fun _=>true) true m 3 (([v0,v1].drop 0).take (Tryz.prog.cellsOf 3))=some y0:=hf 0 _ rfl
      have f1:DataW.trod enc Tryz.prog W 0 (fun _=>true) true m 3 (([v0,v1].drop 1).take (Tryz.prog.cellsOf 3))=some y1:=hf 1 _ rfl
      rw [q_cellsIntS] at f0 f1
      simp only [List.drop_zero,List.drop_succ_cons,List.take_succ_cons,List.take_zero] at f0 f1
      obtain ⟨k0,e0,_,w0⟩:=DataW.trod_int Tryz.underlying3 f0
      obtain ⟨k1,e1,_,w1⟩:=DataW.trod_int Tryz.underlying3 f1
      simp at e0 e1
      subst e0 e1
      exact ⟨k0,k1,rfl,rng_of w0,rng_of w1⟩
set_option maxRecDepth 100000 in
theorem span_of {H:Type} {enc:TypeId × Value->H} {W:World} {base:Nat} {v:Value} {d:DataW H} {p:List MemPlace} (hv:Value.okWide Tryz.prog W .any base 23 v)
    (h:DataW.Trod enc Tryz.prog W 0 (fun _=>true) true 23 v d p):∃ a b:Int,v=.agg #[.int .i64 a,.int .i64 b]∧rng a∧rng b:=by
  obtain ⟨cs,rfl,hc⟩:=okWide_struct Tryz.underlying23 hv
  obtain ⟨fuel,hf⟩:=h
  obtain ⟨a,b,hr,h1,h2⟩:=span_cells hf
  refine ⟨a,b,?_,h1,h2⟩
  congr 1
  have:cs.toList=[.int .i64 a,.int .i64 b]:=by simpa [Value.cells] using hr
  exact Array.toList_inj.1 this
end Go.Proofs.YtfgapefckpnjjaaGreatDoor
