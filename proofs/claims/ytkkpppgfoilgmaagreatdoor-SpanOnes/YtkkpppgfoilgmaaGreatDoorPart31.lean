/- Parts of the proof. -/
import Derived.Test.YtkkpppgfoilgmaaGreatDoorPart27
import Derived.Deep.RegionHeld3
import Derived.Test.YtkkpppgfoilgmaaGreatDoorPart16
set_option maxRecDepth 100000
set_option maxHeartbeats 8000000
set_option linter.unusedVariables false
set_option linter.unusedSimpArgs false
namespace Go.Proofs.YtkkpppgfoilgmaaGreatDoor
open Go Go.Proofs.Tryz Go.RowKit Go.Proofs.YtkkpppgfoilgmaaGreatDoor.M
theorem zG {a b:Int} (ra:au a) (rb:au b) (w:World):Calls prog 10 #[.agg #[.int .i64 a,.int .i64 b]] w fun e w'=>e=.returned (.bool (tJ a b))∧Below w.heap.size w w':=by
 have CA:Hid (∀ W,Calls prog 39 #[.int .i64 a] W fun e w'=>e=.returned (.int .i64 (aD a))∧w'=W):=fun W=>eT a W ra
 have CB:Hid (∀ W,Calls prog 39 #[.int .i64 b] W fun e w'=>e=.returned (.int .i64 (aD b))∧w'=W):=fun W=>eT b W rb
 unfold tJ
 by_cases ha:aD a=4
 ·rw[ha] at CA ⊢
  have e:(!decide ((4:Int)=4)&&(!decide (aD b=4)&&(!decide ((ah a).i=1)&&(!decide ((ah b).i=-1)&&decide (ck (ah a) (ah b)<=0)))))=false:=by simp
  rw[e]
  clear e
  have hb:=aq w
  go_enter func10,ntmps10
  have s_k:(w.alloc (.cells #[.int .i64 a,.int .i64 b] 23)).heap[w.heap.size]?=some (.cells #[.int .i64 a,.int .i64 b] 23):=av (.cells #[.int .i64 a,.int .i64 b] 23) (by simp only[ar])
  have hb:=aa hb (ae w (.cells #[.int .i64 a,.int .i64 b] 23))
  have f_s0:=ab s_k 0 rfl
  have f_s1:=ab s_k 1 rfl
  go_wp2_with fail
  clear f_s0 f_s1
  generalize (w.alloc (.cells #[.int .i64 a,.int .i64 b] 23))=x1 at s_k hb ⊢
  refine(CA.out _).mono ?_
  rintro _ _ ⟨rfl,rfl⟩
  go_wp2
  go_ret
  exact⟨rfl,hb⟩
 ·have ha2:(aD a == 4)=false:=by simp;exact ha
  by_cases hb':aD b=4
  ·rw[hb'] at CB ⊢
   have e:(!decide (aD a=4)&&(!decide ((4:Int)=4)&&(!decide ((ah a).i=1)&&(!decide ((ah b).i=-1)&&decide (ck (ah a) (ah b)<=0)))))=false:=by simp
   rw[e]
   generalize aD a=ca at *
   clear e ha hb'
   have hb:=aq w
   go_enter func10,ntmps10
   have s_k:(w.alloc (.cells #[.int .i64 a,.int .i64 b] 23)).heap[w.heap.size]?=some (.cells #[.int .i64 a,.int .i64 b] 23):=av (.cells #[.int .i64 a,.int .i64 b] 23) (by simp only[ar])
   have hb:=aa hb (ae w (.cells #[.int .i64 a,.int .i64 b] 23))
   have f_s0:=ab s_k 0 rfl
   have f_s1:=ab s_k 1 rfl
   go_wp2_with fail
   clear f_s0 f_s1
   generalize (w.alloc (.cells #[.int .i64 a,.int .i64 b] 23))=x1 at s_k hb ⊢
   refine(CA.out _).mono ?_
   rintro _ _ ⟨rfl,rfl⟩
   have f_s1:=ab s_k 1 rfl
   go_wp2_with fail
   clear f_s1
   refine(CB.out _).mono ?_
   rintro _ _ ⟨rfl,rfl⟩
   go_wp2
   go_ret
   exact⟨rfl,hb⟩
  ·have hb2:(aD b == 4)=false:=by simp;exact hb'
   have na:nn a:=⟨ra,ha⟩
   have nb:nn b:=⟨rb,hb'⟩
   rw[decide_eq_false ha,decide_eq_false hb']
   simp only[Bool.not_false,Bool.true_and]
   have OA:Hid (∀ W,Calls prog 40 #[.int .i64 a] W fun r w'=>∃ v,r=.returned v∧EA w' v (ah a)∧Below W.heap.size W w'):=fun W=>ff na W
   have OB:Hid (∀ W,Calls prog 40 #[.int .i64 b] W fun r w'=>∃ v,r=.returned v∧EA w' v (ah b)∧Below W.heap.size W w'):=fun W=>ff nb W
   have OO:Hid (∀ (u v:Value) W,EA W u (ah a)->EA W v (ah b)->Calls prog 41 #[u,v] W fun r w'=>r=.returned (.int .i64 (ck (ah a) (ah b)))∧Below W.heap.size W w'):=fun u v W hu hv=>nO hu.ev hv.ev (K:=4000) (by omega) (cu _) (cu _)
   generalize ah a=A at *
   generalize ah b=B at *
   generalize aD a=ca at *
   generalize aD b=cb at *
   generalize ck A B=O at *
   obtain⟨ai,hai⟩:∃ ai,A.i=ai:=⟨_,rfl⟩
   obtain⟨bi,hbi⟩:∃ bi,B.i=bi:=⟨_,rfl⟩
   have OA2:Hid (∀ W,Calls prog 40 #[.int .i64 a] W fun r w'=>∃ g o n c e,r=.returned (.agg #[.int .i64 ai,.bool g,.slice o n c,.int .i64 e])∧cd 0 w' A.v (.agg #[.bool g,.slice o n c,.int .i64 e])∧Below W.heap.size W w'):=fun W=>by
    refine(OA.out W).mono ?_
    rintro r w' ⟨v,rfl,⟨g,o,n,c,e,rfl,hD⟩,hb⟩
    exact⟨g,o,n,c,e,by rw[hai],hD,hb⟩
   have OB2:Hid (∀ W,Calls prog 40 #[.int .i64 b] W fun r w'=>∃ g o n c e,r=.returned (.agg #[.int .i64 bi,.bool g,.slice o n c,.int .i64 e])∧cd 0 w' B.v (.agg #[.bool g,.slice o n c,.int .i64 e])∧Below W.heap.size W w'):=fun W=>by
    refine(OB.out W).mono ?_
    rintro r w' ⟨v,rfl,⟨g,o,n,c,e,rfl,hD⟩,hb⟩
    exact⟨g,o,n,c,e,by rw[hbi],hD,hb⟩
   have OO2:Hid (∀ (g:Bool) (o:Option Addr) (n c:Nat) (e:Int) (g':Bool) (o':Option Addr) (n' c':Nat) (e':Int) W,cd 0 W A.v (.agg #[.bool g,.slice o n c,.int .i64 e])->cd 0 W B.v (.agg #[.bool g',.slice o' n' c',.int .i64 e'])->Calls prog 41 #[.agg #[.int .i64 ai,.bool g,.slice o n c,.int .i64 e],.agg #[.int .i64 bi,.bool g',.slice o' n' c',.int .i64 e']] W fun r w'=>r=.returned (.int .i64 O)∧Below W.heap.size W w'):=fun g o n c e g' o' n' c' e' W h1 h2=>OO.out _ _ W ⟨g,o,n,c,e,by rw[hai],h1⟩ ⟨g',o',n',c',e',by rw[hbi],h2⟩
   rw[hai,hbi]
   clear ha hb' na nb OA OB OO hai hbi
   by_cases h1:ai=1
   ·subst h1
    have e:(!decide ((1:Int)=1)&&(!decide (bi=-1)&&decide (O<=0)))=false:=by simp
    rw[e]
    clear e OO2
    have hb:=aq w
    go_enter func10,ntmps10
    have s_k:(w.alloc (.cells #[.int .i64 a,.int .i64 b] 23)).heap[w.heap.size]?=some (.cells #[.int .i64 a,.int .i64 b] 23):=av (.cells #[.int .i64 a,.int .i64 b] 23) (by simp only[ar])
    have hb:=aa hb (ae w (.cells #[.int .i64 a,.int .i64 b] 23))
    have f_s0:=ab s_k 0 rfl
    have f_s1:=ab s_k 1 rfl
    go_wp2_with fail
    clear f_s0 f_s1
    generalize (w.alloc (.cells #[.int .i64 a,.int .i64 b] 23))=x1 at s_k hb ⊢
    refine(CA.out _).mono ?_
    rintro _ _ ⟨rfl,rfl⟩
    have f_s1:=ab s_k 1 rfl
    go_wp2_with fail
    clear f_s1
    refine(CB.out _).mono ?_
    rintro _ _ ⟨rfl,rfl⟩
    have f_s0:=ab s_k 0 rfl
    have f_s1:=ab s_k 1 rfl
    go_wp2_with fail
    clear f_s0 f_s1
    refine(OA2.out _).mono ?_
    rintro _ y2 ⟨p_g,p_o,p_n,p_c,p_e,rfl,p_D,hw⟩
    have s_k:=ac hw s_k
    have hb:=aa hb hw
    have s_k:=am (.cells #[.int .i64 1,.bool p_g,.slice p_o p_n p_c,.int .i64 p_e] 68) s_k
    have p_k:(y2.alloc (.cells #[.int .i64 1,.bool p_g,.slice p_o p_n p_c,.int .i64 p_e] 68)).heap[y2.heap.size]?=some (.cells #[.int .i64 1,.bool p_g,.slice p_o p_n p_c,.int .i64 p_e] 68):=av (.cells #[.int .i64 1,.bool p_g,.slice p_o p_n p_c,.int .i64 p_e] 68) (by simp only[ar])
    have p_D:=p_D.keeps (ae y2 (.cells #[.int .i64 1,.bool p_g,.slice p_o p_n p_c,.int .i64 p_e] 68))
    have hb:=aa hb (ae y2 (.cells #[.int .i64 1,.bool p_g,.slice p_o p_n p_c,.int .i64 p_e] 68))
    have f_s0:=ab s_k 0 rfl
    have f_s1:=ab s_k 1 rfl
    go_wp2_with fail
    clear f_s0 f_s1
    generalize (y2.alloc (.cells #[.int .i64 1,.bool p_g,.slice p_o p_n p_c,.int .i64 p_e] 68))=x3 at s_k p_k p_D hb ⊢
    refine(OB2.out _).mono ?_
    rintro _ y4 ⟨q_g,q_o,q_n,q_c,q_e,rfl,q_D,hw⟩
    have s_k:=ac hw s_k
    have p_k:=ac hw p_k
    have p_D:=p_D.keeps hw
    have hb:=aa hb hw
    have q_k:=a9 y4 (.cells #[.int .i64 bi,.bool q_g,.slice q_o q_n q_c,.int .i64 q_e] 68)
    have p_k:=am (.cells #[.int .i64 bi,.bool q_g,.slice q_o q_n q_c,.int .i64 q_e] 68) p_k
    have hb:=aa hb (ae y4 (.cells #[.int .i64 bi,.bool q_g,.slice q_o q_n q_c,.int .i64 q_e] 68))
    have f_p0:=ab p_k 0 rfl
    have f_q0:=ab q_k 0 rfl
    go_wp2
    go_ret
    exact⟨rfl,hb⟩
   ·have h1':(ai != 1)=true:=by simp;exact h1
    by_cases h2:bi=-1
    ·subst h2
     have e:(!decide (ai=1)&&(!decide ((-1:Int)=-1)&&decide (O<=0)))=false:=by simp
     rw[e]
     clear e OO2 h1
     have hb:=aq w
     go_enter func10,ntmps10
     have s_k:(w.alloc (.cells #[.int .i64 a,.int .i64 b] 23)).heap[w.heap.size]?=some (.cells #[.int .i64 a,.int .i64 b] 23):=av (.cells #[.int .i64 a,.int .i64 b] 23) (by simp only[ar])
     have hb:=aa hb (ae w (.cells #[.int .i64 a,.int .i64 b] 23))
     have f_s0:=ab s_k 0 rfl
     have f_s1:=ab s_k 1 rfl
     go_wp2_with fail
     clear f_s0 f_s1
     generalize (w.alloc (.cells #[.int .i64 a,.int .i64 b] 23))=x1 at s_k hb ⊢
     refine(CA.out _).mono ?_
     rintro _ _ ⟨rfl,rfl⟩
     have f_s1:=ab s_k 1 rfl
     go_wp2_with fail
     clear f_s1
     refine(CB.out _).mono ?_
     rintro _ _ ⟨rfl,rfl⟩
     have f_s0:=ab s_k 0 rfl
     have f_s1:=ab s_k 1 rfl
     go_wp2_with fail
     clear f_s0 f_s1
     refine(OA2.out _).mono ?_
     rintro _ y2 ⟨p_g,p_o,p_n,p_c,p_e,rfl,p_D,hw⟩
     have s_k:=ac hw s_k
     have hb:=aa hb hw
     have s_k:=am (.cells #[.int .i64 ai,.bool p_g,.slice p_o p_n p_c,.int .i64 p_e] 68) s_k
     have p_k:(y2.alloc (.cells #[.int .i64 ai,.bool p_g,.slice p_o p_n p_c,.int .i64 p_e] 68)).heap[y2.heap.size]?=some (.cells #[.int .i64 ai,.bool p_g,.slice p_o p_n p_c,.int .i64 p_e] 68):=av (.cells #[.int .i64 ai,.bool p_g,.slice p_o p_n p_c,.int .i64 p_e] 68) (by simp only[ar])
     have p_D:=p_D.keeps (ae y2 (.cells #[.int .i64 ai,.bool p_g,.slice p_o p_n p_c,.int .i64 p_e] 68))
     have hb:=aa hb (ae y2 (.cells #[.int .i64 ai,.bool p_g,.slice p_o p_n p_c,.int .i64 p_e] 68))
     have f_s0:=ab s_k 0 rfl
     have f_s1:=ab s_k 1 rfl
     go_wp2_with fail
     clear f_s0 f_s1
     generalize (y2.alloc (.cells #[.int .i64 ai,.bool p_g,.slice p_o p_n p_c,.int .i64 p_e] 68))=x3 at s_k p_k p_D hb ⊢
     refine(OB2.out _).mono ?_
     rintro _ y4 ⟨q_g,q_o,q_n,q_c,q_e,rfl,q_D,hw⟩
     have s_k:=ac hw s_k
     have p_k:=ac hw p_k
     have p_D:=p_D.keeps hw
     have hb:=aa hb hw
     have q_k:=a9 y4 (.cells #[.int .i64 (-1),.bool q_g,.slice q_o q_n q_c,.int .i64 q_e] 68)
     have p_k:=am (.cells #[.int .i64 (-1),.bool q_g,.slice q_o q_n q_c,.int .i64 q_e] 68) p_k
     have hb:=aa hb (ae y4 (.cells #[.int .i64 (-1),.bool q_g,.slice q_o q_n q_c,.int .i64 q_e] 68))
     have f_p0:=ab p_k 0 rfl
     have f_q0:=ab q_k 0 rfl
     go_wp2
     go_ret
     exact⟨rfl,hb⟩
    ·have h2':(bi != -1)=true:=by simp;exact h2
     have e:(!decide (ai=1)&&(!decide (bi=-1)&&decide (O<=0)))=decide (O<=0):=by simp[h1,h2]
     rw[e]
     clear e h1 h2
     have hb:=aq w
     go_enter func10,ntmps10
     have s_k:(w.alloc (.cells #[.int .i64 a,.int .i64 b] 23)).heap[w.heap.size]?=some (.cells #[.int .i64 a,.int .i64 b] 23):=av (.cells #[.int .i64 a,.int .i64 b] 23) (by simp only[ar])
     have hb:=aa hb (ae w (.cells #[.int .i64 a,.int .i64 b] 23))
     have f_s0:=ab s_k 0 rfl
     have f_s1:=ab s_k 1 rfl
     go_wp2_with fail
     clear f_s0 f_s1
     generalize (w.alloc (.cells #[.int .i64 a,.int .i64 b] 23))=x1 at s_k hb ⊢
     refine(CA.out _).mono ?_
     rintro _ _ ⟨rfl,rfl⟩
     have f_s1:=ab s_k 1 rfl
     go_wp2_with fail
     clear f_s1
     refine(CB.out _).mono ?_
     rintro _ _ ⟨rfl,rfl⟩
     have f_s0:=ab s_k 0 rfl
     have f_s1:=ab s_k 1 rfl
     go_wp2_with fail
     clear f_s0 f_s1
     refine(OA2.out _).mono ?_
     rintro _ y2 ⟨p_g,p_o,p_n,p_c,p_e,rfl,p_D,hw⟩
     have s_k:=ac hw s_k
     have hb:=aa hb hw
     have s_k:=am (.cells #[.int .i64 ai,.bool p_g,.slice p_o p_n p_c,.int .i64 p_e] 68) s_k
     have p_k:(y2.alloc (.cells #[.int .i64 ai,.bool p_g,.slice p_o p_n p_c,.int .i64 p_e] 68)).heap[y2.heap.size]?=some (.cells #[.int .i64 ai,.bool p_g,.slice p_o p_n p_c,.int .i64 p_e] 68):=av (.cells #[.int .i64 ai,.bool p_g,.slice p_o p_n p_c,.int .i64 p_e] 68) (by simp only[ar])
     have p_D:=p_D.keeps (ae y2 (.cells #[.int .i64 ai,.bool p_g,.slice p_o p_n p_c,.int .i64 p_e] 68))
     have hb:=aa hb (ae y2 (.cells #[.int .i64 ai,.bool p_g,.slice p_o p_n p_c,.int .i64 p_e] 68))
     have f_s0:=ab s_k 0 rfl
     have f_s1:=ab s_k 1 rfl
     go_wp2_with fail
     clear f_s0 f_s1
     generalize (y2.alloc (.cells #[.int .i64 ai,.bool p_g,.slice p_o p_n p_c,.int .i64 p_e] 68))=x3 at s_k p_k p_D hb ⊢
     refine(OB2.out _).mono ?_
     rintro _ y4 ⟨q_g,q_o,q_n,q_c,q_e,rfl,q_D,hw⟩
     have s_k:=ac hw s_k
     have p_k:=ac hw p_k
     have p_D:=p_D.keeps hw
     have hb:=aa hb hw
     have s_k:=am (.cells #[.int .i64 bi,.bool q_g,.slice q_o q_n q_c,.int .i64 q_e] 68) s_k
     have p_k:=am (.cells #[.int .i64 bi,.bool q_g,.slice q_o q_n q_c,.int .i64 q_e] 68) p_k
     have q_k:(y4.alloc (.cells #[.int .i64 bi,.bool q_g,.slice q_o q_n q_c,.int .i64 q_e] 68)).heap[y4.heap.size]?=some (.cells #[.int .i64 bi,.bool q_g,.slice q_o q_n q_c,.int .i64 q_e] 68):=av (.cells #[.int .i64 bi,.bool q_g,.slice q_o q_n q_c,.int .i64 q_e] 68) (by simp only[ar])
     have p_D:=p_D.keeps (ae y4 (.cells #[.int .i64 bi,.bool q_g,.slice q_o q_n q_c,.int .i64 q_e] 68))
     have q_D:=q_D.keeps (ae y4 (.cells #[.int .i64 bi,.bool q_g,.slice q_o q_n q_c,.int .i64 q_e] 68))
     have hb:=aa hb (ae y4 (.cells #[.int .i64 bi,.bool q_g,.slice q_o q_n q_c,.int .i64 q_e] 68))
     have f_p0:=ab p_k 0 rfl
     have f_p1:=ab p_k 1 rfl
     have f_p2:=ab p_k 2 rfl
     have f_p3:=ab p_k 3 rfl
     have f_q0:=ab q_k 0 rfl
     have f_q1:=ab q_k 1 rfl
     have f_q2:=ab q_k 2 rfl
     have f_q3:=ab q_k 3 rfl
     go_wp2_with fail
     clear f_p0 f_p1 f_p2 f_p3 f_q0 f_q1 f_q2 f_q3
     generalize (y4.alloc (.cells #[.int .i64 bi,.bool q_g,.slice q_o q_n q_c,.int .i64 q_e] 68))=x5 at s_k p_k q_k p_D q_D hb ⊢
     refine(OO2.out _ _ _ _ _ _ _ _ _ _ _ p_D q_D).mono ?_
     rintro _ y6 ⟨rfl,hw⟩
     have s_k:=ac hw s_k
     have p_k:=ac hw p_k
     have q_k:=ac hw q_k
     have p_D:=p_D.keeps hw
     have q_D:=q_D.keeps hw
     have hb:=aa hb hw
     go_wp2
     go_ret
     exact⟨rfl,hb⟩
theorem zH {a:Int} (na:nn a) (w:World):Calls prog 19 #[.int .i64 a] w fun e w'=>e=.returned (.agg #[.int .i64 (aH a),.int .i64 (aH a)])∧Below w.heap.size w w':=by
 have T:Hid (∀ (u v:Value) W,EA W u (ah a)->EA W v (ah a)->Calls prog 49 #[u,v] W fun r w'=>r=.returned (.agg #[.int .i64 (aH a),.int .i64 (aH a)])∧Below W.heap.size W w'):=fun u v W hu hv=>by
  have:=jH hu.ev hv.ev (fun _=>(cu _).ok (by omega)) (fun _=>(cu _).ok (by omega))
  rw[(jr na).1,(jr na).2] at this
  exact this
 generalize aH a=X at *
 have hb:=aq w
 go_enter func19,ntmps19
 have r_k:(w.alloc (.cells #[.int .i64 0,.int .i64 0] 23)).heap[w.heap.size]?=some (.cells #[.int .i64 0,.int .i64 0] 23):=av (.cells #[.int .i64 0,.int .i64 0] 23) (by simp only[ar])
 have hb:=aa hb (ae w (.cells #[.int .i64 0,.int .i64 0] 23))
 go_wp2_with fail
 generalize (w.alloc (.cells #[.int .i64 0,.int .i64 0] 23))=x1 at r_k hb ⊢
 refine(ff na _).mono ?_
 rintro _ y2 ⟨v1,rfl,E1,hs1⟩
 have r_k:=ac hs1 r_k
 have hb:=aa hb hs1
 go_wp2_with fail
 refine(ff na _).mono ?_
 rintro _ y3 ⟨v2,rfl,E2,hs2⟩
 have r_k:=ac hs2 r_k
 have hb:=aa hb hs2
 go_wp2_with fail
 refine(T.out _ _ _ (E1.keeps hs2) E2).mono ?_
 rintro _ y4 ⟨rfl,hs3⟩
 have r_k:=ac hs3 r_k
 have hb:=aa hb hs3
 have f_r0:=ab r_k 0 rfl
 have z_r0:=ak r_k 0
 have d_r0:=ag r_k 0 (.int .i64 X)
 have f_r1:=ab r_k 1 rfl
 have z_r1:=ak r_k 1
 have d_r1:=ag d_r0 1 (.int .i64 X)
 have e_r0:=ab d_r1 0 rfl
 have e_r1:=ab d_r1 1 rfl
 have hbe:=((hb.setCell (p:=⟨w.heap.size,0,none⟩) (show w.heap.size<=w.heap.size by omega) (.int .i64 X)).setCell (p:=⟨w.heap.size,1,none⟩) (show w.heap.size<=w.heap.size by omega) (.int .i64 X))
 clear r_k d_r0 d_r1
 go_wp2
 refine bodyPost_ret (v:=.agg #[.int .i64 X,.int .i64 X]) (by simp[results,results19,go_sem,e_r0,e_r1]) rfl ⟨rfl,hbe⟩
theorem qG {x_g:Bool} {x_o:Option Addr} {x_n x_c:Nat} {x_e V:Int} {w:World} (hx:aX w (.agg #[.bool x_g,.slice x_o x_n x_c,.int .i64 x_e]) V) (ok:b7 V):Calls prog 21 #[.agg #[.bool x_g,.slice x_o x_n x_c,.int .i64 x_e]] w fun e w'=>e=.returned (.agg #[.int .i64 (dZ V),.int .i64 (d6 V)])∧Below w.heap.size w w':=by
 have T:Hid (∀ W,Below w.heap.size w W->Calls prog 49 #[.agg #[.int .i64 0,.bool x_g,.slice x_o x_n x_c,.int .i64 x_e],.agg #[.int .i64 0,.bool x_g,.slice x_o x_n x_c,.int .i64 x_e]] W fun r w'=>r=.returned (.agg #[.int .i64 (dZ V),.int .i64 (d6 V)])∧Below W.heap.size W w'):=fun W hb=>
  jH (a:=⟨0,V⟩) (b:=⟨0,V⟩) ⟨_,_,_,_,_,rfl,hx.keeps hb⟩ ⟨_,_,_,_,_,rfl,hx.keeps hb⟩ (fun _=>ok) (fun _=>ok)
 generalize dZ V=X at *
 generalize d6 V=Y at *
 clear hx ok
 have hb:=aq w
 go_enter func21,ntmps21
 have x_k:(w.alloc (.cells #[.bool x_g,.slice x_o x_n x_c,.int .i64 x_e] 26)).heap[w.heap.size]?=some (.cells #[.bool x_g,.slice x_o x_n x_c,.int .i64 x_e] 26):=av (.cells #[.bool x_g,.slice x_o x_n x_c,.int .i64 x_e] 26) (by simp only[ar])
 have hb:=aa hb (ae w (.cells #[.bool x_g,.slice x_o x_n x_c,.int .i64 x_e] 26))
 have x_k:=am (.cells #[.int .i64 0,.int .i64 0] 23) x_k
 have r_k:((w.alloc (.cells #[.bool x_g,.slice x_o x_n x_c,.int .i64 x_e] 26)).alloc (.cells #[.int .i64 0,.int .i64 0] 23)).heap[w.heap.size+1]?=some (.cells #[.int .i64 0,.int .i64 0] 23):=av (.cells #[.int .i64 0,.int .i64 0] 23) (by simp only[ar])
 have hb:=aa hb (ae (w.alloc (.cells #[.bool x_g,.slice x_o x_n x_c,.int .i64 x_e] 26)) (.cells #[.int .i64 0,.int .i64 0] 23))
 have f_x0:=ab x_k 0 rfl
 have f_x1:=ab x_k 1 rfl
 have f_x2:=ab x_k 2 rfl
 go_wp2_with fail
 clear f_x0 f_x1 f_x2
 generalize ((w.alloc (.cells #[.bool x_g,.slice x_o x_n x_c,.int .i64 x_e] 26)).alloc (.cells #[.int .i64 0,.int .i64 0] 23))=x1 at x_k r_k hb ⊢
 refine(T.out _ hb).mono ?_
 rintro _ y2 ⟨rfl,hw⟩
 have x_k:=ac hw x_k
 have r_k:=ac hw r_k
 have hb:=aa hb hw
 have f_r0:=ab r_k 0 rfl
 have z_r0:=ak r_k 0
 have d_r0:=ag r_k 0 (.int .i64 X)
 have f_r1:=ab r_k 1 rfl
 have z_r1:=ak r_k 1
 have d_r1:=ag d_r0 1 (.int .i64 Y)
 have e_r0:=ab d_r1 0 rfl
 have e_r1:=ab d_r1 1 rfl
 have hbe:=((hb.setCell (p:=⟨w.heap.size+1,0,none⟩) (show w.heap.size<=w.heap.size+1 by omega) (.int .i64 X)).setCell (p:=⟨w.heap.size+1,1,none⟩) (show w.heap.size<=w.heap.size+1 by omega) (.int .i64 Y))
 clear r_k d_r0 d_r1
 go_wp2
 refine bodyPost_ret (v:=.agg #[.int .i64 X,.int .i64 Y]) (by simp[results,results21,go_sem,e_r0,e_r1]) rfl ⟨rfl,hbe⟩
theorem Cy {a b:Int} (na:nn a) (nb:nn b) (v:br a b=true) (w:World):Calls prog 22 #[.agg #[.int .i64 a,.int .i64 b]] w fun e w'=>e=.returned (.tuple #[.int .i64 (mX a b),.bool (ls a b)])∧Below w.heap.size w w':=by
 obtain⟨e1,e2⟩:=Cu na nb v
 have OA:Hid (∀ W,Calls prog 40 #[.int .i64 a] W fun r w'=>∃ v,r=.returned v∧EA w' v (ah a)∧Below W.heap.size W w'):=fun W=>ff na W
 have OB:Hid (∀ W,Calls prog 40 #[.int .i64 b] W fun r w'=>∃ v,r=.returned v∧EA w' v (ah b)∧Below W.heap.size W w'):=fun W=>ff nb W
 have SA:Hid (∀ (u:Value) W,EA W u (ah a)->Calls prog 51 #[u] W fun r w'=>r=.returned (.int .i64 (aQ (ah a)))∧Below W.heap.size W w'):=fun u W hu=>fF hu.ev
 have SB:Hid (∀ (u:Value) W,EA W u (ah b)->Calls prog 51 #[u] W fun r w'=>r=.returned (.int .i64 (aQ (ah b)))∧Below W.heap.size W w'):=fun u W hu=>fF hu.ev
 rw[e2,e1]
 generalize ah a=A at *
 generalize ah b=B at *
 generalize aQ A=sa at *
 generalize aQ B=sb at *
 clear e1 e2 v na nb
 by_cases h1:0<sa
 ·rw[decide_eq_true h1]
  simp only[Bool.true_or,if_true]
  have hb:=aq w
  go_enter func22,ntmps22
  have s_k:(w.alloc (.cells #[.int .i64 a,.int .i64 b] 23)).heap[w.heap.size]?=some (.cells #[.int .i64 a,.int .i64 b] 23):=av (.cells #[.int .i64 a,.int .i64 b] 23) (by simp only[ar])
  have hb:=aa hb (ae w (.cells #[.int .i64 a,.int .i64 b] 23))
  have f_s0:=ab s_k 0 rfl
  have f_s1:=ab s_k 1 rfl
  go_wp2_with fail
  clear f_s0 f_s1
  generalize (w.alloc (.cells #[.int .i64 a,.int .i64 b] 23))=x1 at s_k hb ⊢
  refine(OA.out _).mono ?_
  rintro _ y2 ⟨z1,rfl,E1,hw⟩
  have s_k:=ac hw s_k
  have hb:=aa hb hw
  go_wp2_with fail
  refine(SA.out _ _ E1).mono ?_
  rintro _ y3 ⟨rfl,hw⟩
  have s_k:=ac hw s_k
  have hb:=aa hb hw
  have f_s0:=ab s_k 0 rfl
  have f_s1:=ab s_k 1 rfl
  go_wp2_with fail
  clear f_s0 f_s1
  refine(OB.out _).mono ?_
  rintro _ y4 ⟨z2,rfl,E2,hw⟩
  have s_k:=ac hw s_k
  have hb:=aa hb hw
  go_wp2_with fail
  refine(SB.out _ _ E2).mono ?_
  rintro _ y5 ⟨rfl,hw⟩
  have s_k:=ac hw s_k
  have hb:=aa hb hw
  go_wp2
  refine bodyPost_ret (v:=.tuple #[.int .i64 sa,.bool true]) (by simp[results,results22,go_sem]) rfl ⟨rfl,hb⟩
 ·rw[decide_eq_false h1]
  by_cases h2:sb<0
  ·rw[decide_eq_true h2]
   simp only[Bool.true_or,Bool.false_or,if_true]
   have hb:=aq w
   go_enter func22,ntmps22
   have s_k:(w.alloc (.cells #[.int .i64 a,.int .i64 b] 23)).heap[w.heap.size]?=some (.cells #[.int .i64 a,.int .i64 b] 23):=av (.cells #[.int .i64 a,.int .i64 b] 23) (by simp only[ar])
   have hb:=aa hb (ae w (.cells #[.int .i64 a,.int .i64 b] 23))
   have f_s0:=ab s_k 0 rfl
   have f_s1:=ab s_k 1 rfl
   go_wp2_with fail
   clear f_s0 f_s1
   generalize (w.alloc (.cells #[.int .i64 a,.int .i64 b] 23))=x1 at s_k hb ⊢
   refine(OA.out _).mono ?_
   rintro _ y2 ⟨z1,rfl,E1,hw⟩
   have s_k:=ac hw s_k
   have hb:=aa hb hw
   go_wp2_with fail
   refine(SA.out _ _ E1).mono ?_
   rintro _ y3 ⟨rfl,hw⟩
   have s_k:=ac hw s_k
   have hb:=aa hb hw
   have f_s0:=ab s_k 0 rfl
   have f_s1:=ab s_k 1 rfl
   go_wp2_with fail
   clear f_s0 f_s1
   refine(OB.out _).mono ?_
   rintro _ y4 ⟨z2,rfl,E2,hw⟩
   have s_k:=ac hw s_k
   have hb:=aa hb hw
   go_wp2_with fail
   refine(SB.out _ _ E2).mono ?_
   rintro _ y5 ⟨rfl,hw⟩
   have s_k:=ac hw s_k
   have hb:=aa hb hw
   go_wp2
   refine bodyPost_ret (v:=.tuple #[.int .i64 sa,.bool true]) (by simp[results,results22,go_sem]) rfl ⟨rfl,hb⟩
  ·rw[decide_eq_false h2]
   by_cases h3:sa=0
   ·by_cases h4:sb=0
    ·rw[decide_eq_true h3,decide_eq_true h4]
     simp only[Bool.false_or,Bool.and_true,if_true]
     have h3':(sa == 0)=true:=by simp;exact h3
     have h4':(sb == 0)=true:=by simp;exact h4
     clear h3 h4
     have hb:=aq w
     go_enter func22,ntmps22
     have s_k:(w.alloc (.cells #[.int .i64 a,.int .i64 b] 23)).heap[w.heap.size]?=some (.cells #[.int .i64 a,.int .i64 b] 23):=av (.cells #[.int .i64 a,.int .i64 b] 23) (by simp only[ar])
     have hb:=aa hb (ae w (.cells #[.int .i64 a,.int .i64 b] 23))
     have f_s0:=ab s_k 0 rfl
     have f_s1:=ab s_k 1 rfl
     go_wp2_with fail
     clear f_s0 f_s1
     generalize (w.alloc (.cells #[.int .i64 a,.int .i64 b] 23))=x1 at s_k hb ⊢
     refine(OA.out _).mono ?_
     rintro _ y2 ⟨z1,rfl,E1,hw⟩
     have s_k:=ac hw s_k
     have hb:=aa hb hw
     go_wp2_with fail
     refine(SA.out _ _ E1).mono ?_
     rintro _ y3 ⟨rfl,hw⟩
     have s_k:=ac hw s_k
     have hb:=aa hb hw
     have f_s0:=ab s_k 0 rfl
     have f_s1:=ab s_k 1 rfl
     go_wp2_with fail
     clear f_s0 f_s1
     refine(OB.out _).mono ?_
     rintro _ y4 ⟨z2,rfl,E2,hw⟩
     have s_k:=ac hw s_k
     have hb:=aa hb hw
     go_wp2_with fail
     refine(SB.out _ _ E2).mono ?_
     rintro _ y5 ⟨rfl,hw⟩
     have s_k:=ac hw s_k
     have hb:=aa hb hw
     go_wp2
     refine bodyPost_ret (v:=.tuple #[.int .i64 sa,.bool true]) (by simp[results,results22,go_sem]) rfl ⟨rfl,hb⟩
    ·rw[decide_eq_false h4]
     simp only[Bool.false_or,Bool.and_false,Bool.false_eq_true,if_false]
     have h3':(sa == 0)=true:=by simp;exact h3
     have h4':(sb == 0)=false:=by simp;exact h4
     clear h3 h4
     have hb:=aq w
     go_enter func22,ntmps22
     have s_k:(w.alloc (.cells #[.int .i64 a,.int .i64 b] 23)).heap[w.heap.size]?=some (.cells #[.int .i64 a,.int .i64 b] 23):=av (.cells #[.int .i64 a,.int .i64 b] 23) (by simp only[ar])
     have hb:=aa hb (ae w (.cells #[.int .i64 a,.int .i64 b] 23))
     have f_s0:=ab s_k 0 rfl
     have f_s1:=ab s_k 1 rfl
     go_wp2_with fail
     clear f_s0 f_s1
     generalize (w.alloc (.cells #[.int .i64 a,.int .i64 b] 23))=x1 at s_k hb ⊢
     refine(OA.out _).mono ?_
     rintro _ y2 ⟨z1,rfl,E1,hw⟩
     have s_k:=ac hw s_k
     have hb:=aa hb hw
     go_wp2_with fail
     refine(SA.out _ _ E1).mono ?_
     rintro _ y3 ⟨rfl,hw⟩
     have s_k:=ac hw s_k
     have hb:=aa hb hw
     have f_s0:=ab s_k 0 rfl
     have f_s1:=ab s_k 1 rfl
     go_wp2_with fail
     clear f_s0 f_s1
     refine(OB.out _).mono ?_
     rintro _ y4 ⟨z2,rfl,E2,hw⟩
     have s_k:=ac hw s_k
     have hb:=aa hb hw
     go_wp2_with fail
     refine(SB.out _ _ E2).mono ?_
     rintro _ y5 ⟨rfl,hw⟩
     have s_k:=ac hw s_k
     have hb:=aa hb hw
     go_wp2
     refine bodyPost_ret (v:=.tuple #[.int .i64 0,.bool false]) (by simp[results,results22,go_sem]) rfl ⟨rfl,hb⟩
   ·rw[decide_eq_false h3]
    simp only[Bool.false_or,Bool.false_and,Bool.false_eq_true,if_false]
    have h3':(sa == 0)=false:=by simp;exact h3
    clear h3
    have hb:=aq w
    go_enter func22,ntmps22
    have s_k:(w.alloc (.cells #[.int .i64 a,.int .i64 b] 23)).heap[w.heap.size]?=some (.cells #[.int .i64 a,.int .i64 b] 23):=av (.cells #[.int .i64 a,.int .i64 b] 23) (by simp only[ar])
    have hb:=aa hb (ae w (.cells #[.int .i64 a,.int .i64 b] 23))
    have f_s0:=ab s_k 0 rfl
    have f_s1:=ab s_k 1 rfl
    go_wp2_with fail
    clear f_s0 f_s1
    generalize (w.alloc (.cells #[.int .i64 a,.int .i64 b] 23))=x1 at s_k hb ⊢
    refine(OA.out _).mono ?_
    rintro _ y2 ⟨z1,rfl,E1,hw⟩
    have s_k:=ac hw s_k
    have hb:=aa hb hw
    go_wp2_with fail
    refine(SA.out _ _ E1).mono ?_
    rintro _ y3 ⟨rfl,hw⟩
    have s_k:=ac hw s_k
    have hb:=aa hb hw
    have f_s0:=ab s_k 0 rfl
    have f_s1:=ab s_k 1 rfl
    go_wp2_with fail
    clear f_s0 f_s1
    refine(OB.out _).mono ?_
    rintro _ y4 ⟨z2,rfl,E2,hw⟩
    have s_k:=ac hw s_k
    have hb:=aa hb hw
    go_wp2_with fail
    refine(SB.out _ _ E2).mono ?_
    rintro _ y5 ⟨rfl,hw⟩
    have s_k:=ac hw s_k
    have hb:=aa hb hw
    go_wp2
    refine bodyPost_ret (v:=.tuple #[.int .i64 0,.bool false]) (by simp[results,results22,go_sem]) rfl ⟨rfl,hb⟩
theorem gQ {p q:Int} (hp:nn p) (hq:nn q):Bd 8000 (ap (ah p) (ah q)).v:=by
 by_cases i:(ah p).i=0
 ·by_cases j:(ah q).i=0
  ·rw[cf i j]
   have fp:¬ rg p=9218868437227405312:=fun k=>by rw[dC k] at i;exact qq k i
   have fq:¬ rg q=9218868437227405312:=fun k=>by rw[dC k] at j;exact qq k j
   rw[dU fp,dU fq]
   obtain⟨_,_,_,_,hC⟩:=ig hp.1 hq.1 (cy hp fp) (cy hq fq)
   show Bd 8000 (cW (aM p) (aM q))
   rw[<- sw hC]
   exact(kD p).mul (kD q) hC (by omega)
  ·rw[eu j];exact tL.up (by omega) (by omega)
 ·rw[cz i];exact tL.up (by omega) (by omega)
def Wd (x y:aE):Prop:=(-1500000<=x.e∧x.e<=1500000)∧(-1500000<=y.e∧y.e<=1500000∧x.e-y.e<=1900000∧y.e-x.e<=1900000)∧val x.d x.n*2^(x.e-min x.e y.e).toNat<2^(2*560000)∧val y.d y.n*2^(y.e-min x.e y.e).toNat<2^(2*560000)∧x.n<=37400∧y.n<=37400
theorem rf (x y:aE) (w:World) (hx:aG w x.ao x.n x.cap x.d) (hy:aG w y.ao y.n y.cap y.d) (n0:0<x.n) (m0:0<y.n) (low A B V:Int)
  (hlow:low=min x.e y.e) (hl0:-2000000<=low) (he:x.e<=2000000) (hf:y.e<=2000000)
  (H1:∀ W,Below w.heap.size w W->Calls prog 97 #[.slice x.ao x.n x.cap,.int .i64 (x.e-low)] W fun r w'=>∃ so sn sc,r=.returned (.slice so sn sc)∧aT w' (.slice so sn sc) A∧Below W.heap.size W w')
  (H2:∀ W,Below w.heap.size w W->Calls prog 97 #[.slice y.ao y.n y.cap,.int .i64 (y.e-low)] W fun r w'=>∃ so sn sc,r=.returned (.slice so sn sc)∧aT w' (.slice so sn sc) B∧Below W.heap.size W w')
  (H3:∀ W p q,aT W p A->aT W q B->Calls prog 98 #[p,q] W fun r w'=>∃ so sn sc,r=.returned (.slice so sn sc)∧aT w' (.slice so sn sc) (A+B)∧Below W.heap.size W w')
  (H4:∀ W p q,aT W p A->aT W q B->Calls prog 99 #[p,q] W fun r w'=>r=.returned (.int .i64 (bq A B))∧Below W.heap.size W w')
  (H5:∀ W p q,aT W p A->aT W q B->B<=A->Calls prog 100 #[p,q] W fun r w'=>∃ so sn sc,r=.returned (.slice so sn sc)∧aT w' (.slice so sn sc) (A-B)∧Below W.heap.size W w')
  (H6:∀ W p q,aT W p A->aT W q B->A<=B->Calls prog 100 #[q,p] W fun r w'=>∃ so sn sc,r=.returned (.slice so sn sc)∧aT w' (.slice so sn sc) (B-A)∧Below W.heap.size W w')
  (H7:∀ W ng s M,aT W s M->((x.ng=y.ng∧ng=x.ng∧M=A+B)∨(x.ng≠y.ng∧B<=A∧ng=x.ng∧M=A-B)∨(x.ng≠y.ng∧A<B∧ng=y.ng∧M=B-A))->Calls prog 80 #[.bool ng,s,.int .i64 low] W fun r w'=>∃ ng s1 s2 s3 e1,r=.returned (.agg #[.bool ng,.slice s1 s2 s3,.int .i64 e1])∧aZ W w' V (.agg #[.bool ng,.slice s1 s2 s3,.int .i64 e1])∧Below W.heap.size W w') :
  Calls prog 76 #[x.v,y.v] w fun r w'=>∃ v,r=.returned v∧aZ w w' V v:=by
 have hmin:∀ (ts:Array TypeId) (t:TypeId) (w:World),(Builtin.min_ ts t #[.int .i64 x.e,.int .i64 y.e]).run prog w=.ok (.int .i64 low) w:=fun ts t w=>by rw[run_min_int2,hlow];congr 2;omega
 have hl1:low<=x.e:=by omega
 have hl2:low<=y.e:=by omega
 have HH7:Hid _:=H7
 have hm:=hx.max
 have hm':=hy.max
 clear hlow H7
 obtain⟨an,ao,n,ca,a,e⟩:=x
 obtain⟨bn,bo,m,cb,b,f⟩:=y
 unfold aE.v
 simp only at *
 have hn0:((n:Int) == 0)=false:=by simp;omega
 have hm0:((m:Int) == 0)=false:=by simp;omega
 have hb3:Below w.heap.size w (((w.alloc (.cells #[.bool an,.slice ao n ca,.int .i64 e] 26)).alloc (.cells #[.bool bn,.slice bo m cb,.int .i64 f] 26)).alloc (.cells #[.bool false,.slice none 0 0,.int .i64 0] 26)):=dP _ _ _ _
 have g0:=nj w (.cells #[.bool an,.slice ao n ca,.int .i64 e] 26) (.cells #[.bool bn,.slice bo m cb,.int .i64 f] 26) (.cells #[.bool false,.slice none 0 0,.int .i64 0] 26)
 have g1:=nk w (.cells #[.bool an,.slice ao n ca,.int .i64 e] 26) (.cells #[.bool bn,.slice bo m cb,.int .i64 f] 26) (.cells #[.bool false,.slice none 0 0,.int .i64 0] 26)
 have g2:=ns w (.cells #[.bool an,.slice ao n ca,.int .i64 e] 26) (.cells #[.bool bn,.slice bo m cb,.int .i64 f] 26) (.cells #[.bool false,.slice none 0 0,.int .i64 0] 26)
 go_enter func76,ntmps76
 go_wp2_with fail
 generalize ((w.alloc (.cells #[.bool an,.slice ao n ca,.int .i64 e] 26)).alloc (.cells #[.bool bn,.slice bo m cb,.int .i64 f] 26)).alloc (.cells #[.bool false,.slice none 0 0,.int .i64 0] 26)=wx at hb3 g0 g1 g2 ⊢
 refine(H1 _ hb3).mono ?_
 rintro r w1 ⟨po,pn,pc,rfl,hP,hb1⟩
 have hbx1:=aa hb3 hb1
 replace g0:=(hb1.block _ (aGe g0).1).trans g0
 replace g1:=(hb1.block _ (aGe g1).1).trans g1
 replace g2:=(hb1.block _ (aGe g2).1).trans g2
 have j1:=ab g1 1 rfl
 have j2:=ab g1 2 rfl
 go_wp2_with fail
 clear j1 j2
 refine(H2 _ hbx1).mono ?_
 rintro r w2 ⟨qo,qn,qc,rfl,hQ,hb2⟩
 have hbx2:=aa hbx1 hb2
 replace hP:=hP.keeps hb2
 replace g0:=(hb2.block _ (aGe g0).1).trans g0
 replace g1:=(hb2.block _ (aGe g1).1).trans g1
 replace g2:=(hb2.block _ (aGe g2).1).trans g2
 have k0:=ab g0 0 rfl
 have k1:=ab g0 1 rfl
 have k2:=ab g0 2 rfl
 have j0:=ab g1 0 rfl
 have j1:=ab g1 1 rfl
 have j2:=ab g1 2 rfl
 by_cases hng:an=bn
 ·subst hng
  have C1:∀ W,Below w2.heap.size w2 W->Calls prog 98 #[.slice po pn pc,.slice qo qn qc] W fun r w'=>∃ so sn sc,r=.returned (.slice so sn sc)∧aT w' (.slice so sn sc) (A+B)∧Below W.heap.size W w':=fun W h=>H3 W _ _ (hP.keeps h) (hQ.keeps h)
  have C2:∀ W so sn sc,aT W (.slice so sn sc) (A+B)->Calls prog 80 #[.bool an,.slice so sn sc,.int .i64 low] W fun r w'=>∃ ng s1 s2 s3 e1,r=.returned (.agg #[.bool ng,.slice s1 s2 s3,.int .i64 e1])∧aZ W w' V (.agg #[.bool ng,.slice s1 s2 s3,.int .i64 e1])∧Below W.heap.size W w':=fun W so sn sc hN=>HH7.out W an _ _ hN (.inl ⟨rfl,rfl,rfl⟩)
  clear H1 H2 H3 H4 H5 H6 HH7
  have hs3:=(aGe g2).1
  go_wp2_with fail
  have hb1:=aq w2
  go_region_held3 (fun W=>(W.cell? ⟨w.heap.size,0,none⟩=some (.bool an)∧W.cell? ⟨w.heap.size,1,none⟩=some (.slice ao n ca)∧W.cell? ⟨w.heap.size,2,none⟩=some (.int .i64 e))∧W.cell? ⟨w.heap.size+1,0,none⟩=some (.bool an)∧W.cell? ⟨w.heap.size+1,1,none⟩=some (.slice bo m cb)∧W.cell? ⟨w.heap.size+1,2,none⟩=some (.int .i64 f))
   (first|assumption|exact⟨⟨k0,k1,k2⟩,j0,j1,j2⟩|exact aK (W:=w2.drew) hbv1 ⟨⟨k0,k1,k2⟩,j0,j1,j2⟩|exact aK hbv2 (aK (W:=w2.drew) hbv1 ⟨⟨k0,k1,k2⟩,j0,j1,j2⟩)|exact⟨cJ (aK hbv2 (aK (W:=w2.drew) hbv1 ⟨⟨k0,k1,k2⟩,j0,j1,j2⟩)).1 (by omega) _ _ _,cJ (aK hbv2 (aK (W:=w2.drew) hbv1 ⟨⟨k0,k1,k2⟩,j0,j1,j2⟩)).2 (by omega) _ _ _⟩)
   (first|(go_at_call 80;refine(C2 _ _ _ _ hv1).mono ?_;rintro y w4 ⟨ng4,o4,n4,c4,e4,rfl,hv2,hbv2⟩;have q0:=((aa hbv1 hbv2).block (w.heap.size+2) (by show _<w2.heap.size;omega)).trans g2;have x0:=ab q0 0 rfl;have x1:=ab q0 1 rfl;have x2:=ab q0 2 rfl;have z0:=ak q0 0;have z1:=ak q0 1;have z2:=ak q0 2)|(go_at_call 98;refine(C1 _ hb1.drew).mono ?_;rintro y w3 ⟨so,sn,sc,rfl,hv1,hbv1⟩))
  all_goals go_wp2
  all_goals
   refine bodyPost_ret (v:=.agg #[.bool ng4,.slice o4 n4 c4,.int .i64 e4]) (by simp[results,results76,go_sem,x0,x1,x2]) rfl ⟨_,rfl,?_⟩
   exact b8 (g:=w.heap.size+2) hv2 (aa hbx2 (aa hb1.drew hbv1)) (by omega) (Nat.lt_of_lt_of_le (show _<w2.heap.size by omega) hbv1.size) _ _ _
 ·have hng':(an == bn)=false:=by simp[hng]
  go_wp2_with fail
  refine(H4 _ _ _ hP hQ).mono ?_
  rintro r w3 ⟨rfl,hb3'⟩
  have hbx3:=aa hbx2 hb3'
  replace hP:=hP.keeps hb3'
  replace hQ:=hQ.keeps hb3'
  replace g0:=(hb3'.block _ (aGe g0).1).trans g0
  replace g1:=(hb3'.block _ (aGe g1).1).trans g1
  replace g2:=(hb3'.block _ (aGe g2).1).trans g2
  replace k0:=ab g0 0 rfl
  replace k1:=ab g0 1 rfl
  replace k2:=ab g0 2 rfl
  replace j0:=ab g1 0 rfl
  replace j1:=ab g1 1 rfl
  replace j2:=ab g1 2 rfl
  have hs3:=(aGe g2).1
  by_cases hAB:B<=A
  ·have ho:(0:Int)<=bq A B:=by
    rcases Int.lt_trichotomy A B with h|h|h
    ·omega
    ·rw[eE h];decide
    ·rw[cG h];decide
   have C1:∀ W,Below w3.heap.size w3 W->Calls prog 100 #[.slice po pn pc,.slice qo qn qc] W fun r w'=>∃ so sn sc,r=.returned (.slice so sn sc)∧aT w' (.slice so sn sc) (A-B)∧Below W.heap.size W w':=fun W h=>H5 W _ _ (hP.keeps h) (hQ.keeps h) hAB
   have C2:∀ W so sn sc,aT W (.slice so sn sc) (A-B)->Calls prog 80 #[.bool an,.slice so sn sc,.int .i64 low] W fun r w'=>∃ ng s1 s2 s3 e1,r=.returned (.agg #[.bool ng,.slice s1 s2 s3,.int .i64 e1])∧aZ W w' V (.agg #[.bool ng,.slice s1 s2 s3,.int .i64 e1])∧Below W.heap.size W w':=fun W so sn sc hN=>HH7.out W an _ _ hN (.inr (.inl ⟨hng,hAB,rfl,rfl⟩))
   generalize bq A B=oAB at ho ⊢
   clear H1 H2 H3 H4 H5 H6 HH7 hAB
   go_wp2_with fail
   have hb1:=aq w3
   go_region_held3 (fun W=>(W.cell? ⟨w.heap.size,0,none⟩=some (.bool an)∧W.cell? ⟨w.heap.size,1,none⟩=some (.slice ao n ca)∧W.cell? ⟨w.heap.size,2,none⟩=some (.int .i64 e))∧W.cell? ⟨w.heap.size+1,0,none⟩=some (.bool bn)∧W.cell? ⟨w.heap.size+1,1,none⟩=some (.slice bo m cb)∧W.cell? ⟨w.heap.size+1,2,none⟩=some (.int .i64 f))
    (first|assumption|exact⟨⟨k0,k1,k2⟩,j0,j1,j2⟩|exact aK (W:=w3.drew) hbv1 ⟨⟨k0,k1,k2⟩,j0,j1,j2⟩|exact aK hbv2 (aK (W:=w3.drew) hbv1 ⟨⟨k0,k1,k2⟩,j0,j1,j2⟩)|exact⟨cJ (aK hbv2 (aK (W:=w3.drew) hbv1 ⟨⟨k0,k1,k2⟩,j0,j1,j2⟩)).1 (by omega) _ _ _,cJ (aK hbv2 (aK (W:=w3.drew) hbv1 ⟨⟨k0,k1,k2⟩,j0,j1,j2⟩)).2 (by omega) _ _ _⟩)
    (first|(go_at_call 80;refine(C2 _ _ _ _ hv1).mono ?_;rintro y w4 ⟨ng4,o4,n4,c4,e4,rfl,hv2,hbv2⟩;have q0:=((aa hbv1 hbv2).block (w.heap.size+2) (by show _<w3.heap.size;omega)).trans g2;have x0:=ab q0 0 rfl;have x1:=ab q0 1 rfl;have x2:=ab q0 2 rfl;have z0:=ak q0 0;have z1:=ak q0 1;have z2:=ak q0 2)|(go_at_call 100;refine(C1 _ hb1.drew).mono ?_;rintro y w3' ⟨so,sn,sc,rfl,hv1,hbv1⟩))
   all_goals go_wp2
   all_goals
    refine bodyPost_ret (v:=.agg #[.bool ng4,.slice o4 n4 c4,.int .i64 e4]) (by simp[results,results76,go_sem,x0,x1,x2]) rfl ⟨_,rfl,?_⟩
    exact b8 (g:=w.heap.size+2) hv2 (aa hbx3 (aa hb1.drew hbv1)) (by omega) (Nat.lt_of_lt_of_le (show _<w3.heap.size by omega) hbv1.size) _ _ _
  ·have ho:bq A B<(0:Int):=by rw[cF (by omega)];decide
   have C1:∀ W,Below w3.heap.size w3 W->Calls prog 100 #[.slice qo qn qc,.slice po pn pc] W fun r w'=>∃ so sn sc,r=.returned (.slice so sn sc)∧aT w' (.slice so sn sc) (B-A)∧Below W.heap.size W w':=fun W h=>H6 W _ _ (hP.keeps h) (hQ.keeps h) (by omega)
   have C2:∀ W so sn sc,aT W (.slice so sn sc) (B-A)->Calls prog 80 #[.bool bn,.slice so sn sc,.int .i64 low] W fun r w'=>∃ ng s1 s2 s3 e1,r=.returned (.agg #[.bool ng,.slice s1 s2 s3,.int .i64 e1])∧aZ W w' V (.agg #[.bool ng,.slice s1 s2 s3,.int .i64 e1])∧Below W.heap.size W w':=fun W so sn sc hN=>HH7.out W bn _ _ hN (.inr (.inr ⟨hng,by omega,rfl,rfl⟩))
   generalize bq A B=oAB at ho ⊢
   clear H1 H2 H3 H4 H5 H6 HH7 hAB
   go_wp2_with fail
   have hb1:=aq w3
   go_region_held3 (fun W=>(W.cell? ⟨w.heap.size,0,none⟩=some (.bool an)∧W.cell? ⟨w.heap.size,1,none⟩=some (.slice ao n ca)∧W.cell? ⟨w.heap.size,2,none⟩=some (.int .i64 e))∧W.cell? ⟨w.heap.size+1,0,none⟩=some (.bool bn)∧W.cell? ⟨w.heap.size+1,1,none⟩=some (.slice bo m cb)∧W.cell? ⟨w.heap.size+1,2,none⟩=some (.int .i64 f))
    (first|assumption|exact⟨⟨k0,k1,k2⟩,j0,j1,j2⟩|exact aK (W:=w3.drew) hbv1 ⟨⟨k0,k1,k2⟩,j0,j1,j2⟩|exact aK hbv2 (aK (W:=w3.drew) hbv1 ⟨⟨k0,k1,k2⟩,j0,j1,j2⟩)|exact⟨cJ (aK hbv2 (aK (W:=w3.drew) hbv1 ⟨⟨k0,k1,k2⟩,j0,j1,j2⟩)).1 (by omega) _ _ _,cJ (aK hbv2 (aK (W:=w3.drew) hbv1 ⟨⟨k0,k1,k2⟩,j0,j1,j2⟩)).2 (by omega) _ _ _⟩)
    (first|(go_at_call 80;refine(C2 _ _ _ _ hv1).mono ?_;rintro y w4 ⟨ng4,o4,n4,c4,e4,rfl,hv2,hbv2⟩;have q0:=((aa hbv1 hbv2).block (w.heap.size+2) (by show _<w3.heap.size;omega)).trans g2;have x0:=ab q0 0 rfl;have x1:=ab q0 1 rfl;have x2:=ab q0 2 rfl;have z0:=ak q0 0;have z1:=ak q0 1;have z2:=ak q0 2)|(go_at_call 100;refine(C1 _ hb1.drew).mono ?_;rintro y w3' ⟨so,sn,sc,rfl,hv1,hbv1⟩))
   all_goals go_wp2
   all_goals
    refine bodyPost_ret (v:=.agg #[.bool ng4,.slice o4 n4 c4,.int .i64 e4]) (by simp[results,results76,go_sem,x0,x1,x2]) rfl ⟨_,rfl,?_⟩
    exact b8 (g:=w.heap.size+2) hv2 (aa hbx3 (aa hb1.drew hbv1)) (by omega) (Nat.lt_of_lt_of_le (show _<w3.heap.size by omega) hbv1.size) _ _ _
theorem Bq (x y:aE) (w:World) (hx:aG w x.ao x.n x.cap x.d) (hy:aG w y.ao y.n y.cap y.d) (dx:Dy x.V x.ng (val x.d x.n) x.e) (nx:bt x.d x.n) (dy:Dy y.V y.ng (val y.d y.n) y.e) (ny:bt y.d y.n) (hW:Wd x y) :
  Calls prog 76 #[x.v,y.v] w fun r w'=>∃ v,r=.returned v∧gw w w' x.V y.V x.v y.v v:=by
 by_cases h0:x.n=0
 ·refine(mZ x y w (Nat.le_trans hx.le hx.max) (Nat.le_trans hy.le hy.max) h0).mono ?_
  rintro r w' ⟨rfl,hb⟩
  exact⟨_,rfl,hb,.inr (.inl ⟨dx.eq_zero.2 (by rw[h0];rfl),rfl⟩)⟩
 ·by_cases h1:y.n=0
  ·refine(lX x y w (Nat.le_trans hx.le hx.max) (Nat.le_trans hy.le hy.max) (by omega) h1).mono ?_
   rintro r w' ⟨rfl,hb⟩
   exact⟨_,rfl,hb,.inr (.inr ⟨dy.eq_zero.2 (by rw[h1];rfl),rfl⟩)⟩
  ·have px:=dK nx (show 0<x.n by omega)
   have py:=dK ny (show 0<y.n by omega)
   obtain⟨⟨a1,a2⟩,⟨b1,b2,ab1,ab2⟩,s1,s2,dgx,dgy⟩:=hW
   obtain⟨K,hK0⟩:∃ K:Nat,K=560000:=⟨_,rfl⟩
   have hK:K<=560000:=by omega
   rw[<- hK0] at s1 s2
   obtain⟨low,hlow⟩:∃ low:Int,low=min x.e y.e:=⟨_,rfl⟩
   rw[<- hlow] at s1 s2
   have v1:=dx.at (low:=low) (by omega) (by omega)
   have v2:=dy.at (low:=low) (by omega) (by omega)
   have q1:0<=val x.d x.n*2^(x.e-low).toNat:=Int.mul_nonneg (by omega) (Int.le_of_lt (aF _))
   have q2:0<=val y.d y.n*2^(y.e-low).toNat:=Int.mul_nonneg (by omega) (Int.le_of_lt (aF _))
   have e1:x.e-low=((x.e-low).toNat:Int):=by omega
   have e2:y.e-low=((y.e-low).toNat:Int):=by omega
   have H1:∀ W,Below w.heap.size w W->Calls prog 97 #[.slice x.ao x.n x.cap,.int .i64 (x.e-low)] W fun r w'=>∃ so sn sc,r=.returned (.slice so sn sc)∧aT w' (.slice so sn sc) (val x.d x.n*2^(x.e-low).toNat)∧Below W.heap.size W w':=fun W hb=>by
    rw[e1]
    refine(iS x.ao x.n x.cap _ x.d W (hx.keeps hb) nx.1 (by omega) (by omega)).mono ?_
    rintro r w' ⟨v,rfl,hA⟩
    obtain⟨so,sn,sc,rfl⟩:=hA.num.shape
    exact⟨so,sn,sc,rfl,by rw[<- e1];exact hA.num,hA.below⟩
   have H2:∀ W,Below w.heap.size w W->Calls prog 97 #[.slice y.ao y.n y.cap,.int .i64 (y.e-low)] W fun r w'=>∃ so sn sc,r=.returned (.slice so sn sc)∧aT w' (.slice so sn sc) (val y.d y.n*2^(y.e-low).toNat)∧Below W.heap.size W w':=fun W hb=>by
    rw[e2]
    refine(iS y.ao y.n y.cap _ y.d W (hy.keeps hb) ny.1 (by omega) (by omega)).mono ?_
    rintro r w' ⟨v,rfl,hA⟩
    obtain⟨so,sn,sc,rfl⟩:=hA.num.shape
    exact⟨so,sn,sc,rfl,by rw[<- e2];exact hA.num,hA.below⟩
   generalize val x.d x.n*2^(x.e-low).toNat=A at *
   generalize val y.d y.n*2^(y.e-low).toNat=B at *
   have dg:=fun W so sn sc M (h:aT W (.slice so sn sc) M) hM=>h.digits hK hM
   have aj:∀ W p M,aT W p M->M<2^(2*K)+2^(2*K)->∃ so sn sc d,p=.slice so sn sc∧aG W so sn sc d∧bt d sn∧val d sn=M∧sn<=37500:=fun W p M h hM=>by
    obtain⟨so,sn,sc,rfl⟩:=h.shape
    obtain⟨d,h1,h2,h3,h4⟩:=h.digits hK hM
    exact⟨so,sn,sc,d,rfl,h1,h2,h3,h4⟩
   refine(rf x y w hx hy (by omega) (by omega) low A B (x.V+y.V) hlow (by omega) (by omega) (by omega) H1 H2 ?_ ?_ ?_ ?_ ?_).mono ?_
   ·intro W p q hp hq
    obtain⟨po,pn,pc,d,rfl,r1,r2,r3,r4⟩:=aj W p A hp (by omega)
    obtain⟨qo,qn,qc,d',rfl,u1,u2,u3,u4⟩:=aj W q B hq (by omega)
    refine(pI _ _ _ _ _ _ d d' W r1 u1 r2 u2 (by omega) (by omega)).mono ?_
    rw[r3,u3]
    rintro r w' ⟨v,rfl,hA⟩
    obtain⟨so,sn,sc,rfl⟩:=hA.num.shape
    exact⟨so,sn,sc,rfl,hA.num,hA.below⟩
   ·intro W p q hp hq
    obtain⟨po,pn,pc,d,rfl,r1,r2,r3,r4⟩:=aj W p A hp (by omega)
    obtain⟨qo,qn,qc,d',rfl,u1,u2,u3,u4⟩:=aj W q B hq (by omega)
    have:=pJ po qo pn qn pc qc d d' W r1 u1 r2 u2
    rwa [r3,u3] at this
   ·intro W p q hp hq hle
    obtain⟨po,pn,pc,d,rfl,r1,r2,r3,r4⟩:=aj W p A hp (by omega)
    obtain⟨qo,qn,qc,d',rfl,u1,u2,u3,u4⟩:=aj W q B hq (by omega)
    refine(jW _ _ _ _ _ _ d d' W r1 u1 r2 u2 (by omega) (by rw[r3,u3];exact hle)).mono ?_
    rw[r3,u3]
    rintro r w' ⟨v,rfl,hA⟩
    obtain⟨so,sn,sc,rfl⟩:=hA.num.shape
    exact⟨so,sn,sc,rfl,hA.num,hA.below⟩
   ·intro W p q hp hq hle
    obtain⟨po,pn,pc,d,rfl,r1,r2,r3,r4⟩:=aj W p A hp (by omega)
    obtain⟨qo,qn,qc,d',rfl,u1,u2,u3,u4⟩:=aj W q B hq (by omega)
    refine(jW _ _ _ _ _ _ d' d W u1 r1 u2 r2 (by omega) (by rw[r3,u3];exact hle)).mono ?_
    rw[r3,u3]
    rintro r w' ⟨v,rfl,hA⟩
    obtain⟨so,sn,sc,rfl⟩:=hA.num.shape
    exact⟨so,sn,sc,rfl,hA.num,hA.below⟩
   ·intro W ng s M hs hc
    have hM:M<2^(2*K)+2^(2*K):=by rcases hc with⟨_,_,h⟩|⟨_,_,_,h⟩|⟨_,_,_,h⟩<;>omega
    obtain⟨po,pn,pc,d,rfl,r1,r2,r3,r4⟩:=aj W s M hs hM
    have hV:=vt (low:=low) hc
    rw[<- v1,<- v2] at hV
    refine(ja ng po pn pc d low W r1 r2.1 (by omega) (by omega) (by omega)).mono ?_
    rw[r3,hV]
    rintro r w' ⟨v,rfl,hD⟩
    obtain⟨ng',s,m',e1,rfl,_,hA⟩:=id hD
    obtain⟨q1,q2,q3,rfl⟩:=hA.num.shape
    exact⟨ng',q1,q2,q3,e1,rfl,hD,hD.below⟩
   ·rintro r w' ⟨v,rfl,hD⟩
    exact⟨v,rfl,hD.below,.inl hD⟩
theorem Br (x y:aE) (w:World) (hx:aG w x.ao x.n x.cap x.d) (hy:aG w y.ao y.n y.cap y.d) (ox:bV x=true) (oy:bV y=true) (hW:Wd x y) :
  Calls prog 82 #[x.v,y.v] w fun r w'=>∃ v,r=.returned v∧gw w w' x.V (-y.V) x.v y.opp.v v:=by
 obtain⟨e1,e2⟩:=oW oy
 have hop:=fun W=>lu y W (by have:=hy.le;have:=hy.max;omega)
 have C2:∀ W,Below w.heap.size w W->Calls prog 76 #[x.v,y.opp.v] W fun r w'=>∃ ng so sn sc e,r=.returned (.agg #[.bool ng,.slice so sn sc,.int .i64 e])∧gw W w' x.V (-y.V) x.v y.opp.v (.agg #[.bool ng,.slice so sn sc,.int .i64 e])∧Below W.heap.size W w':=fun W hb=>by
  refine(Bq x y.opp W (hx.keeps hb) (hy.keeps hb) (fC ox).1 (a8 ox).1 e2 (a8 oy).1 hW).mono ?_
  rintro r w' ⟨v,rfl,h⟩
  rw[e1] at h
  obtain⟨ng,so,sn,sc,e,rfl⟩:=h.shape
  exact⟨_,_,_,_,_,rfl,h,h.1⟩
 have hmy:=hy.max
 have hly:=hy.le
 obtain⟨VV,hVV⟩:∃ V,V=x.V:=⟨_,rfl⟩
 obtain⟨UU,hUU⟩:∃ V,V=-y.V:=⟨_,rfl⟩
 rw[<- hVV,<- hUU] at C2 ⊢
 clear e1 e2 hW hVV hUU ox oy
 unfold aE.opp at *
 obtain⟨on,hon⟩:∃ V,V=(if y.n=0 then y.ng else !y.ng):=⟨_,rfl⟩
 rw[<- hon] at hop C2 ⊢
 clear hon
 obtain⟨an,ao,n,ca,a,e⟩:=x
 obtain⟨bn,bo,m,cb,b,f⟩:=y
 unfold aE.v at *
 simp only at *
 have hb3:Below w.heap.size w (((w.alloc (.cells #[.bool an,.slice ao n ca,.int .i64 e] 26)).alloc (.cells #[.bool bn,.slice bo m cb,.int .i64 f] 26)).alloc (.cells #[.bool false,.slice none 0 0,.int .i64 0] 26)):=dP _ _ _ _
 have g0:=nj w (.cells #[.bool an,.slice ao n ca,.int .i64 e] 26) (.cells #[.bool bn,.slice bo m cb,.int .i64 f] 26) (.cells #[.bool false,.slice none 0 0,.int .i64 0] 26)
 have g1:=nk w (.cells #[.bool an,.slice ao n ca,.int .i64 e] 26) (.cells #[.bool bn,.slice bo m cb,.int .i64 f] 26) (.cells #[.bool false,.slice none 0 0,.int .i64 0] 26)
 have g2:=ns w (.cells #[.bool an,.slice ao n ca,.int .i64 e] 26) (.cells #[.bool bn,.slice bo m cb,.int .i64 f] 26) (.cells #[.bool false,.slice none 0 0,.int .i64 0] 26)
 go_enter func82,ntmps82
 go_wp2_with fail
 generalize ((w.alloc (.cells #[.bool an,.slice ao n ca,.int .i64 e] 26)).alloc (.cells #[.bool bn,.slice bo m cb,.int .i64 f] 26)).alloc (.cells #[.bool false,.slice none 0 0,.int .i64 0] 26)=wx at hb3 g0 g1 g2 ⊢
 have k0:=ab g0 0 rfl
 have k1:=ab g0 1 rfl
 have k2:=ab g0 2 rfl
 have j0:=ab g1 0 rfl
 have j1:=ab g1 1 rfl
 have j2:=ab g1 2 rfl
 have hb1:=aq wx
 have hs3:=(aGe g2).1
 go_region_held3 (fun W=>(W.cell? ⟨w.heap.size,0,none⟩=some (.bool an)∧W.cell? ⟨w.heap.size,1,none⟩=some (.slice ao n ca)∧W.cell? ⟨w.heap.size,2,none⟩=some (.int .i64 e))∧W.cell? ⟨w.heap.size+1,0,none⟩=some (.bool bn)∧W.cell? ⟨w.heap.size+1,1,none⟩=some (.slice bo m cb)∧W.cell? ⟨w.heap.size+1,2,none⟩=some (.int .i64 f))
  (first|assumption|exact⟨⟨k0,k1,k2⟩,j0,j1,j2⟩|exact aK (W:=wx.drew) hbv1 ⟨⟨k0,k1,k2⟩,j0,j1,j2⟩|exact aK hbv2 (aK (W:=wx.drew) hbv1 ⟨⟨k0,k1,k2⟩,j0,j1,j2⟩)|exact⟨cJ (aK hbv2 (aK (W:=wx.drew) hbv1 ⟨⟨k0,k1,k2⟩,j0,j1,j2⟩)).1 (by omega) _ _ _,cJ (aK hbv2 (aK (W:=wx.drew) hbv1 ⟨⟨k0,k1,k2⟩,j0,j1,j2⟩)).2 (by omega) _ _ _⟩)
  (first|(go_at_call 76;refine(C2 _ (aa hb3 (aa hb1.drew hbv1))).mono ?_;rintro y w4 ⟨ng4,o4,n4,c4,e4,rfl,hv2,hbv2⟩;have q0:=((aa hbv1 hbv2).block (w.heap.size+2) (by show _<wx.heap.size;omega)).trans g2;have x0:=ab q0 0 rfl;have x1:=ab q0 1 rfl;have x2:=ab q0 2 rfl;have z0:=ak q0 0;have z1:=ak q0 1;have z2:=ak q0 2)|(go_at_call 74;refine(hop _).mono ?_;rintro y w3 ⟨rfl,hbv1⟩))
 all_goals go_wp2
 all_goals
  refine bodyPost_ret (v:=.agg #[.bool ng4,.slice o4 n4 c4,.int .i64 e4]) (by simp[results,results82,go_sem,x0,x1,x2]) rfl ⟨_,rfl,?_⟩
  exact qF (g:=w.heap.size+2) hv2 (aa hb3 (aa hb1.drew hbv1)) (by omega) (Nat.lt_of_lt_of_le (show _<wx.heap.size by omega) hbv1.size) _ _ _
theorem vD (x y:aE) (w:World) (hx:aG w x.ao x.n x.cap x.d) (hy:aG w y.ao y.n y.cap y.d) (ox:bV x=true) (oy:bV y=true) (hW:Wd x y) :
  Calls prog 63 #[x.v,y.v] w fun r w'=>r=.returned (.int .i64 (bq x.V y.V))∧Below w.heap.size w w':=by
 have nx:∀ W,Below w.heap.size w W->aX W x.v x.V:=fun W hb=>⟨_,_,_,_,rfl,(fC ox).1,_,_,_,_,rfl,hx.keeps hb,(a8 ox).1,rfl⟩
 have ny:∀ W,Below w.heap.size w W->aX W y.opp.v (-y.V):=fun W hb=>by
  obtain⟨e1,e2⟩:=oW oy
  rw[e1] at e2
  exact⟨_,_,_,_,rfl,e2,_,_,_,_,rfl,hy.keeps hb,(a8 oy).1,rfl⟩
 have C1:∀ W,Below w.heap.size w W->Calls prog 82 #[x.v,y.v] W fun r w'=>∃ ng so sn sc e,r=.returned (.agg #[.bool ng,.slice so sn sc,.int .i64 e])∧sgn ng sn=bq x.V y.V∧sn<=9223372036854775807∧Below W.heap.size W w':=fun W hb=>by
  refine(Br x y W (hx.keeps hb) (hy.keeps hb) ox oy hW).mono ?_
  rintro r w' ⟨v,rfl,h⟩
  obtain⟨ng,so,sn,sc,e,rfl⟩:=h.shape
  obtain⟨s1,s2⟩:=sC (h.num (nx W hb) (ny W hb))
  refine⟨_,_,_,_,_,rfl,?_,s2,h.1⟩
  rw[s1]
  have:=rQ x.V y.V
  rw[<- this]
  congr 1
 obtain⟨VV,hVV⟩:∃ V,V=bq x.V y.V:=⟨_,rfl⟩
 rw[<- hVV] at C1 ⊢
 clear nx ny hW hVV ox oy
 obtain⟨an,ao,n,ca,a,e⟩:=x
 obtain⟨bn,bo,m,cb,b,f⟩:=y
 unfold aE.v at *
 simp only at *
 go_enter func63,ntmps63
 go_wp2_with fail
 refine(C1 _ (ax _ _ _)).mono ?_
 rintro r w1 ⟨ng,so,sn,sc,e1,rfl,hs,hm,hb1⟩
 have HS:Hid (sgn ng sn=VV):=hs
 clear hs
 go_wp2_with fail
 refine(kv ng so sn sc e1 _ hm).mono ?_
 rintro r w2 ⟨rfl,hb2⟩
 go_wp2
 go_ret
 exact⟨bS HS.out,aa (aa (ax _ _ _) hb1) hb2⟩
theorem sG {x y:aE} (ox:bV x=true) (oy:bV y=true) (by':Bd 4000 y.V):val x.d x.n*2^(x.e-min x.e y.e).toNat<2^(2*560000)∧val y.d y.n*2^(y.e-min x.e y.e).toNat<2^(2*560000)∧x.n<=37400∧y.n<=37400∧(-1500000<=x.e∧x.e<=1500000)∧(-1500000<=y.e∧y.e<=1500000)∧x.e-y.e<=1900000∧y.e-x.e<=1900000:=by
 obtain⟨hx1,hx2,hx3⟩:=(fC ox)
 obtain⟨hy1,hy2,hy3⟩:=(fC oy)
 obtain⟨mx,ex1,ex2⟩:=hx1.ok.1 hx3
 obtain⟨my,ey1,ey2⟩:=hy1.ok.1 hy3
 have nx:=(a8 ox).1
 have ny:=(a8 oy).1
 have gx:=(a8 ox).2.1
 have gy:=(a8 oy).2.1
 have pw2:∀ (a:Nat) (v:Int) (s:Nat),v<2^a->a+s<=1120000->0<=v->v*2^s<2^(2*560000):=fun a v s hv hs h0=>by
  have h1:v*2^s<2^a*2^s:=Int.mul_lt_mul_of_pos_right hv (aF s)
  rw[<- Int.pow_add] at h1
  exact Int.lt_of_lt_of_le h1 (cc (by omega))
 have vx0:=aJ nx.1
 have vy0:=aJ ny.1
 have P2:P 2000=2^60000:=by rw[cr]
 rw[P2] at mx my
 by_cases hz:val y.d y.n=0
 ·have yz:y.e=0:=by
   rcases hy1.form with⟨_,_,h⟩|⟨h,_⟩
   ·exact h
   ·omega
  refine⟨pw2 60000 _ _ mx (by omega) vx0,?_,by omega,by omega,by omega,by omega,by omega,by omega⟩
  rw[hz,Int.zero_mul]
  exact aF _
 ·obtain⟨f1,f2,f3⟩:=jF by' hy1 (by omega) (by omega)
  have f4:=nN by' hy1 (by omega) (by omega)
  exact⟨pw2 60000 _ _ mx (by omega) vx0,pw2 (2*4000) _ _ f4 (by omega) vy0,by omega,by omega,by omega,by omega,by omega,by omega⟩
theorem zI {w:World} {x y:Value} {A B:Int} (hx:aX w x A) (hy:aX w y B) (oA:b7 A) (oB:b7 B) (b:Bd 4000 B):Calls prog 63 #[x,y] w fun r w'=>r=.returned (.int .i64 (bq A B))∧Below w.heap.size w w':=by
 obtain⟨x,rfl,hR,ok,rfl⟩:=hx.open oA
 obtain⟨y,rfl,hR',ok',rfl⟩:=hy.open oB
 obtain⟨h1,h2,h3,h4,h5,h6,h7,h8⟩:=sG ok ok' b
 exact vD x y w hR hR' ok ok' ⟨h5,⟨h6.1,h6.2,h7,h8⟩,h1,h2,h3,h4⟩
theorem zJ {w:World} {x y:Value} {A B:Int} (hx:aX w x A) (hy:aX w y B) (oA:b7 A) (oB:b7 B) (b:Bd 4000 A):Calls prog 63 #[x,y] w fun r w'=>r=.returned (.int .i64 (bq A B))∧Below w.heap.size w w':=by
 obtain⟨x,rfl,hR,ok,rfl⟩:=hx.open oA
 obtain⟨y,rfl,hR',ok',rfl⟩:=hy.open oB
 obtain⟨h1,h2,h3,h4,h5,h6,h7,h8⟩:=sG ok' ok b
 rw[Int.min_comm] at h1 h2
 exact vD x y w hR hR' ok ok' ⟨h6,⟨h5.1,h5.2,h8,h7⟩,h2,h1,h4,h3⟩
end Go.Proofs.YtkkpppgfoilgmaaGreatDoor
