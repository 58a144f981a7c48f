/- Parts of the proof. -/
import Derived.Test.YtkkpppgfoilgmaaGreatDoorPart29
import Derived.Deep.RegionHeld3
set_option maxRecDepth 100000
set_option maxHeartbeats 8000000
set_option linter.unusedVariables false
set_option linter.unusedSimpArgs false
namespace Go.Proofs.YtkkpppgfoilgmaaGreatDoor
open Go Go.Proofs.Tryz Go.RowKit Go.Proofs.YtkkpppgfoilgmaaGreatDoor.M
theorem pQ {a b:Int} (ra:au a) (rb:au b) (w:World):Calls prog 10 #[.agg #[.int .i64 a,.int .i64 b]] w fun e w'=>e=.returned (.bool (vR a b))∧Below w.heap.size w w':=by
 have CA:Hid (∀ W,Calls prog 39 #[.int .i64 a] W fun e w'=>e=.returned (.int .i64 (aE a))∧w'=W):=fun W=>gg a W ra
 have CB:Hid (∀ W,Calls prog 39 #[.int .i64 b] W fun e w'=>e=.returned (.int .i64 (aE b))∧w'=W):=fun W=>gg b W rb
 unfold vR
 by_cases ha:aE a=4
 ·rw[ha] at CA ⊢
  have e:(!decide ((4:Int)=4)&&(!decide (aE b=4)&&(!decide ((ag a).i=1)&&(!decide ((ag b).i=-1)&&decide (cc (ag a) (ag b)<=0)))))=false:=by simp
  rw[e]
  clear e
  have hb:=ap w
  go_enter func10,ntmps10
  have s_k:(w.alloc (.cells #[.int .i64 a,.int .i64 b] 23)).heap[w.heap.size]?=some (.cells #[.int .i64 a,.int .i64 b] 23):=av (.cells #[.int .i64 a,.int .i64 b] 23) (by simp only[ak])
  have hb:=ab hb (ae w (.cells #[.int .i64 a,.int .i64 b] 23))
  have f_s0:=aa s_k 0 rfl
  have f_s1:=aa s_k 1 rfl
  go_wp2_with fail
  clear f_s0 f_s1
  generalize (w.alloc (.cells #[.int .i64 a,.int .i64 b] 23))=x1 at s_k hb ⊢
  refine(CA.out _).mono ?_
  rintro _ _ ⟨rfl,rfl⟩
  go_wp2
  go_ret
  exact⟨rfl,hb⟩
 ·have ha2:(aE a == 4)=false:=by simp;exact ha
  by_cases hb':aE b=4
  ·rw[hb'] at CB ⊢
   have e:(!decide (aE a=4)&&(!decide ((4:Int)=4)&&(!decide ((ag a).i=1)&&(!decide ((ag b).i=-1)&&decide (cc (ag a) (ag b)<=0)))))=false:=by simp
   rw[e]
   generalize aE a=ca at *
   clear e ha hb'
   have hb:=ap w
   go_enter func10,ntmps10
   have s_k:(w.alloc (.cells #[.int .i64 a,.int .i64 b] 23)).heap[w.heap.size]?=some (.cells #[.int .i64 a,.int .i64 b] 23):=av (.cells #[.int .i64 a,.int .i64 b] 23) (by simp only[ak])
   have hb:=ab hb (ae w (.cells #[.int .i64 a,.int .i64 b] 23))
   have f_s0:=aa s_k 0 rfl
   have f_s1:=aa s_k 1 rfl
   go_wp2_with fail
   clear f_s0 f_s1
   generalize (w.alloc (.cells #[.int .i64 a,.int .i64 b] 23))=x1 at s_k hb ⊢
   refine(CA.out _).mono ?_
   rintro _ _ ⟨rfl,rfl⟩
   have f_s1:=aa s_k 1 rfl
   go_wp2_with fail
   clear f_s1
   refine(CB.out _).mono ?_
   rintro _ _ ⟨rfl,rfl⟩
   go_wp2
   go_ret
   exact⟨rfl,hb⟩
  ·have hb2:(aE b == 4)=false:=by simp;exact hb'
   have na:nn a:=⟨ra,ha⟩
   have nb:nn b:=⟨rb,hb'⟩
   rw[decide_eq_false ha,decide_eq_false hb']
   simp only[Bool.not_false,Bool.true_and]
   have OA:Hid (∀ W,Calls prog 40 #[.int .i64 a] W fun r w'=>∃ v,r=.returned v∧EA w' v (ag a)∧Below W.heap.size W w'):=fun W=>cA na W
   have OB:Hid (∀ W,Calls prog 40 #[.int .i64 b] W fun r w'=>∃ v,r=.returned v∧EA w' v (ag b)∧Below W.heap.size W w'):=fun W=>cA nb W
   have OO:Hid (∀ (u v:Value) W,EA W u (ag a)->EA W v (ag b)->Calls prog 41 #[u,v] W fun r w'=>r=.returned (.int .i64 (cc (ag a) (ag b)))∧Below W.heap.size W w'):=fun u v W hu hv=>mY hu.ev hv.ev (K:=4000) (by omega) (aV _) (aV _)
   generalize ag a=A at *
   generalize ag b=B at *
   generalize aE a=ca at *
   generalize aE b=cb at *
   generalize cc A B=O at *
   obtain⟨ai,hai⟩:∃ ai,A.i=ai:=⟨_,rfl⟩
   obtain⟨bi,hbi⟩:∃ bi,B.i=bi:=⟨_,rfl⟩
   have OA2:Hid (∀ W,Calls prog 40 #[.int .i64 a] W fun r w'=>∃ g o n c e,r=.returned (.agg #[.int .i64 ai,.bool g,.slice o n c,.int .i64 e])∧bH 0 w' A.v (.agg #[.bool g,.slice o n c,.int .i64 e])∧Below W.heap.size W w'):=fun W=>by
    refine(OA.out W).mono ?_
    rintro r w' ⟨v,rfl,⟨g,o,n,c,e,rfl,hD⟩,hb⟩
    exact⟨g,o,n,c,e,by rw[hai],hD,hb⟩
   have OB2:Hid (∀ W,Calls prog 40 #[.int .i64 b] W fun r w'=>∃ g o n c e,r=.returned (.agg #[.int .i64 bi,.bool g,.slice o n c,.int .i64 e])∧bH 0 w' B.v (.agg #[.bool g,.slice o n c,.int .i64 e])∧Below W.heap.size W w'):=fun W=>by
    refine(OB.out W).mono ?_
    rintro r w' ⟨v,rfl,⟨g,o,n,c,e,rfl,hD⟩,hb⟩
    exact⟨g,o,n,c,e,by rw[hbi],hD,hb⟩
   have OO2:Hid (∀ (g:Bool) (o:Option Addr) (n c:Nat) (e:Int) (g':Bool) (o':Option Addr) (n' c':Nat) (e':Int) W,bH 0 W A.v (.agg #[.bool g,.slice o n c,.int .i64 e])->bH 0 W B.v (.agg #[.bool g',.slice o' n' c',.int .i64 e'])->Calls prog 41 #[.agg #[.int .i64 ai,.bool g,.slice o n c,.int .i64 e],.agg #[.int .i64 bi,.bool g',.slice o' n' c',.int .i64 e']] W fun r w'=>r=.returned (.int .i64 O)∧Below W.heap.size W w'):=fun g o n c e g' o' n' c' e' W h1 h2=>OO.out _ _ W ⟨g,o,n,c,e,by rw[hai],h1⟩ ⟨g',o',n',c',e',by rw[hbi],h2⟩
   rw[hai,hbi]
   clear ha hb' na nb OA OB OO hai hbi
   by_cases h1:ai=1
   ·subst h1
    have e:(!decide ((1:Int)=1)&&(!decide (bi=-1)&&decide (O<=0)))=false:=by simp
    rw[e]
    clear e OO2
    have hb:=ap w
    go_enter func10,ntmps10
    have s_k:(w.alloc (.cells #[.int .i64 a,.int .i64 b] 23)).heap[w.heap.size]?=some (.cells #[.int .i64 a,.int .i64 b] 23):=av (.cells #[.int .i64 a,.int .i64 b] 23) (by simp only[ak])
    have hb:=ab hb (ae w (.cells #[.int .i64 a,.int .i64 b] 23))
    have f_s0:=aa s_k 0 rfl
    have f_s1:=aa s_k 1 rfl
    go_wp2_with fail
    clear f_s0 f_s1
    generalize (w.alloc (.cells #[.int .i64 a,.int .i64 b] 23))=x1 at s_k hb ⊢
    refine(CA.out _).mono ?_
    rintro _ _ ⟨rfl,rfl⟩
    have f_s1:=aa s_k 1 rfl
    go_wp2_with fail
    clear f_s1
    refine(CB.out _).mono ?_
    rintro _ _ ⟨rfl,rfl⟩
    have f_s0:=aa s_k 0 rfl
    have f_s1:=aa s_k 1 rfl
    go_wp2_with fail
    clear f_s0 f_s1
    refine(OA2.out _).mono ?_
    rintro _ y2 ⟨p_g,p_o,p_n,p_c,p_e,rfl,p_D,hw⟩
    have s_k:=ac hw s_k
    have hb:=ab hb hw
    have s_k:=ah (.cells #[.int .i64 1,.bool p_g,.slice p_o p_n p_c,.int .i64 p_e] 68) s_k
    have p_k:(y2.alloc (.cells #[.int .i64 1,.bool p_g,.slice p_o p_n p_c,.int .i64 p_e] 68)).heap[y2.heap.size]?=some (.cells #[.int .i64 1,.bool p_g,.slice p_o p_n p_c,.int .i64 p_e] 68):=av (.cells #[.int .i64 1,.bool p_g,.slice p_o p_n p_c,.int .i64 p_e] 68) (by simp only[ak])
    have p_D:=p_D.keeps (ae y2 (.cells #[.int .i64 1,.bool p_g,.slice p_o p_n p_c,.int .i64 p_e] 68))
    have hb:=ab hb (ae y2 (.cells #[.int .i64 1,.bool p_g,.slice p_o p_n p_c,.int .i64 p_e] 68))
    have f_s0:=aa s_k 0 rfl
    have f_s1:=aa s_k 1 rfl
    go_wp2_with fail
    clear f_s0 f_s1
    generalize (y2.alloc (.cells #[.int .i64 1,.bool p_g,.slice p_o p_n p_c,.int .i64 p_e] 68))=x3 at s_k p_k p_D hb ⊢
    refine(OB2.out _).mono ?_
    rintro _ y4 ⟨q_g,q_o,q_n,q_c,q_e,rfl,q_D,hw⟩
    have s_k:=ac hw s_k
    have p_k:=ac hw p_k
    have p_D:=p_D.keeps hw
    have hb:=ab hb hw
    have q_k:=aB y4 (.cells #[.int .i64 bi,.bool q_g,.slice q_o q_n q_c,.int .i64 q_e] 68)
    have p_k:=ah (.cells #[.int .i64 bi,.bool q_g,.slice q_o q_n q_c,.int .i64 q_e] 68) p_k
    have hb:=ab hb (ae y4 (.cells #[.int .i64 bi,.bool q_g,.slice q_o q_n q_c,.int .i64 q_e] 68))
    have f_p0:=aa p_k 0 rfl
    have f_q0:=aa q_k 0 rfl
    go_wp2
    go_ret
    exact⟨rfl,hb⟩
   ·have h1':(ai != 1)=true:=by simp;exact h1
    by_cases h2:bi=-1
    ·subst h2
     have e:(!decide (ai=1)&&(!decide ((-1:Int)=-1)&&decide (O<=0)))=false:=by simp
     rw[e]
     clear e OO2 h1
     have hb:=ap w
     go_enter func10,ntmps10
     have s_k:(w.alloc (.cells #[.int .i64 a,.int .i64 b] 23)).heap[w.heap.size]?=some (.cells #[.int .i64 a,.int .i64 b] 23):=av (.cells #[.int .i64 a,.int .i64 b] 23) (by simp only[ak])
     have hb:=ab hb (ae w (.cells #[.int .i64 a,.int .i64 b] 23))
     have f_s0:=aa s_k 0 rfl
     have f_s1:=aa s_k 1 rfl
     go_wp2_with fail
     clear f_s0 f_s1
     generalize (w.alloc (.cells #[.int .i64 a,.int .i64 b] 23))=x1 at s_k hb ⊢
     refine(CA.out _).mono ?_
     rintro _ _ ⟨rfl,rfl⟩
     have f_s1:=aa s_k 1 rfl
     go_wp2_with fail
     clear f_s1
     refine(CB.out _).mono ?_
     rintro _ _ ⟨rfl,rfl⟩
     have f_s0:=aa s_k 0 rfl
     have f_s1:=aa s_k 1 rfl
     go_wp2_with fail
     clear f_s0 f_s1
     refine(OA2.out _).mono ?_
     rintro _ y2 ⟨p_g,p_o,p_n,p_c,p_e,rfl,p_D,hw⟩
     have s_k:=ac hw s_k
     have hb:=ab hb hw
     have s_k:=ah (.cells #[.int .i64 ai,.bool p_g,.slice p_o p_n p_c,.int .i64 p_e] 68) s_k
     have p_k:(y2.alloc (.cells #[.int .i64 ai,.bool p_g,.slice p_o p_n p_c,.int .i64 p_e] 68)).heap[y2.heap.size]?=some (.cells #[.int .i64 ai,.bool p_g,.slice p_o p_n p_c,.int .i64 p_e] 68):=av (.cells #[.int .i64 ai,.bool p_g,.slice p_o p_n p_c,.int .i64 p_e] 68) (by simp only[ak])
     have p_D:=p_D.keeps (ae y2 (.cells #[.int .i64 ai,.bool p_g,.slice p_o p_n p_c,.int .i64 p_e] 68))
     have hb:=ab hb (ae y2 (.cells #[.int .i64 ai,.bool p_g,.slice p_o p_n p_c,.int .i64 p_e] 68))
     have f_s0:=aa s_k 0 rfl
     have f_s1:=aa s_k 1 rfl
     go_wp2_with fail
     clear f_s0 f_s1
     generalize (y2.alloc (.cells #[.int .i64 ai,.bool p_g,.slice p_o p_n p_c,.int .i64 p_e] 68))=x3 at s_k p_k p_D hb ⊢
     refine(OB2.out _).mono ?_
     rintro _ y4 ⟨q_g,q_o,q_n,q_c,q_e,rfl,q_D,hw⟩
     have s_k:=ac hw s_k
     have p_k:=ac hw p_k
     have p_D:=p_D.keeps hw
     have hb:=ab hb hw
     have q_k:=aB y4 (.cells #[.int .i64 (-1),.bool q_g,.slice q_o q_n q_c,.int .i64 q_e] 68)
     have p_k:=ah (.cells #[.int .i64 (-1),.bool q_g,.slice q_o q_n q_c,.int .i64 q_e] 68) p_k
     have hb:=ab hb (ae y4 (.cells #[.int .i64 (-1),.bool q_g,.slice q_o q_n q_c,.int .i64 q_e] 68))
     have f_p0:=aa p_k 0 rfl
     have f_q0:=aa q_k 0 rfl
     go_wp2
     go_ret
     exact⟨rfl,hb⟩
    ·have h2':(bi != -1)=true:=by simp;exact h2
     have e:(!decide (ai=1)&&(!decide (bi=-1)&&decide (O<=0)))=decide (O<=0):=by simp[h1,h2]
     rw[e]
     clear e h1 h2
     have hb:=ap w
     go_enter func10,ntmps10
     have s_k:(w.alloc (.cells #[.int .i64 a,.int .i64 b] 23)).heap[w.heap.size]?=some (.cells #[.int .i64 a,.int .i64 b] 23):=av (.cells #[.int .i64 a,.int .i64 b] 23) (by simp only[ak])
     have hb:=ab hb (ae w (.cells #[.int .i64 a,.int .i64 b] 23))
     have f_s0:=aa s_k 0 rfl
     have f_s1:=aa s_k 1 rfl
     go_wp2_with fail
     clear f_s0 f_s1
     generalize (w.alloc (.cells #[.int .i64 a,.int .i64 b] 23))=x1 at s_k hb ⊢
     refine(CA.out _).mono ?_
     rintro _ _ ⟨rfl,rfl⟩
     have f_s1:=aa s_k 1 rfl
     go_wp2_with fail
     clear f_s1
     refine(CB.out _).mono ?_
     rintro _ _ ⟨rfl,rfl⟩
     have f_s0:=aa s_k 0 rfl
     have f_s1:=aa s_k 1 rfl
     go_wp2_with fail
     clear f_s0 f_s1
     refine(OA2.out _).mono ?_
     rintro _ y2 ⟨p_g,p_o,p_n,p_c,p_e,rfl,p_D,hw⟩
     have s_k:=ac hw s_k
     have hb:=ab hb hw
     have s_k:=ah (.cells #[.int .i64 ai,.bool p_g,.slice p_o p_n p_c,.int .i64 p_e] 68) s_k
     have p_k:(y2.alloc (.cells #[.int .i64 ai,.bool p_g,.slice p_o p_n p_c,.int .i64 p_e] 68)).heap[y2.heap.size]?=some (.cells #[.int .i64 ai,.bool p_g,.slice p_o p_n p_c,.int .i64 p_e] 68):=av (.cells #[.int .i64 ai,.bool p_g,.slice p_o p_n p_c,.int .i64 p_e] 68) (by simp only[ak])
     have p_D:=p_D.keeps (ae y2 (.cells #[.int .i64 ai,.bool p_g,.slice p_o p_n p_c,.int .i64 p_e] 68))
     have hb:=ab hb (ae y2 (.cells #[.int .i64 ai,.bool p_g,.slice p_o p_n p_c,.int .i64 p_e] 68))
     have f_s0:=aa s_k 0 rfl
     have f_s1:=aa s_k 1 rfl
     go_wp2_with fail
     clear f_s0 f_s1
     generalize (y2.alloc (.cells #[.int .i64 ai,.bool p_g,.slice p_o p_n p_c,.int .i64 p_e] 68))=x3 at s_k p_k p_D hb ⊢
     refine(OB2.out _).mono ?_
     rintro _ y4 ⟨q_g,q_o,q_n,q_c,q_e,rfl,q_D,hw⟩
     have s_k:=ac hw s_k
     have p_k:=ac hw p_k
     have p_D:=p_D.keeps hw
     have hb:=ab hb hw
     have s_k:=ah (.cells #[.int .i64 bi,.bool q_g,.slice q_o q_n q_c,.int .i64 q_e] 68) s_k
     have p_k:=ah (.cells #[.int .i64 bi,.bool q_g,.slice q_o q_n q_c,.int .i64 q_e] 68) p_k
     have q_k:(y4.alloc (.cells #[.int .i64 bi,.bool q_g,.slice q_o q_n q_c,.int .i64 q_e] 68)).heap[y4.heap.size]?=some (.cells #[.int .i64 bi,.bool q_g,.slice q_o q_n q_c,.int .i64 q_e] 68):=av (.cells #[.int .i64 bi,.bool q_g,.slice q_o q_n q_c,.int .i64 q_e] 68) (by simp only[ak])
     have p_D:=p_D.keeps (ae y4 (.cells #[.int .i64 bi,.bool q_g,.slice q_o q_n q_c,.int .i64 q_e] 68))
     have q_D:=q_D.keeps (ae y4 (.cells #[.int .i64 bi,.bool q_g,.slice q_o q_n q_c,.int .i64 q_e] 68))
     have hb:=ab hb (ae y4 (.cells #[.int .i64 bi,.bool q_g,.slice q_o q_n q_c,.int .i64 q_e] 68))
     have f_p0:=aa p_k 0 rfl
     have f_p1:=aa p_k 1 rfl
     have f_p2:=aa p_k 2 rfl
     have f_p3:=aa p_k 3 rfl
     have f_q0:=aa q_k 0 rfl
     have f_q1:=aa q_k 1 rfl
     have f_q2:=aa q_k 2 rfl
     have f_q3:=aa q_k 3 rfl
     go_wp2_with fail
     clear f_p0 f_p1 f_p2 f_p3 f_q0 f_q1 f_q2 f_q3
     generalize (y4.alloc (.cells #[.int .i64 bi,.bool q_g,.slice q_o q_n q_c,.int .i64 q_e] 68))=x5 at s_k p_k q_k p_D q_D hb ⊢
     refine(OO2.out _ _ _ _ _ _ _ _ _ _ _ p_D q_D).mono ?_
     rintro _ y6 ⟨rfl,hw⟩
     have s_k:=ac hw s_k
     have p_k:=ac hw p_k
     have q_k:=ac hw q_k
     have p_D:=p_D.keeps hw
     have q_D:=q_D.keeps hw
     have hb:=ab hb hw
     go_wp2
     go_ret
     exact⟨rfl,hb⟩
theorem Cl {a:Int} (na:nn a) (w:World):Calls prog 19 #[.int .i64 a] w fun e w'=>e=.returned (.agg #[.int .i64 (az a),.int .i64 (az a)])∧Below w.heap.size w w':=by
 have T:Hid (∀ (u v:Value) W,EA W u (ag a)->EA W v (ag a)->Calls prog 49 #[u,v] W fun r w'=>r=.returned (.agg #[.int .i64 (az a),.int .i64 (az a)])∧Below W.heap.size W w'):=fun u v W hu hv=>by
  have:=gT hu.ev hv.ev (fun _=>(aV _).ok (by omega)) (fun _=>(aV _).ok (by omega))
  rw[(dF na).1,(dF na).2] at this
  exact this
 generalize az a=X at *
 have hb:=ap w
 go_enter func19,ntmps19
 have r_k:(w.alloc (.cells #[.int .i64 0,.int .i64 0] 23)).heap[w.heap.size]?=some (.cells #[.int .i64 0,.int .i64 0] 23):=av (.cells #[.int .i64 0,.int .i64 0] 23) (by simp only[ak])
 have hb:=ab hb (ae w (.cells #[.int .i64 0,.int .i64 0] 23))
 go_wp2_with fail
 generalize (w.alloc (.cells #[.int .i64 0,.int .i64 0] 23))=x1 at r_k hb ⊢
 refine(cA na _).mono ?_
 rintro _ y2 ⟨v1,rfl,E1,hs1⟩
 have r_k:=ac hs1 r_k
 have hb:=ab hb hs1
 go_wp2_with fail
 refine(cA na _).mono ?_
 rintro _ y3 ⟨v2,rfl,E2,hs2⟩
 have r_k:=ac hs2 r_k
 have hb:=ab hb hs2
 go_wp2_with fail
 refine(T.out _ _ _ (E1.keeps hs2) E2).mono ?_
 rintro _ y4 ⟨rfl,hs3⟩
 have r_k:=ac hs3 r_k
 have hb:=ab hb hs3
 have f_r0:=aa r_k 0 rfl
 have z_r0:=af r_k 0
 have d_r0:=aj r_k 0 (.int .i64 X)
 have f_r1:=aa r_k 1 rfl
 have z_r1:=af r_k 1
 have d_r1:=aj d_r0 1 (.int .i64 X)
 have e_r0:=aa d_r1 0 rfl
 have e_r1:=aa d_r1 1 rfl
 have hbe:=((hb.setCell (p:=⟨w.heap.size,0,none⟩) (show w.heap.size<=w.heap.size by omega) (.int .i64 X)).setCell (p:=⟨w.heap.size,1,none⟩) (show w.heap.size<=w.heap.size by omega) (.int .i64 X))
 clear r_k d_r0 d_r1
 go_wp2
 refine bodyPost_ret (v:=.agg #[.int .i64 X,.int .i64 X]) (by simp[results,results19,go_sem,e_r0,e_r1]) rfl ⟨rfl,hbe⟩
theorem tf {x_g:Bool} {x_o:Option Addr} {x_n x_c:Nat} {x_e V:Int} {w:World} (hx:bk w (.agg #[.bool x_g,.slice x_o x_n x_c,.int .i64 x_e]) V) (ok:cB V):Calls prog 21 #[.agg #[.bool x_g,.slice x_o x_n x_c,.int .i64 x_e]] w fun e w'=>e=.returned (.agg #[.int .i64 (eR V),.int .i64 (eS V)])∧Below w.heap.size w w':=by
 have T:Hid (∀ W,Below w.heap.size w W->Calls prog 49 #[.agg #[.int .i64 0,.bool x_g,.slice x_o x_n x_c,.int .i64 x_e],.agg #[.int .i64 0,.bool x_g,.slice x_o x_n x_c,.int .i64 x_e]] W fun r w'=>r=.returned (.agg #[.int .i64 (eR V),.int .i64 (eS V)])∧Below W.heap.size W w'):=fun W hb=>
  gT (a:=⟨0,V⟩) (b:=⟨0,V⟩) ⟨_,_,_,_,_,rfl,hx.keeps hb⟩ ⟨_,_,_,_,_,rfl,hx.keeps hb⟩ (fun _=>ok) (fun _=>ok)
 generalize eR V=X at *
 generalize eS V=Y at *
 clear hx ok
 have hb:=ap w
 go_enter func21,ntmps21
 have x_k:(w.alloc (.cells #[.bool x_g,.slice x_o x_n x_c,.int .i64 x_e] 26)).heap[w.heap.size]?=some (.cells #[.bool x_g,.slice x_o x_n x_c,.int .i64 x_e] 26):=av (.cells #[.bool x_g,.slice x_o x_n x_c,.int .i64 x_e] 26) (by simp only[ak])
 have hb:=ab hb (ae w (.cells #[.bool x_g,.slice x_o x_n x_c,.int .i64 x_e] 26))
 have x_k:=ah (.cells #[.int .i64 0,.int .i64 0] 23) x_k
 have r_k:((w.alloc (.cells #[.bool x_g,.slice x_o x_n x_c,.int .i64 x_e] 26)).alloc (.cells #[.int .i64 0,.int .i64 0] 23)).heap[w.heap.size+1]?=some (.cells #[.int .i64 0,.int .i64 0] 23):=av (.cells #[.int .i64 0,.int .i64 0] 23) (by simp only[ak])
 have hb:=ab hb (ae (w.alloc (.cells #[.bool x_g,.slice x_o x_n x_c,.int .i64 x_e] 26)) (.cells #[.int .i64 0,.int .i64 0] 23))
 have f_x0:=aa x_k 0 rfl
 have f_x1:=aa x_k 1 rfl
 have f_x2:=aa x_k 2 rfl
 go_wp2_with fail
 clear f_x0 f_x1 f_x2
 generalize ((w.alloc (.cells #[.bool x_g,.slice x_o x_n x_c,.int .i64 x_e] 26)).alloc (.cells #[.int .i64 0,.int .i64 0] 23))=x1 at x_k r_k hb ⊢
 refine(T.out _ hb).mono ?_
 rintro _ y2 ⟨rfl,hw⟩
 have x_k:=ac hw x_k
 have r_k:=ac hw r_k
 have hb:=ab hb hw
 have f_r0:=aa r_k 0 rfl
 have z_r0:=af r_k 0
 have d_r0:=aj r_k 0 (.int .i64 X)
 have f_r1:=aa r_k 1 rfl
 have z_r1:=af r_k 1
 have d_r1:=aj d_r0 1 (.int .i64 Y)
 have e_r0:=aa d_r1 0 rfl
 have e_r1:=aa d_r1 1 rfl
 have hbe:=((hb.setCell (p:=⟨w.heap.size+1,0,none⟩) (show w.heap.size<=w.heap.size+1 by omega) (.int .i64 X)).setCell (p:=⟨w.heap.size+1,1,none⟩) (show w.heap.size<=w.heap.size+1 by omega) (.int .i64 Y))
 clear r_k d_r0 d_r1
 go_wp2
 refine bodyPost_ret (v:=.agg #[.int .i64 X,.int .i64 Y]) (by simp[results,results21,go_sem,e_r0,e_r1]) rfl ⟨rfl,hbe⟩
theorem Fz {a b:Int} (na:nn a) (nb:nn b) (v:aK a b=true) (w:World):Calls prog 22 #[.agg #[.int .i64 a,.int .i64 b]] w fun e w'=>e=.returned (.tuple #[.int .i64 (o6 a b),.bool (mJ a b)])∧Below w.heap.size w w':=by
 obtain⟨e1,e2⟩:=Fv na nb v
 have OA:Hid (∀ W,Calls prog 40 #[.int .i64 a] W fun r w'=>∃ v,r=.returned v∧EA w' v (ag a)∧Below W.heap.size W w'):=fun W=>cA na W
 have OB:Hid (∀ W,Calls prog 40 #[.int .i64 b] W fun r w'=>∃ v,r=.returned v∧EA w' v (ag b)∧Below W.heap.size W w'):=fun W=>cA nb W
 have SA:Hid (∀ (u:Value) W,EA W u (ag a)->Calls prog 51 #[u] W fun r w'=>r=.returned (.int .i64 (a5 (ag a)))∧Below W.heap.size W w'):=fun u W hu=>gS hu.ev
 have SB:Hid (∀ (u:Value) W,EA W u (ag b)->Calls prog 51 #[u] W fun r w'=>r=.returned (.int .i64 (a5 (ag b)))∧Below W.heap.size W w'):=fun u W hu=>gS hu.ev
 rw[e2,e1]
 generalize ag a=A at *
 generalize ag b=B at *
 generalize a5 A=sa at *
 generalize a5 B=sb at *
 clear e1 e2 v na nb
 by_cases h1:0<sa
 ·rw[decide_eq_true h1]
  simp only[Bool.true_or,if_true]
  have hb:=ap w
  go_enter func22,ntmps22
  have s_k:(w.alloc (.cells #[.int .i64 a,.int .i64 b] 23)).heap[w.heap.size]?=some (.cells #[.int .i64 a,.int .i64 b] 23):=av (.cells #[.int .i64 a,.int .i64 b] 23) (by simp only[ak])
  have hb:=ab hb (ae w (.cells #[.int .i64 a,.int .i64 b] 23))
  have f_s0:=aa s_k 0 rfl
  have f_s1:=aa s_k 1 rfl
  go_wp2_with fail
  clear f_s0 f_s1
  generalize (w.alloc (.cells #[.int .i64 a,.int .i64 b] 23))=x1 at s_k hb ⊢
  refine(OA.out _).mono ?_
  rintro _ y2 ⟨z1,rfl,E1,hw⟩
  have s_k:=ac hw s_k
  have hb:=ab hb hw
  go_wp2_with fail
  refine(SA.out _ _ E1).mono ?_
  rintro _ y3 ⟨rfl,hw⟩
  have s_k:=ac hw s_k
  have hb:=ab hb hw
  have f_s0:=aa s_k 0 rfl
  have f_s1:=aa s_k 1 rfl
  go_wp2_with fail
  clear f_s0 f_s1
  refine(OB.out _).mono ?_
  rintro _ y4 ⟨z2,rfl,E2,hw⟩
  have s_k:=ac hw s_k
  have hb:=ab hb hw
  go_wp2_with fail
  refine(SB.out _ _ E2).mono ?_
  rintro _ y5 ⟨rfl,hw⟩
  have s_k:=ac hw s_k
  have hb:=ab hb hw
  go_wp2
  refine bodyPost_ret (v:=.tuple #[.int .i64 sa,.bool true]) (by simp[results,results22,go_sem]) rfl ⟨rfl,hb⟩
 ·rw[decide_eq_false h1]
  by_cases h2:sb<0
  ·rw[decide_eq_true h2]
   simp only[Bool.true_or,Bool.false_or,if_true]
   have hb:=ap w
   go_enter func22,ntmps22
   have s_k:(w.alloc (.cells #[.int .i64 a,.int .i64 b] 23)).heap[w.heap.size]?=some (.cells #[.int .i64 a,.int .i64 b] 23):=av (.cells #[.int .i64 a,.int .i64 b] 23) (by simp only[ak])
   have hb:=ab hb (ae w (.cells #[.int .i64 a,.int .i64 b] 23))
   have f_s0:=aa s_k 0 rfl
   have f_s1:=aa s_k 1 rfl
   go_wp2_with fail
   clear f_s0 f_s1
   generalize (w.alloc (.cells #[.int .i64 a,.int .i64 b] 23))=x1 at s_k hb ⊢
   refine(OA.out _).mono ?_
   rintro _ y2 ⟨z1,rfl,E1,hw⟩
   have s_k:=ac hw s_k
   have hb:=ab hb hw
   go_wp2_with fail
   refine(SA.out _ _ E1).mono ?_
   rintro _ y3 ⟨rfl,hw⟩
   have s_k:=ac hw s_k
   have hb:=ab hb hw
   have f_s0:=aa s_k 0 rfl
   have f_s1:=aa s_k 1 rfl
   go_wp2_with fail
   clear f_s0 f_s1
   refine(OB.out _).mono ?_
   rintro _ y4 ⟨z2,rfl,E2,hw⟩
   have s_k:=ac hw s_k
   have hb:=ab hb hw
   go_wp2_with fail
   refine(SB.out _ _ E2).mono ?_
   rintro _ y5 ⟨rfl,hw⟩
   have s_k:=ac hw s_k
   have hb:=ab hb hw
   go_wp2
   refine bodyPost_ret (v:=.tuple #[.int .i64 sa,.bool true]) (by simp[results,results22,go_sem]) rfl ⟨rfl,hb⟩
  ·rw[decide_eq_false h2]
   by_cases h3:sa=0
   ·by_cases h4:sb=0
    ·rw[decide_eq_true h3,decide_eq_true h4]
     simp only[Bool.false_or,Bool.and_true,if_true]
     have h3':(sa == 0)=true:=by simp;exact h3
     have h4':(sb == 0)=true:=by simp;exact h4
     clear h3 h4
     have hb:=ap w
     go_enter func22,ntmps22
     have s_k:(w.alloc (.cells #[.int .i64 a,.int .i64 b] 23)).heap[w.heap.size]?=some (.cells #[.int .i64 a,.int .i64 b] 23):=av (.cells #[.int .i64 a,.int .i64 b] 23) (by simp only[ak])
     have hb:=ab hb (ae w (.cells #[.int .i64 a,.int .i64 b] 23))
     have f_s0:=aa s_k 0 rfl
     have f_s1:=aa s_k 1 rfl
     go_wp2_with fail
     clear f_s0 f_s1
     generalize (w.alloc (.cells #[.int .i64 a,.int .i64 b] 23))=x1 at s_k hb ⊢
     refine(OA.out _).mono ?_
     rintro _ y2 ⟨z1,rfl,E1,hw⟩
     have s_k:=ac hw s_k
     have hb:=ab hb hw
     go_wp2_with fail
     refine(SA.out _ _ E1).mono ?_
     rintro _ y3 ⟨rfl,hw⟩
     have s_k:=ac hw s_k
     have hb:=ab hb hw
     have f_s0:=aa s_k 0 rfl
     have f_s1:=aa s_k 1 rfl
     go_wp2_with fail
     clear f_s0 f_s1
     refine(OB.out _).mono ?_
     rintro _ y4 ⟨z2,rfl,E2,hw⟩
     have s_k:=ac hw s_k
     have hb:=ab hb hw
     go_wp2_with fail
     refine(SB.out _ _ E2).mono ?_
     rintro _ y5 ⟨rfl,hw⟩
     have s_k:=ac hw s_k
     have hb:=ab hb hw
     go_wp2
     refine bodyPost_ret (v:=.tuple #[.int .i64 sa,.bool true]) (by simp[results,results22,go_sem]) rfl ⟨rfl,hb⟩
    ·rw[decide_eq_false h4]
     simp only[Bool.false_or,Bool.and_false,Bool.false_eq_true,if_false]
     have h3':(sa == 0)=true:=by simp;exact h3
     have h4':(sb == 0)=false:=by simp;exact h4
     clear h3 h4
     have hb:=ap w
     go_enter func22,ntmps22
     have s_k:(w.alloc (.cells #[.int .i64 a,.int .i64 b] 23)).heap[w.heap.size]?=some (.cells #[.int .i64 a,.int .i64 b] 23):=av (.cells #[.int .i64 a,.int .i64 b] 23) (by simp only[ak])
     have hb:=ab hb (ae w (.cells #[.int .i64 a,.int .i64 b] 23))
     have f_s0:=aa s_k 0 rfl
     have f_s1:=aa s_k 1 rfl
     go_wp2_with fail
     clear f_s0 f_s1
     generalize (w.alloc (.cells #[.int .i64 a,.int .i64 b] 23))=x1 at s_k hb ⊢
     refine(OA.out _).mono ?_
     rintro _ y2 ⟨z1,rfl,E1,hw⟩
     have s_k:=ac hw s_k
     have hb:=ab hb hw
     go_wp2_with fail
     refine(SA.out _ _ E1).mono ?_
     rintro _ y3 ⟨rfl,hw⟩
     have s_k:=ac hw s_k
     have hb:=ab hb hw
     have f_s0:=aa s_k 0 rfl
     have f_s1:=aa s_k 1 rfl
     go_wp2_with fail
     clear f_s0 f_s1
     refine(OB.out _).mono ?_
     rintro _ y4 ⟨z2,rfl,E2,hw⟩
     have s_k:=ac hw s_k
     have hb:=ab hb hw
     go_wp2_with fail
     refine(SB.out _ _ E2).mono ?_
     rintro _ y5 ⟨rfl,hw⟩
     have s_k:=ac hw s_k
     have hb:=ab hb hw
     go_wp2
     refine bodyPost_ret (v:=.tuple #[.int .i64 0,.bool false]) (by simp[results,results22,go_sem]) rfl ⟨rfl,hb⟩
   ·rw[decide_eq_false h3]
    simp only[Bool.false_or,Bool.false_and,Bool.false_eq_true,if_false]
    have h3':(sa == 0)=false:=by simp;exact h3
    clear h3
    have hb:=ap w
    go_enter func22,ntmps22
    have s_k:(w.alloc (.cells #[.int .i64 a,.int .i64 b] 23)).heap[w.heap.size]?=some (.cells #[.int .i64 a,.int .i64 b] 23):=av (.cells #[.int .i64 a,.int .i64 b] 23) (by simp only[ak])
    have hb:=ab hb (ae w (.cells #[.int .i64 a,.int .i64 b] 23))
    have f_s0:=aa s_k 0 rfl
    have f_s1:=aa s_k 1 rfl
    go_wp2_with fail
    clear f_s0 f_s1
    generalize (w.alloc (.cells #[.int .i64 a,.int .i64 b] 23))=x1 at s_k hb ⊢
    refine(OA.out _).mono ?_
    rintro _ y2 ⟨z1,rfl,E1,hw⟩
    have s_k:=ac hw s_k
    have hb:=ab hb hw
    go_wp2_with fail
    refine(SA.out _ _ E1).mono ?_
    rintro _ y3 ⟨rfl,hw⟩
    have s_k:=ac hw s_k
    have hb:=ab hb hw
    have f_s0:=aa s_k 0 rfl
    have f_s1:=aa s_k 1 rfl
    go_wp2_with fail
    clear f_s0 f_s1
    refine(OB.out _).mono ?_
    rintro _ y4 ⟨z2,rfl,E2,hw⟩
    have s_k:=ac hw s_k
    have hb:=ab hb hw
    go_wp2_with fail
    refine(SB.out _ _ E2).mono ?_
    rintro _ y5 ⟨rfl,hw⟩
    have s_k:=ac hw s_k
    have hb:=ab hb hw
    go_wp2
    refine bodyPost_ret (v:=.tuple #[.int .i64 0,.bool false]) (by simp[results,results22,go_sem]) rfl ⟨rfl,hb⟩
theorem Eo {W0:World} {A0 A1 A2 A3:En} {g0:Bool} {o0:Option Addr} {n0 c0:Nat} {e0:Int} {g1:Bool} {o1:Option Addr} {n1 c1:Nat} {e1:Int} {g2:Bool} {o2:Option Addr} {n2 c2:Nat} {e2:Int} {g3:Bool} {o3:Option Addr} {n3 c3:Nat} {e3:Int} (d0:bH 0 W0 A0.v (.agg #[.bool g0,.slice o0 n0 c0,.int .i64 e0])) (d1:bH 0 W0 A1.v (.agg #[.bool g1,.slice o1 n1 c1,.int .i64 e1])) (d2:bH 0 W0 A2.v (.agg #[.bool g2,.slice o2 n2 c2,.int .i64 e2])) (d3:bH 0 W0 A3.v (.agg #[.bool g3,.slice o3 n3 c3,.int .i64 e3])) {K:Nat} (hK:K<=28000) (b0:Bd K A0.v) (b1:Bd K A1.v) (b2:Bd K A2.v) (b3:Bd K A3.v) (k0:A0.ok) (k1:A1.ok) (k2:A2.ok) (k3:A3.ok) :
    Calls prog 54 #[.slice (some ⟨W0.heap.size,0,none⟩) 4 4] (W0.alloc (.cells #[.int .i64 A0.i,.bool g0,.slice o0 n0 c0,.int .i64 e0,.int .i64 A1.i,.bool g1,.slice o1 n1 c1,.int .i64 e1,.int .i64 A2.i,.bool g2,.slice o2 n2 c2,.int .i64 e2,.int .i64 A3.i,.bool g3,.slice o3 n3 c3,.int .i64 e3] 68)) fun x w'=>∃ v u,x=.returned (.tuple #[v,u])∧EA w' v (aO (aO (aO A0 A1) A2) A3)∧EA w' u (aW (aW (aW A0 A1) A2) A3)∧Below (W0.alloc (.cells #[.int .i64 A0.i,.bool g0,.slice o0 n0 c0,.int .i64 e0,.int .i64 A1.i,.bool g1,.slice o1 n1 c1,.int .i64 e1,.int .i64 A2.i,.bool g2,.slice o2 n2 c2,.int .i64 e2,.int .i64 A3.i,.bool g3,.slice o3 n3 c3,.int .i64 e3] 68)).heap.size (W0.alloc (.cells #[.int .i64 A0.i,.bool g0,.slice o0 n0 c0,.int .i64 e0,.int .i64 A1.i,.bool g1,.slice o1 n1 c1,.int .i64 e1,.int .i64 A2.i,.bool g2,.slice o2 n2 c2,.int .i64 e2,.int .i64 A3.i,.bool g3,.slice o3 n3 c3,.int .i64 e3] 68)) w':=by
  have hb:=ae W0 (.cells #[.int .i64 A0.i,.bool g0,.slice o0 n0 c0,.int .i64 e0,.int .i64 A1.i,.bool g1,.slice o1 n1 c1,.int .i64 e1,.int .i64 A2.i,.bool g2,.slice o2 n2 c2,.int .i64 e2,.int .i64 A3.i,.bool g3,.slice o3 n3 c3,.int .i64 e3] 68)
  have hk0:=aB W0 (.cells #[.int .i64 A0.i,.bool g0,.slice o0 n0 c0,.int .i64 e0,.int .i64 A1.i,.bool g1,.slice o1 n1 c1,.int .i64 e1,.int .i64 A2.i,.bool g2,.slice o2 n2 c2,.int .i64 e2,.int .i64 A3.i,.bool g3,.slice o3 n3 c3,.int .i64 e3] 68)
  have hs:W0.heap.size<(W0.alloc (.cells #[.int .i64 A0.i,.bool g0,.slice o0 n0 c0,.int .i64 e0,.int .i64 A1.i,.bool g1,.slice o1 n1 c1,.int .i64 e1,.int .i64 A2.i,.bool g2,.slice o2 n2 c2,.int .i64 e2,.int .i64 A3.i,.bool g3,.slice o3 n3 c3,.int .i64 e3] 68)).heap.size:=by rw[ak];omega
  have hE:lT (W0.alloc (.cells #[.int .i64 A0.i,.bool g0,.slice o0 n0 c0,.int .i64 e0,.int .i64 A1.i,.bool g1,.slice o1 n1 c1,.int .i64 e1,.int .i64 A2.i,.bool g2,.slice o2 n2 c2,.int .i64 e2,.int .i64 A3.i,.bool g3,.slice o3 n3 c3,.int .i64 e3] 68)) W0.heap.size 0 4 (fun k=>match k with | 0=>(⟨A0.i,g0,o0,n0,c0,e0⟩:fS) | 1=>(⟨A1.i,g1,o1,n1,c1,e1⟩:fS) | 2=>(⟨A2.i,g2,o2,n2,c2,e2⟩:fS) | _=>(⟨A3.i,g3,o3,n3,c3,e3⟩:fS)) (fun k=>match k with | 0=>A0 | 1=>A1 | 2=>A2 | _=>A3):=⟨hs,fun k hk=>match k,hk with
    | 0,_=>⟨aa hk0 0 rfl,aa hk0 1 rfl,aa hk0 2 rfl,aa hk0 3 rfl⟩
    | 1,_=>⟨aa hk0 4 rfl,aa hk0 5 rfl,aa hk0 6 rfl,aa hk0 7 rfl⟩
    | 2,_=>⟨aa hk0 8 rfl,aa hk0 9 rfl,aa hk0 10 rfl,aa hk0 11 rfl⟩
    | 3,_=>⟨aa hk0 12 rfl,aa hk0 13 rfl,aa hk0 14 rfl,aa hk0 15 rfl⟩,fun k hk=>match k,hk with
    | 0,_=>⟨_,_,_,_,_,rfl,d0.keeps hb⟩
    | 1,_=>⟨_,_,_,_,_,rfl,d1.keeps hb⟩
    | 2,_=>⟨_,_,_,_,_,rfl,d2.keeps hb⟩
    | 3,_=>⟨_,_,_,_,_,rfl,d3.keeps hb⟩⟩
  exact m7 hE (by omega) (by omega) (by omega) hK (fun k hk=>match k,hk with
    | 0,_=>b0
    | 1,_=>b1
    | 2,_=>b2
    | 3,_=>b3) (fun k hk=>match k,hk with
    | 0,_=>k0
    | 1,_=>k1
    | 2,_=>k2
    | 3,_=>k3)
theorem uC {p q u v g o:Nat} {x0 x1 x2 x3 x4 x5 x6 x7 x8 x9 x10 x11 x12 x13 x14 x15 val:Value} {W:World} (hp:p≠g) (hq:q≠g) (hu:u≠g) (hv:v≠g) (h:W.cell? ⟨p,0,none⟩=some x0∧W.cell? ⟨p,1,none⟩=some x1∧W.cell? ⟨p,2,none⟩=some x2∧W.cell? ⟨p,3,none⟩=some x3∧W.cell? ⟨q,0,none⟩=some x4∧W.cell? ⟨q,1,none⟩=some x5∧W.cell? ⟨q,2,none⟩=some x6∧W.cell? ⟨q,3,none⟩=some x7∧W.cell? ⟨u,0,none⟩=some x8∧W.cell? ⟨u,1,none⟩=some x9∧W.cell? ⟨u,2,none⟩=some x10∧W.cell? ⟨u,3,none⟩=some x11∧W.cell? ⟨v,0,none⟩=some x12∧W.cell? ⟨v,1,none⟩=some x13∧W.cell? ⟨v,2,none⟩=some x14∧W.cell? ⟨v,3,none⟩=some x15) :
  (W.setCell ⟨g,o,none⟩ val).cell? ⟨p,0,none⟩=some x0∧(W.setCell ⟨g,o,none⟩ val).cell? ⟨p,1,none⟩=some x1∧(W.setCell ⟨g,o,none⟩ val).cell? ⟨p,2,none⟩=some x2∧(W.setCell ⟨g,o,none⟩ val).cell? ⟨p,3,none⟩=some x3∧(W.setCell ⟨g,o,none⟩ val).cell? ⟨q,0,none⟩=some x4∧(W.setCell ⟨g,o,none⟩ val).cell? ⟨q,1,none⟩=some x5∧(W.setCell ⟨g,o,none⟩ val).cell? ⟨q,2,none⟩=some x6∧(W.setCell ⟨g,o,none⟩ val).cell? ⟨q,3,none⟩=some x7∧(W.setCell ⟨g,o,none⟩ val).cell? ⟨u,0,none⟩=some x8∧(W.setCell ⟨g,o,none⟩ val).cell? ⟨u,1,none⟩=some x9∧(W.setCell ⟨g,o,none⟩ val).cell? ⟨u,2,none⟩=some x10∧(W.setCell ⟨g,o,none⟩ val).cell? ⟨u,3,none⟩=some x11∧(W.setCell ⟨g,o,none⟩ val).cell? ⟨v,0,none⟩=some x12∧(W.setCell ⟨g,o,none⟩ val).cell? ⟨v,1,none⟩=some x13∧(W.setCell ⟨g,o,none⟩ val).cell? ⟨v,2,none⟩=some x14∧(W.setCell ⟨g,o,none⟩ val).cell? ⟨v,3,none⟩=some x15:=by
 have hp':∀ k:Nat,(W.setCell ⟨g,o,none⟩ val).cell? ⟨p,k,none⟩=W.cell? ⟨p,k,none⟩:=fun k=>World.cell?_setCell_far _ _ _ _ (Ne.symm hp)
 have hq':∀ k:Nat,(W.setCell ⟨g,o,none⟩ val).cell? ⟨q,k,none⟩=W.cell? ⟨q,k,none⟩:=fun k=>World.cell?_setCell_far _ _ _ _ (Ne.symm hq)
 have hu':∀ k:Nat,(W.setCell ⟨g,o,none⟩ val).cell? ⟨u,k,none⟩=W.cell? ⟨u,k,none⟩:=fun k=>World.cell?_setCell_far _ _ _ _ (Ne.symm hu)
 have hv':∀ k:Nat,(W.setCell ⟨g,o,none⟩ val).cell? ⟨v,k,none⟩=W.cell? ⟨v,k,none⟩:=fun k=>World.cell?_setCell_far _ _ _ _ (Ne.symm hv)
 rw[hp',hp',hp',hp',hq',hq',hq',hq',hu',hu',hu',hu',hv',hv',hv',hv']
 exact h
theorem cp {p q:Int} (hp:nn p) (hq:nn q):Bd 8000 (aq (ag p) (ag q)).v:=by
 by_cases i:(ag p).i=0
 ·by_cases j:(ag q).i=0
  ·rw[cY i j]
   have fp:¬ rg p=9218868437227405312:=fun k=>by rw[dS k] at i;exact og k i
   have fq:¬ rg q=9218868437227405312:=fun k=>by rw[dS k] at j;exact og k j
   rw[dG fp,dG fq]
   obtain⟨_,_,_,_,hC⟩:=jn hp.1 hq.1 (cX hp fp) (cX hq fq)
   show Bd 8000 (dW (aF p) (aF q))
   rw[<- ut hC]
   exact(lS p).mul (lS q) hC (by omega)
  ·rw[fG j];exact vU.up (by omega) (by omega)
 ·rw[dw i];exact vU.up (by omega) (by omega)
theorem Cm (a b c d:En):(∃ x y,(x=a∨x=b)∧(y=c∨y=d)∧eF a b c d=aq x y)∧(∃ x y,(x=a∨x=b)∧(y=c∨y=d)∧eG a b c d=aq x y):=by
 refine⟨?_,?_⟩
 ·unfold eF
  rcases (cI (aO (aO (aq a c) (aq a d)) (aq b c)) (aq b d)).2.2 with q|q
  ·rw[q]
   rcases (cI (aO (aq a c) (aq a d)) (aq b c)).2.2 with q|q
   ·rw[q]
    rcases (cI (aq a c) (aq a d)).2.2 with q|q
    ·exact⟨a,c,.inl rfl,.inl rfl,q⟩
    ·exact⟨a,d,.inl rfl,.inr rfl,q⟩
   ·exact⟨b,c,.inr rfl,.inl rfl,q⟩
  ·exact⟨b,d,.inr rfl,.inr rfl,q⟩
 ·unfold eG
  rcases (cy (aW (aW (aq a c) (aq a d)) (aq b c)) (aq b d)).2.2 with q|q
  ·rw[q]
   rcases (cy (aW (aq a c) (aq a d)) (aq b c)).2.2 with q|q
   ·rw[q]
    rcases (cy (aq a c) (aq a d)).2.2 with q|q
    ·exact⟨a,c,.inl rfl,.inl rfl,q⟩
    ·exact⟨a,d,.inl rfl,.inr rfl,q⟩
   ·exact⟨b,c,.inr rfl,.inl rfl,q⟩
  ·exact⟨b,d,.inr rfl,.inr rfl,q⟩
theorem AJ {a b c d:Int} (na:nn a) (nb:nn b) (nc:nn c) (nd:nn d):Bd 8000 (eF (ag a) (ag b) (ag c) (ag d)).v∧Bd 8000 (eG (ag a) (ag b) (ag c) (ag d)).v:=by
 obtain⟨⟨x,y,hx,hy,e1⟩,⟨x',y',hx',hy',e2⟩⟩:=Cm (ag a) (ag b) (ag c) (ag d)
 refine⟨?_,?_⟩
 ·rw[e1]
  rcases hx with rfl|rfl<;>rcases hy with rfl|rfl
  ·exact cp na nc
  ·exact cp na nd
  ·exact cp nb nc
  ·exact cp nb nd
 ·rw[e2]
  rcases hx' with rfl|rfl<;>rcases hy' with rfl|rfl
  ·exact cp na nc
  ·exact cp na nd
  ·exact cp nb nc
  ·exact cp nb nd
theorem Cn {a b c d:Int} (na:nn a) (nb:nn b) (nc:nn c) (nd:nn d) (w:World) :
    Calls prog 33 #[.agg #[.int .i64 a,.int .i64 b],.agg #[.int .i64 c,.int .i64 d]] w fun e w'=>e=.returned (.agg #[.int .i64 (a6 (eF (ag a) (ag b) (ag c) (ag d))),.int .i64 (a7 (eG (ag a) (ag b) (ag c) (ag d)))])∧Below w.heap.size w w':=by
  have T:Hid (∀ (u v:Value) W,EA W u (eF (ag a) (ag b) (ag c) (ag d))->EA W v (eG (ag a) (ag b) (ag c) (ag d))->Calls prog 49 #[u,v] W fun r w'=>r=.returned (.agg #[.int .i64 (a6 (eF (ag a) (ag b) (ag c) (ag d))),.int .i64 (a7 (eG (ag a) (ag b) (ag c) (ag d)))])∧Below W.heap.size W w'):=fun u v W hu hv=>gT hu.ev hv.ev (fun _=>(AJ na nb nc nd).1.ok (by omega)) (fun _=>(AJ na nb nc nd).2.ok (by omega))
  have b1:=cp na nc
  have b2:=cp na nd
  have b3:=cp nb nc
  have b4:=cp nb nd
  have k1:=dP (aM a) (aM c)
  have k2:=dP (aM a) (aM d)
  have k3:=dP (aM b) (aM c)
  have k4:=dP (aM b) (aM d)
  unfold eF eG at T
  unfold eF eG
  generalize a6 (aO (aO (aO (aq (ag a) (ag c)) (aq (ag a) (ag d))) (aq (ag b) (ag c))) (aq (ag b) (ag d)))=X at *
  generalize a7 (aW (aW (aW (aq (ag a) (ag c)) (aq (ag a) (ag d))) (aq (ag b) (ag c))) (aq (ag b) (ag d)))=Y at *
  have hb:=ap w
  go_enter func33,ntmps33
  have s_k:(w.alloc (.cells #[.int .i64 a,.int .i64 b] 23)).heap[w.heap.size]?=some (.cells #[.int .i64 a,.int .i64 b] 23):=av (.cells #[.int .i64 a,.int .i64 b] 23) (by simp only[ak])
  have hb:=ab hb (ae w (.cells #[.int .i64 a,.int .i64 b] 23))
  have s_k:=ah (.cells #[.int .i64 c,.int .i64 d] 23) s_k
  have t_k:((w.alloc (.cells #[.int .i64 a,.int .i64 b] 23)).alloc (.cells #[.int .i64 c,.int .i64 d] 23)).heap[w.heap.size+1]?=some (.cells #[.int .i64 c,.int .i64 d] 23):=av (.cells #[.int .i64 c,.int .i64 d] 23) (by simp only[ak])
  have hb:=ab hb (ae (w.alloc (.cells #[.int .i64 a,.int .i64 b] 23)) (.cells #[.int .i64 c,.int .i64 d] 23))
  have s_k:=ah (.cells #[.int .i64 0,.int .i64 0] 23) s_k
  have t_k:=ah (.cells #[.int .i64 0,.int .i64 0] 23) t_k
  have r_k:(((w.alloc (.cells #[.int .i64 a,.int .i64 b] 23)).alloc (.cells #[.int .i64 c,.int .i64 d] 23)).alloc (.cells #[.int .i64 0,.int .i64 0] 23)).heap[w.heap.size+1+1]?=some (.cells #[.int .i64 0,.int .i64 0] 23):=av (.cells #[.int .i64 0,.int .i64 0] 23) (by simp only[ak])
  have hb:=ab hb (ae ((w.alloc (.cells #[.int .i64 a,.int .i64 b] 23)).alloc (.cells #[.int .i64 c,.int .i64 d] 23)) (.cells #[.int .i64 0,.int .i64 0] 23))
  have f_s0:=aa s_k 0 rfl
  have f_s1:=aa s_k 1 rfl
  go_wp2_with fail
  clear f_s0 f_s1
  generalize (((w.alloc (.cells #[.int .i64 a,.int .i64 b] 23)).alloc (.cells #[.int .i64 c,.int .i64 d] 23)).alloc (.cells #[.int .i64 0,.int .i64 0] 23))=x1 at s_k t_k r_k hb ⊢
  refine(cA na _).mono ?_
  rintro _ y2 ⟨z,rfl,E,hw⟩
  obtain⟨p_g,p_o,p_n,p_c,p_e,rfl,p_D⟩:=E
  have s_k:=ac hw s_k
  have t_k:=ac hw t_k
  have r_k:=ac hw r_k
  have hb:=ab hb hw
  have s_k:=ah (.cells #[.int .i64 (ag a).i,.bool p_g,.slice p_o p_n p_c,.int .i64 p_e] 68) s_k
  have t_k:=ah (.cells #[.int .i64 (ag a).i,.bool p_g,.slice p_o p_n p_c,.int .i64 p_e] 68) t_k
  have r_k:=ah (.cells #[.int .i64 (ag a).i,.bool p_g,.slice p_o p_n p_c,.int .i64 p_e] 68) r_k
  have p_k:(y2.alloc (.cells #[.int .i64 (ag a).i,.bool p_g,.slice p_o p_n p_c,.int .i64 p_e] 68)).heap[y2.heap.size]?=some (.cells #[.int .i64 (ag a).i,.bool p_g,.slice p_o p_n p_c,.int .i64 p_e] 68):=av (.cells #[.int .i64 (ag a).i,.bool p_g,.slice p_o p_n p_c,.int .i64 p_e] 68) (by simp only[ak])
  have p_D:=p_D.keeps (ae y2 (.cells #[.int .i64 (ag a).i,.bool p_g,.slice p_o p_n p_c,.int .i64 p_e] 68))
  have hb:=ab hb (ae y2 (.cells #[.int .i64 (ag a).i,.bool p_g,.slice p_o p_n p_c,.int .i64 p_e] 68))
  have f_s0:=aa s_k 0 rfl
  have f_s1:=aa s_k 1 rfl
  go_wp2_with fail
  clear f_s0 f_s1
  generalize (y2.alloc (.cells #[.int .i64 (ag a).i,.bool p_g,.slice p_o p_n p_c,.int .i64 p_e] 68))=x3 at s_k t_k r_k p_k p_D hb ⊢
  refine(cA nb _).mono ?_
  rintro _ y4 ⟨z,rfl,E,hw⟩
  obtain⟨q_g,q_o,q_n,q_c,q_e,rfl,q_D⟩:=E
  have s_k:=ac hw s_k
  have t_k:=ac hw t_k
  have r_k:=ac hw r_k
  have p_k:=ac hw p_k
  have p_D:=p_D.keeps hw
  have hb:=ab hb hw
  have s_k:=ah (.cells #[.int .i64 (ag b).i,.bool q_g,.slice q_o q_n q_c,.int .i64 q_e] 68) s_k
  have t_k:=ah (.cells #[.int .i64 (ag b).i,.bool q_g,.slice q_o q_n q_c,.int .i64 q_e] 68) t_k
  have r_k:=ah (.cells #[.int .i64 (ag b).i,.bool q_g,.slice q_o q_n q_c,.int .i64 q_e] 68) r_k
  have p_k:=ah (.cells #[.int .i64 (ag b).i,.bool q_g,.slice q_o q_n q_c,.int .i64 q_e] 68) p_k
  have q_k:(y4.alloc (.cells #[.int .i64 (ag b).i,.bool q_g,.slice q_o q_n q_c,.int .i64 q_e] 68)).heap[y4.heap.size]?=some (.cells #[.int .i64 (ag b).i,.bool q_g,.slice q_o q_n q_c,.int .i64 q_e] 68):=av (.cells #[.int .i64 (ag b).i,.bool q_g,.slice q_o q_n q_c,.int .i64 q_e] 68) (by simp only[ak])
  have p_D:=p_D.keeps (ae y4 (.cells #[.int .i64 (ag b).i,.bool q_g,.slice q_o q_n q_c,.int .i64 q_e] 68))
  have q_D:=q_D.keeps (ae y4 (.cells #[.int .i64 (ag b).i,.bool q_g,.slice q_o q_n q_c,.int .i64 q_e] 68))
  have hb:=ab hb (ae y4 (.cells #[.int .i64 (ag b).i,.bool q_g,.slice q_o q_n q_c,.int .i64 q_e] 68))
  have f_t0:=aa t_k 0 rfl
  have f_t1:=aa t_k 1 rfl
  go_wp2_with fail
  clear f_t0 f_t1
  generalize (y4.alloc (.cells #[.int .i64 (ag b).i,.bool q_g,.slice q_o q_n q_c,.int .i64 q_e] 68))=x5 at s_k t_k r_k p_k q_k p_D q_D hb ⊢
  refine(cA nc _).mono ?_
  rintro _ y6 ⟨z,rfl,E,hw⟩
  obtain⟨u_g,u_o,u_n,u_c,u_e,rfl,u_D⟩:=E
  have s_k:=ac hw s_k
  have t_k:=ac hw t_k
  have r_k:=ac hw r_k
  have p_k:=ac hw p_k
  have q_k:=ac hw q_k
  have p_D:=p_D.keeps hw
  have q_D:=q_D.keeps hw
  have hb:=ab hb hw
  have s_k:=ah (.cells #[.int .i64 (ag c).i,.bool u_g,.slice u_o u_n u_c,.int .i64 u_e] 68) s_k
  have t_k:=ah (.cells #[.int .i64 (ag c).i,.bool u_g,.slice u_o u_n u_c,.int .i64 u_e] 68) t_k
  have r_k:=ah (.cells #[.int .i64 (ag c).i,.bool u_g,.slice u_o u_n u_c,.int .i64 u_e] 68) r_k
  have p_k:=ah (.cells #[.int .i64 (ag c).i,.bool u_g,.slice u_o u_n u_c,.int .i64 u_e] 68) p_k
  have q_k:=ah (.cells #[.int .i64 (ag c).i,.bool u_g,.slice u_o u_n u_c,.int .i64 u_e] 68) q_k
  have u_k:(y6.alloc (.cells #[.int .i64 (ag c).i,.bool u_g,.slice u_o u_n u_c,.int .i64 u_e] 68)).heap[y6.heap.size]?=some (.cells #[.int .i64 (ag c).i,.bool u_g,.slice u_o u_n u_c,.int .i64 u_e] 68):=av (.cells #[.int .i64 (ag c).i,.bool u_g,.slice u_o u_n u_c,.int .i64 u_e] 68) (by simp only[ak])
  have p_D:=p_D.keeps (ae y6 (.cells #[.int .i64 (ag c).i,.bool u_g,.slice u_o u_n u_c,.int .i64 u_e] 68))
  have q_D:=q_D.keeps (ae y6 (.cells #[.int .i64 (ag c).i,.bool u_g,.slice u_o u_n u_c,.int .i64 u_e] 68))
  have u_D:=u_D.keeps (ae y6 (.cells #[.int .i64 (ag c).i,.bool u_g,.slice u_o u_n u_c,.int .i64 u_e] 68))
  have hb:=ab hb (ae y6 (.cells #[.int .i64 (ag c).i,.bool u_g,.slice u_o u_n u_c,.int .i64 u_e] 68))
  have f_t0:=aa t_k 0 rfl
  have f_t1:=aa t_k 1 rfl
  go_wp2_with fail
  clear f_t0 f_t1
  generalize (y6.alloc (.cells #[.int .i64 (ag c).i,.bool u_g,.slice u_o u_n u_c,.int .i64 u_e] 68))=x7 at s_k t_k r_k p_k q_k u_k p_D q_D u_D hb ⊢
  refine(cA nd _).mono ?_
  rintro _ y8 ⟨z,rfl,E,hw⟩
  obtain⟨v_g,v_o,v_n,v_c,v_e,rfl,v_D⟩:=E
  have s_k:=ac hw s_k
  have t_k:=ac hw t_k
  have r_k:=ac hw r_k
  have p_k:=ac hw p_k
  have q_k:=ac hw q_k
  have u_k:=ac hw u_k
  have p_D:=p_D.keeps hw
  have q_D:=q_D.keeps hw
  have u_D:=u_D.keeps hw
  have hb:=ab hb hw
  have s_k:=ah (.cells #[.int .i64 (ag d).i,.bool v_g,.slice v_o v_n v_c,.int .i64 v_e] 68) s_k
  have t_k:=ah (.cells #[.int .i64 (ag d).i,.bool v_g,.slice v_o v_n v_c,.int .i64 v_e] 68) t_k
  have r_k:=ah (.cells #[.int .i64 (ag d).i,.bool v_g,.slice v_o v_n v_c,.int .i64 v_e] 68) r_k
  have p_k:=ah (.cells #[.int .i64 (ag d).i,.bool v_g,.slice v_o v_n v_c,.int .i64 v_e] 68) p_k
  have q_k:=ah (.cells #[.int .i64 (ag d).i,.bool v_g,.slice v_o v_n v_c,.int .i64 v_e] 68) q_k
  have u_k:=ah (.cells #[.int .i64 (ag d).i,.bool v_g,.slice v_o v_n v_c,.int .i64 v_e] 68) u_k
  have v_k:(y8.alloc (.cells #[.int .i64 (ag d).i,.bool v_g,.slice v_o v_n v_c,.int .i64 v_e] 68)).heap[y8.heap.size]?=some (.cells #[.int .i64 (ag d).i,.bool v_g,.slice v_o v_n v_c,.int .i64 v_e] 68):=av (.cells #[.int .i64 (ag d).i,.bool v_g,.slice v_o v_n v_c,.int .i64 v_e] 68) (by simp only[ak])
  have p_D:=p_D.keeps (ae y8 (.cells #[.int .i64 (ag d).i,.bool v_g,.slice v_o v_n v_c,.int .i64 v_e] 68))
  have q_D:=q_D.keeps (ae y8 (.cells #[.int .i64 (ag d).i,.bool v_g,.slice v_o v_n v_c,.int .i64 v_e] 68))
  have u_D:=u_D.keeps (ae y8 (.cells #[.int .i64 (ag d).i,.bool v_g,.slice v_o v_n v_c,.int .i64 v_e] 68))
  have v_D:=v_D.keeps (ae y8 (.cells #[.int .i64 (ag d).i,.bool v_g,.slice v_o v_n v_c,.int .i64 v_e] 68))
  have hb:=ab hb (ae y8 (.cells #[.int .i64 (ag d).i,.bool v_g,.slice v_o v_n v_c,.int .i64 v_e] 68))
  go_wp2_with fail
  generalize (y8.alloc (.cells #[.int .i64 (ag d).i,.bool v_g,.slice v_o v_n v_c,.int .i64 v_e] 68))=x9 at s_k t_k r_k p_k q_k u_k v_k p_D q_D u_D v_D hb ⊢
  have KK:∀ W,Below x9.heap.size x9 W->W.cell? ⟨y2.heap.size,0,none⟩=some (.int .i64 (ag a).i)∧W.cell? ⟨y2.heap.size,1,none⟩=some (.bool p_g)∧W.cell? ⟨y2.heap.size,2,none⟩=some (.slice p_o p_n p_c)∧W.cell? ⟨y2.heap.size,3,none⟩=some (.int .i64 p_e)∧W.cell? ⟨y4.heap.size,0,none⟩=some (.int .i64 (ag b).i)∧W.cell? ⟨y4.heap.size,1,none⟩=some (.bool q_g)∧W.cell? ⟨y4.heap.size,2,none⟩=some (.slice q_o q_n q_c)∧W.cell? ⟨y4.heap.size,3,none⟩=some (.int .i64 q_e)∧W.cell? ⟨y6.heap.size,0,none⟩=some (.int .i64 (ag c).i)∧W.cell? ⟨y6.heap.size,1,none⟩=some (.bool u_g)∧W.cell? ⟨y6.heap.size,2,none⟩=some (.slice u_o u_n u_c)∧W.cell? ⟨y6.heap.size,3,none⟩=some (.int .i64 u_e)∧W.cell? ⟨y8.heap.size,0,none⟩=some (.int .i64 (ag d).i)∧W.cell? ⟨y8.heap.size,1,none⟩=some (.bool v_g)∧W.cell? ⟨y8.heap.size,2,none⟩=some (.slice v_o v_n v_c)∧W.cell? ⟨y8.heap.size,3,none⟩=some (.int .i64 v_e):=fun W hW=>⟨am (aa p_k 0 rfl) hW,am (aa p_k 1 rfl) hW,am (aa p_k 2 rfl) hW,am (aa p_k 3 rfl) hW,am (aa q_k 0 rfl) hW,am (aa q_k 1 rfl) hW,am (aa q_k 2 rfl) hW,am (aa q_k 3 rfl) hW,am (aa u_k 0 rfl) hW,am (aa u_k 1 rfl) hW,am (aa u_k 2 rfl) hW,am (aa u_k 3 rfl) hW,am (aa v_k 0 rfl) hW,am (aa v_k 1 rfl) hW,am (aa v_k 2 rfl) hW,am (aa v_k 3 rfl) hW⟩
  have B0:Below x9.heap.size x9 x9.drew:=(ap _).drew
  have T1:Hid (∀ W,Below x9.heap.size x9 W->Calls prog 53 #[.agg #[.int .i64 (ag a).i,.bool p_g,.slice p_o p_n p_c,.int .i64 p_e],.agg #[.int .i64 (ag c).i,.bool u_g,.slice u_o u_n u_c,.int .i64 u_e]] W fun r w'=>∃ z,r=.returned z∧EA w' z (aq (ag a) (ag c))∧Below W.heap.size W w'):=fun W hW=>fQ ⟨_,_,_,_,_,rfl,p_D.keeps hW⟩ ⟨_,_,_,_,_,rfl,u_D.keeps hW⟩ (aM _) (aM _) (aV _) (aV _)
  have T2:Hid (∀ W,Below x9.heap.size x9 W->Calls prog 53 #[.agg #[.int .i64 (ag a).i,.bool p_g,.slice p_o p_n p_c,.int .i64 p_e],.agg #[.int .i64 (ag d).i,.bool v_g,.slice v_o v_n v_c,.int .i64 v_e]] W fun r w'=>∃ z,r=.returned z∧EA w' z (aq (ag a) (ag d))∧Below W.heap.size W w'):=fun W hW=>fQ ⟨_,_,_,_,_,rfl,p_D.keeps hW⟩ ⟨_,_,_,_,_,rfl,v_D.keeps hW⟩ (aM _) (aM _) (aV _) (aV _)
  have T3:Hid (∀ W,Below x9.heap.size x9 W->Calls prog 53 #[.agg #[.int .i64 (ag b).i,.bool q_g,.slice q_o q_n q_c,.int .i64 q_e],.agg #[.int .i64 (ag c).i,.bool u_g,.slice u_o u_n u_c,.int .i64 u_e]] W fun r w'=>∃ z,r=.returned z∧EA w' z (aq (ag b) (ag c))∧Below W.heap.size W w'):=fun W hW=>fQ ⟨_,_,_,_,_,rfl,q_D.keeps hW⟩ ⟨_,_,_,_,_,rfl,u_D.keeps hW⟩ (aM _) (aM _) (aV _) (aV _)
  have T4:Hid (∀ W,Below x9.heap.size x9 W->Calls prog 53 #[.agg #[.int .i64 (ag b).i,.bool q_g,.slice q_o q_n q_c,.int .i64 q_e],.agg #[.int .i64 (ag d).i,.bool v_g,.slice v_o v_n v_c,.int .i64 v_e]] W fun r w'=>∃ z,r=.returned z∧EA w' z (aq (ag b) (ag d))∧Below W.heap.size W w'):=fun W hW=>fQ ⟨_,_,_,_,_,rfl,q_D.keeps hW⟩ ⟨_,_,_,_,_,rfl,v_D.keeps hW⟩ (aM _) (aM _) (aV _) (aV _)
  generalize aq (ag a) (ag c)=M1 at *
  generalize aq (ag a) (ag d)=M2 at *
  generalize aq (ag b) (ag c)=M3 at *
  generalize aq (ag b) (ag d)=M4 at *
  have n_p:y2.heap.size≠w.heap.size+1+1:=fun h=>by have q:=p_k;rw[h,r_k] at q;simp at q
  have n_q:y4.heap.size≠w.heap.size+1+1:=fun h=>by have q:=q_k;rw[h,r_k] at q;simp at q
  have n_u:y6.heap.size≠w.heap.size+1+1:=fun h=>by have q:=u_k;rw[h,r_k] at q;simp at q
  have n_v:y8.heap.size≠w.heap.size+1+1:=fun h=>by have q:=v_k;rw[h,r_k] at q;simp at q
  go_region_held3 (fun W=>W.cell? ⟨y2.heap.size,0,none⟩=some (.int .i64 (ag a).i)∧W.cell? ⟨y2.heap.size,1,none⟩=some (.bool p_g)∧W.cell? ⟨y2.heap.size,2,none⟩=some (.slice p_o p_n p_c)∧W.cell? ⟨y2.heap.size,3,none⟩=some (.int .i64 p_e)∧W.cell? ⟨y4.heap.size,0,none⟩=some (.int .i64 (ag b).i)∧W.cell? ⟨y4.heap.size,1,none⟩=some (.bool q_g)∧W.cell? ⟨y4.heap.size,2,none⟩=some (.slice q_o q_n q_c)∧W.cell? ⟨y4.heap.size,3,none⟩=some (.int .i64 q_e)∧W.cell? ⟨y6.heap.size,0,none⟩=some (.int .i64 (ag c).i)∧W.cell? ⟨y6.heap.size,1,none⟩=some (.bool u_g)∧W.cell? ⟨y6.heap.size,2,none⟩=some (.slice u_o u_n u_c)∧W.cell? ⟨y6.heap.size,3,none⟩=some (.int .i64 u_e)∧W.cell? ⟨y8.heap.size,0,none⟩=some (.int .i64 (ag d).i)∧W.cell? ⟨y8.heap.size,1,none⟩=some (.bool v_g)∧W.cell? ⟨y8.heap.size,2,none⟩=some (.slice v_o v_n v_c)∧W.cell? ⟨y8.heap.size,3,none⟩=some (.int .i64 v_e))
    (first|assumption|exact KK _ B0|exact KK _ B1|exact KK _ B2|exact KK _ B3|exact KK _ B4|exact KK _ B5|exact KK _ B6|exact KK _ (ab B4 (ae _ _))|(refine uC n_p n_q n_u n_v (uC n_p n_q n_u n_v ?_);exact KK _ B6)|fail)
    (first
      | (go_at_call 49;have _t:=hs5;refine(T.out _ _ _ E5 F5).mono ?_;rintro _ y_6 ⟨rfl,hs6⟩;have B6:=ab B5 hs6;have r_k:=ac B6 r_k;have f_r0:=aa r_k 0 rfl;have f_r1:=aa r_k 1 rfl;have z_r0:=af r_k 0;have z_r1:=af r_k 1)
      | (go_at_call 54;have _t:=hs4;refine(Eo (m1_D.keeps (ab hs2 (ab hs3 hs4))) (m2_D.keeps (ab hs3 hs4)) (m3_D.keeps hs4) m4_D (K:=8000) (by omega) b1 b2 b3 b4 k1 k2 k3 k4).mono ?_;rintro _ y_5 ⟨z5,u5,rfl,E5,F5,hs5⟩;have B5:=ab (ab B4 (ae _ _)) hs5)
      | (go_at_call 53;have _t:=hs3;refine(T4.out _ B3).mono ?_;rintro _ y_4 ⟨z,rfl,⟨m4_g,m4_o,m4_n,m4_c,m4_e,rfl,m4_D⟩,hs4⟩;have B4:=ab B3 hs4)
      | (go_at_call 53;have _t:=hs2;refine(T3.out _ B2).mono ?_;rintro _ y_3 ⟨z,rfl,⟨m3_g,m3_o,m3_n,m3_c,m3_e,rfl,m3_D⟩,hs3⟩;have B3:=ab B2 hs3)
      | (go_at_call 53;have _t:=hs1;refine(T2.out _ B1).mono ?_;rintro _ y_2 ⟨z,rfl,⟨m2_g,m2_o,m2_n,m2_c,m2_e,rfl,m2_D⟩,hs2⟩;have B2:=ab B1 hs2)
      | (go_at_call 53; refine (T1.out _ B0).mono ?_; rintro _ y_1 ⟨z,rfl,⟨m1_g,m1_o,m1_n,m1_c,m1_e,rfl,m1_D⟩,hs1⟩; have B1:=ab B0 hs1))
  have hb:=ab hb B6
  have f_r0:=aa r_k 0 rfl
  have z_r0:=af r_k 0
  have d_r0:=aj r_k 0 (.int .i64 X)
  have f_r1:=aa r_k 1 rfl
  have z_r1:=af r_k 1
  have d_r1:=aj d_r0 1 (.int .i64 Y)
  have e_r0:=aa d_r1 0 rfl
  have e_r1:=aa d_r1 1 rfl
  have hbe:=((hb.setCell (p:=⟨w.heap.size+1+1,0,none⟩) (show w.heap.size<=w.heap.size+1+1 by omega) (.int .i64 X)).setCell (p:=⟨w.heap.size+1+1,1,none⟩) (show w.heap.size<=w.heap.size+1+1 by omega) (.int .i64 Y))
  clear r_k d_r0 d_r1
  go_wp2
  refine bodyPost_ret (v:=.agg #[.int .i64 X,.int .i64 Y]) (by simp[results,results33,go_sem,e_r0,e_r1]) rfl ⟨rfl,hbe⟩
end Go.Proofs.YtkkpppgfoilgmaaGreatDoor
