/-
  plumbref8: minus, plus, times of ends, by their contracts (tools/p8.py)
-/
import Derived.Test.YtkkpppgfoilgmaaGreatDoorPart19
import Derived.Test.YtkkpppgfoilgmaaGreatDoorPart18
import Derived.Test.YtkkpppgfoilgmaaGreatDoorPart17
import Derived.Test.YtkkpppgfoilgmaaGreatDoorPart24
import Derived.Deep.RegionHeld3
set_option maxRecDepth 100000
set_option maxHeartbeats 8000000
set_option linter.unusedVariables false
set_option linter.unusedSimpArgs false
namespace Go.Proofs.YtkkpppgfoilgmaaGreatDoor
open Go Go.Proofs.Tryz Go.RowKit Go.Proofs.YtkkpppgfoilgmaaGreatDoor.M
theorem Ce {B:Nat} {w:World} {V:Int} {g yg:Bool} {so:Option Addr} {sn sc:Nat} {e:Int} (h:bH B w V (.agg #[.bool g,.slice so sn sc,.int .i64 e])) (k:bk w (.agg #[.bool yg,.slice so sn sc,.int .i64 e]) (-V)):bH B w (-V) (.agg #[.bool yg,.slice so sn sc,.int .i64 e]):=by
 obtain⟨ng,s,m,e',h1,hy,hA⟩:=h
 obtain⟨ng2,s2,m2,e2,k1,ky,kN⟩:=k
 simp only[Value.agg.injEq,Array.mk.injEq,List.cons.injEq,Value.bool.injEq,Value.int.injEq,true_and,and_true] at h1 k1
 obtain⟨rfl,rfl,rfl⟩:=h1
 obtain⟨rfl,rfl,rfl⟩:=k1
 have a1:=ry hy
 have a2:=ry ky
 rw[Int.natAbs_neg] at a2
 have hm:m2=m:=Int.eq_of_mul_eq_mul_right (Int.ne_of_gt (bT e)) (a2.trans a1.symm)
 subst hm
 exact⟨_,_,_,_,rfl,ky,hA⟩
theorem Cf {w:World} {x y:Value} {A B:Int} (hx:bH 0 w A x) (hy:bH 0 w B y) {K:Nat} (hK:K<=560000) (bx:Bd K A) (bY:Bd K B):Calls prog 76 #[x,y] w fun r w'=>∃ v,r=.returned v∧bH 0 w' (A+B) v∧Below w.heap.size w w':=by
 refine(Ea hx.num hy.num hK bx bY).mono ?_
 rintro r w' ⟨v,rfl,h⟩
 refine⟨v,rfl,?_,h.1⟩
 rcases h.2 with h1|⟨h1,rfl⟩|⟨h1,rfl⟩
 ·exact h1.dan.lower (Nat.zero_le _)
 ·rw[h1,Int.zero_add];exact hy.keeps h.1
 ·rw[h1,Int.add_zero];exact hx.keeps h.1
theorem Cg {w:World} {x y:Value} {A C:Int} {K:Nat} (hx:bk w x A) (hy:bk w y C) (bA:Bd K A) (bC:Bd K C) (hK:K<=14000) :
  Calls prog 75 #[x,y] w fun r w'=>∃ v,r=.returned v∧bH 0 w' (dW A C) v∧Below w.heap.size w w':=by
 obtain⟨x,rfl,hR,ok,rfl⟩:=hx.open (bA.ok (by omega))
 obtain⟨y,rfl,hR',ok',rfl⟩:=hy.open (bC.ok (by omega))
 refine(xP x y w hR hR' (bG ok) (bG ok')).mono ?_
 rintro r w' ⟨v,rfl,h⟩
 have hC:=tX (x:=x) (y:=y) (by have:=(bG ok).2.2.1;omega) (by have:=(bG ok').2.2.1;omega)
 rw[ut hC] at h
 exact⟨v,rfl,h.dan.lower (Nat.zero_le _),h.below⟩
theorem Ej {p g o:Nat} {x0 x1 x2 x3 u:Value} {W:World} (hg:p≠g) (h:W.cell? ⟨p,0,none⟩=some x0∧W.cell? ⟨p,1,none⟩=some x1∧W.cell? ⟨p,2,none⟩=some x2∧W.cell? ⟨p,3,none⟩=some x3) :
  (W.setCell ⟨g,o,none⟩ u).cell? ⟨p,0,none⟩=some x0∧(W.setCell ⟨g,o,none⟩ u).cell? ⟨p,1,none⟩=some x1∧(W.setCell ⟨g,o,none⟩ u).cell? ⟨p,2,none⟩=some x2∧(W.setCell ⟨g,o,none⟩ u).cell? ⟨p,3,none⟩=some x3:=by
 have hn:∀ k:Nat,(W.setCell ⟨g,o,none⟩ u).cell? ⟨p,k,none⟩=W.cell? ⟨p,k,none⟩:=fun k=>World.cell?_setCell_far _ _ _ _ (Ne.symm hg)
 rw[hn,hn,hn,hn]
 exact h
theorem uA {w:World} {v:Value} {a:En} (h:EA w v a) (ok:a.ok):Calls prog 52 #[v] w fun r w'=>∃ u,r=.returned u∧EA w' u (bK a)∧Below w.heap.size w w':=by
 obtain⟨a_g,a_o,a_n,a_c,a_e,rfl,a_D⟩:=h
 obtain⟨y_g,y_D',CN'⟩:=Ei a_D.num
 have y_D:=Ce a_D y_D'
 have CN:=aA CN'
 have hw64:IntKind.i64.wrap (-a.i)=-a.i:=by
  unfold En.ok at ok
  rcases ok with q|⟨q|q,_⟩<;>(rw[q];decide)
 unfold bK
 have e1:(⟨-a.i,-a.v⟩:En).i=-a.i:=rfl
 generalize a.i=ai at *
 generalize -a.v=nv at *
 clear a_D y_D' CN' ok
 have hb:=ap w
 go_enter func52,ntmps52
 have a_k:(w.alloc (.cells #[.int .i64 ai,.bool a_g,.slice a_o a_n a_c,.int .i64 a_e] 68)).heap[w.heap.size]?=some (.cells #[.int .i64 ai,.bool a_g,.slice a_o a_n a_c,.int .i64 a_e] 68):=av (.cells #[.int .i64 ai,.bool a_g,.slice a_o a_n a_c,.int .i64 a_e] 68) (by simp only[ak])
 have y_D:=y_D.keeps (ae w (.cells #[.int .i64 ai,.bool a_g,.slice a_o a_n a_c,.int .i64 a_e] 68))
 have hb:=ab hb (ae w (.cells #[.int .i64 ai,.bool a_g,.slice a_o a_n a_c,.int .i64 a_e] 68))
 have a_k:=ah (.cells #[.int .i64 0,.bool false,.slice none 0 0,.int .i64 0] 68) a_k
 have r_k:((w.alloc (.cells #[.int .i64 ai,.bool a_g,.slice a_o a_n a_c,.int .i64 a_e] 68)).alloc (.cells #[.int .i64 0,.bool false,.slice none 0 0,.int .i64 0] 68)).heap[w.heap.size+1]?=some (.cells #[.int .i64 0,.bool false,.slice none 0 0,.int .i64 0] 68):=av (.cells #[.int .i64 0,.bool false,.slice none 0 0,.int .i64 0] 68) (by simp only[ak])
 have y_D:=y_D.keeps (ae (w.alloc (.cells #[.int .i64 ai,.bool a_g,.slice a_o a_n a_c,.int .i64 a_e] 68)) (.cells #[.int .i64 0,.bool false,.slice none 0 0,.int .i64 0] 68))
 have hb:=ab hb (ae (w.alloc (.cells #[.int .i64 ai,.bool a_g,.slice a_o a_n a_c,.int .i64 a_e] 68)) (.cells #[.int .i64 0,.bool false,.slice none 0 0,.int .i64 0] 68))
 have f_a0:=aa a_k 0 rfl
 have f_a1:=aa a_k 1 rfl
 have f_a2:=aa a_k 2 rfl
 have f_a3:=aa a_k 3 rfl
 go_wp2_with fail
 clear f_a0 f_a1 f_a2 f_a3
 generalize ((w.alloc (.cells #[.int .i64 ai,.bool a_g,.slice a_o a_n a_c,.int .i64 a_e] 68)).alloc (.cells #[.int .i64 0,.bool false,.slice none 0 0,.int .i64 0] 68))=x1 at a_k r_k y_D hb ⊢
 have kd:x1.drew.cell? ⟨w.heap.size,0,none⟩=some (.int .i64 ai)∧x1.drew.cell? ⟨w.heap.size,1,none⟩=some (.bool a_g)∧x1.drew.cell? ⟨w.heap.size,2,none⟩=some (.slice a_o a_n a_c)∧x1.drew.cell? ⟨w.heap.size,3,none⟩=some (.int .i64 a_e):=⟨aa a_k 0 rfl,aa a_k 1 rfl,aa a_k 2 rfl,aa a_k 3 rfl⟩
 have hne:w.heap.size≠w.heap.size+1:=by omega
 go_region_held3 (fun W=>W.cell? ⟨w.heap.size,0,none⟩=some (.int .i64 ai)∧W.cell? ⟨w.heap.size,1,none⟩=some (.bool a_g)∧W.cell? ⟨w.heap.size,2,none⟩=some (.slice a_o a_n a_c)∧W.cell? ⟨w.heap.size,3,none⟩=some (.int .i64 a_e))
  (first|assumption|(repeat (first|exact kd|exact kk1|refine Ej hne ?_)))
  ((go_at_call 74;refine(CN.out _).mono ?_;rintro _ y2 ⟨rfl,hw⟩;have r_k:=ac hw r_k;have kk1:y2.cell? ⟨w.heap.size,0,none⟩=some (.int .i64 ai)∧y2.cell? ⟨w.heap.size,1,none⟩=some (.bool a_g)∧y2.cell? ⟨w.heap.size,2,none⟩=some (.slice a_o a_n a_c)∧y2.cell? ⟨w.heap.size,3,none⟩=some (.int .i64 a_e):=⟨am kd.1 hw,am kd.2.1 hw,am kd.2.2.1 hw,am kd.2.2.2 hw⟩;have f_r0:=aa r_k 0 rfl;have f_r1:=aa r_k 1 rfl;have f_r2:=aa r_k 2 rfl;have f_r3:=aa r_k 3 rfl;have z_r0:=af r_k 0;have z_r1:=af r_k 1;have z_r2:=af r_k 2;have z_r3:=af r_k 3))
 have y_D:=(y_D.keeps (ap x1).drew).keeps hw
 have hb:=ab hb.drew hw
 have f_r0:=aa r_k 0 rfl
 have z_r0:=af r_k 0
 have d_r0:=aj r_k 0 (.int .i64 (-ai))
 have f_r1:=aa r_k 1 rfl
 have z_r1:=af r_k 1
 have d_r1:=aj d_r0 1 (.bool y_g)
 have f_r2:=aa r_k 2 rfl
 have z_r2:=af r_k 2
 have d_r2:=aj d_r1 2 (.slice a_o a_n a_c)
 have f_r3:=aa r_k 3 rfl
 have z_r3:=af r_k 3
 have d_r3:=aj d_r2 3 (.int .i64 a_e)
 have e_r0:=aa d_r3 0 rfl
 have e_r1:=aa d_r3 1 rfl
 have e_r2:=aa d_r3 2 rfl
 have e_r3:=aa d_r3 3 rfl
 have hbe:=((((hb.setCell (p:=⟨w.heap.size+1,0,none⟩) (show w.heap.size<=w.heap.size+1 by omega) (.int .i64 (-ai))).setCell (p:=⟨w.heap.size+1,1,none⟩) (show w.heap.size<=w.heap.size+1 by omega) (.bool y_g)).setCell (p:=⟨w.heap.size+1,2,none⟩) (show w.heap.size<=w.heap.size+1 by omega) (.slice a_o a_n a_c)).setCell (p:=⟨w.heap.size+1,3,none⟩) (show w.heap.size<=w.heap.size+1 by omega) (.int .i64 a_e))
 have y_E:=y_D
 replace y_E:=y_E.setT r_k (by decide) 0 (.int .i64 (-ai))
 replace y_E:=y_E.setT d_r0 (by decide) 1 (.bool y_g)
 replace y_E:=y_E.setT d_r1 (by decide) 2 (.slice a_o a_n a_c)
 replace y_E:=y_E.setT d_r2 (by decide) 3 (.int .i64 a_e)
 clear r_k d_r0 d_r1 d_r2 d_r3
 go_wp2
 refine bodyPost_ret (v:=.agg #[.int .i64 (-ai),.bool y_g,.slice a_o a_n a_c,.int .i64 a_e]) (by simp[results,results52,go_sem,e_r0,e_r1,e_r2,e_r3]) rfl ⟨_,rfl,⟨_,_,_,_,_,rfl,y_E⟩,hbe⟩
theorem xU {w:World} {v u:Value} {a b:En} (h:EA w v a) (k:EA w u b) {K:Nat} (hK:K<=28000) (bA:Bd K a.v) (bB:Bd K b.v):Calls prog 57 #[v,u] w fun r w'=>∃ z,r=.returned z∧EA w' z (bq a b)∧Below w.heap.size w w':=by
 obtain⟨a_g,a_o,a_n,a_c,a_e,rfl,a_D⟩:=h
 obtain⟨b_g,b_o,b_n,b_c,b_e,rfl,b_D⟩:=k
 have CA:Hid (∀ (x y:Value) W,bH 0 W a.v x->bH 0 W b.v y->Calls prog 76 #[x,y] W fun r w'=>∃ v,r=.returned v∧bH 0 w' (a.v+b.v) v∧Below W.heap.size W w'):=fun x y W hx hy=>Cf hx hy (by omega) bA bB
 clear bA bB
 by_cases ha:a.i=0
 ·by_cases hb':b.i=0
  ·rw[lO ha hb',ha,hb']
   generalize a.v+b.v=V at *
   have hb:=ap w
   go_enter func57,ntmps57
   have p_k:(w.alloc (.cells #[.int .i64 0,.bool a_g,.slice a_o a_n a_c,.int .i64 a_e] 68)).heap[w.heap.size]?=some (.cells #[.int .i64 0,.bool a_g,.slice a_o a_n a_c,.int .i64 a_e] 68):=av (.cells #[.int .i64 0,.bool a_g,.slice a_o a_n a_c,.int .i64 a_e] 68) (by simp only[ak])
   have a_D:=a_D.keeps (ae w (.cells #[.int .i64 0,.bool a_g,.slice a_o a_n a_c,.int .i64 a_e] 68))
   have b_D:=b_D.keeps (ae w (.cells #[.int .i64 0,.bool a_g,.slice a_o a_n a_c,.int .i64 a_e] 68))
   have hb:=ab hb (ae w (.cells #[.int .i64 0,.bool a_g,.slice a_o a_n a_c,.int .i64 a_e] 68))
   have p_k:=ah (.cells #[.int .i64 0,.bool b_g,.slice b_o b_n b_c,.int .i64 b_e] 68) p_k
   have q_k:((w.alloc (.cells #[.int .i64 0,.bool a_g,.slice a_o a_n a_c,.int .i64 a_e] 68)).alloc (.cells #[.int .i64 0,.bool b_g,.slice b_o b_n b_c,.int .i64 b_e] 68)).heap[w.heap.size+1]?=some (.cells #[.int .i64 0,.bool b_g,.slice b_o b_n b_c,.int .i64 b_e] 68):=av (.cells #[.int .i64 0,.bool b_g,.slice b_o b_n b_c,.int .i64 b_e] 68) (by simp only[ak])
   have a_D:=a_D.keeps (ae (w.alloc (.cells #[.int .i64 0,.bool a_g,.slice a_o a_n a_c,.int .i64 a_e] 68)) (.cells #[.int .i64 0,.bool b_g,.slice b_o b_n b_c,.int .i64 b_e] 68))
   have b_D:=b_D.keeps (ae (w.alloc (.cells #[.int .i64 0,.bool a_g,.slice a_o a_n a_c,.int .i64 a_e] 68)) (.cells #[.int .i64 0,.bool b_g,.slice b_o b_n b_c,.int .i64 b_e] 68))
   have hb:=ab hb (ae (w.alloc (.cells #[.int .i64 0,.bool a_g,.slice a_o a_n a_c,.int .i64 a_e] 68)) (.cells #[.int .i64 0,.bool b_g,.slice b_o b_n b_c,.int .i64 b_e] 68))
   have p_k:=ah (.cells #[.int .i64 0,.bool false,.slice none 0 0,.int .i64 0] 68) p_k
   have q_k:=ah (.cells #[.int .i64 0,.bool false,.slice none 0 0,.int .i64 0] 68) q_k
   have r_k:(((w.alloc (.cells #[.int .i64 0,.bool a_g,.slice a_o a_n a_c,.int .i64 a_e] 68)).alloc (.cells #[.int .i64 0,.bool b_g,.slice b_o b_n b_c,.int .i64 b_e] 68)).alloc (.cells #[.int .i64 0,.bool false,.slice none 0 0,.int .i64 0] 68)).heap[w.heap.size+1+1]?=some (.cells #[.int .i64 0,.bool false,.slice none 0 0,.int .i64 0] 68):=av (.cells #[.int .i64 0,.bool false,.slice none 0 0,.int .i64 0] 68) (by simp only[ak])
   have a_D:=a_D.keeps (ae ((w.alloc (.cells #[.int .i64 0,.bool a_g,.slice a_o a_n a_c,.int .i64 a_e] 68)).alloc (.cells #[.int .i64 0,.bool b_g,.slice b_o b_n b_c,.int .i64 b_e] 68)) (.cells #[.int .i64 0,.bool false,.slice none 0 0,.int .i64 0] 68))
   have b_D:=b_D.keeps (ae ((w.alloc (.cells #[.int .i64 0,.bool a_g,.slice a_o a_n a_c,.int .i64 a_e] 68)).alloc (.cells #[.int .i64 0,.bool b_g,.slice b_o b_n b_c,.int .i64 b_e] 68)) (.cells #[.int .i64 0,.bool false,.slice none 0 0,.int .i64 0] 68))
   have hb:=ab hb (ae ((w.alloc (.cells #[.int .i64 0,.bool a_g,.slice a_o a_n a_c,.int .i64 a_e] 68)).alloc (.cells #[.int .i64 0,.bool b_g,.slice b_o b_n b_c,.int .i64 b_e] 68)) (.cells #[.int .i64 0,.bool false,.slice none 0 0,.int .i64 0] 68))
   have f_p0:=aa p_k 0 rfl
   have f_p1:=aa p_k 1 rfl
   have f_p2:=aa p_k 2 rfl
   have f_p3:=aa p_k 3 rfl
   have f_q0:=aa q_k 0 rfl
   have f_q1:=aa q_k 1 rfl
   have f_q2:=aa q_k 2 rfl
   have f_q3:=aa q_k 3 rfl
   go_wp2_with fail
   clear f_p0 f_p1 f_p2 f_p3 f_q0 f_q1 f_q2 f_q3
   generalize (((w.alloc (.cells #[.int .i64 0,.bool a_g,.slice a_o a_n a_c,.int .i64 a_e] 68)).alloc (.cells #[.int .i64 0,.bool b_g,.slice b_o b_n b_c,.int .i64 b_e] 68)).alloc (.cells #[.int .i64 0,.bool false,.slice none 0 0,.int .i64 0] 68))=x1 at p_k q_k r_k a_D b_D hb ⊢
   refine(CA.out _ _ _ a_D b_D).mono ?_
   rintro _ y2 ⟨v,rfl,n_D,hw⟩
   obtain⟨n_g,n_o,n_n,n_c,n_e,rfl⟩:=n_D.three
   have p_k:=ac hw p_k
   have q_k:=ac hw q_k
   have r_k:=ac hw r_k
   have a_D:=a_D.keeps hw
   have b_D:=b_D.keeps hw
   have hb:=ab hb hw
   have f_r0:=aa r_k 0 rfl
   have z_r0:=af r_k 0
   have d_r0:=aj r_k 0 (.int .i64 0)
   have f_r1:=aa r_k 1 rfl
   have z_r1:=af r_k 1
   have d_r1:=aj d_r0 1 (.bool n_g)
   have f_r2:=aa r_k 2 rfl
   have z_r2:=af r_k 2
   have d_r2:=aj d_r1 2 (.slice n_o n_n n_c)
   have f_r3:=aa r_k 3 rfl
   have z_r3:=af r_k 3
   have d_r3:=aj d_r2 3 (.int .i64 n_e)
   have e_r0:=aa d_r3 0 rfl
   have e_r1:=aa d_r3 1 rfl
   have e_r2:=aa d_r3 2 rfl
   have e_r3:=aa d_r3 3 rfl
   have hbe:=((((hb.setCell (p:=⟨w.heap.size+1+1,0,none⟩) (show w.heap.size<=w.heap.size+1+1 by omega) (.int .i64 0)).setCell (p:=⟨w.heap.size+1+1,1,none⟩) (show w.heap.size<=w.heap.size+1+1 by omega) (.bool n_g)).setCell (p:=⟨w.heap.size+1+1,2,none⟩) (show w.heap.size<=w.heap.size+1+1 by omega) (.slice n_o n_n n_c)).setCell (p:=⟨w.heap.size+1+1,3,none⟩) (show w.heap.size<=w.heap.size+1+1 by omega) (.int .i64 n_e))
   have n_E:=n_D
   replace n_E:=n_E.setT r_k (by decide) 0 (.int .i64 0)
   replace n_E:=n_E.setT d_r0 (by decide) 1 (.bool n_g)
   replace n_E:=n_E.setT d_r1 (by decide) 2 (.slice n_o n_n n_c)
   replace n_E:=n_E.setT d_r2 (by decide) 3 (.int .i64 n_e)
   clear r_k d_r0 d_r1 d_r2 d_r3
   go_wp2
   refine bodyPost_ret (v:=.agg #[.int .i64 0,.bool n_g,.slice n_o n_n n_c,.int .i64 n_e]) (by simp[results,results57,go_sem,e_r0,e_r1,e_r2,e_r3]) rfl ⟨_,rfl,⟨_,_,_,_,_,rfl,n_E⟩,hbe⟩
  ·rw[oZ ha hb',ha]
   clear CA a_D
   have hb2:(b.i == 0)=false:=by simp;exact hb'
   clear hb'
   have p_k:=gJ w (.cells #[.int .i64 0,.bool a_g,.slice a_o a_n a_c,.int .i64 a_e] 68) (.cells #[.int .i64 b.i,.bool b_g,.slice b_o b_n b_c,.int .i64 b_e] 68) (.cells #[.int .i64 0,.bool false,.slice none 0 0,.int .i64 0] 68)
   have q_k:=gK w (.cells #[.int .i64 0,.bool a_g,.slice a_o a_n a_c,.int .i64 a_e] 68) (.cells #[.int .i64 b.i,.bool b_g,.slice b_o b_n b_c,.int .i64 b_e] 68) (.cells #[.int .i64 0,.bool false,.slice none 0 0,.int .i64 0] 68)
   have r_k:=jV w (.cells #[.int .i64 0,.bool a_g,.slice a_o a_n a_c,.int .i64 a_e] 68) (.cells #[.int .i64 b.i,.bool b_g,.slice b_o b_n b_c,.int .i64 b_e] 68) (.cells #[.int .i64 0,.bool false,.slice none 0 0,.int .i64 0] 68)
   have s_k:=jV w (.cells #[.int .i64 0,.bool a_g,.slice a_o a_n a_c,.int .i64 a_e] 68) (.cells #[.int .i64 b.i,.bool b_g,.slice b_o b_n b_c,.int .i64 b_e] 68) (.cells #[.int .i64 b.i,.bool b_g,.slice b_o b_n b_c,.int .i64 b_e] 68)
   have hbe:=eg w (.cells #[.int .i64 0,.bool a_g,.slice a_o a_n a_c,.int .i64 a_e] 68) (.cells #[.int .i64 b.i,.bool b_g,.slice b_o b_n b_c,.int .i64 b_e] 68) (.cells #[.int .i64 b.i,.bool b_g,.slice b_o b_n b_c,.int .i64 b_e] 68)
   go_enter func57,ntmps57
   have f_p0:=aa p_k 0 rfl
   have f_p1:=aa p_k 1 rfl
   have f_p2:=aa p_k 2 rfl
   have f_p3:=aa p_k 3 rfl
   have f_q0:=aa q_k 0 rfl
   have f_q1:=aa q_k 1 rfl
   have f_q2:=aa q_k 2 rfl
   have f_q3:=aa q_k 3 rfl
   have f_r0:=aa r_k 0 rfl
   have f_r1:=aa r_k 1 rfl
   have f_r2:=aa r_k 2 rfl
   have f_r3:=aa r_k 3 rfl
   have z_r0:=af r_k 0
   have e_r0:=aa s_k 0 rfl
   have z_r1:=af r_k 1
   have e_r1:=aa s_k 1 rfl
   have z_r2:=af r_k 2
   have e_r2:=aa s_k 2 rfl
   have z_r3:=af r_k 3
   have e_r3:=aa s_k 3 rfl
   clear p_k q_k r_k s_k
   have n_E:=b_D.keeps hbe
   clear b_D
   go_wp2
   refine bodyPost_ret (v:=.agg #[.int .i64 b.i,.bool b_g,.slice b_o b_n b_c,.int .i64 b_e]) (by simp[results,results57,go_sem,e_r0,e_r1,e_r2,e_r3]) rfl ⟨_,rfl,⟨_,_,_,_,_,rfl,n_E⟩,hbe⟩
 ·rw[oY ha]
  clear CA b_D
  have ha2:(a.i == 0)=false:=by simp;exact ha
  clear ha
  have p_k:=gJ w (.cells #[.int .i64 a.i,.bool a_g,.slice a_o a_n a_c,.int .i64 a_e] 68) (.cells #[.int .i64 b.i,.bool b_g,.slice b_o b_n b_c,.int .i64 b_e] 68) (.cells #[.int .i64 0,.bool false,.slice none 0 0,.int .i64 0] 68)
  have q_k:=gK w (.cells #[.int .i64 a.i,.bool a_g,.slice a_o a_n a_c,.int .i64 a_e] 68) (.cells #[.int .i64 b.i,.bool b_g,.slice b_o b_n b_c,.int .i64 b_e] 68) (.cells #[.int .i64 0,.bool false,.slice none 0 0,.int .i64 0] 68)
  have r_k:=jV w (.cells #[.int .i64 a.i,.bool a_g,.slice a_o a_n a_c,.int .i64 a_e] 68) (.cells #[.int .i64 b.i,.bool b_g,.slice b_o b_n b_c,.int .i64 b_e] 68) (.cells #[.int .i64 0,.bool false,.slice none 0 0,.int .i64 0] 68)
  have s_k:=jV w (.cells #[.int .i64 a.i,.bool a_g,.slice a_o a_n a_c,.int .i64 a_e] 68) (.cells #[.int .i64 b.i,.bool b_g,.slice b_o b_n b_c,.int .i64 b_e] 68) (.cells #[.int .i64 a.i,.bool a_g,.slice a_o a_n a_c,.int .i64 a_e] 68)
  have hbe:=eg w (.cells #[.int .i64 a.i,.bool a_g,.slice a_o a_n a_c,.int .i64 a_e] 68) (.cells #[.int .i64 b.i,.bool b_g,.slice b_o b_n b_c,.int .i64 b_e] 68) (.cells #[.int .i64 a.i,.bool a_g,.slice a_o a_n a_c,.int .i64 a_e] 68)
  go_enter func57,ntmps57
  have f_p0:=aa p_k 0 rfl
  have f_p1:=aa p_k 1 rfl
  have f_p2:=aa p_k 2 rfl
  have f_p3:=aa p_k 3 rfl
  have f_q0:=aa q_k 0 rfl
  have f_q1:=aa q_k 1 rfl
  have f_q2:=aa q_k 2 rfl
  have f_q3:=aa q_k 3 rfl
  have f_r0:=aa r_k 0 rfl
  have f_r1:=aa r_k 1 rfl
  have f_r2:=aa r_k 2 rfl
  have f_r3:=aa r_k 3 rfl
  have z_r0:=af r_k 0
  have e_r0:=aa s_k 0 rfl
  have z_r1:=af r_k 1
  have e_r1:=aa s_k 1 rfl
  have z_r2:=af r_k 2
  have e_r2:=aa s_k 2 rfl
  have z_r3:=af r_k 3
  have e_r3:=aa s_k 3 rfl
  clear p_k q_k r_k s_k
  have n_E:=a_D.keeps hbe
  clear a_D
  go_wp2
  refine bodyPost_ret (v:=.agg #[.int .i64 a.i,.bool a_g,.slice a_o a_n a_c,.int .i64 a_e]) (by simp[results,results57,go_sem,e_r0,e_r1,e_r2,e_r3]) rfl ⟨_,rfl,⟨_,_,_,_,_,rfl,n_E⟩,hbe⟩
end Go.Proofs.YtkkpppgfoilgmaaGreatDoor
