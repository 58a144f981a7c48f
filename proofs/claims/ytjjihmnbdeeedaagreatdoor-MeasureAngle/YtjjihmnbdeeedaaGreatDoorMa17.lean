/-
  plumbref8: minus, plus, times of ends, by their contracts (tools/p8.py)
-/
import Derived.Test.YtjjihmnbdeeedaaGreatDoorMa14
import Derived.Test.YtjjihmnbdeeedaaGreatDoorMa10
import Derived.Test.YtjjihmnbdeeedaaGreatDoorMa16
import Derived.Deep.RegionHeld3
set_option maxRecDepth 100000
set_option maxHeartbeats 8000000
set_option linter.unusedVariables false
set_option linter.unusedSimpArgs false
namespace Go.Proofs.YtjjihmnbdeeedaaGreatDoor
open Go Go.Proofs.Tryz Go.RowKit Go.Proofs.YtjjihmnbdeeedaaGreatDoor.M
theorem NS {B:Nat} {w:World} {V:Int} {g yg:Bool} {so:Option Addr} {sn sc:Nat} {e:Int} (h:cB B w V (.agg #[.bool g,.slice so sn sc,G6 e])) (k:br w (.agg #[.bool yg,.slice so sn sc,G6 e]) (-V)):cB B w (-V) (.agg #[.bool yg,.slice so sn sc,G6 e]):=by
 obtain⟨ng,s,m,e',h1,hy,hA⟩:=h
 obtain⟨ng2,s2,m2,e2,k1,ky,kN⟩:=k
 simp only[Value.agg.injEq,Array.mk.injEq,List.cons.injEq,Value.bool.injEq,Value.int.injEq,true_and,and_true] at h1 k1
 obtain⟨rfl,rfl,rfl⟩:=h1
 obtain⟨rfl,rfl,rfl⟩:=k1
 have a1:=zv hy
 have a2:=zv ky
 rw[Int.natAbs_neg] at a2
 have hm:m2=m:=Int.eq_of_mul_eq_mul_right (Int.ne_of_gt (bR e)) (a2.trans a1.symm)
 subst hm
 exact⟨_,_,_,_,rfl,ky,hA⟩
theorem NT {w:World} {x y:Value} {A B:Int} (hx:cB 0 w A x) (hy:cB 0 w B y) {K:Nat} (hK:K<=560000) (bx:Bd K A) (bY:Bd K B):Calls prog 152 #[x,y] w fun r w'=>∃ v,r=.returned v∧cB 0 w' (A+B) v∧Below w.heap.size w w':=by
 refine(AT hx.num hy.num hK bx bY).mono ?_
 rintro r w' ⟨v,rfl,h⟩
 refine⟨v,rfl,?_,h.1⟩
 rcases h.2 with h1|⟨h1,rfl⟩|⟨h1,rfl⟩
 ·exact h1.dan.lower (Nat.zero_le _)
 ·rw[h1,Int.zero_add];exact hy.keeps h.1
 ·rw[h1,Int.add_zero];exact hx.keeps h.1
theorem NU {w:World} {x y:Value} {A C:Int} {K:Nat} (hx:br w x A) (hy:br w y C) (bA:Bd K A) (bC:Bd K C) (hK:K<=14000) :
  Calls prog 151 #[x,y] w fun r w'=>∃ v,r=.returned v∧cB 0 w' (eO A C) v∧Below w.heap.size w w':=by
 obtain⟨x,rfl,hR,ok,rfl⟩:=hx.open (bA.ok (by omega))
 obtain⟨y,rfl,hR',ok',rfl⟩:=hy.open (bC.ok (by omega))
 refine(th x y w hR hR' (ct ok) (ct ok')).mono ?_
 rintro r w' ⟨v,rfl,h⟩
 have hC:=tA (x:=x) (y:=y) (by have:=(ct ok).2.2.1;omega) (by have:=(ct ok').2.2.1;omega)
 rw[nX hC] at h
 exact⟨v,rfl,h.dan.lower (Nat.zero_le _),h.below⟩
theorem PX {p g o:Nat} {x0 x1 x2 x3 u:Value} {W:World} (hg:p≠g) (h:W.cell? ⟨p,0,none⟩=some x0∧W.cell? ⟨p,1,none⟩=some x1∧W.cell? ⟨p,2,none⟩=some x2∧W.cell? ⟨p,3,none⟩=some x3) :
  (W.setCell ⟨g,o,none⟩ u).cell? ⟨p,0,none⟩=some x0∧(W.setCell ⟨g,o,none⟩ u).cell? ⟨p,1,none⟩=some x1∧(W.setCell ⟨g,o,none⟩ u).cell? ⟨p,2,none⟩=some x2∧(W.setCell ⟨g,o,none⟩ u).cell? ⟨p,3,none⟩=some x3:=by
 have hn:∀ k:Nat,(W.setCell ⟨g,o,none⟩ u).cell? ⟨p,k,none⟩=W.cell? ⟨p,k,none⟩:=fun k=>World.cell?_setCell_far _ _ _ _ (Ne.symm hg)
 rw[hn,hn,hn,hn]
 exact h
theorem DW {w:World} {v:Value} {a:En} (h:EA w v a) (ok:a.ok):Calls prog 231 #[v] w fun r w'=>∃ u,r=.returned u∧EA w' u (cK a)∧Below w.heap.size w w':=by
 obtain⟨a_g,a_o,a_n,a_c,a_e,rfl,a_D⟩:=h
 obtain⟨y_g,y_D',CN'⟩:=IC a_D.num
 have y_D:=NS a_D y_D'
 have CN:=aK CN'
 have hw64:IntKind.i64.wrap (-a.i)=-a.i:=by
  unfold En.ok at ok
  rcases ok with q|⟨q|q,_⟩<;>(rw[q];decide)
 unfold cK
 have e1:(⟨-a.i,-a.v⟩:En).i=-a.i:=rfl
 generalize a.i=ai at *
 generalize -a.v=nv at *
 clear a_D y_D' CN' ok
 have hb:=ap w
 go_enter func231,ntmps231
 have a_k:(w.alloc (.cells #[G6 ai,.bool a_g,.slice a_o a_n a_c,G6 a_e] 137)).heap[w.heap.size]?=some (.cells #[G6 ai,.bool a_g,.slice a_o a_n a_c,G6 a_e] 137):=aE (.cells #[G6 ai,.bool a_g,.slice a_o a_n a_c,G6 a_e] 137) (by simp only[aw])
 have y_D:=y_D.keeps (af w (.cells #[G6 ai,.bool a_g,.slice a_o a_n a_c,G6 a_e] 137))
 have hb:=ac hb (af w (.cells #[G6 ai,.bool a_g,.slice a_o a_n a_c,G6 a_e] 137))
 have a_k:=am (.cells #[G6 0,.bool false,.slice none 0 0,G6 0] 137) a_k
 have r_k:((w.alloc (.cells #[G6 ai,.bool a_g,.slice a_o a_n a_c,G6 a_e] 137)).alloc (.cells #[G6 0,.bool false,.slice none 0 0,G6 0] 137)).heap[w.heap.size+1]?=some (.cells #[G6 0,.bool false,.slice none 0 0,G6 0] 137):=aE (.cells #[G6 0,.bool false,.slice none 0 0,G6 0] 137) (by simp only[aw])
 have y_D:=y_D.keeps (af (w.alloc (.cells #[G6 ai,.bool a_g,.slice a_o a_n a_c,G6 a_e] 137)) (.cells #[G6 0,.bool false,.slice none 0 0,G6 0] 137))
 have hb:=ac hb (af (w.alloc (.cells #[G6 ai,.bool a_g,.slice a_o a_n a_c,G6 a_e] 137)) (.cells #[G6 0,.bool false,.slice none 0 0,G6 0] 137))
 have f_a0:=ae a_k 0 rfl
 have f_a1:=ae a_k 1 rfl
 have f_a2:=ae a_k 2 rfl
 have f_a3:=ae a_k 3 rfl
 go_wp2_with fail
 clear f_a0 f_a1 f_a2 f_a3
 generalize ((w.alloc (.cells #[G6 ai,.bool a_g,.slice a_o a_n a_c,G6 a_e] 137)).alloc (.cells #[G6 0,.bool false,.slice none 0 0,G6 0] 137))=x1 at a_k r_k y_D hb ⊢
 have kd:x1.drew.cell? ⟨w.heap.size,0,none⟩=some (G6 ai)∧x1.drew.cell? ⟨w.heap.size,1,none⟩=some (.bool a_g)∧x1.drew.cell? ⟨w.heap.size,2,none⟩=some (.slice a_o a_n a_c)∧x1.drew.cell? ⟨w.heap.size,3,none⟩=some (G6 a_e):=⟨ae a_k 0 rfl,ae a_k 1 rfl,ae a_k 2 rfl,ae a_k 3 rfl⟩
 have hne:w.heap.size≠w.heap.size+1:=by omega
 go_region_held3 (fun W=>W.cell? ⟨w.heap.size,0,none⟩=some (G6 ai)∧W.cell? ⟨w.heap.size,1,none⟩=some (.bool a_g)∧W.cell? ⟨w.heap.size,2,none⟩=some (.slice a_o a_n a_c)∧W.cell? ⟨w.heap.size,3,none⟩=some (G6 a_e))
  (first|assumption|(repeat (first|exact kd|exact kk1|refine PX hne ?_)))
  ((go_at_call 180;refine(CN.out _).mono ?_;rintro _ y2 ⟨rfl,hw⟩;have r_k:=aB hw r_k;have kk1:y2.cell? ⟨w.heap.size,0,none⟩=some (G6 ai)∧y2.cell? ⟨w.heap.size,1,none⟩=some (.bool a_g)∧y2.cell? ⟨w.heap.size,2,none⟩=some (.slice a_o a_n a_c)∧y2.cell? ⟨w.heap.size,3,none⟩=some (G6 a_e):=⟨ar kd.1 hw,ar kd.2.1 hw,ar kd.2.2.1 hw,ar kd.2.2.2 hw⟩;have f_r0:=ae r_k 0 rfl;have f_r1:=ae r_k 1 rfl;have f_r2:=ae r_k 2 rfl;have f_r3:=ae r_k 3 rfl;have z_r0:=ah r_k 0;have z_r1:=ah r_k 1;have z_r2:=ah r_k 2;have z_r3:=ah r_k 3))
 have y_D:=(y_D.keeps (ap x1).drew).keeps hw
 have hb:=ac hb.drew hw
 have f_r0:=ae r_k 0 rfl
 have z_r0:=ah r_k 0
 have d_r0:=az r_k 0 (G6 (-ai))
 have f_r1:=ae r_k 1 rfl
 have z_r1:=ah r_k 1
 have d_r1:=az d_r0 1 (.bool y_g)
 have f_r2:=ae r_k 2 rfl
 have z_r2:=ah r_k 2
 have d_r2:=az d_r1 2 (.slice a_o a_n a_c)
 have f_r3:=ae r_k 3 rfl
 have z_r3:=ah r_k 3
 have d_r3:=az d_r2 3 (G6 a_e)
 have e_r0:=ae d_r3 0 rfl
 have e_r1:=ae d_r3 1 rfl
 have e_r2:=ae d_r3 2 rfl
 have e_r3:=ae d_r3 3 rfl
 have hbe:=((((hb.setCell (p:=⟨w.heap.size+1,0,none⟩) (show w.heap.size<=w.heap.size+1 by omega) (G6 (-ai))).setCell (p:=⟨w.heap.size+1,1,none⟩) (show w.heap.size<=w.heap.size+1 by omega) (.bool y_g)).setCell (p:=⟨w.heap.size+1,2,none⟩) (show w.heap.size<=w.heap.size+1 by omega) (.slice a_o a_n a_c)).setCell (p:=⟨w.heap.size+1,3,none⟩) (show w.heap.size<=w.heap.size+1 by omega) (G6 a_e))
 have y_E:=y_D
 replace y_E:=y_E.setT r_k (by decide) 0 (G6 (-ai))
 replace y_E:=y_E.setT d_r0 (by decide) 1 (.bool y_g)
 replace y_E:=y_E.setT d_r1 (by decide) 2 (.slice a_o a_n a_c)
 replace y_E:=y_E.setT d_r2 (by decide) 3 (G6 a_e)
 clear r_k d_r0 d_r1 d_r2 d_r3
 go_wp2
 refine bodyPost_ret (v:=.agg #[G6 (-ai),.bool y_g,.slice a_o a_n a_c,G6 a_e]) (by simp[results,results231,go_sem,e_r0,e_r1,e_r2,e_r3]) rfl ⟨_,rfl,⟨_,_,_,_,_,rfl,y_E⟩,hbe⟩
theorem ID {w:World} {v u:Value} {a b:En} (h:EA w v a) (k:EA w u b) {K:Nat} (hK:K<=28000) (bA:Bd K a.v) (bB:Bd K b.v):Calls prog 107 #[v,u] w fun r w'=>∃ z,r=.returned z∧EA w' z (bO a b)∧Below w.heap.size w w':=by
 obtain⟨a_g,a_o,a_n,a_c,a_e,rfl,a_D⟩:=h
 obtain⟨b_g,b_o,b_n,b_c,b_e,rfl,b_D⟩:=k
 have CA:Hid (∀ (x y:Value) W,cB 0 W a.v x->cB 0 W b.v y->Calls prog 152 #[x,y] W fun r w'=>∃ v,r=.returned v∧cB 0 w' (a.v+b.v) v∧Below W.heap.size W w'):=fun x y W hx hy=>NT hx hy (by omega) bA bB
 clear bA bB
 by_cases ha:a.i=0
 ·by_cases hb':b.i=0
  ·rw[rN ha hb',ha,hb']
   generalize a.v+b.v=V at *
   have hb:=ap w
   go_enter func107,ntmps107
   have p_k:(w.alloc (.cells #[G6 0,.bool a_g,.slice a_o a_n a_c,G6 a_e] 137)).heap[w.heap.size]?=some (.cells #[G6 0,.bool a_g,.slice a_o a_n a_c,G6 a_e] 137):=aE (.cells #[G6 0,.bool a_g,.slice a_o a_n a_c,G6 a_e] 137) (by simp only[aw])
   have a_D:=a_D.keeps (af w (.cells #[G6 0,.bool a_g,.slice a_o a_n a_c,G6 a_e] 137))
   have b_D:=b_D.keeps (af w (.cells #[G6 0,.bool a_g,.slice a_o a_n a_c,G6 a_e] 137))
   have hb:=ac hb (af w (.cells #[G6 0,.bool a_g,.slice a_o a_n a_c,G6 a_e] 137))
   have p_k:=am (.cells #[G6 0,.bool b_g,.slice b_o b_n b_c,G6 b_e] 137) p_k
   have q_k:((w.alloc (.cells #[G6 0,.bool a_g,.slice a_o a_n a_c,G6 a_e] 137)).alloc (.cells #[G6 0,.bool b_g,.slice b_o b_n b_c,G6 b_e] 137)).heap[w.heap.size+1]?=some (.cells #[G6 0,.bool b_g,.slice b_o b_n b_c,G6 b_e] 137):=aE (.cells #[G6 0,.bool b_g,.slice b_o b_n b_c,G6 b_e] 137) (by simp only[aw])
   have a_D:=a_D.keeps (af (w.alloc (.cells #[G6 0,.bool a_g,.slice a_o a_n a_c,G6 a_e] 137)) (.cells #[G6 0,.bool b_g,.slice b_o b_n b_c,G6 b_e] 137))
   have b_D:=b_D.keeps (af (w.alloc (.cells #[G6 0,.bool a_g,.slice a_o a_n a_c,G6 a_e] 137)) (.cells #[G6 0,.bool b_g,.slice b_o b_n b_c,G6 b_e] 137))
   have hb:=ac hb (af (w.alloc (.cells #[G6 0,.bool a_g,.slice a_o a_n a_c,G6 a_e] 137)) (.cells #[G6 0,.bool b_g,.slice b_o b_n b_c,G6 b_e] 137))
   have p_k:=am (.cells #[G6 0,.bool false,.slice none 0 0,G6 0] 137) p_k
   have q_k:=am (.cells #[G6 0,.bool false,.slice none 0 0,G6 0] 137) q_k
   have r_k:(((w.alloc (.cells #[G6 0,.bool a_g,.slice a_o a_n a_c,G6 a_e] 137)).alloc (.cells #[G6 0,.bool b_g,.slice b_o b_n b_c,G6 b_e] 137)).alloc (.cells #[G6 0,.bool false,.slice none 0 0,G6 0] 137)).heap[w.heap.size+1+1]?=some (.cells #[G6 0,.bool false,.slice none 0 0,G6 0] 137):=aE (.cells #[G6 0,.bool false,.slice none 0 0,G6 0] 137) (by simp only[aw])
   have a_D:=a_D.keeps (af ((w.alloc (.cells #[G6 0,.bool a_g,.slice a_o a_n a_c,G6 a_e] 137)).alloc (.cells #[G6 0,.bool b_g,.slice b_o b_n b_c,G6 b_e] 137)) (.cells #[G6 0,.bool false,.slice none 0 0,G6 0] 137))
   have b_D:=b_D.keeps (af ((w.alloc (.cells #[G6 0,.bool a_g,.slice a_o a_n a_c,G6 a_e] 137)).alloc (.cells #[G6 0,.bool b_g,.slice b_o b_n b_c,G6 b_e] 137)) (.cells #[G6 0,.bool false,.slice none 0 0,G6 0] 137))
   have hb:=ac hb (af ((w.alloc (.cells #[G6 0,.bool a_g,.slice a_o a_n a_c,G6 a_e] 137)).alloc (.cells #[G6 0,.bool b_g,.slice b_o b_n b_c,G6 b_e] 137)) (.cells #[G6 0,.bool false,.slice none 0 0,G6 0] 137))
   have f_p0:=ae p_k 0 rfl
   have f_p1:=ae p_k 1 rfl
   have f_p2:=ae p_k 2 rfl
   have f_p3:=ae p_k 3 rfl
   have f_q0:=ae q_k 0 rfl
   have f_q1:=ae q_k 1 rfl
   have f_q2:=ae q_k 2 rfl
   have f_q3:=ae q_k 3 rfl
   go_wp2_with fail
   clear f_p0 f_p1 f_p2 f_p3 f_q0 f_q1 f_q2 f_q3
   generalize (((w.alloc (.cells #[G6 0,.bool a_g,.slice a_o a_n a_c,G6 a_e] 137)).alloc (.cells #[G6 0,.bool b_g,.slice b_o b_n b_c,G6 b_e] 137)).alloc (.cells #[G6 0,.bool false,.slice none 0 0,G6 0] 137))=x1 at p_k q_k r_k a_D b_D hb ⊢
   refine(CA.out _ _ _ a_D b_D).mono ?_
   rintro _ y2 ⟨v,rfl,n_D,hw⟩
   obtain⟨n_g,n_o,n_n,n_c,n_e,rfl⟩:=n_D.three
   have p_k:=aB hw p_k
   have q_k:=aB hw q_k
   have r_k:=aB hw r_k
   have a_D:=a_D.keeps hw
   have b_D:=b_D.keeps hw
   have hb:=ac hb hw
   have f_r0:=ae r_k 0 rfl
   have z_r0:=ah r_k 0
   have d_r0:=az r_k 0 (G6 0)
   have f_r1:=ae r_k 1 rfl
   have z_r1:=ah r_k 1
   have d_r1:=az d_r0 1 (.bool n_g)
   have f_r2:=ae r_k 2 rfl
   have z_r2:=ah r_k 2
   have d_r2:=az d_r1 2 (.slice n_o n_n n_c)
   have f_r3:=ae r_k 3 rfl
   have z_r3:=ah r_k 3
   have d_r3:=az d_r2 3 (G6 n_e)
   have e_r0:=ae d_r3 0 rfl
   have e_r1:=ae d_r3 1 rfl
   have e_r2:=ae d_r3 2 rfl
   have e_r3:=ae d_r3 3 rfl
   have hbe:=((((hb.setCell (p:=⟨w.heap.size+1+1,0,none⟩) (show w.heap.size<=w.heap.size+1+1 by omega) (G6 0)).setCell (p:=⟨w.heap.size+1+1,1,none⟩) (show w.heap.size<=w.heap.size+1+1 by omega) (.bool n_g)).setCell (p:=⟨w.heap.size+1+1,2,none⟩) (show w.heap.size<=w.heap.size+1+1 by omega) (.slice n_o n_n n_c)).setCell (p:=⟨w.heap.size+1+1,3,none⟩) (show w.heap.size<=w.heap.size+1+1 by omega) (G6 n_e))
   have n_E:=n_D
   replace n_E:=n_E.setT r_k (by decide) 0 (G6 0)
   replace n_E:=n_E.setT d_r0 (by decide) 1 (.bool n_g)
   replace n_E:=n_E.setT d_r1 (by decide) 2 (.slice n_o n_n n_c)
   replace n_E:=n_E.setT d_r2 (by decide) 3 (G6 n_e)
   clear r_k d_r0 d_r1 d_r2 d_r3
   go_wp2
   refine bodyPost_ret (v:=.agg #[G6 0,.bool n_g,.slice n_o n_n n_c,G6 n_e]) (by simp[results,results107,go_sem,e_r0,e_r1,e_r2,e_r3]) rfl ⟨_,rfl,⟨_,_,_,_,_,rfl,n_E⟩,hbe⟩
  ·rw[wi ha hb',ha]
   clear CA a_D
   have hb2:(b.i == 0)=false:=by simp;exact hb'
   clear hb'
   have p_k:=pD w (.cells #[G6 0,.bool a_g,.slice a_o a_n a_c,G6 a_e] 137) (.cells #[G6 b.i,.bool b_g,.slice b_o b_n b_c,G6 b_e] 137) (.cells #[G6 0,.bool false,.slice none 0 0,G6 0] 137)
   have q_k:=pE w (.cells #[G6 0,.bool a_g,.slice a_o a_n a_c,G6 a_e] 137) (.cells #[G6 b.i,.bool b_g,.slice b_o b_n b_c,G6 b_e] 137) (.cells #[G6 0,.bool false,.slice none 0 0,G6 0] 137)
   have r_k:=lh w (.cells #[G6 0,.bool a_g,.slice a_o a_n a_c,G6 a_e] 137) (.cells #[G6 b.i,.bool b_g,.slice b_o b_n b_c,G6 b_e] 137) (.cells #[G6 0,.bool false,.slice none 0 0,G6 0] 137)
   have s_k:=lh w (.cells #[G6 0,.bool a_g,.slice a_o a_n a_c,G6 a_e] 137) (.cells #[G6 b.i,.bool b_g,.slice b_o b_n b_c,G6 b_e] 137) (.cells #[G6 b.i,.bool b_g,.slice b_o b_n b_c,G6 b_e] 137)
   have hbe:=df w (.cells #[G6 0,.bool a_g,.slice a_o a_n a_c,G6 a_e] 137) (.cells #[G6 b.i,.bool b_g,.slice b_o b_n b_c,G6 b_e] 137) (.cells #[G6 b.i,.bool b_g,.slice b_o b_n b_c,G6 b_e] 137)
   go_enter func107,ntmps107
   have f_p0:=ae p_k 0 rfl
   have f_p1:=ae p_k 1 rfl
   have f_p2:=ae p_k 2 rfl
   have f_p3:=ae p_k 3 rfl
   have f_q0:=ae q_k 0 rfl
   have f_q1:=ae q_k 1 rfl
   have f_q2:=ae q_k 2 rfl
   have f_q3:=ae q_k 3 rfl
   have f_r0:=ae r_k 0 rfl
   have f_r1:=ae r_k 1 rfl
   have f_r2:=ae r_k 2 rfl
   have f_r3:=ae r_k 3 rfl
   have z_r0:=ah r_k 0
   have e_r0:=ae s_k 0 rfl
   have z_r1:=ah r_k 1
   have e_r1:=ae s_k 1 rfl
   have z_r2:=ah r_k 2
   have e_r2:=ae s_k 2 rfl
   have z_r3:=ah r_k 3
   have e_r3:=ae s_k 3 rfl
   clear p_k q_k r_k s_k
   have n_E:=b_D.keeps hbe
   clear b_D
   go_wp2
   refine bodyPost_ret (v:=.agg #[G6 b.i,.bool b_g,.slice b_o b_n b_c,G6 b_e]) (by simp[results,results107,go_sem,e_r0,e_r1,e_r2,e_r3]) rfl ⟨_,rfl,⟨_,_,_,_,_,rfl,n_E⟩,hbe⟩
 ·rw[wh ha]
  clear CA b_D
  have ha2:(a.i == 0)=false:=by simp;exact ha
  clear ha
  have p_k:=pD w (.cells #[G6 a.i,.bool a_g,.slice a_o a_n a_c,G6 a_e] 137) (.cells #[G6 b.i,.bool b_g,.slice b_o b_n b_c,G6 b_e] 137) (.cells #[G6 0,.bool false,.slice none 0 0,G6 0] 137)
  have q_k:=pE w (.cells #[G6 a.i,.bool a_g,.slice a_o a_n a_c,G6 a_e] 137) (.cells #[G6 b.i,.bool b_g,.slice b_o b_n b_c,G6 b_e] 137) (.cells #[G6 0,.bool false,.slice none 0 0,G6 0] 137)
  have r_k:=lh w (.cells #[G6 a.i,.bool a_g,.slice a_o a_n a_c,G6 a_e] 137) (.cells #[G6 b.i,.bool b_g,.slice b_o b_n b_c,G6 b_e] 137) (.cells #[G6 0,.bool false,.slice none 0 0,G6 0] 137)
  have s_k:=lh w (.cells #[G6 a.i,.bool a_g,.slice a_o a_n a_c,G6 a_e] 137) (.cells #[G6 b.i,.bool b_g,.slice b_o b_n b_c,G6 b_e] 137) (.cells #[G6 a.i,.bool a_g,.slice a_o a_n a_c,G6 a_e] 137)
  have hbe:=df w (.cells #[G6 a.i,.bool a_g,.slice a_o a_n a_c,G6 a_e] 137) (.cells #[G6 b.i,.bool b_g,.slice b_o b_n b_c,G6 b_e] 137) (.cells #[G6 a.i,.bool a_g,.slice a_o a_n a_c,G6 a_e] 137)
  go_enter func107,ntmps107
  have f_p0:=ae p_k 0 rfl
  have f_p1:=ae p_k 1 rfl
  have f_p2:=ae p_k 2 rfl
  have f_p3:=ae p_k 3 rfl
  have f_q0:=ae q_k 0 rfl
  have f_q1:=ae q_k 1 rfl
  have f_q2:=ae q_k 2 rfl
  have f_q3:=ae q_k 3 rfl
  have f_r0:=ae r_k 0 rfl
  have f_r1:=ae r_k 1 rfl
  have f_r2:=ae r_k 2 rfl
  have f_r3:=ae r_k 3 rfl
  have z_r0:=ah r_k 0
  have e_r0:=ae s_k 0 rfl
  have z_r1:=ah r_k 1
  have e_r1:=ae s_k 1 rfl
  have z_r2:=ah r_k 2
  have e_r2:=ae s_k 2 rfl
  have z_r3:=ah r_k 3
  have e_r3:=ae s_k 3 rfl
  clear p_k q_k r_k s_k
  have n_E:=a_D.keeps hbe
  clear a_D
  go_wp2
  refine bodyPost_ret (v:=.agg #[G6 a.i,.bool a_g,.slice a_o a_n a_c,G6 a_e]) (by simp[results,results107,go_sem,e_r0,e_r1,e_r2,e_r3]) rfl ⟨_,rfl,⟨_,_,_,_,_,rfl,n_E⟩,hbe⟩
end Go.Proofs.YtjjihmnbdeeedaaGreatDoor
