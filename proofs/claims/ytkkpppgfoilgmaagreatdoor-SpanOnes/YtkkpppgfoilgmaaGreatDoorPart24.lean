/-
  plumbref8: minus, plus, times of ends, by their contracts (tools/p8.py)
-/
import Derived.Test.YtkkpppgfoilgmaaGreatDoorPart17
import Derived.Test.YtkkpppgfoilgmaaGreatDoorPart16
import Derived.Test.YtkkpppgfoilgmaaGreatDoorPart23
import Derived.Deep.RegionHeld3
set_option maxRecDepth 100000
set_option maxHeartbeats 8000000
set_option linter.unusedVariables false
set_option linter.unusedSimpArgs false
namespace Go.Proofs.YtkkpppgfoilgmaaGreatDoor
open Go Go.Proofs.Tryz Go.RowKit Go.Proofs.YtkkpppgfoilgmaaGreatDoor.M
theorem zz {B:Nat} {w:World} {V:Int} {g yg:Bool} {so:Option Addr} {sn sc:Nat} {e:Int} (h:cd B w V (.agg #[.bool g,.slice so sn sc,.int .i64 e])) (k:aX w (.agg #[.bool yg,.slice so sn sc,.int .i64 e]) (-V)):cd B w (-V) (.agg #[.bool yg,.slice so sn sc,.int .i64 e]):=by
 obtain⟨ng,s,m,e',h1,hy,hA⟩:=h
 obtain⟨ng2,s2,m2,e2,k1,ky,kN⟩:=k
 simp only[Value.agg.injEq,Array.mk.injEq,List.cons.injEq,Value.bool.injEq,Value.int.injEq,true_and,and_true] at h1 k1
 obtain⟨rfl,rfl,rfl⟩:=h1
 obtain⟨rfl,rfl,rfl⟩:=k1
 have a1:=pe hy
 have a2:=pe ky
 rw[Int.natAbs_neg] at a2
 have hm:m2=m:=Int.eq_of_mul_eq_mul_right (Int.ne_of_gt (bD e)) (a2.trans a1.symm)
 subst hm
 exact⟨_,_,_,_,rfl,ky,hA⟩
theorem zC {w:World} {x y:Value} {A C:Int} {K:Nat} (hx:aX w x A) (hy:aX w y C) (bA:Bd K A) (bC:Bd K C) (hK:K<=14000) :
  Calls prog 75 #[x,y] w fun r w'=>∃ v,r=.returned v∧cd 0 w' (cW A C) v∧Below w.heap.size w w':=by
 obtain⟨x,rfl,hR,ok,rfl⟩:=hx.open (bA.ok (by omega))
 obtain⟨y,rfl,hR',ok',rfl⟩:=hy.open (bC.ok (by omega))
 refine(vs x y w hR hR' (a8 ok) (a8 ok')).mono ?_
 rintro r w' ⟨v,rfl,h⟩
 have hC:=rO (x:=x) (y:=y) (by have:=(a8 ok).2.2.1;omega) (by have:=(a8 ok').2.2.1;omega)
 rw[sw hC] at h
 exact⟨v,rfl,h.dan.lower (Nat.zero_le _),h.below⟩
theorem Bm {p g o:Nat} {x0 x1 x2 x3 u:Value} {W:World} (hg:p≠g) (h:W.cell? ⟨p,0,none⟩=some x0∧W.cell? ⟨p,1,none⟩=some x1∧W.cell? ⟨p,2,none⟩=some x2∧W.cell? ⟨p,3,none⟩=some x3) :
  (W.setCell ⟨g,o,none⟩ u).cell? ⟨p,0,none⟩=some x0∧(W.setCell ⟨g,o,none⟩ u).cell? ⟨p,1,none⟩=some x1∧(W.setCell ⟨g,o,none⟩ u).cell? ⟨p,2,none⟩=some x2∧(W.setCell ⟨g,o,none⟩ u).cell? ⟨p,3,none⟩=some x3:=by
 have hn:∀ k:Nat,(W.setCell ⟨g,o,none⟩ u).cell? ⟨p,k,none⟩=W.cell? ⟨p,k,none⟩:=fun k=>World.cell?_setCell_far _ _ _ _ (Ne.symm hg)
 rw[hn,hn,hn,hn]
 exact h
theorem sE {w:World} {v:Value} {a:En} (h:EA w v a) (ok:a.ok):Calls prog 52 #[v] w fun r w'=>∃ u,r=.returned u∧EA w' u (cX a)∧Below w.heap.size w w':=by
 obtain⟨a_g,a_o,a_n,a_c,a_e,rfl,a_D⟩:=h
 obtain⟨y_g,y_D',CN'⟩:=Bl a_D.num
 have y_D:=zz a_D y_D'
 have CN:=ay CN'
 have hw64:IntKind.i64.wrap (-a.i)=-a.i:=by
  unfold En.ok at ok
  rcases ok with q|⟨q|q,_⟩<;>(rw[q];decide)
 unfold cX
 have e1:(⟨-a.i,-a.v⟩:En).i=-a.i:=rfl
 generalize a.i=ai at *
 generalize -a.v=nv at *
 clear a_D y_D' CN' ok
 have hb:=aq w
 go_enter func52,ntmps52
 have a_k:(w.alloc (.cells #[.int .i64 ai,.bool a_g,.slice a_o a_n a_c,.int .i64 a_e] 68)).heap[w.heap.size]?=some (.cells #[.int .i64 ai,.bool a_g,.slice a_o a_n a_c,.int .i64 a_e] 68):=av (.cells #[.int .i64 ai,.bool a_g,.slice a_o a_n a_c,.int .i64 a_e] 68) (by simp only[ar])
 have y_D:=y_D.keeps (ae w (.cells #[.int .i64 ai,.bool a_g,.slice a_o a_n a_c,.int .i64 a_e] 68))
 have hb:=aa hb (ae w (.cells #[.int .i64 ai,.bool a_g,.slice a_o a_n a_c,.int .i64 a_e] 68))
 have a_k:=am (.cells #[.int .i64 0,.bool false,.slice none 0 0,.int .i64 0] 68) a_k
 have r_k:((w.alloc (.cells #[.int .i64 ai,.bool a_g,.slice a_o a_n a_c,.int .i64 a_e] 68)).alloc (.cells #[.int .i64 0,.bool false,.slice none 0 0,.int .i64 0] 68)).heap[w.heap.size+1]?=some (.cells #[.int .i64 0,.bool false,.slice none 0 0,.int .i64 0] 68):=av (.cells #[.int .i64 0,.bool false,.slice none 0 0,.int .i64 0] 68) (by simp only[ar])
 have y_D:=y_D.keeps (ae (w.alloc (.cells #[.int .i64 ai,.bool a_g,.slice a_o a_n a_c,.int .i64 a_e] 68)) (.cells #[.int .i64 0,.bool false,.slice none 0 0,.int .i64 0] 68))
 have hb:=aa hb (ae (w.alloc (.cells #[.int .i64 ai,.bool a_g,.slice a_o a_n a_c,.int .i64 a_e] 68)) (.cells #[.int .i64 0,.bool false,.slice none 0 0,.int .i64 0] 68))
 have f_a0:=ab a_k 0 rfl
 have f_a1:=ab a_k 1 rfl
 have f_a2:=ab a_k 2 rfl
 have f_a3:=ab a_k 3 rfl
 go_wp2_with fail
 clear f_a0 f_a1 f_a2 f_a3
 generalize ((w.alloc (.cells #[.int .i64 ai,.bool a_g,.slice a_o a_n a_c,.int .i64 a_e] 68)).alloc (.cells #[.int .i64 0,.bool false,.slice none 0 0,.int .i64 0] 68))=x1 at a_k r_k y_D hb ⊢
 have kd:x1.drew.cell? ⟨w.heap.size,0,none⟩=some (.int .i64 ai)∧x1.drew.cell? ⟨w.heap.size,1,none⟩=some (.bool a_g)∧x1.drew.cell? ⟨w.heap.size,2,none⟩=some (.slice a_o a_n a_c)∧x1.drew.cell? ⟨w.heap.size,3,none⟩=some (.int .i64 a_e):=⟨ab a_k 0 rfl,ab a_k 1 rfl,ab a_k 2 rfl,ab a_k 3 rfl⟩
 have hne:w.heap.size≠w.heap.size+1:=by omega
 go_region_held3 (fun W=>W.cell? ⟨w.heap.size,0,none⟩=some (.int .i64 ai)∧W.cell? ⟨w.heap.size,1,none⟩=some (.bool a_g)∧W.cell? ⟨w.heap.size,2,none⟩=some (.slice a_o a_n a_c)∧W.cell? ⟨w.heap.size,3,none⟩=some (.int .i64 a_e))
  (first|assumption|(repeat (first|exact kd|exact kk1|refine Bm hne ?_)))
  ((go_at_call 74;refine(CN.out _).mono ?_;rintro _ y2 ⟨rfl,hw⟩;have r_k:=ac hw r_k;have kk1:y2.cell? ⟨w.heap.size,0,none⟩=some (.int .i64 ai)∧y2.cell? ⟨w.heap.size,1,none⟩=some (.bool a_g)∧y2.cell? ⟨w.heap.size,2,none⟩=some (.slice a_o a_n a_c)∧y2.cell? ⟨w.heap.size,3,none⟩=some (.int .i64 a_e):=⟨af kd.1 hw,af kd.2.1 hw,af kd.2.2.1 hw,af kd.2.2.2 hw⟩;have f_r0:=ab r_k 0 rfl;have f_r1:=ab r_k 1 rfl;have f_r2:=ab r_k 2 rfl;have f_r3:=ab r_k 3 rfl;have z_r0:=ak r_k 0;have z_r1:=ak r_k 1;have z_r2:=ak r_k 2;have z_r3:=ak r_k 3))
 have y_D:=(y_D.keeps (aq x1).drew).keeps hw
 have hb:=aa hb.drew hw
 have f_r0:=ab r_k 0 rfl
 have z_r0:=ak r_k 0
 have d_r0:=ag r_k 0 (.int .i64 (-ai))
 have f_r1:=ab r_k 1 rfl
 have z_r1:=ak r_k 1
 have d_r1:=ag d_r0 1 (.bool y_g)
 have f_r2:=ab r_k 2 rfl
 have z_r2:=ak r_k 2
 have d_r2:=ag d_r1 2 (.slice a_o a_n a_c)
 have f_r3:=ab r_k 3 rfl
 have z_r3:=ak r_k 3
 have d_r3:=ag d_r2 3 (.int .i64 a_e)
 have e_r0:=ab d_r3 0 rfl
 have e_r1:=ab d_r3 1 rfl
 have e_r2:=ab d_r3 2 rfl
 have e_r3:=ab d_r3 3 rfl
 have hbe:=((((hb.setCell (p:=⟨w.heap.size+1,0,none⟩) (show w.heap.size<=w.heap.size+1 by omega) (.int .i64 (-ai))).setCell (p:=⟨w.heap.size+1,1,none⟩) (show w.heap.size<=w.heap.size+1 by omega) (.bool y_g)).setCell (p:=⟨w.heap.size+1,2,none⟩) (show w.heap.size<=w.heap.size+1 by omega) (.slice a_o a_n a_c)).setCell (p:=⟨w.heap.size+1,3,none⟩) (show w.heap.size<=w.heap.size+1 by omega) (.int .i64 a_e))
 have y_E:=y_D
 replace y_E:=y_E.setT r_k (by decide) 0 (.int .i64 (-ai))
 replace y_E:=y_E.setT d_r0 (by decide) 1 (.bool y_g)
 replace y_E:=y_E.setT d_r1 (by decide) 2 (.slice a_o a_n a_c)
 replace y_E:=y_E.setT d_r2 (by decide) 3 (.int .i64 a_e)
 clear r_k d_r0 d_r1 d_r2 d_r3
 go_wp2
 refine bodyPost_ret (v:=.agg #[.int .i64 (-ai),.bool y_g,.slice a_o a_n a_c,.int .i64 a_e]) (by simp[results,results52,go_sem,e_r0,e_r1,e_r2,e_r3]) rfl ⟨_,rfl,⟨_,_,_,_,_,rfl,y_E⟩,hbe⟩
end Go.Proofs.YtkkpppgfoilgmaaGreatDoor
