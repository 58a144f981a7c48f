/- Parts of the proof. -/
import Derived.Test.YtjjihmnbdeeedaaGreatDoorCe17
import Derived.Test.YtjjihmnbdeeedaaGreatDoorCe7
import Derived.Deep.RegionHeld3
import Derived.Test.YtjjihmnbdeeedaaGreatDoorCe9
set_option linter.unusedVariables false
set_option linter.unusedSimpArgs false
namespace Go.Proofs.YtjjihmnbdeeedaaGreatDoor
open Go Go.RowKit Go.Proofs.YtjjihmnbdeeedaaGreatDoor.M
theorem ccls_prod {p q:Int} (hp:pok p=true) (rp:rng p) (hq:pok q=true) (rq:rng q):cls (fprod p q)≠4:=by
  obtain ⟨a1,a2⟩:=fin_cls rp hp
  obtain ⟨b1,b2⟩:=fin_cls rq hq
  unfold fprod
  rw [if_neg (fun h=>h.elim a1 b1),if_neg (fun h=>h.elim a2 b2)]
  by_cases c:fsize p q=0
  . rw [if_pos c]
    cases xsg p q <;> decide
  . rw [if_neg c]
    refine (nearP_pat (fun h=>c ?_)).2
    exact sg_eq_zero h
theorem cwd_eq1 {a b:Int} (ha:rng a) (hb:rng b) (h:wd a=wd b):a=b:=by
  unfold wd at h
  unfold rng at ha hb
  omega
theorem cfsum_ev {a b:Nat} {p q r:Int} (hx:Fx a b p) (hy:Fx a b q) (hb:b+1<=2097) (rr:rng r) (h:Ieee.double.add (wd p) (wd q)=some (wd r)):fsum p q=r:=by
  obtain ⟨s,-⟩:=hx.sum hy hb
  rcases add_FW (FW.pat (q_fin hx.p) hx.r) (FW.pat (q_fin hy.p) hy.r) with ⟨z,e1,e2⟩ | ⟨e1,_⟩
  . rw [h] at e1
    cases e1
    obtain ⟨_,e3,_⟩:=e2.of (q_fin s.p)
    exact (cwd_eq1 rr s.r e3).symm
  . rw [h] at e1
    cases e1
theorem cfprod_ev {p q r:Int} (rp:rng p) (pp:pok p=true) (rq:rng q) (pq:pok q=true) (rr:rng r) (h:Ieee.double.mul (wd p) (wd q)=some (wd r)):fprod p q=r:=by
  have c:=ccls_prod pp rp pq rq
  rcases mul_FW (FW.pat (q_fin pp) rp) (FW.pat (q_fin pq) rq) with ⟨z,e1,e2⟩ | ⟨e1,_⟩
  . rw [h] at e1
    cases e1
    obtain ⟨_,e3,_⟩:=e2.of c
    exact (cwd_eq1 rr (fprod_rng rp rq) e3).symm
  . rw [h] at e1
    cases e1
def cA:Int:=4383128337338335238
theorem rng_cA:rng cA:=by unfold rng cA; omega
set_option maxRecDepth 100000 in
theorem cnum11 (e:Int) (W:World):Calls Tryz.prog 13 #[.int .i64 e] W fun r w'=>r=.returned (.int .i64 e)∧w'=W:=by
  go_enter Tryz.func13,Tryz.ntmps13
  go_wp2
  go_ret
  exact ⟨rfl,rfl⟩
set_option maxRecDepth 100000 in
set_option maxHeartbeats 1000000 in
theorem ctold_any {p:Int} (hp:rng p) (pp:pok p=true) (st:Int) (w:World) :
    Calls Tryz.prog 139 #[.float .f64 (wd p),.int .i64 st] w fun r w'=>r=.returned (.agg #[.int .i64 (sgP p),.int .i64 st])∧Below w.heap.size w w':=by
  have CC:Hid (∀ W,Calls Tryz.prog 64 #[.float .f64 (wd p),.float .f64 0] W fun r w'=>r=.returned (.int .i64 (sgP p))∧w'=W):=fun W=>cmpFloat hp pp W
  clear hp pp
  generalize sgP p=sg at *
  generalize wd p=x at *
  have hb0:=bel_alloc w (.cells #[.int .i64 0,.int .i64 0] 28)
  have r_k:=heap_a1 w (.cells #[.int .i64 0,.int .i64 0] 28)
  go_enter Tryz.func139,Tryz.ntmps139
  go_wp2_with fail
  generalize w.alloc (.cells #[.int .i64 0,.int .i64 0] 28)=x0 at hb0 r_k ⊢
  refine (CC.out _).mono ?_
  rintro _ wz ⟨rfl,hwz⟩
  replace hwz:=hwz.symm
  subst hwz
  have k0:=blkC r_k 0 rfl
  have k1:=blkC r_k 1 rfl
  have y0:=blkF r_k 0
  have y1:=blkF r_k 1
  go_wp2
  exact bodyPost_ret (v:=.agg #[.int .i64 sg,.int .i64 st]) (by simp [results,Tryz.results139,go_sem,k0,k1]) rfl ⟨rfl,(hb0.setCell (p:=⟨w.heap.size,0,none⟩) (Nat.le_refl _) _).setCell (p:=⟨w.heap.size,1,none⟩) (Nat.le_refl _) _⟩
set_option maxRecDepth 100000 in
set_option maxHeartbeats 4000000 in
theorem ctame1 {px py:Nat->Int} (hz:∀ i,i<4->Mz (px i)∧Mz (py i)) (hc:key (fprod cA (cS (cu px py) 3))<rg (cV (cu px py) 3)) (w:World) :
    Calls Tryz.prog 73 #[.agg #[.int .i64 (px 0),.int .i64 (py 0),.int .i64 (px 1),.int .i64 (py 1),.int .i64 (px 2),.int .i64 (py 2),.int .i64 (px 3),.int .i64 (py 3)]] w fun r w'=>r=.returned (.agg #[.int .i64 (sgP (cV (cu px py) 3)),.int .i64 1])∧Below w.heap.size w w':=by
  have L:=fun p (hp:p<3)=>cu_lg hz hp
  have fV:=cV_fx L 3 (by decide)
  have fS:=cS_fx L 3 (by decide)
  have cM:=ccls_prod (show pok cA=true by decide) rng_cA fS.p fS.r
  have rM:rng (fprod cA (cS (cu px py) 3)):=fprod_rng rng_cA fS.r
  obtain ⟨q1,q2⟩:=q_rg fV.r
  have kR:key (rg (cV (cu px py) 3))=rg (cV (cu px py) 3):=q_key q2
  have pR:cls (rg (cV (cu px py) 3))≠4:=by rw [q_cls fV.r]; exact q_fin fV.p
  have hM:∀ W,(binOp .mul 59 (.float .f64 4383128337338335238) (.float .f64 (wd (cS (cu px py) 3)))).run Tryz.prog W=.ok (.float .f64 (wd (fprod cA (cS (cu px py) 3)))) W:=fun W=>by
    have:=run_prodN (P:=Tryz.prog) 59 (FW.pat (q_fin (show pok cA=true by decide)) rng_cA) (FW.pat (q_fin fS.p) fS.r) cM W
    exact this
  have CFr:Hid (∀ W,Calls Tryz.prog 137 #[.agg #[.int .i64 (px 0),.int .i64 (py 0),.int .i64 (px 1),.int .i64 (py 1),.int .i64 (px 2),.int .i64 (py 2),.int .i64 (px 3),.int .i64 (py 3)]] W fun e w'=>∃ arr,e=.returned (.agg arr)∧FrC arr (cu px py) 3∧Below W.heap.size W w'):=fun W=>cframe_any hz W
  have CFi:Hid (∀ (arr:Array Value) (g:Nat) (W:World),FrC arr (cu px py) 3->W.heap[g]?=some (.cells arr 167 (0,0))->Calls Tryz.prog 138 #[.pointer (some ⟨g,0,none⟩)] W fun e w'=>e=.returned (.tuple #[.float .f64 (wd (cV (cu px py) 3)),.float .f64 (wd (cS (cu px py) 3))])∧Below W.heap.size W w'):=fun arr g W hA hg=>cfilter_any L hA g W hg
  have CA:Hid (∀ W,Calls Tryz.prog 34 #[.float .f64 (wd (cV (cu px py) 3))] W fun e w'=>e=.returned (.float .f64 (wd (rg (cV (cu px py) 3))))∧w'=W):=fun W=>mathAbs fV.r W
  have CT:Hid (∀ W,Calls Tryz.prog 139 #[.float .f64 (wd (cV (cu px py) 3)),.int .i64 1] W fun r w'=>r=.returned (.agg #[.int .i64 (sgP (cV (cu px py) 3)),.int .i64 1])∧Below W.heap.size W w'):=fun W=>ctold_any fV.r fV.p 1 W
  have ho:FloatKind.f64.format.order (wd (rg (cV (cu px py) 3))) (wd (fprod cA (cS (cu px py) 3)))=some .gt:=q_gt q1 rM pR cM (by rw [kR]; exact hc)
  clear fV fS cM rM q1 q2 kR pR hc L hz
  generalize cu px py=u at *
  generalize sgP (cV u 3)=sg at *
  generalize wd (fprod cA (cS u 3))=MM at *
  generalize wd (rg (cV u 3))=AA at *
  generalize wd (cV u 3)=DD at *
  generalize wd (cS u 3)=SS at *
  obtain ⟨hb0,p_k,r_k,hsz0⟩:=blks2 w (.cells #[.int .i64 (px 0),.int .i64 (py 0),.int .i64 (px 1),.int .i64 (py 1),.int .i64 (px 2),.int .i64 (py 2),.int .i64 (px 3),.int .i64 (py 3)] 52) (.cells #[.int .i64 0,.int .i64 0] 28)
  clear hsz0
  have f0:=blkC p_k 0 rfl
  have f1:=blkC p_k 1 rfl
  have f2:=blkC p_k 2 rfl
  have f3:=blkC p_k 3 rfl
  have f4:=blkC p_k 4 rfl
  have f5:=blkC p_k 5 rfl
  have f6:=blkC p_k 6 rfl
  have f7:=blkC p_k 7 rfl
  go_enter Tryz.func73,Tryz.ntmps73
  go_wp2_with fail
  clear f0 f1 f2 f3 f4 f5 f6 f7
  generalize (w.alloc (.cells #[.int .i64 (px 0),.int .i64 (py 0),.int .i64 (px 1),.int .i64 (py 1),.int .i64 (px 2),.int .i64 (py 2),.int .i64 (px 3),.int .i64 (py 3)] 52)).alloc (.cells #[.int .i64 0,.int .i64 0] 28)=x0 at hb0 p_k r_k ⊢
  refine (CFr.out _).mono ?_
  rintro _ y1 ⟨arr,rfl,hA,hw1⟩
  replace r_k:=blk_on hw1 r_k
  replace hb0:=bel_trans hb0 hw1
  have hi:(Tryz.prog.info? 167).map (·.size)=some arr.size:=by rw [hA.n]; kernel_rfl
  have h15:(#[.float .f64 0,.float .f64 0,.float .f64 0,.float .f64 0,.float .f64 0,.float .f64 0,.float .f64 0,.float .f64 0,.float .f64 0,.float .f64 0,.float .f64 0,.float .f64 0,.float .f64 0,.float .f64 0,.float .f64 0]:Array Value).size=arr.size:=hA.n.symm
  have hoA:arr.all (·.oneCell')=true:=hA.o
  have HA:=hideIt hA
  clear hA
  dsimp only
  repeat (first | (refine wp_store_row 167 _ _ rfl y1.heap.size arr rfl rfl _ _ (heap_a1 y1 (.cells #[.float .f64 0,.float .f64 0,.float .f64 0,.float .f64 0,.float .f64 0,.float .f64 0,.float .f64 0,.float .f64 0,.float .f64 0,.float .f64 0,.float .f64 0,.float .f64 0,.float .f64 0,.float .f64 0,.float .f64 0] 167)) hi h15 hoA ?_; rw [World.setRow_alloc_new]; dsimp only [Act.put]) | go_step)
  have f_k:=heap_a1 y1 (.cells arr 167)
  replace r_k:=heap_past (.cells arr 167) r_k
  replace hb0:=bel_trans hb0 (bel_alloc y1 (.cells arr 167))
  clear hi h15 hoA
  generalize y1.alloc (.cells arr 167)=x2 at hb0 r_k f_k ⊢
  generalize y1.heap.size=gf at f_k ⊢
  refine (CFi.out arr gf _ HA.out f_k).mono ?_
  rintro _ y3 ⟨rfl,hw3⟩
  replace r_k:=blk_on hw3 r_k
  replace hb0:=bel_trans hb0 hw3
  go_wp2_with fail
  refine (CA.out _).mono ?_
  rintro _ wz ⟨rfl,hwz⟩
  replace hwz:=hwz.symm
  subst hwz
  go_wp2_with fail
  refine (CT.out _).mono ?_
  rintro _ y4 ⟨rfl,hw4⟩
  replace r_k:=blk_on hw4 r_k
  replace hb0:=bel_trans hb0 hw4
  have k0:=blkC r_k 0 rfl
  have k1:=blkC r_k 1 rfl
  have y0:=blkF r_k 0
  have y1:=blkF r_k 1
  go_wp2
  exact bodyPost_ret (v:=.agg #[.int .i64 sg,.int .i64 1]) (by simp [results,Tryz.results73,go_sem,k0,k1]) rfl ⟨rfl,(hb0.setCell (p:=⟨w.heap.size+1,0,none⟩) (show w.heap.size<=w.heap.size+1 by omega) _).setCell (p:=⟨w.heap.size+1,1,none⟩) (show w.heap.size<=w.heap.size+1 by omega) _⟩
set_option maxRecDepth 100000 in
set_option maxHeartbeats 4000000 in
theorem cSign1 {px py:Nat->Int} (hx:∀ i,rng (px i)) (hy:∀ i,rng (py i)) (ht:∀ i,i<4->tame (px i)=true∧tame (py i)=true) (hc:key (fprod cA (cS (cu px py) 3))<rg (cV (cu px py) 3)) (w:World) :
    Calls Tryz.prog 25 #[.agg #[.int .i64 (px 0),.int .i64 (py 0)],.agg #[.int .i64 (px 1),.int .i64 (py 1)],.agg #[.int .i64 (px 2),.int .i64 (py 2)],.agg #[.int .i64 (px 3),.int .i64 (py 3)]] w fun r w'=>r=.returned (.tuple #[.agg #[.int .i64 (sgP (cV (cu px py) 3)),.int .i64 1],.int .i64 0])∧Below w.heap.size w w':=by
  have CT:Hid (∀ W,Calls Tryz.prog 72 #[.agg #[.int .i64 (px 0),.int .i64 (py 0),.int .i64 (px 1),.int .i64 (py 1),.int .i64 (px 2),.int .i64 (py 2),.int .i64 (px 3),.int .i64 (py 3)]] W fun x w'=>x=.returned (.bool true)∧Below W.heap.size W w'):=fun W=>by
    have:=ctame_any px py W hx hy
    rwa [show allB (fun i=>pttame (px i) (py i)) 4=true from decide_eq_true fun i hi=>by show (tame (px i) && tame (py i))=true; rw [(ht i hi).1,(ht i hi).2]; rfl] at this
  have CV:Hid (∀ W,Calls Tryz.prog 73 #[.agg #[.int .i64 (px 0),.int .i64 (py 0),.int .i64 (px 1),.int .i64 (py 1),.int .i64 (px 2),.int .i64 (py 2),.int .i64 (px 3),.int .i64 (py 3)]] W fun r w'=>r=.returned (.agg #[.int .i64 (sgP (cV (cu px py) 3)),.int .i64 1])∧Below W.heap.size W w'):=fun W=>ctame1 (fun i hi=>⟨tame_Mz (hx i) (ht i hi).1,tame_Mz (hy i) (ht i hi).2⟩) hc W
  clear hx hy ht hc
  generalize sgP (cV (cu px py) 3)=sg at *
  obtain ⟨hb0,a_k,b_k,c_k,d_k,r_k,hsz0⟩:=blks5 w (.cells #[.int .i64 (px 0),.int .i64 (py 0)] 33) (.cells #[.int .i64 (px 1),.int .i64 (py 1)] 33) (.cells #[.int .i64 (px 2),.int .i64 (py 2)] 33) (.cells #[.int .i64 (px 3),.int .i64 (py 3)] 33) (.cells #[.int .i64 0,.int .i64 0] 28)
  have f_a0:=blkC a_k 0 rfl
  have f_a1:=blkC a_k 1 rfl
  have f_b0:=blkC b_k 0 rfl
  have f_b1:=blkC b_k 1 rfl
  have f_c0:=blkC c_k 0 rfl
  have f_c1:=blkC c_k 1 rfl
  have f_d0:=blkC d_k 0 rfl
  have f_d1:=blkC d_k 1 rfl
  go_enter Tryz.func25,Tryz.ntmps25
  go_wp2_with fail
  clear f_a0 f_a1 f_b0 f_b1 f_c0 f_c1 f_d0 f_d1
  replace r_k:=heap_past (.cells #[.int .i64 (px 0),.int .i64 (py 0),.int .i64 (px 1),.int .i64 (py 1),.int .i64 (px 2),.int .i64 (py 2),.int .i64 (px 3),.int .i64 (py 3)] 52) r_k
  have p_k:=heap_a1 (((((w.alloc (.cells #[.int .i64 (px 0),.int .i64 (py 0)] 33)).alloc (.cells #[.int .i64 (px 1),.int .i64 (py 1)] 33)).alloc (.cells #[.int .i64 (px 2),.int .i64 (py 2)] 33)).alloc (.cells #[.int .i64 (px 3),.int .i64 (py 3)] 33)).alloc (.cells #[.int .i64 0,.int .i64 0] 28)) (.cells #[.int .i64 (px 0),.int .i64 (py 0),.int .i64 (px 1),.int .i64 (py 1),.int .i64 (px 2),.int .i64 (py 2),.int .i64 (px 3),.int .i64 (py 3)] 52)
  rw [hsz0] at p_k
  replace hb0:=bel_trans hb0 (bel_alloc (((((w.alloc (.cells #[.int .i64 (px 0),.int .i64 (py 0)] 33)).alloc (.cells #[.int .i64 (px 1),.int .i64 (py 1)] 33)).alloc (.cells #[.int .i64 (px 2),.int .i64 (py 2)] 33)).alloc (.cells #[.int .i64 (px 3),.int .i64 (py 3)] 33)).alloc (.cells #[.int .i64 0,.int .i64 0] 28)) (.cells #[.int .i64 (px 0),.int .i64 (py 0),.int .i64 (px 1),.int .i64 (py 1),.int .i64 (px 2),.int .i64 (py 2),.int .i64 (px 3),.int .i64 (py 3)] 52))
  generalize (((((w.alloc (.cells #[.int .i64 (px 0),.int .i64 (py 0)] 33)).alloc (.cells #[.int .i64 (px 1),.int .i64 (py 1)] 33)).alloc (.cells #[.int .i64 (px 2),.int .i64 (py 2)] 33)).alloc (.cells #[.int .i64 (px 3),.int .i64 (py 3)] 33)).alloc (.cells #[.int .i64 0,.int .i64 0] 28)).alloc (.cells #[.int .i64 (px 0),.int .i64 (py 0),.int .i64 (px 1),.int .i64 (py 1),.int .i64 (px 2),.int .i64 (py 2),.int .i64 (px 3),.int .i64 (py 3)] 52)=x0 at hb0 r_k p_k ⊢
  refine (CT.out _).mono ?_
  rintro _ y1 ⟨rfl,hw1⟩
  replace r_k:=blk_on hw1 r_k
  replace p_k:=blk_on hw1 p_k
  replace hb0:=bel_trans hb0 hw1
  have f0:=blkC p_k 0 rfl
  have f1:=blkC p_k 1 rfl
  have f2:=blkC p_k 2 rfl
  have f3:=blkC p_k 3 rfl
  have f4:=blkC p_k 4 rfl
  have f5:=blkC p_k 5 rfl
  have f6:=blkC p_k 6 rfl
  have f7:=blkC p_k 7 rfl
  go_wp2_with fail
  clear f0 f1 f2 f3 f4 f5 f6 f7
  refine (CV.out _).mono ?_
  rintro _ y2 ⟨rfl,hw2⟩
  replace r_k:=blk_on hw2 r_k
  replace hb0:=bel_trans hb0 hw2
  have k0:=blkC r_k 0 rfl
  have k1:=blkC r_k 1 rfl
  have y0:=blkF r_k 0
  have y1:=blkF r_k 1
  go_wp2
  exact bodyPost_ret (v:=.tuple #[.agg #[.int .i64 sg,.int .i64 1],.int .i64 0]) (by simp [results,Tryz.results25,go_sem,k0,k1]) rfl ⟨rfl,(hb0.setCell (p:=⟨w.heap.size+1+1+1+1,0,none⟩) (show w.heap.size<=w.heap.size+1+1+1+1 by omega) _).setCell (p:=⟨w.heap.size+1+1+1+1,1,none⟩) (show w.heap.size<=w.heap.size+1+1+1+1 by omega) _⟩
def ko:Int:=4607182418800017408
theorem kr_o:rng ko:=by unfold rng ko; omega
def km:Int:=-4616189618054758400
theorem kr_m:rng km:=by unfold rng km; omega
def kz:Int:=0
theorem kr_z:rng kz:=by unfold rng kz; omega
def ky:Int:=-9223372036854775808
theorem kr_y:rng ky:=by unfold rng ky; omega
def kt:Int:=4611686018427387904
theorem kr_t:rng kt:=by unfold rng kt; omega
theorem kf_o:Fx 872 1226 ko:=(tame_Mz kr_o (by decide)).fx.up (by decide)
theorem kf_m:Fx 872 1226 km:=(tame_Mz kr_m (by decide)).fx.up (by decide)
theorem kf_z:Fx 872 1226 kz:=(tame_Mz kr_z (by decide)).fx.up (by decide)
theorem kf_y:Fx 872 1226 ky:=(tame_Mz kr_y (by decide)).fx.up (by decide)
theorem kn_z:neg kz=ky:=by decide
theorem ks_oy:fsum ko ky=ko:=cfsum_ev kf_o kf_y (by decide) kr_o (by decide +kernel)
theorem ks_zy:fsum kz ky=kz:=cfsum_ev kf_z kf_y (by decide) kr_z (by decide +kernel)
theorem ks_my:fsum km ky=km:=cfsum_ev kf_m kf_y (by decide) kr_m (by decide +kernel)
theorem kp_oo:fprod ko ko=ko:=cfprod_ev kr_o (by decide) kr_o (by decide) kr_o (by decide +kernel)
theorem kp_zz:fprod kz kz=kz:=cfprod_ev kr_z (by decide) kr_z (by decide) kr_z (by decide +kernel)
theorem ks_oz:fsum ko kz=ko:=cfsum_ev kf_o kf_z (by decide) kr_o (by decide +kernel)
theorem ks_zo:fsum kz ko=ko:=cfsum_ev kf_z kf_o (by decide) kr_o (by decide +kernel)
theorem kp_mm:fprod km km=ko:=cfprod_ev kr_m (by decide) kr_m (by decide) kr_o (by decide +kernel)
theorem kp_mo:fprod km ko=km:=cfprod_ev kr_m (by decide) kr_o (by decide) kr_m (by decide +kernel)
theorem kn_m:neg km=ko:=by decide
theorem ka_z:rg kz=kz:=by decide
theorem ka_m:rg km=ko:=by decide
theorem kp_mz:fprod km kz=ky:=cfprod_ev kr_m (by decide) kr_z (by decide) kr_y (by decide +kernel)
theorem kp_oz:fprod ko kz=kz:=cfprod_ev kr_o (by decide) kr_z (by decide) kr_z (by decide +kernel)
theorem ks_yy:fsum ky ky=ky:=cfsum_ev kf_y kf_y (by decide) kr_y (by decide +kernel)
theorem ka_y:rg ky=kz:=by decide
theorem ks_zz:fsum kz kz=kz:=cfsum_ev kf_z kf_z (by decide) kr_z (by decide +kernel)
theorem kp_oy:fprod ko ky=ky:=cfprod_ev kr_o (by decide) kr_y (by decide) kr_y (by decide +kernel)
theorem kp_zo:fprod kz ko=kz:=cfprod_ev kr_z (by decide) kr_o (by decide) kr_z (by decide +kernel)
theorem ka_o:rg ko=ko:=by decide
theorem ks_oo:fsum ko ko=kt:=cfsum_ev kf_o kf_o (by decide) kr_t (by decide +kernel)
def kX:Nat->Int:=l4 ko kz km kz
def kY:Nat->Int:=l4 kz ko kz kz
theorem kg_x0:kX 0=ko:=rfl
theorem kg_y0:kY 0=kz:=rfl
theorem kg_x1:kX 1=kz:=rfl
theorem kg_y1:kY 1=ko:=rfl
theorem kg_x2:kX 2=km:=rfl
theorem kg_y2:kY 2=kz:=rfl
theorem kg_x3:kX 3=kz:=rfl
theorem kg_y3:kY 3=kz:=rfl
theorem ku_00:cu kX kY 0 0=ko:=by
  unfold cu
  rw [if_pos rfl,kg_x0,kg_x3,kn_z,ks_oy]
theorem ku_01:cu kX kY 0 1=kz:=by
  unfold cu
  rw [if_neg (by decide),if_pos rfl,kg_y0,kg_y3,kn_z,ks_zy]
theorem ku_10:cu kX kY 1 0=kz:=by
  unfold cu
  rw [if_pos rfl,kg_x1,kg_x3,kn_z,ks_zy]
theorem ku_11:cu kX kY 1 1=ko:=by
  unfold cu
  rw [if_neg (by decide),if_pos rfl,kg_y1,kg_y3,kn_z,ks_oy]
theorem ku_20:cu kX kY 2 0=km:=by
  unfold cu
  rw [if_pos rfl,kg_x2,kg_x3,kn_z,ks_my]
theorem ku_21:cu kX kY 2 1=kz:=by
  unfold cu
  rw [if_neg (by decide),if_pos rfl,kg_y2,kg_y3,kn_z,ks_zy]
theorem kq_0:c2 (cu kX kY) 0=ko:=by
  unfold c2
  rw [ku_00,ku_01,kp_oo,kp_zz,ks_oz]
theorem kq_1:c2 (cu kX kY) 1=ko:=by
  unfold c2
  rw [ku_10,ku_11,kp_zz,kp_oo,ks_zo]
theorem kq_2:c2 (cu kX kY) 2=ko:=by
  unfold c2
  rw [ku_20,ku_21,kp_mm,kp_zz,ks_oz]
theorem km_0:mn (cu kX kY) 1 2=ko:=by
  unfold mn pL
  rw [ku_10,ku_21,ku_20,ku_11,kp_zz,kp_mo,kn_m,ks_zo]
theorem kz_0:sz (cu kX kY) 1 2=ko:=by
  unfold sz pL
  rw [ku_10,ku_21,ku_20,ku_11,kp_zz,kp_mo,ka_z,ka_m,ks_zo]
theorem kt_0:ct (cu kX kY) 0=ko:=by
  show fprod (c2 (cu kX kY) 0) (mn (cu kX kY) 1 2)=_
  rw [kq_0,km_0,kp_oo]
theorem ke_0:cs (cu kX kY) 0=ko:=by
  show fprod (sz (cu kX kY) 1 2) (c2 (cu kX kY) 0)=_
  rw [kq_0,kz_0,kp_oo]
theorem km_1:mn (cu kX kY) 2 0=ky:=by
  unfold mn pL
  rw [ku_20,ku_01,ku_00,ku_21,kp_mz,kp_oz,kn_z,ks_yy]
theorem kz_1:sz (cu kX kY) 2 0=kz:=by
  unfold sz pL
  rw [ku_20,ku_01,ku_00,ku_21,kp_mz,kp_oz,ka_y,ka_z,ks_zz]
theorem kt_1:ct (cu kX kY) 1=ky:=by
  show fprod (c2 (cu kX kY) 1) (mn (cu kX kY) 2 0)=_
  rw [kq_1,km_1,kp_oy]
theorem ke_1:cs (cu kX kY) 1=kz:=by
  show fprod (sz (cu kX kY) 2 0) (c2 (cu kX kY) 1)=_
  rw [kq_1,kz_1,kp_zo]
theorem km_2:mn (cu kX kY) 0 1=ko:=by
  unfold mn pL
  rw [ku_00,ku_11,ku_10,ku_01,kp_oo,kp_zz,kn_z,ks_oy]
theorem kz_2:sz (cu kX kY) 0 1=ko:=by
  unfold sz pL
  rw [ku_00,ku_11,ku_10,ku_01,kp_oo,kp_zz,ka_o,ka_z,ks_oz]
theorem kt_2:ct (cu kX kY) 2=ko:=by
  show fprod (c2 (cu kX kY) 2) (mn (cu kX kY) 0 1)=_
  rw [kq_2,km_2,kp_oo]
theorem ke_2:cs (cu kX kY) 2=ko:=by
  show fprod (sz (cu kX kY) 0 1) (c2 (cu kX kY) 2)=_
  rw [kq_2,kz_2,kp_oo]
theorem k_cV:cV (cu kX kY) 3=kt:=by
  show fsum (fsum (fsum kz (ct (cu kX kY) 0)) (ct (cu kX kY) 1)) (ct (cu kX kY) 2)=_
  rw [kt_0,kt_1,kt_2,ks_zo,ks_oy,ks_oo]
theorem k_cS:cS (cu kX kY) 3=kt:=by
  show fsum (fsum (fsum kz (cs (cu kX kY) 0)) (cs (cu kX kY) 1)) (cs (cu kX kY) 2)=_
  rw [ke_0,ke_1,ke_2,ks_zo,ks_oz,ks_oo]
theorem kA_t:fprod cA kt=4387631936965705734:=cfprod_ev rng_cA (by decide) kr_t (by decide) (by unfold rng; omega) (by decide +kernel)
set_option maxRecDepth 100000 in
set_option maxHeartbeats 1000000 in
theorem alive11 (w:World):Calls Tryz.prog 10 #[] w fun e w'=>e=.returned (.bool true)∧Below w.heap.size w w':=by
  have CS:Hid (∀ W,Calls Tryz.prog 25 #[.agg #[.int .i64 4607182418800017408,.int .i64 0],.agg #[.int .i64 0,.int .i64 4607182418800017408],.agg #[.int .i64 (-4616189618054758400),.int .i64 0],.agg #[.int .i64 0,.int .i64 0]] W fun e w'=>e=.returned (.tuple #[.agg #[.int .i64 1,.int .i64 1],.int .i64 0])∧Below W.heap.size W w'):=fun W=>by
    have:=cSign1 (px:=kX) (py:=kY) (rng4 kr_o kr_z kr_m kr_z) (rng4 kr_z kr_o kr_z kr_z) (fun i hi=>match i,hi with
      | 0,_=>⟨by decide,by decide⟩
      | 1,_=>⟨by decide,by decide⟩
      | 2,_=>⟨by decide,by decide⟩
      | 3,_=>⟨by decide,by decide⟩) (by rw [k_cV,k_cS,kA_t]; decide) W
    rw [k_cV,show sgP kt=1 by decide] at this
    exact this
  have CN:Hid (∀ W,Calls Tryz.prog 13 #[.int .i64 0] W fun r w'=>r=.returned (.int .i64 0)∧w'=W):=fun W=>cnum11 _ W
  go_enter Tryz.func10,Tryz.ntmps10
  go_wp2_with fail
  refine (CS.out _).mono ?_
  rintro _ y1 ⟨rfl,hw⟩
  have v_k:=heap_a1 y1 (.cells #[.int .i64 1,.int .i64 1] 28)
  have k0:=blkC v_k 0 rfl
  have k1:=blkC v_k 1 rfl
  go_wp2_with (first | (go_at_call 13; refine (CN.out _).mono ?_; rintro _ _ ⟨rfl,rfl⟩))
  go_ret
  exact ⟨rfl,bel_trans hw (bel_alloc _ _)⟩
set_option maxRecDepth 100000 in
set_option maxHeartbeats 4000000 in
theorem osame_D {w:World} {x y:Value} {A B:Int} (hx:DNum w x A) (hy:DNum w y B) :
    Calls Tryz.prog 14 #[x,y] w fun r w'=>r=.returned (.bool (decide (A=B)))∧Below w.heap.size w w':=by
  obtain ⟨g,s,m,e,rfl,dx,ao,n,ca,a,rfl,hR,hN,rfl⟩:=hx
  obtain ⟨g',s',m',e',rfl,dy,bo,n',cb,b,rfl,hR',hN',rfl⟩:=hy
  have hu:A=B->g=g'∧val a n=val b n'∧e=e':=fun q=>by subst q; exact dx.unique dy
  have hm1:=hR.max
  have hl1:=hR.le
  have hm2:=hR'.max
  have hl2:=hR'.le
  have hb2:=bel_alloc2 w (.cells #[.bool g,.slice ao n ca,.int .i64 e] 40) (.cells #[.bool g',.slice bo n' cb,.int .i64 e'] 40)
  by_cases hg:g=g'∧e=e'∧n=n'
  . obtain ⟨rfl,rfl,rfl⟩:=hg
    have q0:=heap_a2 w (.cells #[.bool g,.slice ao n ca,.int .i64 e] 40) (.cells #[.bool g,.slice bo n cb,.int .i64 e] 40)
    have q1:=heap_b2 w (.cells #[.bool g,.slice ao n ca,.int .i64 e] 40) (.cells #[.bool g,.slice bo n cb,.int .i64 e] 40)
    have HR:=hR.keeps hb2
    have HR':=hR'.keeps hb2
    have hAB:(∀ i,i<n->a i=b i)->A=B:=fun q=>by rw [dx.val,dy.val,val_congr q]
    go_enter Tryz.func14,Tryz.ntmps14
    go_wp2_with fail
    have k1:=blkC q0 1 rfl
    have j1:=blkC q1 1 rfl
    clear q0 q1 hu hR hR'
    generalize (w.alloc (.cells #[.bool g,.slice ao n ca,.int .i64 e] 40)).alloc (.cells #[.bool g,.slice bo n cb,.int .i64 e] 40)=wx at hb2 k1 j1 HR HR' ⊢
    have HNa:Hid (Nrm a n):=hN
    have HNb:Hid (Nrm b n):=hN'
    have HAB:Hid ((∀ i,i<n->a i=b i)->A=B):=hAB
    have HBA:Hid (A=B->∀ i,i<n->a i=b i):=fun q=>val_inj hN.1 hN'.1 (by subst q; exact (dx.unique dy).2.1)
    clear hN hN' hAB dx dy
    go_loopw [5] (fun i wr=>∃ k:Nat,k<=n∧i=.int .i64 k∧Hid (∀ i,i<k->a i=b i)∧Below wx.heap.size wx wr) (fun i _=>n-(intOf i).toNat)
    case atStart=>exact ⟨0,Nat.zero_le _,rfl,fun i hi=>by omega,bel_refl _⟩
    case round=>
      obtain ⟨k,hk,rfl,HS,hbw⟩:=hrel
      have k1':=cell_keeps k1 hbw
      have j1':=cell_keeps j1 hbw
      by_cases hlt:k<n
      . obtain ⟨ba,fa,rfl,hba,hca⟩:=HR.spot (by omega)
        obtain ⟨bb,fb,rfl,hbb,hcb⟩:=HR'.spot (by omega)
        have c1:=(hbw.cell (p:=⟨ba,fa+k,none⟩) hba).trans (hca k (by omega))
        have c2:=(hbw.cell (p:=⟨bb,fb+k,none⟩) hbb).trans (hcb k (by omega))
        clear hca hcb
        by_cases h1:a k=b k
        . have h2:(a k == b k)=true:=by simpa using h1
          rw [h1] at c1
          go_wp2_with fail
          go_quiet (fail)
          go_wp2
          go_roundw
          case rel=>exact ⟨k+1,by omega,by go_num,fun i hi=>by by_cases e:i=k; (· rw [e]; exact h1); (· exact HS.out i (by omega)),bDrewN hbw _⟩
          case measure=>simp [intOf]; try omega
        . have h2:(a k == b k)=false:=by simpa using h1
          have hne:A≠B:=fun q=>h1 (HBA.out q k hlt)
          have hdd:Hid (false=decide (A=B)):=(decide_eq_false hne).symm
          clear hne
          go_wp2_with fail
          go_quiet (fail)
          go_wp2
          go_ret
          exact ⟨ret_bool hdd.out,bel_trans hb2 (bDrewN hbw _)⟩
      . obtain rfl:k=n:=by omega
        have hdd:Hid (true=decide (A=B)):=(decide_eq_true (HAB.out HS.out)).symm
        go_wp2
        go_ret
        exact ⟨ret_bool hdd.out,bel_trans hb2 hbw⟩
  . have hne:A≠B:=fun q=>hg ⟨(hu q).1,(hu q).2.2,nrm_len hN hN' (hu q).2.1⟩
    rw [decide_eq_false hne]
    by_cases c1:g=g'
    . subst c1
      by_cases c2:e=e'
      . subst c2
        have c3:n≠n':=fun q=>hg ⟨rfl,rfl,q⟩
        have c4:((n:Int) == (n':Int))=false:=by simp; omega
        clear hu
        go_enter Tryz.func14,Tryz.ntmps14
        go_wp2
        all_goals go_ret
        all_goals exact ⟨rfl,hb2⟩
      . have c4:(e == e')=false:=by simpa using c2
        clear hu
        go_enter Tryz.func14,Tryz.ntmps14
        go_wp2
        all_goals go_ret
        all_goals exact ⟨rfl,hb2⟩
    . have c4:(g == g')=false:=by simpa using c1
      clear hu
      go_enter Tryz.func14,Tryz.ntmps14
      go_wp2
      all_goals go_ret
      all_goals exact ⟨rfl,hb2⟩
end Go.Proofs.YtjjihmnbdeeedaaGreatDoor
namespace Go.Proofs.YtjjihmnbdeeedaaGreatDoor
open Go Go.ChangeShapes Go.WideShapes Go.ChangeAt Go.RowKit Go.Proofs.YtjjihmnbdeeedaaGreatDoor.M
theorem q_cellsPoint:Tryz.prog.cellsOf 33=2:=by kernel_rfl
theorem q_cellsInt:Tryz.prog.cellsOf 3=1:=by kernel_rfl
set_option maxRecDepth 100000 in
theorem point_cells {H:Type} {enc:TypeId × Value->H} {W:World} {n:Nat} {cs:List Value} {x:DataW H × List MemPlace}
    (h:DataW.trod enc Tryz.prog W 0 (fun _=>true) true n 33 cs=some x) :
    ∃ a b:Int,cs=[.int .i64 a,.int .i64 b]∧rng a∧rng b:=by
  obtain ⟨xs,m,_,rfl,hl,hlen,hf⟩:=DataW.trod_struct Tryz.underlying33 h
  rw [q_cellsPoint] at hl
  match cs,hl with
  | [v0,v1],_=>
    match xs,hlen with
    | [y0,y1],_=>
      have f0:DataW.trod enc Tryz.prog W 0 (fun _=>true) true m 3 (([v0,v1].drop 0).take (Tryz.prog.cellsOf 3))=some y0:=hf 0 _ rfl
      have f1:DataW.trod enc Tryz.prog W 0 (fun _=>true) true m 3 (([v0,v1].drop 1).take (Tryz.prog.cellsOf 3))=some y1:=hf 1 _ rfl
      rw [q_cellsInt] at f0 f1
      simp only [List.drop_zero,List.drop_succ_cons,List.take_succ_cons,List.take_zero] at f0 f1
      obtain ⟨k0,e0,_,w0⟩:=DataW.trod_int Tryz.underlying3 f0
      obtain ⟨k1,e1,_,w1⟩:=DataW.trod_int Tryz.underlying3 f1
      simp at e0 e1
      subst e0 e1
      exact ⟨k0,k1,rfl,rng_of w0,rng_of w1⟩
set_option maxRecDepth 100000 in
theorem point_of {H:Type} {enc:TypeId × Value->H} {W:World} {base:Nat} {v:Value} {d:DataW H} {p:List MemPlace} (hv:Value.okWide Tryz.prog W .any base 33 v)
    (h:DataW.Trod enc Tryz.prog W 0 (fun _=>true) true 33 v d p):∃ a b:Int,v=.agg #[.int .i64 a,.int .i64 b]∧rng a∧rng b:=by
  obtain ⟨cs,rfl,hc⟩:=okWide_struct Tryz.underlying33 hv
  obtain ⟨fuel,hf⟩:=h
  obtain ⟨a,b,hr,h1,h2⟩:=point_cells hf
  refine ⟨a,b,?_,h1,h2⟩
  congr 1
  have:cs.toList=[.int .i64 a,.int .i64 b]:=by simpa [Value.cells] using hr
  exact Array.toList_inj.1 this
end Go.Proofs.YtjjihmnbdeeedaaGreatDoor
