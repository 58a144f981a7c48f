/-
  Package solid's verdict, by its contract (tools/sd_w.py).
-/
import Derived.Test.YtobofhgpidbpmaaDoorSt17
set_option linter.unusedVariables false
set_option linter.unusedSimpArgs false
namespace Go.Proofs.YtobofhgpidbpmaaDoor
open Go Go.RowKit Go.Proofs.YtobofhgpidbpmaaDoor.M
set_option maxRecDepth 100000 in
set_option maxHeartbeats 2000000 in
theorem vd_wild_side (ao:Option Addr) (cap:Nat) (s:Nat->Nat->Int) (w:World) (h:Sps w ao 4 cap s) (hr:∀ i k,rng (s i k)) (hok:allB (sok s) 4=true) (hz:∀ i,i<=3->∀ k,k<3->pok (s i k)=true) (hno:allB (stm s) 4=false) (H:Hold4 w) :
    Calls Tryd.prog 14 #[.agg #[.func (.func 18) #[] #[],.float .f64 4380876537524649991,.func (.func 19) #[] #[]],.slice ao 4 cap] w fun e w'=>e=.returned (.tuple #[.agg #[.int .i64 (ord (dX (vL s 3) 0 1 2) 0),.int .i64 6],.int .i64 0])∧Below w.heap.size w w':=by
  have CG:Hid (∀ W,Below w.heap.size w W->Calls Tryd.prog 20 #[.slice ao 4 cap] W fun x w'=>x=.returned (.bool true)∧Below W.heap.size W w'):=fun W hW=>by
    have:=sgood_any ao 4 cap s W (h.keeps hW) hr
    rw [hok] at this
    exact this
  have CT:Hid (∀ W,Below w.heap.size w W->Calls Tryd.prog 21 #[.slice ao 4 cap] W fun x w'=>x=.returned (.bool false)∧Below W.heap.size W w'):=fun W hW=>by
    have:=stame_any ao 4 cap s W (h.keeps hW) hr
    rw [hno] at this
    exact this
  have CX:Hid (∀ W st,Below w.heap.size w W->Calls Tryd.prog 22 #[.agg #[.func (.func 18) #[] #[],.float .f64 4380876537524649991,.func (.func 19) #[] #[]],.slice ao 4 cap,.int .i64 st] W fun e w'=>e=.returned (.agg #[.int .i64 (ord (dX (vL s 3) 0 1 2) 0),.int .i64 st])∧Below W.heap.size W w'):=fun W st hW=>xv_side ao cap s W (h.keeps hW) hr hz (H.keeps hW) st
  clear h hr hno hok hz H
  generalize ord (dX (vL s 3) 0 1 2) 0=sg at *
  have hb0:=bel_alloc2 w (.cells #[.func (.func 18) #[] #[],.float .f64 4380876537524649991,.func (.func 19) #[] #[]] 48) (.cells #[.int .i64 0,.int .i64 0] 29)
  have q_k:=heap_a2 w (.cells #[.func (.func 18) #[] #[],.float .f64 4380876537524649991,.func (.func 19) #[] #[]] 48) (.cells #[.int .i64 0,.int .i64 0] 29)
  have r_k:=heap_b2 w (.cells #[.func (.func 18) #[] #[],.float .f64 4380876537524649991,.func (.func 19) #[] #[]] 48) (.cells #[.int .i64 0,.int .i64 0] 29)
  have qv0:=blkC q_k 0 rfl
  have qv1:=blkC q_k 1 rfl
  have qv2:=blkC q_k 2 rfl
  go_enter Tryd.func14,Tryd.ntmps14
  go_wp2_with fail
  clear qv0 qv1 qv2
  generalize (w.alloc (.cells #[.func (.func 18) #[] #[],.float .f64 4380876537524649991,.func (.func 19) #[] #[]] 48)).alloc (.cells #[.int .i64 0,.int .i64 0] 29)=x0 at hb0 q_k r_k ⊢
  refine (CG.out _ hb0).mono ?_
  rintro _ y1 ⟨rfl,hw1⟩
  replace q_k:=blk_us hw1 q_k
  replace r_k:=blk_us hw1 r_k
  replace hb0:=bel_trans hb0 hw1
  go_wp2_with fail
  refine (CT.out _ hb0).mono ?_
  rintro _ y2 ⟨rfl,hw2⟩
  replace q_k:=blk_us hw2 q_k
  replace r_k:=blk_us hw2 r_k
  replace hb0:=bel_trans hb0 hw2
  have c0:=blkC q_k 0 rfl
  have c1:=blkC q_k 1 rfl
  have c2:=blkC q_k 2 rfl
  go_wp2_with fail
  clear c0 c1 c2
  refine (CX.out _ _ hb0).mono ?_
  rintro _ y9 ⟨rfl,hw9⟩
  replace r_k:=blk_us hw9 r_k
  replace hb0:=bel_trans hb0 hw9
  have k0:=blkC r_k 0 rfl
  have k1:=blkC r_k 1 rfl
  have z0:=blkF r_k 0
  have z1:=blkF r_k 1
  go_wp2
  exact bodyPost_ret (v:=.tuple #[.agg #[.int .i64 sg,.int .i64 6],.int .i64 0]) (by simp [results,Tryd.results14,go_sem,k0,k1]) rfl ⟨rfl,by first | exact (hb0.setCell (p:=⟨w.heap.size+1,0,none⟩) (show w.heap.size<=w.heap.size+1 by omega) _).setCell (p:=⟨w.heap.size+1,1,none⟩) (show w.heap.size<=w.heap.size+1 by omega) _ | exact hb0⟩
set_option maxRecDepth 100000 in
set_option maxHeartbeats 2000000 in
theorem vd_yes_side (ao:Option Addr) (cap:Nat) (s:Nat->Nat->Int) (w:World) (h:Sps w ao 4 cap s) (hr:∀ i k,rng (s i k)) (hok:allB (sok s) 4=true) (hz:∀ i,i<=3->∀ k,k<3->pok (s i k)=true) (hto:allB (stm s) 4=true) (ht:∀ i,i<=3->∀ k,k<3->tame (s i k)=true) (hd:key (fprod sA (sxz (uL s 3) 0 1 2))<rg (dt (uL s 3) 0 1 2)) (H:Hold4 w) :
    Calls Tryd.prog 14 #[.agg #[.func (.func 18) #[] #[],.float .f64 4380876537524649991,.func (.func 19) #[] #[]],.slice ao 4 cap] w fun e w'=>e=.returned (.tuple #[.agg #[.int .i64 (ord (dX (vL s 3) 0 1 2) 0),.int .i64 1],.int .i64 0])∧Below w.heap.size w w':=by
  have CG:Hid (∀ W,Below w.heap.size w W->Calls Tryd.prog 20 #[.slice ao 4 cap] W fun x w'=>x=.returned (.bool true)∧Below W.heap.size W w'):=fun W hW=>by
    have:=sgood_any ao 4 cap s W (h.keeps hW) hr
    rw [hok] at this
    exact this
  have CT:Hid (∀ W,Below w.heap.size w W->Calls Tryd.prog 21 #[.slice ao 4 cap] W fun x w'=>x=.returned (.bool true)∧Below W.heap.size W w'):=fun W hW=>by
    have:=stame_any ao 4 cap s W (h.keeps hW) hr
    rw [hto] at this
    exact this
  have hzt:∀ i,i<=3->∀ k,k<3->Mz (s i k):=fun i hi k hk=>tame_Mz (hr i k) (ht i hi k hk)
  obtain ⟨rD,pD,rS,pS⟩:=fx_side hzt
  have cM:=cls_prod (show pok sA=true by decide) rng_sA pS rS
  have rM:rng (fprod sA (sxz (uL s 3) 0 1 2)):=fprod_rng rng_sA rS
  obtain ⟨q1,q2⟩:=q_rg rD
  have kR:key (rg (dt (uL s 3) 0 1 2))=rg (dt (uL s 3) 0 1 2):=q_key q2
  have pR:cls (rg (dt (uL s 3) 0 1 2))≠4:=by rw [q_cls rD]; exact q_fin pD
  have hM:∀ W,(binOp .mul 45 (.float .f64 4380876537524649991) (.float .f64 (wd (sxz (uL s 3) 0 1 2)))).run Tryd.prog W=.ok (.float .f64 (wd (fprod sA (sxz (uL s 3) 0 1 2)))) W:=fun W=>by
    have:=run_prodN (P:=Tryd.prog) 45 (FW.pat (q_fin (show pok sA=true by decide)) rng_sA) (FW.pat (q_fin pS) rS) cM W
    exact this
  have CL:Hid (∀ W,Below w.heap.size w W->Calls Tryd.prog 23 #[.slice ao 4 cap,.func (.func 24) #[] #[]] W fun e w'=>e=.returned (.agg #[.float .f64 (wd (uL s 3 0 0)),.float .f64 (wd (uL s 3 0 1)),.float .f64 (wd (uL s 3 0 2)),.float .f64 (wd (uL s 3 1 0)),.float .f64 (wd (uL s 3 1 1)),.float .f64 (wd (uL s 3 1 2)),.float .f64 (wd (uL s 3 2 0)),.float .f64 (wd (uL s 3 2 1)),.float .f64 (wd (uL s 3 2 2)),.float .f64 (wd (uL s 3 3 0)),.float .f64 (wd (uL s 3 3 1)),.float .f64 (wd (uL s 3 3 2))])∧Below W.heap.size W w'):=fun W hW=>slegsF_any ao 4 3 cap s W (h.keeps hW) rfl (by decide) hzt (uL s 3) rfl
  have CF:Hid (∀ W,Calls Tryd.prog 18 #[.agg #[.float .f64 (wd (uL s 3 0 0)),.float .f64 (wd (uL s 3 0 1)),.float .f64 (wd (uL s 3 0 2)),.float .f64 (wd (uL s 3 1 0)),.float .f64 (wd (uL s 3 1 1)),.float .f64 (wd (uL s 3 1 2)),.float .f64 (wd (uL s 3 2 0)),.float .f64 (wd (uL s 3 2 1)),.float .f64 (wd (uL s 3 2 2)),.float .f64 (wd (uL s 3 3 0)),.float .f64 (wd (uL s 3 3 1)),.float .f64 (wd (uL s 3 3 2))]] W fun e w'=>e=.returned (.tuple #[.float .f64 (wd (dt (uL s 3) 0 1 2)),.float .f64 (wd (sxz (uL s 3) 0 1 2))])∧Below W.heap.size W w'):=fun W=>ssideF_any (uL_fx hzt) W
  have CA:Hid (∀ W,Calls Tryd.prog 25 #[.float .f64 (wd (dt (uL s 3) 0 1 2))] W fun e w'=>e=.returned (.float .f64 (wd (rg (dt (uL s 3) 0 1 2))))∧w'=W):=fun W=>mathAbs rD W
  have CC:Hid (∀ W,Calls Tryd.prog 26 #[.float .f64 (wd (dt (uL s 3) 0 1 2)),.float .f64 0] W fun r w'=>r=.returned (.int .i64 (ord (dX (vL s 3) 0 1 2) 0))∧w'=W):=fun W=>by
    have:=cmpFloat rD pD W
    rw [sgn_side hr hzt hd] at this
    exact this
  have ho:FloatKind.f64.format.order (wd (rg (dt (uL s 3) 0 1 2))) (wd (fprod sA (sxz (uL s 3) 0 1 2)))=some .gt:=q_gt q1 rM pR cM (by rw [kR]; exact hd)
  clear h hr hok hz hto ht hd H hzt rD pD rS pS cM rM q1 q2 kR pR
  generalize ord (dX (vL s 3) 0 1 2) 0=sg at *
  generalize wd (fprod sA (sxz (uL s 3) 0 1 2))=MM at *
  generalize wd (rg (dt (uL s 3) 0 1 2))=AA at *
  generalize wd (dt (uL s 3) 0 1 2)=DD at *
  generalize wd (sxz (uL s 3) 0 1 2)=SS at *
  have hb0:=bel_alloc2 w (.cells #[.func (.func 18) #[] #[],.float .f64 4380876537524649991,.func (.func 19) #[] #[]] 48) (.cells #[.int .i64 0,.int .i64 0] 29)
  have q_k:=heap_a2 w (.cells #[.func (.func 18) #[] #[],.float .f64 4380876537524649991,.func (.func 19) #[] #[]] 48) (.cells #[.int .i64 0,.int .i64 0] 29)
  have r_k:=heap_b2 w (.cells #[.func (.func 18) #[] #[],.float .f64 4380876537524649991,.func (.func 19) #[] #[]] 48) (.cells #[.int .i64 0,.int .i64 0] 29)
  have qv0:=blkC q_k 0 rfl
  have qv1:=blkC q_k 1 rfl
  have qv2:=blkC q_k 2 rfl
  go_enter Tryd.func14,Tryd.ntmps14
  go_wp2_with fail
  clear qv0 qv1 qv2
  generalize (w.alloc (.cells #[.func (.func 18) #[] #[],.float .f64 4380876537524649991,.func (.func 19) #[] #[]] 48)).alloc (.cells #[.int .i64 0,.int .i64 0] 29)=x0 at hb0 q_k r_k ⊢
  refine (CG.out _ hb0).mono ?_
  rintro _ y1 ⟨rfl,hw1⟩
  replace q_k:=blk_us hw1 q_k
  replace r_k:=blk_us hw1 r_k
  replace hb0:=bel_trans hb0 hw1
  go_wp2_with fail
  refine (CT.out _ hb0).mono ?_
  rintro _ y2 ⟨rfl,hw2⟩
  replace q_k:=blk_us hw2 q_k
  replace r_k:=blk_us hw2 r_k
  replace hb0:=bel_trans hb0 hw2
  go_wp2_with fail
  have KK:∀ W,Below y2.heap.size y2 W->W.cell? ⟨w.heap.size,0,none⟩=some (.func (.func 18) #[] #[]):=fun W hb=>q_cell (blkC q_k 0 rfl) hb
  have hC0:=(bel_refl y2).drew
  go_region_held3 (fun W=>W.cell? ⟨w.heap.size,0,none⟩=some (.func (.func 18) #[] #[]))
    (with_reducible first | assumption | exact KK _ hC0 | exact KK _ hC1 | exact KK _ hC2 | fail)
    (first | (go_at_call 18; refine (CF.out _).mono ?_; rintro _ y4 ⟨rfl,hw4⟩; have hC2:=bel_trans hC1 hw4) | (go_at_call 23; refine (CL.out _ (bel_trans hb0 hC0)).mono ?_; rintro _ y3 ⟨rfl,hw3⟩; have hC1:=bel_trans hC0 hw3))
  replace q_k:=blk_us hC2 q_k
  replace r_k:=blk_us hC2 r_k
  replace hb0:=bel_trans hb0 hC2
  clear KK hC0 hC1 hC2 hw3 hw4
  go_wp2_with fail
  have c1:=blkC q_k 1 rfl
  go_quiet (first | (go_at_call 25; with_reducible exact Calls.quiet_of_same (CA.out _)))
  go_wp2_with fail
  have hdq:=bDrewN (bel_refl y4) nq
  replace q_k:=blk_us hdq q_k
  replace r_k:=blk_us hdq r_k
  replace hb0:=bel_trans hb0 hdq
  clear c1
  generalize y4.drewN nq=y5 at q_k r_k hb0 ⊢
  refine (CC.out _).mono ?_
  rintro _ wz ⟨rfl,hwz⟩
  replace hwz:=hwz.symm
  subst hwz
  have k0:=blkC r_k 0 rfl
  have k1:=blkC r_k 1 rfl
  have z0:=blkF r_k 0
  have z1:=blkF r_k 1
  go_wp2
  exact bodyPost_ret (v:=.tuple #[.agg #[.int .i64 sg,.int .i64 1],.int .i64 0]) (by simp [results,Tryd.results14,go_sem,k0,k1]) rfl ⟨rfl,by first | exact (hb0.setCell (p:=⟨w.heap.size+1,0,none⟩) (show w.heap.size<=w.heap.size+1 by omega) _).setCell (p:=⟨w.heap.size+1,1,none⟩) (show w.heap.size<=w.heap.size+1 by omega) _ | exact hb0⟩
set_option maxRecDepth 100000 in
set_option maxHeartbeats 2000000 in
theorem vd_no4_side (ao:Option Addr) (cap:Nat) (s:Nat->Nat->Int) (w:World) (h:Sps w ao 4 cap s) (hr:∀ i k,rng (s i k)) (hok:allB (sok s) 4=true) (hz:∀ i,i<=3->∀ k,k<3->pok (s i k)=true) (hto:allB (stm s) 4=true) (ht:∀ i,i<=3->∀ k,k<3->tame (s i k)=true) (hd:rg (dt (uL s 3) 0 1 2)<=key (fprod sA (sxz (uL s 3) 0 1 2))) (H:Hold4 w) :
    Calls Tryd.prog 14 #[.agg #[.func (.func 18) #[] #[],.float .f64 4380876537524649991,.func (.func 19) #[] #[]],.slice ao 4 cap] w fun e w'=>e=.returned (.tuple #[.agg #[.int .i64 (ord (dX (vL s 3) 0 1 2) 0),.int .i64 4],.int .i64 0])∧Below w.heap.size w w':=by
  have CG:Hid (∀ W,Below w.heap.size w W->Calls Tryd.prog 20 #[.slice ao 4 cap] W fun x w'=>x=.returned (.bool true)∧Below W.heap.size W w'):=fun W hW=>by
    have:=sgood_any ao 4 cap s W (h.keeps hW) hr
    rw [hok] at this
    exact this
  have CT:Hid (∀ W,Below w.heap.size w W->Calls Tryd.prog 21 #[.slice ao 4 cap] W fun x w'=>x=.returned (.bool true)∧Below W.heap.size W w'):=fun W hW=>by
    have:=stame_any ao 4 cap s W (h.keeps hW) hr
    rw [hto] at this
    exact this
  have CX:Hid (∀ W st,Below w.heap.size w W->Calls Tryd.prog 22 #[.agg #[.func (.func 18) #[] #[],.float .f64 4380876537524649991,.func (.func 19) #[] #[]],.slice ao 4 cap,.int .i64 st] W fun e w'=>e=.returned (.agg #[.int .i64 (ord (dX (vL s 3) 0 1 2) 0),.int .i64 st])∧Below W.heap.size W w'):=fun W st hW=>xv_side ao cap s W (h.keeps hW) hr hz (H.keeps hW) st
  have hzt:∀ i,i<=3->∀ k,k<3->Mz (s i k):=fun i hi k hk=>tame_Mz (hr i k) (ht i hi k hk)
  obtain ⟨rD,pD,rS,pS⟩:=fx_side hzt
  have cM:=cls_prod (show pok sA=true by decide) rng_sA pS rS
  have rM:rng (fprod sA (sxz (uL s 3) 0 1 2)):=fprod_rng rng_sA rS
  obtain ⟨q1,q2⟩:=q_rg rD
  have kR:key (rg (dt (uL s 3) 0 1 2))=rg (dt (uL s 3) 0 1 2):=q_key q2
  have pR:cls (rg (dt (uL s 3) 0 1 2))≠4:=by rw [q_cls rD]; exact q_fin pD
  have hM:∀ W,(binOp .mul 45 (.float .f64 4380876537524649991) (.float .f64 (wd (sxz (uL s 3) 0 1 2)))).run Tryd.prog W=.ok (.float .f64 (wd (fprod sA (sxz (uL s 3) 0 1 2)))) W:=fun W=>by
    have:=run_prodN (P:=Tryd.prog) 45 (FW.pat (q_fin (show pok sA=true by decide)) rng_sA) (FW.pat (q_fin pS) rS) cM W
    exact this
  have CL:Hid (∀ W,Below w.heap.size w W->Calls Tryd.prog 23 #[.slice ao 4 cap,.func (.func 24) #[] #[]] W fun e w'=>e=.returned (.agg #[.float .f64 (wd (uL s 3 0 0)),.float .f64 (wd (uL s 3 0 1)),.float .f64 (wd (uL s 3 0 2)),.float .f64 (wd (uL s 3 1 0)),.float .f64 (wd (uL s 3 1 1)),.float .f64 (wd (uL s 3 1 2)),.float .f64 (wd (uL s 3 2 0)),.float .f64 (wd (uL s 3 2 1)),.float .f64 (wd (uL s 3 2 2)),.float .f64 (wd (uL s 3 3 0)),.float .f64 (wd (uL s 3 3 1)),.float .f64 (wd (uL s 3 3 2))])∧Below W.heap.size W w'):=fun W hW=>slegsF_any ao 4 3 cap s W (h.keeps hW) rfl (by decide) hzt (uL s 3) rfl
  have CF:Hid (∀ W,Calls Tryd.prog 18 #[.agg #[.float .f64 (wd (uL s 3 0 0)),.float .f64 (wd (uL s 3 0 1)),.float .f64 (wd (uL s 3 0 2)),.float .f64 (wd (uL s 3 1 0)),.float .f64 (wd (uL s 3 1 1)),.float .f64 (wd (uL s 3 1 2)),.float .f64 (wd (uL s 3 2 0)),.float .f64 (wd (uL s 3 2 1)),.float .f64 (wd (uL s 3 2 2)),.float .f64 (wd (uL s 3 3 0)),.float .f64 (wd (uL s 3 3 1)),.float .f64 (wd (uL s 3 3 2))]] W fun e w'=>e=.returned (.tuple #[.float .f64 (wd (dt (uL s 3) 0 1 2)),.float .f64 (wd (sxz (uL s 3) 0 1 2))])∧Below W.heap.size W w'):=fun W=>ssideF_any (uL_fx hzt) W
  have CA:Hid (∀ W,Calls Tryd.prog 25 #[.float .f64 (wd (dt (uL s 3) 0 1 2))] W fun e w'=>e=.returned (.float .f64 (wd (rg (dt (uL s 3) 0 1 2))))∧w'=W):=fun W=>mathAbs rD W
  have ho:FloatKind.f64.format.order (wd (rg (dt (uL s 3) 0 1 2))) (wd (fprod sA (sxz (uL s 3) 0 1 2)))=some .lt∨FloatKind.f64.format.order (wd (rg (dt (uL s 3) 0 1 2))) (wd (fprod sA (sxz (uL s 3) 0 1 2)))=some .eq:=by
    rcases Int.lt_or_eq_of_le hd with g | g
    . exact .inl (q_lt q1 rM pR cM (by rw [kR]; exact g))
    . exact .inr (q_eq q1 rM pR cM (by rw [kR]; exact g))
  clear h hr hok hz hto ht hd H hzt rD pD rS pS cM rM q1 q2 kR pR
  generalize ord (dX (vL s 3) 0 1 2) 0=sg at *
  generalize wd (fprod sA (sxz (uL s 3) 0 1 2))=MM at *
  generalize wd (rg (dt (uL s 3) 0 1 2))=AA at *
  generalize wd (dt (uL s 3) 0 1 2)=DD at *
  generalize wd (sxz (uL s 3) 0 1 2)=SS at *
  have hb0:=bel_alloc2 w (.cells #[.func (.func 18) #[] #[],.float .f64 4380876537524649991,.func (.func 19) #[] #[]] 48) (.cells #[.int .i64 0,.int .i64 0] 29)
  have q_k:=heap_a2 w (.cells #[.func (.func 18) #[] #[],.float .f64 4380876537524649991,.func (.func 19) #[] #[]] 48) (.cells #[.int .i64 0,.int .i64 0] 29)
  have r_k:=heap_b2 w (.cells #[.func (.func 18) #[] #[],.float .f64 4380876537524649991,.func (.func 19) #[] #[]] 48) (.cells #[.int .i64 0,.int .i64 0] 29)
  have qv0:=blkC q_k 0 rfl
  have qv1:=blkC q_k 1 rfl
  have qv2:=blkC q_k 2 rfl
  go_enter Tryd.func14,Tryd.ntmps14
  go_wp2_with fail
  clear qv0 qv1 qv2
  generalize (w.alloc (.cells #[.func (.func 18) #[] #[],.float .f64 4380876537524649991,.func (.func 19) #[] #[]] 48)).alloc (.cells #[.int .i64 0,.int .i64 0] 29)=x0 at hb0 q_k r_k ⊢
  refine (CG.out _ hb0).mono ?_
  rintro _ y1 ⟨rfl,hw1⟩
  replace q_k:=blk_us hw1 q_k
  replace r_k:=blk_us hw1 r_k
  replace hb0:=bel_trans hb0 hw1
  go_wp2_with fail
  refine (CT.out _ hb0).mono ?_
  rintro _ y2 ⟨rfl,hw2⟩
  replace q_k:=blk_us hw2 q_k
  replace r_k:=blk_us hw2 r_k
  replace hb0:=bel_trans hb0 hw2
  go_wp2_with fail
  have KK:∀ W,Below y2.heap.size y2 W->W.cell? ⟨w.heap.size,0,none⟩=some (.func (.func 18) #[] #[]):=fun W hb=>q_cell (blkC q_k 0 rfl) hb
  have hC0:=(bel_refl y2).drew
  go_region_held3 (fun W=>W.cell? ⟨w.heap.size,0,none⟩=some (.func (.func 18) #[] #[]))
    (with_reducible first | assumption | exact KK _ hC0 | exact KK _ hC1 | exact KK _ hC2 | fail)
    (first | (go_at_call 18; refine (CF.out _).mono ?_; rintro _ y4 ⟨rfl,hw4⟩; have hC2:=bel_trans hC1 hw4) | (go_at_call 23; refine (CL.out _ (bel_trans hb0 hC0)).mono ?_; rintro _ y3 ⟨rfl,hw3⟩; have hC1:=bel_trans hC0 hw3))
  replace q_k:=blk_us hC2 q_k
  replace r_k:=blk_us hC2 r_k
  replace hb0:=bel_trans hb0 hC2
  clear KK hC0 hC1 hC2 hw3 hw4
  go_wp2_with fail
  rcases ho with ho | ho
  all_goals
    have c1:=blkC q_k 1 rfl
    go_quiet (first | (go_at_call 25; with_reducible exact Calls.quiet_of_same (CA.out _)))
    have hdq:=bDrewN (bel_refl y4) nq
    replace q_k:=blk_us hdq q_k
    replace r_k:=blk_us hdq r_k
    replace hb0:=bel_trans hb0 hdq
    clear c1
    generalize y4.drewN nq=y5 at q_k r_k hb0 ⊢
    have c0:=blkC q_k 0 rfl
    have c1:=blkC q_k 1 rfl
    have c2:=blkC q_k 2 rfl
    go_wp2_with fail
    clear c0 c1 c2
    refine (CX.out _ _ hb0).mono ?_
    rintro _ y9 ⟨rfl,hw9⟩
    replace r_k:=blk_us hw9 r_k
    replace hb0:=bel_trans hb0 hw9
    have k0:=blkC r_k 0 rfl
    have k1:=blkC r_k 1 rfl
    have z0:=blkF r_k 0
    have z1:=blkF r_k 1
    go_wp2
    exact bodyPost_ret (v:=.tuple #[.agg #[.int .i64 sg,.int .i64 4],.int .i64 0]) (by simp [results,Tryd.results14,go_sem,k0,k1]) rfl ⟨rfl,by first | exact (hb0.setCell (p:=⟨w.heap.size+1,0,none⟩) (show w.heap.size<=w.heap.size+1 by omega) _).setCell (p:=⟨w.heap.size+1,1,none⟩) (show w.heap.size<=w.heap.size+1 by omega) _ | exact hb0⟩
set_option maxRecDepth 100000 in
set_option maxHeartbeats 2000000 in
theorem vd_wild_sphere (ao:Option Addr) (cap:Nat) (s:Nat->Nat->Int) (w:World) (h:Sps w ao 5 cap s) (hr:∀ i k,rng (s i k)) (hok:allB (sok s) 5=true) (hz:∀ i,i<=4->∀ k,k<3->pok (s i k)=true) (hno:allB (stm s) 5=false) (H:Hold4 w) :
    Calls Tryd.prog 14 #[.agg #[.func (.func 29) #[] #[],.float .f64 4386506037058863111,.func (.func 30) #[] #[]],.slice ao 5 cap] w fun e w'=>e=.returned (.tuple #[.agg #[.int .i64 (ord (sX (vL s 4)) 0),.int .i64 6],.int .i64 0])∧Below w.heap.size w w':=by
  have CG:Hid (∀ W,Below w.heap.size w W->Calls Tryd.prog 20 #[.slice ao 5 cap] W fun x w'=>x=.returned (.bool true)∧Below W.heap.size W w'):=fun W hW=>by
    have:=sgood_any ao 5 cap s W (h.keeps hW) hr
    rw [hok] at this
    exact this
  have CT:Hid (∀ W,Below w.heap.size w W->Calls Tryd.prog 21 #[.slice ao 5 cap] W fun x w'=>x=.returned (.bool false)∧Below W.heap.size W w'):=fun W hW=>by
    have:=stame_any ao 5 cap s W (h.keeps hW) hr
    rw [hno] at this
    exact this
  have CX:Hid (∀ W st,Below w.heap.size w W->Calls Tryd.prog 22 #[.agg #[.func (.func 29) #[] #[],.float .f64 4386506037058863111,.func (.func 30) #[] #[]],.slice ao 5 cap,.int .i64 st] W fun e w'=>e=.returned (.agg #[.int .i64 (ord (sX (vL s 4)) 0),.int .i64 st])∧Below W.heap.size W w'):=fun W st hW=>xv_sphere ao cap s W (h.keeps hW) hr hz (H.keeps hW) st
  clear h hr hno hok hz H
  generalize ord (sX (vL s 4)) 0=sg at *
  have hb0:=bel_alloc2 w (.cells #[.func (.func 29) #[] #[],.float .f64 4386506037058863111,.func (.func 30) #[] #[]] 48) (.cells #[.int .i64 0,.int .i64 0] 29)
  have q_k:=heap_a2 w (.cells #[.func (.func 29) #[] #[],.float .f64 4386506037058863111,.func (.func 30) #[] #[]] 48) (.cells #[.int .i64 0,.int .i64 0] 29)
  have r_k:=heap_b2 w (.cells #[.func (.func 29) #[] #[],.float .f64 4386506037058863111,.func (.func 30) #[] #[]] 48) (.cells #[.int .i64 0,.int .i64 0] 29)
  have qv0:=blkC q_k 0 rfl
  have qv1:=blkC q_k 1 rfl
  have qv2:=blkC q_k 2 rfl
  go_enter Tryd.func14,Tryd.ntmps14
  go_wp2_with fail
  clear qv0 qv1 qv2
  generalize (w.alloc (.cells #[.func (.func 29) #[] #[],.float .f64 4386506037058863111,.func (.func 30) #[] #[]] 48)).alloc (.cells #[.int .i64 0,.int .i64 0] 29)=x0 at hb0 q_k r_k ⊢
  refine (CG.out _ hb0).mono ?_
  rintro _ y1 ⟨rfl,hw1⟩
  replace q_k:=blk_us hw1 q_k
  replace r_k:=blk_us hw1 r_k
  replace hb0:=bel_trans hb0 hw1
  go_wp2_with fail
  refine (CT.out _ hb0).mono ?_
  rintro _ y2 ⟨rfl,hw2⟩
  replace q_k:=blk_us hw2 q_k
  replace r_k:=blk_us hw2 r_k
  replace hb0:=bel_trans hb0 hw2
  have c0:=blkC q_k 0 rfl
  have c1:=blkC q_k 1 rfl
  have c2:=blkC q_k 2 rfl
  go_wp2_with fail
  clear c0 c1 c2
  refine (CX.out _ _ hb0).mono ?_
  rintro _ y9 ⟨rfl,hw9⟩
  replace r_k:=blk_us hw9 r_k
  replace hb0:=bel_trans hb0 hw9
  have k0:=blkC r_k 0 rfl
  have k1:=blkC r_k 1 rfl
  have z0:=blkF r_k 0
  have z1:=blkF r_k 1
  go_wp2
  exact bodyPost_ret (v:=.tuple #[.agg #[.int .i64 sg,.int .i64 6],.int .i64 0]) (by simp [results,Tryd.results14,go_sem,k0,k1]) rfl ⟨rfl,by first | exact (hb0.setCell (p:=⟨w.heap.size+1,0,none⟩) (show w.heap.size<=w.heap.size+1 by omega) _).setCell (p:=⟨w.heap.size+1,1,none⟩) (show w.heap.size<=w.heap.size+1 by omega) _ | exact hb0⟩
set_option maxRecDepth 100000 in
set_option maxHeartbeats 2000000 in
theorem vd_yes_sphere (ao:Option Addr) (cap:Nat) (s:Nat->Nat->Int) (w:World) (h:Sps w ao 5 cap s) (hr:∀ i k,rng (s i k)) (hok:allB (sok s) 5=true) (hz:∀ i,i<=4->∀ k,k<3->pok (s i k)=true) (hto:allB (stm s) 5=true) (ht:∀ i,i<=4->∀ k,k<3->tame (s i k)=true) (hd:key (fprod sB (fS (uL s 4)))<rg (fD (uL s 4))) (H:Hold4 w) :
    Calls Tryd.prog 14 #[.agg #[.func (.func 29) #[] #[],.float .f64 4386506037058863111,.func (.func 30) #[] #[]],.slice ao 5 cap] w fun e w'=>e=.returned (.tuple #[.agg #[.int .i64 (ord (sX (vL s 4)) 0),.int .i64 1],.int .i64 0])∧Below w.heap.size w w':=by
  have CG:Hid (∀ W,Below w.heap.size w W->Calls Tryd.prog 20 #[.slice ao 5 cap] W fun x w'=>x=.returned (.bool true)∧Below W.heap.size W w'):=fun W hW=>by
    have:=sgood_any ao 5 cap s W (h.keeps hW) hr
    rw [hok] at this
    exact this
  have CT:Hid (∀ W,Below w.heap.size w W->Calls Tryd.prog 21 #[.slice ao 5 cap] W fun x w'=>x=.returned (.bool true)∧Below W.heap.size W w'):=fun W hW=>by
    have:=stame_any ao 5 cap s W (h.keeps hW) hr
    rw [hto] at this
    exact this
  have hzt:∀ i,i<=4->∀ k,k<3->Mz (s i k):=fun i hi k hk=>tame_Mz (hr i k) (ht i hi k hk)
  obtain ⟨rD,pD,rS,pS⟩:=fx_sphere hzt
  have cM:=cls_prod (show pok sB=true by decide) rng_sB pS rS
  have rM:rng (fprod sB (fS (uL s 4))):=fprod_rng rng_sB rS
  obtain ⟨q1,q2⟩:=q_rg rD
  have kR:key (rg (fD (uL s 4)))=rg (fD (uL s 4)):=q_key q2
  have pR:cls (rg (fD (uL s 4)))≠4:=by rw [q_cls rD]; exact q_fin pD
  have hM:∀ W,(binOp .mul 45 (.float .f64 4386506037058863111) (.float .f64 (wd (fS (uL s 4))))).run Tryd.prog W=.ok (.float .f64 (wd (fprod sB (fS (uL s 4))))) W:=fun W=>by
    have:=run_prodN (P:=Tryd.prog) 45 (FW.pat (q_fin (show pok sB=true by decide)) rng_sB) (FW.pat (q_fin pS) rS) cM W
    exact this
  have CL:Hid (∀ W,Below w.heap.size w W->Calls Tryd.prog 23 #[.slice ao 5 cap,.func (.func 24) #[] #[]] W fun e w'=>e=.returned (.agg #[.float .f64 (wd (uL s 4 0 0)),.float .f64 (wd (uL s 4 0 1)),.float .f64 (wd (uL s 4 0 2)),.float .f64 (wd (uL s 4 1 0)),.float .f64 (wd (uL s 4 1 1)),.float .f64 (wd (uL s 4 1 2)),.float .f64 (wd (uL s 4 2 0)),.float .f64 (wd (uL s 4 2 1)),.float .f64 (wd (uL s 4 2 2)),.float .f64 (wd (uL s 4 3 0)),.float .f64 (wd (uL s 4 3 1)),.float .f64 (wd (uL s 4 3 2))])∧Below W.heap.size W w'):=fun W hW=>slegsF_any ao 5 4 cap s W (h.keeps hW) rfl (by decide) hzt (uL s 4) rfl
  have CF:Hid (∀ W,Calls Tryd.prog 29 #[.agg #[.float .f64 (wd (uL s 4 0 0)),.float .f64 (wd (uL s 4 0 1)),.float .f64 (wd (uL s 4 0 2)),.float .f64 (wd (uL s 4 1 0)),.float .f64 (wd (uL s 4 1 1)),.float .f64 (wd (uL s 4 1 2)),.float .f64 (wd (uL s 4 2 0)),.float .f64 (wd (uL s 4 2 1)),.float .f64 (wd (uL s 4 2 2)),.float .f64 (wd (uL s 4 3 0)),.float .f64 (wd (uL s 4 3 1)),.float .f64 (wd (uL s 4 3 2))]] W fun e w'=>e=.returned (.tuple #[.float .f64 (wd (fD (uL s 4))),.float .f64 (wd (fS (uL s 4)))])∧Below W.heap.size W w'):=fun W=>sphF_any (uL_fx hzt) W
  have CA:Hid (∀ W,Calls Tryd.prog 25 #[.float .f64 (wd (fD (uL s 4)))] W fun e w'=>e=.returned (.float .f64 (wd (rg (fD (uL s 4)))))∧w'=W):=fun W=>mathAbs rD W
  have CC:Hid (∀ W,Calls Tryd.prog 26 #[.float .f64 (wd (fD (uL s 4))),.float .f64 0] W fun r w'=>r=.returned (.int .i64 (ord (sX (vL s 4)) 0))∧w'=W):=fun W=>by
    have:=cmpFloat rD pD W
    rw [sgn_sphere hr hzt hd] at this
    exact this
  have ho:FloatKind.f64.format.order (wd (rg (fD (uL s 4)))) (wd (fprod sB (fS (uL s 4))))=some .gt:=q_gt q1 rM pR cM (by rw [kR]; exact hd)
  clear h hr hok hz hto ht hd H hzt rD pD rS pS cM rM q1 q2 kR pR
  generalize ord (sX (vL s 4)) 0=sg at *
  generalize wd (fprod sB (fS (uL s 4)))=MM at *
  generalize wd (rg (fD (uL s 4)))=AA at *
  generalize wd (fD (uL s 4))=DD at *
  generalize wd (fS (uL s 4))=SS at *
  have hb0:=bel_alloc2 w (.cells #[.func (.func 29) #[] #[],.float .f64 4386506037058863111,.func (.func 30) #[] #[]] 48) (.cells #[.int .i64 0,.int .i64 0] 29)
  have q_k:=heap_a2 w (.cells #[.func (.func 29) #[] #[],.float .f64 4386506037058863111,.func (.func 30) #[] #[]] 48) (.cells #[.int .i64 0,.int .i64 0] 29)
  have r_k:=heap_b2 w (.cells #[.func (.func 29) #[] #[],.float .f64 4386506037058863111,.func (.func 30) #[] #[]] 48) (.cells #[.int .i64 0,.int .i64 0] 29)
  have qv0:=blkC q_k 0 rfl
  have qv1:=blkC q_k 1 rfl
  have qv2:=blkC q_k 2 rfl
  go_enter Tryd.func14,Tryd.ntmps14
  go_wp2_with fail
  clear qv0 qv1 qv2
  generalize (w.alloc (.cells #[.func (.func 29) #[] #[],.float .f64 4386506037058863111,.func (.func 30) #[] #[]] 48)).alloc (.cells #[.int .i64 0,.int .i64 0] 29)=x0 at hb0 q_k r_k ⊢
  refine (CG.out _ hb0).mono ?_
  rintro _ y1 ⟨rfl,hw1⟩
  replace q_k:=blk_us hw1 q_k
  replace r_k:=blk_us hw1 r_k
  replace hb0:=bel_trans hb0 hw1
  go_wp2_with fail
  refine (CT.out _ hb0).mono ?_
  rintro _ y2 ⟨rfl,hw2⟩
  replace q_k:=blk_us hw2 q_k
  replace r_k:=blk_us hw2 r_k
  replace hb0:=bel_trans hb0 hw2
  go_wp2_with fail
  have KK:∀ W,Below y2.heap.size y2 W->W.cell? ⟨w.heap.size,0,none⟩=some (.func (.func 29) #[] #[]):=fun W hb=>q_cell (blkC q_k 0 rfl) hb
  have hC0:=(bel_refl y2).drew
  go_region_held3 (fun W=>W.cell? ⟨w.heap.size,0,none⟩=some (.func (.func 29) #[] #[]))
    (with_reducible first | assumption | exact KK _ hC0 | exact KK _ hC1 | exact KK _ hC2 | fail)
    (first | (go_at_call 29; refine (CF.out _).mono ?_; rintro _ y4 ⟨rfl,hw4⟩; have hC2:=bel_trans hC1 hw4) | (go_at_call 23; refine (CL.out _ (bel_trans hb0 hC0)).mono ?_; rintro _ y3 ⟨rfl,hw3⟩; have hC1:=bel_trans hC0 hw3))
  replace q_k:=blk_us hC2 q_k
  replace r_k:=blk_us hC2 r_k
  replace hb0:=bel_trans hb0 hC2
  clear KK hC0 hC1 hC2 hw3 hw4
  go_wp2_with fail
  have c1:=blkC q_k 1 rfl
  go_quiet (first | (go_at_call 25; with_reducible exact Calls.quiet_of_same (CA.out _)))
  go_wp2_with fail
  have hdq:=bDrewN (bel_refl y4) nq
  replace q_k:=blk_us hdq q_k
  replace r_k:=blk_us hdq r_k
  replace hb0:=bel_trans hb0 hdq
  clear c1
  generalize y4.drewN nq=y5 at q_k r_k hb0 ⊢
  refine (CC.out _).mono ?_
  rintro _ wz ⟨rfl,hwz⟩
  replace hwz:=hwz.symm
  subst hwz
  have k0:=blkC r_k 0 rfl
  have k1:=blkC r_k 1 rfl
  have z0:=blkF r_k 0
  have z1:=blkF r_k 1
  go_wp2
  exact bodyPost_ret (v:=.tuple #[.agg #[.int .i64 sg,.int .i64 1],.int .i64 0]) (by simp [results,Tryd.results14,go_sem,k0,k1]) rfl ⟨rfl,by first | exact (hb0.setCell (p:=⟨w.heap.size+1,0,none⟩) (show w.heap.size<=w.heap.size+1 by omega) _).setCell (p:=⟨w.heap.size+1,1,none⟩) (show w.heap.size<=w.heap.size+1 by omega) _ | exact hb0⟩
set_option maxRecDepth 100000 in
set_option maxHeartbeats 2000000 in
theorem vd_no4_sphere (ao:Option Addr) (cap:Nat) (s:Nat->Nat->Int) (w:World) (h:Sps w ao 5 cap s) (hr:∀ i k,rng (s i k)) (hok:allB (sok s) 5=true) (hz:∀ i,i<=4->∀ k,k<3->pok (s i k)=true) (hto:allB (stm s) 5=true) (ht:∀ i,i<=4->∀ k,k<3->tame (s i k)=true) (hd:rg (fD (uL s 4))<=key (fprod sB (fS (uL s 4)))) (H:Hold4 w) :
    Calls Tryd.prog 14 #[.agg #[.func (.func 29) #[] #[],.float .f64 4386506037058863111,.func (.func 30) #[] #[]],.slice ao 5 cap] w fun e w'=>e=.returned (.tuple #[.agg #[.int .i64 (ord (sX (vL s 4)) 0),.int .i64 4],.int .i64 0])∧Below w.heap.size w w':=by
  have CG:Hid (∀ W,Below w.heap.size w W->Calls Tryd.prog 20 #[.slice ao 5 cap] W fun x w'=>x=.returned (.bool true)∧Below W.heap.size W w'):=fun W hW=>by
    have:=sgood_any ao 5 cap s W (h.keeps hW) hr
    rw [hok] at this
    exact this
  have CT:Hid (∀ W,Below w.heap.size w W->Calls Tryd.prog 21 #[.slice ao 5 cap] W fun x w'=>x=.returned (.bool true)∧Below W.heap.size W w'):=fun W hW=>by
    have:=stame_any ao 5 cap s W (h.keeps hW) hr
    rw [hto] at this
    exact this
  have CX:Hid (∀ W st,Below w.heap.size w W->Calls Tryd.prog 22 #[.agg #[.func (.func 29) #[] #[],.float .f64 4386506037058863111,.func (.func 30) #[] #[]],.slice ao 5 cap,.int .i64 st] W fun e w'=>e=.returned (.agg #[.int .i64 (ord (sX (vL s 4)) 0),.int .i64 st])∧Below W.heap.size W w'):=fun W st hW=>xv_sphere ao cap s W (h.keeps hW) hr hz (H.keeps hW) st
  have hzt:∀ i,i<=4->∀ k,k<3->Mz (s i k):=fun i hi k hk=>tame_Mz (hr i k) (ht i hi k hk)
  obtain ⟨rD,pD,rS,pS⟩:=fx_sphere hzt
  have cM:=cls_prod (show pok sB=true by decide) rng_sB pS rS
  have rM:rng (fprod sB (fS (uL s 4))):=fprod_rng rng_sB rS
  obtain ⟨q1,q2⟩:=q_rg rD
  have kR:key (rg (fD (uL s 4)))=rg (fD (uL s 4)):=q_key q2
  have pR:cls (rg (fD (uL s 4)))≠4:=by rw [q_cls rD]; exact q_fin pD
  have hM:∀ W,(binOp .mul 45 (.float .f64 4386506037058863111) (.float .f64 (wd (fS (uL s 4))))).run Tryd.prog W=.ok (.float .f64 (wd (fprod sB (fS (uL s 4))))) W:=fun W=>by
    have:=run_prodN (P:=Tryd.prog) 45 (FW.pat (q_fin (show pok sB=true by decide)) rng_sB) (FW.pat (q_fin pS) rS) cM W
    exact this
  have CL:Hid (∀ W,Below w.heap.size w W->Calls Tryd.prog 23 #[.slice ao 5 cap,.func (.func 24) #[] #[]] W fun e w'=>e=.returned (.agg #[.float .f64 (wd (uL s 4 0 0)),.float .f64 (wd (uL s 4 0 1)),.float .f64 (wd (uL s 4 0 2)),.float .f64 (wd (uL s 4 1 0)),.float .f64 (wd (uL s 4 1 1)),.float .f64 (wd (uL s 4 1 2)),.float .f64 (wd (uL s 4 2 0)),.float .f64 (wd (uL s 4 2 1)),.float .f64 (wd (uL s 4 2 2)),.float .f64 (wd (uL s 4 3 0)),.float .f64 (wd (uL s 4 3 1)),.float .f64 (wd (uL s 4 3 2))])∧Below W.heap.size W w'):=fun W hW=>slegsF_any ao 5 4 cap s W (h.keeps hW) rfl (by decide) hzt (uL s 4) rfl
  have CF:Hid (∀ W,Calls Tryd.prog 29 #[.agg #[.float .f64 (wd (uL s 4 0 0)),.float .f64 (wd (uL s 4 0 1)),.float .f64 (wd (uL s 4 0 2)),.float .f64 (wd (uL s 4 1 0)),.float .f64 (wd (uL s 4 1 1)),.float .f64 (wd (uL s 4 1 2)),.float .f64 (wd (uL s 4 2 0)),.float .f64 (wd (uL s 4 2 1)),.float .f64 (wd (uL s 4 2 2)),.float .f64 (wd (uL s 4 3 0)),.float .f64 (wd (uL s 4 3 1)),.float .f64 (wd (uL s 4 3 2))]] W fun e w'=>e=.returned (.tuple #[.float .f64 (wd (fD (uL s 4))),.float .f64 (wd (fS (uL s 4)))])∧Below W.heap.size W w'):=fun W=>sphF_any (uL_fx hzt) W
  have CA:Hid (∀ W,Calls Tryd.prog 25 #[.float .f64 (wd (fD (uL s 4)))] W fun e w'=>e=.returned (.float .f64 (wd (rg (fD (uL s 4)))))∧w'=W):=fun W=>mathAbs rD W
  have ho:FloatKind.f64.format.order (wd (rg (fD (uL s 4)))) (wd (fprod sB (fS (uL s 4))))=some .lt∨FloatKind.f64.format.order (wd (rg (fD (uL s 4)))) (wd (fprod sB (fS (uL s 4))))=some .eq:=by
    rcases Int.lt_or_eq_of_le hd with g | g
    . exact .inl (q_lt q1 rM pR cM (by rw [kR]; exact g))
    . exact .inr (q_eq q1 rM pR cM (by rw [kR]; exact g))
  clear h hr hok hz hto ht hd H hzt rD pD rS pS cM rM q1 q2 kR pR
  generalize ord (sX (vL s 4)) 0=sg at *
  generalize wd (fprod sB (fS (uL s 4)))=MM at *
  generalize wd (rg (fD (uL s 4)))=AA at *
  generalize wd (fD (uL s 4))=DD at *
  generalize wd (fS (uL s 4))=SS at *
  have hb0:=bel_alloc2 w (.cells #[.func (.func 29) #[] #[],.float .f64 4386506037058863111,.func (.func 30) #[] #[]] 48) (.cells #[.int .i64 0,.int .i64 0] 29)
  have q_k:=heap_a2 w (.cells #[.func (.func 29) #[] #[],.float .f64 4386506037058863111,.func (.func 30) #[] #[]] 48) (.cells #[.int .i64 0,.int .i64 0] 29)
  have r_k:=heap_b2 w (.cells #[.func (.func 29) #[] #[],.float .f64 4386506037058863111,.func (.func 30) #[] #[]] 48) (.cells #[.int .i64 0,.int .i64 0] 29)
  have qv0:=blkC q_k 0 rfl
  have qv1:=blkC q_k 1 rfl
  have qv2:=blkC q_k 2 rfl
  go_enter Tryd.func14,Tryd.ntmps14
  go_wp2_with fail
  clear qv0 qv1 qv2
  generalize (w.alloc (.cells #[.func (.func 29) #[] #[],.float .f64 4386506037058863111,.func (.func 30) #[] #[]] 48)).alloc (.cells #[.int .i64 0,.int .i64 0] 29)=x0 at hb0 q_k r_k ⊢
  refine (CG.out _ hb0).mono ?_
  rintro _ y1 ⟨rfl,hw1⟩
  replace q_k:=blk_us hw1 q_k
  replace r_k:=blk_us hw1 r_k
  replace hb0:=bel_trans hb0 hw1
  go_wp2_with fail
  refine (CT.out _ hb0).mono ?_
  rintro _ y2 ⟨rfl,hw2⟩
  replace q_k:=blk_us hw2 q_k
  replace r_k:=blk_us hw2 r_k
  replace hb0:=bel_trans hb0 hw2
  go_wp2_with fail
  have KK:∀ W,Below y2.heap.size y2 W->W.cell? ⟨w.heap.size,0,none⟩=some (.func (.func 29) #[] #[]):=fun W hb=>q_cell (blkC q_k 0 rfl) hb
  have hC0:=(bel_refl y2).drew
  go_region_held3 (fun W=>W.cell? ⟨w.heap.size,0,none⟩=some (.func (.func 29) #[] #[]))
    (with_reducible first | assumption | exact KK _ hC0 | exact KK _ hC1 | exact KK _ hC2 | fail)
    (first | (go_at_call 29; refine (CF.out _).mono ?_; rintro _ y4 ⟨rfl,hw4⟩; have hC2:=bel_trans hC1 hw4) | (go_at_call 23; refine (CL.out _ (bel_trans hb0 hC0)).mono ?_; rintro _ y3 ⟨rfl,hw3⟩; have hC1:=bel_trans hC0 hw3))
  replace q_k:=blk_us hC2 q_k
  replace r_k:=blk_us hC2 r_k
  replace hb0:=bel_trans hb0 hC2
  clear KK hC0 hC1 hC2 hw3 hw4
  go_wp2_with fail
  rcases ho with ho | ho
  all_goals
    have c1:=blkC q_k 1 rfl
    go_quiet (first | (go_at_call 25; with_reducible exact Calls.quiet_of_same (CA.out _)))
    have hdq:=bDrewN (bel_refl y4) nq
    replace q_k:=blk_us hdq q_k
    replace r_k:=blk_us hdq r_k
    replace hb0:=bel_trans hb0 hdq
    clear c1
    generalize y4.drewN nq=y5 at q_k r_k hb0 ⊢
    have c0:=blkC q_k 0 rfl
    have c1:=blkC q_k 1 rfl
    have c2:=blkC q_k 2 rfl
    go_wp2_with fail
    clear c0 c1 c2
    refine (CX.out _ _ hb0).mono ?_
    rintro _ y9 ⟨rfl,hw9⟩
    replace r_k:=blk_us hw9 r_k
    replace hb0:=bel_trans hb0 hw9
    have k0:=blkC r_k 0 rfl
    have k1:=blkC r_k 1 rfl
    have z0:=blkF r_k 0
    have z1:=blkF r_k 1
    go_wp2
    exact bodyPost_ret (v:=.tuple #[.agg #[.int .i64 sg,.int .i64 4],.int .i64 0]) (by simp [results,Tryd.results14,go_sem,k0,k1]) rfl ⟨rfl,by first | exact (hb0.setCell (p:=⟨w.heap.size+1,0,none⟩) (show w.heap.size<=w.heap.size+1 by omega) _).setCell (p:=⟨w.heap.size+1,1,none⟩) (show w.heap.size<=w.heap.size+1 by omega) _ | exact hb0⟩
end Go.Proofs.YtobofhgpidbpmaaDoor
