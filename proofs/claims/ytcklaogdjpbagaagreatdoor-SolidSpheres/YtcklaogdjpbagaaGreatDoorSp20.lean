/-
  Package solid's verdict, by its contract (tools/sd_w.py).
-/
import Derived.Test.YtcklaogdjpbagaaGreatDoorSp19
set_option maxRecDepth 100000
set_option maxHeartbeats 8000000
set_option linter.unusedVariables false
set_option linter.unusedSimpArgs false
namespace Go.Proofs.YtcklaogdjpbagaaGreatDoor
open Go Go.RowKit Go.Proofs.YtcklaogdjpbagaaGreatDoor.M
theorem sJ (ao:Option Addr) (cap:Nat) (s:Nat->Nat->Int) (w:World) (h:fy w ao 4 cap s) (hr:∀ i k,ax (s i k)) (hok:bL (cD s) 4=true) (hz:∀ i,i<=3->∀ k,k<3->aF (s i k)=true) (hno:bL (dz s) 4=false) (H:cB w) :
  Calls Tryz.prog 19 #[.agg #[.func (.func 36) #[] #[],.float .f64 4380876537524649991,.func (.func 37) #[] #[]],.slice ao 4 cap] w fun e w'=>e=.returned (.tuple #[.agg #[.int .i64 (aZ (dX (vL s 3) 0 1 2) 0),.int .i64 6],.int .i64 0])∧Below w.heap.size w w':=by
 have CG:Hid (∀ W,Below w.heap.size w W->Calls Tryz.prog 38 #[.slice ao 4 cap] W fun x w'=>x=.returned (.bool true)∧Below W.heap.size W w'):=fun W hW=>by
  have:=eJ ao 4 cap s W (h.keeps hW) hr
  rw[hok] at this
  exact this
 have CT:Hid (∀ W,Below w.heap.size w W->Calls Tryz.prog 39 #[.slice ao 4 cap] W fun x w'=>x=.returned (.bool false)∧Below W.heap.size W w'):=fun W hW=>by
  have:=gL ao 4 cap s W (h.keeps hW) hr
  rw[hno] at this
  exact this
 have CX:Hid (∀ W st,Below w.heap.size w W->Calls Tryz.prog 40 #[.agg #[.func (.func 36) #[] #[],.float .f64 4380876537524649991,.func (.func 37) #[] #[]],.slice ao 4 cap,.int .i64 st] W fun e w'=>e=.returned (.agg #[.int .i64 (aZ (dX (vL s 3) 0 1 2) 0),.int .i64 st])∧Below W.heap.size W w'):=fun W st hW=>uo ao cap s W (h.keeps hW) hr hz (H.keeps hW) st
 clear h hr hno hok hz H
 generalize aZ (dX (vL s 3) 0 1 2) 0=sg at *
 have hb0:=aO w (.cells #[.func (.func 36) #[] #[],.float .f64 4380876537524649991,.func (.func 37) #[] #[]] 57) (.cells #[.int .i64 0,.int .i64 0] 27)
 have q_k:=bX w (.cells #[.func (.func 36) #[] #[],.float .f64 4380876537524649991,.func (.func 37) #[] #[]] 57) (.cells #[.int .i64 0,.int .i64 0] 27)
 have r_k:=bP w (.cells #[.func (.func 36) #[] #[],.float .f64 4380876537524649991,.func (.func 37) #[] #[]] 57) (.cells #[.int .i64 0,.int .i64 0] 27)
 have qv0:=af q_k 0 rfl
 have qv1:=af q_k 1 rfl
 have qv2:=af q_k 2 rfl
 go_enter Tryz.func19,Tryz.ntmps19
 go_wp2_with fail
 clear qv0 qv1 qv2
 generalize (w.alloc (.cells #[.func (.func 36) #[] #[],.float .f64 4380876537524649991,.func (.func 37) #[] #[]] 57)).alloc (.cells #[.int .i64 0,.int .i64 0] 27)=x0 at hb0 q_k r_k ⊢
 refine(CG.out _ hb0).mono ?_
 rintro _ y1 ⟨rfl,hw1⟩
 replace q_k:=am hw1 q_k
 replace r_k:=am hw1 r_k
 replace hb0:=ac hb0 hw1
 go_wp2_with fail
 refine(CT.out _ hb0).mono ?_
 rintro _ y2 ⟨rfl,hw2⟩
 replace q_k:=am hw2 q_k
 replace r_k:=am hw2 r_k
 replace hb0:=ac hb0 hw2
 have c0:=af q_k 0 rfl
 have c1:=af q_k 1 rfl
 have c2:=af q_k 2 rfl
 go_wp2_with fail
 clear c0 c1 c2
 refine(CX.out _ _ hb0).mono ?_
 rintro _ y9 ⟨rfl,hw9⟩
 replace r_k:=am hw9 r_k
 replace hb0:=ac hb0 hw9
 have k0:=af r_k 0 rfl
 have k1:=af r_k 1 rfl
 have z0:=av r_k 0
 have z1:=av r_k 1
 go_wp2
 exact bodyPost_ret (v:=.tuple #[.agg #[.int .i64 sg,.int .i64 6],.int .i64 0]) (by simp[results,Tryz.results19,go_sem,k0,k1]) rfl ⟨rfl,by first|exact(hb0.setCell (p:=⟨w.heap.size+1,0,none⟩) (show w.heap.size<=w.heap.size+1 by omega) _).setCell (p:=⟨w.heap.size+1,1,none⟩) (show w.heap.size<=w.heap.size+1 by omega) _|exact hb0⟩
theorem tz (ao:Option Addr) (cap:Nat) (s:Nat->Nat->Int) (w:World) (h:fy w ao 4 cap s) (hr:∀ i k,ax (s i k)) (hok:bL (cD s) 4=true) (hz:∀ i,i<=3->∀ k,k<3->aF (s i k)=true) (hto:bL (dz s) 4=true) (ht:∀ i,i<=3->∀ k,k<3->bz (s i k)=true) (hd:bk (ay sA (cw (uL s 3) 0 1 2))<rg (dt (uL s 3) 0 1 2)) (H:cB w) :
  Calls Tryz.prog 19 #[.agg #[.func (.func 36) #[] #[],.float .f64 4380876537524649991,.func (.func 37) #[] #[]],.slice ao 4 cap] w fun e w'=>e=.returned (.tuple #[.agg #[.int .i64 (aZ (dX (vL s 3) 0 1 2) 0),.int .i64 1],.int .i64 0])∧Below w.heap.size w w':=by
 have CG:Hid (∀ W,Below w.heap.size w W->Calls Tryz.prog 38 #[.slice ao 4 cap] W fun x w'=>x=.returned (.bool true)∧Below W.heap.size W w'):=fun W hW=>by
  have:=eJ ao 4 cap s W (h.keeps hW) hr
  rw[hok] at this
  exact this
 have CT:Hid (∀ W,Below w.heap.size w W->Calls Tryz.prog 39 #[.slice ao 4 cap] W fun x w'=>x=.returned (.bool true)∧Below W.heap.size W w'):=fun W hW=>by
  have:=gL ao 4 cap s W (h.keeps hW) hr
  rw[hto] at this
  exact this
 have hzt:∀ i,i<=3->∀ k,k<3->Mz (s i k):=fun i hi k hk=>ir (hr i k) (ht i hi k hk)
 obtain⟨rD,pD,rS,pS⟩:=ut hzt
 have cM:=jI (show aF sA=true by decide) fU pS rS
 have rM:ax (ay sA (cw (uL s 3) 0 1 2)):=aS fU rS
 obtain⟨q1,q2⟩:=cN rD
 have kR:bk (rg (dt (uL s 3) 0 1 2))=rg (dt (uL s 3) 0 1 2):=iB q2
 have pR:aL (rg (dt (uL s 3) 0 1 2))≠4:=by rw[li rD];exact cr pD
 have hM:∀ W,(binOp .mul 54 (.float .f64 4380876537524649991) (.float .f64 (wd (cw (uL s 3) 0 1 2)))).run Tryz.prog W=.ok (.float .f64 (wd (ay sA (cw (uL s 3) 0 1 2)))) W:=fun W=>by
  have:=iJ (P:=Tryz.prog) 54 (FW.pat (cr (show aF sA=true by decide)) fU) (FW.pat (cr pS) rS) cM W
  exact this
 have CL:Hid (∀ W,Below w.heap.size w W->Calls Tryz.prog 41 #[.slice ao 4 cap,.func (.func 42) #[] #[]] W fun e w'=>e=.returned (.agg #[.float .f64 (wd (uL s 3 0 0)),.float .f64 (wd (uL s 3 0 1)),.float .f64 (wd (uL s 3 0 2)),.float .f64 (wd (uL s 3 1 0)),.float .f64 (wd (uL s 3 1 1)),.float .f64 (wd (uL s 3 1 2)),.float .f64 (wd (uL s 3 2 0)),.float .f64 (wd (uL s 3 2 1)),.float .f64 (wd (uL s 3 2 2)),.float .f64 (wd (uL s 3 3 0)),.float .f64 (wd (uL s 3 3 1)),.float .f64 (wd (uL s 3 3 2))])∧Below W.heap.size W w'):=fun W hW=>jd ao 4 3 cap s W (h.keeps hW) rfl (by decide) hzt (uL s 3) rfl
 have CF:Hid (∀ W,Calls Tryz.prog 36 #[.agg #[.float .f64 (wd (uL s 3 0 0)),.float .f64 (wd (uL s 3 0 1)),.float .f64 (wd (uL s 3 0 2)),.float .f64 (wd (uL s 3 1 0)),.float .f64 (wd (uL s 3 1 1)),.float .f64 (wd (uL s 3 1 2)),.float .f64 (wd (uL s 3 2 0)),.float .f64 (wd (uL s 3 2 1)),.float .f64 (wd (uL s 3 2 2)),.float .f64 (wd (uL s 3 3 0)),.float .f64 (wd (uL s 3 3 1)),.float .f64 (wd (uL s 3 3 2))]] W fun e w'=>e=.returned (.tuple #[.float .f64 (wd (dt (uL s 3) 0 1 2)),.float .f64 (wd (cw (uL s 3) 0 1 2))])∧Below W.heap.size W w'):=fun W=>og (qF hzt) W
 have CA:Hid (∀ W,Calls Tryz.prog 43 #[.float .f64 (wd (dt (uL s 3) 0 1 2))] W fun e w'=>e=.returned (.float .f64 (wd (rg (dt (uL s 3) 0 1 2))))∧w'=W):=fun W=>cW rD W
 have CC:Hid (∀ W,Calls Tryz.prog 44 #[.float .f64 (wd (dt (uL s 3) 0 1 2)),.float .f64 0] W fun r w'=>r=.returned (.int .i64 (aZ (dX (vL s 3) 0 1 2) 0))∧w'=W):=fun W=>by
  have:=sD rD pD W
  rw[sF hr hzt hd] at this
  exact this
 have ho:FloatKind.f64.format.order (wd (rg (dt (uL s 3) 0 1 2))) (wd (ay sA (cw (uL s 3) 0 1 2)))=some .gt:=nj q1 rM pR cM (by rw[kR];exact hd)
 clear h hr hok hz hto ht hd H hzt rD pD rS pS cM rM q1 q2 kR pR
 generalize aZ (dX (vL s 3) 0 1 2) 0=sg at *
 generalize wd (ay sA (cw (uL s 3) 0 1 2))=MM at *
 generalize wd (rg (dt (uL s 3) 0 1 2))=AA at *
 generalize wd (dt (uL s 3) 0 1 2)=DD at *
 generalize wd (cw (uL s 3) 0 1 2)=SS at *
 have hb0:=aO w (.cells #[.func (.func 36) #[] #[],.float .f64 4380876537524649991,.func (.func 37) #[] #[]] 57) (.cells #[.int .i64 0,.int .i64 0] 27)
 have q_k:=bX w (.cells #[.func (.func 36) #[] #[],.float .f64 4380876537524649991,.func (.func 37) #[] #[]] 57) (.cells #[.int .i64 0,.int .i64 0] 27)
 have r_k:=bP w (.cells #[.func (.func 36) #[] #[],.float .f64 4380876537524649991,.func (.func 37) #[] #[]] 57) (.cells #[.int .i64 0,.int .i64 0] 27)
 have qv0:=af q_k 0 rfl
 have qv1:=af q_k 1 rfl
 have qv2:=af q_k 2 rfl
 go_enter Tryz.func19,Tryz.ntmps19
 go_wp2_with fail
 clear qv0 qv1 qv2
 generalize (w.alloc (.cells #[.func (.func 36) #[] #[],.float .f64 4380876537524649991,.func (.func 37) #[] #[]] 57)).alloc (.cells #[.int .i64 0,.int .i64 0] 27)=x0 at hb0 q_k r_k ⊢
 refine(CG.out _ hb0).mono ?_
 rintro _ y1 ⟨rfl,hw1⟩
 replace q_k:=am hw1 q_k
 replace r_k:=am hw1 r_k
 replace hb0:=ac hb0 hw1
 go_wp2_with fail
 refine(CT.out _ hb0).mono ?_
 rintro _ y2 ⟨rfl,hw2⟩
 replace q_k:=am hw2 q_k
 replace r_k:=am hw2 r_k
 replace hb0:=ac hb0 hw2
 go_wp2_with fail
 have KK:∀ W,Below y2.heap.size y2 W->W.cell? ⟨w.heap.size,0,none⟩=some (.func (.func 36) #[] #[]):=fun W hb=>aj (af q_k 0 rfl) hb
 have hC0:=(ak y2).drew
 go_region_held3 (fun W=>W.cell? ⟨w.heap.size,0,none⟩=some (.func (.func 36) #[] #[]))
  (with_reducible first|assumption|exact KK _ hC0|exact KK _ hC1|exact KK _ hC2|fail)
  (first|(go_at_call 36;refine(CF.out _).mono ?_;rintro _ y4 ⟨rfl,hw4⟩;have hC2:=ac hC1 hw4)|(go_at_call 41;refine(CL.out _ (ac hb0 hC0)).mono ?_;rintro _ y3 ⟨rfl,hw3⟩;have hC1:=ac hC0 hw3))
 replace q_k:=am hC2 q_k
 replace r_k:=am hC2 r_k
 replace hb0:=ac hb0 hC2
 clear KK hC0 hC1 hC2 hw3 hw4
 go_wp2_with fail
 have c1:=af q_k 1 rfl
 go_quiet (first|(go_at_call 43;with_reducible exact Calls.quiet_of_same (CA.out _)))
 go_wp2_with fail
 have hdq:=aN (ak y4) nq
 replace q_k:=am hdq q_k
 replace r_k:=am hdq r_k
 replace hb0:=ac hb0 hdq
 clear c1
 generalize y4.drewN nq=y5 at q_k r_k hb0 ⊢
 refine(CC.out _).mono ?_
 rintro _ wz ⟨rfl,hwz⟩
 replace hwz:=hwz.symm
 subst hwz
 have k0:=af r_k 0 rfl
 have k1:=af r_k 1 rfl
 have z0:=av r_k 0
 have z1:=av r_k 1
 go_wp2
 exact bodyPost_ret (v:=.tuple #[.agg #[.int .i64 sg,.int .i64 1],.int .i64 0]) (by simp[results,Tryz.results19,go_sem,k0,k1]) rfl ⟨rfl,by first|exact(hb0.setCell (p:=⟨w.heap.size+1,0,none⟩) (show w.heap.size<=w.heap.size+1 by omega) _).setCell (p:=⟨w.heap.size+1,1,none⟩) (show w.heap.size<=w.heap.size+1 by omega) _|exact hb0⟩
theorem tA (ao:Option Addr) (cap:Nat) (s:Nat->Nat->Int) (w:World) (h:fy w ao 4 cap s) (hr:∀ i k,ax (s i k)) (hok:bL (cD s) 4=true) (hz:∀ i,i<=3->∀ k,k<3->aF (s i k)=true) (hto:bL (dz s) 4=true) (ht:∀ i,i<=3->∀ k,k<3->bz (s i k)=true) (hd:rg (dt (uL s 3) 0 1 2)<=bk (ay sA (cw (uL s 3) 0 1 2))) (H:cB w) :
  Calls Tryz.prog 19 #[.agg #[.func (.func 36) #[] #[],.float .f64 4380876537524649991,.func (.func 37) #[] #[]],.slice ao 4 cap] w fun e w'=>e=.returned (.tuple #[.agg #[.int .i64 (aZ (dX (vL s 3) 0 1 2) 0),.int .i64 4],.int .i64 0])∧Below w.heap.size w w':=by
 have CG:Hid (∀ W,Below w.heap.size w W->Calls Tryz.prog 38 #[.slice ao 4 cap] W fun x w'=>x=.returned (.bool true)∧Below W.heap.size W w'):=fun W hW=>by
  have:=eJ ao 4 cap s W (h.keeps hW) hr
  rw[hok] at this
  exact this
 have CT:Hid (∀ W,Below w.heap.size w W->Calls Tryz.prog 39 #[.slice ao 4 cap] W fun x w'=>x=.returned (.bool true)∧Below W.heap.size W w'):=fun W hW=>by
  have:=gL ao 4 cap s W (h.keeps hW) hr
  rw[hto] at this
  exact this
 have CX:Hid (∀ W st,Below w.heap.size w W->Calls Tryz.prog 40 #[.agg #[.func (.func 36) #[] #[],.float .f64 4380876537524649991,.func (.func 37) #[] #[]],.slice ao 4 cap,.int .i64 st] W fun e w'=>e=.returned (.agg #[.int .i64 (aZ (dX (vL s 3) 0 1 2) 0),.int .i64 st])∧Below W.heap.size W w'):=fun W st hW=>uo ao cap s W (h.keeps hW) hr hz (H.keeps hW) st
 have hzt:∀ i,i<=3->∀ k,k<3->Mz (s i k):=fun i hi k hk=>ir (hr i k) (ht i hi k hk)
 obtain⟨rD,pD,rS,pS⟩:=ut hzt
 have cM:=jI (show aF sA=true by decide) fU pS rS
 have rM:ax (ay sA (cw (uL s 3) 0 1 2)):=aS fU rS
 obtain⟨q1,q2⟩:=cN rD
 have kR:bk (rg (dt (uL s 3) 0 1 2))=rg (dt (uL s 3) 0 1 2):=iB q2
 have pR:aL (rg (dt (uL s 3) 0 1 2))≠4:=by rw[li rD];exact cr pD
 have hM:∀ W,(binOp .mul 54 (.float .f64 4380876537524649991) (.float .f64 (wd (cw (uL s 3) 0 1 2)))).run Tryz.prog W=.ok (.float .f64 (wd (ay sA (cw (uL s 3) 0 1 2)))) W:=fun W=>by
  have:=iJ (P:=Tryz.prog) 54 (FW.pat (cr (show aF sA=true by decide)) fU) (FW.pat (cr pS) rS) cM W
  exact this
 have CL:Hid (∀ W,Below w.heap.size w W->Calls Tryz.prog 41 #[.slice ao 4 cap,.func (.func 42) #[] #[]] W fun e w'=>e=.returned (.agg #[.float .f64 (wd (uL s 3 0 0)),.float .f64 (wd (uL s 3 0 1)),.float .f64 (wd (uL s 3 0 2)),.float .f64 (wd (uL s 3 1 0)),.float .f64 (wd (uL s 3 1 1)),.float .f64 (wd (uL s 3 1 2)),.float .f64 (wd (uL s 3 2 0)),.float .f64 (wd (uL s 3 2 1)),.float .f64 (wd (uL s 3 2 2)),.float .f64 (wd (uL s 3 3 0)),.float .f64 (wd (uL s 3 3 1)),.float .f64 (wd (uL s 3 3 2))])∧Below W.heap.size W w'):=fun W hW=>jd ao 4 3 cap s W (h.keeps hW) rfl (by decide) hzt (uL s 3) rfl
 have CF:Hid (∀ W,Calls Tryz.prog 36 #[.agg #[.float .f64 (wd (uL s 3 0 0)),.float .f64 (wd (uL s 3 0 1)),.float .f64 (wd (uL s 3 0 2)),.float .f64 (wd (uL s 3 1 0)),.float .f64 (wd (uL s 3 1 1)),.float .f64 (wd (uL s 3 1 2)),.float .f64 (wd (uL s 3 2 0)),.float .f64 (wd (uL s 3 2 1)),.float .f64 (wd (uL s 3 2 2)),.float .f64 (wd (uL s 3 3 0)),.float .f64 (wd (uL s 3 3 1)),.float .f64 (wd (uL s 3 3 2))]] W fun e w'=>e=.returned (.tuple #[.float .f64 (wd (dt (uL s 3) 0 1 2)),.float .f64 (wd (cw (uL s 3) 0 1 2))])∧Below W.heap.size W w'):=fun W=>og (qF hzt) W
 have CA:Hid (∀ W,Calls Tryz.prog 43 #[.float .f64 (wd (dt (uL s 3) 0 1 2))] W fun e w'=>e=.returned (.float .f64 (wd (rg (dt (uL s 3) 0 1 2))))∧w'=W):=fun W=>cW rD W
 have ho:FloatKind.f64.format.order (wd (rg (dt (uL s 3) 0 1 2))) (wd (ay sA (cw (uL s 3) 0 1 2)))=some .lt∨FloatKind.f64.format.order (wd (rg (dt (uL s 3) 0 1 2))) (wd (ay sA (cw (uL s 3) 0 1 2)))=some .eq:=by
  rcases Int.lt_or_eq_of_le hd with g|g
  ·exact .inl (nf q1 rM pR cM (by rw[kR];exact g))
  ·exact .inr (mb q1 rM pR cM (by rw[kR];exact g))
 clear h hr hok hz hto ht hd H hzt rD pD rS pS cM rM q1 q2 kR pR
 generalize aZ (dX (vL s 3) 0 1 2) 0=sg at *
 generalize wd (ay sA (cw (uL s 3) 0 1 2))=MM at *
 generalize wd (rg (dt (uL s 3) 0 1 2))=AA at *
 generalize wd (dt (uL s 3) 0 1 2)=DD at *
 generalize wd (cw (uL s 3) 0 1 2)=SS at *
 have hb0:=aO w (.cells #[.func (.func 36) #[] #[],.float .f64 4380876537524649991,.func (.func 37) #[] #[]] 57) (.cells #[.int .i64 0,.int .i64 0] 27)
 have q_k:=bX w (.cells #[.func (.func 36) #[] #[],.float .f64 4380876537524649991,.func (.func 37) #[] #[]] 57) (.cells #[.int .i64 0,.int .i64 0] 27)
 have r_k:=bP w (.cells #[.func (.func 36) #[] #[],.float .f64 4380876537524649991,.func (.func 37) #[] #[]] 57) (.cells #[.int .i64 0,.int .i64 0] 27)
 have qv0:=af q_k 0 rfl
 have qv1:=af q_k 1 rfl
 have qv2:=af q_k 2 rfl
 go_enter Tryz.func19,Tryz.ntmps19
 go_wp2_with fail
 clear qv0 qv1 qv2
 generalize (w.alloc (.cells #[.func (.func 36) #[] #[],.float .f64 4380876537524649991,.func (.func 37) #[] #[]] 57)).alloc (.cells #[.int .i64 0,.int .i64 0] 27)=x0 at hb0 q_k r_k ⊢
 refine(CG.out _ hb0).mono ?_
 rintro _ y1 ⟨rfl,hw1⟩
 replace q_k:=am hw1 q_k
 replace r_k:=am hw1 r_k
 replace hb0:=ac hb0 hw1
 go_wp2_with fail
 refine(CT.out _ hb0).mono ?_
 rintro _ y2 ⟨rfl,hw2⟩
 replace q_k:=am hw2 q_k
 replace r_k:=am hw2 r_k
 replace hb0:=ac hb0 hw2
 go_wp2_with fail
 have KK:∀ W,Below y2.heap.size y2 W->W.cell? ⟨w.heap.size,0,none⟩=some (.func (.func 36) #[] #[]):=fun W hb=>aj (af q_k 0 rfl) hb
 have hC0:=(ak y2).drew
 go_region_held3 (fun W=>W.cell? ⟨w.heap.size,0,none⟩=some (.func (.func 36) #[] #[]))
  (with_reducible first|assumption|exact KK _ hC0|exact KK _ hC1|exact KK _ hC2|fail)
  (first|(go_at_call 36;refine(CF.out _).mono ?_;rintro _ y4 ⟨rfl,hw4⟩;have hC2:=ac hC1 hw4)|(go_at_call 41;refine(CL.out _ (ac hb0 hC0)).mono ?_;rintro _ y3 ⟨rfl,hw3⟩;have hC1:=ac hC0 hw3))
 replace q_k:=am hC2 q_k
 replace r_k:=am hC2 r_k
 replace hb0:=ac hb0 hC2
 clear KK hC0 hC1 hC2 hw3 hw4
 go_wp2_with fail
 rcases ho with ho|ho
 all_goals
  have c1:=af q_k 1 rfl
  go_quiet (first|(go_at_call 43;with_reducible exact Calls.quiet_of_same (CA.out _)))
  have hdq:=aN (ak y4) nq
  replace q_k:=am hdq q_k
  replace r_k:=am hdq r_k
  replace hb0:=ac hb0 hdq
  clear c1
  generalize y4.drewN nq=y5 at q_k r_k hb0 ⊢
  have c0:=af q_k 0 rfl
  have c1:=af q_k 1 rfl
  have c2:=af q_k 2 rfl
  go_wp2_with fail
  clear c0 c1 c2
  refine(CX.out _ _ hb0).mono ?_
  rintro _ y9 ⟨rfl,hw9⟩
  replace r_k:=am hw9 r_k
  replace hb0:=ac hb0 hw9
  have k0:=af r_k 0 rfl
  have k1:=af r_k 1 rfl
  have z0:=av r_k 0
  have z1:=av r_k 1
  go_wp2
  exact bodyPost_ret (v:=.tuple #[.agg #[.int .i64 sg,.int .i64 4],.int .i64 0]) (by simp[results,Tryz.results19,go_sem,k0,k1]) rfl ⟨rfl,by first|exact(hb0.setCell (p:=⟨w.heap.size+1,0,none⟩) (show w.heap.size<=w.heap.size+1 by omega) _).setCell (p:=⟨w.heap.size+1,1,none⟩) (show w.heap.size<=w.heap.size+1 by omega) _|exact hb0⟩
theorem sK (ao:Option Addr) (cap:Nat) (s:Nat->Nat->Int) (w:World) (h:fy w ao 5 cap s) (hr:∀ i k,ax (s i k)) (hno:bL (cD s) 5=false) :
  Calls Tryz.prog 19 #[.agg #[.func (.func 59) #[] #[],.float .f64 4386506037058863111,.func (.func 60) #[] #[]],.slice ao 5 cap] w fun e w'=>e=.returned (.tuple #[.agg #[.int .i64 0,.int .i64 0],.int .i64 10])∧Below w.heap.size w w':=by
 have CG:Hid (∀ W,Below w.heap.size w W->Calls Tryz.prog 38 #[.slice ao 5 cap] W fun x w'=>x=.returned (.bool false)∧Below W.heap.size W w'):=fun W hW=>by
  have:=eJ ao 5 cap s W (h.keeps hW) hr
  rw[hno] at this
  exact this
 clear h hr hno
 have hb0:=aO w (.cells #[.func (.func 59) #[] #[],.float .f64 4386506037058863111,.func (.func 60) #[] #[]] 57) (.cells #[.int .i64 0,.int .i64 0] 27)
 have q_k:=bX w (.cells #[.func (.func 59) #[] #[],.float .f64 4386506037058863111,.func (.func 60) #[] #[]] 57) (.cells #[.int .i64 0,.int .i64 0] 27)
 have r_k:=bP w (.cells #[.func (.func 59) #[] #[],.float .f64 4386506037058863111,.func (.func 60) #[] #[]] 57) (.cells #[.int .i64 0,.int .i64 0] 27)
 have qv0:=af q_k 0 rfl
 have qv1:=af q_k 1 rfl
 have qv2:=af q_k 2 rfl
 go_enter Tryz.func19,Tryz.ntmps19
 go_wp2_with fail
 clear qv0 qv1 qv2
 generalize (w.alloc (.cells #[.func (.func 59) #[] #[],.float .f64 4386506037058863111,.func (.func 60) #[] #[]] 57)).alloc (.cells #[.int .i64 0,.int .i64 0] 27)=x0 at hb0 q_k r_k ⊢
 refine(CG.out _ hb0).mono ?_
 rintro _ y1 ⟨rfl,hw1⟩
 replace q_k:=am hw1 q_k
 replace r_k:=am hw1 r_k
 replace hb0:=ac hb0 hw1
 have k0:=af r_k 0 rfl
 have k1:=af r_k 1 rfl
 have z0:=av r_k 0
 have z1:=av r_k 1
 go_wp2
 exact bodyPost_ret (v:=.tuple #[.agg #[.int .i64 0,.int .i64 0],.int .i64 10]) (by simp[results,Tryz.results19,go_sem,k0,k1]) rfl ⟨rfl,by first|exact(hb0.setCell (p:=⟨w.heap.size+1,0,none⟩) (show w.heap.size<=w.heap.size+1 by omega) _).setCell (p:=⟨w.heap.size+1,1,none⟩) (show w.heap.size<=w.heap.size+1 by omega) _|exact hb0⟩
theorem oX (ao:Option Addr) (cap:Nat) (s:Nat->Nat->Int) (w:World) (h:fy w ao 5 cap s) (hr:∀ i k,ax (s i k)) (hok:bL (cD s) 5=true) (hz:∀ i,i<=4->∀ k,k<3->aF (s i k)=true) (hno:bL (dz s) 5=false) (H:cB w) :
  Calls Tryz.prog 19 #[.agg #[.func (.func 59) #[] #[],.float .f64 4386506037058863111,.func (.func 60) #[] #[]],.slice ao 5 cap] w fun e w'=>e=.returned (.tuple #[.agg #[.int .i64 (aZ (sX (vL s 4)) 0),.int .i64 6],.int .i64 0])∧Below w.heap.size w w':=by
 have CG:Hid (∀ W,Below w.heap.size w W->Calls Tryz.prog 38 #[.slice ao 5 cap] W fun x w'=>x=.returned (.bool true)∧Below W.heap.size W w'):=fun W hW=>by
  have:=eJ ao 5 cap s W (h.keeps hW) hr
  rw[hok] at this
  exact this
 have CT:Hid (∀ W,Below w.heap.size w W->Calls Tryz.prog 39 #[.slice ao 5 cap] W fun x w'=>x=.returned (.bool false)∧Below W.heap.size W w'):=fun W hW=>by
  have:=gL ao 5 cap s W (h.keeps hW) hr
  rw[hno] at this
  exact this
 have CX:Hid (∀ W st,Below w.heap.size w W->Calls Tryz.prog 40 #[.agg #[.func (.func 59) #[] #[],.float .f64 4386506037058863111,.func (.func 60) #[] #[]],.slice ao 5 cap,.int .i64 st] W fun e w'=>e=.returned (.agg #[.int .i64 (aZ (sX (vL s 4)) 0),.int .i64 st])∧Below W.heap.size W w'):=fun W st hW=>qm ao cap s W (h.keeps hW) hr hz (H.keeps hW) st
 clear h hr hno hok hz H
 generalize aZ (sX (vL s 4)) 0=sg at *
 have hb0:=aO w (.cells #[.func (.func 59) #[] #[],.float .f64 4386506037058863111,.func (.func 60) #[] #[]] 57) (.cells #[.int .i64 0,.int .i64 0] 27)
 have q_k:=bX w (.cells #[.func (.func 59) #[] #[],.float .f64 4386506037058863111,.func (.func 60) #[] #[]] 57) (.cells #[.int .i64 0,.int .i64 0] 27)
 have r_k:=bP w (.cells #[.func (.func 59) #[] #[],.float .f64 4386506037058863111,.func (.func 60) #[] #[]] 57) (.cells #[.int .i64 0,.int .i64 0] 27)
 have qv0:=af q_k 0 rfl
 have qv1:=af q_k 1 rfl
 have qv2:=af q_k 2 rfl
 go_enter Tryz.func19,Tryz.ntmps19
 go_wp2_with fail
 clear qv0 qv1 qv2
 generalize (w.alloc (.cells #[.func (.func 59) #[] #[],.float .f64 4386506037058863111,.func (.func 60) #[] #[]] 57)).alloc (.cells #[.int .i64 0,.int .i64 0] 27)=x0 at hb0 q_k r_k ⊢
 refine(CG.out _ hb0).mono ?_
 rintro _ y1 ⟨rfl,hw1⟩
 replace q_k:=am hw1 q_k
 replace r_k:=am hw1 r_k
 replace hb0:=ac hb0 hw1
 go_wp2_with fail
 refine(CT.out _ hb0).mono ?_
 rintro _ y2 ⟨rfl,hw2⟩
 replace q_k:=am hw2 q_k
 replace r_k:=am hw2 r_k
 replace hb0:=ac hb0 hw2
 have c0:=af q_k 0 rfl
 have c1:=af q_k 1 rfl
 have c2:=af q_k 2 rfl
 go_wp2_with fail
 clear c0 c1 c2
 refine(CX.out _ _ hb0).mono ?_
 rintro _ y9 ⟨rfl,hw9⟩
 replace r_k:=am hw9 r_k
 replace hb0:=ac hb0 hw9
 have k0:=af r_k 0 rfl
 have k1:=af r_k 1 rfl
 have z0:=av r_k 0
 have z1:=av r_k 1
 go_wp2
 exact bodyPost_ret (v:=.tuple #[.agg #[.int .i64 sg,.int .i64 6],.int .i64 0]) (by simp[results,Tryz.results19,go_sem,k0,k1]) rfl ⟨rfl,by first|exact(hb0.setCell (p:=⟨w.heap.size+1,0,none⟩) (show w.heap.size<=w.heap.size+1 by omega) _).setCell (p:=⟨w.heap.size+1,1,none⟩) (show w.heap.size<=w.heap.size+1 by omega) _|exact hb0⟩
theorem qx (ao:Option Addr) (cap:Nat) (s:Nat->Nat->Int) (w:World) (h:fy w ao 5 cap s) (hr:∀ i k,ax (s i k)) (hok:bL (cD s) 5=true) (hz:∀ i,i<=4->∀ k,k<3->aF (s i k)=true) (hto:bL (dz s) 5=true) (ht:∀ i,i<=4->∀ k,k<3->bz (s i k)=true) (hd:bk (ay sB (fS (uL s 4)))<rg (fD (uL s 4))) (H:cB w) :
  Calls Tryz.prog 19 #[.agg #[.func (.func 59) #[] #[],.float .f64 4386506037058863111,.func (.func 60) #[] #[]],.slice ao 5 cap] w fun e w'=>e=.returned (.tuple #[.agg #[.int .i64 (aZ (sX (vL s 4)) 0),.int .i64 1],.int .i64 0])∧Below w.heap.size w w':=by
 have CG:Hid (∀ W,Below w.heap.size w W->Calls Tryz.prog 38 #[.slice ao 5 cap] W fun x w'=>x=.returned (.bool true)∧Below W.heap.size W w'):=fun W hW=>by
  have:=eJ ao 5 cap s W (h.keeps hW) hr
  rw[hok] at this
  exact this
 have CT:Hid (∀ W,Below w.heap.size w W->Calls Tryz.prog 39 #[.slice ao 5 cap] W fun x w'=>x=.returned (.bool true)∧Below W.heap.size W w'):=fun W hW=>by
  have:=gL ao 5 cap s W (h.keeps hW) hr
  rw[hto] at this
  exact this
 have hzt:∀ i,i<=4->∀ k,k<3->Mz (s i k):=fun i hi k hk=>ir (hr i k) (ht i hi k hk)
 obtain⟨rD,pD,rS,pS⟩:=mi hzt
 have cM:=jI (show aF sB=true by decide) eI pS rS
 have rM:ax (ay sB (fS (uL s 4))):=aS eI rS
 obtain⟨q1,q2⟩:=cN rD
 have kR:bk (rg (fD (uL s 4)))=rg (fD (uL s 4)):=iB q2
 have pR:aL (rg (fD (uL s 4)))≠4:=by rw[li rD];exact cr pD
 have hM:∀ W,(binOp .mul 54 (.float .f64 4386506037058863111) (.float .f64 (wd (fS (uL s 4))))).run Tryz.prog W=.ok (.float .f64 (wd (ay sB (fS (uL s 4))))) W:=fun W=>by
  have:=iJ (P:=Tryz.prog) 54 (FW.pat (cr (show aF sB=true by decide)) eI) (FW.pat (cr pS) rS) cM W
  exact this
 have CL:Hid (∀ W,Below w.heap.size w W->Calls Tryz.prog 41 #[.slice ao 5 cap,.func (.func 42) #[] #[]] W fun e w'=>e=.returned (.agg #[.float .f64 (wd (uL s 4 0 0)),.float .f64 (wd (uL s 4 0 1)),.float .f64 (wd (uL s 4 0 2)),.float .f64 (wd (uL s 4 1 0)),.float .f64 (wd (uL s 4 1 1)),.float .f64 (wd (uL s 4 1 2)),.float .f64 (wd (uL s 4 2 0)),.float .f64 (wd (uL s 4 2 1)),.float .f64 (wd (uL s 4 2 2)),.float .f64 (wd (uL s 4 3 0)),.float .f64 (wd (uL s 4 3 1)),.float .f64 (wd (uL s 4 3 2))])∧Below W.heap.size W w'):=fun W hW=>jd ao 5 4 cap s W (h.keeps hW) rfl (by decide) hzt (uL s 4) rfl
 have CF:Hid (∀ W,Calls Tryz.prog 59 #[.agg #[.float .f64 (wd (uL s 4 0 0)),.float .f64 (wd (uL s 4 0 1)),.float .f64 (wd (uL s 4 0 2)),.float .f64 (wd (uL s 4 1 0)),.float .f64 (wd (uL s 4 1 1)),.float .f64 (wd (uL s 4 1 2)),.float .f64 (wd (uL s 4 2 0)),.float .f64 (wd (uL s 4 2 1)),.float .f64 (wd (uL s 4 2 2)),.float .f64 (wd (uL s 4 3 0)),.float .f64 (wd (uL s 4 3 1)),.float .f64 (wd (uL s 4 3 2))]] W fun e w'=>e=.returned (.tuple #[.float .f64 (wd (fD (uL s 4))),.float .f64 (wd (fS (uL s 4)))])∧Below W.heap.size W w'):=fun W=>sC (qF hzt) W
 have CA:Hid (∀ W,Calls Tryz.prog 43 #[.float .f64 (wd (fD (uL s 4)))] W fun e w'=>e=.returned (.float .f64 (wd (rg (fD (uL s 4)))))∧w'=W):=fun W=>cW rD W
 have CC:Hid (∀ W,Calls Tryz.prog 44 #[.float .f64 (wd (fD (uL s 4))),.float .f64 0] W fun r w'=>r=.returned (.int .i64 (aZ (sX (vL s 4)) 0))∧w'=W):=fun W=>by
  have:=sD rD pD W
  rw[oo hr hzt hd] at this
  exact this
 have ho:FloatKind.f64.format.order (wd (rg (fD (uL s 4)))) (wd (ay sB (fS (uL s 4))))=some .gt:=nj q1 rM pR cM (by rw[kR];exact hd)
 clear h hr hok hz hto ht hd H hzt rD pD rS pS cM rM q1 q2 kR pR
 generalize aZ (sX (vL s 4)) 0=sg at *
 generalize wd (ay sB (fS (uL s 4)))=MM at *
 generalize wd (rg (fD (uL s 4)))=AA at *
 generalize wd (fD (uL s 4))=DD at *
 generalize wd (fS (uL s 4))=SS at *
 have hb0:=aO w (.cells #[.func (.func 59) #[] #[],.float .f64 4386506037058863111,.func (.func 60) #[] #[]] 57) (.cells #[.int .i64 0,.int .i64 0] 27)
 have q_k:=bX w (.cells #[.func (.func 59) #[] #[],.float .f64 4386506037058863111,.func (.func 60) #[] #[]] 57) (.cells #[.int .i64 0,.int .i64 0] 27)
 have r_k:=bP w (.cells #[.func (.func 59) #[] #[],.float .f64 4386506037058863111,.func (.func 60) #[] #[]] 57) (.cells #[.int .i64 0,.int .i64 0] 27)
 have qv0:=af q_k 0 rfl
 have qv1:=af q_k 1 rfl
 have qv2:=af q_k 2 rfl
 go_enter Tryz.func19,Tryz.ntmps19
 go_wp2_with fail
 clear qv0 qv1 qv2
 generalize (w.alloc (.cells #[.func (.func 59) #[] #[],.float .f64 4386506037058863111,.func (.func 60) #[] #[]] 57)).alloc (.cells #[.int .i64 0,.int .i64 0] 27)=x0 at hb0 q_k r_k ⊢
 refine(CG.out _ hb0).mono ?_
 rintro _ y1 ⟨rfl,hw1⟩
 replace q_k:=am hw1 q_k
 replace r_k:=am hw1 r_k
 replace hb0:=ac hb0 hw1
 go_wp2_with fail
 refine(CT.out _ hb0).mono ?_
 rintro _ y2 ⟨rfl,hw2⟩
 replace q_k:=am hw2 q_k
 replace r_k:=am hw2 r_k
 replace hb0:=ac hb0 hw2
 go_wp2_with fail
 have KK:∀ W,Below y2.heap.size y2 W->W.cell? ⟨w.heap.size,0,none⟩=some (.func (.func 59) #[] #[]):=fun W hb=>aj (af q_k 0 rfl) hb
 have hC0:=(ak y2).drew
 go_region_held3 (fun W=>W.cell? ⟨w.heap.size,0,none⟩=some (.func (.func 59) #[] #[]))
  (with_reducible first|assumption|exact KK _ hC0|exact KK _ hC1|exact KK _ hC2|fail)
  (first|(go_at_call 59;refine(CF.out _).mono ?_;rintro _ y4 ⟨rfl,hw4⟩;have hC2:=ac hC1 hw4)|(go_at_call 41;refine(CL.out _ (ac hb0 hC0)).mono ?_;rintro _ y3 ⟨rfl,hw3⟩;have hC1:=ac hC0 hw3))
 replace q_k:=am hC2 q_k
 replace r_k:=am hC2 r_k
 replace hb0:=ac hb0 hC2
 clear KK hC0 hC1 hC2 hw3 hw4
 go_wp2_with fail
 have c1:=af q_k 1 rfl
 go_quiet (first|(go_at_call 43;with_reducible exact Calls.quiet_of_same (CA.out _)))
 go_wp2_with fail
 have hdq:=aN (ak y4) nq
 replace q_k:=am hdq q_k
 replace r_k:=am hdq r_k
 replace hb0:=ac hb0 hdq
 clear c1
 generalize y4.drewN nq=y5 at q_k r_k hb0 ⊢
 refine(CC.out _).mono ?_
 rintro _ wz ⟨rfl,hwz⟩
 replace hwz:=hwz.symm
 subst hwz
 have k0:=af r_k 0 rfl
 have k1:=af r_k 1 rfl
 have z0:=av r_k 0
 have z1:=av r_k 1
 go_wp2
 exact bodyPost_ret (v:=.tuple #[.agg #[.int .i64 sg,.int .i64 1],.int .i64 0]) (by simp[results,Tryz.results19,go_sem,k0,k1]) rfl ⟨rfl,by first|exact(hb0.setCell (p:=⟨w.heap.size+1,0,none⟩) (show w.heap.size<=w.heap.size+1 by omega) _).setCell (p:=⟨w.heap.size+1,1,none⟩) (show w.heap.size<=w.heap.size+1 by omega) _|exact hb0⟩
theorem qy (ao:Option Addr) (cap:Nat) (s:Nat->Nat->Int) (w:World) (h:fy w ao 5 cap s) (hr:∀ i k,ax (s i k)) (hok:bL (cD s) 5=true) (hz:∀ i,i<=4->∀ k,k<3->aF (s i k)=true) (hto:bL (dz s) 5=true) (ht:∀ i,i<=4->∀ k,k<3->bz (s i k)=true) (hd:rg (fD (uL s 4))<=bk (ay sB (fS (uL s 4)))) (H:cB w) :
  Calls Tryz.prog 19 #[.agg #[.func (.func 59) #[] #[],.float .f64 4386506037058863111,.func (.func 60) #[] #[]],.slice ao 5 cap] w fun e w'=>e=.returned (.tuple #[.agg #[.int .i64 (aZ (sX (vL s 4)) 0),.int .i64 4],.int .i64 0])∧Below w.heap.size w w':=by
 have CG:Hid (∀ W,Below w.heap.size w W->Calls Tryz.prog 38 #[.slice ao 5 cap] W fun x w'=>x=.returned (.bool true)∧Below W.heap.size W w'):=fun W hW=>by
  have:=eJ ao 5 cap s W (h.keeps hW) hr
  rw[hok] at this
  exact this
 have CT:Hid (∀ W,Below w.heap.size w W->Calls Tryz.prog 39 #[.slice ao 5 cap] W fun x w'=>x=.returned (.bool true)∧Below W.heap.size W w'):=fun W hW=>by
  have:=gL ao 5 cap s W (h.keeps hW) hr
  rw[hto] at this
  exact this
 have CX:Hid (∀ W st,Below w.heap.size w W->Calls Tryz.prog 40 #[.agg #[.func (.func 59) #[] #[],.float .f64 4386506037058863111,.func (.func 60) #[] #[]],.slice ao 5 cap,.int .i64 st] W fun e w'=>e=.returned (.agg #[.int .i64 (aZ (sX (vL s 4)) 0),.int .i64 st])∧Below W.heap.size W w'):=fun W st hW=>qm ao cap s W (h.keeps hW) hr hz (H.keeps hW) st
 have hzt:∀ i,i<=4->∀ k,k<3->Mz (s i k):=fun i hi k hk=>ir (hr i k) (ht i hi k hk)
 obtain⟨rD,pD,rS,pS⟩:=mi hzt
 have cM:=jI (show aF sB=true by decide) eI pS rS
 have rM:ax (ay sB (fS (uL s 4))):=aS eI rS
 obtain⟨q1,q2⟩:=cN rD
 have kR:bk (rg (fD (uL s 4)))=rg (fD (uL s 4)):=iB q2
 have pR:aL (rg (fD (uL s 4)))≠4:=by rw[li rD];exact cr pD
 have hM:∀ W,(binOp .mul 54 (.float .f64 4386506037058863111) (.float .f64 (wd (fS (uL s 4))))).run Tryz.prog W=.ok (.float .f64 (wd (ay sB (fS (uL s 4))))) W:=fun W=>by
  have:=iJ (P:=Tryz.prog) 54 (FW.pat (cr (show aF sB=true by decide)) eI) (FW.pat (cr pS) rS) cM W
  exact this
 have CL:Hid (∀ W,Below w.heap.size w W->Calls Tryz.prog 41 #[.slice ao 5 cap,.func (.func 42) #[] #[]] W fun e w'=>e=.returned (.agg #[.float .f64 (wd (uL s 4 0 0)),.float .f64 (wd (uL s 4 0 1)),.float .f64 (wd (uL s 4 0 2)),.float .f64 (wd (uL s 4 1 0)),.float .f64 (wd (uL s 4 1 1)),.float .f64 (wd (uL s 4 1 2)),.float .f64 (wd (uL s 4 2 0)),.float .f64 (wd (uL s 4 2 1)),.float .f64 (wd (uL s 4 2 2)),.float .f64 (wd (uL s 4 3 0)),.float .f64 (wd (uL s 4 3 1)),.float .f64 (wd (uL s 4 3 2))])∧Below W.heap.size W w'):=fun W hW=>jd ao 5 4 cap s W (h.keeps hW) rfl (by decide) hzt (uL s 4) rfl
 have CF:Hid (∀ W,Calls Tryz.prog 59 #[.agg #[.float .f64 (wd (uL s 4 0 0)),.float .f64 (wd (uL s 4 0 1)),.float .f64 (wd (uL s 4 0 2)),.float .f64 (wd (uL s 4 1 0)),.float .f64 (wd (uL s 4 1 1)),.float .f64 (wd (uL s 4 1 2)),.float .f64 (wd (uL s 4 2 0)),.float .f64 (wd (uL s 4 2 1)),.float .f64 (wd (uL s 4 2 2)),.float .f64 (wd (uL s 4 3 0)),.float .f64 (wd (uL s 4 3 1)),.float .f64 (wd (uL s 4 3 2))]] W fun e w'=>e=.returned (.tuple #[.float .f64 (wd (fD (uL s 4))),.float .f64 (wd (fS (uL s 4)))])∧Below W.heap.size W w'):=fun W=>sC (qF hzt) W
 have CA:Hid (∀ W,Calls Tryz.prog 43 #[.float .f64 (wd (fD (uL s 4)))] W fun e w'=>e=.returned (.float .f64 (wd (rg (fD (uL s 4)))))∧w'=W):=fun W=>cW rD W
 have ho:FloatKind.f64.format.order (wd (rg (fD (uL s 4)))) (wd (ay sB (fS (uL s 4))))=some .lt∨FloatKind.f64.format.order (wd (rg (fD (uL s 4)))) (wd (ay sB (fS (uL s 4))))=some .eq:=by
  rcases Int.lt_or_eq_of_le hd with g|g
  ·exact .inl (nf q1 rM pR cM (by rw[kR];exact g))
  ·exact .inr (mb q1 rM pR cM (by rw[kR];exact g))
 clear h hr hok hz hto ht hd H hzt rD pD rS pS cM rM q1 q2 kR pR
 generalize aZ (sX (vL s 4)) 0=sg at *
 generalize wd (ay sB (fS (uL s 4)))=MM at *
 generalize wd (rg (fD (uL s 4)))=AA at *
 generalize wd (fD (uL s 4))=DD at *
 generalize wd (fS (uL s 4))=SS at *
 have hb0:=aO w (.cells #[.func (.func 59) #[] #[],.float .f64 4386506037058863111,.func (.func 60) #[] #[]] 57) (.cells #[.int .i64 0,.int .i64 0] 27)
 have q_k:=bX w (.cells #[.func (.func 59) #[] #[],.float .f64 4386506037058863111,.func (.func 60) #[] #[]] 57) (.cells #[.int .i64 0,.int .i64 0] 27)
 have r_k:=bP w (.cells #[.func (.func 59) #[] #[],.float .f64 4386506037058863111,.func (.func 60) #[] #[]] 57) (.cells #[.int .i64 0,.int .i64 0] 27)
 have qv0:=af q_k 0 rfl
 have qv1:=af q_k 1 rfl
 have qv2:=af q_k 2 rfl
 go_enter Tryz.func19,Tryz.ntmps19
 go_wp2_with fail
 clear qv0 qv1 qv2
 generalize (w.alloc (.cells #[.func (.func 59) #[] #[],.float .f64 4386506037058863111,.func (.func 60) #[] #[]] 57)).alloc (.cells #[.int .i64 0,.int .i64 0] 27)=x0 at hb0 q_k r_k ⊢
 refine(CG.out _ hb0).mono ?_
 rintro _ y1 ⟨rfl,hw1⟩
 replace q_k:=am hw1 q_k
 replace r_k:=am hw1 r_k
 replace hb0:=ac hb0 hw1
 go_wp2_with fail
 refine(CT.out _ hb0).mono ?_
 rintro _ y2 ⟨rfl,hw2⟩
 replace q_k:=am hw2 q_k
 replace r_k:=am hw2 r_k
 replace hb0:=ac hb0 hw2
 go_wp2_with fail
 have KK:∀ W,Below y2.heap.size y2 W->W.cell? ⟨w.heap.size,0,none⟩=some (.func (.func 59) #[] #[]):=fun W hb=>aj (af q_k 0 rfl) hb
 have hC0:=(ak y2).drew
 go_region_held3 (fun W=>W.cell? ⟨w.heap.size,0,none⟩=some (.func (.func 59) #[] #[]))
  (with_reducible first|assumption|exact KK _ hC0|exact KK _ hC1|exact KK _ hC2|fail)
  (first|(go_at_call 59;refine(CF.out _).mono ?_;rintro _ y4 ⟨rfl,hw4⟩;have hC2:=ac hC1 hw4)|(go_at_call 41;refine(CL.out _ (ac hb0 hC0)).mono ?_;rintro _ y3 ⟨rfl,hw3⟩;have hC1:=ac hC0 hw3))
 replace q_k:=am hC2 q_k
 replace r_k:=am hC2 r_k
 replace hb0:=ac hb0 hC2
 clear KK hC0 hC1 hC2 hw3 hw4
 go_wp2_with fail
 rcases ho with ho|ho
 all_goals
  have c1:=af q_k 1 rfl
  go_quiet (first|(go_at_call 43;with_reducible exact Calls.quiet_of_same (CA.out _)))
  have hdq:=aN (ak y4) nq
  replace q_k:=am hdq q_k
  replace r_k:=am hdq r_k
  replace hb0:=ac hb0 hdq
  clear c1
  generalize y4.drewN nq=y5 at q_k r_k hb0 ⊢
  have c0:=af q_k 0 rfl
  have c1:=af q_k 1 rfl
  have c2:=af q_k 2 rfl
  go_wp2_with fail
  clear c0 c1 c2
  refine(CX.out _ _ hb0).mono ?_
  rintro _ y9 ⟨rfl,hw9⟩
  replace r_k:=am hw9 r_k
  replace hb0:=ac hb0 hw9
  have k0:=af r_k 0 rfl
  have k1:=af r_k 1 rfl
  have z0:=av r_k 0
  have z1:=av r_k 1
  go_wp2
  exact bodyPost_ret (v:=.tuple #[.agg #[.int .i64 sg,.int .i64 4],.int .i64 0]) (by simp[results,Tryz.results19,go_sem,k0,k1]) rfl ⟨rfl,by first|exact(hb0.setCell (p:=⟨w.heap.size+1,0,none⟩) (show w.heap.size<=w.heap.size+1 by omega) _).setCell (p:=⟨w.heap.size+1,1,none⟩) (show w.heap.size<=w.heap.size+1 by omega) _|exact hb0⟩
end Go.Proofs.YtcklaogdjpbagaaGreatDoor
