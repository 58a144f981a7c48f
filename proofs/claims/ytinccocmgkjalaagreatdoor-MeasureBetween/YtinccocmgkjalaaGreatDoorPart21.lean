/-
  Parts of the proof, one behind another.
-/
import Derived.Test.YtinccocmgkjalaaGreatDoorPart19
import Derived.Test.YtinccocmgkjalaaGreatDoorPart18
import Derived.Test.YtinccocmgkjalaaGreatDoorPart20
import Derived.Test.YtinccocmgkjalaaGreatDoorPart16
import Derived.Test.YtinccocmgkjalaaGreatDoorPart9
import Derived.Test.YtinccocmgkjalaaGreatDoorPart8
import Derived.Test.YtinccocmgkjalaaGreatDoorPart12
import Derived.Test.YtinccocmgkjalaaGreatDoorPart6
import Derived.Test.YtinccocmgkjalaaGreatDoorPart7
set_option linter.unusedVariables false
set_option linter.unusedSimpArgs false
namespace Go.Proofs.YtinccocmgkjalaaGreatDoor
open Go Go.RowKit Go.Proofs.YtinccocmgkjalaaGreatDoor.M
theorem fin2 {w w3:World} (h3:Below (w.alloc (.cells #[.float .f64 0,.float .f64 0] 103)).heap.size (w.alloc (.cells #[.float .f64 0,.float .f64 0] 103)) w3) (U V:Nat) :
  (store ⟨w.heap.size,0,none⟩ (.float .f64 U)).run Tryz.prog w3=.ok () (w3.setCell ⟨w.heap.size,0,none⟩ (.float .f64 U))∧(store ⟨w.heap.size,1,none⟩ (.float .f64 V)).run Tryz.prog (w3.setCell ⟨w.heap.size,0,none⟩ (.float .f64 U))=.ok () ((w3.setCell ⟨w.heap.size,0,none⟩ (.float .f64 U)).setCell ⟨w.heap.size,1,none⟩ (.float .f64 V))∧((w3.setCell ⟨w.heap.size,0,none⟩ (.float .f64 U)).setCell ⟨w.heap.size,1,none⟩ (.float .f64 V)).cell? ⟨w.heap.size,0,none⟩=some (.float .f64 U)∧((w3.setCell ⟨w.heap.size,0,none⟩ (.float .f64 U)).setCell ⟨w.heap.size,1,none⟩ (.float .f64 V)).cell? ⟨w.heap.size,1,none⟩=some (.float .f64 V)∧Below w.heap.size w ((w3.setCell ⟨w.heap.size,0,none⟩ (.float .f64 U)).setCell ⟨w.heap.size,1,none⟩ (.float .f64 V)):=by
 have hg:=q_heap_last w (.cells #[.float .f64 0,.float .f64 0] 103)
 have hba:=bel_alloc w (.cells #[.float .f64 0,.float .f64 0] 103)
 have d2:=(h3.block _ (Array.getElem?_eq_some_iff.1 hg).1).trans hg
 have d3:=q_heap_set d2 0 (.float .f64 U)
 have d4:=q_heap_set d3 1 (.float .f64 V)
 have f0:=blkC d2 0 rfl
 have z0:=blkF d2 0
 have f1:=blkC d3 1 rfl
 have z1:=blkF d3 1
 refine ⟨?_,?_,blkC d4 0 rfl,blkC d4 1 rfl,?_⟩
 ·rw [run_store _ _ _ _ _ rfl,f0]; simp only [z0]; rfl
 ·rw [run_store _ _ _ _ _ rfl,f1]; simp only [z1]; rfl
 ·exact ((bel_trans hba h3).setCell (p:=⟨w.heap.size,0,none⟩) (Nat.le_refl _) _).setCell (p:=⟨w.heap.size,1,none⟩) (Nat.le_refl _) _
set_option maxRecDepth 100000 in
set_option maxHeartbeats 1000000 in
theorem deepProd_any {a b:Int} (ra:rng a) (rb:rng b) (w:World) (H:Hold4 w) :
  Calls Tryz.prog 139 #[.int .i64 a,.int .i64 b] w fun e w'=>e=.returned (ivl (mulP 1 a b) (mulP 2 a b))∧Below w.heap.size w w':=by
 have C1:Hid (∀ W,Hold4 W->Calls Tryz.prog 177 #[.int .i64 a,.int .i64 b,.int .i64 1] W fun e w'=>e=.returned (.tuple #[.int .i64 (mulP 1 a b),.int .i64 0])∧Below W.heap.size W w'):=fun W h=>mul_A ra rb (by omega) h
 have C2:Hid (∀ W,Hold4 W->Calls Tryz.prog 177 #[.int .i64 a,.int .i64 b,.int .i64 2] W fun e w'=>e=.returned (.tuple #[.int .i64 (mulP 2 a b),.int .i64 0])∧Below W.heap.size W w'):=fun W h=>mul_A ra rb (by omega) h
 unfold ivl
 generalize mulP 1 a b=l at *
 generalize mulP 2 a b=h at *
 have hba:=bel_alloc w (.cells #[.float .f64 0,.float .f64 0] 103)
 go_enter Tryz.func139,Tryz.ntmps139
 go_wp2_with fail
 refine (C1.out _ (H.keeps hba)).mono ?_
 rintro _ w1 ⟨rfl,hb1⟩
 have hw1:=bel_trans hba hb1
 go_wp2_with fail
 refine (C2.out _ (H.keeps hw1)).mono ?_
 rintro _ w2 ⟨rfl,hb2⟩
 have hb3:=bel_trans hb1 hb2
 obtain ⟨s0,s1,e0,e1,hbe⟩:=fin2 hb3 (wd l) (wd h)
 have CF:Hid (∀ W,Calls Tryz.prog 32 #[.int .i64 l] W fun e w'=>e=.returned (.float .f64 (wd l))∧w'=W):=fun W=>bitsFloat l W
 have CG:Hid (∀ W,Calls Tryz.prog 32 #[.int .i64 h] W fun e w'=>e=.returned (.float .f64 (wd h))∧w'=W):=fun W=>bitsFloat h W
 go_wp2_with fail
 refine (CF.out _).mono ?_
 rintro _ wz ⟨rfl,hwz⟩
 replace hwz:=hwz.symm
 subst hwz
 go_wp2_with fail
 refine (CG.out _).mono ?_
 rintro _ wz ⟨rfl,hwz⟩
 replace hwz:=hwz.symm
 subst hwz
 go_wp2
 refine bodyPost_ret (v:=.agg #[.float .f64 (wd l),.float .f64 (wd h)]) (by simp [results,Tryz.results139,go_sem,e0,e1]) rfl ⟨rfl,hbe⟩
theorem run_prodN {P:Program} (t:TypeId) {p q:Int} {x y:Nat} (hx:FW p x) (hy:FW q y) (h:cls (fprod p q) ≠ 4) (w:World):(binOp .mul t (.float .f64 x) (.float .f64 y)).run P w=.ok (.float .f64 (wd (fprod p q))) w:=by
 obtain ⟨z,w',hrun,hz⟩:=run_farith (P:=P) .mul (.inr (.inr (.inl rfl))) t x y w
 have hf:floatBits .mul .f64 x y=Ieee.double.mul x y:=rfl
 rw [hf] at hz
 rcases mul_FW hx hy with ⟨z',e1,e2⟩ | ⟨_,e2⟩
 ·rcases hz with ⟨h1,h2⟩ | ⟨h1,_⟩
  ·rw [e1] at h1
   cases h1
   rw [hrun,h2,(e2.of h).2.1]
  ·rw [e1] at h1; cases h1
 ·exact absurd (by rw [e2]; decide) h
theorem key_pos0 {p:Int} (h:nn p) (h0:rg p ≠ 0):FloatKind.f64.format.order (wd p) 0=some .lt∨FloatKind.f64.format.order (wd p) 0=some .gt:=by
 have n0:=nn0.1
 have w0:wd 0=0:=by decide
 have k0:key 0=0:=by decide
 have hk:key p ≠ 0:=by
  have:=nn_rg h
  unfold key
  unfold rg at h0 this
  split at h0 <;> simp_all <;> omega
 rcases Int.lt_or_gt_of_ne hk with q | q
 ·left
  have:=q_lt h.1 n0.1 h.2 n0.2 (by rw [k0]; exact q)
  rwa [w0] at this
 ·right
  have:=q_gt h.1 n0.1 h.2 n0.2 (by rw [k0]; exact q)
  rwa [w0] at this
theorem key_zero0 {p:Int} (h:nn p) (h0:rg p=0):FloatKind.f64.format.order (wd p) 0=some .eq:=by
 have n0:=nn0.1
 have w0:wd 0=0:=by decide
 have k0:key 0=0:=by decide
 have hk:key p=0:=by
  unfold key
  unfold rg at h0
  split at h0 <;> simp_all
 have:=q_eq h.1 n0.1 h.2 n0.2 (by rw [k0]; exact hk)
 rwa [w0] at this
set_option maxRecDepth 100000 in
set_option maxHeartbeats 1000000 in
theorem product_zero {p q:Int} (hp:nn p) (hq:nn q) (h0:rg p=0∨rg q=0) (w:World) :
  Calls Tryz.prog 98 #[.float .f64 (wd p),.float .f64 (wd q)] w fun e w'=>e=.returned (ivl 0 0)∧Below w.heap.size w w':=by
 have hcv:=cv64
 have w0:wd 0=0:=by decide
 unfold ivl
 rw [w0]
 have hba:=bel_alloc w (.cells #[.float .f64 0,.float .f64 0] 103)
 obtain ⟨z,w1,hrun,hz,hw1⟩:=run_fprod (P:=Tryz.prog) 50 (FW.pat hp.2 hp.1) (FW.pat hq.2 hq.1) (w.alloc (.cells #[.float .f64 0,.float .f64 0] 103))
 have hb1:Below (w.alloc (.cells #[.float .f64 0,.float .f64 0] 103)).heap.size (w.alloc (.cells #[.float .f64 0,.float .f64 0] 103)) w1:=by
  rcases hw1 with rfl | rfl
  ·exact bel_refl _
  ·exact (bel_refl _).drew
 obtain ⟨s0,s1,e0,e1,hbe⟩:=fin2 hb1 0 0
 by_cases hp0:rg p=0
 ·have o:=key_zero0 hp hp0
  generalize wd p=x at *
  generalize wd q=y at *
  clear hw1
  go_enter Tryz.func98,Tryz.ntmps98
  go_wp2
  refine bodyPost_ret (v:=.agg #[.float .f64 0,.float .f64 0]) (by simp [results,Tryz.results98,go_sem,e0,e1]) rfl ⟨rfl,hbe⟩
 ·have hq0:rg q=0:=by omega
  have o2:=key_zero0 hq hq0
  rcases key_pos0 hp hp0 with o | o
  all_goals
   generalize wd p=x at *
   generalize wd q=y at *
   clear hw1
   go_enter Tryz.func98,Tryz.ntmps98
   go_wp2
   refine bodyPost_ret (v:=.agg #[.float .f64 0,.float .f64 0]) (by simp [results,Tryz.results98,go_sem,e0,e1]) rfl ⟨rfl,hbe⟩
set_option maxRecDepth 100000 in
set_option maxHeartbeats 1000000 in
theorem product_deep {p q:Int} (hp:nn p) (hq:nn q) (p0:rg p ≠ 0) (q0:rg q ≠ 0) (hn:nn (fprod p q)) (hd:rg (fprod p q) < 283726776524341248) (w:World) (H:Hold4 w) :
  Calls Tryz.prog 98 #[.float .f64 (wd p),.float .f64 (wd q)] w fun e w'=>e=.returned (ivl (mulP 1 p q) (mulP 2 p q))∧Below w.heap.size w w':=by
 have hcv:=cv64
 have hba:=bel_alloc w (.cells #[.float .f64 0,.float .f64 0] 103)
 have CD:Hid (∀ W,Hold4 W->Calls Tryz.prog 139 #[.int .i64 p,.int .i64 q] W fun e w'=>e=.returned (.agg #[.float .f64 (wd (mulP 1 p q)),.float .f64 (wd (mulP 2 p q))])∧Below W.heap.size W w'):=fun W h=>deepProd_any hp.1 hq.1 W h
 have CP:Hid (∀ W,Calls Tryz.prog 62 #[.float .f64 (wd p)] W fun e w'=>e=.returned (.int .i64 p)∧w'=W):=fun W=>of_FW (FW.pat hp.2 hp.1) W
 have CQ:Hid (∀ W,Calls Tryz.prog 62 #[.float .f64 (wd q)] W fun e w'=>e=.returned (.int .i64 q)∧w'=W):=fun W=>of_FW (FW.pat hq.2 hq.1) W
 have CA:Hid (∀ W,Calls Tryz.prog 34 #[.float .f64 (wd (fprod p q))] W fun e w'=>e=.returned (.float .f64 (wd (rg (fprod p q))))∧w'=W):=fun W=>mathAbs hn.1 W
 have hrun:∀ W,(binOp .mul 50 (.float .f64 (wd p)) (.float .f64 (wd q))).run Tryz.prog W=.ok (.float .f64 (wd (fprod p q))) W:=fun W=>run_prodN _ (FW.pat hp.2 hp.1) (FW.pat hq.2 hq.1) hn.2 W
 have od:FloatKind.f64.format.order (wd (rg (fprod p q))) 283726776524341248=some .lt:=by
  obtain ⟨a1,a2⟩:=q_rg hn.1
  have ca:¬ cls (rg (fprod p q))=4:=by rw [q_cls hn.1]; exact hn.2
  have:=q_lt a1 (show rng 283726776524341248 by unfold rng; omega) ca (by decide) (by rw [q_key a2,show key 283726776524341248=283726776524341248 by decide]; exact hd)
  rwa [show wd 283726776524341248=283726776524341248 by decide] at this
 have o1:=key_pos0 hp p0
 have o2:=key_pos0 hq q0
 unfold ivl
 generalize wd (mulP 1 p q)=U at *
 generalize wd (mulP 2 p q)=V at *
 generalize wd (rg (fprod p q))=A at *
 generalize wd (fprod p q)=N at *
 generalize wd p=x at *
 generalize wd q=y at *
 rcases o1 with o1 | o1 <;> rcases o2 with o2 | o2
 all_goals
  go_enter Tryz.func98,Tryz.ntmps98
  go_wp2_with fail
  refine (CA.out _).mono ?_
  rintro _ wz ⟨rfl,hwz⟩
  replace hwz:=hwz.symm
  subst hwz
  go_wp2_with fail
  refine (CP.out _).mono ?_
  rintro _ wz ⟨rfl,hwz⟩
  replace hwz:=hwz.symm
  subst hwz
  go_wp2_with fail
  refine (CQ.out _).mono ?_
  rintro _ wz ⟨rfl,hwz⟩
  replace hwz:=hwz.symm
  subst hwz
  go_wp2_with fail
  refine (CD.out _ (H.keeps hba)).mono ?_
  rintro _ w3 ⟨rfl,hb3⟩
  obtain ⟨s0,s1,e0,e1,hbe⟩:=fin2 hb3 U V
  go_wp2
  refine bodyPost_ret (v:=.agg #[.float .f64 U,.float .f64 V]) (by simp [results,Tryz.results98,go_sem,e0,e1]) rfl ⟨rfl,hbe⟩
set_option maxRecDepth 100000 in
set_option maxHeartbeats 1000000 in
theorem product_be {p q:Int} (hp:nn p) (hq:nn q) (p0:rg p ≠ 0) (q0:rg q ≠ 0) (hn:nn (fprod p q)) (hd:283726776524341248 <= rg (fprod p q)) (w:World) :
  Calls Tryz.prog 98 #[.float .f64 (wd p),.float .f64 (wd q)] w fun e w'=>e=.returned (ivl (beLo (fprod p q) (ffma p q (neg (fprod p q)))) (beHi (fprod p q) (ffma p q (neg (fprod p q)))))∧Below w.heap.size w w':=by
 have hcv:=cv64
 have hba:=bel_alloc w (.cells #[.float .f64 0,.float .f64 0] 103)
 have CA:Hid (∀ W,Calls Tryz.prog 34 #[.float .f64 (wd (fprod p q))] W fun e w'=>e=.returned (.float .f64 (wd (rg (fprod p q))))∧w'=W):=fun W=>mathAbs hn.1 W
 have hrun:∀ W,(binOp .mul 50 (.float .f64 (wd p)) (.float .f64 (wd q))).run Tryz.prog W=.ok (.float .f64 (wd (fprod p q))) W:=fun W=>run_prodN _ (FW.pat hp.2 hp.1) (FW.pat hq.2 hq.1) hn.2 W
 have hneg:∀ W,(Op.unary UnOp.neg (.float .f64 (wd (fprod p q)))).run Tryz.prog W=.ok (.float .f64 (wd (neg (fprod p q)))) W:=fun W=>run_negF hn W
 have nm:=(nn_neg hn).1
 obtain ⟨L,w1,rF,hL,hw1⟩:=run_ffma (FW.pat hp.2 hp.1) (FW.pat hq.2 hq.1) (FW.pat nm.2 nm.1) (w.alloc (.cells #[.float .f64 0,.float .f64 0] 103))
 have hb1:Below (w.alloc (.cells #[.float .f64 0,.float .f64 0] 103)).heap.size (w.alloc (.cells #[.float .f64 0,.float .f64 0] 103)) w1:=by
  rcases hw1 with rfl | rfl
  ·exact bel_refl _
  ·exact (bel_refl _).drew
 have CB:Hid (∀ W,Calls Tryz.prog 140 #[.float .f64 (wd (fprod p q)),.float .f64 L] W fun e w'=>e=.returned (.agg #[.float .f64 (wd (beLo (fprod p q) (ffma p q (neg (fprod p q))))),.float .f64 (wd (beHi (fprod p q) (ffma p q (neg (fprod p q)))))])∧Below W.heap.size W w'):=fun W=>beside_any hn hL W
 have od:FloatKind.f64.format.order (wd (rg (fprod p q))) 283726776524341248=some .gt∨FloatKind.f64.format.order (wd (rg (fprod p q))) 283726776524341248=some .eq:=by
  obtain ⟨a1,a2⟩:=q_rg hn.1
  have ca:¬ cls (rg (fprod p q))=4:=by rw [q_cls hn.1]; exact hn.2
  have w9:wd 283726776524341248=283726776524341248:=by decide
  have k9:key 283726776524341248=283726776524341248:=by decide
  by_cases e:rg (fprod p q)=283726776524341248
  ·right
   have:=q_eq a1 (show rng 283726776524341248 by unfold rng; omega) ca (by decide) (by rw [q_key a2,k9]; exact e)
   rwa [w9] at this
  ·left
   have:=q_gt a1 (show rng 283726776524341248 by unfold rng; omega) ca (by decide) (by rw [q_key a2,k9]; omega)
   rwa [w9] at this
 have o1:=key_pos0 hp p0
 have o2:=key_pos0 hq q0
 unfold ivl
 generalize wd (beLo (fprod p q) (ffma p q (neg (fprod p q))))=U at *
 generalize wd (beHi (fprod p q) (ffma p q (neg (fprod p q))))=V at *
 generalize wd (rg (fprod p q))=A at *
 generalize wd (neg (fprod p q))=M at *
 generalize wd (fprod p q)=N at *
 generalize wd p=x at *
 generalize wd q=y at *
 clear hw1 hL hd
 rcases o1 with o1 | o1 <;> rcases o2 with o2 | o2 <;> rcases od with od | od
 all_goals
  go_enter Tryz.func98,Tryz.ntmps98
  go_wp2_with fail
  refine (CA.out _).mono ?_
  rintro _ wz ⟨rfl,hwz⟩
  replace hwz:=hwz.symm
  subst hwz
  go_wp2_with fail
  refine (CB.out _).mono ?_
  rintro _ w3 ⟨rfl,hb3⟩
  obtain ⟨s0,s1,e0,e1,hbe⟩:=fin2 (bel_trans hb1 hb3) U V
  go_wp2
  refine bodyPost_ret (v:=.agg #[.float .f64 U,.float .f64 V]) (by simp [results,Tryz.results98,go_sem,e0,e1]) rfl ⟨rfl,hbe⟩
theorem fx_fw {a b:Nat} {x:Int} (h:Fx a b x):FW x (wd x):=FW.pat (q_fin h.p) h.r
theorem dans_past {w w':World} {V:Int} {v:Value} (h:DAns w w' V v) (o:Obj):DAns w (w'.alloc o) V v:=h.stays (bel_alloc _ _)
set_option maxRecDepth 100000 in
set_option maxHeartbeats 2000000 in
theorem oapart_any {p q:Int} (pp:pok p=true) (pq:pok q=true) (w:World) (H:Hold4 w) :
  Calls Tryz.prog 51 #[.int .i64 p,.int .i64 q] w fun r w'=>∃ v,r=.returned v∧DAns w w' (patV p - patV q) v:=by
 have r_k:=heap_a1 w (.cells #[.bool false,.slice none 0 0,.int .i64 0] 34)
 have hb0:=bel_alloc w (.cells #[.bool false,.slice none 0 0,.int .i64 0] 34)
 have B1:=patV_bd pp
 have B2:=patV_bd pq
 go_enter Tryz.func51,Tryz.ntmps51
 go_wp2_with fail
 generalize w.alloc (.cells #[.bool false,.slice none 0 0,.int .i64 0] 34)=x0 at r_k hb0 ⊢
 have H:=H.keeps hb0
 refine (of_ok pp H).mono ?_
 rintro _ y1 ⟨v,rfl,h1⟩
 obtain ⟨x_g,x_o,x_n,x_c,x_e,rfl⟩:=dans_shape h1
 have hw1:=h1.below
 have x_D:=h1.num
 have H:=H.keeps hw1
 have r_k:=(hw1.block _ (Array.getElem?_eq_some_iff.1 r_k).1).trans r_k
 have hb1:=bel_trans hb0 hw1
 have r_k:=heap_past (.cells #[.bool x_g,.slice x_o x_n x_c,.int .i64 x_e] 34) r_k
 have x_k:=heap_a1 y1 (.cells #[.bool x_g,.slice x_o x_n x_c,.int .i64 x_e] 34)
 have x_D:=x_D.keeps (bel_alloc y1 (.cells #[.bool x_g,.slice x_o x_n x_c,.int .i64 x_e] 34))
 have H:=H.keeps (bel_alloc y1 (.cells #[.bool x_g,.slice x_o x_n x_c,.int .i64 x_e] 34))
 have hb2':=bel_trans hb1 (bel_alloc y1 (.cells #[.bool x_g,.slice x_o x_n x_c,.int .i64 x_e] 34))
 go_wp2_with fail
 generalize y1.alloc (.cells #[.bool x_g,.slice x_o x_n x_c,.int .i64 x_e] 34)=x2 at r_k x_k x_D H hb2' ⊢
 refine (of_ok pq H).mono ?_
 rintro _ y2 ⟨v,rfl,h2⟩
 obtain ⟨y_g,y_o,y_n,y_c,y_e,rfl⟩:=dans_shape h2
 have hw2:=h2.below
 have y_D:=h2.num
 have H:=H.keeps hw2
 have r_k:=(hw2.block _ (Array.getElem?_eq_some_iff.1 r_k).1).trans r_k
 have x_k:=(hw2.block _ (Array.getElem?_eq_some_iff.1 x_k).1).trans x_k
 have x_D:=x_D.keeps hw2
 have hb2:=bel_trans hb2' hw2
 have r_k:=heap_past (.cells #[.bool y_g,.slice y_o y_n y_c,.int .i64 y_e] 34) r_k
 have x_k:=heap_past (.cells #[.bool y_g,.slice y_o y_n y_c,.int .i64 y_e] 34) x_k
 have y_k:=heap_a1 y2 (.cells #[.bool y_g,.slice y_o y_n y_c,.int .i64 y_e] 34)
 have x_D:=x_D.keeps (bel_alloc y2 (.cells #[.bool y_g,.slice y_o y_n y_c,.int .i64 y_e] 34))
 have y_D:=y_D.keeps (bel_alloc y2 (.cells #[.bool y_g,.slice y_o y_n y_c,.int .i64 y_e] 34))
 have H:=H.keeps (bel_alloc y2 (.cells #[.bool y_g,.slice y_o y_n y_c,.int .i64 y_e] 34))
 have hb3':=bel_trans hb2 (bel_alloc y2 (.cells #[.bool y_g,.slice y_o y_n y_c,.int .i64 y_e] 34))
 have f_x0:=blkC x_k 0 rfl
 have f_x1:=blkC x_k 1 rfl
 have f_x2:=blkC x_k 2 rfl
 go_wp2_with fail
 clear f_x0 f_x1 f_x2
 generalize y2.alloc (.cells #[.bool y_g,.slice y_o y_n y_c,.int .i64 y_e] 34)=x3 at r_k x_k y_k x_D y_D H hb3' ⊢
 have hs0:=(Array.getElem?_eq_some_iff.1 r_k).1
 refine (sub_B x_D y_D B1 B2 (by omega) H.tab).mono ?_
 rintro _ y3 ⟨v,rfl,h3⟩
 obtain ⟨n_g,n_o,n_n,n_c,n_e,rfl⟩:=dans_shape h3
 have hw3:=h3.below
 have n_D:=h3.num
 have H:=H.keeps hw3
 have r_k:=(hw3.block _ (Array.getElem?_eq_some_iff.1 r_k).1).trans r_k
 have x_k:=(hw3.block _ (Array.getElem?_eq_some_iff.1 x_k).1).trans x_k
 have x_D:=x_D.keeps hw3
 have y_k:=(hw3.block _ (Array.getElem?_eq_some_iff.1 y_k).1).trans y_k
 have y_D:=y_D.keeps hw3
 have hb3:=bel_trans hb3' hw3
 have r_k:=heap_past (.cells #[.bool n_g,.slice n_o n_n n_c,.int .i64 n_e] 34) r_k
 have k0:=blkC r_k 0 rfl
 have k1:=blkC r_k 1 rfl
 have k2:=blkC r_k 2 rfl
 have z0:=blkF r_k 0
 have z1:=blkF r_k 1
 have z2:=blkF r_k 2
 go_wp2
 refine bodyPost_ret (v:=.agg #[.bool n_g,.slice n_o n_n n_c,.int .i64 n_e]) (by simp [results,Tryz.results51,go_sem,k0,k1,k2]) rfl ⟨_,rfl,?_⟩
 exact dans_res3 (g:=w.heap.size) (dans_past h3 _) (by assumption) (Nat.le_refl _) hs0 _ _ _
theorem rsign3_any (ng:Bool) (ao:Option Addr) (n cap:Nat) (e:Int) (w:World) (hm:n <= 9223372036854775807) :
  Calls Tryz.prog 47 #[.agg #[.bool ng,.slice ao n cap,.int .i64 e]] w fun r w'=>r=.returned (.int .i64 (sgn ng n))∧Below w.heap.size w w':=by
 by_cases h0:n=0
 ·subst h0
  go_enter Tryz.func47,Tryz.ntmps47
  go_wp2
  go_ret
  exact ⟨rfl,bel_alloc _ _⟩
 ·have hn0:((n:Int) == 0)=false:=by simp; omega
  cases ng
  ·go_enter Tryz.func47,Tryz.ntmps47
   go_wp2
   go_ret
   exact ⟨ret_int (by simp [sgn,h0]),bel_alloc _ _⟩
  ·go_enter Tryz.func47,Tryz.ntmps47
   go_wp2
   go_ret
   exact ⟨ret_int (by simp [sgn,h0]),bel_alloc _ _⟩
def NumR.opp (x:NumR):NumR:=⟨if x.n=0 then x.ng else !x.ng,x.ao,x.n,x.cap,x.d,x.e⟩
set_option maxRecDepth 100000 in
theorem rneg3_any (x:NumR) (w:World) (hm:x.n <= 9223372036854775807) :
  Calls Tryz.prog 109 #[x.v] w fun r w'=>r=.returned x.opp.v∧Below w.heap.size w w':=by
 obtain ⟨ng,ao,n,cap,d,e⟩:=x
 unfold NumR.v NumR.opp
 simp only at *
 by_cases h0:n=0
 ·subst h0
  go_enter Tryz.func109,Tryz.ntmps109
  go_wp2
  refine bodyPost_ret (v:=.agg #[.bool ng,.slice ao 0 cap,.int .i64 e]) (by simp [results,Tryz.results109,go_sem]) rfl ⟨rfl,?_⟩
  exact bel_alloc2 _ _ _
 ·have hn0:(0:Int) < n:=by omega
  rw [if_neg h0]
  go_enter Tryz.func109,Tryz.ntmps109
  go_wp2
  refine bodyPost_ret (v:=.agg #[.bool (!ng),.slice ao n cap,.int .i64 e]) (by simp [results,Tryz.results109,go_sem]) rfl ⟨rfl,?_⟩
  exact bel_alloc2 _ _ _
def RFit (w w':World) (V:Int) (v:Value) (er:Int):Prop:=DFit w w' V v er
theorem RFit.shape {w w':World} {V er:Int} {v:Value} (h:RFit w w' V v er):∃ ng so sn sc e,v=.agg #[.bool ng,.slice so sn sc,.int .i64 e]:=by
 exact DFit.shape h
set_option maxRecDepth 100000 in
set_option maxHeartbeats 4000000 in
theorem rmul3_any (x y:NumR) (w:World) (hx:Row w x.ao x.n x.cap x.d) (hy:Row w y.ao y.n y.cap y.d) (sx:Sane x) (sy:Sane y) :
  Calls Tryz.prog 78 #[x.v,y.v] w fun r w'=>∃ v,r=.returned v∧DAns w w' (mulV x y) v:=by
 have hV:mulV x y=sg (x.ng != y.ng) (val x.d x.n * val y.d y.n) * pw (x.e + y.e):=rfl
 have he:-4194304 <= x.e + y.e∧x.e + y.e <= 4194304:=by have:=sx.2.2.1; have:=sy.2.2.1; have:=sx.2.2.2; have:=sy.2.2.2; omega
 have hlen:val x.d x.n * val y.d y.n < P 10000:=by
  have a1:=val_lt sx.1.1
  have a2:=val_lt sy.1.1
  have b1:=val_nonneg sx.1.1
  have b2:=val_nonneg sy.1.1
  have c1:val x.d x.n * val y.d y.n <= P x.n * val y.d y.n:=Int.mul_le_mul_of_nonneg_right (by omega) b2
  have c2:P x.n * val y.d y.n < P x.n * P y.n:=Int.mul_lt_mul_of_pos_left a2 (P_pos _)
  rw [<- P_add] at c2
  have:=P_le (show x.n + y.n <= 10000 by have:=sx.2.1; have:=sy.2.1; omega)
  omega
 obtain ⟨an,ao,n,ca,a,e⟩:=x
 obtain ⟨bn,bo,m,cb,b,f⟩:=y
 obtain ⟨s1,s2,s3,s4⟩:=sx
 obtain ⟨t1,t2,t3,t4⟩:=sy
 unfold NumR.v
 simp only at *
 rw [hV]
 clear hV
 generalize hVV:sg (an != bn) (val a n * val b m) * pw (e + f)=V
 have HVV:Hid (sg (an != bn) (val a n * val b m) * pw (e + f)=V):=hVV
 clear hVV
 have hw:IntKind.i64.wrap (e + f)=e + f:=by rw [wrap_i64_eq]; omega
 have hb3:=bel_a3 w (.cells #[.bool an,.slice ao n ca,.int .i64 e] 34) (.cells #[.bool bn,.slice bo m cb,.int .i64 f] 34) (.cells #[.bool false,.slice none 0 0,.int .i64 0] 34)
 have g0:=h3_0 w (.cells #[.bool an,.slice ao n ca,.int .i64 e] 34) (.cells #[.bool bn,.slice bo m cb,.int .i64 f] 34) (.cells #[.bool false,.slice none 0 0,.int .i64 0] 34)
 have g1:=h3_1 w (.cells #[.bool an,.slice ao n ca,.int .i64 e] 34) (.cells #[.bool bn,.slice bo m cb,.int .i64 f] 34) (.cells #[.bool false,.slice none 0 0,.int .i64 0] 34)
 have g2:=h3_2 w (.cells #[.bool an,.slice ao n ca,.int .i64 e] 34) (.cells #[.bool bn,.slice bo m cb,.int .i64 f] 34) (.cells #[.bool false,.slice none 0 0,.int .i64 0] 34)
 have hs3:=size3 w (.cells #[.bool an,.slice ao n ca,.int .i64 e] 34) (.cells #[.bool bn,.slice bo m cb,.int .i64 f] 34) (.cells #[.bool false,.slice none 0 0,.int .i64 0] 34)
 go_enter Tryz.func78,Tryz.ntmps78
 go_wp2_with fail
 have HX:=hx.keeps hb3
 have HY:=hy.keeps hb3
 generalize ((w.alloc (.cells #[.bool an,.slice ao n ca,.int .i64 e] 34)).alloc (.cells #[.bool bn,.slice bo m cb,.int .i64 f] 34)).alloc (.cells #[.bool false,.slice none 0 0,.int .i64 0] 34)=wx at hb3 g0 g1 g2 hs3 HX HY ⊢
 have k0:=blkC g0 0 rfl
 have k1:=blkC g0 1 rfl
 have k2:=blkC g0 2 rfl
 have j0:=blkC g1 0 rfl
 have j1:=blkC g1 1 rfl
 have j2:=blkC g1 2 rfl
 have hb1:=bel_refl wx
 have C1:∀ W,Below wx.heap.size wx W->Calls Tryz.prog 110 #[.slice ao n ca,.slice bo m cb] W fun r w'=>∃ so sn sc,r=.returned (.slice so sn sc)∧Ans W w' (val a n * val b m) (.slice so sn sc)∧Below W.heap.size W w':=fun W h=>by
  refine (rmul_any ao bo n m ca cb a b W (HX.keeps h) (HY.keeps h) s1 t1 (by omega) (by omega)).mono ?_
  rintro r w' ⟨v,rfl,hA⟩
  obtain ⟨so,sn,sc,rfl⟩:=hA.num.shape
  exact ⟨so,sn,sc,rfl,hA,hA.below⟩
 have C2:∀ W so sn sc,Num W (.slice so sn sc) (val a n * val b m)->Calls Tryz.prog 106 #[.bool (!(an == bn)),.slice so sn sc,.int .i64 (e + f)] W fun r w'=>∃ ng s1 s2 s3 e1,r=.returned (.agg #[.bool ng,.slice s1 s2 s3,.int .i64 e1])∧DAns W w' V (.agg #[.bool ng,.slice s1 s2 s3,.int .i64 e1])∧Below W.heap.size W w':=fun W so sn sc hN=>by
  have hsn:sn <= 10000:=hN.len hlen
  obtain ⟨ao',n',ca',d,e1,hR,h2,h3⟩:=hN
  simp only [Value.slice.injEq] at e1
  obtain ⟨rfl,rfl,rfl⟩:=e1
  refine (rnorm_any (an != bn) _ _ _ d (e + f) W hR h2.1 (by omega) (by omega) (by omega)).mono ?_
  rw [h3,HVV.out]
  rintro r w' ⟨v,rfl,hD⟩
  obtain ⟨ng,s,m',e1,rfl,_,hA⟩:=id hD
  obtain ⟨q1,q2,q3,rfl⟩:=hA.num.shape
  exact ⟨ng,q1,q2,q3,e1,rfl,hD,hD.below⟩
 clear hlen
 go_region_held3 (fun W=>(W.cell? ⟨w.heap.size,0,none⟩=some (.bool an)∧W.cell? ⟨w.heap.size,1,none⟩=some (.slice ao n ca)∧W.cell? ⟨w.heap.size,2,none⟩=some (.int .i64 e))∧W.cell? ⟨w.heap.size + 1,0,none⟩=some (.bool bn)∧W.cell? ⟨w.heap.size + 1,1,none⟩=some (.slice bo m cb)∧W.cell? ⟨w.heap.size + 1,2,none⟩=some (.int .i64 f))
  (first | assumption | exact ⟨⟨k0,k1,k2⟩,j0,j1,j2⟩ | exact keep66 (W:=wx.drew) hbv1 ⟨⟨k0,k1,k2⟩,j0,j1,j2⟩ | exact keep66 hbv2 (keep66 (W:=wx.drew) hbv1 ⟨⟨k0,k1,k2⟩,j0,j1,j2⟩) | exact ⟨keepS (keep66 hbv2 (keep66 (W:=wx.drew) hbv1 ⟨⟨k0,k1,k2⟩,j0,j1,j2⟩)).1 (by omega) _ _ _,keepS (keep66 hbv2 (keep66 (W:=wx.drew) hbv1 ⟨⟨k0,k1,k2⟩,j0,j1,j2⟩)).2 (by omega) _ _ _⟩)
  (first | (go_at_call 106; refine (C2 _ _ _ _ hv1.num).mono ?_; rintro y w4 ⟨ng4,o4,n4,c4,e4,rfl,hv2,hbv2⟩; have q0:=((bel_trans hbv1 hbv2).block (w.heap.size + 2) (by show _ < wx.heap.size; omega)).trans g2; have x0:=blkC q0 0 rfl; have x1:=blkC q0 1 rfl; have x2:=blkC q0 2 rfl; have z0:=blkF q0 0; have z1:=blkF q0 1; have z2:=blkF q0 2) | (go_at_call 110; refine (C1 _ hb1.drew).mono ?_; rintro y w3 ⟨so,sn,sc,rfl,hv1,hbv1⟩))
 all_goals go_wp2
 all_goals
  refine bodyPost_ret (v:=.agg #[.bool ng4,.slice o4 n4 c4,.int .i64 e4]) (by simp [results,Tryz.results78,go_sem,x0,x1,x2]) rfl ⟨_,rfl,?_⟩
  exact dans_res3 (g:=w.heap.size + 2) hv2 (bel_trans hb3 (bel_trans hb1.drew hbv1)) (by omega) (Nat.lt_of_lt_of_le (show _ < wx.heap.size by omega) hbv1.size) _ _ _
theorem bd_form {K:Nat} {A:Int} {ng:Bool} {m e:Int} (h:Bd K A) (hy:Dy A ng m e) (hK:K <= 4194304) (h0:0 < m):-(K:Int) <= e∧e <= K∧m * 2 ^ (e + K).toNat < 2 ^ (2 * K):=by
 obtain ⟨c,hc,c1,c2⟩:=h
 have key:∀ (b:Bool) (C:Int),0 < C->C < 2 ^ (2 * K)->A=sg b C * pw (-(K:Int))->-(K:Int) <= e∧e <= K∧m * 2 ^ (e + K).toNat < 2 ^ (2 * K):=fun b C hC hlt hA=>by
  obtain ⟨l,hl⟩:=isLow_ex hC
  have hy2:=Dy.of b hl hC (show -4194304 <= -(K:Int) by omega)
  rw [<- hA] at hy2
  obtain ⟨_,rfl,rfl⟩:=hy.unique hy2
  obtain ⟨d1,d2,d3⟩:=isLow_odd hl hC
  have hl2:l < 2 * K:=by
   have h3:(1:Int) * 2 ^ l <= C / 2 ^ l * 2 ^ l:=Int.mul_le_mul_of_nonneg_right (by omega) (Int.le_of_lt (two_pos l))
   rw [d3] at h3
   exact two_lt_iff (by omega)
  refine ⟨by omega,by omega,?_⟩
  rw [show (-(K:Int) + l + K).toNat=l by omega,d3]
  exact hlt
 by_cases hz:c=0
 ·exfalso
  rw [hz,Int.zero_mul] at hc
  have:=hy.eq_zero.1 hc
  omega
 ·by_cases hp:0 < c
  ·exact key false c hp c2 (by simpa [sg] using hc)
  ·exact key true (-c) (by omega) (by omega) (by simpa [sg] using hc)
theorem bd_shift {K:Nat} {A:Int} {ng:Bool} {m e low:Int} (h:Bd K A) (hy:Dy A ng m e) (hK:K <= 4194304) (h0:0 < m) (h1:-(K:Int) <= low) (h2:low <= e):m * 2 ^ (e - low).toNat < 2 ^ (2 * K):=by
 obtain ⟨a,b,c⟩:=bd_form h hy hK h0
 have h3:(2:Int) ^ (e - low).toNat <= 2 ^ (e + K).toNat:=two_le (by omega)
 have h4:m * 2 ^ (e - low).toNat <= m * 2 ^ (e + K).toNat:=Int.mul_le_mul_of_nonneg_left h3 (by omega)
 omega
theorem bd_self {K:Nat} {A:Int} {ng:Bool} {m e:Int} (h:Bd K A) (hy:Dy A ng m e) (hK:K <= 4194304) (h0:0 < m):m < 2 ^ (2 * K):=by
 obtain ⟨a,b,c⟩:=bd_form h hy hK h0
 have h3:(1:Int) <= 2 ^ (e + K).toNat:=two_pos _
 have h4:m * 1 <= m * 2 ^ (e + K).toNat:=Int.mul_le_mul_of_nonneg_left h3 (by omega)
 omega
theorem bd_digits {K:Nat} {d:Nat->Int} {n:Nat} (hK:K <= 560000) (hN:Nrm d n) (h:val d n < 2 ^ (2 * K)):n <= 37400:=by
 by_cases h1:n <= 37400
 ·exact h1
 ·exfalso
  have a:=val_top hN.1 (by omega) hN.2
  have b:=P_le (show 37400 <= n - 1 by omega)
  have c:(2:Int) ^ (2 * K) <= 2 ^ (30 * 37400):=two_le (by omega)
  rw [<- P_two] at c
  generalize P 37400=Y at *
  omega
def RSum (w w':World) (A B:Int) (x y v:Value):Prop:=Below w.heap.size w w'∧(DAns w w' (A + B) v∨(A=0∧v=y)∨(B=0∧v=x))
theorem RSum.num {w w':World} {A B:Int} {x y v:Value} (h:RSum w w' A B x y v) (hx:DNum w x A) (hy:DNum w y B):DNum w' v (A + B):=by
 rcases h.2 with h1 | ⟨rfl,rfl⟩ | ⟨rfl,rfl⟩
 ·exact h1.num
 ·rw [Int.zero_add]; exact hy.keeps h.1
 ·rw [Int.add_zero]; exact hx.keeps h.1
set_option maxRecDepth 100000 in
set_option maxHeartbeats 2000000 in
theorem radd3_left (x y:NumR) (w:World) (hm:x.n <= 9223372036854775807) (hm':y.n <= 9223372036854775807) (h:x.n=0) :
  Calls Tryz.prog 108 #[x.v,y.v] w fun r w'=>r=.returned y.v∧Below w.heap.size w w':=by
 obtain ⟨an,ao,n,ca,a,e⟩:=x
 obtain ⟨bn,bo,m,cb,b,f⟩:=y
 unfold NumR.v at *
 simp only at *
 subst h
 go_enter Tryz.func108,Tryz.ntmps108
 go_wp2
 refine bodyPost_ret (v:=.agg #[.bool bn,.slice bo m cb,.int .i64 f]) (by simp [results,Tryz.results108,go_sem]) rfl ⟨rfl,?_⟩
 exact bel_a3 _ _ _ _
set_option maxRecDepth 100000 in
set_option maxHeartbeats 2000000 in
theorem radd3_right (x y:NumR) (w:World) (hm:x.n <= 9223372036854775807) (hm':y.n <= 9223372036854775807) (h0:0 < x.n) (h:y.n=0) :
  Calls Tryz.prog 108 #[x.v,y.v] w fun r w'=>r=.returned x.v∧Below w.heap.size w w':=by
 obtain ⟨an,ao,n,ca,a,e⟩:=x
 obtain ⟨bn,bo,m,cb,b,f⟩:=y
 unfold NumR.v at *
 simp only at *
 have hn0:((n:Int) == 0)=false:=by simp; omega
 subst h
 go_enter Tryz.func108,Tryz.ntmps108
 go_wp2
 refine bodyPost_ret (v:=.agg #[.bool an,.slice ao n ca,.int .i64 e]) (by simp [results,Tryz.results108,go_sem]) rfl ⟨rfl,?_⟩
 exact bel_a3 _ _ _ _
set_option maxRecDepth 100000 in
set_option maxHeartbeats 2000000 in
theorem radd3_walk (x y:NumR) (w:World) (hx:Row w x.ao x.n x.cap x.d) (hy:Row w y.ao y.n y.cap y.d) (n0:0 < x.n) (m0:0 < y.n) (low A B V:Int)
  (hlow:low=min x.e y.e) (hl0:-600000 <= low) (he:x.e <= 600000) (hf:y.e <= 600000)
  (H1:∀ W,Below w.heap.size w W->Calls Tryz.prog 148 #[.slice x.ao x.n x.cap,.int .i64 (x.e - low)] W fun r w'=>∃ so sn sc,r=.returned (.slice so sn sc)∧Num w' (.slice so sn sc) A∧Below W.heap.size W w')
  (H2:∀ W,Below w.heap.size w W->Calls Tryz.prog 148 #[.slice y.ao y.n y.cap,.int .i64 (y.e - low)] W fun r w'=>∃ so sn sc,r=.returned (.slice so sn sc)∧Num w' (.slice so sn sc) B∧Below W.heap.size W w')
  (H3:∀ W p q,Num W p A->Num W q B->Calls Tryz.prog 149 #[p,q] W fun r w'=>∃ so sn sc,r=.returned (.slice so sn sc)∧Num w' (.slice so sn sc) (A + B)∧Below W.heap.size W w')
  (H4:∀ W p q,Num W p A->Num W q B->Calls Tryz.prog 150 #[p,q] W fun r w'=>r=.returned (.int .i64 (ord A B))∧Below W.heap.size W w')
  (H5:∀ W p q,Num W p A->Num W q B->B <= A->Calls Tryz.prog 151 #[p,q] W fun r w'=>∃ so sn sc,r=.returned (.slice so sn sc)∧Num w' (.slice so sn sc) (A - B)∧Below W.heap.size W w')
  (H6:∀ W p q,Num W p A->Num W q B->A <= B->Calls Tryz.prog 151 #[q,p] W fun r w'=>∃ so sn sc,r=.returned (.slice so sn sc)∧Num w' (.slice so sn sc) (B - A)∧Below W.heap.size W w')
  (H7:∀ W ng s M,Num W s M->((x.ng=y.ng∧ng=x.ng∧M=A + B)∨(x.ng ≠ y.ng∧B <= A∧ng=x.ng∧M=A - B)∨(x.ng ≠ y.ng∧A < B∧ng=y.ng∧M=B - A))->Calls Tryz.prog 106 #[.bool ng,s,.int .i64 low] W fun r w'=>∃ ng s1 s2 s3 e1,r=.returned (.agg #[.bool ng,.slice s1 s2 s3,.int .i64 e1])∧DAns W w' V (.agg #[.bool ng,.slice s1 s2 s3,.int .i64 e1])∧Below W.heap.size W w') :
  Calls Tryz.prog 108 #[x.v,y.v] w fun r w'=>∃ v,r=.returned v∧DAns w w' V v:=by
 have hmin:∀ (ts:Array TypeId) (t:TypeId) (w:World),(Builtin.min_ ts t #[.int .i64 x.e,.int .i64 y.e]).run Tryz.prog w=.ok (.int .i64 low) w:=fun ts t w=>by rw [run_min_int2,hlow]; congr 2; omega
 have hl1:low <= x.e:=by omega
 have hl2:low <= y.e:=by omega
 have HH7:Hid _:=H7
 have hm:=hx.max
 have hm':=hy.max
 clear hlow H7
 obtain ⟨an,ao,n,ca,a,e⟩:=x
 obtain ⟨bn,bo,m,cb,b,f⟩:=y
 unfold NumR.v
 simp only at *
 have hn0:((n:Int) == 0)=false:=by simp; omega
 have hm0:((m:Int) == 0)=false:=by simp; omega
 have hb3:Below w.heap.size w (((w.alloc (.cells #[.bool an,.slice ao n ca,.int .i64 e] 34)).alloc (.cells #[.bool bn,.slice bo m cb,.int .i64 f] 34)).alloc (.cells #[.bool false,.slice none 0 0,.int .i64 0] 34)):=bel_a3 _ _ _ _
 have g0:=h3_0 w (.cells #[.bool an,.slice ao n ca,.int .i64 e] 34) (.cells #[.bool bn,.slice bo m cb,.int .i64 f] 34) (.cells #[.bool false,.slice none 0 0,.int .i64 0] 34)
 have g1:=h3_1 w (.cells #[.bool an,.slice ao n ca,.int .i64 e] 34) (.cells #[.bool bn,.slice bo m cb,.int .i64 f] 34) (.cells #[.bool false,.slice none 0 0,.int .i64 0] 34)
 have g2:=h3_2 w (.cells #[.bool an,.slice ao n ca,.int .i64 e] 34) (.cells #[.bool bn,.slice bo m cb,.int .i64 f] 34) (.cells #[.bool false,.slice none 0 0,.int .i64 0] 34)
 go_enter Tryz.func108,Tryz.ntmps108
 go_wp2_with fail
 generalize ((w.alloc (.cells #[.bool an,.slice ao n ca,.int .i64 e] 34)).alloc (.cells #[.bool bn,.slice bo m cb,.int .i64 f] 34)).alloc (.cells #[.bool false,.slice none 0 0,.int .i64 0] 34)=wx at hb3 g0 g1 g2 ⊢
 refine (H1 _ hb3).mono ?_
 rintro r w1 ⟨po,pn,pc,rfl,hP,hb1⟩
 have hbx1:=bel_trans hb3 hb1
 replace g0:=(hb1.block _ (Array.getElem?_eq_some_iff.1 g0).1).trans g0
 replace g1:=(hb1.block _ (Array.getElem?_eq_some_iff.1 g1).1).trans g1
 replace g2:=(hb1.block _ (Array.getElem?_eq_some_iff.1 g2).1).trans g2
 have j1:=blkC g1 1 rfl
 have j2:=blkC g1 2 rfl
 go_wp2_with fail
 clear j1 j2
 refine (H2 _ hbx1).mono ?_
 rintro r w2 ⟨qo,qn,qc,rfl,hQ,hb2⟩
 have hbx2:=bel_trans hbx1 hb2
 replace hP:=hP.keeps hb2
 replace g0:=(hb2.block _ (Array.getElem?_eq_some_iff.1 g0).1).trans g0
 replace g1:=(hb2.block _ (Array.getElem?_eq_some_iff.1 g1).1).trans g1
 replace g2:=(hb2.block _ (Array.getElem?_eq_some_iff.1 g2).1).trans g2
 have k0:=blkC g0 0 rfl
 have k1:=blkC g0 1 rfl
 have k2:=blkC g0 2 rfl
 have j0:=blkC g1 0 rfl
 have j1:=blkC g1 1 rfl
 have j2:=blkC g1 2 rfl
 by_cases hng:an=bn
 ·subst hng
  have C1:∀ W,Below w2.heap.size w2 W->Calls Tryz.prog 149 #[.slice po pn pc,.slice qo qn qc] W fun r w'=>∃ so sn sc,r=.returned (.slice so sn sc)∧Num w' (.slice so sn sc) (A + B)∧Below W.heap.size W w':=fun W h=>H3 W _ _ (hP.keeps h) (hQ.keeps h)
  have C2:∀ W so sn sc,Num W (.slice so sn sc) (A + B)->Calls Tryz.prog 106 #[.bool an,.slice so sn sc,.int .i64 low] W fun r w'=>∃ ng s1 s2 s3 e1,r=.returned (.agg #[.bool ng,.slice s1 s2 s3,.int .i64 e1])∧DAns W w' V (.agg #[.bool ng,.slice s1 s2 s3,.int .i64 e1])∧Below W.heap.size W w':=fun W so sn sc hN=>HH7.out W an _ _ hN (.inl ⟨rfl,rfl,rfl⟩)
  clear H1 H2 H3 H4 H5 H6 HH7
  have hs3:=(Array.getElem?_eq_some_iff.1 g2).1
  go_wp2_with fail
  have hb1:=bel_refl w2
  go_region_held3 (fun W=>(W.cell? ⟨w.heap.size,0,none⟩=some (.bool an)∧W.cell? ⟨w.heap.size,1,none⟩=some (.slice ao n ca)∧W.cell? ⟨w.heap.size,2,none⟩=some (.int .i64 e))∧W.cell? ⟨w.heap.size + 1,0,none⟩=some (.bool an)∧W.cell? ⟨w.heap.size + 1,1,none⟩=some (.slice bo m cb)∧W.cell? ⟨w.heap.size + 1,2,none⟩=some (.int .i64 f))
   (first | assumption | exact ⟨⟨k0,k1,k2⟩,j0,j1,j2⟩ | exact keep66 (W:=w2.drew) hbv1 ⟨⟨k0,k1,k2⟩,j0,j1,j2⟩ | exact keep66 hbv2 (keep66 (W:=w2.drew) hbv1 ⟨⟨k0,k1,k2⟩,j0,j1,j2⟩) | exact ⟨keepS (keep66 hbv2 (keep66 (W:=w2.drew) hbv1 ⟨⟨k0,k1,k2⟩,j0,j1,j2⟩)).1 (by omega) _ _ _,keepS (keep66 hbv2 (keep66 (W:=w2.drew) hbv1 ⟨⟨k0,k1,k2⟩,j0,j1,j2⟩)).2 (by omega) _ _ _⟩)
   (first | (go_at_call 106; refine (C2 _ _ _ _ hv1).mono ?_; rintro y w4 ⟨ng4,o4,n4,c4,e4,rfl,hv2,hbv2⟩; have q0:=((bel_trans hbv1 hbv2).block (w.heap.size + 2) (by show _ < w2.heap.size; omega)).trans g2; have x0:=blkC q0 0 rfl; have x1:=blkC q0 1 rfl; have x2:=blkC q0 2 rfl; have z0:=blkF q0 0; have z1:=blkF q0 1; have z2:=blkF q0 2) | (go_at_call 149; refine (C1 _ hb1.drew).mono ?_; rintro y w3 ⟨so,sn,sc,rfl,hv1,hbv1⟩))
  all_goals go_wp2
  all_goals
   refine bodyPost_ret (v:=.agg #[.bool ng4,.slice o4 n4 c4,.int .i64 e4]) (by simp [results,Tryz.results108,go_sem,x0,x1,x2]) rfl ⟨_,rfl,?_⟩
   exact dans_res3 (g:=w.heap.size + 2) hv2 (bel_trans hbx2 (bel_trans hb1.drew hbv1)) (by omega) (Nat.lt_of_lt_of_le (show _ < w2.heap.size by omega) hbv1.size) _ _ _
 ·have hng':(an == bn)=false:=by simp [hng]
  go_wp2_with fail
  refine (H4 _ _ _ hP hQ).mono ?_
  rintro r w3 ⟨rfl,hb3'⟩
  have hbx3:=bel_trans hbx2 hb3'
  replace hP:=hP.keeps hb3'
  replace hQ:=hQ.keeps hb3'
  replace g0:=(hb3'.block _ (Array.getElem?_eq_some_iff.1 g0).1).trans g0
  replace g1:=(hb3'.block _ (Array.getElem?_eq_some_iff.1 g1).1).trans g1
  replace g2:=(hb3'.block _ (Array.getElem?_eq_some_iff.1 g2).1).trans g2
  replace k0:=blkC g0 0 rfl
  replace k1:=blkC g0 1 rfl
  replace k2:=blkC g0 2 rfl
  replace j0:=blkC g1 0 rfl
  replace j1:=blkC g1 1 rfl
  replace j2:=blkC g1 2 rfl
  have hs3:=(Array.getElem?_eq_some_iff.1 g2).1
  by_cases hAB:B <= A
  ·have ho:(0:Int) <= ord A B:=by
    rcases Int.lt_trichotomy A B with h | h | h
    ·omega
    ·rw [ord_eq h]; decide
    ·rw [ord_gt h]; decide
   have C1:∀ W,Below w3.heap.size w3 W->Calls Tryz.prog 151 #[.slice po pn pc,.slice qo qn qc] W fun r w'=>∃ so sn sc,r=.returned (.slice so sn sc)∧Num w' (.slice so sn sc) (A - B)∧Below W.heap.size W w':=fun W h=>H5 W _ _ (hP.keeps h) (hQ.keeps h) hAB
   have C2:∀ W so sn sc,Num W (.slice so sn sc) (A - B)->Calls Tryz.prog 106 #[.bool an,.slice so sn sc,.int .i64 low] W fun r w'=>∃ ng s1 s2 s3 e1,r=.returned (.agg #[.bool ng,.slice s1 s2 s3,.int .i64 e1])∧DAns W w' V (.agg #[.bool ng,.slice s1 s2 s3,.int .i64 e1])∧Below W.heap.size W w':=fun W so sn sc hN=>HH7.out W an _ _ hN (.inr (.inl ⟨hng,hAB,rfl,rfl⟩))
   generalize ord A B=oAB at ho ⊢
   clear H1 H2 H3 H4 H5 H6 HH7 hAB
   go_wp2_with fail
   have hb1:=bel_refl w3
   go_region_held3 (fun W=>(W.cell? ⟨w.heap.size,0,none⟩=some (.bool an)∧W.cell? ⟨w.heap.size,1,none⟩=some (.slice ao n ca)∧W.cell? ⟨w.heap.size,2,none⟩=some (.int .i64 e))∧W.cell? ⟨w.heap.size + 1,0,none⟩=some (.bool bn)∧W.cell? ⟨w.heap.size + 1,1,none⟩=some (.slice bo m cb)∧W.cell? ⟨w.heap.size + 1,2,none⟩=some (.int .i64 f))
    (first | assumption | exact ⟨⟨k0,k1,k2⟩,j0,j1,j2⟩ | exact keep66 (W:=w3.drew) hbv1 ⟨⟨k0,k1,k2⟩,j0,j1,j2⟩ | exact keep66 hbv2 (keep66 (W:=w3.drew) hbv1 ⟨⟨k0,k1,k2⟩,j0,j1,j2⟩) | exact ⟨keepS (keep66 hbv2 (keep66 (W:=w3.drew) hbv1 ⟨⟨k0,k1,k2⟩,j0,j1,j2⟩)).1 (by omega) _ _ _,keepS (keep66 hbv2 (keep66 (W:=w3.drew) hbv1 ⟨⟨k0,k1,k2⟩,j0,j1,j2⟩)).2 (by omega) _ _ _⟩)
    (first | (go_at_call 106; refine (C2 _ _ _ _ hv1).mono ?_; rintro y w4 ⟨ng4,o4,n4,c4,e4,rfl,hv2,hbv2⟩; have q0:=((bel_trans hbv1 hbv2).block (w.heap.size + 2) (by show _ < w3.heap.size; omega)).trans g2; have x0:=blkC q0 0 rfl; have x1:=blkC q0 1 rfl; have x2:=blkC q0 2 rfl; have z0:=blkF q0 0; have z1:=blkF q0 1; have z2:=blkF q0 2) | (go_at_call 151; refine (C1 _ hb1.drew).mono ?_; rintro y w3' ⟨so,sn,sc,rfl,hv1,hbv1⟩))
   all_goals go_wp2
   all_goals
    refine bodyPost_ret (v:=.agg #[.bool ng4,.slice o4 n4 c4,.int .i64 e4]) (by simp [results,Tryz.results108,go_sem,x0,x1,x2]) rfl ⟨_,rfl,?_⟩
    exact dans_res3 (g:=w.heap.size + 2) hv2 (bel_trans hbx3 (bel_trans hb1.drew hbv1)) (by omega) (Nat.lt_of_lt_of_le (show _ < w3.heap.size by omega) hbv1.size) _ _ _
  ·have ho:ord A B < (0:Int):=by rw [ord_lt (by omega)]; decide
   have C1:∀ W,Below w3.heap.size w3 W->Calls Tryz.prog 151 #[.slice qo qn qc,.slice po pn pc] W fun r w'=>∃ so sn sc,r=.returned (.slice so sn sc)∧Num w' (.slice so sn sc) (B - A)∧Below W.heap.size W w':=fun W h=>H6 W _ _ (hP.keeps h) (hQ.keeps h) (by omega)
   have C2:∀ W so sn sc,Num W (.slice so sn sc) (B - A)->Calls Tryz.prog 106 #[.bool bn,.slice so sn sc,.int .i64 low] W fun r w'=>∃ ng s1 s2 s3 e1,r=.returned (.agg #[.bool ng,.slice s1 s2 s3,.int .i64 e1])∧DAns W w' V (.agg #[.bool ng,.slice s1 s2 s3,.int .i64 e1])∧Below W.heap.size W w':=fun W so sn sc hN=>HH7.out W bn _ _ hN (.inr (.inr ⟨hng,by omega,rfl,rfl⟩))
   generalize ord A B=oAB at ho ⊢
   clear H1 H2 H3 H4 H5 H6 HH7 hAB
   go_wp2_with fail
   have hb1:=bel_refl w3
   go_region_held3 (fun W=>(W.cell? ⟨w.heap.size,0,none⟩=some (.bool an)∧W.cell? ⟨w.heap.size,1,none⟩=some (.slice ao n ca)∧W.cell? ⟨w.heap.size,2,none⟩=some (.int .i64 e))∧W.cell? ⟨w.heap.size + 1,0,none⟩=some (.bool bn)∧W.cell? ⟨w.heap.size + 1,1,none⟩=some (.slice bo m cb)∧W.cell? ⟨w.heap.size + 1,2,none⟩=some (.int .i64 f))
    (first | assumption | exact ⟨⟨k0,k1,k2⟩,j0,j1,j2⟩ | exact keep66 (W:=w3.drew) hbv1 ⟨⟨k0,k1,k2⟩,j0,j1,j2⟩ | exact keep66 hbv2 (keep66 (W:=w3.drew) hbv1 ⟨⟨k0,k1,k2⟩,j0,j1,j2⟩) | exact ⟨keepS (keep66 hbv2 (keep66 (W:=w3.drew) hbv1 ⟨⟨k0,k1,k2⟩,j0,j1,j2⟩)).1 (by omega) _ _ _,keepS (keep66 hbv2 (keep66 (W:=w3.drew) hbv1 ⟨⟨k0,k1,k2⟩,j0,j1,j2⟩)).2 (by omega) _ _ _⟩)
    (first | (go_at_call 106; refine (C2 _ _ _ _ hv1).mono ?_; rintro y w4 ⟨ng4,o4,n4,c4,e4,rfl,hv2,hbv2⟩; have q0:=((bel_trans hbv1 hbv2).block (w.heap.size + 2) (by show _ < w3.heap.size; omega)).trans g2; have x0:=blkC q0 0 rfl; have x1:=blkC q0 1 rfl; have x2:=blkC q0 2 rfl; have z0:=blkF q0 0; have z1:=blkF q0 1; have z2:=blkF q0 2) | (go_at_call 151; refine (C1 _ hb1.drew).mono ?_; rintro y w3' ⟨so,sn,sc,rfl,hv1,hbv1⟩))
   all_goals go_wp2
   all_goals
    refine bodyPost_ret (v:=.agg #[.bool ng4,.slice o4 n4 c4,.int .i64 e4]) (by simp [results,Tryz.results108,go_sem,x0,x1,x2]) rfl ⟨_,rfl,?_⟩
    exact dans_res3 (g:=w.heap.size + 2) hv2 (bel_trans hbx3 (bel_trans hb1.drew hbv1)) (by omega) (Nat.lt_of_lt_of_le (show _ < w3.heap.size by omega) hbv1.size) _ _ _
theorem rsum_V {an bn:Bool} {A B low:Int} {ng:Bool} {M:Int} (h:(an=bn∧ng=an∧M=A + B)∨(an ≠ bn∧B <= A∧ng=an∧M=A - B)∨(an ≠ bn∧A < B∧ng=bn∧M=B - A)) :
  sg ng M * pw low=sg an A * pw low + sg bn B * pw low:=by
 rw [<- Int.add_mul]
 congr 1
 rcases h with ⟨rfl,rfl,rfl⟩ | ⟨h1,h2,rfl,rfl⟩ | ⟨h1,h2,rfl,rfl⟩
 ·cases ng <;> simp [sg] <;> omega
 ·cases ng <;> cases bn <;> simp [sg] at * <;> omega
 ·cases an <;> cases ng <;> simp [sg] at * <;> omega
theorem Num.digits {w:World} {so:Option Addr} {sn sc:Nat} {M:Int} (h:Num w (.slice so sn sc) M) {K:Nat} (hK:K <= 560000) (hM:M < 2 ^ (2 * K) + 2 ^ (2 * K)):∃ d,Row w so sn sc d∧Nrm d sn∧val d sn=M∧sn <= 37500:=by
 obtain ⟨ao,n,ca,d,e,hR,hN,hv⟩:=h
 simp only [Value.slice.injEq] at e
 obtain ⟨rfl,rfl,rfl⟩:=e
 refine ⟨d,hR,hN,hv,?_⟩
 by_cases h1:sn <= 37500
 ·exact h1
 ·exfalso
  have a:=val_top hN.1 (by omega) hN.2
  have b:=P_le (show 37500 <= sn - 1 by omega)
  have c:(2:Int) ^ (2 * K) <= 2 ^ (30 * 37400):=two_le (by omega)
  have c2:(2:Int) ^ (30 * 37400) * 2 <= 2 ^ (30 * 37500):=by
   rw [<- Int.pow_succ]
   exact two_le (by omega)
  rw [<- P_two 37500] at c2
  generalize P 37500=Y at *
  generalize (2:Int) ^ (30 * 37400)=Z at *
  omega
theorem radd3_any (x y:NumR) (w:World) (hx:Row w x.ao x.n x.cap x.d) (hy:Row w y.ao y.n y.cap y.d) (dx:Dy x.V x.ng (val x.d x.n) x.e) (nx:Nrm x.d x.n) (dy:Dy y.V y.ng (val y.d y.n) y.e) (ny:Nrm y.d y.n) {K:Nat} (hK:K <= 560000) (bx:Bd K x.V) (bY:Bd K y.V) :
  Calls Tryz.prog 108 #[x.v,y.v] w fun r w'=>∃ v,r=.returned v∧RSum w w' x.V y.V x.v y.v v:=by
 by_cases h0:x.n=0
 ·refine (radd3_left x y w (Nat.le_trans hx.le hx.max) (Nat.le_trans hy.le hy.max) h0).mono ?_
  rintro r w' ⟨rfl,hb⟩
  exact ⟨_,rfl,hb,.inr (.inl ⟨dx.eq_zero.2 (by rw [h0]; rfl),rfl⟩)⟩
 ·by_cases h1:y.n=0
  ·refine (radd3_right x y w (Nat.le_trans hx.le hx.max) (Nat.le_trans hy.le hy.max) (by omega) h1).mono ?_
   rintro r w' ⟨rfl,hb⟩
   exact ⟨_,rfl,hb,.inr (.inr ⟨dy.eq_zero.2 (by rw [h1]; rfl),rfl⟩)⟩
  ·have px:=val_pos nx (show 0 < x.n by omega)
   have py:=val_pos ny (show 0 < y.n by omega)
   obtain ⟨a1,a2,_⟩:=bd_form bx dx (by omega) px
   obtain ⟨b1,b2,_⟩:=bd_form bY dy (by omega) py
   obtain ⟨low,hlow⟩:∃ low:Int,low=min x.e y.e:=⟨_,rfl⟩
   have hl0:-(K:Int) <= low:=by omega
   have s1:=bd_shift bx dx (by omega) px hl0 (by omega)
   have s2:=bd_shift bY dy (by omega) py hl0 (by omega)
   have v1:=dx.at (low:=low) (by omega) (by omega)
   have v2:=dy.at (low:=low) (by omega) (by omega)
   have dgx:=bd_digits hK nx (bd_self bx dx (by omega) px)
   have dgy:=bd_digits hK ny (bd_self bY dy (by omega) py)
   have q1:0 <= val x.d x.n * 2 ^ (x.e - low).toNat:=Int.mul_nonneg (by omega) (Int.le_of_lt (two_pos _))
   have q2:0 <= val y.d y.n * 2 ^ (y.e - low).toNat:=Int.mul_nonneg (by omega) (Int.le_of_lt (two_pos _))
   have e1:x.e - low=((x.e - low).toNat:Int):=by omega
   have e2:y.e - low=((y.e - low).toNat:Int):=by omega
   have H1:∀ W,Below w.heap.size w W->Calls Tryz.prog 148 #[.slice x.ao x.n x.cap,.int .i64 (x.e - low)] W fun r w'=>∃ so sn sc,r=.returned (.slice so sn sc)∧Num w' (.slice so sn sc) (val x.d x.n * 2 ^ (x.e - low).toNat)∧Below W.heap.size W w':=fun W hb=>by
    rw [e1]
    refine (rshl_any x.ao x.n x.cap _ x.d W (hx.keeps hb) nx.1 (by omega) (by omega)).mono ?_
    rintro r w' ⟨v,rfl,hA⟩
    obtain ⟨so,sn,sc,rfl⟩:=hA.num.shape
    exact ⟨so,sn,sc,rfl,by rw [<- e1]; exact hA.num,hA.below⟩
   have H2:∀ W,Below w.heap.size w W->Calls Tryz.prog 148 #[.slice y.ao y.n y.cap,.int .i64 (y.e - low)] W fun r w'=>∃ so sn sc,r=.returned (.slice so sn sc)∧Num w' (.slice so sn sc) (val y.d y.n * 2 ^ (y.e - low).toNat)∧Below W.heap.size W w':=fun W hb=>by
    rw [e2]
    refine (rshl_any y.ao y.n y.cap _ y.d W (hy.keeps hb) ny.1 (by omega) (by omega)).mono ?_
    rintro r w' ⟨v,rfl,hA⟩
    obtain ⟨so,sn,sc,rfl⟩:=hA.num.shape
    exact ⟨so,sn,sc,rfl,by rw [<- e2]; exact hA.num,hA.below⟩
   generalize val x.d x.n * 2 ^ (x.e - low).toNat=A at *
   generalize val y.d y.n * 2 ^ (y.e - low).toNat=B at *
   have dg:=fun W so sn sc M (h:Num W (.slice so sn sc) M) hM=>h.digits hK hM
   have key:∀ W p M,Num W p M->M < 2 ^ (2 * K) + 2 ^ (2 * K)->∃ so sn sc d,p=.slice so sn sc∧Row W so sn sc d∧Nrm d sn∧val d sn=M∧sn <= 37500:=fun W p M h hM=>by
    obtain ⟨so,sn,sc,rfl⟩:=h.shape
    obtain ⟨d,h1,h2,h3,h4⟩:=h.digits hK hM
    exact ⟨so,sn,sc,d,rfl,h1,h2,h3,h4⟩
   refine (radd3_walk x y w hx hy (by omega) (by omega) low A B (x.V + y.V) hlow (by omega) (by omega) (by omega) H1 H2 ?_ ?_ ?_ ?_ ?_).mono ?_
   ·intro W p q hp hq
    obtain ⟨po,pn,pc,d,rfl,r1,r2,r3,r4⟩:=key W p A hp (by omega)
    obtain ⟨qo,qn,qc,d',rfl,u1,u2,u3,u4⟩:=key W q B hq (by omega)
    refine (radd_any _ _ _ _ _ _ d d' W r1 u1 r2 u2 (by omega) (by omega)).mono ?_
    rw [r3,u3]
    rintro r w' ⟨v,rfl,hA⟩
    obtain ⟨so,sn,sc,rfl⟩:=hA.num.shape
    exact ⟨so,sn,sc,rfl,hA.num,hA.below⟩
   ·intro W p q hp hq
    obtain ⟨po,pn,pc,d,rfl,r1,r2,r3,r4⟩:=key W p A hp (by omega)
    obtain ⟨qo,qn,qc,d',rfl,u1,u2,u3,u4⟩:=key W q B hq (by omega)
    have:=rcmp_any po qo pn qn pc qc d d' W r1 u1 r2 u2
    rwa [r3,u3] at this
   ·intro W p q hp hq hle
    obtain ⟨po,pn,pc,d,rfl,r1,r2,r3,r4⟩:=key W p A hp (by omega)
    obtain ⟨qo,qn,qc,d',rfl,u1,u2,u3,u4⟩:=key W q B hq (by omega)
    refine (rsub_any _ _ _ _ _ _ d d' W r1 u1 r2 u2 (by omega) (by rw [r3,u3]; exact hle)).mono ?_
    rw [r3,u3]
    rintro r w' ⟨v,rfl,hA⟩
    obtain ⟨so,sn,sc,rfl⟩:=hA.num.shape
    exact ⟨so,sn,sc,rfl,hA.num,hA.below⟩
   ·intro W p q hp hq hle
    obtain ⟨po,pn,pc,d,rfl,r1,r2,r3,r4⟩:=key W p A hp (by omega)
    obtain ⟨qo,qn,qc,d',rfl,u1,u2,u3,u4⟩:=key W q B hq (by omega)
    refine (rsub_any _ _ _ _ _ _ d' d W u1 r1 u2 r2 (by omega) (by rw [r3,u3]; exact hle)).mono ?_
    rw [r3,u3]
    rintro r w' ⟨v,rfl,hA⟩
    obtain ⟨so,sn,sc,rfl⟩:=hA.num.shape
    exact ⟨so,sn,sc,rfl,hA.num,hA.below⟩
   ·intro W ng s M hs hc
    have hM:M < 2 ^ (2 * K) + 2 ^ (2 * K):=by rcases hc with ⟨_,_,h⟩ | ⟨_,_,_,h⟩ | ⟨_,_,_,h⟩ <;> omega
    obtain ⟨po,pn,pc,d,rfl,r1,r2,r3,r4⟩:=key W s M hs hM
    have hV:=rsum_V (low:=low) hc
    rw [<- v1,<- v2] at hV
    refine (rnorm_any ng po pn pc d low W r1 r2.1 (by omega) (by omega) (by omega)).mono ?_
    rw [r3,hV]
    rintro r w' ⟨v,rfl,hD⟩
    obtain ⟨ng',s,m',e1,rfl,_,hA⟩:=id hD
    obtain ⟨q1,q2,q3,rfl⟩:=hA.num.shape
    exact ⟨ng',q1,q2,q3,e1,rfl,hD,hD.below⟩
   ·rintro r w' ⟨v,rfl,hD⟩
    exact ⟨v,rfl,hD.below,.inl hD⟩
def Lies (v:Value) (x y:Nat):Prop:=∀ g,v.ownBlock=some g->x <= g∧g < y
def DAn (B:Nat) (w:World) (V:Int) (v:Value):Prop:=∃ ng s m e,v=.agg #[.bool ng,s,.int .i64 e]∧Dy V ng m e∧An B w s m
def DFitA (B:Nat) (w:World) (V:Int) (v:Value) (er:Int):Prop:=(Dok V∧er=0∧DAn B w V v)∨(¬ Dok V∧er=2∧v=zeroV)
theorem DAns.dan {w w':World} {V:Int} {v:Value} (h:DAns w w' V v):DAn w.heap.size w' V v:=by
 obtain ⟨ng,s,m,e,h1,h2,h3⟩:=h
 exact ⟨ng,s,m,e,h1,h2,h3.an⟩
theorem An.wr {B:Nat} {w w':World} {v:Value} {V:Int} {g:Nat} (h:An B w v V) (hw:Wr g w w') (hg:g < B):An B w' v V:=by
 obtain ⟨t,d,h1,h2⟩:=h
 exact ⟨t,d,h1.of_block fun g' hg'=>hw.block g' (h1.ge hg').2 (by have:=(h1.ge hg').1; omega),h2⟩
theorem DAn.wr {B:Nat} {w w':World} {v:Value} {V:Int} {g:Nat} (h:DAn B w V v) (hw:Wr g w w') (hg:g < B):DAn B w' V v:=by
 obtain ⟨ng,s,m,e,h1,h2,h3⟩:=h
 exact ⟨ng,s,m,e,h1,h2,h3.wr hw hg⟩
theorem DAn.keeps {B:Nat} {w w':World} {v:Value} {V:Int} (h:DAn B w V v) (k:Below w.heap.size w w'):DAn B w' V v:=by
 obtain ⟨ng,s,m,e,h1,h2,h3⟩:=h
 exact ⟨ng,s,m,e,h1,h2,h3.keeps k⟩
theorem DAn.lower {B B':Nat} {w:World} {v:Value} {V:Int} (h:DAn B w V v) (hB:B' <= B):DAn B' w V v:=by
 obtain ⟨ng,s,m,e,h1,h2,h3⟩:=h
 exact ⟨ng,s,m,e,h1,h2,h3.lower hB⟩
theorem DAn.num {B:Nat} {w:World} {v:Value} {V:Int} (h:DAn B w V v):DNum w v V:=by
 obtain ⟨ng,s,m,e,h1,h2,h3⟩:=h
 exact ⟨ng,s,m,e,h1,h2,h3.num⟩
theorem DFitA.wr {B:Nat} {w w':World} {v:Value} {V er:Int} {g:Nat} (h:DFitA B w V v er) (hw:Wr g w w') (hg:g < B):DFitA B w' V v er:=by
 rcases h with ⟨h1,h2,h3⟩ | h
 ·exact .inl ⟨h1,h2,h3.wr hw hg⟩
 ·exact .inr h
theorem DFitA.keeps {B:Nat} {w w':World} {v:Value} {V er:Int} (h:DFitA B w V v er) (k:Below w.heap.size w w'):DFitA B w' V v er:=by
 rcases h with ⟨h1,h2,h3⟩ | h
 ·exact .inl ⟨h1,h2,h3.keeps k⟩
 ·exact .inr h
theorem DFitA.lower {B B':Nat} {w:World} {v:Value} {V er:Int} (h:DFitA B w V v er) (hB:B' <= B):DFitA B' w V v er:=by
 rcases h with ⟨h1,h2,h3⟩ | h
 ·exact .inl ⟨h1,h2,h3.lower hB⟩
 ·exact .inr h
theorem DFitA.shape {B:Nat} {w:World} {v:Value} {V er:Int} (h:DFitA B w V v er):∃ ng so sn sc e,v=.agg #[.bool ng,.slice so sn sc,.int .i64 e]:=by
 rcases h with ⟨_,_,ng,s,m,e,h1,_,h3⟩ | ⟨_,_,rfl⟩
 ·obtain ⟨so,sn,sc,rfl⟩:=h3.shape
  exact ⟨_,_,_,_,_,h1⟩
 ·exact ⟨_,_,_,_,_,rfl⟩
theorem DFitA.ge {B:Nat} {w:World} {ng:Bool} {so:Option Addr} {sn sc:Nat} {e V er:Int} (h:DFitA B w V (.agg #[.bool ng,.slice so sn sc,.int .i64 e]) er):Lies (.slice so sn sc) B w.heap.size:=by
 intro g hg
 rcases h with ⟨_,_,ng',s,m,e',h1,_,h3⟩ | ⟨_,_,h1⟩
 ·simp only [Value.agg.injEq,Array.mk.injEq,List.cons.injEq,Value.bool.injEq,Value.int.injEq,and_true,true_and] at h1
  obtain ⟨_,h1,_⟩:=h1
  rw [<- h1] at h3
  exact h3.ge hg
 ·simp only [zeroV,Value.agg.injEq,Array.mk.injEq,List.cons.injEq,Value.bool.injEq,Value.int.injEq,Value.slice.injEq,and_true,true_and] at h1
  obtain ⟨_,⟨rfl,_,_⟩,_⟩:=h1
  simp [Value.ownBlock] at hg
theorem DAn.parts {B:Nat} {w:World} {ng:Bool} {so:Option Addr} {sn sc:Nat} {e V:Int} (h:DAn B w V (.agg #[.bool ng,.slice so sn sc,.int .i64 e])):∃ m,Dy V ng m e∧An B w (.slice so sn sc) m:=by
 obtain ⟨ng',s,m,e',h1,h2,h3⟩:=h
 simp only [Value.agg.injEq,Array.mk.injEq,List.cons.injEq,Value.bool.injEq,Value.int.injEq,and_true,true_and] at h1
 obtain ⟨rfl,rfl,rfl⟩:=h1
 exact ⟨m,h2,h3⟩
end Go.Proofs.YtinccocmgkjalaaGreatDoor
