/- Parts of the proof. -/
import Derived.Test.YtkkpppgfoilgmaaGreatDoorPart26
import Derived.Test.YtkkpppgfoilgmaaGreatDoorPart27
import Derived.Test.YtkkpppgfoilgmaaGreatDoorPart28
import Derived.Deep.RegionHeld3
import Derived.Test.YtkkpppgfoilgmaaGreatDoorPart16
set_option maxRecDepth 100000
set_option maxHeartbeats 8000000
set_option linter.unusedVariables false
set_option linter.unusedSimpArgs false
namespace Go.Proofs.YtkkpppgfoilgmaaGreatDoor
open Go Go.Proofs.Tryz Go.RowKit Go.Proofs.YtkkpppgfoilgmaaGreatDoor.M
theorem xY {p g o:Nat} {x0 x1 val:Value} {W:World} (hp:p≠g) (h:W.cell? ⟨p,0,none⟩=some x0∧W.cell? ⟨p,1,none⟩=some x1) :
  (W.setCell ⟨g,o,none⟩ val).cell? ⟨p,0,none⟩=some x0∧(W.setCell ⟨g,o,none⟩ val).cell? ⟨p,1,none⟩=some x1:=by
 have hp':∀ k:Nat,(W.setCell ⟨g,o,none⟩ val).cell? ⟨p,k,none⟩=W.cell? ⟨p,k,none⟩:=fun k=>World.cell?_setCell_far _ _ _ _ (Ne.symm hp)
 rw[hp',hp']
 exact h
theorem m8 {p q g o:Nat} {x0 x1 x2 x3 val:Value} {W:World} (hp:p≠g) (hq:q≠g) (h:W.cell? ⟨p,0,none⟩=some x0∧W.cell? ⟨p,1,none⟩=some x1∧W.cell? ⟨q,0,none⟩=some x2∧W.cell? ⟨q,1,none⟩=some x3) :
  (W.setCell ⟨g,o,none⟩ val).cell? ⟨p,0,none⟩=some x0∧(W.setCell ⟨g,o,none⟩ val).cell? ⟨p,1,none⟩=some x1∧(W.setCell ⟨g,o,none⟩ val).cell? ⟨q,0,none⟩=some x2∧(W.setCell ⟨g,o,none⟩ val).cell? ⟨q,1,none⟩=some x3:=by
 have hp':∀ k:Nat,(W.setCell ⟨g,o,none⟩ val).cell? ⟨p,k,none⟩=W.cell? ⟨p,k,none⟩:=fun k=>World.cell?_setCell_far _ _ _ _ (Ne.symm hp)
 have hq':∀ k:Nat,(W.setCell ⟨g,o,none⟩ val).cell? ⟨q,k,none⟩=W.cell? ⟨q,k,none⟩:=fun k=>World.cell?_setCell_far _ _ _ _ (Ne.symm hq)
 rw[hp',hp',hq',hq']
 exact h
theorem vU:Bd 4000 0:=by
 have:=lS 0
 rw[gF.1] at this
 exact this
theorem aV (p:Int):Bd 4000 (ag p).v:=by
 by_cases h:rg p=9218868437227405312
 ·rw[dS h];exact vU
 ·rw[dG h];exact lS p
theorem uB {a b:En} (ha:Bd 4000 a.v) (hb:Bd 4000 b.v):Bd 4001 (bq a b).v:=by
 by_cases i:a.i=0
 ·by_cases j:b.i=0
  ·rw[lO i j];exact ha.add hb (by omega)
  ·rw[oZ i j];exact hb.up (by omega) (by omega)
 ·rw[oY i];exact ha.up (by omega) (by omega)
theorem xZ {a:En} (h:Bd 4000 a.v):Bd 4000 (bK a).v:=h.neg
theorem ya {a b c d:Int} (na:nn a) (nb:nn b) (nc:nn c) (nd:nn d) (w:World) :
    Calls prog 31 #[.agg #[.int .i64 a,.int .i64 b],.agg #[.int .i64 c,.int .i64 d]] w fun e w'=>e=.returned (.agg #[.int .i64 (a6 (bq (ag a) (ag c))),.int .i64 (a7 (bq (ag b) (ag d)))])∧Below w.heap.size w w':=by
  have T:Hid (∀ (u v:Value) W,EA W u (bq (ag a) (ag c))->EA W v (bq (ag b) (ag d))->Calls prog 49 #[u,v] W fun r w'=>r=.returned (.agg #[.int .i64 (a6 (bq (ag a) (ag c))),.int .i64 (a7 (bq (ag b) (ag d)))])∧Below W.heap.size W w'):=fun u v W hu hv=>gT hu.ev hv.ev (fun _=>(uB (aV _) (aV _)).ok (by omega)) (fun _=>(uB (aV _) (aV _)).ok (by omega))
  generalize a6 (bq (ag a) (ag c))=X at *
  generalize a7 (bq (ag b) (ag d))=Y at *
  have hb:=ap w
  go_enter func31,ntmps31
  have s_k:(w.alloc (.cells #[.int .i64 a,.int .i64 b] 23)).heap[w.heap.size]?=some (.cells #[.int .i64 a,.int .i64 b] 23):=av (.cells #[.int .i64 a,.int .i64 b] 23) (by simp only[ak])
  have hb:=ab hb (ae w (.cells #[.int .i64 a,.int .i64 b] 23))
  have s_k:=ah (.cells #[.int .i64 c,.int .i64 d] 23) s_k
  have t_k:((w.alloc (.cells #[.int .i64 a,.int .i64 b] 23)).alloc (.cells #[.int .i64 c,.int .i64 d] 23)).heap[w.heap.size+1]?=some (.cells #[.int .i64 c,.int .i64 d] 23):=av (.cells #[.int .i64 c,.int .i64 d] 23) (by simp only[ak])
  have hb:=ab hb (ae (w.alloc (.cells #[.int .i64 a,.int .i64 b] 23)) (.cells #[.int .i64 c,.int .i64 d] 23))
  have s_k:=ah (.cells #[.int .i64 0,.int .i64 0] 23) s_k
  have t_k:=ah (.cells #[.int .i64 0,.int .i64 0] 23) t_k
  have r_k:(((w.alloc (.cells #[.int .i64 a,.int .i64 b] 23)).alloc (.cells #[.int .i64 c,.int .i64 d] 23)).alloc (.cells #[.int .i64 0,.int .i64 0] 23)).heap[w.heap.size+1+1]?=some (.cells #[.int .i64 0,.int .i64 0] 23):=av (.cells #[.int .i64 0,.int .i64 0] 23) (by simp only[ak])
  have hb:=ab hb (ae ((w.alloc (.cells #[.int .i64 a,.int .i64 b] 23)).alloc (.cells #[.int .i64 c,.int .i64 d] 23)) (.cells #[.int .i64 0,.int .i64 0] 23))
  go_wp2_with fail
  generalize (((w.alloc (.cells #[.int .i64 a,.int .i64 b] 23)).alloc (.cells #[.int .i64 c,.int .i64 d] 23)).alloc (.cells #[.int .i64 0,.int .i64 0] 23))=x1 at s_k t_k r_k hb ⊢
  have KK:∀ W,Below x1.heap.size x1 W->W.cell? ⟨w.heap.size,0,none⟩=some (.int .i64 a)∧W.cell? ⟨w.heap.size,1,none⟩=some (.int .i64 b)∧W.cell? ⟨w.heap.size+1,0,none⟩=some (.int .i64 c)∧W.cell? ⟨w.heap.size+1,1,none⟩=some (.int .i64 d):=fun W hW=>⟨am (aa s_k 0 rfl) hW,am (aa s_k 1 rfl) hW,am (aa t_k 0 rfl) hW,am (aa t_k 1 rfl) hW⟩
  have B0:Below x1.heap.size x1 x1.drew:=(ap _).drew
  have n_s:w.heap.size≠w.heap.size+1+1:=by omega
  have n_t:w.heap.size+1≠w.heap.size+1+1:=by omega
  go_region_held3 (fun W=>W.cell? ⟨w.heap.size,0,none⟩=some (.int .i64 a)∧W.cell? ⟨w.heap.size,1,none⟩=some (.int .i64 b)∧W.cell? ⟨w.heap.size+1,0,none⟩=some (.int .i64 c)∧W.cell? ⟨w.heap.size+1,1,none⟩=some (.int .i64 d))
    (first|assumption|exact KK _ B0|exact KK _ B1|exact KK _ B2|exact KK _ B3|exact KK _ B4|exact KK _ B5|exact KK _ B6|exact KK _ B7|(refine m8 n_s n_t (m8 n_s n_t ?_);exact KK _ B7)|fail)
    (first
      | (go_at_call 49;have _t:=hs6;refine(T.out _ _ _ (E3.keeps (ab hs4 (ab hs5 hs6))) E6).mono ?_;rintro _ y_7 ⟨rfl,hs7⟩;have B7:=ab B6 hs7;have r_k:=ac B7 r_k;have f_r0:=aa r_k 0 rfl;have f_r1:=aa r_k 1 rfl;have z_r0:=af r_k 0;have z_r1:=af r_k 1)
      | (go_at_call 57;have _t:=hs5;refine(xU (E4.keeps hs5) E5 (K:=4000) (by omega) (aV _) (aV _)).mono ?_;rintro _ y_6 ⟨v6,rfl,E6,hs6⟩;have B6:=ab B5 hs6)
      | (go_at_call 40;have _t:=hs4;refine(cA nd _).mono ?_;rintro _ y_5 ⟨v5,rfl,E5,hs5⟩;have B5:=ab B4 hs5)
      | (go_at_call 40;have _t:=hs3;refine(cA nb _).mono ?_;rintro _ y_4 ⟨v4,rfl,E4,hs4⟩;have B4:=ab B3 hs4)
      | (go_at_call 57;have _t:=hs2;refine(xU (E1.keeps hs2) E2 (K:=4000) (by omega) (aV _) (aV _)).mono ?_;rintro _ y_3 ⟨v3,rfl,E3,hs3⟩;have B3:=ab B2 hs3)
      | (go_at_call 40;have _t:=hs1;refine(cA nc _).mono ?_;rintro _ y_2 ⟨v2,rfl,E2,hs2⟩;have B2:=ab B1 hs2)
      | (go_at_call 40; refine (cA na _).mono ?_; rintro _ y_1 ⟨v1,rfl,E1,hs1⟩; have B1:=ab B0 hs1))
  have hb:=ab hb B7
  have f_r0:=aa r_k 0 rfl
  have z_r0:=af r_k 0
  have d_r0:=aj r_k 0 (.int .i64 X)
  have f_r1:=aa r_k 1 rfl
  have z_r1:=af r_k 1
  have d_r1:=aj d_r0 1 (.int .i64 Y)
  have e_r0:=aa d_r1 0 rfl
  have e_r1:=aa d_r1 1 rfl
  have hbe:=((hb.setCell (p:=⟨w.heap.size+1+1,0,none⟩) (show w.heap.size<=w.heap.size+1+1 by omega) (.int .i64 X)).setCell (p:=⟨w.heap.size+1+1,1,none⟩) (show w.heap.size<=w.heap.size+1+1 by omega) (.int .i64 Y))
  clear r_k d_r0 d_r1
  go_wp2
  refine bodyPost_ret (v:=.agg #[.int .i64 X,.int .i64 Y]) (by simp[results,results31,go_sem,e_r0,e_r1]) rfl ⟨rfl,hbe⟩
theorem AI {a b:Int} (na:nn a) (nb:nn b) (w:World) :
    Calls prog 23 #[.agg #[.int .i64 a,.int .i64 b]] w fun e w'=>e=.returned (.agg #[.int .i64 (a6 (bK (ag b))),.int .i64 (a7 (bK (ag a)))])∧Below w.heap.size w w':=by
  have T:Hid (∀ (u v:Value) W,EA W u (bK (ag b))->EA W v (bK (ag a))->Calls prog 49 #[u,v] W fun r w'=>r=.returned (.agg #[.int .i64 (a6 (bK (ag b))),.int .i64 (a7 (bK (ag a)))])∧Below W.heap.size W w'):=fun u v W hu hv=>gT hu.ev hv.ev (fun _=>(xZ (aV _)).ok (by omega)) (fun _=>(xZ (aV _)).ok (by omega))
  generalize a6 (bK (ag b))=X at *
  generalize a7 (bK (ag a))=Y at *
  have hb:=ap w
  go_enter func23,ntmps23
  have s_k:(w.alloc (.cells #[.int .i64 a,.int .i64 b] 23)).heap[w.heap.size]?=some (.cells #[.int .i64 a,.int .i64 b] 23):=av (.cells #[.int .i64 a,.int .i64 b] 23) (by simp only[ak])
  have hb:=ab hb (ae w (.cells #[.int .i64 a,.int .i64 b] 23))
  have s_k:=ah (.cells #[.int .i64 0,.int .i64 0] 23) s_k
  have r_k:((w.alloc (.cells #[.int .i64 a,.int .i64 b] 23)).alloc (.cells #[.int .i64 0,.int .i64 0] 23)).heap[w.heap.size+1]?=some (.cells #[.int .i64 0,.int .i64 0] 23):=av (.cells #[.int .i64 0,.int .i64 0] 23) (by simp only[ak])
  have hb:=ab hb (ae (w.alloc (.cells #[.int .i64 a,.int .i64 b] 23)) (.cells #[.int .i64 0,.int .i64 0] 23))
  go_wp2_with fail
  generalize ((w.alloc (.cells #[.int .i64 a,.int .i64 b] 23)).alloc (.cells #[.int .i64 0,.int .i64 0] 23))=x1 at s_k r_k hb ⊢
  have KK:∀ W,Below x1.heap.size x1 W->W.cell? ⟨w.heap.size,0,none⟩=some (.int .i64 a)∧W.cell? ⟨w.heap.size,1,none⟩=some (.int .i64 b):=fun W hW=>⟨am (aa s_k 0 rfl) hW,am (aa s_k 1 rfl) hW⟩
  have B0:Below x1.heap.size x1 x1.drew:=(ap _).drew
  have n_s:w.heap.size≠w.heap.size+1:=by omega
  go_region_held3 (fun W=>W.cell? ⟨w.heap.size,0,none⟩=some (.int .i64 a)∧W.cell? ⟨w.heap.size,1,none⟩=some (.int .i64 b))
    (first|assumption|exact KK _ B0|exact KK _ B1|exact KK _ B2|exact KK _ B3|exact KK _ B4|exact KK _ B5|(refine xY n_s (xY n_s ?_);exact KK _ B5)|fail)
    (first
      | (go_at_call 49;have _t:=hs4;refine(T.out _ _ _ (E2.keeps (ab hs3 hs4)) E4).mono ?_;rintro _ y_5 ⟨rfl,hs5⟩;have B5:=ab B4 hs5;have r_k:=ac B5 r_k;have f_r0:=aa r_k 0 rfl;have f_r1:=aa r_k 1 rfl;have z_r0:=af r_k 0;have z_r1:=af r_k 1)
      | (go_at_call 52;have _t:=hs3;refine(uA E3 (aM _)).mono ?_;rintro _ y_4 ⟨v4,rfl,E4,hs4⟩;have B4:=ab B3 hs4)
      | (go_at_call 40;have _t:=hs2;refine(cA na _).mono ?_;rintro _ y_3 ⟨v3,rfl,E3,hs3⟩;have B3:=ab B2 hs3)
      | (go_at_call 52;have _t:=hs1;refine(uA E1 (aM _)).mono ?_;rintro _ y_2 ⟨v2,rfl,E2,hs2⟩;have B2:=ab B1 hs2)
      | (go_at_call 40; refine (cA nb _).mono ?_; rintro _ y_1 ⟨v1,rfl,E1,hs1⟩; have B1:=ab B0 hs1))
  have hb:=ab hb B5
  have f_r0:=aa r_k 0 rfl
  have z_r0:=af r_k 0
  have d_r0:=aj r_k 0 (.int .i64 X)
  have f_r1:=aa r_k 1 rfl
  have z_r1:=af r_k 1
  have d_r1:=aj d_r0 1 (.int .i64 Y)
  have e_r0:=aa d_r1 0 rfl
  have e_r1:=aa d_r1 1 rfl
  have hbe:=((hb.setCell (p:=⟨w.heap.size+1,0,none⟩) (show w.heap.size<=w.heap.size+1 by omega) (.int .i64 X)).setCell (p:=⟨w.heap.size+1,1,none⟩) (show w.heap.size<=w.heap.size+1 by omega) (.int .i64 Y))
  clear r_k d_r0 d_r1
  go_wp2
  refine bodyPost_ret (v:=.agg #[.int .i64 X,.int .i64 Y]) (by simp[results,results23,go_sem,e_r0,e_r1]) rfl ⟨rfl,hbe⟩
theorem Ci {a b c d:Int} (na:nn a) (nb:nn b) (nc:nn c) (nd:nn d) (w:World) :
    Calls prog 32 #[.agg #[.int .i64 a,.int .i64 b],.agg #[.int .i64 c,.int .i64 d]] w fun e w'=>e=.returned (.agg #[.int .i64 (a6 (bq (ag a) (bK (ag d)))),.int .i64 (a7 (bq (ag b) (bK (ag c))))])∧Below w.heap.size w w':=by
  have ec:ag (a7 (bK (ag c)))=bK (ag c):=by rw[<- k8 nc,(dF (cu nc).1).2,s8 (cu nc).1]
  have ed:ag (a6 (bK (ag d)))=bK (ag d):=by rw[<- k8 nd,(dF (cu nd).1).1,s8 (cu nd).1]
  have CN:Hid (∀ W,Calls prog 23 #[.agg #[.int .i64 c,.int .i64 d]] W fun e w'=>e=.returned (.agg #[.int .i64 (a6 (bK (ag d))),.int .i64 (a7 (bK (ag c)))])∧Below W.heap.size W w'):=fun W=>AI nc nd W
  have CP:Hid (∀ W,Calls prog 31 #[.agg #[.int .i64 a,.int .i64 b],.agg #[.int .i64 (a6 (bK (ag d))),.int .i64 (a7 (bK (ag c)))]] W fun e w'=>e=.returned (.agg #[.int .i64 (a6 (bq (ag a) (bK (ag d)))),.int .i64 (a7 (bq (ag b) (bK (ag c))))])∧Below W.heap.size W w'):=fun W=>by
    have:=ya na nb (pK (bK (ag d))).1 (pK (bK (ag c))).2 W
    rw[ec,ed] at this
    exact this
  generalize a6 (bq (ag a) (bK (ag d)))=X at *
  generalize a7 (bq (ag b) (bK (ag c)))=Y at *
  generalize a6 (bK (ag d))=P0 at *
  generalize a7 (bK (ag c))=Q0 at *
  clear ec ed
  have hb:=ap w
  go_enter func32,ntmps32
  have s_k:(w.alloc (.cells #[.int .i64 a,.int .i64 b] 23)).heap[w.heap.size]?=some (.cells #[.int .i64 a,.int .i64 b] 23):=av (.cells #[.int .i64 a,.int .i64 b] 23) (by simp only[ak])
  have hb:=ab hb (ae w (.cells #[.int .i64 a,.int .i64 b] 23))
  have s_k:=ah (.cells #[.int .i64 c,.int .i64 d] 23) s_k
  have t_k:((w.alloc (.cells #[.int .i64 a,.int .i64 b] 23)).alloc (.cells #[.int .i64 c,.int .i64 d] 23)).heap[w.heap.size+1]?=some (.cells #[.int .i64 c,.int .i64 d] 23):=av (.cells #[.int .i64 c,.int .i64 d] 23) (by simp only[ak])
  have hb:=ab hb (ae (w.alloc (.cells #[.int .i64 a,.int .i64 b] 23)) (.cells #[.int .i64 c,.int .i64 d] 23))
  have s_k:=ah (.cells #[.int .i64 0,.int .i64 0] 23) s_k
  have t_k:=ah (.cells #[.int .i64 0,.int .i64 0] 23) t_k
  have r_k:(((w.alloc (.cells #[.int .i64 a,.int .i64 b] 23)).alloc (.cells #[.int .i64 c,.int .i64 d] 23)).alloc (.cells #[.int .i64 0,.int .i64 0] 23)).heap[w.heap.size+1+1]?=some (.cells #[.int .i64 0,.int .i64 0] 23):=av (.cells #[.int .i64 0,.int .i64 0] 23) (by simp only[ak])
  have hb:=ab hb (ae ((w.alloc (.cells #[.int .i64 a,.int .i64 b] 23)).alloc (.cells #[.int .i64 c,.int .i64 d] 23)) (.cells #[.int .i64 0,.int .i64 0] 23))
  go_wp2_with fail
  generalize (((w.alloc (.cells #[.int .i64 a,.int .i64 b] 23)).alloc (.cells #[.int .i64 c,.int .i64 d] 23)).alloc (.cells #[.int .i64 0,.int .i64 0] 23))=x1 at s_k t_k r_k hb ⊢
  have KK:∀ W,Below x1.heap.size x1 W->W.cell? ⟨w.heap.size,0,none⟩=some (.int .i64 a)∧W.cell? ⟨w.heap.size,1,none⟩=some (.int .i64 b)∧W.cell? ⟨w.heap.size+1,0,none⟩=some (.int .i64 c)∧W.cell? ⟨w.heap.size+1,1,none⟩=some (.int .i64 d):=fun W hW=>⟨am (aa s_k 0 rfl) hW,am (aa s_k 1 rfl) hW,am (aa t_k 0 rfl) hW,am (aa t_k 1 rfl) hW⟩
  have B0:Below x1.heap.size x1 x1.drew:=(ap _).drew
  have n_s:w.heap.size≠w.heap.size+1+1:=by omega
  have n_t:w.heap.size+1≠w.heap.size+1+1:=by omega
  go_region_held3 (fun W=>W.cell? ⟨w.heap.size,0,none⟩=some (.int .i64 a)∧W.cell? ⟨w.heap.size,1,none⟩=some (.int .i64 b)∧W.cell? ⟨w.heap.size+1,0,none⟩=some (.int .i64 c)∧W.cell? ⟨w.heap.size+1,1,none⟩=some (.int .i64 d))
    (first|assumption|exact KK _ B0|exact KK _ B1|exact KK _ B2|(refine m8 n_s n_t (m8 n_s n_t ?_);exact KK _ B2)|fail)
    (first
      | (go_at_call 31;have _t:=hs1;refine(CP.out _).mono ?_;rintro _ y_2 ⟨rfl,hs2⟩;have B2:=ab B1 hs2;have r_k:=ac B2 r_k;have f_r0:=aa r_k 0 rfl;have f_r1:=aa r_k 1 rfl;have z_r0:=af r_k 0;have z_r1:=af r_k 1)
      | (go_at_call 23; refine (CN.out _).mono ?_; rintro _ y_1 ⟨rfl,hs1⟩; have B1:=ab B0 hs1))
  have hb:=ab hb B2
  have f_r0:=aa r_k 0 rfl
  have z_r0:=af r_k 0
  have d_r0:=aj r_k 0 (.int .i64 X)
  have f_r1:=aa r_k 1 rfl
  have z_r1:=af r_k 1
  have d_r1:=aj d_r0 1 (.int .i64 Y)
  have e_r0:=aa d_r1 0 rfl
  have e_r1:=aa d_r1 1 rfl
  have hbe:=((hb.setCell (p:=⟨w.heap.size+1+1,0,none⟩) (show w.heap.size<=w.heap.size+1+1 by omega) (.int .i64 X)).setCell (p:=⟨w.heap.size+1+1,1,none⟩) (show w.heap.size<=w.heap.size+1+1 by omega) (.int .i64 Y))
  clear r_k d_r0 d_r1
  go_wp2
  refine bodyPost_ret (v:=.agg #[.int .i64 X,.int .i64 Y]) (by simp[results,results32,go_sem,e_r0,e_r1]) rfl ⟨rfl,hbe⟩
theorem Em (w:World) (L:eI w):Calls prog 5 #[] w fun e w'=>e=.returned (.bool true)∧Below w.heap.size w w':=by
 have CA:Hid (∀ W,eI W->Calls prog 8 #[.agg #[.int .i64 4607182418800017408,.int .i64 4607182418800017408],.agg #[.int .i64 4607182418800017408,.int .i64 4611686018427387904]] W fun e w'=>e=.returned (.tuple #[.agg #[.int .i64 4611686018427387904,.int .i64 4613937818241073152],.int .i64 0])∧Below W.heap.size W w'):=fun W LW=>F1 W LW
 have CS:Hid (∀ W,Calls prog 9 #[.agg #[.int .i64 4611686018427387904,.int .i64 4613937818241073152]] W fun e w'=>e=.returned (.tuple #[.int .i64 1,.bool true,.int .i64 0])∧Below W.heap.size W w'):=fun W=>Ft W
 go_enter func5,ntmps5
 go_wp2_with fail
 refine(CA.out _ L).mono ?_
 rintro _ w1 ⟨rfl,hb1⟩
 have hba:=ae w1 (.cells #[.int .i64 4611686018427387904,.int .i64 4613937818241073152] 23)
 have hg:=iY w1 (.cells #[.int .i64 4611686018427387904,.int .i64 4613937818241073152] 23) rfl
 go_wp2_with fail
 generalize w1.alloc (.cells #[.int .i64 4611686018427387904,.int .i64 4613937818241073152] 23)=w2 at *
 refine(CS.out _).mono ?_
 rintro _ w3 ⟨rfl,hb2⟩
 have hg3:=(hb2.block _ (aGe hg).1).trans hg
 have c0:=aa hg3 0 rfl
 have c1:=aa hg3 1 rfl
 go_wp2
 go_ret
 exact⟨rfl,ab hb1 (ab hba hb2)⟩
end Go.Proofs.YtkkpppgfoilgmaaGreatDoor
