/- Parts of the proof. -/
import Derived.Test.YtfgapefckpnjjaaGreatDoorPart30
import Derived.Test.YtfgapefckpnjjaaGreatDoorPart31
import Derived.Test.YtfgapefckpnjjaaGreatDoorPart32
import Derived.Deep.RegionHeld3
import Derived.Test.YtfgapefckpnjjaaGreatDoorPart16
set_option linter.unusedVariables false
set_option linter.unusedSimpArgs false
namespace Go.Proofs.YtfgapefckpnjjaaGreatDoor
open Go Go.RowKit Go.Proofs.YtfgapefckpnjjaaGreatDoor.M
theorem c2_set {p g o:Nat} {x0 x1 val:Value} {W:World} (hp:p ≠ g) (h:W.cell? ⟨p,0,none⟩=some x0∧W.cell? ⟨p,1,none⟩=some x1) :
    (W.setCell ⟨g,o,none⟩ val).cell? ⟨p,0,none⟩=some x0∧(W.setCell ⟨g,o,none⟩ val).cell? ⟨p,1,none⟩=some x1:=by
  have hp':∀ k:Nat,(W.setCell ⟨g,o,none⟩ val).cell? ⟨p,k,none⟩=W.cell? ⟨p,k,none⟩:=fun k=>World.cell?_setCell_far _ _ _ _ (Ne.symm hp)
  rw [hp',hp']
  exact h
theorem c22_set {p q g o:Nat} {x0 x1 x2 x3 val:Value} {W:World} (hp:p ≠ g) (hq:q ≠ g) (h:W.cell? ⟨p,0,none⟩=some x0∧W.cell? ⟨p,1,none⟩=some x1∧W.cell? ⟨q,0,none⟩=some x2∧W.cell? ⟨q,1,none⟩=some x3) :
    (W.setCell ⟨g,o,none⟩ val).cell? ⟨p,0,none⟩=some x0∧(W.setCell ⟨g,o,none⟩ val).cell? ⟨p,1,none⟩=some x1∧(W.setCell ⟨g,o,none⟩ val).cell? ⟨q,0,none⟩=some x2∧(W.setCell ⟨g,o,none⟩ val).cell? ⟨q,1,none⟩=some x3:=by
  have hp':∀ k:Nat,(W.setCell ⟨g,o,none⟩ val).cell? ⟨p,k,none⟩=W.cell? ⟨p,k,none⟩:=fun k=>World.cell?_setCell_far _ _ _ _ (Ne.symm hp)
  have hq':∀ k:Nat,(W.setCell ⟨g,o,none⟩ val).cell? ⟨q,k,none⟩=W.cell? ⟨q,k,none⟩:=fun k=>World.cell?_setCell_far _ _ _ _ (Ne.symm hq)
  rw [hp',hp',hq',hq']
  exact h
theorem bd_z:Bd 4000 0:=by
  have:=patV_bd' 0
  rw [patV_zeroE.1] at this
  exact this
theorem bd_of (p:Int):Bd 4000 (eOf p).v:=by
  by_cases h:rg p=9218868437227405312
  . rw [of_inf h]; exact bd_z
  . rw [of_fin h]; exact patV_bd' p
theorem bd_plus {a b:En} (ha:Bd 4000 a.v) (hb:Bd 4000 b.v):Bd 4001 (ePlus a b).v:=by
  by_cases i:a.i=0
  . by_cases j:b.i=0
    . rw [plus_fin i j]; exact ha.add hb (by omega)
    . rw [plus_r i j]; exact hb.up (by omega) (by omega)
  . rw [plus_l i]; exact ha.up (by omega) (by omega)
theorem neg_bd {a:En} (h:Bd 4000 a.v):Bd 4000 (eNeg a).v:=h.neg
set_option maxRecDepth 100000 in
set_option maxHeartbeats 4000000 in
theorem r8Plus {a b c d:Int} (na:nn a) (nb:nn b) (nc:nn c) (nd:nn d) (w:World) :
    Calls Tryz.prog 32 #[.agg #[.int .i64 a,.int .i64 b],.agg #[.int .i64 c,.int .i64 d]] w fun e w'=>e=.returned (.agg #[.int .i64 (eLo (ePlus (eOf a) (eOf c))),.int .i64 (eHi (ePlus (eOf b) (eOf d)))])∧Below w.heap.size w w':=by
  have T:Hid (∀ (u v:Value) W,EA W u (ePlus (eOf a) (eOf c))->EA W v (ePlus (eOf b) (eOf d))->Calls Tryz.prog 50 #[u,v] W fun r w'=>r=.returned (.agg #[.int .i64 (eLo (ePlus (eOf a) (eOf c))),.int .i64 (eHi (ePlus (eOf b) (eOf d)))])∧Below W.heap.size W w'):=fun u v W hu hv=>e8span hu.ev hv.ev (fun _=>(bd_plus (bd_of _) (bd_of _)).ok (by omega)) (fun _=>(bd_plus (bd_of _) (bd_of _)).ok (by omega))
  generalize eLo (ePlus (eOf a) (eOf c))=X at *
  generalize eHi (ePlus (eOf b) (eOf d))=Y at *
  have hb:=bel_refl w
  go_enter Tryz.func32,Tryz.ntmps32
  have s_k:(w.alloc (.cells #[.int .i64 a,.int .i64 b] 23)).heap[w.heap.size]?=some (.cells #[.int .i64 a,.int .i64 b] 23):=heap_new (.cells #[.int .i64 a,.int .i64 b] 23) (by simp only [size_alloc])
  have hb:=bel_trans hb (bel_alloc w (.cells #[.int .i64 a,.int .i64 b] 23))
  have s_k:=heap_past (.cells #[.int .i64 c,.int .i64 d] 23) s_k
  have t_k:((w.alloc (.cells #[.int .i64 a,.int .i64 b] 23)).alloc (.cells #[.int .i64 c,.int .i64 d] 23)).heap[w.heap.size + 1]?=some (.cells #[.int .i64 c,.int .i64 d] 23):=heap_new (.cells #[.int .i64 c,.int .i64 d] 23) (by simp only [size_alloc])
  have hb:=bel_trans hb (bel_alloc (w.alloc (.cells #[.int .i64 a,.int .i64 b] 23)) (.cells #[.int .i64 c,.int .i64 d] 23))
  have s_k:=heap_past (.cells #[.int .i64 0,.int .i64 0] 23) s_k
  have t_k:=heap_past (.cells #[.int .i64 0,.int .i64 0] 23) t_k
  have r_k:(((w.alloc (.cells #[.int .i64 a,.int .i64 b] 23)).alloc (.cells #[.int .i64 c,.int .i64 d] 23)).alloc (.cells #[.int .i64 0,.int .i64 0] 23)).heap[w.heap.size + 1 + 1]?=some (.cells #[.int .i64 0,.int .i64 0] 23):=heap_new (.cells #[.int .i64 0,.int .i64 0] 23) (by simp only [size_alloc])
  have hb:=bel_trans hb (bel_alloc ((w.alloc (.cells #[.int .i64 a,.int .i64 b] 23)).alloc (.cells #[.int .i64 c,.int .i64 d] 23)) (.cells #[.int .i64 0,.int .i64 0] 23))
  go_wp2_with fail
  generalize (((w.alloc (.cells #[.int .i64 a,.int .i64 b] 23)).alloc (.cells #[.int .i64 c,.int .i64 d] 23)).alloc (.cells #[.int .i64 0,.int .i64 0] 23))=x1 at s_k t_k r_k hb ⊢
  have KK:∀ W,Below x1.heap.size x1 W->W.cell? ⟨w.heap.size,0,none⟩=some (.int .i64 a)∧W.cell? ⟨w.heap.size,1,none⟩=some (.int .i64 b)∧W.cell? ⟨w.heap.size + 1,0,none⟩=some (.int .i64 c)∧W.cell? ⟨w.heap.size + 1,1,none⟩=some (.int .i64 d):=fun W hW=>⟨q_cell (blkC s_k 0 rfl) hW,q_cell (blkC s_k 1 rfl) hW,q_cell (blkC t_k 0 rfl) hW,q_cell (blkC t_k 1 rfl) hW⟩
  have B0:Below x1.heap.size x1 x1.drew:=(bel_refl _).drew
  have n_s:w.heap.size ≠ w.heap.size + 1 + 1:=by omega
  have n_t:w.heap.size + 1 ≠ w.heap.size + 1 + 1:=by omega
  go_region_held3 (fun W=>W.cell? ⟨w.heap.size,0,none⟩=some (.int .i64 a)∧W.cell? ⟨w.heap.size,1,none⟩=some (.int .i64 b)∧W.cell? ⟨w.heap.size + 1,0,none⟩=some (.int .i64 c)∧W.cell? ⟨w.heap.size + 1,1,none⟩=some (.int .i64 d))
    (first | assumption | exact KK _ B0 | exact KK _ B1 | exact KK _ B2 | exact KK _ B3 | exact KK _ B4 | exact KK _ B5 | exact KK _ B6 | exact KK _ B7 | (refine c22_set n_s n_t (c22_set n_s n_t ?_); exact KK _ B7) | fail)
    (first
      | (go_at_call 50; have _t:=hs6; refine (T.out _ _ _ (E3.keeps (bel_trans hs4 (bel_trans hs5 hs6))) E6).mono ?_; rintro _ y_7 ⟨rfl,hs7⟩; have B7:=bel_trans B6 hs7; have r_k:=blk_up B7 r_k; have f_r0:=blkC r_k 0 rfl; have f_r1:=blkC r_k 1 rfl; have z_r0:=blkF r_k 0; have z_r1:=blkF r_k 1)
      | (go_at_call 58; have _t:=hs5; refine (e8plus (E4.keeps hs5) E5 (K:=4000) (by omega) (bd_of _) (bd_of _)).mono ?_; rintro _ y_6 ⟨v6,rfl,E6,hs6⟩; have B6:=bel_trans B5 hs6)
      | (go_at_call 41; have _t:=hs4; refine (e8of nd _).mono ?_; rintro _ y_5 ⟨v5,rfl,E5,hs5⟩; have B5:=bel_trans B4 hs5)
      | (go_at_call 41; have _t:=hs3; refine (e8of nb _).mono ?_; rintro _ y_4 ⟨v4,rfl,E4,hs4⟩; have B4:=bel_trans B3 hs4)
      | (go_at_call 58; have _t:=hs2; refine (e8plus (E1.keeps hs2) E2 (K:=4000) (by omega) (bd_of _) (bd_of _)).mono ?_; rintro _ y_3 ⟨v3,rfl,E3,hs3⟩; have B3:=bel_trans B2 hs3)
      | (go_at_call 41; have _t:=hs1; refine (e8of nc _).mono ?_; rintro _ y_2 ⟨v2,rfl,E2,hs2⟩; have B2:=bel_trans B1 hs2)
      | (go_at_call 41; refine (e8of na _).mono ?_; rintro _ y_1 ⟨v1,rfl,E1,hs1⟩; have B1:=bel_trans B0 hs1))
  have hb:=bel_trans hb B7
  have f_r0:=blkC r_k 0 rfl
  have z_r0:=blkF r_k 0
  have d_r0:=q_heap_set r_k 0 (.int .i64 X)
  have f_r1:=blkC r_k 1 rfl
  have z_r1:=blkF r_k 1
  have d_r1:=q_heap_set d_r0 1 (.int .i64 Y)
  have e_r0:=blkC d_r1 0 rfl
  have e_r1:=blkC d_r1 1 rfl
  have hbe:=((hb.setCell (p:=⟨w.heap.size + 1 + 1,0,none⟩) (show w.heap.size <= w.heap.size + 1 + 1 by omega) (.int .i64 X)).setCell (p:=⟨w.heap.size + 1 + 1,1,none⟩) (show w.heap.size <= w.heap.size + 1 + 1 by omega) (.int .i64 Y))
  clear r_k d_r0 d_r1
  go_wp2
  refine bodyPost_ret (v:=.agg #[.int .i64 X,.int .i64 Y]) (by simp [results,Tryz.results32,go_sem,e_r0,e_r1]) rfl ⟨rfl,hbe⟩
set_option maxRecDepth 100000 in
set_option maxHeartbeats 4000000 in
theorem r8Neg {a b:Int} (na:nn a) (nb:nn b) (w:World) :
    Calls Tryz.prog 24 #[.agg #[.int .i64 a,.int .i64 b]] w fun e w'=>e=.returned (.agg #[.int .i64 (eLo (eNeg (eOf b))),.int .i64 (eHi (eNeg (eOf a)))])∧Below w.heap.size w w':=by
  have T:Hid (∀ (u v:Value) W,EA W u (eNeg (eOf b))->EA W v (eNeg (eOf a))->Calls Tryz.prog 50 #[u,v] W fun r w'=>r=.returned (.agg #[.int .i64 (eLo (eNeg (eOf b))),.int .i64 (eHi (eNeg (eOf a)))])∧Below W.heap.size W w'):=fun u v W hu hv=>e8span hu.ev hv.ev (fun _=>(neg_bd (bd_of _)).ok (by omega)) (fun _=>(neg_bd (bd_of _)).ok (by omega))
  generalize eLo (eNeg (eOf b))=X at *
  generalize eHi (eNeg (eOf a))=Y at *
  have hb:=bel_refl w
  go_enter Tryz.func24,Tryz.ntmps24
  have s_k:(w.alloc (.cells #[.int .i64 a,.int .i64 b] 23)).heap[w.heap.size]?=some (.cells #[.int .i64 a,.int .i64 b] 23):=heap_new (.cells #[.int .i64 a,.int .i64 b] 23) (by simp only [size_alloc])
  have hb:=bel_trans hb (bel_alloc w (.cells #[.int .i64 a,.int .i64 b] 23))
  have s_k:=heap_past (.cells #[.int .i64 0,.int .i64 0] 23) s_k
  have r_k:((w.alloc (.cells #[.int .i64 a,.int .i64 b] 23)).alloc (.cells #[.int .i64 0,.int .i64 0] 23)).heap[w.heap.size + 1]?=some (.cells #[.int .i64 0,.int .i64 0] 23):=heap_new (.cells #[.int .i64 0,.int .i64 0] 23) (by simp only [size_alloc])
  have hb:=bel_trans hb (bel_alloc (w.alloc (.cells #[.int .i64 a,.int .i64 b] 23)) (.cells #[.int .i64 0,.int .i64 0] 23))
  go_wp2_with fail
  generalize ((w.alloc (.cells #[.int .i64 a,.int .i64 b] 23)).alloc (.cells #[.int .i64 0,.int .i64 0] 23))=x1 at s_k r_k hb ⊢
  have KK:∀ W,Below x1.heap.size x1 W->W.cell? ⟨w.heap.size,0,none⟩=some (.int .i64 a)∧W.cell? ⟨w.heap.size,1,none⟩=some (.int .i64 b):=fun W hW=>⟨q_cell (blkC s_k 0 rfl) hW,q_cell (blkC s_k 1 rfl) hW⟩
  have B0:Below x1.heap.size x1 x1.drew:=(bel_refl _).drew
  have n_s:w.heap.size ≠ w.heap.size + 1:=by omega
  go_region_held3 (fun W=>W.cell? ⟨w.heap.size,0,none⟩=some (.int .i64 a)∧W.cell? ⟨w.heap.size,1,none⟩=some (.int .i64 b))
    (first | assumption | exact KK _ B0 | exact KK _ B1 | exact KK _ B2 | exact KK _ B3 | exact KK _ B4 | exact KK _ B5 | (refine c2_set n_s (c2_set n_s ?_); exact KK _ B5) | fail)
    (first
      | (go_at_call 50; have _t:=hs4; refine (T.out _ _ _ (E2.keeps (bel_trans hs3 hs4)) E4).mono ?_; rintro _ y_5 ⟨rfl,hs5⟩; have B5:=bel_trans B4 hs5; have r_k:=blk_up B5 r_k; have f_r0:=blkC r_k 0 rfl; have f_r1:=blkC r_k 1 rfl; have z_r0:=blkF r_k 0; have z_r1:=blkF r_k 1)
      | (go_at_call 53; have _t:=hs3; refine (e8minus E3 (eOf_ok _)).mono ?_; rintro _ y_4 ⟨v4,rfl,E4,hs4⟩; have B4:=bel_trans B3 hs4)
      | (go_at_call 41; have _t:=hs2; refine (e8of na _).mono ?_; rintro _ y_3 ⟨v3,rfl,E3,hs3⟩; have B3:=bel_trans B2 hs3)
      | (go_at_call 53; have _t:=hs1; refine (e8minus E1 (eOf_ok _)).mono ?_; rintro _ y_2 ⟨v2,rfl,E2,hs2⟩; have B2:=bel_trans B1 hs2)
      | (go_at_call 41; refine (e8of nb _).mono ?_; rintro _ y_1 ⟨v1,rfl,E1,hs1⟩; have B1:=bel_trans B0 hs1))
  have hb:=bel_trans hb B5
  have f_r0:=blkC r_k 0 rfl
  have z_r0:=blkF r_k 0
  have d_r0:=q_heap_set r_k 0 (.int .i64 X)
  have f_r1:=blkC r_k 1 rfl
  have z_r1:=blkF r_k 1
  have d_r1:=q_heap_set d_r0 1 (.int .i64 Y)
  have e_r0:=blkC d_r1 0 rfl
  have e_r1:=blkC d_r1 1 rfl
  have hbe:=((hb.setCell (p:=⟨w.heap.size + 1,0,none⟩) (show w.heap.size <= w.heap.size + 1 by omega) (.int .i64 X)).setCell (p:=⟨w.heap.size + 1,1,none⟩) (show w.heap.size <= w.heap.size + 1 by omega) (.int .i64 Y))
  clear r_k d_r0 d_r1
  go_wp2
  refine bodyPost_ret (v:=.agg #[.int .i64 X,.int .i64 Y]) (by simp [results,Tryz.results24,go_sem,e_r0,e_r1]) rfl ⟨rfl,hbe⟩
set_option maxRecDepth 100000 in
set_option maxHeartbeats 4000000 in
theorem r8Minus {a b c d:Int} (na:nn a) (nb:nn b) (nc:nn c) (nd:nn d) (w:World) :
    Calls Tryz.prog 33 #[.agg #[.int .i64 a,.int .i64 b],.agg #[.int .i64 c,.int .i64 d]] w fun e w'=>e=.returned (.agg #[.int .i64 (eLo (ePlus (eOf a) (eNeg (eOf d)))),.int .i64 (eHi (ePlus (eOf b) (eNeg (eOf c))))])∧Below w.heap.size w w':=by
  have ec:eOf (eHi (eNeg (eOf c)))=eNeg (eOf c):=by rw [<- of_neg nc,(e_of (nn_neg nc).1).2,of_canon (nn_neg nc).1]
  have ed:eOf (eLo (eNeg (eOf d)))=eNeg (eOf d):=by rw [<- of_neg nd,(e_of (nn_neg nd).1).1,of_canon (nn_neg nd).1]
  have CN:Hid (∀ W,Calls Tryz.prog 24 #[.agg #[.int .i64 c,.int .i64 d]] W fun e w'=>e=.returned (.agg #[.int .i64 (eLo (eNeg (eOf d))),.int .i64 (eHi (eNeg (eOf c)))])∧Below W.heap.size W w'):=fun W=>r8Neg nc nd W
  have CP:Hid (∀ W,Calls Tryz.prog 32 #[.agg #[.int .i64 a,.int .i64 b],.agg #[.int .i64 (eLo (eNeg (eOf d))),.int .i64 (eHi (eNeg (eOf c)))]] W fun e w'=>e=.returned (.agg #[.int .i64 (eLo (ePlus (eOf a) (eNeg (eOf d)))),.int .i64 (eHi (ePlus (eOf b) (eNeg (eOf c))))])∧Below W.heap.size W w'):=fun W=>by
    have:=r8Plus na nb (e_nn (eNeg (eOf d))).1 (e_nn (eNeg (eOf c))).2 W
    rw [ec,ed] at this
    exact this
  generalize eLo (ePlus (eOf a) (eNeg (eOf d)))=X at *
  generalize eHi (ePlus (eOf b) (eNeg (eOf c)))=Y at *
  generalize eLo (eNeg (eOf d))=P0 at *
  generalize eHi (eNeg (eOf c))=Q0 at *
  clear ec ed
  have hb:=bel_refl w
  go_enter Tryz.func33,Tryz.ntmps33
  have s_k:(w.alloc (.cells #[.int .i64 a,.int .i64 b] 23)).heap[w.heap.size]?=some (.cells #[.int .i64 a,.int .i64 b] 23):=heap_new (.cells #[.int .i64 a,.int .i64 b] 23) (by simp only [size_alloc])
  have hb:=bel_trans hb (bel_alloc w (.cells #[.int .i64 a,.int .i64 b] 23))
  have s_k:=heap_past (.cells #[.int .i64 c,.int .i64 d] 23) s_k
  have t_k:((w.alloc (.cells #[.int .i64 a,.int .i64 b] 23)).alloc (.cells #[.int .i64 c,.int .i64 d] 23)).heap[w.heap.size + 1]?=some (.cells #[.int .i64 c,.int .i64 d] 23):=heap_new (.cells #[.int .i64 c,.int .i64 d] 23) (by simp only [size_alloc])
  have hb:=bel_trans hb (bel_alloc (w.alloc (.cells #[.int .i64 a,.int .i64 b] 23)) (.cells #[.int .i64 c,.int .i64 d] 23))
  have s_k:=heap_past (.cells #[.int .i64 0,.int .i64 0] 23) s_k
  have t_k:=heap_past (.cells #[.int .i64 0,.int .i64 0] 23) t_k
  have r_k:(((w.alloc (.cells #[.int .i64 a,.int .i64 b] 23)).alloc (.cells #[.int .i64 c,.int .i64 d] 23)).alloc (.cells #[.int .i64 0,.int .i64 0] 23)).heap[w.heap.size + 1 + 1]?=some (.cells #[.int .i64 0,.int .i64 0] 23):=heap_new (.cells #[.int .i64 0,.int .i64 0] 23) (by simp only [size_alloc])
  have hb:=bel_trans hb (bel_alloc ((w.alloc (.cells #[.int .i64 a,.int .i64 b] 23)).alloc (.cells #[.int .i64 c,.int .i64 d] 23)) (.cells #[.int .i64 0,.int .i64 0] 23))
  go_wp2_with fail
  generalize (((w.alloc (.cells #[.int .i64 a,.int .i64 b] 23)).alloc (.cells #[.int .i64 c,.int .i64 d] 23)).alloc (.cells #[.int .i64 0,.int .i64 0] 23))=x1 at s_k t_k r_k hb ⊢
  have KK:∀ W,Below x1.heap.size x1 W->W.cell? ⟨w.heap.size,0,none⟩=some (.int .i64 a)∧W.cell? ⟨w.heap.size,1,none⟩=some (.int .i64 b)∧W.cell? ⟨w.heap.size + 1,0,none⟩=some (.int .i64 c)∧W.cell? ⟨w.heap.size + 1,1,none⟩=some (.int .i64 d):=fun W hW=>⟨q_cell (blkC s_k 0 rfl) hW,q_cell (blkC s_k 1 rfl) hW,q_cell (blkC t_k 0 rfl) hW,q_cell (blkC t_k 1 rfl) hW⟩
  have B0:Below x1.heap.size x1 x1.drew:=(bel_refl _).drew
  have n_s:w.heap.size ≠ w.heap.size + 1 + 1:=by omega
  have n_t:w.heap.size + 1 ≠ w.heap.size + 1 + 1:=by omega
  go_region_held3 (fun W=>W.cell? ⟨w.heap.size,0,none⟩=some (.int .i64 a)∧W.cell? ⟨w.heap.size,1,none⟩=some (.int .i64 b)∧W.cell? ⟨w.heap.size + 1,0,none⟩=some (.int .i64 c)∧W.cell? ⟨w.heap.size + 1,1,none⟩=some (.int .i64 d))
    (first | assumption | exact KK _ B0 | exact KK _ B1 | exact KK _ B2 | (refine c22_set n_s n_t (c22_set n_s n_t ?_); exact KK _ B2) | fail)
    (first
      | (go_at_call 32; have _t:=hs1; refine (CP.out _).mono ?_; rintro _ y_2 ⟨rfl,hs2⟩; have B2:=bel_trans B1 hs2; have r_k:=blk_up B2 r_k; have f_r0:=blkC r_k 0 rfl; have f_r1:=blkC r_k 1 rfl; have z_r0:=blkF r_k 0; have z_r1:=blkF r_k 1)
      | (go_at_call 24; refine (CN.out _).mono ?_; rintro _ y_1 ⟨rfl,hs1⟩; have B1:=bel_trans B0 hs1))
  have hb:=bel_trans hb B2
  have f_r0:=blkC r_k 0 rfl
  have z_r0:=blkF r_k 0
  have d_r0:=q_heap_set r_k 0 (.int .i64 X)
  have f_r1:=blkC r_k 1 rfl
  have z_r1:=blkF r_k 1
  have d_r1:=q_heap_set d_r0 1 (.int .i64 Y)
  have e_r0:=blkC d_r1 0 rfl
  have e_r1:=blkC d_r1 1 rfl
  have hbe:=((hb.setCell (p:=⟨w.heap.size + 1 + 1,0,none⟩) (show w.heap.size <= w.heap.size + 1 + 1 by omega) (.int .i64 X)).setCell (p:=⟨w.heap.size + 1 + 1,1,none⟩) (show w.heap.size <= w.heap.size + 1 + 1 by omega) (.int .i64 Y))
  clear r_k d_r0 d_r1
  go_wp2
  refine bodyPost_ret (v:=.agg #[.int .i64 X,.int .i64 Y]) (by simp [results,Tryz.results33,go_sem,e_r0,e_r1]) rfl ⟨rfl,hbe⟩
set_option maxRecDepth 100000 in
theorem alive8 (w:World) (L:Lays w):Calls Tryz.prog 6 #[] w fun e w'=>e=.returned (.bool true)∧Below w.heap.size w w':=by
  have CA:Hid (∀ W,Lays W->Calls Tryz.prog 9 #[.agg #[.int .i64 4607182418800017408,.int .i64 4607182418800017408],.agg #[.int .i64 4607182418800017408,.int .i64 4611686018427387904]] W fun e w'=>e=.returned (.tuple #[.agg #[.int .i64 4611686018427387904,.int .i64 4613937818241073152],.int .i64 0])∧Below W.heap.size W w'):=fun W LW=>addC W LW
  have CS:Hid (∀ W,Calls Tryz.prog 10 #[.agg #[.int .i64 4611686018427387904,.int .i64 4613937818241073152]] W fun e w'=>e=.returned (.tuple #[.int .i64 1,.bool true,.int .i64 0])∧Below W.heap.size W w'):=fun W=>signC W
  go_enter Tryz.func6,Tryz.ntmps6
  go_wp2_with fail
  refine (CA.out _ L).mono ?_
  rintro _ w1 ⟨rfl,hb1⟩
  have hba:=bel_alloc w1 (.cells #[.int .i64 4611686018427387904,.int .i64 4613937818241073152] 23)
  have hg:=hl_last w1 (.cells #[.int .i64 4611686018427387904,.int .i64 4613937818241073152] 23) rfl
  go_wp2_with fail
  generalize w1.alloc (.cells #[.int .i64 4611686018427387904,.int .i64 4613937818241073152] 23)=w2 at *
  refine (CS.out _).mono ?_
  rintro _ w3 ⟨rfl,hb2⟩
  have hg3:=(hb2.block _ (Array.getElem?_eq_some_iff.1 hg).1).trans hg
  have c0:=blkC hg3 0 rfl
  have c1:=blkC hg3 1 rfl
  go_wp2
  go_ret
  exact ⟨rfl,bel_trans hb1 (bel_trans hba hb2)⟩
end Go.Proofs.YtfgapefckpnjjaaGreatDoor
