/- Parts of the proof. -/
import Derived.Test.YtfgapefckpnjjaaGreatDoorPart33
import Derived.Deep.RegionHeld3
set_option linter.unusedVariables false
set_option linter.unusedSimpArgs false
namespace Go.Proofs.YtfgapefckpnjjaaGreatDoor
open Go Go.RowKit Go.Proofs.YtfgapefckpnjjaaGreatDoor.M
set_option maxRecDepth 10000 in
set_option maxHeartbeats 4000000 in
theorem outer4 {W0:World} {A0 A1 A2 A3:En} {g0:Bool} {o0:Option Addr} {n0 c0:Nat} {e0:Int} {g1:Bool} {o1:Option Addr} {n1 c1:Nat} {e1:Int} {g2:Bool} {o2:Option Addr} {n2 c2:Nat} {e2:Int} {g3:Bool} {o3:Option Addr} {n3 c3:Nat} {e3:Int} (d0:DAn 0 W0 A0.v (.agg #[.bool g0,.slice o0 n0 c0,.int .i64 e0])) (d1:DAn 0 W0 A1.v (.agg #[.bool g1,.slice o1 n1 c1,.int .i64 e1])) (d2:DAn 0 W0 A2.v (.agg #[.bool g2,.slice o2 n2 c2,.int .i64 e2])) (d3:DAn 0 W0 A3.v (.agg #[.bool g3,.slice o3 n3 c3,.int .i64 e3])) {K:Nat} (hK:K <= 28000) (b0:Bd K A0.v) (b1:Bd K A1.v) (b2:Bd K A2.v) (b3:Bd K A3.v) (k0:A0.ok) (k1:A1.ok) (k2:A2.ok) (k3:A3.ok) :
    Calls Tryz.prog 55 #[.slice (some ⟨W0.heap.size,0,none⟩) 4 4] (W0.alloc (.cells #[.int .i64 A0.i,.bool g0,.slice o0 n0 c0,.int .i64 e0,.int .i64 A1.i,.bool g1,.slice o1 n1 c1,.int .i64 e1,.int .i64 A2.i,.bool g2,.slice o2 n2 c2,.int .i64 e2,.int .i64 A3.i,.bool g3,.slice o3 n3 c3,.int .i64 e3] 68)) fun x w'=>∃ v u,x=.returned (.tuple #[v,u])∧EA w' v (eMin (eMin (eMin A0 A1) A2) A3)∧EA w' u (eMax (eMax (eMax A0 A1) A2) A3)∧Below (W0.alloc (.cells #[.int .i64 A0.i,.bool g0,.slice o0 n0 c0,.int .i64 e0,.int .i64 A1.i,.bool g1,.slice o1 n1 c1,.int .i64 e1,.int .i64 A2.i,.bool g2,.slice o2 n2 c2,.int .i64 e2,.int .i64 A3.i,.bool g3,.slice o3 n3 c3,.int .i64 e3] 68)).heap.size (W0.alloc (.cells #[.int .i64 A0.i,.bool g0,.slice o0 n0 c0,.int .i64 e0,.int .i64 A1.i,.bool g1,.slice o1 n1 c1,.int .i64 e1,.int .i64 A2.i,.bool g2,.slice o2 n2 c2,.int .i64 e2,.int .i64 A3.i,.bool g3,.slice o3 n3 c3,.int .i64 e3] 68)) w':=by
  have hb:=bel_alloc W0 (.cells #[.int .i64 A0.i,.bool g0,.slice o0 n0 c0,.int .i64 e0,.int .i64 A1.i,.bool g1,.slice o1 n1 c1,.int .i64 e1,.int .i64 A2.i,.bool g2,.slice o2 n2 c2,.int .i64 e2,.int .i64 A3.i,.bool g3,.slice o3 n3 c3,.int .i64 e3] 68)
  have hk0:=heap_a1 W0 (.cells #[.int .i64 A0.i,.bool g0,.slice o0 n0 c0,.int .i64 e0,.int .i64 A1.i,.bool g1,.slice o1 n1 c1,.int .i64 e1,.int .i64 A2.i,.bool g2,.slice o2 n2 c2,.int .i64 e2,.int .i64 A3.i,.bool g3,.slice o3 n3 c3,.int .i64 e3] 68)
  have hs:W0.heap.size < (W0.alloc (.cells #[.int .i64 A0.i,.bool g0,.slice o0 n0 c0,.int .i64 e0,.int .i64 A1.i,.bool g1,.slice o1 n1 c1,.int .i64 e1,.int .i64 A2.i,.bool g2,.slice o2 n2 c2,.int .i64 e2,.int .i64 A3.i,.bool g3,.slice o3 n3 c3,.int .i64 e3] 68)).heap.size:=by rw [size_alloc]; omega
  have hE:Ends (W0.alloc (.cells #[.int .i64 A0.i,.bool g0,.slice o0 n0 c0,.int .i64 e0,.int .i64 A1.i,.bool g1,.slice o1 n1 c1,.int .i64 e1,.int .i64 A2.i,.bool g2,.slice o2 n2 c2,.int .i64 e2,.int .i64 A3.i,.bool g3,.slice o3 n3 c3,.int .i64 e3] 68)) W0.heap.size 0 4 (fun k=>match k with | 0=>(⟨A0.i,g0,o0,n0,c0,e0⟩:EndR) | 1=>(⟨A1.i,g1,o1,n1,c1,e1⟩:EndR) | 2=>(⟨A2.i,g2,o2,n2,c2,e2⟩:EndR) | _=>(⟨A3.i,g3,o3,n3,c3,e3⟩:EndR)) (fun k=>match k with | 0=>A0 | 1=>A1 | 2=>A2 | _=>A3):=⟨hs,fun k hk=>match k,hk with
    | 0,_=>⟨blkC hk0 0 rfl,blkC hk0 1 rfl,blkC hk0 2 rfl,blkC hk0 3 rfl⟩
    | 1,_=>⟨blkC hk0 4 rfl,blkC hk0 5 rfl,blkC hk0 6 rfl,blkC hk0 7 rfl⟩
    | 2,_=>⟨blkC hk0 8 rfl,blkC hk0 9 rfl,blkC hk0 10 rfl,blkC hk0 11 rfl⟩
    | 3,_=>⟨blkC hk0 12 rfl,blkC hk0 13 rfl,blkC hk0 14 rfl,blkC hk0 15 rfl⟩,fun k hk=>match k,hk with
    | 0,_=>⟨_,_,_,_,_,rfl,d0.keeps hb⟩
    | 1,_=>⟨_,_,_,_,_,rfl,d1.keeps hb⟩
    | 2,_=>⟨_,_,_,_,_,rfl,d2.keeps hb⟩
    | 3,_=>⟨_,_,_,_,_,rfl,d3.keeps hb⟩⟩
  exact e8outer hE (by omega) (by omega) (by omega) hK (fun k hk=>match k,hk with
    | 0,_=>b0
    | 1,_=>b1
    | 2,_=>b2
    | 3,_=>b3) (fun k hk=>match k,hk with
    | 0,_=>k0
    | 1,_=>k1
    | 2,_=>k2
    | 3,_=>k3)
theorem c44_set {p q u v g o:Nat} {x0 x1 x2 x3 x4 x5 x6 x7 x8 x9 x10 x11 x12 x13 x14 x15 val:Value} {W:World} (hp:p ≠ g) (hq:q ≠ g) (hu:u ≠ g) (hv:v ≠ g) (h:W.cell? ⟨p,0,none⟩=some x0∧W.cell? ⟨p,1,none⟩=some x1∧W.cell? ⟨p,2,none⟩=some x2∧W.cell? ⟨p,3,none⟩=some x3∧W.cell? ⟨q,0,none⟩=some x4∧W.cell? ⟨q,1,none⟩=some x5∧W.cell? ⟨q,2,none⟩=some x6∧W.cell? ⟨q,3,none⟩=some x7∧W.cell? ⟨u,0,none⟩=some x8∧W.cell? ⟨u,1,none⟩=some x9∧W.cell? ⟨u,2,none⟩=some x10∧W.cell? ⟨u,3,none⟩=some x11∧W.cell? ⟨v,0,none⟩=some x12∧W.cell? ⟨v,1,none⟩=some x13∧W.cell? ⟨v,2,none⟩=some x14∧W.cell? ⟨v,3,none⟩=some x15) :
    (W.setCell ⟨g,o,none⟩ val).cell? ⟨p,0,none⟩=some x0∧(W.setCell ⟨g,o,none⟩ val).cell? ⟨p,1,none⟩=some x1∧(W.setCell ⟨g,o,none⟩ val).cell? ⟨p,2,none⟩=some x2∧(W.setCell ⟨g,o,none⟩ val).cell? ⟨p,3,none⟩=some x3∧(W.setCell ⟨g,o,none⟩ val).cell? ⟨q,0,none⟩=some x4∧(W.setCell ⟨g,o,none⟩ val).cell? ⟨q,1,none⟩=some x5∧(W.setCell ⟨g,o,none⟩ val).cell? ⟨q,2,none⟩=some x6∧(W.setCell ⟨g,o,none⟩ val).cell? ⟨q,3,none⟩=some x7∧(W.setCell ⟨g,o,none⟩ val).cell? ⟨u,0,none⟩=some x8∧(W.setCell ⟨g,o,none⟩ val).cell? ⟨u,1,none⟩=some x9∧(W.setCell ⟨g,o,none⟩ val).cell? ⟨u,2,none⟩=some x10∧(W.setCell ⟨g,o,none⟩ val).cell? ⟨u,3,none⟩=some x11∧(W.setCell ⟨g,o,none⟩ val).cell? ⟨v,0,none⟩=some x12∧(W.setCell ⟨g,o,none⟩ val).cell? ⟨v,1,none⟩=some x13∧(W.setCell ⟨g,o,none⟩ val).cell? ⟨v,2,none⟩=some x14∧(W.setCell ⟨g,o,none⟩ val).cell? ⟨v,3,none⟩=some x15:=by
  have hp':∀ k:Nat,(W.setCell ⟨g,o,none⟩ val).cell? ⟨p,k,none⟩=W.cell? ⟨p,k,none⟩:=fun k=>World.cell?_setCell_far _ _ _ _ (Ne.symm hp)
  have hq':∀ k:Nat,(W.setCell ⟨g,o,none⟩ val).cell? ⟨q,k,none⟩=W.cell? ⟨q,k,none⟩:=fun k=>World.cell?_setCell_far _ _ _ _ (Ne.symm hq)
  have hu':∀ k:Nat,(W.setCell ⟨g,o,none⟩ val).cell? ⟨u,k,none⟩=W.cell? ⟨u,k,none⟩:=fun k=>World.cell?_setCell_far _ _ _ _ (Ne.symm hu)
  have hv':∀ k:Nat,(W.setCell ⟨g,o,none⟩ val).cell? ⟨v,k,none⟩=W.cell? ⟨v,k,none⟩:=fun k=>World.cell?_setCell_far _ _ _ _ (Ne.symm hv)
  rw [hp',hp',hp',hp',hq',hq',hq',hq',hu',hu',hu',hu',hv',hv',hv',hv']
  exact h
theorem times_bd {p q:Int} (hp:nn p) (hq:nn q):Bd 8000 (eTimes (eOf p) (eOf q)).v:=by
  by_cases i:(eOf p).i=0
  . by_cases j:(eOf q).i=0
    . rw [times_fin i j]
      have fp:¬ rg p=9218868437227405312:=fun k=>by rw [of_inf k] at i; exact infs k i
      have fq:¬ rg q=9218868437227405312:=fun k=>by rw [of_inf k] at j; exact infs k j
      rw [of_fin fp,of_fin fq]
      obtain ⟨_,_,_,_,hC⟩:=prV_parts hp.1 hq.1 (rg_pat0 hp fp) (rg_pat0 hq fq)
      show Bd 8000 (mulS (patV p) (patV q))
      rw [<- mulS_of hC]
      exact (patV_bd' p).mul (patV_bd' q) hC (by omega)
    . rw [times_infr j]; exact bd_z.up (by omega) (by omega)
  . rw [times_infl i]; exact bd_z.up (by omega) (by omega)
theorem tm_pick (a b c d:En):(∃ x y,(x=a∨x=b)∧(y=c∨y=d)∧eTmLo a b c d=eTimes x y)∧(∃ x y,(x=a∨x=b)∧(y=c∨y=d)∧eTmHi a b c d=eTimes x y):=by
  refine ⟨?_,?_⟩
  . unfold eTmLo
    rcases (eMin_le (eMin (eMin (eTimes a c) (eTimes a d)) (eTimes b c)) (eTimes b d)).2.2 with q | q
    . rw [q]
      rcases (eMin_le (eMin (eTimes a c) (eTimes a d)) (eTimes b c)).2.2 with q | q
      . rw [q]
        rcases (eMin_le (eTimes a c) (eTimes a d)).2.2 with q | q
        . exact ⟨a,c,.inl rfl,.inl rfl,q⟩
        . exact ⟨a,d,.inl rfl,.inr rfl,q⟩
      . exact ⟨b,c,.inr rfl,.inl rfl,q⟩
    . exact ⟨b,d,.inr rfl,.inr rfl,q⟩
  . unfold eTmHi
    rcases (eMax_le (eMax (eMax (eTimes a c) (eTimes a d)) (eTimes b c)) (eTimes b d)).2.2 with q | q
    . rw [q]
      rcases (eMax_le (eMax (eTimes a c) (eTimes a d)) (eTimes b c)).2.2 with q | q
      . rw [q]
        rcases (eMax_le (eTimes a c) (eTimes a d)).2.2 with q | q
        . exact ⟨a,c,.inl rfl,.inl rfl,q⟩
        . exact ⟨a,d,.inl rfl,.inr rfl,q⟩
      . exact ⟨b,c,.inr rfl,.inl rfl,q⟩
    . exact ⟨b,d,.inr rfl,.inr rfl,q⟩
theorem tm_bd {a b c d:Int} (na:nn a) (nb:nn b) (nc:nn c) (nd:nn d):Bd 8000 (eTmLo (eOf a) (eOf b) (eOf c) (eOf d)).v∧Bd 8000 (eTmHi (eOf a) (eOf b) (eOf c) (eOf d)).v:=by
  obtain ⟨⟨x,y,hx,hy,e1⟩,⟨x',y',hx',hy',e2⟩⟩:=tm_pick (eOf a) (eOf b) (eOf c) (eOf d)
  refine ⟨?_,?_⟩
  . rw [e1]
    rcases hx with rfl | rfl <;> rcases hy with rfl | rfl
    . exact times_bd na nc
    . exact times_bd na nd
    . exact times_bd nb nc
    . exact times_bd nb nd
  . rw [e2]
    rcases hx' with rfl | rfl <;> rcases hy' with rfl | rfl
    . exact times_bd na nc
    . exact times_bd na nd
    . exact times_bd nb nc
    . exact times_bd nb nd
set_option maxRecDepth 100000 in
set_option maxHeartbeats 4000000 in
theorem r8Times {a b c d:Int} (na:nn a) (nb:nn b) (nc:nn c) (nd:nn d) (w:World) :
    Calls Tryz.prog 34 #[.agg #[.int .i64 a,.int .i64 b],.agg #[.int .i64 c,.int .i64 d]] w fun e w'=>e=.returned (.agg #[.int .i64 (eLo (eTmLo (eOf a) (eOf b) (eOf c) (eOf d))),.int .i64 (eHi (eTmHi (eOf a) (eOf b) (eOf c) (eOf d)))])∧Below w.heap.size w w':=by
  have T:Hid (∀ (u v:Value) W,EA W u (eTmLo (eOf a) (eOf b) (eOf c) (eOf d))->EA W v (eTmHi (eOf a) (eOf b) (eOf c) (eOf d))->Calls Tryz.prog 50 #[u,v] W fun r w'=>r=.returned (.agg #[.int .i64 (eLo (eTmLo (eOf a) (eOf b) (eOf c) (eOf d))),.int .i64 (eHi (eTmHi (eOf a) (eOf b) (eOf c) (eOf d)))])∧Below W.heap.size W w'):=fun u v W hu hv=>e8span hu.ev hv.ev (fun _=>(tm_bd na nb nc nd).1.ok (by omega)) (fun _=>(tm_bd na nb nc nd).2.ok (by omega))
  have b1:=times_bd na nc
  have b2:=times_bd na nd
  have b3:=times_bd nb nc
  have b4:=times_bd nb nd
  have k1:=times_ok (eOf_ok a) (eOf_ok c)
  have k2:=times_ok (eOf_ok a) (eOf_ok d)
  have k3:=times_ok (eOf_ok b) (eOf_ok c)
  have k4:=times_ok (eOf_ok b) (eOf_ok d)
  unfold eTmLo eTmHi at T
  unfold eTmLo eTmHi
  generalize eLo (eMin (eMin (eMin (eTimes (eOf a) (eOf c)) (eTimes (eOf a) (eOf d))) (eTimes (eOf b) (eOf c))) (eTimes (eOf b) (eOf d)))=X at *
  generalize eHi (eMax (eMax (eMax (eTimes (eOf a) (eOf c)) (eTimes (eOf a) (eOf d))) (eTimes (eOf b) (eOf c))) (eTimes (eOf b) (eOf d)))=Y at *
  have hb:=bel_refl w
  go_enter Tryz.func34,Tryz.ntmps34
  have s_k:(w.alloc (.cells #[.int .i64 a,.int .i64 b] 23)).heap[w.heap.size]?=some (.cells #[.int .i64 a,.int .i64 b] 23):=heap_new (.cells #[.int .i64 a,.int .i64 b] 23) (by simp only [size_alloc])
  have hb:=bel_trans hb (bel_alloc w (.cells #[.int .i64 a,.int .i64 b] 23))
  have s_k:=heap_past (.cells #[.int .i64 c,.int .i64 d] 23) s_k
  have t_k:((w.alloc (.cells #[.int .i64 a,.int .i64 b] 23)).alloc (.cells #[.int .i64 c,.int .i64 d] 23)).heap[w.heap.size + 1]?=some (.cells #[.int .i64 c,.int .i64 d] 23):=heap_new (.cells #[.int .i64 c,.int .i64 d] 23) (by simp only [size_alloc])
  have hb:=bel_trans hb (bel_alloc (w.alloc (.cells #[.int .i64 a,.int .i64 b] 23)) (.cells #[.int .i64 c,.int .i64 d] 23))
  have s_k:=heap_past (.cells #[.int .i64 0,.int .i64 0] 23) s_k
  have t_k:=heap_past (.cells #[.int .i64 0,.int .i64 0] 23) t_k
  have r_k:(((w.alloc (.cells #[.int .i64 a,.int .i64 b] 23)).alloc (.cells #[.int .i64 c,.int .i64 d] 23)).alloc (.cells #[.int .i64 0,.int .i64 0] 23)).heap[w.heap.size + 1 + 1]?=some (.cells #[.int .i64 0,.int .i64 0] 23):=heap_new (.cells #[.int .i64 0,.int .i64 0] 23) (by simp only [size_alloc])
  have hb:=bel_trans hb (bel_alloc ((w.alloc (.cells #[.int .i64 a,.int .i64 b] 23)).alloc (.cells #[.int .i64 c,.int .i64 d] 23)) (.cells #[.int .i64 0,.int .i64 0] 23))
  have f_s0:=blkC s_k 0 rfl
  have f_s1:=blkC s_k 1 rfl
  go_wp2_with fail
  clear f_s0 f_s1
  generalize (((w.alloc (.cells #[.int .i64 a,.int .i64 b] 23)).alloc (.cells #[.int .i64 c,.int .i64 d] 23)).alloc (.cells #[.int .i64 0,.int .i64 0] 23))=x1 at s_k t_k r_k hb ⊢
  refine (e8of na _).mono ?_
  rintro _ y2 ⟨z,rfl,E,hw⟩
  obtain ⟨p_g,p_o,p_n,p_c,p_e,rfl,p_D⟩:=E
  have s_k:=blk_up hw s_k
  have t_k:=blk_up hw t_k
  have r_k:=blk_up hw r_k
  have hb:=bel_trans hb hw
  have s_k:=heap_past (.cells #[.int .i64 (eOf a).i,.bool p_g,.slice p_o p_n p_c,.int .i64 p_e] 68) s_k
  have t_k:=heap_past (.cells #[.int .i64 (eOf a).i,.bool p_g,.slice p_o p_n p_c,.int .i64 p_e] 68) t_k
  have r_k:=heap_past (.cells #[.int .i64 (eOf a).i,.bool p_g,.slice p_o p_n p_c,.int .i64 p_e] 68) r_k
  have p_k:(y2.alloc (.cells #[.int .i64 (eOf a).i,.bool p_g,.slice p_o p_n p_c,.int .i64 p_e] 68)).heap[y2.heap.size]?=some (.cells #[.int .i64 (eOf a).i,.bool p_g,.slice p_o p_n p_c,.int .i64 p_e] 68):=heap_new (.cells #[.int .i64 (eOf a).i,.bool p_g,.slice p_o p_n p_c,.int .i64 p_e] 68) (by simp only [size_alloc])
  have p_D:=p_D.keeps (bel_alloc y2 (.cells #[.int .i64 (eOf a).i,.bool p_g,.slice p_o p_n p_c,.int .i64 p_e] 68))
  have hb:=bel_trans hb (bel_alloc y2 (.cells #[.int .i64 (eOf a).i,.bool p_g,.slice p_o p_n p_c,.int .i64 p_e] 68))
  have f_s0:=blkC s_k 0 rfl
  have f_s1:=blkC s_k 1 rfl
  go_wp2_with fail
  clear f_s0 f_s1
  generalize (y2.alloc (.cells #[.int .i64 (eOf a).i,.bool p_g,.slice p_o p_n p_c,.int .i64 p_e] 68))=x3 at s_k t_k r_k p_k p_D hb ⊢
  refine (e8of nb _).mono ?_
  rintro _ y4 ⟨z,rfl,E,hw⟩
  obtain ⟨q_g,q_o,q_n,q_c,q_e,rfl,q_D⟩:=E
  have s_k:=blk_up hw s_k
  have t_k:=blk_up hw t_k
  have r_k:=blk_up hw r_k
  have p_k:=blk_up hw p_k
  have p_D:=p_D.keeps hw
  have hb:=bel_trans hb hw
  have s_k:=heap_past (.cells #[.int .i64 (eOf b).i,.bool q_g,.slice q_o q_n q_c,.int .i64 q_e] 68) s_k
  have t_k:=heap_past (.cells #[.int .i64 (eOf b).i,.bool q_g,.slice q_o q_n q_c,.int .i64 q_e] 68) t_k
  have r_k:=heap_past (.cells #[.int .i64 (eOf b).i,.bool q_g,.slice q_o q_n q_c,.int .i64 q_e] 68) r_k
  have p_k:=heap_past (.cells #[.int .i64 (eOf b).i,.bool q_g,.slice q_o q_n q_c,.int .i64 q_e] 68) p_k
  have q_k:(y4.alloc (.cells #[.int .i64 (eOf b).i,.bool q_g,.slice q_o q_n q_c,.int .i64 q_e] 68)).heap[y4.heap.size]?=some (.cells #[.int .i64 (eOf b).i,.bool q_g,.slice q_o q_n q_c,.int .i64 q_e] 68):=heap_new (.cells #[.int .i64 (eOf b).i,.bool q_g,.slice q_o q_n q_c,.int .i64 q_e] 68) (by simp only [size_alloc])
  have p_D:=p_D.keeps (bel_alloc y4 (.cells #[.int .i64 (eOf b).i,.bool q_g,.slice q_o q_n q_c,.int .i64 q_e] 68))
  have q_D:=q_D.keeps (bel_alloc y4 (.cells #[.int .i64 (eOf b).i,.bool q_g,.slice q_o q_n q_c,.int .i64 q_e] 68))
  have hb:=bel_trans hb (bel_alloc y4 (.cells #[.int .i64 (eOf b).i,.bool q_g,.slice q_o q_n q_c,.int .i64 q_e] 68))
  have f_t0:=blkC t_k 0 rfl
  have f_t1:=blkC t_k 1 rfl
  go_wp2_with fail
  clear f_t0 f_t1
  generalize (y4.alloc (.cells #[.int .i64 (eOf b).i,.bool q_g,.slice q_o q_n q_c,.int .i64 q_e] 68))=x5 at s_k t_k r_k p_k q_k p_D q_D hb ⊢
  refine (e8of nc _).mono ?_
  rintro _ y6 ⟨z,rfl,E,hw⟩
  obtain ⟨u_g,u_o,u_n,u_c,u_e,rfl,u_D⟩:=E
  have s_k:=blk_up hw s_k
  have t_k:=blk_up hw t_k
  have r_k:=blk_up hw r_k
  have p_k:=blk_up hw p_k
  have q_k:=blk_up hw q_k
  have p_D:=p_D.keeps hw
  have q_D:=q_D.keeps hw
  have hb:=bel_trans hb hw
  have s_k:=heap_past (.cells #[.int .i64 (eOf c).i,.bool u_g,.slice u_o u_n u_c,.int .i64 u_e] 68) s_k
  have t_k:=heap_past (.cells #[.int .i64 (eOf c).i,.bool u_g,.slice u_o u_n u_c,.int .i64 u_e] 68) t_k
  have r_k:=heap_past (.cells #[.int .i64 (eOf c).i,.bool u_g,.slice u_o u_n u_c,.int .i64 u_e] 68) r_k
  have p_k:=heap_past (.cells #[.int .i64 (eOf c).i,.bool u_g,.slice u_o u_n u_c,.int .i64 u_e] 68) p_k
  have q_k:=heap_past (.cells #[.int .i64 (eOf c).i,.bool u_g,.slice u_o u_n u_c,.int .i64 u_e] 68) q_k
  have u_k:(y6.alloc (.cells #[.int .i64 (eOf c).i,.bool u_g,.slice u_o u_n u_c,.int .i64 u_e] 68)).heap[y6.heap.size]?=some (.cells #[.int .i64 (eOf c).i,.bool u_g,.slice u_o u_n u_c,.int .i64 u_e] 68):=heap_new (.cells #[.int .i64 (eOf c).i,.bool u_g,.slice u_o u_n u_c,.int .i64 u_e] 68) (by simp only [size_alloc])
  have p_D:=p_D.keeps (bel_alloc y6 (.cells #[.int .i64 (eOf c).i,.bool u_g,.slice u_o u_n u_c,.int .i64 u_e] 68))
  have q_D:=q_D.keeps (bel_alloc y6 (.cells #[.int .i64 (eOf c).i,.bool u_g,.slice u_o u_n u_c,.int .i64 u_e] 68))
  have u_D:=u_D.keeps (bel_alloc y6 (.cells #[.int .i64 (eOf c).i,.bool u_g,.slice u_o u_n u_c,.int .i64 u_e] 68))
  have hb:=bel_trans hb (bel_alloc y6 (.cells #[.int .i64 (eOf c).i,.bool u_g,.slice u_o u_n u_c,.int .i64 u_e] 68))
  have f_t0:=blkC t_k 0 rfl
  have f_t1:=blkC t_k 1 rfl
  go_wp2_with fail
  clear f_t0 f_t1
  generalize (y6.alloc (.cells #[.int .i64 (eOf c).i,.bool u_g,.slice u_o u_n u_c,.int .i64 u_e] 68))=x7 at s_k t_k r_k p_k q_k u_k p_D q_D u_D hb ⊢
  refine (e8of nd _).mono ?_
  rintro _ y8 ⟨z,rfl,E,hw⟩
  obtain ⟨v_g,v_o,v_n,v_c,v_e,rfl,v_D⟩:=E
  have s_k:=blk_up hw s_k
  have t_k:=blk_up hw t_k
  have r_k:=blk_up hw r_k
  have p_k:=blk_up hw p_k
  have q_k:=blk_up hw q_k
  have u_k:=blk_up hw u_k
  have p_D:=p_D.keeps hw
  have q_D:=q_D.keeps hw
  have u_D:=u_D.keeps hw
  have hb:=bel_trans hb hw
  have s_k:=heap_past (.cells #[.int .i64 (eOf d).i,.bool v_g,.slice v_o v_n v_c,.int .i64 v_e] 68) s_k
  have t_k:=heap_past (.cells #[.int .i64 (eOf d).i,.bool v_g,.slice v_o v_n v_c,.int .i64 v_e] 68) t_k
  have r_k:=heap_past (.cells #[.int .i64 (eOf d).i,.bool v_g,.slice v_o v_n v_c,.int .i64 v_e] 68) r_k
  have p_k:=heap_past (.cells #[.int .i64 (eOf d).i,.bool v_g,.slice v_o v_n v_c,.int .i64 v_e] 68) p_k
  have q_k:=heap_past (.cells #[.int .i64 (eOf d).i,.bool v_g,.slice v_o v_n v_c,.int .i64 v_e] 68) q_k
  have u_k:=heap_past (.cells #[.int .i64 (eOf d).i,.bool v_g,.slice v_o v_n v_c,.int .i64 v_e] 68) u_k
  have v_k:(y8.alloc (.cells #[.int .i64 (eOf d).i,.bool v_g,.slice v_o v_n v_c,.int .i64 v_e] 68)).heap[y8.heap.size]?=some (.cells #[.int .i64 (eOf d).i,.bool v_g,.slice v_o v_n v_c,.int .i64 v_e] 68):=heap_new (.cells #[.int .i64 (eOf d).i,.bool v_g,.slice v_o v_n v_c,.int .i64 v_e] 68) (by simp only [size_alloc])
  have p_D:=p_D.keeps (bel_alloc y8 (.cells #[.int .i64 (eOf d).i,.bool v_g,.slice v_o v_n v_c,.int .i64 v_e] 68))
  have q_D:=q_D.keeps (bel_alloc y8 (.cells #[.int .i64 (eOf d).i,.bool v_g,.slice v_o v_n v_c,.int .i64 v_e] 68))
  have u_D:=u_D.keeps (bel_alloc y8 (.cells #[.int .i64 (eOf d).i,.bool v_g,.slice v_o v_n v_c,.int .i64 v_e] 68))
  have v_D:=v_D.keeps (bel_alloc y8 (.cells #[.int .i64 (eOf d).i,.bool v_g,.slice v_o v_n v_c,.int .i64 v_e] 68))
  have hb:=bel_trans hb (bel_alloc y8 (.cells #[.int .i64 (eOf d).i,.bool v_g,.slice v_o v_n v_c,.int .i64 v_e] 68))
  go_wp2_with fail
  generalize (y8.alloc (.cells #[.int .i64 (eOf d).i,.bool v_g,.slice v_o v_n v_c,.int .i64 v_e] 68))=x9 at s_k t_k r_k p_k q_k u_k v_k p_D q_D u_D v_D hb ⊢
  have KK:∀ W,Below x9.heap.size x9 W->W.cell? ⟨y2.heap.size,0,none⟩=some (.int .i64 (eOf a).i)∧W.cell? ⟨y2.heap.size,1,none⟩=some (.bool p_g)∧W.cell? ⟨y2.heap.size,2,none⟩=some (.slice p_o p_n p_c)∧W.cell? ⟨y2.heap.size,3,none⟩=some (.int .i64 p_e)∧W.cell? ⟨y4.heap.size,0,none⟩=some (.int .i64 (eOf b).i)∧W.cell? ⟨y4.heap.size,1,none⟩=some (.bool q_g)∧W.cell? ⟨y4.heap.size,2,none⟩=some (.slice q_o q_n q_c)∧W.cell? ⟨y4.heap.size,3,none⟩=some (.int .i64 q_e)∧W.cell? ⟨y6.heap.size,0,none⟩=some (.int .i64 (eOf c).i)∧W.cell? ⟨y6.heap.size,1,none⟩=some (.bool u_g)∧W.cell? ⟨y6.heap.size,2,none⟩=some (.slice u_o u_n u_c)∧W.cell? ⟨y6.heap.size,3,none⟩=some (.int .i64 u_e)∧W.cell? ⟨y8.heap.size,0,none⟩=some (.int .i64 (eOf d).i)∧W.cell? ⟨y8.heap.size,1,none⟩=some (.bool v_g)∧W.cell? ⟨y8.heap.size,2,none⟩=some (.slice v_o v_n v_c)∧W.cell? ⟨y8.heap.size,3,none⟩=some (.int .i64 v_e):=fun W hW=>⟨q_cell (blkC p_k 0 rfl) hW,q_cell (blkC p_k 1 rfl) hW,q_cell (blkC p_k 2 rfl) hW,q_cell (blkC p_k 3 rfl) hW,q_cell (blkC q_k 0 rfl) hW,q_cell (blkC q_k 1 rfl) hW,q_cell (blkC q_k 2 rfl) hW,q_cell (blkC q_k 3 rfl) hW,q_cell (blkC u_k 0 rfl) hW,q_cell (blkC u_k 1 rfl) hW,q_cell (blkC u_k 2 rfl) hW,q_cell (blkC u_k 3 rfl) hW,q_cell (blkC v_k 0 rfl) hW,q_cell (blkC v_k 1 rfl) hW,q_cell (blkC v_k 2 rfl) hW,q_cell (blkC v_k 3 rfl) hW⟩
  have B0:Below x9.heap.size x9 x9.drew:=(bel_refl _).drew
  have T1:Hid (∀ W,Below x9.heap.size x9 W->Calls Tryz.prog 54 #[.agg #[.int .i64 (eOf a).i,.bool p_g,.slice p_o p_n p_c,.int .i64 p_e],.agg #[.int .i64 (eOf c).i,.bool u_g,.slice u_o u_n u_c,.int .i64 u_e]] W fun r w'=>∃ z,r=.returned z∧EA w' z (eTimes (eOf a) (eOf c))∧Below W.heap.size W w'):=fun W hW=>e8times ⟨_,_,_,_,_,rfl,p_D.keeps hW⟩ ⟨_,_,_,_,_,rfl,u_D.keeps hW⟩ (eOf_ok _) (eOf_ok _) (bd_of _) (bd_of _)
  have T2:Hid (∀ W,Below x9.heap.size x9 W->Calls Tryz.prog 54 #[.agg #[.int .i64 (eOf a).i,.bool p_g,.slice p_o p_n p_c,.int .i64 p_e],.agg #[.int .i64 (eOf d).i,.bool v_g,.slice v_o v_n v_c,.int .i64 v_e]] W fun r w'=>∃ z,r=.returned z∧EA w' z (eTimes (eOf a) (eOf d))∧Below W.heap.size W w'):=fun W hW=>e8times ⟨_,_,_,_,_,rfl,p_D.keeps hW⟩ ⟨_,_,_,_,_,rfl,v_D.keeps hW⟩ (eOf_ok _) (eOf_ok _) (bd_of _) (bd_of _)
  have T3:Hid (∀ W,Below x9.heap.size x9 W->Calls Tryz.prog 54 #[.agg #[.int .i64 (eOf b).i,.bool q_g,.slice q_o q_n q_c,.int .i64 q_e],.agg #[.int .i64 (eOf c).i,.bool u_g,.slice u_o u_n u_c,.int .i64 u_e]] W fun r w'=>∃ z,r=.returned z∧EA w' z (eTimes (eOf b) (eOf c))∧Below W.heap.size W w'):=fun W hW=>e8times ⟨_,_,_,_,_,rfl,q_D.keeps hW⟩ ⟨_,_,_,_,_,rfl,u_D.keeps hW⟩ (eOf_ok _) (eOf_ok _) (bd_of _) (bd_of _)
  have T4:Hid (∀ W,Below x9.heap.size x9 W->Calls Tryz.prog 54 #[.agg #[.int .i64 (eOf b).i,.bool q_g,.slice q_o q_n q_c,.int .i64 q_e],.agg #[.int .i64 (eOf d).i,.bool v_g,.slice v_o v_n v_c,.int .i64 v_e]] W fun r w'=>∃ z,r=.returned z∧EA w' z (eTimes (eOf b) (eOf d))∧Below W.heap.size W w'):=fun W hW=>e8times ⟨_,_,_,_,_,rfl,q_D.keeps hW⟩ ⟨_,_,_,_,_,rfl,v_D.keeps hW⟩ (eOf_ok _) (eOf_ok _) (bd_of _) (bd_of _)
  generalize eTimes (eOf a) (eOf c)=M1 at *
  generalize eTimes (eOf a) (eOf d)=M2 at *
  generalize eTimes (eOf b) (eOf c)=M3 at *
  generalize eTimes (eOf b) (eOf d)=M4 at *
  have n_p:y2.heap.size ≠ w.heap.size + 1 + 1:=fun h=>by have q:=p_k; rw [h,r_k] at q; simp at q
  have n_q:y4.heap.size ≠ w.heap.size + 1 + 1:=fun h=>by have q:=q_k; rw [h,r_k] at q; simp at q
  have n_u:y6.heap.size ≠ w.heap.size + 1 + 1:=fun h=>by have q:=u_k; rw [h,r_k] at q; simp at q
  have n_v:y8.heap.size ≠ w.heap.size + 1 + 1:=fun h=>by have q:=v_k; rw [h,r_k] at q; simp at q
  go_region_held3 (fun W=>W.cell? ⟨y2.heap.size,0,none⟩=some (.int .i64 (eOf a).i)∧W.cell? ⟨y2.heap.size,1,none⟩=some (.bool p_g)∧W.cell? ⟨y2.heap.size,2,none⟩=some (.slice p_o p_n p_c)∧W.cell? ⟨y2.heap.size,3,none⟩=some (.int .i64 p_e)∧W.cell? ⟨y4.heap.size,0,none⟩=some (.int .i64 (eOf b).i)∧W.cell? ⟨y4.heap.size,1,none⟩=some (.bool q_g)∧W.cell? ⟨y4.heap.size,2,none⟩=some (.slice q_o q_n q_c)∧W.cell? ⟨y4.heap.size,3,none⟩=some (.int .i64 q_e)∧W.cell? ⟨y6.heap.size,0,none⟩=some (.int .i64 (eOf c).i)∧W.cell? ⟨y6.heap.size,1,none⟩=some (.bool u_g)∧W.cell? ⟨y6.heap.size,2,none⟩=some (.slice u_o u_n u_c)∧W.cell? ⟨y6.heap.size,3,none⟩=some (.int .i64 u_e)∧W.cell? ⟨y8.heap.size,0,none⟩=some (.int .i64 (eOf d).i)∧W.cell? ⟨y8.heap.size,1,none⟩=some (.bool v_g)∧W.cell? ⟨y8.heap.size,2,none⟩=some (.slice v_o v_n v_c)∧W.cell? ⟨y8.heap.size,3,none⟩=some (.int .i64 v_e))
    (first | assumption | exact KK _ B0 | exact KK _ B1 | exact KK _ B2 | exact KK _ B3 | exact KK _ B4 | exact KK _ B5 | exact KK _ B6 | exact KK _ (bel_trans B4 (bel_alloc _ _)) | (refine c44_set n_p n_q n_u n_v (c44_set n_p n_q n_u n_v ?_); exact KK _ B6) | fail)
    (first
      | (go_at_call 50; have _t:=hs5; refine (T.out _ _ _ E5 F5).mono ?_; rintro _ y_6 ⟨rfl,hs6⟩; have B6:=bel_trans B5 hs6; have r_k:=blk_up B6 r_k; have f_r0:=blkC r_k 0 rfl; have f_r1:=blkC r_k 1 rfl; have z_r0:=blkF r_k 0; have z_r1:=blkF r_k 1)
      | (go_at_call 55; have _t:=hs4; refine (outer4 (m1_D.keeps (bel_trans hs2 (bel_trans hs3 hs4))) (m2_D.keeps (bel_trans hs3 hs4)) (m3_D.keeps hs4) m4_D (K:=8000) (by omega) b1 b2 b3 b4 k1 k2 k3 k4).mono ?_; rintro _ y_5 ⟨z5,u5,rfl,E5,F5,hs5⟩; have B5:=bel_trans (bel_trans B4 (bel_alloc _ _)) hs5)
      | (go_at_call 54; have _t:=hs3; refine (T4.out _ B3).mono ?_; rintro _ y_4 ⟨z,rfl,⟨m4_g,m4_o,m4_n,m4_c,m4_e,rfl,m4_D⟩,hs4⟩; have B4:=bel_trans B3 hs4)
      | (go_at_call 54; have _t:=hs2; refine (T3.out _ B2).mono ?_; rintro _ y_3 ⟨z,rfl,⟨m3_g,m3_o,m3_n,m3_c,m3_e,rfl,m3_D⟩,hs3⟩; have B3:=bel_trans B2 hs3)
      | (go_at_call 54; have _t:=hs1; refine (T2.out _ B1).mono ?_; rintro _ y_2 ⟨z,rfl,⟨m2_g,m2_o,m2_n,m2_c,m2_e,rfl,m2_D⟩,hs2⟩; have B2:=bel_trans B1 hs2)
      | (go_at_call 54; refine (T1.out _ B0).mono ?_; rintro _ y_1 ⟨z,rfl,⟨m1_g,m1_o,m1_n,m1_c,m1_e,rfl,m1_D⟩,hs1⟩; have B1:=bel_trans B0 hs1))
  have hb:=bel_trans hb B6
  have f_r0:=blkC r_k 0 rfl
  have z_r0:=blkF r_k 0
  have d_r0:=q_heap_set r_k 0 (.int .i64 X)
  have f_r1:=blkC r_k 1 rfl
  have z_r1:=blkF r_k 1
  have d_r1:=q_heap_set d_r0 1 (.int .i64 Y)
  have e_r0:=blkC d_r1 0 rfl
  have e_r1:=blkC d_r1 1 rfl
  have hbe:=((hb.setCell (p:=⟨w.heap.size + 1 + 1,0,none⟩) (show w.heap.size <= w.heap.size + 1 + 1 by omega) (.int .i64 X)).setCell (p:=⟨w.heap.size + 1 + 1,1,none⟩) (show w.heap.size <= w.heap.size + 1 + 1 by omega) (.int .i64 Y))
  clear r_k d_r0 d_r1
  go_wp2
  refine bodyPost_ret (v:=.agg #[.int .i64 X,.int .i64 Y]) (by simp [results,Tryz.results34,go_sem,e_r0,e_r1]) rfl ⟨rfl,hbe⟩
theorem far4_blk {W:World} {g g':Nat} {X:Obj} {x0 x1 x2 x3:Value} (hn:g' ≠ g) (h:W.heap[g']?=some X):((((W.setCell ⟨g,0,none⟩ x0).setCell ⟨g,1,none⟩ x1).setCell ⟨g,2,none⟩ x2).setCell ⟨g,3,none⟩ x3).heap[g']?=some X:=blk_far4 h hn _ _ _ _
theorem set4_blk {W:World} {g:Nat} {a b c d x0 x1 x2 x3:Value} (h:W.heap[g]?=some (.cells #[a,b,c,d] 68 (0,0))):((((W.setCell ⟨g,0,none⟩ x0).setCell ⟨g,1,none⟩ x1).setCell ⟨g,2,none⟩ x2).setCell ⟨g,3,none⟩ x3).heap[g]?=some (.cells #[x0,x1,x2,x3] 68 (0,0)):=blk_set4 h _ _ _ _
theorem heap_c3 (w:World) (a b c:Obj):(((w.alloc a).alloc b).alloc c).heap[w.heap.size + 1 + 1]?=some c:=h3_2 w a b c
theorem outer2K {W0 W:World} {b:Nat} (hbW:b=W0.heap.size) {A0 A1:En} {g0:Bool} {o0:Option Addr} {n0 c0:Nat} {e0:Int} {g1:Bool} {o1:Option Addr} {n1 c1:Nat} {e1:Int} (d0:DAn 0 W0 A0.v (.agg #[.bool g0,.slice o0 n0 c0,.int .i64 e0])) (d1:DAn 0 W0 A1.v (.agg #[.bool g1,.slice o1 n1 c1,.int .i64 e1])) {K:Nat} (hK:K <= 28000) (b0:Bd K A0.v) (b1:Bd K A1.v) (k0:A0.ok) (k1:A1.ok)
    (hW:Below (W0.alloc (.cells #[.int .i64 A0.i,.bool g0,.slice o0 n0 c0,.int .i64 e0,.int .i64 A1.i,.bool g1,.slice o1 n1 c1,.int .i64 e1] 68)).heap.size (W0.alloc (.cells #[.int .i64 A0.i,.bool g0,.slice o0 n0 c0,.int .i64 e0,.int .i64 A1.i,.bool g1,.slice o1 n1 c1,.int .i64 e1] 68)) W) :
    Calls Tryz.prog 55 #[.slice (some ⟨b,0,none⟩) 2 2] W fun x w'=>∃ v u,x=.returned (.tuple #[v,u])∧EA w' v (eMin A0 A1)∧EA w' u (eMax A0 A1)∧Below W.heap.size W w':=by
  subst hbW
  have hb:=bel_alloc W0 (.cells #[.int .i64 A0.i,.bool g0,.slice o0 n0 c0,.int .i64 e0,.int .i64 A1.i,.bool g1,.slice o1 n1 c1,.int .i64 e1] 68)
  have hk0:=heap_a1 W0 (.cells #[.int .i64 A0.i,.bool g0,.slice o0 n0 c0,.int .i64 e0,.int .i64 A1.i,.bool g1,.slice o1 n1 c1,.int .i64 e1] 68)
  have hs:W0.heap.size < (W0.alloc (.cells #[.int .i64 A0.i,.bool g0,.slice o0 n0 c0,.int .i64 e0,.int .i64 A1.i,.bool g1,.slice o1 n1 c1,.int .i64 e1] 68)).heap.size:=by rw [size_alloc]; omega
  have hE:Ends (W0.alloc (.cells #[.int .i64 A0.i,.bool g0,.slice o0 n0 c0,.int .i64 e0,.int .i64 A1.i,.bool g1,.slice o1 n1 c1,.int .i64 e1] 68)) W0.heap.size 0 2 (fun k=>match k with | 0=>(⟨A0.i,g0,o0,n0,c0,e0⟩:EndR) | _=>(⟨A1.i,g1,o1,n1,c1,e1⟩:EndR)) (fun k=>match k with | 0=>A0 | _=>A1):=⟨hs,fun k hk=>match k,hk with
    | 0,_=>⟨blkC hk0 0 rfl,blkC hk0 1 rfl,blkC hk0 2 rfl,blkC hk0 3 rfl⟩
    | 1,_=>⟨blkC hk0 4 rfl,blkC hk0 5 rfl,blkC hk0 6 rfl,blkC hk0 7 rfl⟩,fun k hk=>match k,hk with
    | 0,_=>⟨_,_,_,_,_,rfl,d0.keeps hb⟩
    | 1,_=>⟨_,_,_,_,_,rfl,d1.keeps hb⟩⟩
  exact e8outer (hE.keeps hW) (by omega) (by omega) (by omega) hK (fun k hk=>match k,hk with
    | 0,_=>b0
    | 1,_=>b1) (fun k hk=>match k,hk with
    | 0,_=>k0
    | 1,_=>k1)
theorem dan_set4 {B:Nat} {W:World} {V:Int} {v:Value} (hv:DAn B W V v) {g:Nat} {xs:Array Value} {z:Nat × Nat} (hg:W.heap[g]?=some (.cells xs 68 z)) (x0 x1 x2 x3:Value):DAn B ((((W.setCell ⟨g,0,none⟩ x0).setCell ⟨g,1,none⟩ x1).setCell ⟨g,2,none⟩ x2).setCell ⟨g,3,none⟩ x3) V v :=
  hv.of_blocks fun g' cur z' h=>by
    have hn:g' ≠ g:=fun e=>by rw [e,hg] at h; simp at h
    rw [heap_setCell_other _ ⟨g,_,none⟩ g' _ hn,heap_setCell_other _ ⟨g,_,none⟩ g' _ hn,heap_setCell_other _ ⟨g,_,none⟩ g' _ hn,heap_setCell_other _ ⟨g,_,none⟩ g' _ hn]
def Lf (x X:World) (g5 g6:Nat) (A C:En) (m_g:Bool) (m_o:Option Addr) (m_n m_c:Nat) (m_e:Int) (h_g:Bool) (h_o:Option Addr) (h_n h_c:Nat) (h_e:Int):Prop:=X.heap[g5]?=some (.cells #[.int .i64 A.i,.bool m_g,.slice m_o m_n m_c,.int .i64 m_e] 68 (0,0))∧X.heap[g6]?=some (.cells #[.int .i64 C.i,.bool h_g,.slice h_o h_n h_c,.int .i64 h_e] 68 (0,0))∧DAn 0 X A.v (.agg #[.bool m_g,.slice m_o m_n m_c,.int .i64 m_e])∧DAn 0 X C.v (.agg #[.bool h_g,.slice h_o h_n h_c,.int .i64 h_e])∧Below x.heap.size x X
theorem lf1 {x y:World} {A C:En} {m_g:Bool} {m_o:Option Addr} {m_n m_c:Nat} {m_e:Int} {h_g:Bool} {h_o:Option Addr} {h_n h_c:Nat} {h_e:Int} (B:Below x.heap.size x y) (mD:DAn 0 y A.v (.agg #[.bool m_g,.slice m_o m_n m_c,.int .i64 m_e])) (hD:DAn 0 y C.v (.agg #[.bool h_g,.slice h_o h_n h_c,.int .i64 h_e])):Lf x ((y.alloc (.cells #[.int .i64 A.i,.bool m_g,.slice m_o m_n m_c,.int .i64 m_e] 68)).alloc (.cells #[.int .i64 C.i,.bool h_g,.slice h_o h_n h_c,.int .i64 h_e] 68)) y.heap.size (y.heap.size + 1) A C m_g m_o m_n m_c m_e h_g h_o h_n h_c h_e:=⟨heap_a2 _ _ _,heap_b2 _ _ _,mD.keeps (bel_alloc2 _ _ _),hD.keeps (bel_alloc2 _ _ _),al1 (al1 B _) _⟩
theorem lf2 {x y:World} {A C:En} {m_g:Bool} {m_o:Option Addr} {m_n m_c:Nat} {m_e:Int} {h_g:Bool} {h_o:Option Addr} {h_n h_c:Nat} {h_e:Int} (B:Below x.heap.size x y) (mD:DAn 0 y A.v (.agg #[.bool m_g,.slice m_o m_n m_c,.int .i64 m_e])) (hD:DAn 0 y C.v (.agg #[.bool h_g,.slice h_o h_n h_c,.int .i64 h_e])):Lf x ((y.alloc (.cells #[.int .i64 C.i,.bool h_g,.slice h_o h_n h_c,.int .i64 h_e] 68)).alloc (.cells #[.int .i64 A.i,.bool m_g,.slice m_o m_n m_c,.int .i64 m_e] 68)) (y.heap.size + 1) y.heap.size A C m_g m_o m_n m_c m_e h_g h_o h_n h_c h_e:=⟨heap_b2 _ _ _,heap_a2 _ _ _,mD.keeps (bel_alloc2 _ _ _),hD.keeps (bel_alloc2 _ _ _),al1 (al1 B _) _⟩
theorem lf5 {g5 g6:Nat} {x y:World} {A C:En} {m_g:Bool} {m_o:Option Addr} {m_n m_c:Nat} {m_e:Int} {h_g:Bool} {h_o:Option Addr} {h_n h_c:Nat} {h_e:Int} (B:Below x.heap.size x y) (mD:DAn 0 y A.v (.agg #[.bool m_g,.slice m_o m_n m_c,.int .i64 m_e])) (hD:DAn 0 y C.v (.agg #[.bool h_g,.slice h_o h_n h_c,.int .i64 h_e])) (z5:y.heap[g5]?=some (.cells #[.int .i64 0,.bool false,.slice none 0 0,.int .i64 0] 68 (0,0))) (z6:y.heap[g6]?=some (.cells #[.int .i64 0,.bool false,.slice none 0 0,.int .i64 0] 68 (0,0))) (ne:g5 ≠ g6) (le5:x.heap.size <= g5) (le6:x.heap.size <= g6):Lf x ((((((((y.setCell ⟨g5,0,none⟩ (.int .i64 A.i)).setCell ⟨g5,1,none⟩ (.bool m_g)).setCell ⟨g5,2,none⟩ (.slice m_o m_n m_c)).setCell ⟨g5,3,none⟩ (.int .i64 m_e)).setCell ⟨g6,0,none⟩ (.int .i64 C.i)).setCell ⟨g6,1,none⟩ (.bool h_g)).setCell ⟨g6,2,none⟩ (.slice h_o h_n h_c)).setCell ⟨g6,3,none⟩ (.int .i64 h_e)) g5 g6 A C m_g m_o m_n m_c m_e h_g h_o h_n h_c h_e:=⟨far4_blk ne (set4_blk z5),set4_blk (far4_blk ne.symm z6),dan_set4 (dan_set4 mD z5 _ _ _ _) (far4_blk ne.symm z6) _ _ _ _,dan_set4 (dan_set4 hD z5 _ _ _ _) (far4_blk ne.symm z6) _ _ _ _,bel_set4 (bel_set4 B le5 _ _ _ _) le6 _ _ _ _⟩
theorem lf3 {g5:Nat} {x y:World} {A C:En} {m_g:Bool} {m_o:Option Addr} {m_n m_c:Nat} {m_e:Int} {h_g:Bool} {h_o:Option Addr} {h_n h_c:Nat} {h_e:Int} (B:Below x.heap.size x y) (mD:DAn 0 y A.v (.agg #[.bool m_g,.slice m_o m_n m_c,.int .i64 m_e])) (hD:DAn 0 y C.v (.agg #[.bool h_g,.slice h_o h_n h_c,.int .i64 h_e])) (z5:y.heap[g5]?=some (.cells #[.int .i64 0,.bool false,.slice none 0 0,.int .i64 0] 68 (0,0))) (le5:x.heap.size <= g5):Lf x (((((((((y.alloc (.cells #[.int .i64 0,.bool false,.slice none 0 0,.int .i64 0] 68)).setCell ⟨g5,0,none⟩ (.int .i64 A.i)).setCell ⟨g5,1,none⟩ (.bool m_g)).setCell ⟨g5,2,none⟩ (.slice m_o m_n m_c)).setCell ⟨g5,3,none⟩ (.int .i64 m_e)).setCell ⟨y.heap.size,0,none⟩ (.int .i64 C.i)).setCell ⟨y.heap.size,1,none⟩ (.bool h_g)).setCell ⟨y.heap.size,2,none⟩ (.slice h_o h_n h_c)).setCell ⟨y.heap.size,3,none⟩ (.int .i64 h_e)) g5 y.heap.size A C m_g m_o m_n m_c m_e h_g h_o h_n h_c h_e:=lf5 (al1 B _) (mD.keeps (bel_alloc _ _)) (hD.keeps (bel_alloc _ _)) (heap_past _ z5) (heap_a1 _ _) (fun e=>by have:=(Array.getElem?_eq_some_iff.1 z5).1; omega) le5 B.size
theorem lf4 {g6:Nat} {x y:World} {A C:En} {m_g:Bool} {m_o:Option Addr} {m_n m_c:Nat} {m_e:Int} {h_g:Bool} {h_o:Option Addr} {h_n h_c:Nat} {h_e:Int} (B:Below x.heap.size x y) (mD:DAn 0 y A.v (.agg #[.bool m_g,.slice m_o m_n m_c,.int .i64 m_e])) (hD:DAn 0 y C.v (.agg #[.bool h_g,.slice h_o h_n h_c,.int .i64 h_e])) (z6:y.heap[g6]?=some (.cells #[.int .i64 0,.bool false,.slice none 0 0,.int .i64 0] 68 (0,0))) (le6:x.heap.size <= g6):Lf x (((((y.alloc (.cells #[.int .i64 A.i,.bool m_g,.slice m_o m_n m_c,.int .i64 m_e] 68)).setCell ⟨g6,0,none⟩ (.int .i64 C.i)).setCell ⟨g6,1,none⟩ (.bool h_g)).setCell ⟨g6,2,none⟩ (.slice h_o h_n h_c)).setCell ⟨g6,3,none⟩ (.int .i64 h_e)) y.heap.size g6 A C m_g m_o m_n m_c m_e h_g h_o h_n h_c h_e:=by
  have ne:y.heap.size ≠ g6:=fun e=>by have:=(Array.getElem?_eq_some_iff.1 z6).1; omega
  exact ⟨far4_blk ne (heap_a1 _ _),set4_blk (heap_past _ z6),dan_set4 (mD.keeps (bel_alloc _ _)) (heap_past _ z6) _ _ _ _,dan_set4 (hD.keeps (bel_alloc _ _)) (heap_past _ z6) _ _ _ _,bel_set4 (al1 B _) le6 _ _ _ _⟩
end Go.Proofs.YtfgapefckpnjjaaGreatDoor
