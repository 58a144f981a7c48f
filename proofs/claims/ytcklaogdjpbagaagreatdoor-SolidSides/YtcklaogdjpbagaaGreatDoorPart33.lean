/- Parts of the proof. -/
import Derived.Test.YtcklaogdjpbagaaGreatDoorPart31
import Derived.Test.YtcklaogdjpbagaaGreatDoorPart32
import Derived.Test.YtcklaogdjpbagaaGreatDoorPart17
import Derived.Test.YtcklaogdjpbagaaGreatDoorPart19
import Derived.Test.YtcklaogdjpbagaaGreatDoorPart7
import Derived.Deep.RegionHeld3
set_option linter.unusedVariables false
set_option linter.unusedSimpArgs false
namespace Go.Proofs.YtcklaogdjpbagaaGreatDoor
open Go Go.RowKit Go.Proofs.YtcklaogdjpbagaaGreatDoor.M
theorem ord_scS {V S:Int} (h:0<S):ord (V*S) 0=ord V 0:=by
  refine ord_iff ⟨fun q=>?_,fun q=>Int.mul_pos q h⟩ ⟨fun q=>?_,fun q=>Int.mul_neg_of_neg_of_pos q h⟩
  . rcases Int.lt_or_le 0 V with c | c
    . exact c
    . have:=Int.mul_le_mul_of_nonneg_right c (Int.le_of_lt h)
      rw [Int.zero_mul] at this
      omega
  . rcases Int.lt_or_le V 0 with c | c
    . exact c
    . have:=Int.mul_nonneg c (Int.le_of_lt h)
      omega
set_option maxRecDepth 100000 in
theorem s3Sig {w:World} {g:Bool} {o:Option Addr} {n c:Nat} {e V z:Int} (h:DNum w (.agg #[.bool g,.slice o n c,.int .i64 e]) V) (hz:ord V 0=z) :
    Calls Tryz.prog 24 #[.agg #[.bool g,.slice o n c,.int .i64 e]] w fun r w'=>r=.returned (.int .i64 z)∧Below w.heap.size w w':=by
  obtain ⟨hs,hm⟩:=sgn_ord h
  rw [<- hz,<- hs]
  have CS:Hid (∀ W,Calls Tryz.prog 50 #[.agg #[.bool g,.slice o n c,.int .i64 e]] W fun r w'=>r=.returned (.int .i64 (sgn g n))∧Below W.heap.size W w'):=fun W=>rsign3_any g o n c e W hm
  clear hs h hz
  generalize sgn g n=s at *
  have hb:=bel_alloc w (.cells #[.bool g,.slice o n c,.int .i64 e] 33)
  go_enter Tryz.func24,Tryz.ntmps24
  go_wp2_with fail
  refine (CS.out _).mono ?_
  rintro _ y1 ⟨rfl,hw1⟩
  have hb1:=bel_trans hb hw1
  go_wp2
  go_ret
  exact ⟨rfl,hb1⟩
set_option maxRecDepth 100000 in
set_option maxHeartbeats 4000000 in
theorem r12rounded {s:Nat->Nat->Int} (i j:Nat) (hr:∀ i k,rng (s i k)) (w:World) :
    Calls Tryz.prog 27 #[.agg #[.int .i64 (s i 0),.int .i64 (s i 1),.int .i64 (s i 2)],.agg #[.int .i64 (s j 0),.int .i64 (s j 1),.int .i64 (s j 2)]] w fun e w'=>e=.returned (.agg #[.int .i64 (fsum (s i 0) (neg (s j 0))),.int .i64 (fsum (s i 1) (neg (s j 1))),.int .i64 (fsum (s i 2) (neg (s j 2)))])∧Below w.heap.size w w':=by
  have D0:Hid (∀ W,Calls Tryz.prog 56 #[.int .i64 (s i 0),.int .i64 (s j 0)] W fun e w'=>e=.returned (.int .i64 (fsum (s i 0) (neg (s j 0))))∧Below W.heap.size W w'):=fun W=>rDiff_any _ _ (hr _ _) (hr _ _) W
  have D1:Hid (∀ W,Calls Tryz.prog 56 #[.int .i64 (s i 1),.int .i64 (s j 1)] W fun e w'=>e=.returned (.int .i64 (fsum (s i 1) (neg (s j 1))))∧Below W.heap.size W w'):=fun W=>rDiff_any _ _ (hr _ _) (hr _ _) W
  have D2:Hid (∀ W,Calls Tryz.prog 56 #[.int .i64 (s i 2),.int .i64 (s j 2)] W fun e w'=>e=.returned (.int .i64 (fsum (s i 2) (neg (s j 2))))∧Below W.heap.size W w'):=fun W=>rDiff_any _ _ (hr _ _) (hr _ _) W
  clear hr
  generalize fsum (s i 0) (neg (s j 0))=v0 at *
  generalize fsum (s i 1) (neg (s j 1))=v1 at *
  generalize fsum (s i 2) (neg (s j 2))=v2 at *
  generalize s i 0=p0 at *
  generalize s j 0=q0 at *
  generalize s i 1=p1 at *
  generalize s j 1=q1 at *
  generalize s i 2=p2 at *
  generalize s j 2=q2 at *
  obtain ⟨hb0,a_k,b_k,o_k,hsz0⟩:=blks3 w (.cells #[.int .i64 p0,.int .i64 p1,.int .i64 p2] 23) (.cells #[.int .i64 q0,.int .i64 q1,.int .i64 q2] 23) (.cells #[.int .i64 0,.int .i64 0,.int .i64 0] 70)
  clear hsz0
  go_enter Tryz.func27,Tryz.ntmps27
  go_wp2_with fail
  generalize (((w.alloc (.cells #[.int .i64 p0,.int .i64 p1,.int .i64 p2] 23)).alloc (.cells #[.int .i64 q0,.int .i64 q1,.int .i64 q2] 23)).alloc (.cells #[.int .i64 0,.int .i64 0,.int .i64 0] 70))=x0 at hb0 a_k b_k o_k ⊢
  have hs0:=(Array.getElem?_eq_some_iff.1 o_k).1
  have KK:∀ W,Below (w.heap.size+2) x0 W->W.cell? ⟨w.heap.size,0,none⟩=some (.int .i64 p0)∧W.cell? ⟨w.heap.size,1,none⟩=some (.int .i64 p1)∧W.cell? ⟨w.heap.size,2,none⟩=some (.int .i64 p2)∧W.cell? ⟨w.heap.size+1,0,none⟩=some (.int .i64 q0)∧W.cell? ⟨w.heap.size+1,1,none⟩=some (.int .i64 q1)∧W.cell? ⟨w.heap.size+1,2,none⟩=some (.int .i64 q2):=fun W hb=>⟨cell_b (blkC a_k 0 rfl) hb (show w.heap.size<w.heap.size+2 by omega),cell_b (blkC a_k 1 rfl) hb (show w.heap.size<w.heap.size+2 by omega),cell_b (blkC a_k 2 rfl) hb (show w.heap.size<w.heap.size+2 by omega),cell_b (blkC b_k 0 rfl) hb (show w.heap.size+1<w.heap.size+2 by omega),cell_b (blkC b_k 1 rfl) hb (show w.heap.size+1<w.heap.size+2 by omega),cell_b (blkC b_k 2 rfl) hb (show w.heap.size+1<w.heap.size+2 by omega)⟩
  have hlt:w.heap.size+2<=x0.heap.size:=by omega
  have hC0:=(bel_refl x0).drew
  go_region_held3 (fun W=>W.cell? ⟨w.heap.size,0,none⟩=some (.int .i64 p0)∧W.cell? ⟨w.heap.size,1,none⟩=some (.int .i64 p1)∧W.cell? ⟨w.heap.size,2,none⟩=some (.int .i64 p2)∧W.cell? ⟨w.heap.size+1,0,none⟩=some (.int .i64 q0)∧W.cell? ⟨w.heap.size+1,1,none⟩=some (.int .i64 q1)∧W.cell? ⟨w.heap.size+1,2,none⟩=some (.int .i64 q2))
    (with_reducible first | assumption | exact KK _ (hC0.mono hlt) | exact KK _ (hC1.mono hlt) | exact KK _ (hC2.mono hlt) | exact KK _ (hC3.mono hlt) | exact KK _ (below_s3 (hC3.mono hlt) (Nat.le_refl _) _ _ _) | fail)
    (first | (go_at_call 56; have _t:=hs2; refine (D2.out _).mono ?_; rintro _ y3 ⟨rfl,hs3⟩; have hC3:=bel_trans hC2 hs3; have rk:=blk_us hC3 o_k; have e0:=blkC rk 0 rfl; have z0:=blkF rk 0; have e1:=blkC rk 1 rfl; have z1:=blkF rk 1; have e2:=blkC rk 2 rfl; have z2:=blkF rk 2) | (go_at_call 56; have _t:=hs1; refine (D1.out _).mono ?_; rintro _ y2 ⟨rfl,hs2⟩; have hC2:=bel_trans hC1 hs2) | (go_at_call 56; refine (D0.out _).mono ?_; rintro _ y1 ⟨rfl,hs1⟩; have hC1:=bel_trans hC0 hs1))
  go_wp2
  exact bodyPost_ret (v:=.agg #[.int .i64 v0,.int .i64 v1,.int .i64 v2]) (by simp [results,Tryz.results27,go_sem,e0,e1,e2]) rfl ⟨rfl,bel_set3 (bel_trans hb0 hC3) (by omega) _ _ _⟩
theorem rng_nil':rng 0:=by unfold rng; omega
set_option maxRecDepth 100000 in
set_option maxHeartbeats 4000000 in
theorem r12Side_w {s:Nat->Nat->Int} (hr:∀ i k,rng (s i k)) (hok:allB (sok s) 4=true) (hT:allB (stm s) 4=false) (w:World) :
    Calls Tryz.prog 13 #[.agg #[.int .i64 (s 0 0),.int .i64 (s 0 1),.int .i64 (s 0 2)],.agg #[.int .i64 (s 1 0),.int .i64 (s 1 1),.int .i64 (s 1 2)],.agg #[.int .i64 (s 2 0),.int .i64 (s 2 1),.int .i64 (s 2 2)],.agg #[.int .i64 (s 3 0),.int .i64 (s 3 1),.int .i64 (s 3 2)]] w fun e w'=>e=.returned (.agg #[.int .i64 (ord (dX (vL s 3) 0 1 2) 0),.int .i64 (st_side s)])∧Below w.heap.size w w':=by
  have EX:Hid (∀ W,Calls Tryz.prog 12 #[.agg #[.int .i64 (s 0 0),.int .i64 (s 0 1),.int .i64 (s 0 2)],.agg #[.int .i64 (s 1 0),.int .i64 (s 1 1),.int .i64 (s 1 2)],.agg #[.int .i64 (s 2 0),.int .i64 (s 2 1),.int .i64 (s 2 2)],.agg #[.int .i64 (s 3 0),.int .i64 (s 3 1),.int .i64 (s 3 2)]] W fun r w'=>∃ g o n c e V,r=.returned (.agg #[.bool g,.slice o n c,.int .i64 e])∧DNum w' (.agg #[.bool g,.slice o n c,.int .i64 e]) V∧Hid (ord V 0=ord (dX (vL s 3) 0 1 2) 0)∧Below W.heap.size W w'):=fun W=>by
    refine (r12sideX hr (sok_all_side hok) W).mono ?_
    rintro _ w' ⟨v,V,rfl,hd,hb,hv,-⟩
    obtain ⟨g,o,n,c,e,rfl⟩:=hd.shape
    exact ⟨g,o,n,c,e,V,rfl,hd.num,(by show _=_; rw [<- hv,ord_scS (two_pos _),ord_scS (two_pos _)]),hb⟩
  have CT:Hid (∀ W g,W.heap[g]?=some (.cells #[.int .i64 (s 0 0),.int .i64 (s 0 1),.int .i64 (s 0 2),.int .i64 (s 1 0),.int .i64 (s 1 1),.int .i64 (s 1 2),.int .i64 (s 2 0),.int .i64 (s 2 1),.int .i64 (s 2 2),.int .i64 (s 3 0),.int .i64 (s 3 1),.int .i64 (s 3 2)] 23 (0,0))->Calls Tryz.prog 25 #[.slice (some ⟨g,0,none⟩) 4 4] W fun x w'=>x=.returned (.bool false)∧w'=W):=fun W g h=>by
    have:=r12tames _ 4 4 s W (sps_side s W h) hr
    rw [hT] at this
    exact this
  have hst:Hid (st_side s=6):=by
    show _=_
    unfold st_side
    rw [hT]; rfl
  clear hr hok hT
  generalize ord (dX (vL s 3) 0 1 2) 0=sg at *
  generalize st_side s=st at *
  obtain rfl:st=6:=hst.out
  generalize s 0 0=s00 at *
  generalize s 0 1=s01 at *
  generalize s 0 2=s02 at *
  generalize s 1 0=s10 at *
  generalize s 1 1=s11 at *
  generalize s 1 2=s12 at *
  generalize s 2 0=s20 at *
  generalize s 2 1=s21 at *
  generalize s 2 2=s22 at *
  generalize s 3 0=s30 at *
  generalize s 3 1=s31 at *
  generalize s 3 2=s32 at *
  obtain ⟨hb0,p0_k,p1_k,p2_k,p3_k,o_k,hsz0⟩:=blks5 w (.cells #[.int .i64 s00,.int .i64 s01,.int .i64 s02] 23) (.cells #[.int .i64 s10,.int .i64 s11,.int .i64 s12] 23) (.cells #[.int .i64 s20,.int .i64 s21,.int .i64 s22] 23) (.cells #[.int .i64 s30,.int .i64 s31,.int .i64 s32] 23) (.cells #[.int .i64 0,.int .i64 0] 27)
  clear hsz0
  go_enter Tryz.func13,Tryz.ntmps13
  have f_p00:=blkC p0_k 0 rfl
  have f_p01:=blkC p0_k 1 rfl
  have f_p02:=blkC p0_k 2 rfl
  have f_p10:=blkC p1_k 0 rfl
  have f_p11:=blkC p1_k 1 rfl
  have f_p12:=blkC p1_k 2 rfl
  have f_p20:=blkC p2_k 0 rfl
  have f_p21:=blkC p2_k 1 rfl
  have f_p22:=blkC p2_k 2 rfl
  have f_p30:=blkC p3_k 0 rfl
  have f_p31:=blkC p3_k 1 rfl
  have f_p32:=blkC p3_k 2 rfl
  go_wp2_with fail
  clear f_p00 f_p01 f_p02 f_p10 f_p11 f_p12 f_p20 f_p21 f_p22 f_p30 f_p31 f_p32
  generalize (((((w.alloc (.cells #[.int .i64 s00,.int .i64 s01,.int .i64 s02] 23)).alloc (.cells #[.int .i64 s10,.int .i64 s11,.int .i64 s12] 23)).alloc (.cells #[.int .i64 s20,.int .i64 s21,.int .i64 s22] 23)).alloc (.cells #[.int .i64 s30,.int .i64 s31,.int .i64 s32] 23)).alloc (.cells #[.int .i64 0,.int .i64 0] 27))=x0 at hb0 p0_k p1_k p2_k p3_k o_k ⊢
  refine (EX.out _).mono ?_
  rintro _ y1 ⟨g,o,n,c,e,V,rfl,hD,hV,hw1⟩
  replace p0_k:=blk_us hw1 p0_k
  replace p1_k:=blk_us hw1 p1_k
  replace p2_k:=blk_us hw1 p2_k
  replace p3_k:=blk_us hw1 p3_k
  replace o_k:=blk_us hw1 o_k
  replace hb0:=bel_trans hb0 hw1
  go_wp2_with fail
  refine (s3Sig hD hV.out).mono ?_
  rintro _ y2 ⟨rfl,hw2⟩
  clear hD hV
  replace p0_k:=blk_us hw2 p0_k
  replace p1_k:=blk_us hw2 p1_k
  replace p2_k:=blk_us hw2 p2_k
  replace p3_k:=blk_us hw2 p3_k
  replace o_k:=blk_us hw2 o_k
  replace hb0:=bel_trans hb0 hw2
  have f_p00:=blkC p0_k 0 rfl
  have f_p01:=blkC p0_k 1 rfl
  have f_p02:=blkC p0_k 2 rfl
  have f_p10:=blkC p1_k 0 rfl
  have f_p11:=blkC p1_k 1 rfl
  have f_p12:=blkC p1_k 2 rfl
  have f_p20:=blkC p2_k 0 rfl
  have f_p21:=blkC p2_k 1 rfl
  have f_p22:=blkC p2_k 2 rfl
  have f_p30:=blkC p3_k 0 rfl
  have f_p31:=blkC p3_k 1 rfl
  have f_p32:=blkC p3_k 2 rfl
  go_wp2_with fail
  clear f_p00 f_p01 f_p02 f_p10 f_p11 f_p12 f_p20 f_p21 f_p22 f_p30 f_p31 f_p32
  refine (CT.out _ _ (heap_a1 _ _)).mono ?_
  rintro _ _ ⟨rfl,rfl⟩
  have hw3:=bel_alloc y2 (.cells #[.int .i64 s00,.int .i64 s01,.int .i64 s02,.int .i64 s10,.int .i64 s11,.int .i64 s12,.int .i64 s20,.int .i64 s21,.int .i64 s22,.int .i64 s30,.int .i64 s31,.int .i64 s32] 23)
  replace p0_k:=blk_us hw3 p0_k
  replace p1_k:=blk_us hw3 p1_k
  replace p2_k:=blk_us hw3 p2_k
  replace p3_k:=blk_us hw3 p3_k
  replace o_k:=blk_us hw3 o_k
  replace hb0:=bel_trans hb0 hw3
  generalize y2.alloc (.cells #[.int .i64 s00,.int .i64 s01,.int .i64 s02,.int .i64 s10,.int .i64 s11,.int .i64 s12,.int .i64 s20,.int .i64 s21,.int .i64 s22,.int .i64 s30,.int .i64 s31,.int .i64 s32] 23)=y3 at p0_k p1_k p2_k p3_k o_k hb0 ⊢
  clear hw3
  have k0:=blkC o_k 0 rfl
  have k1:=blkC o_k 1 rfl
  have z0:=blkF o_k 0
  have z1:=blkF o_k 1
  go_wp2
  exact bodyPost_ret (v:=.agg #[.int .i64 sg,.int .i64 6]) (by simp [results,Tryz.results13,go_sem,k0,k1]) rfl ⟨rfl,(hb0.setCell (p:=⟨w.heap.size+4,0,none⟩) (show w.heap.size<=w.heap.size+4 by omega) _).setCell (p:=⟨w.heap.size+4,1,none⟩) (show w.heap.size<=w.heap.size+4 by omega) _⟩
set_option maxRecDepth 100000 in
set_option maxHeartbeats 4000000 in
theorem r12Side_t {s:Nat->Nat->Int} (hr:∀ i k,rng (s i k)) (hok:allB (sok s) 4=true) (hT:allB (stm s) 4=true) (w:World) :
    Calls Tryz.prog 13 #[.agg #[.int .i64 (s 0 0),.int .i64 (s 0 1),.int .i64 (s 0 2)],.agg #[.int .i64 (s 1 0),.int .i64 (s 1 1),.int .i64 (s 1 2)],.agg #[.int .i64 (s 2 0),.int .i64 (s 2 1),.int .i64 (s 2 2)],.agg #[.int .i64 (s 3 0),.int .i64 (s 3 1),.int .i64 (s 3 2)]] w fun e w'=>e=.returned (.agg #[.int .i64 (ord (dX (vL s 3) 0 1 2) 0),.int .i64 (st_side s)])∧Below w.heap.size w w':=by
  have EX:Hid (∀ W,Calls Tryz.prog 12 #[.agg #[.int .i64 (s 0 0),.int .i64 (s 0 1),.int .i64 (s 0 2)],.agg #[.int .i64 (s 1 0),.int .i64 (s 1 1),.int .i64 (s 1 2)],.agg #[.int .i64 (s 2 0),.int .i64 (s 2 1),.int .i64 (s 2 2)],.agg #[.int .i64 (s 3 0),.int .i64 (s 3 1),.int .i64 (s 3 2)]] W fun r w'=>∃ g o n c e V,r=.returned (.agg #[.bool g,.slice o n c,.int .i64 e])∧DNum w' (.agg #[.bool g,.slice o n c,.int .i64 e]) V∧Hid (ord V 0=ord (dX (vL s 3) 0 1 2) 0)∧Below W.heap.size W w'):=fun W=>by
    refine (r12sideX hr (sok_all_side hok) W).mono ?_
    rintro _ w' ⟨v,V,rfl,hd,hb,hv,-⟩
    obtain ⟨g,o,n,c,e,rfl⟩:=hd.shape
    exact ⟨g,o,n,c,e,V,rfl,hd.num,(by show _=_; rw [<- hv,ord_scS (two_pos _),ord_scS (two_pos _)]),hb⟩
  have CT:Hid (∀ W g,W.heap[g]?=some (.cells #[.int .i64 (s 0 0),.int .i64 (s 0 1),.int .i64 (s 0 2),.int .i64 (s 1 0),.int .i64 (s 1 1),.int .i64 (s 1 2),.int .i64 (s 2 0),.int .i64 (s 2 1),.int .i64 (s 2 2),.int .i64 (s 3 0),.int .i64 (s 3 1),.int .i64 (s 3 2)] 23 (0,0))->Calls Tryz.prog 25 #[.slice (some ⟨g,0,none⟩) 4 4] W fun x w'=>x=.returned (.bool true)∧w'=W):=fun W g h=>by
    have:=r12tames _ 4 4 s W (sps_side s W h) hr
    rw [hT] at this
    exact this
  have hz:∀ i,i<=3->∀ k,k<3->Mz (s i k):=fun i hi k hk=>tame_Mz (hr i k) (stm_all_side hT i hi k hk)
  have hru:∀ i k,rng (uL s 3 i k):=fun i k=>by
    unfold uL
    split
    . exact fsum_rng (hr _ _) (rng_neg (hr _ _))
    . exact rng_nil'
  have R0:Hid (∀ W,Calls Tryz.prog 27 #[.agg #[.int .i64 (s 0 0),.int .i64 (s 0 1),.int .i64 (s 0 2)],.agg #[.int .i64 (s 3 0),.int .i64 (s 3 1),.int .i64 (s 3 2)]] W fun e w'=>e=.returned (.agg #[.int .i64 (uL s 3 0 0),.int .i64 (uL s 3 0 1),.int .i64 (uL s 3 0 2)])∧Below W.heap.size W w'):=fun W=>r12rounded 0 3 hr W
  have R1:Hid (∀ W,Calls Tryz.prog 27 #[.agg #[.int .i64 (s 1 0),.int .i64 (s 1 1),.int .i64 (s 1 2)],.agg #[.int .i64 (s 3 0),.int .i64 (s 3 1),.int .i64 (s 3 2)]] W fun e w'=>e=.returned (.agg #[.int .i64 (uL s 3 1 0),.int .i64 (uL s 3 1 1),.int .i64 (uL s 3 1 2)])∧Below W.heap.size W w'):=fun W=>r12rounded 1 3 hr W
  have R2:Hid (∀ W,Calls Tryz.prog 27 #[.agg #[.int .i64 (s 2 0),.int .i64 (s 2 1),.int .i64 (s 2 2)],.agg #[.int .i64 (s 3 0),.int .i64 (s 3 1),.int .i64 (s 3 2)]] W fun e w'=>e=.returned (.agg #[.int .i64 (uL s 3 2 0),.int .i64 (uL s 3 2 1),.int .i64 (uL s 3 2 2)])∧Below W.heap.size W w'):=fun W=>r12rounded 2 3 hr W
  have CF:Hid (∀ W,Calls Tryz.prog 26 #[.agg #[.int .i64 (uL s 3 0 0),.int .i64 (uL s 3 0 1),.int .i64 (uL s 3 0 2)],.agg #[.int .i64 (uL s 3 1 0),.int .i64 (uL s 3 1 1),.int .i64 (uL s 3 1 2)],.agg #[.int .i64 (uL s 3 2 0),.int .i64 (uL s 3 2 1),.int .i64 (uL s 3 2 2)]] W fun e w'=>e=.returned (.tuple #[.int .i64 (rD (uL s 3)),.int .i64 (sxz (uL s 3) 0 1 2)])∧Below W.heap.size W w'):=fun W=>r12sideF hru W
  have CK:Hid (∀ W,Calls Tryz.prog 29 #[.int .i64 7881299347898375,.int .i64 (-103)] W fun e w'=>e=.returned (.int .i64 sA)∧Below W.heap.size W w'):=fun W=>s10FloatA W
  have hsm:=side_same (lg_of hz 0) (lg_of hz 1) (lg_of hz 2)
  have hvv:=rD_v (lg_of hz 0) (lg_of hz 1) (lg_of hz 2)
  have hfx:=fx_side hz
  have rss:rng (sxz (uL s 3) 0 1 2):=hfx.2.2.1
  have hsg:Hid (key (fprod sA (sxz (uL s 3) 0 1 2))<rg (dt (uL s 3) 0 1 2)->sgP (dt (uL s 3) 0 1 2)=ord (dX (vL s 3) 0 1 2) 0):=fun h=>sgn_side hr hz h
  have CD:Hid (∀ W,Calls Tryz.prog 28 #[.int .i64 (rD (uL s 3)),.int .i64 (sxz (uL s 3) 0 1 2),.int .i64 sA] W fun e w'=>e=.returned (.tuple #[.agg #[.int .i64 (sgP (dt (uL s 3) 0 1 2)),.int .i64 1],.bool (decide (key (fprod sA (sxz (uL s 3) 0 1 2))<rg (dt (uL s 3) 0 1 2)))])∧Below W.heap.size W w'):=fun W=>by
    have:=r12decided hvv.r rss rng_sA W
    rw [hsm.1,hsm.2] at this
    exact this
  have hst:Hid (st_side s=if key (fprod sA (sxz (uL s 3) 0 1 2))<rg (dt (uL s 3) 0 1 2) then 1 else 4):=by
    show _=_
    unfold st_side
    rw [hT]; rfl
  clear hr hok hT hz hru hsm hvv hfx rss
  generalize ord (dX (vL s 3) 0 1 2) 0=sg at *
  generalize st_side s=st at *
  generalize sgP (dt (uL s 3) 0 1 2)=sd at *
  generalize hcc:(decide (key (fprod sA (sxz (uL s 3) 0 1 2))<rg (dt (uL s 3) 0 1 2)))=cc at *
  have hst2:Hid (st=if cc then 1 else 4):=by
    show st=_
    rw [hst.out,<- hcc]
    by_cases c:key (fprod sA (sxz (uL s 3) 0 1 2))<rg (dt (uL s 3) 0 1 2)
    . rw [if_pos c,decide_eq_true c]; rfl
    . rw [if_neg c,decide_eq_false c]; rfl
  have hsg2:Hid (cc=true->sd=sg):=fun h=>hsg.out (of_decide_eq_true (hcc.trans h))
  clear hst hsg hcc
  generalize rD (uL s 3)=DD at *
  generalize sxz (uL s 3) 0 1 2=SS at *
  generalize sA=KA at *
  generalize uL s 3 0 0=u00 at *
  generalize uL s 3 0 1=u01 at *
  generalize uL s 3 0 2=u02 at *
  generalize uL s 3 1 0=u10 at *
  generalize uL s 3 1 1=u11 at *
  generalize uL s 3 1 2=u12 at *
  generalize uL s 3 2 0=u20 at *
  generalize uL s 3 2 1=u21 at *
  generalize uL s 3 2 2=u22 at *
  generalize s 0 0=s00 at *
  generalize s 0 1=s01 at *
  generalize s 0 2=s02 at *
  generalize s 1 0=s10 at *
  generalize s 1 1=s11 at *
  generalize s 1 2=s12 at *
  generalize s 2 0=s20 at *
  generalize s 2 1=s21 at *
  generalize s 2 2=s22 at *
  generalize s 3 0=s30 at *
  generalize s 3 1=s31 at *
  generalize s 3 2=s32 at *
  obtain ⟨hb0,p0_k,p1_k,p2_k,p3_k,o_k,hsz0⟩:=blks5 w (.cells #[.int .i64 s00,.int .i64 s01,.int .i64 s02] 23) (.cells #[.int .i64 s10,.int .i64 s11,.int .i64 s12] 23) (.cells #[.int .i64 s20,.int .i64 s21,.int .i64 s22] 23) (.cells #[.int .i64 s30,.int .i64 s31,.int .i64 s32] 23) (.cells #[.int .i64 0,.int .i64 0] 27)
  clear hsz0
  go_enter Tryz.func13,Tryz.ntmps13
  have f_p00:=blkC p0_k 0 rfl
  have f_p01:=blkC p0_k 1 rfl
  have f_p02:=blkC p0_k 2 rfl
  have f_p10:=blkC p1_k 0 rfl
  have f_p11:=blkC p1_k 1 rfl
  have f_p12:=blkC p1_k 2 rfl
  have f_p20:=blkC p2_k 0 rfl
  have f_p21:=blkC p2_k 1 rfl
  have f_p22:=blkC p2_k 2 rfl
  have f_p30:=blkC p3_k 0 rfl
  have f_p31:=blkC p3_k 1 rfl
  have f_p32:=blkC p3_k 2 rfl
  go_wp2_with fail
  clear f_p00 f_p01 f_p02 f_p10 f_p11 f_p12 f_p20 f_p21 f_p22 f_p30 f_p31 f_p32
  generalize (((((w.alloc (.cells #[.int .i64 s00,.int .i64 s01,.int .i64 s02] 23)).alloc (.cells #[.int .i64 s10,.int .i64 s11,.int .i64 s12] 23)).alloc (.cells #[.int .i64 s20,.int .i64 s21,.int .i64 s22] 23)).alloc (.cells #[.int .i64 s30,.int .i64 s31,.int .i64 s32] 23)).alloc (.cells #[.int .i64 0,.int .i64 0] 27))=x0 at hb0 p0_k p1_k p2_k p3_k o_k ⊢
  refine (EX.out _).mono ?_
  rintro _ y1 ⟨g,o,n,c,e,V,rfl,hD,hV,hw1⟩
  replace p0_k:=blk_us hw1 p0_k
  replace p1_k:=blk_us hw1 p1_k
  replace p2_k:=blk_us hw1 p2_k
  replace p3_k:=blk_us hw1 p3_k
  replace o_k:=blk_us hw1 o_k
  replace hb0:=bel_trans hb0 hw1
  go_wp2_with fail
  refine (s3Sig hD hV.out).mono ?_
  rintro _ y2 ⟨rfl,hw2⟩
  clear hD hV
  replace p0_k:=blk_us hw2 p0_k
  replace p1_k:=blk_us hw2 p1_k
  replace p2_k:=blk_us hw2 p2_k
  replace p3_k:=blk_us hw2 p3_k
  replace o_k:=blk_us hw2 o_k
  replace hb0:=bel_trans hb0 hw2
  have f_p00:=blkC p0_k 0 rfl
  have f_p01:=blkC p0_k 1 rfl
  have f_p02:=blkC p0_k 2 rfl
  have f_p10:=blkC p1_k 0 rfl
  have f_p11:=blkC p1_k 1 rfl
  have f_p12:=blkC p1_k 2 rfl
  have f_p20:=blkC p2_k 0 rfl
  have f_p21:=blkC p2_k 1 rfl
  have f_p22:=blkC p2_k 2 rfl
  have f_p30:=blkC p3_k 0 rfl
  have f_p31:=blkC p3_k 1 rfl
  have f_p32:=blkC p3_k 2 rfl
  go_wp2_with fail
  clear f_p00 f_p01 f_p02 f_p10 f_p11 f_p12 f_p20 f_p21 f_p22 f_p30 f_p31 f_p32
  refine (CT.out _ _ (heap_a1 _ _)).mono ?_
  rintro _ _ ⟨rfl,rfl⟩
  have hw3:=bel_alloc y2 (.cells #[.int .i64 s00,.int .i64 s01,.int .i64 s02,.int .i64 s10,.int .i64 s11,.int .i64 s12,.int .i64 s20,.int .i64 s21,.int .i64 s22,.int .i64 s30,.int .i64 s31,.int .i64 s32] 23)
  replace p0_k:=blk_us hw3 p0_k
  replace p1_k:=blk_us hw3 p1_k
  replace p2_k:=blk_us hw3 p2_k
  replace p3_k:=blk_us hw3 p3_k
  replace o_k:=blk_us hw3 o_k
  replace hb0:=bel_trans hb0 hw3
  generalize y2.alloc (.cells #[.int .i64 s00,.int .i64 s01,.int .i64 s02,.int .i64 s10,.int .i64 s11,.int .i64 s12,.int .i64 s20,.int .i64 s21,.int .i64 s22,.int .i64 s30,.int .i64 s31,.int .i64 s32] 23)=y3 at p0_k p1_k p2_k p3_k o_k hb0 ⊢
  clear hw3
  go_wp2_with fail
  have KK4:∀ W,Below y3.heap.size y3 W->W.cell? ⟨w.heap.size,0,none⟩=some (.int .i64 s00)∧W.cell? ⟨w.heap.size,1,none⟩=some (.int .i64 s01)∧W.cell? ⟨w.heap.size,2,none⟩=some (.int .i64 s02)∧W.cell? ⟨w.heap.size+1,0,none⟩=some (.int .i64 s10)∧W.cell? ⟨w.heap.size+1,1,none⟩=some (.int .i64 s11)∧W.cell? ⟨w.heap.size+1,2,none⟩=some (.int .i64 s12)∧W.cell? ⟨w.heap.size+2,0,none⟩=some (.int .i64 s20)∧W.cell? ⟨w.heap.size+2,1,none⟩=some (.int .i64 s21)∧W.cell? ⟨w.heap.size+2,2,none⟩=some (.int .i64 s22)∧W.cell? ⟨w.heap.size+3,0,none⟩=some (.int .i64 s30)∧W.cell? ⟨w.heap.size+3,1,none⟩=some (.int .i64 s31)∧W.cell? ⟨w.heap.size+3,2,none⟩=some (.int .i64 s32):=fun W hb=>⟨q_cell (blkC p0_k 0 rfl) hb,q_cell (blkC p0_k 1 rfl) hb,q_cell (blkC p0_k 2 rfl) hb,q_cell (blkC p1_k 0 rfl) hb,q_cell (blkC p1_k 1 rfl) hb,q_cell (blkC p1_k 2 rfl) hb,q_cell (blkC p2_k 0 rfl) hb,q_cell (blkC p2_k 1 rfl) hb,q_cell (blkC p2_k 2 rfl) hb,q_cell (blkC p3_k 0 rfl) hb,q_cell (blkC p3_k 1 rfl) hb,q_cell (blkC p3_k 2 rfl) hb⟩
  have hC4_0:=(bel_refl y3).drew
  have hs4_0:=(bel_refl y3).drew
  go_region_held3 (fun W=>W.cell? ⟨w.heap.size,0,none⟩=some (.int .i64 s00)∧W.cell? ⟨w.heap.size,1,none⟩=some (.int .i64 s01)∧W.cell? ⟨w.heap.size,2,none⟩=some (.int .i64 s02)∧W.cell? ⟨w.heap.size+1,0,none⟩=some (.int .i64 s10)∧W.cell? ⟨w.heap.size+1,1,none⟩=some (.int .i64 s11)∧W.cell? ⟨w.heap.size+1,2,none⟩=some (.int .i64 s12)∧W.cell? ⟨w.heap.size+2,0,none⟩=some (.int .i64 s20)∧W.cell? ⟨w.heap.size+2,1,none⟩=some (.int .i64 s21)∧W.cell? ⟨w.heap.size+2,2,none⟩=some (.int .i64 s22)∧W.cell? ⟨w.heap.size+3,0,none⟩=some (.int .i64 s30)∧W.cell? ⟨w.heap.size+3,1,none⟩=some (.int .i64 s31)∧W.cell? ⟨w.heap.size+3,2,none⟩=some (.int .i64 s32))
    (with_reducible first | assumption | exact KK4 _ hC4_0 | exact KK4 _ hC4_1 | exact KK4 _ hC4_2 | exact KK4 _ hC4_3 | exact KK4 _ hC4_4 | fail)
    (first
      | (go_at_call 26; have _t:=hs4_3; refine (CF.out _).mono ?_; rintro _ y4_4 ⟨rfl,hs4_4⟩; have hC4_4:=bel_trans hC4_3 hs4_4)
      | (go_at_call 27; have _t:=hs4_2; refine (R2.out _).mono ?_; rintro _ y4_3 ⟨rfl,hs4_3⟩; have hC4_3:=bel_trans hC4_2 hs4_3)
      | (go_at_call 27; have _t:=hs4_1; refine (R1.out _).mono ?_; rintro _ y4_2 ⟨rfl,hs4_2⟩; have hC4_2:=bel_trans hC4_1 hs4_2)
      | (go_at_call 27; refine (R0.out _).mono ?_; rintro _ y4_1 ⟨rfl,hs4_1⟩; have hC4_1:=bel_trans hC4_0 hs4_1))
  replace p0_k:=blk_us hC4_4 p0_k
  replace p1_k:=blk_us hC4_4 p1_k
  replace p2_k:=blk_us hC4_4 p2_k
  replace p3_k:=blk_us hC4_4 p3_k
  replace o_k:=blk_us hC4_4 o_k
  replace hb0:=bel_trans hb0 hC4_4
  go_wp2_with fail
  refine (CK.out _).mono ?_
  rintro _ y5 ⟨rfl,hw5⟩
  replace p0_k:=blk_us hw5 p0_k
  replace p1_k:=blk_us hw5 p1_k
  replace p2_k:=blk_us hw5 p2_k
  replace p3_k:=blk_us hw5 p3_k
  replace o_k:=blk_us hw5 o_k
  replace hb0:=bel_trans hb0 hw5
  go_wp2_with fail
  refine (CD.out _).mono ?_
  rintro _ y6 ⟨rfl,hw6⟩
  replace p0_k:=blk_us hw6 p0_k
  replace p1_k:=blk_us hw6 p1_k
  replace p2_k:=blk_us hw6 p2_k
  replace p3_k:=blk_us hw6 p3_k
  replace o_k:=blk_us hw6 o_k
  replace hb0:=bel_trans hb0 hw6
  have v_k:=heap_a1 y6 (.cells #[.int .i64 sd,.int .i64 1] 27)
  replace o_k:=heap_past (.cells #[.int .i64 sd,.int .i64 1] 27) o_k
  replace hb0:=bel_trans hb0 (bel_alloc y6 (.cells #[.int .i64 sd,.int .i64 1] 27))
  have j0:=blkC v_k 0 rfl
  have j1:=blkC v_k 1 rfl
  have k0:=blkC o_k 0 rfl
  have k1:=blkC o_k 1 rfl
  have z0:=blkF o_k 0
  have z1:=blkF o_k 1
  cases cc
  . obtain rfl:st=4:=hst2.out
    go_wp2
    exact bodyPost_ret (v:=.agg #[.int .i64 sg,.int .i64 4]) (by simp [results,Tryz.results13,go_sem,k0,k1]) rfl ⟨rfl,(hb0.setCell (p:=⟨w.heap.size+4,0,none⟩) (show w.heap.size<=w.heap.size+4 by omega) _).setCell (p:=⟨w.heap.size+4,1,none⟩) (show w.heap.size<=w.heap.size+4 by omega) _⟩
  . obtain rfl:st=1:=hst2.out
    obtain rfl:sd=sg:=hsg2.out rfl
    go_wp2
    exact bodyPost_ret (v:=.agg #[.int .i64 sd,.int .i64 1]) (by simp [results,Tryz.results13,go_sem,k0,k1]) rfl ⟨rfl,(hb0.setCell (p:=⟨w.heap.size+4,0,none⟩) (show w.heap.size<=w.heap.size+4 by omega) _).setCell (p:=⟨w.heap.size+4,1,none⟩) (show w.heap.size<=w.heap.size+4 by omega) _⟩
theorem wd_eq1 {a b:Int} (ha:rng a) (hb:rng b) (h:wd a=wd b):a=b:=by
  unfold wd at h
  unfold rng at ha hb
  omega
theorem fsum_ev {a b:Nat} {p q r:Int} (hx:Fx a b p) (hy:Fx a b q) (hb:b+1<=2097) (rr:rng r) (h:Ieee.double.add (wd p) (wd q)=some (wd r)):fsum p q=r:=by
  obtain ⟨s,-⟩:=hx.sum hy hb
  rcases add_FW (FW.pat (q_fin hx.p) hx.r) (FW.pat (q_fin hy.p) hy.r) with ⟨z,e1,e2⟩ | ⟨e1,_⟩
  . rw [h] at e1
    cases e1
    obtain ⟨_,e3,_⟩:=e2.of (q_fin s.p)
    exact (wd_eq1 rr s.r e3).symm
  . rw [h] at e1
    cases e1
theorem fprod_ev {p q r:Int} (rp:rng p) (pp:pok p=true) (rq:rng q) (pq:pok q=true) (rr:rng r) (h:Ieee.double.mul (wd p) (wd q)=some (wd r)):fprod p q=r:=by
  have c:=cls_prod pp rp pq rq
  rcases mul_FW (FW.pat (q_fin pp) rp) (FW.pat (q_fin pq) rq) with ⟨z,e1,e2⟩ | ⟨e1,_⟩
  . rw [h] at e1
    cases e1
    obtain ⟨_,e3,_⟩:=e2.of c
    exact (wd_eq1 rr (fprod_rng rp rq) e3).symm
  . rw [h] at e1
    cases e1
def one1:Int:=4607182418800017408
theorem rng_one:rng one1:=by unfold rng one1; omega
theorem rng_nil:rng 0:=by unfold rng; omega
theorem fx_one:Fx 872 1226 one1:=(tame_Mz rng_one (by decide)).fx.up (by decide)
theorem fx_nil:Fx 872 1226 0:=fx_zero
theorem s10:fsum one1 (neg 0)=one1:=fsum_ev fx_one fx_nil.neg.1 (by decide) rng_one (by decide +kernel)
theorem s00:fsum 0 (neg 0)=0:=fsum_ev fx_nil fx_nil.neg.1 (by decide) rng_nil (by decide +kernel)
theorem t10:fsum one1 0=one1:=fsum_ev fx_one fx_nil (by decide) rng_one (by decide +kernel)
theorem t01:fsum 0 one1=one1:=fsum_ev fx_nil fx_one (by decide) rng_one (by decide +kernel)
theorem t00:fsum 0 0=0:=fsum_ev fx_nil fx_nil (by decide) rng_nil (by decide +kernel)
theorem p11:fprod one1 one1=one1:=fprod_ev rng_one (by decide) rng_one (by decide) rng_one (by decide +kernel)
theorem p10:fprod one1 0=0:=fprod_ev rng_one (by decide) rng_nil (by decide) rng_nil (by decide +kernel)
theorem p01:fprod 0 one1=0:=fprod_ev rng_nil (by decide) rng_one (by decide) rng_nil (by decide +kernel)
theorem p00:fprod 0 0=0:=fprod_ev rng_nil (by decide) rng_nil (by decide) rng_nil (by decide +kernel)
theorem pA1:fprod sA one1=sA:=fprod_ev rng_sA (by decide) rng_one (by decide) rng_sA (by decide +kernel)
theorem r_one:rg one1=one1:=by decide
theorem r_nil:rg 0=0:=by decide
set_option maxRecDepth 100000 in
theorem lnum12 (e:Int) (W:World):Calls Tryz.prog 10 #[.int .i64 e] W fun r w'=>r=.returned (.int .i64 e)∧w'=W:=by
  go_enter Tryz.func10,Tryz.ntmps10
  go_wp2
  go_ret
  exact ⟨rfl,rfl⟩
def sal (p k:Nat):Int:=if p=k then one1 else 0
theorem rng_sal (p k:Nat):rng (sal p k):=by unfold sal; split; exact rng_one; exact rng_nil
theorem u_sal (p k:Nat) (hp:p<3) (hk:k<3):uL sal 3 p k=if p=k then one1 else 0:=by
  unfold uL sal
  rw [if_pos hp,if_neg (show ¬ (3=k) by omega)]
  by_cases e:p=k
  . rw [if_pos e,s10]
  . rw [if_neg e,s00]
theorem m_sal (p q:Nat) (hp:p<3) (hq:q<3):pL (uL sal 3) p q=if p=0∧q=1 then one1 else 0:=by
  unfold pL
  rw [u_sal p 0 hp (by decide),u_sal q 1 hq (by decide)]
  by_cases a:p=0 <;> by_cases b:q=1
  . rw [if_pos a,if_pos b,if_pos ⟨a,b⟩,p11]
  . rw [if_pos a,if_neg b,if_neg (fun c=>b c.2),p10]
  . rw [if_neg a,if_pos b,if_neg (fun c=>a c.1),p01]
  . rw [if_neg a,if_neg b,if_neg (fun c=>a c.1),p00]
theorem d_sal:dt (uL sal 3) 0 1 2=one1:=by
  unfold dt mn
  rw [m_sal 1 2 (by decide) (by decide),m_sal 2 1 (by decide) (by decide),m_sal 0 2 (by decide) (by decide),m_sal 2 0 (by decide) (by decide),m_sal 0 1 (by decide) (by decide),m_sal 1 0 (by decide) (by decide),u_sal 0 2 (by decide) (by decide),u_sal 1 2 (by decide) (by decide),u_sal 2 2 (by decide) (by decide)]
  simp only [reduceIte,Nat.reduceEqDiff,and_true,and_false,false_and,true_and]
  rw [s00,p00,s00,s10,p11,t01]
theorem x_sal:sxz (uL sal 3) 0 1 2=one1:=by
  unfold sxz sz
  rw [m_sal 1 2 (by decide) (by decide),m_sal 2 1 (by decide) (by decide),m_sal 0 2 (by decide) (by decide),m_sal 2 0 (by decide) (by decide),m_sal 0 1 (by decide) (by decide),m_sal 1 0 (by decide) (by decide),u_sal 0 2 (by decide) (by decide),u_sal 1 2 (by decide) (by decide),u_sal 2 2 (by decide) (by decide)]
  simp only [reduceIte,Nat.reduceEqDiff,and_true,and_false,false_and,true_and,r_one,r_nil]
  rw [t00,p00,t00,t10,p11,t01]
theorem z_sal (i k:Nat):Mz (sal i k):=tame_Mz (rng_sal i k) (by unfold sal; split <;> decide)
theorem st_sal:st_side sal=1:=by
  unfold st_side
  rw [if_pos (by decide),d_sal,x_sal,pA1,if_pos (by decide)]
theorem ord_sal:ord (dX (vL sal 3) 0 1 2) 0=1:=by
  rw [<- sgn_side rng_sal (fun i _ k _=>z_sal i k) (by rw [d_sal,x_sal,pA1]; decide),d_sal]
  decide
set_option maxRecDepth 100000 in
set_option maxHeartbeats 1000000 in
theorem alive12 (w:World) (H:Hold4 w):Calls Tryz.prog 6 #[] w fun e w'=>e=.returned (.bool true)∧Below w.heap.size w w':=by
  have CS:Hid (∀ W,Hold4 W->Calls Tryz.prog 7 #[.agg #[.int .i64 4607182418800017408,.int .i64 0,.int .i64 0],.agg #[.int .i64 0,.int .i64 4607182418800017408,.int .i64 0],.agg #[.int .i64 0,.int .i64 0,.int .i64 4607182418800017408],.agg #[.int .i64 0,.int .i64 0,.int .i64 0]] W fun e w'=>e=.returned (.tuple #[.agg #[.int .i64 1,.int .i64 1],.int .i64 0])∧Below W.heap.size W w'):=fun W hW=>by
    have:=sSide_ok sal W rng_sal (by decide) hW
    rw [ord_sal,st_sal] at this
    exact this
  have CN:Hid (∀ W,Calls Tryz.prog 10 #[.int .i64 0] W fun r w'=>r=.returned (.int .i64 0)∧w'=W):=fun W=>lnum12 _ W
  go_enter Tryz.func6,Tryz.ntmps6
  go_wp2_with fail
  refine (CS.out _ H).mono ?_
  rintro _ y1 ⟨rfl,hw⟩
  have v_k:=heap_a1 y1 (.cells #[.int .i64 1,.int .i64 1] 27)
  have k0:=blkC v_k 0 rfl
  have k1:=blkC v_k 1 rfl
  go_wp2_with (first | (go_at_call 10; refine (CN.out _).mono ?_; rintro _ _ ⟨rfl,rfl⟩))
  go_ret
  exact ⟨rfl,bel_trans hw (bel_alloc _ _)⟩
end Go.Proofs.YtcklaogdjpbagaaGreatDoor
namespace Go.Proofs.YtcklaogdjpbagaaGreatDoor
open Go Go.ChangeShapes Go.WideShapes Go.ChangeAt Go.RowKit Go.Proofs.YtcklaogdjpbagaaGreatDoor.M
theorem q_cellsSpace:Tryz.prog.cellsOf 23=3:=by kernel_rfl
theorem q_cellsInt3:Tryz.prog.cellsOf 3=1:=by kernel_rfl
set_option maxRecDepth 100000 in
theorem space_cells {H:Type} {enc:TypeId × Value->H} {W:World} {n:Nat} {cs:List Value} {x:DataW H × List MemPlace}
    (h:DataW.trod enc Tryz.prog W 0 (fun _=>true) true n 23 cs=some x) :
    ∃ a b c:Int,cs=[.int .i64 a,.int .i64 b,.int .i64 c]∧rng a∧rng b∧rng c:=by
  obtain ⟨xs,m,_,rfl,hl,hlen,hf⟩:=DataW.trod_struct Tryz.underlying23 h
  rw [q_cellsSpace] at hl
  match cs,hl with
  | [v0,v1,v2],_=>
    match xs,hlen with
    | [y0,y1,y2],_=>
      have f0:DataW.trod enc Tryz.prog W 0 (fun _=>true) true m 3 (([v0,v1,v2].drop 0).take (Tryz.prog.cellsOf 3))=some y0:=hf 0 _ rfl
      have f1:DataW.trod enc Tryz.prog W 0 (fun _=>true) true m 3 (([v0,v1,v2].drop 1).take (Tryz.prog.cellsOf 3))=some y1:=hf 1 _ rfl
      have f2:DataW.trod enc Tryz.prog W 0 (fun _=>true) true m 3 (([v0,v1,v2].drop 2).take (Tryz.prog.cellsOf 3))=some y2:=hf 2 _ rfl
      rw [q_cellsInt3] at f0 f1 f2
      simp only [List.drop_zero,List.drop_succ_cons,List.take_succ_cons,List.take_zero] at f0 f1 f2
      obtain ⟨k0,e0,_,w0⟩:=DataW.trod_int Tryz.underlying3 f0
      obtain ⟨k1,e1,_,w1⟩:=DataW.trod_int Tryz.underlying3 f1
      obtain ⟨k2,e2,_,w2⟩:=DataW.trod_int Tryz.underlying3 f2
      simp at e0 e1 e2
      subst e0 e1 e2
      exact ⟨k0,k1,k2,rfl,rng_of w0,rng_of w1,rng_of w2⟩
theorem chop3 (cs:List Value) (k:Nat):cs.drop k=(cs.drop k).take 3 ++ cs.drop (k+3):=by
  rw [<- List.drop_drop]
  exact (List.take_append_drop 3 _).symm
def five (s:Nat->Nat->Int):Array Value:=#[.int .i64 (s 0 0),.int .i64 (s 0 1),.int .i64 (s 0 2),.int .i64 (s 1 0),.int .i64 (s 1 1),.int .i64 (s 1 2),.int .i64 (s 2 0),.int .i64 (s 2 1),.int .i64 (s 2 2),.int .i64 (s 3 0),.int .i64 (s 3 1),.int .i64 (s 3 2),.int .i64 (s 4 0),.int .i64 (s 4 1),.int .i64 (s 4 2)]
theorem rng_l3 {a b c:Int} (h:rng a∧rng b∧rng c) (k:Nat):rng (l3 a b c k):=by
  unfold l3
  split
  . exact h.1
  . split
    . exact h.2.1
    . exact h.2.2
end Go.Proofs.YtcklaogdjpbagaaGreatDoor
namespace Go.Proofs.YtcklaogdjpbagaaGreatDoor
open Go Go.RowKit Go.Proofs.YtcklaogdjpbagaaGreatDoor.M
set_option maxRecDepth 100000 in
set_option maxHeartbeats 4000000 in
theorem osame_D {w:World} {x y:Value} {A B:Int} (hx:DNum w x A) (hy:DNum w y B) :
    Calls Tryz.prog 11 #[x,y] w fun r w'=>r=.returned (.bool (decide (A=B)))∧Below w.heap.size w w':=by
  obtain ⟨g,s,m,e,rfl,dx,ao,n,ca,a,rfl,hR,hN,rfl⟩:=hx
  obtain ⟨g',s',m',e',rfl,dy,bo,n',cb,b,rfl,hR',hN',rfl⟩:=hy
  have hu:A=B->g=g'∧val a n=val b n'∧e=e':=fun q=>by subst q; exact dx.unique dy
  have hm1:=hR.max
  have hl1:=hR.le
  have hm2:=hR'.max
  have hl2:=hR'.le
  have hb2:=bel_alloc2 w (.cells #[.bool g,.slice ao n ca,.int .i64 e] 33) (.cells #[.bool g',.slice bo n' cb,.int .i64 e'] 33)
  by_cases hg:g=g'∧e=e'∧n=n'
  . obtain ⟨rfl,rfl,rfl⟩:=hg
    have q0:=heap_a2 w (.cells #[.bool g,.slice ao n ca,.int .i64 e] 33) (.cells #[.bool g,.slice bo n cb,.int .i64 e] 33)
    have q1:=heap_b2 w (.cells #[.bool g,.slice ao n ca,.int .i64 e] 33) (.cells #[.bool g,.slice bo n cb,.int .i64 e] 33)
    have HR:=hR.keeps hb2
    have HR':=hR'.keeps hb2
    have hAB:(∀ i,i<n->a i=b i)->A=B:=fun q=>by rw [dx.val,dy.val,val_congr q]
    go_enter Tryz.func11,Tryz.ntmps11
    go_wp2_with fail
    have k1:=blkC q0 1 rfl
    have j1:=blkC q1 1 rfl
    clear q0 q1 hu hR hR'
    generalize (w.alloc (.cells #[.bool g,.slice ao n ca,.int .i64 e] 33)).alloc (.cells #[.bool g,.slice bo n cb,.int .i64 e] 33)=wx at hb2 k1 j1 HR HR' ⊢
    have HNa:Hid (Nrm a n):=hN
    have HNb:Hid (Nrm b n):=hN'
    have HAB:Hid ((∀ i,i<n->a i=b i)->A=B):=hAB
    have HBA:Hid (A=B->∀ i,i<n->a i=b i):=fun q=>val_inj hN.1 hN'.1 (by subst q; exact (dx.unique dy).2.1)
    clear hN hN' hAB dx dy
    go_loopw [5] (fun i wr=>∃ k:Nat,k<=n∧i=.int .i64 k∧Hid (∀ i,i<k->a i=b i)∧Below wx.heap.size wx wr) (fun i _=>n-(intOf i).toNat)
    case atStart=>exact ⟨0,Nat.zero_le _,rfl,fun i hi=>by omega,bel_refl _⟩
    case round=>
      obtain ⟨k,hk,rfl,HS,hbw⟩:=hrel
      have k1':=cell_keeps k1 hbw
      have j1':=cell_keeps j1 hbw
      by_cases hlt:k<n
      . obtain ⟨ba,fa,rfl,hba,hca⟩:=HR.spot (by omega)
        obtain ⟨bb,fb,rfl,hbb,hcb⟩:=HR'.spot (by omega)
        have c1:=(hbw.cell (p:=⟨ba,fa+k,none⟩) hba).trans (hca k (by omega))
        have c2:=(hbw.cell (p:=⟨bb,fb+k,none⟩) hbb).trans (hcb k (by omega))
        clear hca hcb
        by_cases h1:a k=b k
        . have h2:(a k == b k)=true:=by simpa using h1
          rw [h1] at c1
          go_wp2_with fail
          go_quiet (fail)
          go_wp2
          go_roundw
          case rel=>exact ⟨k+1,by omega,by go_num,fun i hi=>by by_cases e:i=k; (· rw [e]; exact h1); (· exact HS.out i (by omega)),bDrewN hbw _⟩
          case measure=>simp [intOf]; try omega
        . have h2:(a k == b k)=false:=by simpa using h1
          have hne:A≠B:=fun q=>h1 (HBA.out q k hlt)
          have hdd:Hid (false=decide (A=B)):=(decide_eq_false hne).symm
          clear hne
          go_wp2_with fail
          go_quiet (fail)
          go_wp2
          go_ret
          exact ⟨ret_bool hdd.out,bel_trans hb2 (bDrewN hbw _)⟩
      . obtain rfl:k=n:=by omega
        have hdd:Hid (true=decide (A=B)):=(decide_eq_true (HAB.out HS.out)).symm
        go_wp2
        go_ret
        exact ⟨ret_bool hdd.out,bel_trans hb2 hbw⟩
  . have hne:A≠B:=fun q=>hg ⟨(hu q).1,(hu q).2.2,nrm_len hN hN' (hu q).2.1⟩
    rw [decide_eq_false hne]
    by_cases c1:g=g'
    . subst c1
      by_cases c2:e=e'
      . subst c2
        have c3:n≠n':=fun q=>hg ⟨rfl,rfl,q⟩
        have c4:((n:Int) == (n':Int))=false:=by simp; omega
        clear hu
        go_enter Tryz.func11,Tryz.ntmps11
        go_wp2
        all_goals go_ret
        all_goals exact ⟨rfl,hb2⟩
      . have c4:(e == e')=false:=by simpa using c2
        clear hu
        go_enter Tryz.func11,Tryz.ntmps11
        go_wp2
        all_goals go_ret
        all_goals exact ⟨rfl,hb2⟩
    . have c4:(g == g')=false:=by simpa using c1
      clear hu
      go_enter Tryz.func11,Tryz.ntmps11
      go_wp2
      all_goals go_ret
      all_goals exact ⟨rfl,hb2⟩
end Go.Proofs.YtcklaogdjpbagaaGreatDoor
