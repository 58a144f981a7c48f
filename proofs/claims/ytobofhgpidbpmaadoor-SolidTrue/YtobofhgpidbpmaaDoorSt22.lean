/-
  SolidTrue's rounds.
-/
import Derived.Test.YtobofhgpidbpmaaDoorSt21
set_option linter.unusedVariables false
set_option linter.unusedSimpArgs false
namespace Go.Proofs.YtobofhgpidbpmaaDoor.solidTrue
open Go Go.ChangeShapes Go.WideShapes Go.ChangeAt Go.RowKit Go.Proofs.YtobofhgpidbpmaaDoor Go.Proofs.YtobofhgpidbpmaaDoor.M
set_option maxRecDepth 100000 in
set_option maxHeartbeats 60000000 in
theorem p01 {s:Nat->Nat->Int} {w:World} {vs ws st sv tp01 td01 ts01 tp02 td02 ts02 tp03 td03 ts03 tp04 td04 tp12 td12 ts12 tp13 td13 ts13 tp14 td14 tp23 td23 ts23 tp24 td24 tp34 td34:Int} (C:Cts s w vs ws st sv tp01 td01 ts01 tp02 td02 ts02 tp03 td03 ts03 tp04 td04 tp12 td12 ts12 tp13 td13 ts13 tp14 td14 tp23 td23 ts23 tp24 td24 tp34 td34) (H:Hold4 w):(pre C H).g01:=by
  have nvs:=C.nvs
  have nws:=C.nws
  have CN:=C.CN
  have CP01:=C.CP01
  have CD01:=C.CD01
  have CS01:=C.CS01
  unfold pre
  dsimp only
  try clear C
  intro x1 y1 y2 y3 gv x3 y4 gx ox nx cx ex qx x4 y5 gw x5 y6 gy oy ny cy ey qy x6 y7 y8 z1 z2 z3 z4 z5 u14 z6 z7 z8 u92 u93 u94 u95 u96 u97 z9 z10 z11 z12 z13 z14 z15 z16 z17 z18 z19 z20 z21 z22 z23 z24 z25 z26 z27 z28 z29 z30 z31 z32 z33 z34 z35 z36 z37 z38 z39 z40 z41 z42 z43 z44 z45 z46 z47 z48 z49 z50 z51 z52 z53 z54 z55 z56 z57 z58 z59 z60 z61 z62 z63 z64 z65 z66 z67 z68 z69 z70 z71 z72 z73 z74 z75 z76 z77 z78 z79 z80 z81 z82 z83 z84 z85 z86 z87 z88 z89 z90 z91 z92 z93 z94 z95 z96 z97 z98 z99 z100 z101 z103 z104 wr u2 u15 u16 u17 u98 u99 u100 u101 u102 u103 u104 u105 u106 u107 u108 u109 u110 u111 u112 u113 u114 u115 u116 u117 u118 u119 u120 u121 u122 u123 u124 u125 u126 u127 u128 u129 u130 u131 u132 u133 u134 u135 u136 u137 u138 u139 u140 u141 u142 u143 u144 u145 u146 u147 u148 u149 u150 u151 u152 u153 u154 u155 u156 u157 u158 u159 u160 u161 u162 u163 u164 u165 u166 u167 u168 u169 u170 u171 u172 u173 u174 u175 u176 u177 u178 u179 u180 u181 u182 u183 u184 u185 u186 u187 u188 u189 u190 hb l_k v_k w_k hl0 hv0 hw0
  have f0:=blkC l_k 0 rfl
  have f1:=blkC l_k 1 rfl
  have f2:=blkC l_k 2 rfl
  have f3:=blkC l_k 3 rfl
  have f4:=blkC l_k 4 rfl
  have f5:=blkC l_k 5 rfl
  have f6:=blkC l_k 6 rfl
  have f7:=blkC l_k 7 rfl
  have f8:=blkC l_k 8 rfl
  have f9:=blkC l_k 9 rfl
  have f10:=blkC l_k 10 rfl
  have f11:=blkC l_k 11 rfl
  have f12:=blkC l_k 12 rfl
  have f13:=blkC l_k 13 rfl
  have f14:=blkC l_k 14 rfl
  go_wp2_with fail
  clear f0 f1 f2 f3 f4 f5 f6 f7 f8 f9 f10 f11 f12 f13 f14
  replace l_k:=heap_past (.cells #[.int .i64 (s 0 0),.int .i64 (s 0 1),.int .i64 (s 0 2),.int .i64 (s 1 0),.int .i64 (s 1 1),.int .i64 (s 1 2),.int .i64 (s 2 0),.int .i64 (s 2 1),.int .i64 (s 2 2),.int .i64 (s 3 0),.int .i64 (s 3 1),.int .i64 (s 3 2),.int .i64 (s 4 0),.int .i64 (s 4 1),.int .i64 (s 4 2)] 24) l_k
  replace v_k:=heap_past (.cells #[.int .i64 (s 0 0),.int .i64 (s 0 1),.int .i64 (s 0 2),.int .i64 (s 1 0),.int .i64 (s 1 1),.int .i64 (s 1 2),.int .i64 (s 2 0),.int .i64 (s 2 1),.int .i64 (s 2 2),.int .i64 (s 3 0),.int .i64 (s 3 1),.int .i64 (s 3 2),.int .i64 (s 4 0),.int .i64 (s 4 1),.int .i64 (s 4 2)] 24) v_k
  replace w_k:=heap_past (.cells #[.int .i64 (s 0 0),.int .i64 (s 0 1),.int .i64 (s 0 2),.int .i64 (s 1 0),.int .i64 (s 1 1),.int .i64 (s 1 2),.int .i64 (s 2 0),.int .i64 (s 2 1),.int .i64 (s 2 2),.int .i64 (s 3 0),.int .i64 (s 3 1),.int .i64 (s 3 2),.int .i64 (s 4 0),.int .i64 (s 4 1),.int .i64 (s 4 2)] 24) w_k
  have m_k:=heap_a1 wr (.cells #[.int .i64 (s 0 0),.int .i64 (s 0 1),.int .i64 (s 0 2),.int .i64 (s 1 0),.int .i64 (s 1 1),.int .i64 (s 1 2),.int .i64 (s 2 0),.int .i64 (s 2 1),.int .i64 (s 2 2),.int .i64 (s 3 0),.int .i64 (s 3 1),.int .i64 (s 3 2),.int .i64 (s 4 0),.int .i64 (s 4 1),.int .i64 (s 4 2)] 24)
  replace hb:=bel_trans hb (bel_alloc wr (.cells #[.int .i64 (s 0 0),.int .i64 (s 0 1),.int .i64 (s 0 2),.int .i64 (s 1 0),.int .i64 (s 1 1),.int .i64 (s 1 2),.int .i64 (s 2 0),.int .i64 (s 2 1),.int .i64 (s 2 2),.int .i64 (s 3 0),.int .i64 (s 3 1),.int .i64 (s 3 2),.int .i64 (s 4 0),.int .i64 (s 4 1),.int .i64 (s 4 2)] 24))
  have nl:w.heap.size≠wr.heap.size:=by have:=(Array.getElem?_eq_some_iff.1 l_k).1; have:=hl0; omega
  have nv:gv≠wr.heap.size:=by have:=hv0; omega
  have nw:gw≠wr.heap.size:=by have:=hw0; omega
  have gm0:w.heap.size<=wr.heap.size:=by have:=hl0; omega
  generalize hgm:wr.heap.size=gm at m_k nl nv nw gm0 ⊢
  clear hgm hl0 hv0 hw0
  generalize wr.alloc (.cells #[.int .i64 (s 0 0),.int .i64 (s 0 1),.int .i64 (s 0 2),.int .i64 (s 1 0),.int .i64 (s 1 1),.int .i64 (s 1 2),.int .i64 (s 2 0),.int .i64 (s 2 1),.int .i64 (s 2 2),.int .i64 (s 3 0),.int .i64 (s 3 1),.int .i64 (s 3 2),.int .i64 (s 4 0),.int .i64 (s 4 1),.int .i64 (s 4 2)] 24)=xm at l_k v_k w_k m_k hb ⊢
  have m1_k:(((xm.setCell ⟨gm,0,none⟩ (.int .i64 (s 1 0))).setCell ⟨gm,1,none⟩ (.int .i64 (s 1 1))).setCell ⟨gm,2,none⟩ (.int .i64 (s 1 2))).heap[gm]?=some (.cells #[.int .i64 (s 1 0),.int .i64 (s 1 1),.int .i64 (s 1 2),.int .i64 (s 1 0),.int .i64 (s 1 1),.int .i64 (s 1 2),.int .i64 (s 2 0),.int .i64 (s 2 1),.int .i64 (s 2 2),.int .i64 (s 3 0),.int .i64 (s 3 1),.int .i64 (s 3 2),.int .i64 (s 4 0),.int .i64 (s 4 1),.int .i64 (s 4 2)] 24 (0,0)):=heap_set (heap_set (heap_set m_k 0 (.int .i64 (s 1 0))) 1 (.int .i64 (s 1 1))) 2 (.int .i64 (s 1 2))
  have m2_k:((((((xm.setCell ⟨gm,0,none⟩ (.int .i64 (s 1 0))).setCell ⟨gm,1,none⟩ (.int .i64 (s 1 1))).setCell ⟨gm,2,none⟩ (.int .i64 (s 1 2))).setCell ⟨gm,3,none⟩ (.int .i64 (s 0 0))).setCell ⟨gm,4,none⟩ (.int .i64 (s 0 1))).setCell ⟨gm,5,none⟩ (.int .i64 (s 0 2))).heap[gm]?=some (.cells #[.int .i64 (s 1 0),.int .i64 (s 1 1),.int .i64 (s 1 2),.int .i64 (s 0 0),.int .i64 (s 0 1),.int .i64 (s 0 2),.int .i64 (s 2 0),.int .i64 (s 2 1),.int .i64 (s 2 2),.int .i64 (s 3 0),.int .i64 (s 3 1),.int .i64 (s 3 2),.int .i64 (s 4 0),.int .i64 (s 4 1),.int .i64 (s 4 2)] 24 (0,0)):=heap_set (heap_set (heap_set m1_k 3 (.int .i64 (s 0 0))) 4 (.int .i64 (s 0 1))) 5 (.int .i64 (s 0 2))
  have q0:=blkC m_k 0 rfl
  have z0:=blkF m_k 0
  have q1:=blkC m_k 1 rfl
  have z1:=blkF m_k 1
  have q2:=blkC m_k 2 rfl
  have z2:=blkF m_k 2
  have q3:=blkC m_k 3 rfl
  have z3:=blkF m_k 3
  have q4:=blkC m_k 4 rfl
  have z4:=blkF m_k 4
  have q5:=blkC m_k 5 rfl
  have z5:=blkF m_k 5
  have p3:=blkC m1_k 3 rfl
  have y3:=blkF m1_k 3
  have p4:=blkC m1_k 4 rfl
  have y4:=blkF m1_k 4
  have p5:=blkC m1_k 5 rfl
  have y5:=blkF m1_k 5
  go_region
  clear q0 z0 q1 z1 q2 z2 q3 z3 q4 z4 q5 z5
  clear p3 y3 p4 y4 p5 y5
  replace l_k:=heap_ne (heap_ne (heap_ne (heap_ne (heap_ne (heap_ne l_k nl 0 (.int .i64 (s 1 0))) nl 1 (.int .i64 (s 1 1))) nl 2 (.int .i64 (s 1 2))) nl 3 (.int .i64 (s 0 0))) nl 4 (.int .i64 (s 0 1))) nl 5 (.int .i64 (s 0 2))
  replace v_k:=heap_ne (heap_ne (heap_ne (heap_ne (heap_ne (heap_ne v_k nv 0 (.int .i64 (s 1 0))) nv 1 (.int .i64 (s 1 1))) nv 2 (.int .i64 (s 1 2))) nv 3 (.int .i64 (s 0 0))) nv 4 (.int .i64 (s 0 1))) nv 5 (.int .i64 (s 0 2))
  replace w_k:=heap_ne (heap_ne (heap_ne (heap_ne (heap_ne (heap_ne w_k nw 0 (.int .i64 (s 1 0))) nw 1 (.int .i64 (s 1 1))) nw 2 (.int .i64 (s 1 2))) nw 3 (.int .i64 (s 0 0))) nw 4 (.int .i64 (s 0 1))) nw 5 (.int .i64 (s 0 2))
  clear m_k m1_k
  replace hb:=(((((hb.setCell (p:=⟨gm,0,none⟩) gm0 (.int .i64 (s 1 0))).setCell (p:=⟨gm,1,none⟩) gm0 (.int .i64 (s 1 1))).setCell (p:=⟨gm,2,none⟩) gm0 (.int .i64 (s 1 2))).setCell (p:=⟨gm,3,none⟩) gm0 (.int .i64 (s 0 0))).setCell (p:=⟨gm,4,none⟩) gm0 (.int .i64 (s 0 1))).setCell (p:=⟨gm,5,none⟩) gm0 (.int .i64 (s 0 2))
  generalize (((((xm.setCell ⟨gm,0,none⟩ (.int .i64 (s 1 0))).setCell ⟨gm,1,none⟩ (.int .i64 (s 1 1))).setCell ⟨gm,2,none⟩ (.int .i64 (s 1 2))).setCell ⟨gm,3,none⟩ (.int .i64 (s 0 0))).setCell ⟨gm,4,none⟩ (.int .i64 (s 0 1))).setCell ⟨gm,5,none⟩ (.int .i64 (s 0 2))=x8 at l_k v_k w_k m2_k hb ⊢
  have hD:=(bel_refl x8).drew
  replace l_k:=blk_us hD l_k
  replace v_k:=blk_us hD v_k
  replace w_k:=blk_us hD w_k
  replace m2_k:=blk_us hD m2_k
  replace hb:=bel_trans hb hD
  clear hD
  generalize x8.drew=x8 at l_k v_k w_k m2_k hb ⊢
  have q0:=blkC m2_k 0 rfl
  have q1:=blkC m2_k 1 rfl
  have q2:=blkC m2_k 2 rfl
  have q3:=blkC m2_k 3 rfl
  have q4:=blkC m2_k 4 rfl
  have q5:=blkC m2_k 5 rfl
  have q6:=blkC m2_k 6 rfl
  have q7:=blkC m2_k 7 rfl
  have q8:=blkC m2_k 8 rfl
  have q9:=blkC m2_k 9 rfl
  have q10:=blkC m2_k 10 rfl
  have q11:=blkC m2_k 11 rfl
  have q12:=blkC m2_k 12 rfl
  have q13:=blkC m2_k 13 rfl
  have q14:=blkC m2_k 14 rfl
  go_wp2_with fail
  clear q0 q1 q2 q3 q4 q5 q6 q7 q8 q9 q10 q11 q12 q13 q14
  refine (CP01.out _ hb).mono ?_
  rintro _ y9 ⟨rfl,h9⟩
  have hl0:=(Array.getElem?_eq_some_iff.1 (blk_us h9 l_k)).1
  have hv0:=(Array.getElem?_eq_some_iff.1 (blk_us h9 v_k)).1
  have hw0:=(Array.getElem?_eq_some_iff.1 (blk_us h9 w_k)).1
  have hm0:=(Array.getElem?_eq_some_iff.1 (blk_us h9 m2_k)).1
  have ul:w.heap.size≠y9.heap.size:=by omega
  have uv:gv≠y9.heap.size:=by omega
  have uw:gw≠y9.heap.size:=by omega
  have um:gm≠y9.heap.size:=by omega
  have gu0:w.heap.size<=y9.heap.size:=by omega
  clear hl0 hv0 hw0 hm0
  replace l_k:=heap_past (.cells #[.int .i64 (-ws),.int .i64 tp01] 29) (blk_us h9 l_k)
  replace v_k:=heap_past (.cells #[.int .i64 (-ws),.int .i64 tp01] 29) (blk_us h9 v_k)
  replace w_k:=heap_past (.cells #[.int .i64 (-ws),.int .i64 tp01] 29) (blk_us h9 w_k)
  replace m2_k:=heap_past (.cells #[.int .i64 (-ws),.int .i64 tp01] 29) (blk_us h9 m2_k)
  have u_k:=heap_a1 y9 (.cells #[.int .i64 (-ws),.int .i64 tp01] 29)
  replace hb:=bel_trans hb (bel_trans h9 (bel_alloc y9 (.cells #[.int .i64 (-ws),.int .i64 tp01] 29)))
  clear h9
  have w_0:=blkC w_k 0 rfl
  have u_0:=blkC u_k 0 rfl
  have q0:=blkC m2_k 0 rfl
  have q1:=blkC m2_k 1 rfl
  have q2:=blkC m2_k 2 rfl
  have q3:=blkC m2_k 3 rfl
  have q4:=blkC m2_k 4 rfl
  have q5:=blkC m2_k 5 rfl
  have q6:=blkC m2_k 6 rfl
  have q7:=blkC m2_k 7 rfl
  have q8:=blkC m2_k 8 rfl
  have q9:=blkC m2_k 9 rfl
  have q10:=blkC m2_k 10 rfl
  have q11:=blkC m2_k 11 rfl
  go_wp2_with (first | (go_at_call 11; refine (CN.out _).mono ?_; rintro _ _ ⟨rfl,rfl⟩))
  clear q0 q1 q2 q3 q4 q5 q6 q7 q8 q9 q10 q11
  clear w_0 u_0
  generalize hgu:y9.heap.size=gu at u_k ul uv uw um gu0 ⊢
  clear hgu
  generalize y9.alloc (.cells #[.int .i64 (-ws),.int .i64 tp01] 29)=x9 at l_k v_k w_k m2_k u_k hb ⊢
  refine (CS01.out _ hb).mono ?_
  rintro _ y10 ⟨rfl,h10⟩
  replace l_k:=blk_us h10 l_k
  replace v_k:=blk_us h10 v_k
  replace w_k:=blk_us h10 w_k
  replace m2_k:=blk_us h10 m2_k
  replace u_k:=blk_us h10 u_k
  replace hb:=bel_trans hb h10
  clear h10
  have u_0:=blkC u_k 0 rfl
  have u_1:=blkC u_k 1 rfl
  have u_2:=blkF u_k 0
  have u_3:=blkF u_k 1
  go_wp2_with fail
  clear u_0 u_1 u_2 u_3
  have u2_k:((y10.setCell ⟨gu,0,none⟩ (.int .i64 (-vs))).setCell ⟨gu,1,none⟩ (.int .i64 ts01)).heap[gu]?=some (.cells #[.int .i64 (-vs),.int .i64 ts01] 29 (0,0)):=heap_set (heap_set u_k 0 (.int .i64 (-vs))) 1 (.int .i64 ts01)
  replace l_k:=heap_ne (heap_ne l_k ul 0 (.int .i64 (-vs))) ul 1 (.int .i64 ts01)
  replace v_k:=heap_ne (heap_ne v_k uv 0 (.int .i64 (-vs))) uv 1 (.int .i64 ts01)
  replace w_k:=heap_ne (heap_ne w_k uw 0 (.int .i64 (-vs))) uw 1 (.int .i64 ts01)
  replace m2_k:=heap_ne (heap_ne m2_k um 0 (.int .i64 (-vs))) um 1 (.int .i64 ts01)
  clear u_k
  have u_k:=u2_k
  clear u2_k
  replace hb:=(hb.setCell (p:=⟨gu,0,none⟩) gu0 (.int .i64 (-vs))).setCell (p:=⟨gu,1,none⟩) gu0 (.int .i64 ts01)
  generalize (y10.setCell ⟨gu,0,none⟩ (.int .i64 (-vs))).setCell ⟨gu,1,none⟩ (.int .i64 ts01)=x10 at l_k v_k w_k m2_k u_k hb ⊢
  have v_0:=blkC v_k 0 rfl
  have u_0:=blkC u_k 0 rfl
  have f0:=blkC l_k 0 rfl
  have f1:=blkC l_k 1 rfl
  have f2:=blkC l_k 2 rfl
  have f3:=blkC l_k 3 rfl
  have f4:=blkC l_k 4 rfl
  have f5:=blkC l_k 5 rfl
  have f6:=blkC l_k 6 rfl
  have f7:=blkC l_k 7 rfl
  have f8:=blkC l_k 8 rfl
  have f9:=blkC l_k 9 rfl
  have f10:=blkC l_k 10 rfl
  have f11:=blkC l_k 11 rfl
  have f12:=blkC l_k 12 rfl
  have f13:=blkC l_k 13 rfl
  have f14:=blkC l_k 14 rfl
  try dsimp only
  have hGo:Hid True:=trivial
  repeat (have _q:=hGo; clear _q; first | (refine wp_store_row 24 _ _ rfl gm #[.int .i64 (s 0 0),.int .i64 (s 0 1),.int .i64 (s 0 2),.int .i64 (s 1 0),.int .i64 (s 1 1),.int .i64 (s 1 2),.int .i64 (s 2 0),.int .i64 (s 2 1),.int .i64 (s 2 2),.int .i64 (s 3 0),.int .i64 (s 3 1),.int .i64 (s 3 2),.int .i64 (s 4 0),.int .i64 (s 4 1),.int .i64 (s 4 2)] rfl rfl _ _ m2_k (by kernel_rfl) rfl (by kernel_rfl) ?_; clear hGo; dsimp only [Act.put]) | (go_at_call 11; refine (CN.out _).mono ?_; rintro _ wz ⟨rfl,hwz⟩; replace hwz:=hwz.symm; subst hwz; dsimp only) | go_step)
  clear f0 f1 f2 f3 f4 f5 f6 f7 f8 f9 f10 f11 f12 f13 f14
  clear v_0 u_0
  have m3_k:=setRow_heap x10 gm _ #[.int .i64 (s 0 0),.int .i64 (s 0 1),.int .i64 (s 0 2),.int .i64 (s 1 0),.int .i64 (s 1 1),.int .i64 (s 1 2),.int .i64 (s 2 0),.int .i64 (s 2 1),.int .i64 (s 2 2),.int .i64 (s 3 0),.int .i64 (s 3 1),.int .i64 (s 3 2),.int .i64 (s 4 0),.int .i64 (s 4 1),.int .i64 (s 4 2)] _ _ m2_k
  replace l_k:=(setRow_other x10 gm _ #[.int .i64 (s 0 0),.int .i64 (s 0 1),.int .i64 (s 0 2),.int .i64 (s 1 0),.int .i64 (s 1 1),.int .i64 (s 1 2),.int .i64 (s 2 0),.int .i64 (s 2 1),.int .i64 (s 2 2),.int .i64 (s 3 0),.int .i64 (s 3 1),.int .i64 (s 3 2),.int .i64 (s 4 0),.int .i64 (s 4 1),.int .i64 (s 4 2)] nl).trans l_k
  replace v_k:=(setRow_other x10 gm _ #[.int .i64 (s 0 0),.int .i64 (s 0 1),.int .i64 (s 0 2),.int .i64 (s 1 0),.int .i64 (s 1 1),.int .i64 (s 1 2),.int .i64 (s 2 0),.int .i64 (s 2 1),.int .i64 (s 2 2),.int .i64 (s 3 0),.int .i64 (s 3 1),.int .i64 (s 3 2),.int .i64 (s 4 0),.int .i64 (s 4 1),.int .i64 (s 4 2)] nv).trans v_k
  replace w_k:=(setRow_other x10 gm _ #[.int .i64 (s 0 0),.int .i64 (s 0 1),.int .i64 (s 0 2),.int .i64 (s 1 0),.int .i64 (s 1 1),.int .i64 (s 1 2),.int .i64 (s 2 0),.int .i64 (s 2 1),.int .i64 (s 2 2),.int .i64 (s 3 0),.int .i64 (s 3 1),.int .i64 (s 3 2),.int .i64 (s 4 0),.int .i64 (s 4 1),.int .i64 (s 4 2)] nw).trans w_k
  replace u_k:=(setRow_other x10 gm _ #[.int .i64 (s 0 0),.int .i64 (s 0 1),.int .i64 (s 0 2),.int .i64 (s 1 0),.int .i64 (s 1 1),.int .i64 (s 1 2),.int .i64 (s 2 0),.int .i64 (s 2 1),.int .i64 (s 2 2),.int .i64 (s 3 0),.int .i64 (s 3 1),.int .i64 (s 3 2),.int .i64 (s 4 0),.int .i64 (s 4 1),.int .i64 (s 4 2)] um.symm).trans u_k
  replace hb:Below w.heap.size w (x10.setRow gm #[.int .i64 (s 0 0),.int .i64 (s 0 1),.int .i64 (s 0 2),.int .i64 (s 1 0),.int .i64 (s 1 1),.int .i64 (s 1 2),.int .i64 (s 2 0),.int .i64 (s 2 1),.int .i64 (s 2 2),.int .i64 (s 3 0),.int .i64 (s 3 1),.int .i64 (s 3 2),.int .i64 (s 4 0),.int .i64 (s 4 1),.int .i64 (s 4 2)]):=hb.trans ⟨rfl,rfl,rfl,by simp [World.setRow],fun k hk=>setRow_other _ _ _ _ (by omega)⟩
  clear m2_k
  generalize (x10.setRow gm #[.int .i64 (s 0 0),.int .i64 (s 0 1),.int .i64 (s 0 2),.int .i64 (s 1 0),.int .i64 (s 1 1),.int .i64 (s 1 2),.int .i64 (s 2 0),.int .i64 (s 2 1),.int .i64 (s 2 2),.int .i64 (s 3 0),.int .i64 (s 3 1),.int .i64 (s 3 2),.int .i64 (s 4 0),.int .i64 (s 4 1),.int .i64 (s 4 2)])=x11 at l_k v_k w_k u_k m3_k hb ⊢
  have q0:=blkC m3_k 0 rfl
  have q1:=blkC m3_k 1 rfl
  have q2:=blkC m3_k 2 rfl
  have q3:=blkC m3_k 3 rfl
  have q4:=blkC m3_k 4 rfl
  have q5:=blkC m3_k 5 rfl
  have q6:=blkC m3_k 6 rfl
  have q7:=blkC m3_k 7 rfl
  have q8:=blkC m3_k 8 rfl
  have q9:=blkC m3_k 9 rfl
  have q10:=blkC m3_k 10 rfl
  have q11:=blkC m3_k 11 rfl
  have q12:=blkC m3_k 12 rfl
  have q13:=blkC m3_k 13 rfl
  have q14:=blkC m3_k 14 rfl
  have z0:=blkF m3_k 0
  have z1:=blkF m3_k 1
  have z2:=blkF m3_k 2
  go_wp2_with fail
  clear q0 q1 q2 q3 q4 q5 q6 q7 q8 q9 q10 q11 q12 q13 q14
  clear z0 z1 z2
  have m4_k:(((x11.setCell ⟨gm,0,none⟩ (.int .i64 (s 1 0))).setCell ⟨gm,1,none⟩ (.int .i64 (s 1 1))).setCell ⟨gm,2,none⟩ (.int .i64 (s 1 2))).heap[gm]?=some (.cells #[.int .i64 (s 1 0),.int .i64 (s 1 1),.int .i64 (s 1 2),.int .i64 (s 1 0),.int .i64 (s 1 1),.int .i64 (s 1 2),.int .i64 (s 2 0),.int .i64 (s 2 1),.int .i64 (s 2 2),.int .i64 (s 3 0),.int .i64 (s 3 1),.int .i64 (s 3 2),.int .i64 (s 4 0),.int .i64 (s 4 1),.int .i64 (s 4 2)] 24 (0,0)):=heap_set (heap_set (heap_set m3_k 0 (.int .i64 (s 1 0))) 1 (.int .i64 (s 1 1))) 2 (.int .i64 (s 1 2))
  replace l_k:=heap_ne (heap_ne (heap_ne l_k nl 0 (.int .i64 (s 1 0))) nl 1 (.int .i64 (s 1 1))) nl 2 (.int .i64 (s 1 2))
  replace v_k:=heap_ne (heap_ne (heap_ne v_k nv 0 (.int .i64 (s 1 0))) nv 1 (.int .i64 (s 1 1))) nv 2 (.int .i64 (s 1 2))
  replace w_k:=heap_ne (heap_ne (heap_ne w_k nw 0 (.int .i64 (s 1 0))) nw 1 (.int .i64 (s 1 1))) nw 2 (.int .i64 (s 1 2))
  replace u_k:=heap_ne (heap_ne (heap_ne u_k um.symm 0 (.int .i64 (s 1 0))) um.symm 1 (.int .i64 (s 1 1))) um.symm 2 (.int .i64 (s 1 2))
  replace hb:=((hb.setCell (p:=⟨gm,0,none⟩) gm0 (.int .i64 (s 1 0))).setCell (p:=⟨gm,1,none⟩) gm0 (.int .i64 (s 1 1))).setCell (p:=⟨gm,2,none⟩) gm0 (.int .i64 (s 1 2))
  clear m3_k
  generalize ((x11.setCell ⟨gm,0,none⟩ (.int .i64 (s 1 0))).setCell ⟨gm,1,none⟩ (.int .i64 (s 1 1))).setCell ⟨gm,2,none⟩ (.int .i64 (s 1 2))=x12 at l_k v_k w_k u_k m4_k hb ⊢
  refine (CD01.out _ hb).mono ?_
  rintro _ y11 ⟨rfl,h11⟩
  replace l_k:=blk_us h11 l_k
  replace v_k:=blk_us h11 v_k
  replace w_k:=blk_us h11 w_k
  replace u_k:=blk_us h11 u_k
  replace hb:=bel_trans hb h11
  clear h11 m4_k
  have u_0:=blkC u_k 0 rfl
  have u_1:=blkC u_k 1 rfl
  have u_2:=blkF u_k 0
  have u_3:=blkF u_k 1
  go_wp2_with fail
  clear u_0 u_1 u_2 u_3
  have u2_k:((y11.setCell ⟨gu,0,none⟩ (.int .i64 0)).setCell ⟨gu,1,none⟩ (.int .i64 td01)).heap[gu]?=some (.cells #[.int .i64 0,.int .i64 td01] 29 (0,0)):=heap_set (heap_set u_k 0 (.int .i64 0)) 1 (.int .i64 td01)
  replace l_k:=heap_ne (heap_ne l_k ul 0 (.int .i64 0)) ul 1 (.int .i64 td01)
  replace v_k:=heap_ne (heap_ne v_k uv 0 (.int .i64 0)) uv 1 (.int .i64 td01)
  replace w_k:=heap_ne (heap_ne w_k uw 0 (.int .i64 0)) uw 1 (.int .i64 td01)
  clear u_k
  replace hb:=(hb.setCell (p:=⟨gu,0,none⟩) gu0 (.int .i64 0)).setCell (p:=⟨gu,1,none⟩) gu0 (.int .i64 td01)
  generalize (y11.setCell ⟨gu,0,none⟩ (.int .i64 0)).setCell ⟨gu,1,none⟩ (.int .i64 td01)=x13 at l_k v_k w_k u2_k hb ⊢
  have u_0:=blkC u2_k 0 rfl
  go_wp2_with (first | (go_at_call 11; refine (CN.out _).mono ?_; rintro _ _ ⟨rfl,rfl⟩))
  go_roundw
  case rel=>exact ⟨hb,l_k,v_k,w_k,.inr (.inl (by go_num))⟩
  case measure=>simp [intOf]
set_option maxRecDepth 100000 in
set_option maxHeartbeats 60000000 in
theorem p02 {s:Nat->Nat->Int} {w:World} {vs ws st sv tp01 td01 ts01 tp02 td02 ts02 tp03 td03 ts03 tp04 td04 tp12 td12 ts12 tp13 td13 ts13 tp14 td14 tp23 td23 ts23 tp24 td24 tp34 td34:Int} (C:Cts s w vs ws st sv tp01 td01 ts01 tp02 td02 ts02 tp03 td03 ts03 tp04 td04 tp12 td12 ts12 tp13 td13 ts13 tp14 td14 tp23 td23 ts23 tp24 td24 tp34 td34) (H:Hold4 w):(pre C H).g02:=by
  have nvs:=C.nvs
  have nws:=C.nws
  have CN:=C.CN
  have CP02:=C.CP02
  have CD02:=C.CD02
  have CS02:=C.CS02
  unfold pre
  dsimp only
  try clear C
  intro x1 y1 y2 y3 gv x3 y4 gx ox nx cx ex qx x4 y5 gw x5 y6 gy oy ny cy ey qy x6 y7 y8 z1 z2 z3 z4 z5 u14 z6 z7 z8 u92 u93 u94 u95 u96 u97 z9 z10 z11 z12 z13 z14 z15 z16 z17 z18 z19 z20 z21 z22 z23 z24 z25 z26 z27 z28 z29 z30 z31 z32 z33 z34 z35 z36 z37 z38 z39 z40 z41 z42 z43 z44 z45 z46 z47 z48 z49 z50 z51 z52 z53 z54 z55 z56 z57 z58 z59 z60 z61 z62 z63 z64 z65 z66 z67 z68 z69 z70 z71 z72 z73 z74 z75 z76 z77 z78 z79 z80 z81 z82 z83 z84 z85 z86 z87 z88 z89 z90 z91 z92 z93 z94 z95 z96 z97 z98 z99 z100 z101 z103 z104 wr u2 u15 u16 u17 u98 u99 u100 u101 u102 u103 u104 u105 u106 u107 u108 u109 u110 u111 u112 u113 u114 u115 u116 u117 u118 u119 u120 u121 u122 u123 u124 u125 u126 u127 u128 u129 u130 u131 u132 u133 u134 u135 u136 u137 u138 u139 u140 u141 u142 u143 u144 u145 u146 u147 u148 u149 u150 u151 u152 u153 u154 u155 u156 u157 u158 u159 u160 u161 u162 u163 u164 u165 u166 u167 u168 u169 u170 u171 u172 u173 u174 u175 u176 u177 u178 u179 u180 u181 u182 u183 u184 u185 u186 u187 u188 u189 u190 hb l_k v_k w_k hl0 hv0 hw0
  have f0:=blkC l_k 0 rfl
  have f1:=blkC l_k 1 rfl
  have f2:=blkC l_k 2 rfl
  have f3:=blkC l_k 3 rfl
  have f4:=blkC l_k 4 rfl
  have f5:=blkC l_k 5 rfl
  have f6:=blkC l_k 6 rfl
  have f7:=blkC l_k 7 rfl
  have f8:=blkC l_k 8 rfl
  have f9:=blkC l_k 9 rfl
  have f10:=blkC l_k 10 rfl
  have f11:=blkC l_k 11 rfl
  have f12:=blkC l_k 12 rfl
  have f13:=blkC l_k 13 rfl
  have f14:=blkC l_k 14 rfl
  go_wp2_with fail
  clear f0 f1 f2 f3 f4 f5 f6 f7 f8 f9 f10 f11 f12 f13 f14
  replace l_k:=heap_past (.cells #[.int .i64 (s 0 0),.int .i64 (s 0 1),.int .i64 (s 0 2),.int .i64 (s 1 0),.int .i64 (s 1 1),.int .i64 (s 1 2),.int .i64 (s 2 0),.int .i64 (s 2 1),.int .i64 (s 2 2),.int .i64 (s 3 0),.int .i64 (s 3 1),.int .i64 (s 3 2),.int .i64 (s 4 0),.int .i64 (s 4 1),.int .i64 (s 4 2)] 24) l_k
  replace v_k:=heap_past (.cells #[.int .i64 (s 0 0),.int .i64 (s 0 1),.int .i64 (s 0 2),.int .i64 (s 1 0),.int .i64 (s 1 1),.int .i64 (s 1 2),.int .i64 (s 2 0),.int .i64 (s 2 1),.int .i64 (s 2 2),.int .i64 (s 3 0),.int .i64 (s 3 1),.int .i64 (s 3 2),.int .i64 (s 4 0),.int .i64 (s 4 1),.int .i64 (s 4 2)] 24) v_k
  replace w_k:=heap_past (.cells #[.int .i64 (s 0 0),.int .i64 (s 0 1),.int .i64 (s 0 2),.int .i64 (s 1 0),.int .i64 (s 1 1),.int .i64 (s 1 2),.int .i64 (s 2 0),.int .i64 (s 2 1),.int .i64 (s 2 2),.int .i64 (s 3 0),.int .i64 (s 3 1),.int .i64 (s 3 2),.int .i64 (s 4 0),.int .i64 (s 4 1),.int .i64 (s 4 2)] 24) w_k
  have m_k:=heap_a1 wr (.cells #[.int .i64 (s 0 0),.int .i64 (s 0 1),.int .i64 (s 0 2),.int .i64 (s 1 0),.int .i64 (s 1 1),.int .i64 (s 1 2),.int .i64 (s 2 0),.int .i64 (s 2 1),.int .i64 (s 2 2),.int .i64 (s 3 0),.int .i64 (s 3 1),.int .i64 (s 3 2),.int .i64 (s 4 0),.int .i64 (s 4 1),.int .i64 (s 4 2)] 24)
  replace hb:=bel_trans hb (bel_alloc wr (.cells #[.int .i64 (s 0 0),.int .i64 (s 0 1),.int .i64 (s 0 2),.int .i64 (s 1 0),.int .i64 (s 1 1),.int .i64 (s 1 2),.int .i64 (s 2 0),.int .i64 (s 2 1),.int .i64 (s 2 2),.int .i64 (s 3 0),.int .i64 (s 3 1),.int .i64 (s 3 2),.int .i64 (s 4 0),.int .i64 (s 4 1),.int .i64 (s 4 2)] 24))
  have nl:w.heap.size≠wr.heap.size:=by have:=(Array.getElem?_eq_some_iff.1 l_k).1; have:=hl0; omega
  have nv:gv≠wr.heap.size:=by have:=hv0; omega
  have nw:gw≠wr.heap.size:=by have:=hw0; omega
  have gm0:w.heap.size<=wr.heap.size:=by have:=hl0; omega
  generalize hgm:wr.heap.size=gm at m_k nl nv nw gm0 ⊢
  clear hgm hl0 hv0 hw0
  generalize wr.alloc (.cells #[.int .i64 (s 0 0),.int .i64 (s 0 1),.int .i64 (s 0 2),.int .i64 (s 1 0),.int .i64 (s 1 1),.int .i64 (s 1 2),.int .i64 (s 2 0),.int .i64 (s 2 1),.int .i64 (s 2 2),.int .i64 (s 3 0),.int .i64 (s 3 1),.int .i64 (s 3 2),.int .i64 (s 4 0),.int .i64 (s 4 1),.int .i64 (s 4 2)] 24)=xm at l_k v_k w_k m_k hb ⊢
  have m1_k:(((xm.setCell ⟨gm,0,none⟩ (.int .i64 (s 2 0))).setCell ⟨gm,1,none⟩ (.int .i64 (s 2 1))).setCell ⟨gm,2,none⟩ (.int .i64 (s 2 2))).heap[gm]?=some (.cells #[.int .i64 (s 2 0),.int .i64 (s 2 1),.int .i64 (s 2 2),.int .i64 (s 1 0),.int .i64 (s 1 1),.int .i64 (s 1 2),.int .i64 (s 2 0),.int .i64 (s 2 1),.int .i64 (s 2 2),.int .i64 (s 3 0),.int .i64 (s 3 1),.int .i64 (s 3 2),.int .i64 (s 4 0),.int .i64 (s 4 1),.int .i64 (s 4 2)] 24 (0,0)):=heap_set (heap_set (heap_set m_k 0 (.int .i64 (s 2 0))) 1 (.int .i64 (s 2 1))) 2 (.int .i64 (s 2 2))
  have m2_k:((((((xm.setCell ⟨gm,0,none⟩ (.int .i64 (s 2 0))).setCell ⟨gm,1,none⟩ (.int .i64 (s 2 1))).setCell ⟨gm,2,none⟩ (.int .i64 (s 2 2))).setCell ⟨gm,6,none⟩ (.int .i64 (s 0 0))).setCell ⟨gm,7,none⟩ (.int .i64 (s 0 1))).setCell ⟨gm,8,none⟩ (.int .i64 (s 0 2))).heap[gm]?=some (.cells #[.int .i64 (s 2 0),.int .i64 (s 2 1),.int .i64 (s 2 2),.int .i64 (s 1 0),.int .i64 (s 1 1),.int .i64 (s 1 2),.int .i64 (s 0 0),.int .i64 (s 0 1),.int .i64 (s 0 2),.int .i64 (s 3 0),.int .i64 (s 3 1),.int .i64 (s 3 2),.int .i64 (s 4 0),.int .i64 (s 4 1),.int .i64 (s 4 2)] 24 (0,0)):=heap_set (heap_set (heap_set m1_k 6 (.int .i64 (s 0 0))) 7 (.int .i64 (s 0 1))) 8 (.int .i64 (s 0 2))
  have q0:=blkC m_k 0 rfl
  have z0:=blkF m_k 0
  have q1:=blkC m_k 1 rfl
  have z1:=blkF m_k 1
  have q2:=blkC m_k 2 rfl
  have z2:=blkF m_k 2
  have q6:=blkC m_k 6 rfl
  have z6:=blkF m_k 6
  have q7:=blkC m_k 7 rfl
  have z7:=blkF m_k 7
  have q8:=blkC m_k 8 rfl
  have z8:=blkF m_k 8
  have p6:=blkC m1_k 6 rfl
  have y6:=blkF m1_k 6
  have p7:=blkC m1_k 7 rfl
  have y7:=blkF m1_k 7
  have p8:=blkC m1_k 8 rfl
  have y8:=blkF m1_k 8
  go_region
  clear q0 z0 q1 z1 q2 z2 q6 z6 q7 z7 q8 z8
  clear p6 y6 p7 y7 p8 y8
  replace l_k:=heap_ne (heap_ne (heap_ne (heap_ne (heap_ne (heap_ne l_k nl 0 (.int .i64 (s 2 0))) nl 1 (.int .i64 (s 2 1))) nl 2 (.int .i64 (s 2 2))) nl 6 (.int .i64 (s 0 0))) nl 7 (.int .i64 (s 0 1))) nl 8 (.int .i64 (s 0 2))
  replace v_k:=heap_ne (heap_ne (heap_ne (heap_ne (heap_ne (heap_ne v_k nv 0 (.int .i64 (s 2 0))) nv 1 (.int .i64 (s 2 1))) nv 2 (.int .i64 (s 2 2))) nv 6 (.int .i64 (s 0 0))) nv 7 (.int .i64 (s 0 1))) nv 8 (.int .i64 (s 0 2))
  replace w_k:=heap_ne (heap_ne (heap_ne (heap_ne (heap_ne (heap_ne w_k nw 0 (.int .i64 (s 2 0))) nw 1 (.int .i64 (s 2 1))) nw 2 (.int .i64 (s 2 2))) nw 6 (.int .i64 (s 0 0))) nw 7 (.int .i64 (s 0 1))) nw 8 (.int .i64 (s 0 2))
  clear m_k m1_k
  replace hb:=(((((hb.setCell (p:=⟨gm,0,none⟩) gm0 (.int .i64 (s 2 0))).setCell (p:=⟨gm,1,none⟩) gm0 (.int .i64 (s 2 1))).setCell (p:=⟨gm,2,none⟩) gm0 (.int .i64 (s 2 2))).setCell (p:=⟨gm,6,none⟩) gm0 (.int .i64 (s 0 0))).setCell (p:=⟨gm,7,none⟩) gm0 (.int .i64 (s 0 1))).setCell (p:=⟨gm,8,none⟩) gm0 (.int .i64 (s 0 2))
  generalize (((((xm.setCell ⟨gm,0,none⟩ (.int .i64 (s 2 0))).setCell ⟨gm,1,none⟩ (.int .i64 (s 2 1))).setCell ⟨gm,2,none⟩ (.int .i64 (s 2 2))).setCell ⟨gm,6,none⟩ (.int .i64 (s 0 0))).setCell ⟨gm,7,none⟩ (.int .i64 (s 0 1))).setCell ⟨gm,8,none⟩ (.int .i64 (s 0 2))=x8 at l_k v_k w_k m2_k hb ⊢
  have hD:=(bel_refl x8).drew
  replace l_k:=blk_us hD l_k
  replace v_k:=blk_us hD v_k
  replace w_k:=blk_us hD w_k
  replace m2_k:=blk_us hD m2_k
  replace hb:=bel_trans hb hD
  clear hD
  generalize x8.drew=x8 at l_k v_k w_k m2_k hb ⊢
  have q0:=blkC m2_k 0 rfl
  have q1:=blkC m2_k 1 rfl
  have q2:=blkC m2_k 2 rfl
  have q3:=blkC m2_k 3 rfl
  have q4:=blkC m2_k 4 rfl
  have q5:=blkC m2_k 5 rfl
  have q6:=blkC m2_k 6 rfl
  have q7:=blkC m2_k 7 rfl
  have q8:=blkC m2_k 8 rfl
  have q9:=blkC m2_k 9 rfl
  have q10:=blkC m2_k 10 rfl
  have q11:=blkC m2_k 11 rfl
  have q12:=blkC m2_k 12 rfl
  have q13:=blkC m2_k 13 rfl
  have q14:=blkC m2_k 14 rfl
  go_wp2_with fail
  clear q0 q1 q2 q3 q4 q5 q6 q7 q8 q9 q10 q11 q12 q13 q14
  refine (CP02.out _ hb).mono ?_
  rintro _ y9 ⟨rfl,h9⟩
  have hl0:=(Array.getElem?_eq_some_iff.1 (blk_us h9 l_k)).1
  have hv0:=(Array.getElem?_eq_some_iff.1 (blk_us h9 v_k)).1
  have hw0:=(Array.getElem?_eq_some_iff.1 (blk_us h9 w_k)).1
  have hm0:=(Array.getElem?_eq_some_iff.1 (blk_us h9 m2_k)).1
  have ul:w.heap.size≠y9.heap.size:=by omega
  have uv:gv≠y9.heap.size:=by omega
  have uw:gw≠y9.heap.size:=by omega
  have um:gm≠y9.heap.size:=by omega
  have gu0:w.heap.size<=y9.heap.size:=by omega
  clear hl0 hv0 hw0 hm0
  replace l_k:=heap_past (.cells #[.int .i64 (-ws),.int .i64 tp02] 29) (blk_us h9 l_k)
  replace v_k:=heap_past (.cells #[.int .i64 (-ws),.int .i64 tp02] 29) (blk_us h9 v_k)
  replace w_k:=heap_past (.cells #[.int .i64 (-ws),.int .i64 tp02] 29) (blk_us h9 w_k)
  replace m2_k:=heap_past (.cells #[.int .i64 (-ws),.int .i64 tp02] 29) (blk_us h9 m2_k)
  have u_k:=heap_a1 y9 (.cells #[.int .i64 (-ws),.int .i64 tp02] 29)
  replace hb:=bel_trans hb (bel_trans h9 (bel_alloc y9 (.cells #[.int .i64 (-ws),.int .i64 tp02] 29)))
  clear h9
  have w_0:=blkC w_k 0 rfl
  have u_0:=blkC u_k 0 rfl
  have q0:=blkC m2_k 0 rfl
  have q1:=blkC m2_k 1 rfl
  have q2:=blkC m2_k 2 rfl
  have q3:=blkC m2_k 3 rfl
  have q4:=blkC m2_k 4 rfl
  have q5:=blkC m2_k 5 rfl
  have q6:=blkC m2_k 6 rfl
  have q7:=blkC m2_k 7 rfl
  have q8:=blkC m2_k 8 rfl
  have q9:=blkC m2_k 9 rfl
  have q10:=blkC m2_k 10 rfl
  have q11:=blkC m2_k 11 rfl
  go_wp2_with (first | (go_at_call 11; refine (CN.out _).mono ?_; rintro _ _ ⟨rfl,rfl⟩))
  clear q0 q1 q2 q3 q4 q5 q6 q7 q8 q9 q10 q11
  clear w_0 u_0
  generalize hgu:y9.heap.size=gu at u_k ul uv uw um gu0 ⊢
  clear hgu
  generalize y9.alloc (.cells #[.int .i64 (-ws),.int .i64 tp02] 29)=x9 at l_k v_k w_k m2_k u_k hb ⊢
  refine (CS02.out _ hb).mono ?_
  rintro _ y10 ⟨rfl,h10⟩
  replace l_k:=blk_us h10 l_k
  replace v_k:=blk_us h10 v_k
  replace w_k:=blk_us h10 w_k
  replace m2_k:=blk_us h10 m2_k
  replace u_k:=blk_us h10 u_k
  replace hb:=bel_trans hb h10
  clear h10
  have u_0:=blkC u_k 0 rfl
  have u_1:=blkC u_k 1 rfl
  have u_2:=blkF u_k 0
  have u_3:=blkF u_k 1
  go_wp2_with fail
  clear u_0 u_1 u_2 u_3
  have u2_k:((y10.setCell ⟨gu,0,none⟩ (.int .i64 (-vs))).setCell ⟨gu,1,none⟩ (.int .i64 ts02)).heap[gu]?=some (.cells #[.int .i64 (-vs),.int .i64 ts02] 29 (0,0)):=heap_set (heap_set u_k 0 (.int .i64 (-vs))) 1 (.int .i64 ts02)
  replace l_k:=heap_ne (heap_ne l_k ul 0 (.int .i64 (-vs))) ul 1 (.int .i64 ts02)
  replace v_k:=heap_ne (heap_ne v_k uv 0 (.int .i64 (-vs))) uv 1 (.int .i64 ts02)
  replace w_k:=heap_ne (heap_ne w_k uw 0 (.int .i64 (-vs))) uw 1 (.int .i64 ts02)
  replace m2_k:=heap_ne (heap_ne m2_k um 0 (.int .i64 (-vs))) um 1 (.int .i64 ts02)
  clear u_k
  have u_k:=u2_k
  clear u2_k
  replace hb:=(hb.setCell (p:=⟨gu,0,none⟩) gu0 (.int .i64 (-vs))).setCell (p:=⟨gu,1,none⟩) gu0 (.int .i64 ts02)
  generalize (y10.setCell ⟨gu,0,none⟩ (.int .i64 (-vs))).setCell ⟨gu,1,none⟩ (.int .i64 ts02)=x10 at l_k v_k w_k m2_k u_k hb ⊢
  have v_0:=blkC v_k 0 rfl
  have u_0:=blkC u_k 0 rfl
  have f0:=blkC l_k 0 rfl
  have f1:=blkC l_k 1 rfl
  have f2:=blkC l_k 2 rfl
  have f3:=blkC l_k 3 rfl
  have f4:=blkC l_k 4 rfl
  have f5:=blkC l_k 5 rfl
  have f6:=blkC l_k 6 rfl
  have f7:=blkC l_k 7 rfl
  have f8:=blkC l_k 8 rfl
  have f9:=blkC l_k 9 rfl
  have f10:=blkC l_k 10 rfl
  have f11:=blkC l_k 11 rfl
  have f12:=blkC l_k 12 rfl
  have f13:=blkC l_k 13 rfl
  have f14:=blkC l_k 14 rfl
  try dsimp only
  have hGo:Hid True:=trivial
  repeat (have _q:=hGo; clear _q; first | (refine wp_store_row 24 _ _ rfl gm #[.int .i64 (s 0 0),.int .i64 (s 0 1),.int .i64 (s 0 2),.int .i64 (s 1 0),.int .i64 (s 1 1),.int .i64 (s 1 2),.int .i64 (s 2 0),.int .i64 (s 2 1),.int .i64 (s 2 2),.int .i64 (s 3 0),.int .i64 (s 3 1),.int .i64 (s 3 2),.int .i64 (s 4 0),.int .i64 (s 4 1),.int .i64 (s 4 2)] rfl rfl _ _ m2_k (by kernel_rfl) rfl (by kernel_rfl) ?_; clear hGo; dsimp only [Act.put]) | (go_at_call 11; refine (CN.out _).mono ?_; rintro _ wz ⟨rfl,hwz⟩; replace hwz:=hwz.symm; subst hwz; dsimp only) | go_step)
  clear f0 f1 f2 f3 f4 f5 f6 f7 f8 f9 f10 f11 f12 f13 f14
  clear v_0 u_0
  have m3_k:=setRow_heap x10 gm _ #[.int .i64 (s 0 0),.int .i64 (s 0 1),.int .i64 (s 0 2),.int .i64 (s 1 0),.int .i64 (s 1 1),.int .i64 (s 1 2),.int .i64 (s 2 0),.int .i64 (s 2 1),.int .i64 (s 2 2),.int .i64 (s 3 0),.int .i64 (s 3 1),.int .i64 (s 3 2),.int .i64 (s 4 0),.int .i64 (s 4 1),.int .i64 (s 4 2)] _ _ m2_k
  replace l_k:=(setRow_other x10 gm _ #[.int .i64 (s 0 0),.int .i64 (s 0 1),.int .i64 (s 0 2),.int .i64 (s 1 0),.int .i64 (s 1 1),.int .i64 (s 1 2),.int .i64 (s 2 0),.int .i64 (s 2 1),.int .i64 (s 2 2),.int .i64 (s 3 0),.int .i64 (s 3 1),.int .i64 (s 3 2),.int .i64 (s 4 0),.int .i64 (s 4 1),.int .i64 (s 4 2)] nl).trans l_k
  replace v_k:=(setRow_other x10 gm _ #[.int .i64 (s 0 0),.int .i64 (s 0 1),.int .i64 (s 0 2),.int .i64 (s 1 0),.int .i64 (s 1 1),.int .i64 (s 1 2),.int .i64 (s 2 0),.int .i64 (s 2 1),.int .i64 (s 2 2),.int .i64 (s 3 0),.int .i64 (s 3 1),.int .i64 (s 3 2),.int .i64 (s 4 0),.int .i64 (s 4 1),.int .i64 (s 4 2)] nv).trans v_k
  replace w_k:=(setRow_other x10 gm _ #[.int .i64 (s 0 0),.int .i64 (s 0 1),.int .i64 (s 0 2),.int .i64 (s 1 0),.int .i64 (s 1 1),.int .i64 (s 1 2),.int .i64 (s 2 0),.int .i64 (s 2 1),.int .i64 (s 2 2),.int .i64 (s 3 0),.int .i64 (s 3 1),.int .i64 (s 3 2),.int .i64 (s 4 0),.int .i64 (s 4 1),.int .i64 (s 4 2)] nw).trans w_k
  replace u_k:=(setRow_other x10 gm _ #[.int .i64 (s 0 0),.int .i64 (s 0 1),.int .i64 (s 0 2),.int .i64 (s 1 0),.int .i64 (s 1 1),.int .i64 (s 1 2),.int .i64 (s 2 0),.int .i64 (s 2 1),.int .i64 (s 2 2),.int .i64 (s 3 0),.int .i64 (s 3 1),.int .i64 (s 3 2),.int .i64 (s 4 0),.int .i64 (s 4 1),.int .i64 (s 4 2)] um.symm).trans u_k
  replace hb:Below w.heap.size w (x10.setRow gm #[.int .i64 (s 0 0),.int .i64 (s 0 1),.int .i64 (s 0 2),.int .i64 (s 1 0),.int .i64 (s 1 1),.int .i64 (s 1 2),.int .i64 (s 2 0),.int .i64 (s 2 1),.int .i64 (s 2 2),.int .i64 (s 3 0),.int .i64 (s 3 1),.int .i64 (s 3 2),.int .i64 (s 4 0),.int .i64 (s 4 1),.int .i64 (s 4 2)]):=hb.trans ⟨rfl,rfl,rfl,by simp [World.setRow],fun k hk=>setRow_other _ _ _ _ (by omega)⟩
  clear m2_k
  generalize (x10.setRow gm #[.int .i64 (s 0 0),.int .i64 (s 0 1),.int .i64 (s 0 2),.int .i64 (s 1 0),.int .i64 (s 1 1),.int .i64 (s 1 2),.int .i64 (s 2 0),.int .i64 (s 2 1),.int .i64 (s 2 2),.int .i64 (s 3 0),.int .i64 (s 3 1),.int .i64 (s 3 2),.int .i64 (s 4 0),.int .i64 (s 4 1),.int .i64 (s 4 2)])=x11 at l_k v_k w_k u_k m3_k hb ⊢
  have q0:=blkC m3_k 0 rfl
  have q1:=blkC m3_k 1 rfl
  have q2:=blkC m3_k 2 rfl
  have q3:=blkC m3_k 3 rfl
  have q4:=blkC m3_k 4 rfl
  have q5:=blkC m3_k 5 rfl
  have q6:=blkC m3_k 6 rfl
  have q7:=blkC m3_k 7 rfl
  have q8:=blkC m3_k 8 rfl
  have q9:=blkC m3_k 9 rfl
  have q10:=blkC m3_k 10 rfl
  have q11:=blkC m3_k 11 rfl
  have q12:=blkC m3_k 12 rfl
  have q13:=blkC m3_k 13 rfl
  have q14:=blkC m3_k 14 rfl
  have z0:=blkF m3_k 0
  have z1:=blkF m3_k 1
  have z2:=blkF m3_k 2
  go_wp2_with fail
  clear q0 q1 q2 q3 q4 q5 q6 q7 q8 q9 q10 q11 q12 q13 q14
  clear z0 z1 z2
  have m4_k:(((x11.setCell ⟨gm,0,none⟩ (.int .i64 (s 2 0))).setCell ⟨gm,1,none⟩ (.int .i64 (s 2 1))).setCell ⟨gm,2,none⟩ (.int .i64 (s 2 2))).heap[gm]?=some (.cells #[.int .i64 (s 2 0),.int .i64 (s 2 1),.int .i64 (s 2 2),.int .i64 (s 1 0),.int .i64 (s 1 1),.int .i64 (s 1 2),.int .i64 (s 2 0),.int .i64 (s 2 1),.int .i64 (s 2 2),.int .i64 (s 3 0),.int .i64 (s 3 1),.int .i64 (s 3 2),.int .i64 (s 4 0),.int .i64 (s 4 1),.int .i64 (s 4 2)] 24 (0,0)):=heap_set (heap_set (heap_set m3_k 0 (.int .i64 (s 2 0))) 1 (.int .i64 (s 2 1))) 2 (.int .i64 (s 2 2))
  replace l_k:=heap_ne (heap_ne (heap_ne l_k nl 0 (.int .i64 (s 2 0))) nl 1 (.int .i64 (s 2 1))) nl 2 (.int .i64 (s 2 2))
  replace v_k:=heap_ne (heap_ne (heap_ne v_k nv 0 (.int .i64 (s 2 0))) nv 1 (.int .i64 (s 2 1))) nv 2 (.int .i64 (s 2 2))
  replace w_k:=heap_ne (heap_ne (heap_ne w_k nw 0 (.int .i64 (s 2 0))) nw 1 (.int .i64 (s 2 1))) nw 2 (.int .i64 (s 2 2))
  replace u_k:=heap_ne (heap_ne (heap_ne u_k um.symm 0 (.int .i64 (s 2 0))) um.symm 1 (.int .i64 (s 2 1))) um.symm 2 (.int .i64 (s 2 2))
  replace hb:=((hb.setCell (p:=⟨gm,0,none⟩) gm0 (.int .i64 (s 2 0))).setCell (p:=⟨gm,1,none⟩) gm0 (.int .i64 (s 2 1))).setCell (p:=⟨gm,2,none⟩) gm0 (.int .i64 (s 2 2))
  clear m3_k
  generalize ((x11.setCell ⟨gm,0,none⟩ (.int .i64 (s 2 0))).setCell ⟨gm,1,none⟩ (.int .i64 (s 2 1))).setCell ⟨gm,2,none⟩ (.int .i64 (s 2 2))=x12 at l_k v_k w_k u_k m4_k hb ⊢
  refine (CD02.out _ hb).mono ?_
  rintro _ y11 ⟨rfl,h11⟩
  replace l_k:=blk_us h11 l_k
  replace v_k:=blk_us h11 v_k
  replace w_k:=blk_us h11 w_k
  replace u_k:=blk_us h11 u_k
  replace hb:=bel_trans hb h11
  clear h11 m4_k
  have u_0:=blkC u_k 0 rfl
  have u_1:=blkC u_k 1 rfl
  have u_2:=blkF u_k 0
  have u_3:=blkF u_k 1
  go_wp2_with fail
  clear u_0 u_1 u_2 u_3
  have u2_k:((y11.setCell ⟨gu,0,none⟩ (.int .i64 0)).setCell ⟨gu,1,none⟩ (.int .i64 td02)).heap[gu]?=some (.cells #[.int .i64 0,.int .i64 td02] 29 (0,0)):=heap_set (heap_set u_k 0 (.int .i64 0)) 1 (.int .i64 td02)
  replace l_k:=heap_ne (heap_ne l_k ul 0 (.int .i64 0)) ul 1 (.int .i64 td02)
  replace v_k:=heap_ne (heap_ne v_k uv 0 (.int .i64 0)) uv 1 (.int .i64 td02)
  replace w_k:=heap_ne (heap_ne w_k uw 0 (.int .i64 0)) uw 1 (.int .i64 td02)
  clear u_k
  replace hb:=(hb.setCell (p:=⟨gu,0,none⟩) gu0 (.int .i64 0)).setCell (p:=⟨gu,1,none⟩) gu0 (.int .i64 td02)
  generalize (y11.setCell ⟨gu,0,none⟩ (.int .i64 0)).setCell ⟨gu,1,none⟩ (.int .i64 td02)=x13 at l_k v_k w_k u2_k hb ⊢
  have u_0:=blkC u2_k 0 rfl
  go_wp2_with (first | (go_at_call 11; refine (CN.out _).mono ?_; rintro _ _ ⟨rfl,rfl⟩))
  go_roundw
  case rel=>exact ⟨hb,l_k,v_k,w_k,.inr (.inr (.inl (by go_num)))⟩
  case measure=>simp [intOf]
set_option maxRecDepth 100000 in
set_option maxHeartbeats 60000000 in
theorem p03 {s:Nat->Nat->Int} {w:World} {vs ws st sv tp01 td01 ts01 tp02 td02 ts02 tp03 td03 ts03 tp04 td04 tp12 td12 ts12 tp13 td13 ts13 tp14 td14 tp23 td23 ts23 tp24 td24 tp34 td34:Int} (C:Cts s w vs ws st sv tp01 td01 ts01 tp02 td02 ts02 tp03 td03 ts03 tp04 td04 tp12 td12 ts12 tp13 td13 ts13 tp14 td14 tp23 td23 ts23 tp24 td24 tp34 td34) (H:Hold4 w):(pre C H).g03:=by
  have nvs:=C.nvs
  have nws:=C.nws
  have CN:=C.CN
  have CP03:=C.CP03
  have CD03:=C.CD03
  have CS03:=C.CS03
  unfold pre
  dsimp only
  try clear C
  intro x1 y1 y2 y3 gv x3 y4 gx ox nx cx ex qx x4 y5 gw x5 y6 gy oy ny cy ey qy x6 y7 y8 z1 z2 z3 z4 z5 u14 z6 z7 z8 u92 u93 u94 u95 u96 u97 z9 z10 z11 z12 z13 z14 z15 z16 z17 z18 z19 z20 z21 z22 z23 z24 z25 z26 z27 z28 z29 z30 z31 z32 z33 z34 z35 z36 z37 z38 z39 z40 z41 z42 z43 z44 z45 z46 z47 z48 z49 z50 z51 z52 z53 z54 z55 z56 z57 z58 z59 z60 z61 z62 z63 z64 z65 z66 z67 z68 z69 z70 z71 z72 z73 z74 z75 z76 z77 z78 z79 z80 z81 z82 z83 z84 z85 z86 z87 z88 z89 z90 z91 z92 z93 z94 z95 z96 z97 z98 z99 z100 z101 z103 z104 wr u2 u15 u16 u17 u98 u99 u100 u101 u102 u103 u104 u105 u106 u107 u108 u109 u110 u111 u112 u113 u114 u115 u116 u117 u118 u119 u120 u121 u122 u123 u124 u125 u126 u127 u128 u129 u130 u131 u132 u133 u134 u135 u136 u137 u138 u139 u140 u141 u142 u143 u144 u145 u146 u147 u148 u149 u150 u151 u152 u153 u154 u155 u156 u157 u158 u159 u160 u161 u162 u163 u164 u165 u166 u167 u168 u169 u170 u171 u172 u173 u174 u175 u176 u177 u178 u179 u180 u181 u182 u183 u184 u185 u186 u187 u188 u189 u190 hb l_k v_k w_k hl0 hv0 hw0
  have f0:=blkC l_k 0 rfl
  have f1:=blkC l_k 1 rfl
  have f2:=blkC l_k 2 rfl
  have f3:=blkC l_k 3 rfl
  have f4:=blkC l_k 4 rfl
  have f5:=blkC l_k 5 rfl
  have f6:=blkC l_k 6 rfl
  have f7:=blkC l_k 7 rfl
  have f8:=blkC l_k 8 rfl
  have f9:=blkC l_k 9 rfl
  have f10:=blkC l_k 10 rfl
  have f11:=blkC l_k 11 rfl
  have f12:=blkC l_k 12 rfl
  have f13:=blkC l_k 13 rfl
  have f14:=blkC l_k 14 rfl
  go_wp2_with fail
  clear f0 f1 f2 f3 f4 f5 f6 f7 f8 f9 f10 f11 f12 f13 f14
  replace l_k:=heap_past (.cells #[.int .i64 (s 0 0),.int .i64 (s 0 1),.int .i64 (s 0 2),.int .i64 (s 1 0),.int .i64 (s 1 1),.int .i64 (s 1 2),.int .i64 (s 2 0),.int .i64 (s 2 1),.int .i64 (s 2 2),.int .i64 (s 3 0),.int .i64 (s 3 1),.int .i64 (s 3 2),.int .i64 (s 4 0),.int .i64 (s 4 1),.int .i64 (s 4 2)] 24) l_k
  replace v_k:=heap_past (.cells #[.int .i64 (s 0 0),.int .i64 (s 0 1),.int .i64 (s 0 2),.int .i64 (s 1 0),.int .i64 (s 1 1),.int .i64 (s 1 2),.int .i64 (s 2 0),.int .i64 (s 2 1),.int .i64 (s 2 2),.int .i64 (s 3 0),.int .i64 (s 3 1),.int .i64 (s 3 2),.int .i64 (s 4 0),.int .i64 (s 4 1),.int .i64 (s 4 2)] 24) v_k
  replace w_k:=heap_past (.cells #[.int .i64 (s 0 0),.int .i64 (s 0 1),.int .i64 (s 0 2),.int .i64 (s 1 0),.int .i64 (s 1 1),.int .i64 (s 1 2),.int .i64 (s 2 0),.int .i64 (s 2 1),.int .i64 (s 2 2),.int .i64 (s 3 0),.int .i64 (s 3 1),.int .i64 (s 3 2),.int .i64 (s 4 0),.int .i64 (s 4 1),.int .i64 (s 4 2)] 24) w_k
  have m_k:=heap_a1 wr (.cells #[.int .i64 (s 0 0),.int .i64 (s 0 1),.int .i64 (s 0 2),.int .i64 (s 1 0),.int .i64 (s 1 1),.int .i64 (s 1 2),.int .i64 (s 2 0),.int .i64 (s 2 1),.int .i64 (s 2 2),.int .i64 (s 3 0),.int .i64 (s 3 1),.int .i64 (s 3 2),.int .i64 (s 4 0),.int .i64 (s 4 1),.int .i64 (s 4 2)] 24)
  replace hb:=bel_trans hb (bel_alloc wr (.cells #[.int .i64 (s 0 0),.int .i64 (s 0 1),.int .i64 (s 0 2),.int .i64 (s 1 0),.int .i64 (s 1 1),.int .i64 (s 1 2),.int .i64 (s 2 0),.int .i64 (s 2 1),.int .i64 (s 2 2),.int .i64 (s 3 0),.int .i64 (s 3 1),.int .i64 (s 3 2),.int .i64 (s 4 0),.int .i64 (s 4 1),.int .i64 (s 4 2)] 24))
  have nl:w.heap.size≠wr.heap.size:=by have:=(Array.getElem?_eq_some_iff.1 l_k).1; have:=hl0; omega
  have nv:gv≠wr.heap.size:=by have:=hv0; omega
  have nw:gw≠wr.heap.size:=by have:=hw0; omega
  have gm0:w.heap.size<=wr.heap.size:=by have:=hl0; omega
  generalize hgm:wr.heap.size=gm at m_k nl nv nw gm0 ⊢
  clear hgm hl0 hv0 hw0
  generalize wr.alloc (.cells #[.int .i64 (s 0 0),.int .i64 (s 0 1),.int .i64 (s 0 2),.int .i64 (s 1 0),.int .i64 (s 1 1),.int .i64 (s 1 2),.int .i64 (s 2 0),.int .i64 (s 2 1),.int .i64 (s 2 2),.int .i64 (s 3 0),.int .i64 (s 3 1),.int .i64 (s 3 2),.int .i64 (s 4 0),.int .i64 (s 4 1),.int .i64 (s 4 2)] 24)=xm at l_k v_k w_k m_k hb ⊢
  have m1_k:(((xm.setCell ⟨gm,0,none⟩ (.int .i64 (s 3 0))).setCell ⟨gm,1,none⟩ (.int .i64 (s 3 1))).setCell ⟨gm,2,none⟩ (.int .i64 (s 3 2))).heap[gm]?=some (.cells #[.int .i64 (s 3 0),.int .i64 (s 3 1),.int .i64 (s 3 2),.int .i64 (s 1 0),.int .i64 (s 1 1),.int .i64 (s 1 2),.int .i64 (s 2 0),.int .i64 (s 2 1),.int .i64 (s 2 2),.int .i64 (s 3 0),.int .i64 (s 3 1),.int .i64 (s 3 2),.int .i64 (s 4 0),.int .i64 (s 4 1),.int .i64 (s 4 2)] 24 (0,0)):=heap_set (heap_set (heap_set m_k 0 (.int .i64 (s 3 0))) 1 (.int .i64 (s 3 1))) 2 (.int .i64 (s 3 2))
  have m2_k:((((((xm.setCell ⟨gm,0,none⟩ (.int .i64 (s 3 0))).setCell ⟨gm,1,none⟩ (.int .i64 (s 3 1))).setCell ⟨gm,2,none⟩ (.int .i64 (s 3 2))).setCell ⟨gm,9,none⟩ (.int .i64 (s 0 0))).setCell ⟨gm,10,none⟩ (.int .i64 (s 0 1))).setCell ⟨gm,11,none⟩ (.int .i64 (s 0 2))).heap[gm]?=some (.cells #[.int .i64 (s 3 0),.int .i64 (s 3 1),.int .i64 (s 3 2),.int .i64 (s 1 0),.int .i64 (s 1 1),.int .i64 (s 1 2),.int .i64 (s 2 0),.int .i64 (s 2 1),.int .i64 (s 2 2),.int .i64 (s 0 0),.int .i64 (s 0 1),.int .i64 (s 0 2),.int .i64 (s 4 0),.int .i64 (s 4 1),.int .i64 (s 4 2)] 24 (0,0)):=heap_set (heap_set (heap_set m1_k 9 (.int .i64 (s 0 0))) 10 (.int .i64 (s 0 1))) 11 (.int .i64 (s 0 2))
  have q0:=blkC m_k 0 rfl
  have z0:=blkF m_k 0
  have q1:=blkC m_k 1 rfl
  have z1:=blkF m_k 1
  have q2:=blkC m_k 2 rfl
  have z2:=blkF m_k 2
  have q9:=blkC m_k 9 rfl
  have z9:=blkF m_k 9
  have q10:=blkC m_k 10 rfl
  have z10:=blkF m_k 10
  have q11:=blkC m_k 11 rfl
  have z11:=blkF m_k 11
  have p9:=blkC m1_k 9 rfl
  have y9:=blkF m1_k 9
  have p10:=blkC m1_k 10 rfl
  have y10:=blkF m1_k 10
  have p11:=blkC m1_k 11 rfl
  have y11:=blkF m1_k 11
  go_region
  clear q0 z0 q1 z1 q2 z2 q9 z9 q10 z10 q11 z11
  clear p9 y9 p10 y10 p11 y11
  replace l_k:=heap_ne (heap_ne (heap_ne (heap_ne (heap_ne (heap_ne l_k nl 0 (.int .i64 (s 3 0))) nl 1 (.int .i64 (s 3 1))) nl 2 (.int .i64 (s 3 2))) nl 9 (.int .i64 (s 0 0))) nl 10 (.int .i64 (s 0 1))) nl 11 (.int .i64 (s 0 2))
  replace v_k:=heap_ne (heap_ne (heap_ne (heap_ne (heap_ne (heap_ne v_k nv 0 (.int .i64 (s 3 0))) nv 1 (.int .i64 (s 3 1))) nv 2 (.int .i64 (s 3 2))) nv 9 (.int .i64 (s 0 0))) nv 10 (.int .i64 (s 0 1))) nv 11 (.int .i64 (s 0 2))
  replace w_k:=heap_ne (heap_ne (heap_ne (heap_ne (heap_ne (heap_ne w_k nw 0 (.int .i64 (s 3 0))) nw 1 (.int .i64 (s 3 1))) nw 2 (.int .i64 (s 3 2))) nw 9 (.int .i64 (s 0 0))) nw 10 (.int .i64 (s 0 1))) nw 11 (.int .i64 (s 0 2))
  clear m_k m1_k
  replace hb:=(((((hb.setCell (p:=⟨gm,0,none⟩) gm0 (.int .i64 (s 3 0))).setCell (p:=⟨gm,1,none⟩) gm0 (.int .i64 (s 3 1))).setCell (p:=⟨gm,2,none⟩) gm0 (.int .i64 (s 3 2))).setCell (p:=⟨gm,9,none⟩) gm0 (.int .i64 (s 0 0))).setCell (p:=⟨gm,10,none⟩) gm0 (.int .i64 (s 0 1))).setCell (p:=⟨gm,11,none⟩) gm0 (.int .i64 (s 0 2))
  generalize (((((xm.setCell ⟨gm,0,none⟩ (.int .i64 (s 3 0))).setCell ⟨gm,1,none⟩ (.int .i64 (s 3 1))).setCell ⟨gm,2,none⟩ (.int .i64 (s 3 2))).setCell ⟨gm,9,none⟩ (.int .i64 (s 0 0))).setCell ⟨gm,10,none⟩ (.int .i64 (s 0 1))).setCell ⟨gm,11,none⟩ (.int .i64 (s 0 2))=x8 at l_k v_k w_k m2_k hb ⊢
  have hD:=(bel_refl x8).drew
  replace l_k:=blk_us hD l_k
  replace v_k:=blk_us hD v_k
  replace w_k:=blk_us hD w_k
  replace m2_k:=blk_us hD m2_k
  replace hb:=bel_trans hb hD
  clear hD
  generalize x8.drew=x8 at l_k v_k w_k m2_k hb ⊢
  have q0:=blkC m2_k 0 rfl
  have q1:=blkC m2_k 1 rfl
  have q2:=blkC m2_k 2 rfl
  have q3:=blkC m2_k 3 rfl
  have q4:=blkC m2_k 4 rfl
  have q5:=blkC m2_k 5 rfl
  have q6:=blkC m2_k 6 rfl
  have q7:=blkC m2_k 7 rfl
  have q8:=blkC m2_k 8 rfl
  have q9:=blkC m2_k 9 rfl
  have q10:=blkC m2_k 10 rfl
  have q11:=blkC m2_k 11 rfl
  have q12:=blkC m2_k 12 rfl
  have q13:=blkC m2_k 13 rfl
  have q14:=blkC m2_k 14 rfl
  go_wp2_with fail
  clear q0 q1 q2 q3 q4 q5 q6 q7 q8 q9 q10 q11 q12 q13 q14
  refine (CP03.out _ hb).mono ?_
  rintro _ y9 ⟨rfl,h9⟩
  have hl0:=(Array.getElem?_eq_some_iff.1 (blk_us h9 l_k)).1
  have hv0:=(Array.getElem?_eq_some_iff.1 (blk_us h9 v_k)).1
  have hw0:=(Array.getElem?_eq_some_iff.1 (blk_us h9 w_k)).1
  have hm0:=(Array.getElem?_eq_some_iff.1 (blk_us h9 m2_k)).1
  have ul:w.heap.size≠y9.heap.size:=by omega
  have uv:gv≠y9.heap.size:=by omega
  have uw:gw≠y9.heap.size:=by omega
  have um:gm≠y9.heap.size:=by omega
  have gu0:w.heap.size<=y9.heap.size:=by omega
  clear hl0 hv0 hw0 hm0
  replace l_k:=heap_past (.cells #[.int .i64 (-ws),.int .i64 tp03] 29) (blk_us h9 l_k)
  replace v_k:=heap_past (.cells #[.int .i64 (-ws),.int .i64 tp03] 29) (blk_us h9 v_k)
  replace w_k:=heap_past (.cells #[.int .i64 (-ws),.int .i64 tp03] 29) (blk_us h9 w_k)
  replace m2_k:=heap_past (.cells #[.int .i64 (-ws),.int .i64 tp03] 29) (blk_us h9 m2_k)
  have u_k:=heap_a1 y9 (.cells #[.int .i64 (-ws),.int .i64 tp03] 29)
  replace hb:=bel_trans hb (bel_trans h9 (bel_alloc y9 (.cells #[.int .i64 (-ws),.int .i64 tp03] 29)))
  clear h9
  have w_0:=blkC w_k 0 rfl
  have u_0:=blkC u_k 0 rfl
  have q0:=blkC m2_k 0 rfl
  have q1:=blkC m2_k 1 rfl
  have q2:=blkC m2_k 2 rfl
  have q3:=blkC m2_k 3 rfl
  have q4:=blkC m2_k 4 rfl
  have q5:=blkC m2_k 5 rfl
  have q6:=blkC m2_k 6 rfl
  have q7:=blkC m2_k 7 rfl
  have q8:=blkC m2_k 8 rfl
  have q9:=blkC m2_k 9 rfl
  have q10:=blkC m2_k 10 rfl
  have q11:=blkC m2_k 11 rfl
  go_wp2_with (first | (go_at_call 11; refine (CN.out _).mono ?_; rintro _ _ ⟨rfl,rfl⟩))
  clear q0 q1 q2 q3 q4 q5 q6 q7 q8 q9 q10 q11
  clear w_0 u_0
  generalize hgu:y9.heap.size=gu at u_k ul uv uw um gu0 ⊢
  clear hgu
  generalize y9.alloc (.cells #[.int .i64 (-ws),.int .i64 tp03] 29)=x9 at l_k v_k w_k m2_k u_k hb ⊢
  refine (CS03.out _ hb).mono ?_
  rintro _ y10 ⟨rfl,h10⟩
  replace l_k:=blk_us h10 l_k
  replace v_k:=blk_us h10 v_k
  replace w_k:=blk_us h10 w_k
  replace m2_k:=blk_us h10 m2_k
  replace u_k:=blk_us h10 u_k
  replace hb:=bel_trans hb h10
  clear h10
  have u_0:=blkC u_k 0 rfl
  have u_1:=blkC u_k 1 rfl
  have u_2:=blkF u_k 0
  have u_3:=blkF u_k 1
  go_wp2_with fail
  clear u_0 u_1 u_2 u_3
  have u2_k:((y10.setCell ⟨gu,0,none⟩ (.int .i64 (-vs))).setCell ⟨gu,1,none⟩ (.int .i64 ts03)).heap[gu]?=some (.cells #[.int .i64 (-vs),.int .i64 ts03] 29 (0,0)):=heap_set (heap_set u_k 0 (.int .i64 (-vs))) 1 (.int .i64 ts03)
  replace l_k:=heap_ne (heap_ne l_k ul 0 (.int .i64 (-vs))) ul 1 (.int .i64 ts03)
  replace v_k:=heap_ne (heap_ne v_k uv 0 (.int .i64 (-vs))) uv 1 (.int .i64 ts03)
  replace w_k:=heap_ne (heap_ne w_k uw 0 (.int .i64 (-vs))) uw 1 (.int .i64 ts03)
  replace m2_k:=heap_ne (heap_ne m2_k um 0 (.int .i64 (-vs))) um 1 (.int .i64 ts03)
  clear u_k
  have u_k:=u2_k
  clear u2_k
  replace hb:=(hb.setCell (p:=⟨gu,0,none⟩) gu0 (.int .i64 (-vs))).setCell (p:=⟨gu,1,none⟩) gu0 (.int .i64 ts03)
  generalize (y10.setCell ⟨gu,0,none⟩ (.int .i64 (-vs))).setCell ⟨gu,1,none⟩ (.int .i64 ts03)=x10 at l_k v_k w_k m2_k u_k hb ⊢
  have v_0:=blkC v_k 0 rfl
  have u_0:=blkC u_k 0 rfl
  have f0:=blkC l_k 0 rfl
  have f1:=blkC l_k 1 rfl
  have f2:=blkC l_k 2 rfl
  have f3:=blkC l_k 3 rfl
  have f4:=blkC l_k 4 rfl
  have f5:=blkC l_k 5 rfl
  have f6:=blkC l_k 6 rfl
  have f7:=blkC l_k 7 rfl
  have f8:=blkC l_k 8 rfl
  have f9:=blkC l_k 9 rfl
  have f10:=blkC l_k 10 rfl
  have f11:=blkC l_k 11 rfl
  have f12:=blkC l_k 12 rfl
  have f13:=blkC l_k 13 rfl
  have f14:=blkC l_k 14 rfl
  try dsimp only
  have hGo:Hid True:=trivial
  repeat (have _q:=hGo; clear _q; first | (refine wp_store_row 24 _ _ rfl gm #[.int .i64 (s 0 0),.int .i64 (s 0 1),.int .i64 (s 0 2),.int .i64 (s 1 0),.int .i64 (s 1 1),.int .i64 (s 1 2),.int .i64 (s 2 0),.int .i64 (s 2 1),.int .i64 (s 2 2),.int .i64 (s 3 0),.int .i64 (s 3 1),.int .i64 (s 3 2),.int .i64 (s 4 0),.int .i64 (s 4 1),.int .i64 (s 4 2)] rfl rfl _ _ m2_k (by kernel_rfl) rfl (by kernel_rfl) ?_; clear hGo; dsimp only [Act.put]) | (go_at_call 11; refine (CN.out _).mono ?_; rintro _ wz ⟨rfl,hwz⟩; replace hwz:=hwz.symm; subst hwz; dsimp only) | go_step)
  clear f0 f1 f2 f3 f4 f5 f6 f7 f8 f9 f10 f11 f12 f13 f14
  clear v_0 u_0
  have m3_k:=setRow_heap x10 gm _ #[.int .i64 (s 0 0),.int .i64 (s 0 1),.int .i64 (s 0 2),.int .i64 (s 1 0),.int .i64 (s 1 1),.int .i64 (s 1 2),.int .i64 (s 2 0),.int .i64 (s 2 1),.int .i64 (s 2 2),.int .i64 (s 3 0),.int .i64 (s 3 1),.int .i64 (s 3 2),.int .i64 (s 4 0),.int .i64 (s 4 1),.int .i64 (s 4 2)] _ _ m2_k
  replace l_k:=(setRow_other x10 gm _ #[.int .i64 (s 0 0),.int .i64 (s 0 1),.int .i64 (s 0 2),.int .i64 (s 1 0),.int .i64 (s 1 1),.int .i64 (s 1 2),.int .i64 (s 2 0),.int .i64 (s 2 1),.int .i64 (s 2 2),.int .i64 (s 3 0),.int .i64 (s 3 1),.int .i64 (s 3 2),.int .i64 (s 4 0),.int .i64 (s 4 1),.int .i64 (s 4 2)] nl).trans l_k
  replace v_k:=(setRow_other x10 gm _ #[.int .i64 (s 0 0),.int .i64 (s 0 1),.int .i64 (s 0 2),.int .i64 (s 1 0),.int .i64 (s 1 1),.int .i64 (s 1 2),.int .i64 (s 2 0),.int .i64 (s 2 1),.int .i64 (s 2 2),.int .i64 (s 3 0),.int .i64 (s 3 1),.int .i64 (s 3 2),.int .i64 (s 4 0),.int .i64 (s 4 1),.int .i64 (s 4 2)] nv).trans v_k
  replace w_k:=(setRow_other x10 gm _ #[.int .i64 (s 0 0),.int .i64 (s 0 1),.int .i64 (s 0 2),.int .i64 (s 1 0),.int .i64 (s 1 1),.int .i64 (s 1 2),.int .i64 (s 2 0),.int .i64 (s 2 1),.int .i64 (s 2 2),.int .i64 (s 3 0),.int .i64 (s 3 1),.int .i64 (s 3 2),.int .i64 (s 4 0),.int .i64 (s 4 1),.int .i64 (s 4 2)] nw).trans w_k
  replace u_k:=(setRow_other x10 gm _ #[.int .i64 (s 0 0),.int .i64 (s 0 1),.int .i64 (s 0 2),.int .i64 (s 1 0),.int .i64 (s 1 1),.int .i64 (s 1 2),.int .i64 (s 2 0),.int .i64 (s 2 1),.int .i64 (s 2 2),.int .i64 (s 3 0),.int .i64 (s 3 1),.int .i64 (s 3 2),.int .i64 (s 4 0),.int .i64 (s 4 1),.int .i64 (s 4 2)] um.symm).trans u_k
  replace hb:Below w.heap.size w (x10.setRow gm #[.int .i64 (s 0 0),.int .i64 (s 0 1),.int .i64 (s 0 2),.int .i64 (s 1 0),.int .i64 (s 1 1),.int .i64 (s 1 2),.int .i64 (s 2 0),.int .i64 (s 2 1),.int .i64 (s 2 2),.int .i64 (s 3 0),.int .i64 (s 3 1),.int .i64 (s 3 2),.int .i64 (s 4 0),.int .i64 (s 4 1),.int .i64 (s 4 2)]):=hb.trans ⟨rfl,rfl,rfl,by simp [World.setRow],fun k hk=>setRow_other _ _ _ _ (by omega)⟩
  clear m2_k
  generalize (x10.setRow gm #[.int .i64 (s 0 0),.int .i64 (s 0 1),.int .i64 (s 0 2),.int .i64 (s 1 0),.int .i64 (s 1 1),.int .i64 (s 1 2),.int .i64 (s 2 0),.int .i64 (s 2 1),.int .i64 (s 2 2),.int .i64 (s 3 0),.int .i64 (s 3 1),.int .i64 (s 3 2),.int .i64 (s 4 0),.int .i64 (s 4 1),.int .i64 (s 4 2)])=x11 at l_k v_k w_k u_k m3_k hb ⊢
  have q0:=blkC m3_k 0 rfl
  have q1:=blkC m3_k 1 rfl
  have q2:=blkC m3_k 2 rfl
  have q3:=blkC m3_k 3 rfl
  have q4:=blkC m3_k 4 rfl
  have q5:=blkC m3_k 5 rfl
  have q6:=blkC m3_k 6 rfl
  have q7:=blkC m3_k 7 rfl
  have q8:=blkC m3_k 8 rfl
  have q9:=blkC m3_k 9 rfl
  have q10:=blkC m3_k 10 rfl
  have q11:=blkC m3_k 11 rfl
  have q12:=blkC m3_k 12 rfl
  have q13:=blkC m3_k 13 rfl
  have q14:=blkC m3_k 14 rfl
  have z0:=blkF m3_k 0
  have z1:=blkF m3_k 1
  have z2:=blkF m3_k 2
  go_wp2_with fail
  clear q0 q1 q2 q3 q4 q5 q6 q7 q8 q9 q10 q11 q12 q13 q14
  clear z0 z1 z2
  have m4_k:(((x11.setCell ⟨gm,0,none⟩ (.int .i64 (s 3 0))).setCell ⟨gm,1,none⟩ (.int .i64 (s 3 1))).setCell ⟨gm,2,none⟩ (.int .i64 (s 3 2))).heap[gm]?=some (.cells #[.int .i64 (s 3 0),.int .i64 (s 3 1),.int .i64 (s 3 2),.int .i64 (s 1 0),.int .i64 (s 1 1),.int .i64 (s 1 2),.int .i64 (s 2 0),.int .i64 (s 2 1),.int .i64 (s 2 2),.int .i64 (s 3 0),.int .i64 (s 3 1),.int .i64 (s 3 2),.int .i64 (s 4 0),.int .i64 (s 4 1),.int .i64 (s 4 2)] 24 (0,0)):=heap_set (heap_set (heap_set m3_k 0 (.int .i64 (s 3 0))) 1 (.int .i64 (s 3 1))) 2 (.int .i64 (s 3 2))
  replace l_k:=heap_ne (heap_ne (heap_ne l_k nl 0 (.int .i64 (s 3 0))) nl 1 (.int .i64 (s 3 1))) nl 2 (.int .i64 (s 3 2))
  replace v_k:=heap_ne (heap_ne (heap_ne v_k nv 0 (.int .i64 (s 3 0))) nv 1 (.int .i64 (s 3 1))) nv 2 (.int .i64 (s 3 2))
  replace w_k:=heap_ne (heap_ne (heap_ne w_k nw 0 (.int .i64 (s 3 0))) nw 1 (.int .i64 (s 3 1))) nw 2 (.int .i64 (s 3 2))
  replace u_k:=heap_ne (heap_ne (heap_ne u_k um.symm 0 (.int .i64 (s 3 0))) um.symm 1 (.int .i64 (s 3 1))) um.symm 2 (.int .i64 (s 3 2))
  replace hb:=((hb.setCell (p:=⟨gm,0,none⟩) gm0 (.int .i64 (s 3 0))).setCell (p:=⟨gm,1,none⟩) gm0 (.int .i64 (s 3 1))).setCell (p:=⟨gm,2,none⟩) gm0 (.int .i64 (s 3 2))
  clear m3_k
  generalize ((x11.setCell ⟨gm,0,none⟩ (.int .i64 (s 3 0))).setCell ⟨gm,1,none⟩ (.int .i64 (s 3 1))).setCell ⟨gm,2,none⟩ (.int .i64 (s 3 2))=x12 at l_k v_k w_k u_k m4_k hb ⊢
  refine (CD03.out _ hb).mono ?_
  rintro _ y11 ⟨rfl,h11⟩
  replace l_k:=blk_us h11 l_k
  replace v_k:=blk_us h11 v_k
  replace w_k:=blk_us h11 w_k
  replace u_k:=blk_us h11 u_k
  replace hb:=bel_trans hb h11
  clear h11 m4_k
  have u_0:=blkC u_k 0 rfl
  have u_1:=blkC u_k 1 rfl
  have u_2:=blkF u_k 0
  have u_3:=blkF u_k 1
  go_wp2_with fail
  clear u_0 u_1 u_2 u_3
  have u2_k:((y11.setCell ⟨gu,0,none⟩ (.int .i64 0)).setCell ⟨gu,1,none⟩ (.int .i64 td03)).heap[gu]?=some (.cells #[.int .i64 0,.int .i64 td03] 29 (0,0)):=heap_set (heap_set u_k 0 (.int .i64 0)) 1 (.int .i64 td03)
  replace l_k:=heap_ne (heap_ne l_k ul 0 (.int .i64 0)) ul 1 (.int .i64 td03)
  replace v_k:=heap_ne (heap_ne v_k uv 0 (.int .i64 0)) uv 1 (.int .i64 td03)
  replace w_k:=heap_ne (heap_ne w_k uw 0 (.int .i64 0)) uw 1 (.int .i64 td03)
  clear u_k
  replace hb:=(hb.setCell (p:=⟨gu,0,none⟩) gu0 (.int .i64 0)).setCell (p:=⟨gu,1,none⟩) gu0 (.int .i64 td03)
  generalize (y11.setCell ⟨gu,0,none⟩ (.int .i64 0)).setCell ⟨gu,1,none⟩ (.int .i64 td03)=x13 at l_k v_k w_k u2_k hb ⊢
  have u_0:=blkC u2_k 0 rfl
  go_wp2_with (first | (go_at_call 11; refine (CN.out _).mono ?_; rintro _ _ ⟨rfl,rfl⟩))
  go_roundw
  case rel=>exact ⟨hb,l_k,v_k,w_k,.inr (.inr (.inr (.inl (by go_num))))⟩
  case measure=>simp [intOf]
end Go.Proofs.YtobofhgpidbpmaaDoor.solidTrue
