/- Parts of the proof. -/
import Derived.Test.YtobofhgpidbpmaaDoorSt12
import Derived.Deep.WholeRow
import Derived.Laws.CopyOwn
set_option linter.unusedVariables false
set_option linter.unusedSimpArgs false
namespace Go.Proofs.YtobofhgpidbpmaaDoor
open Go Go.RowKit Go.Proofs.YtobofhgpidbpmaaDoor.M
def f3 (a b c:Int) (i:Nat):Int:=if i=0 then a else if i=1 then b else c
theorem det_poly {S D E1 E2 E3 P0 P1 P2 Q0 Q1 Q2 R0 R1 R2:Int} (e1:E1*S=Q0*R1-R0*Q1) (e2:E2*S=R0*P1-P0*R1) (e3:E3*S=P0*Q1-Q0*P1) (e:D*S=0+P2*E1+Q2*E2+R2*E3):D*S*S=P2*(Q0*R1-R0*Q1)+Q2*(R0*P1-P0*R1)+R2*(P0*Q1-Q0*P1):=by
  rw [e,<- e1,<- e2,<- e3]
  grind
set_option maxRecDepth 100000 in
set_option maxHeartbeats 8000000 in
theorem sdetN_any {w:World} {p0_g:Bool} {p0_o:Option Addr} {p0_n p0_c:Nat} {p0_e:Int} {p1_g:Bool} {p1_o:Option Addr} {p1_n p1_c:Nat} {p1_e:Int} {p2_g:Bool} {p2_o:Option Addr} {p2_n p2_c:Nat} {p2_e:Int} {q0_g:Bool} {q0_o:Option Addr} {q0_n q0_c:Nat} {q0_e:Int} {q1_g:Bool} {q1_o:Option Addr} {q1_n q1_c:Nat} {q1_e:Int} {q2_g:Bool} {q2_o:Option Addr} {q2_n q2_c:Nat} {q2_e:Int} {r0_g:Bool} {r0_o:Option Addr} {r0_n r0_c:Nat} {r0_e:Int} {r1_g:Bool} {r1_o:Option Addr} {r1_n r1_c:Nat} {r1_e:Int} {r2_g:Bool} {r2_o:Option Addr} {r2_n r2_c:Nat} {r2_e:Int} {P0 P1 P2 Q0 Q1 Q2 R0 R1 R2:Int} (hp0:DNum w (.agg #[.bool p0_g,.slice p0_o p0_n p0_c,.int .i64 p0_e]) P0) (bp0:Bd 1075 P0) (hp1:DNum w (.agg #[.bool p1_g,.slice p1_o p1_n p1_c,.int .i64 p1_e]) P1) (bp1:Bd 1075 P1) (hp2:DNum w (.agg #[.bool p2_g,.slice p2_o p2_n p2_c,.int .i64 p2_e]) P2) (bp2:Bd 1075 P2) (hq0:DNum w (.agg #[.bool q0_g,.slice q0_o q0_n q0_c,.int .i64 q0_e]) Q0) (bq0:Bd 1075 Q0) (hq1:DNum w (.agg #[.bool q1_g,.slice q1_o q1_n q1_c,.int .i64 q1_e]) Q1) (bq1:Bd 1075 Q1) (hq2:DNum w (.agg #[.bool q2_g,.slice q2_o q2_n q2_c,.int .i64 q2_e]) Q2) (bq2:Bd 1075 Q2) (hr0:DNum w (.agg #[.bool r0_g,.slice r0_o r0_n r0_c,.int .i64 r0_e]) R0) (br0:Bd 1075 R0) (hr1:DNum w (.agg #[.bool r1_g,.slice r1_o r1_n r1_c,.int .i64 r1_e]) R1) (br1:Bd 1075 R1) (hr2:DNum w (.agg #[.bool r2_g,.slice r2_o r2_n r2_c,.int .i64 r2_e]) R2) (br2:Bd 1075 R2) (hT:Tab w) :
    Calls Tryd.prog 34 #[.agg #[.bool p0_g,.slice p0_o p0_n p0_c,.int .i64 p0_e,.bool p1_g,.slice p1_o p1_n p1_c,.int .i64 p1_e,.bool p2_g,.slice p2_o p2_n p2_c,.int .i64 p2_e],.agg #[.bool q0_g,.slice q0_o q0_n q0_c,.int .i64 q0_e,.bool q1_g,.slice q1_o q1_n q1_c,.int .i64 q1_e,.bool q2_g,.slice q2_o q2_n q2_c,.int .i64 q2_e],.agg #[.bool r0_g,.slice r0_o r0_n r0_c,.int .i64 r0_e,.bool r1_g,.slice r1_o r1_n r1_c,.int .i64 r1_e,.bool r2_g,.slice r2_o r2_n r2_c,.int .i64 r2_e]] w fun r w'=>∃ v D,r=.returned v∧DAns w w' D v∧D*2^4194304*2^4194304=P2*(Q0*R1-R0*Q1)+Q2*(R0*P1-P0*R1)+R2*(P0*Q1-Q0*P1)∧Bd (2*2152+3) D:=by
  have M1:Hid (∀ W,Below w.heap.size w W->Calls Tryd.prog 49 #[.agg #[.bool q0_g,.slice q0_o q0_n q0_c,.int .i64 q0_e,.bool q1_g,.slice q1_o q1_n q1_c,.int .i64 q1_e,.bool q2_g,.slice q2_o q2_n q2_c,.int .i64 q2_e],.agg #[.bool r0_g,.slice r0_o r0_n r0_c,.int .i64 r0_e,.bool r1_g,.slice r1_o r1_n r1_c,.int .i64 r1_e,.bool r2_g,.slice r2_o r2_n r2_c,.int .i64 r2_e]] W fun r w'=>∃ v D,r=.returned v∧DAns W w' D v∧D*2^4194304=Q0*R1-R0*Q1∧Bd (2*1075+2) D):=fun W hW=>sminor_any (K:=1075) (hq0.keeps hW) (hq1.keeps hW) (hr0.keeps hW) (hr1.keeps hW) bq0 bq1 br0 br1 (by decide) (hT.keeps hW)
  have M2:Hid (∀ W,Below w.heap.size w W->Calls Tryd.prog 49 #[.agg #[.bool r0_g,.slice r0_o r0_n r0_c,.int .i64 r0_e,.bool r1_g,.slice r1_o r1_n r1_c,.int .i64 r1_e,.bool r2_g,.slice r2_o r2_n r2_c,.int .i64 r2_e],.agg #[.bool p0_g,.slice p0_o p0_n p0_c,.int .i64 p0_e,.bool p1_g,.slice p1_o p1_n p1_c,.int .i64 p1_e,.bool p2_g,.slice p2_o p2_n p2_c,.int .i64 p2_e]] W fun r w'=>∃ v D,r=.returned v∧DAns W w' D v∧D*2^4194304=R0*P1-P0*R1∧Bd (2*1075+2) D):=fun W hW=>sminor_any (K:=1075) (hr0.keeps hW) (hr1.keeps hW) (hp0.keeps hW) (hp1.keeps hW) br0 br1 bp0 bp1 (by decide) (hT.keeps hW)
  have M3:Hid (∀ W,Below w.heap.size w W->Calls Tryd.prog 49 #[.agg #[.bool p0_g,.slice p0_o p0_n p0_c,.int .i64 p0_e,.bool p1_g,.slice p1_o p1_n p1_c,.int .i64 p1_e,.bool p2_g,.slice p2_o p2_n p2_c,.int .i64 p2_e],.agg #[.bool q0_g,.slice q0_o q0_n q0_c,.int .i64 q0_e,.bool q1_g,.slice q1_o q1_n q1_c,.int .i64 q1_e,.bool q2_g,.slice q2_o q2_n q2_c,.int .i64 q2_e]] W fun r w'=>∃ v D,r=.returned v∧DAns W w' D v∧D*2^4194304=P0*Q1-Q0*P1∧Bd (2*1075+2) D):=fun W hW=>sminor_any (K:=1075) (hp0.keeps hW) (hp1.keeps hW) (hq0.keeps hW) (hq1.keeps hW) bp0 bp1 bq0 bq1 (by decide) (hT.keeps hW)
  have CD:Hid (∀ W g1 g2 E1 E2 E3 m1_g m1_o m1_n m1_c m1_e m2_g m2_o m2_n m2_c m2_e m3_g m3_o m3_n m3_c m3_e,Below w.heap.size w W->DNum W (.agg #[.bool m1_g,.slice m1_o m1_n m1_c,.int .i64 m1_e]) E1->DNum W (.agg #[.bool m2_g,.slice m2_o m2_n m2_c,.int .i64 m2_e]) E2->DNum W (.agg #[.bool m3_g,.slice m3_o m3_n m3_c,.int .i64 m3_e]) E3->E1*2^4194304=Q0*R1-R0*Q1->E2*2^4194304=R0*P1-P0*R1->E3*2^4194304=P0*Q1-Q0*P1->Bd 2152 E1->Bd 2152 E2->Bd 2152 E3->W.heap[g1]?=some (.cells #[.bool p2_g,.slice p2_o p2_n p2_c,.int .i64 p2_e,.bool q2_g,.slice q2_o q2_n q2_c,.int .i64 q2_e,.bool r2_g,.slice r2_o r2_n r2_c,.int .i64 r2_e] 35 (0,0))->W.heap[g2]?=some (.cells #[.bool m1_g,.slice m1_o m1_n m1_c,.int .i64 m1_e,.bool m2_g,.slice m2_o m2_n m2_c,.int .i64 m2_e,.bool m3_g,.slice m3_o m3_n m3_c,.int .i64 m3_e] 35 (0,0))->Calls Tryd.prog 47 #[.slice (some ⟨g1,0,none⟩) 3 3,.slice (some ⟨g2,0,none⟩) 3 3] W fun r w'=>∃ v D,r=.returned v∧DAns W w' D v∧D*2^4194304*2^4194304=P2*(Q0*R1-R0*Q1)+Q2*(R0*P1-P0*R1)+R2*(P0*Q1-Q0*P1)∧Bd (2*2152+3) D):=fun W g1 g2 E1 E2 E3 m1_g m1_o m1_n m1_c m1_e m2_g m2_o m2_n m2_c m2_e m3_g m3_o m3_n m3_c m3_e hW d1 d2 d3 e1 e2 e3 b1 b2 b3 k1 k2=>by
    refine (sdot_any (w:=W) (b:=g1) (off:=0) (b':=g2) (off':=0) (n:=3) (c:=3) (c':=3) (K:=2152) (V:=f3 P2 Q2 R2) (W:=f3 E1 E2 E3) (fun i hi=>?_) (fun i hi=>?_) (by decide) (by decide) (by decide) (by decide) (by decide) (by decide) (hT.keeps hW)).mono ?_
    . match i,hi with
      | 0,_=>exact ⟨numC_at k1 rfl rfl rfl (hp2.keeps hW),bp2.up (by decide) (by decide)⟩
      | 1,_=>exact ⟨numC_at k1 rfl rfl rfl (hq2.keeps hW),bq2.up (by decide) (by decide)⟩
      | 2,_=>exact ⟨numC_at k1 rfl rfl rfl (hr2.keeps hW),br2.up (by decide) (by decide)⟩
    . match i,hi with
      | 0,_=>exact ⟨numC_at k2 rfl rfl rfl d1,b1⟩
      | 1,_=>exact ⟨numC_at k2 rfl rfl rfl d2,b2⟩
      | 2,_=>exact ⟨numC_at k2 rfl rfl rfl d3,b3⟩
    . rintro _ w' ⟨v,D,rfl,hd,he,hb⟩
      exact ⟨v,D,rfl,hd,det_poly e1 e2 e3 he,hb⟩
  clear hp0 bp0 hp1 bp1 hp2 bp2 hq0 bq0 hq1 bq1 hq2 bq2 hr0 br0 hr1 br1 hr2 br2 hT
  have hb0:=bel_a4 w (.cells #[.bool p0_g,.slice p0_o p0_n p0_c,.int .i64 p0_e,.bool p1_g,.slice p1_o p1_n p1_c,.int .i64 p1_e,.bool p2_g,.slice p2_o p2_n p2_c,.int .i64 p2_e] 62) (.cells #[.bool q0_g,.slice q0_o q0_n q0_c,.int .i64 q0_e,.bool q1_g,.slice q1_o q1_n q1_c,.int .i64 q1_e,.bool q2_g,.slice q2_o q2_n q2_c,.int .i64 q2_e] 62) (.cells #[.bool r0_g,.slice r0_o r0_n r0_c,.int .i64 r0_e,.bool r1_g,.slice r1_o r1_n r1_c,.int .i64 r1_e,.bool r2_g,.slice r2_o r2_n r2_c,.int .i64 r2_e] 62) (.cells #[.bool false,.slice none 0 0,.int .i64 0] 35)
  have p_k:=h4_0 w (.cells #[.bool p0_g,.slice p0_o p0_n p0_c,.int .i64 p0_e,.bool p1_g,.slice p1_o p1_n p1_c,.int .i64 p1_e,.bool p2_g,.slice p2_o p2_n p2_c,.int .i64 p2_e] 62) (.cells #[.bool q0_g,.slice q0_o q0_n q0_c,.int .i64 q0_e,.bool q1_g,.slice q1_o q1_n q1_c,.int .i64 q1_e,.bool q2_g,.slice q2_o q2_n q2_c,.int .i64 q2_e] 62) (.cells #[.bool r0_g,.slice r0_o r0_n r0_c,.int .i64 r0_e,.bool r1_g,.slice r1_o r1_n r1_c,.int .i64 r1_e,.bool r2_g,.slice r2_o r2_n r2_c,.int .i64 r2_e] 62) (.cells #[.bool false,.slice none 0 0,.int .i64 0] 35)
  have q_k:=h4_1 w (.cells #[.bool p0_g,.slice p0_o p0_n p0_c,.int .i64 p0_e,.bool p1_g,.slice p1_o p1_n p1_c,.int .i64 p1_e,.bool p2_g,.slice p2_o p2_n p2_c,.int .i64 p2_e] 62) (.cells #[.bool q0_g,.slice q0_o q0_n q0_c,.int .i64 q0_e,.bool q1_g,.slice q1_o q1_n q1_c,.int .i64 q1_e,.bool q2_g,.slice q2_o q2_n q2_c,.int .i64 q2_e] 62) (.cells #[.bool r0_g,.slice r0_o r0_n r0_c,.int .i64 r0_e,.bool r1_g,.slice r1_o r1_n r1_c,.int .i64 r1_e,.bool r2_g,.slice r2_o r2_n r2_c,.int .i64 r2_e] 62) (.cells #[.bool false,.slice none 0 0,.int .i64 0] 35)
  have r_k:=h4_2 w (.cells #[.bool p0_g,.slice p0_o p0_n p0_c,.int .i64 p0_e,.bool p1_g,.slice p1_o p1_n p1_c,.int .i64 p1_e,.bool p2_g,.slice p2_o p2_n p2_c,.int .i64 p2_e] 62) (.cells #[.bool q0_g,.slice q0_o q0_n q0_c,.int .i64 q0_e,.bool q1_g,.slice q1_o q1_n q1_c,.int .i64 q1_e,.bool q2_g,.slice q2_o q2_n q2_c,.int .i64 q2_e] 62) (.cells #[.bool r0_g,.slice r0_o r0_n r0_c,.int .i64 r0_e,.bool r1_g,.slice r1_o r1_n r1_c,.int .i64 r1_e,.bool r2_g,.slice r2_o r2_n r2_c,.int .i64 r2_e] 62) (.cells #[.bool false,.slice none 0 0,.int .i64 0] 35)
  have o_k:=h4_3 w (.cells #[.bool p0_g,.slice p0_o p0_n p0_c,.int .i64 p0_e,.bool p1_g,.slice p1_o p1_n p1_c,.int .i64 p1_e,.bool p2_g,.slice p2_o p2_n p2_c,.int .i64 p2_e] 62) (.cells #[.bool q0_g,.slice q0_o q0_n q0_c,.int .i64 q0_e,.bool q1_g,.slice q1_o q1_n q1_c,.int .i64 q1_e,.bool q2_g,.slice q2_o q2_n q2_c,.int .i64 q2_e] 62) (.cells #[.bool r0_g,.slice r0_o r0_n r0_c,.int .i64 r0_e,.bool r1_g,.slice r1_o r1_n r1_c,.int .i64 r1_e,.bool r2_g,.slice r2_o r2_n r2_c,.int .i64 r2_e] 62) (.cells #[.bool false,.slice none 0 0,.int .i64 0] 35)
  go_enter Tryd.func34,Tryd.ntmps34
  go_wp2_with fail
  generalize (((w.alloc (.cells #[.bool p0_g,.slice p0_o p0_n p0_c,.int .i64 p0_e,.bool p1_g,.slice p1_o p1_n p1_c,.int .i64 p1_e,.bool p2_g,.slice p2_o p2_n p2_c,.int .i64 p2_e] 62)).alloc (.cells #[.bool q0_g,.slice q0_o q0_n q0_c,.int .i64 q0_e,.bool q1_g,.slice q1_o q1_n q1_c,.int .i64 q1_e,.bool q2_g,.slice q2_o q2_n q2_c,.int .i64 q2_e] 62)).alloc (.cells #[.bool r0_g,.slice r0_o r0_n r0_c,.int .i64 r0_e,.bool r1_g,.slice r1_o r1_n r1_c,.int .i64 r1_e,.bool r2_g,.slice r2_o r2_n r2_c,.int .i64 r2_e] 62)).alloc (.cells #[.bool false,.slice none 0 0,.int .i64 0] 35)=x4 at hb0 p_k q_k r_k o_k ⊢
  have hs0:=(Array.getElem?_eq_some_iff.1 o_k).1
  have KK:∀ W,Below x4.heap.size x4 W->W.cell? ⟨w.heap.size,0,none⟩=some (.bool p0_g)∧W.cell? ⟨w.heap.size,1,none⟩=some (.slice p0_o p0_n p0_c)∧W.cell? ⟨w.heap.size,2,none⟩=some (.int .i64 p0_e)∧W.cell? ⟨w.heap.size,3,none⟩=some (.bool p1_g)∧W.cell? ⟨w.heap.size,4,none⟩=some (.slice p1_o p1_n p1_c)∧W.cell? ⟨w.heap.size,5,none⟩=some (.int .i64 p1_e)∧W.cell? ⟨w.heap.size,6,none⟩=some (.bool p2_g)∧W.cell? ⟨w.heap.size,7,none⟩=some (.slice p2_o p2_n p2_c)∧W.cell? ⟨w.heap.size,8,none⟩=some (.int .i64 p2_e)∧W.cell? ⟨w.heap.size+1,0,none⟩=some (.bool q0_g)∧W.cell? ⟨w.heap.size+1,1,none⟩=some (.slice q0_o q0_n q0_c)∧W.cell? ⟨w.heap.size+1,2,none⟩=some (.int .i64 q0_e)∧W.cell? ⟨w.heap.size+1,3,none⟩=some (.bool q1_g)∧W.cell? ⟨w.heap.size+1,4,none⟩=some (.slice q1_o q1_n q1_c)∧W.cell? ⟨w.heap.size+1,5,none⟩=some (.int .i64 q1_e)∧W.cell? ⟨w.heap.size+1,6,none⟩=some (.bool q2_g)∧W.cell? ⟨w.heap.size+1,7,none⟩=some (.slice q2_o q2_n q2_c)∧W.cell? ⟨w.heap.size+1,8,none⟩=some (.int .i64 q2_e)∧W.cell? ⟨w.heap.size+2,0,none⟩=some (.bool r0_g)∧W.cell? ⟨w.heap.size+2,1,none⟩=some (.slice r0_o r0_n r0_c)∧W.cell? ⟨w.heap.size+2,2,none⟩=some (.int .i64 r0_e)∧W.cell? ⟨w.heap.size+2,3,none⟩=some (.bool r1_g)∧W.cell? ⟨w.heap.size+2,4,none⟩=some (.slice r1_o r1_n r1_c)∧W.cell? ⟨w.heap.size+2,5,none⟩=some (.int .i64 r1_e)∧W.cell? ⟨w.heap.size+2,6,none⟩=some (.bool r2_g)∧W.cell? ⟨w.heap.size+2,7,none⟩=some (.slice r2_o r2_n r2_c)∧W.cell? ⟨w.heap.size+2,8,none⟩=some (.int .i64 r2_e):=fun W hb=>⟨q_cell (blkC p_k 0 rfl) hb,q_cell (blkC p_k 1 rfl) hb,q_cell (blkC p_k 2 rfl) hb,q_cell (blkC p_k 3 rfl) hb,q_cell (blkC p_k 4 rfl) hb,q_cell (blkC p_k 5 rfl) hb,q_cell (blkC p_k 6 rfl) hb,q_cell (blkC p_k 7 rfl) hb,q_cell (blkC p_k 8 rfl) hb,q_cell (blkC q_k 0 rfl) hb,q_cell (blkC q_k 1 rfl) hb,q_cell (blkC q_k 2 rfl) hb,q_cell (blkC q_k 3 rfl) hb,q_cell (blkC q_k 4 rfl) hb,q_cell (blkC q_k 5 rfl) hb,q_cell (blkC q_k 6 rfl) hb,q_cell (blkC q_k 7 rfl) hb,q_cell (blkC q_k 8 rfl) hb,q_cell (blkC r_k 0 rfl) hb,q_cell (blkC r_k 1 rfl) hb,q_cell (blkC r_k 2 rfl) hb,q_cell (blkC r_k 3 rfl) hb,q_cell (blkC r_k 4 rfl) hb,q_cell (blkC r_k 5 rfl) hb,q_cell (blkC r_k 6 rfl) hb,q_cell (blkC r_k 7 rfl) hb,q_cell (blkC r_k 8 rfl) hb⟩
  have KN:∀ W a b c,Below x4.heap.size x4 W->(((W.setCell ⟨w.heap.size+3,0,none⟩ a).setCell ⟨w.heap.size+3,1,none⟩ b).setCell ⟨w.heap.size+3,2,none⟩ c).cell? ⟨w.heap.size,0,none⟩=some (.bool p0_g)∧(((W.setCell ⟨w.heap.size+3,0,none⟩ a).setCell ⟨w.heap.size+3,1,none⟩ b).setCell ⟨w.heap.size+3,2,none⟩ c).cell? ⟨w.heap.size,1,none⟩=some (.slice p0_o p0_n p0_c)∧(((W.setCell ⟨w.heap.size+3,0,none⟩ a).setCell ⟨w.heap.size+3,1,none⟩ b).setCell ⟨w.heap.size+3,2,none⟩ c).cell? ⟨w.heap.size,2,none⟩=some (.int .i64 p0_e)∧(((W.setCell ⟨w.heap.size+3,0,none⟩ a).setCell ⟨w.heap.size+3,1,none⟩ b).setCell ⟨w.heap.size+3,2,none⟩ c).cell? ⟨w.heap.size,3,none⟩=some (.bool p1_g)∧(((W.setCell ⟨w.heap.size+3,0,none⟩ a).setCell ⟨w.heap.size+3,1,none⟩ b).setCell ⟨w.heap.size+3,2,none⟩ c).cell? ⟨w.heap.size,4,none⟩=some (.slice p1_o p1_n p1_c)∧(((W.setCell ⟨w.heap.size+3,0,none⟩ a).setCell ⟨w.heap.size+3,1,none⟩ b).setCell ⟨w.heap.size+3,2,none⟩ c).cell? ⟨w.heap.size,5,none⟩=some (.int .i64 p1_e)∧(((W.setCell ⟨w.heap.size+3,0,none⟩ a).setCell ⟨w.heap.size+3,1,none⟩ b).setCell ⟨w.heap.size+3,2,none⟩ c).cell? ⟨w.heap.size,6,none⟩=some (.bool p2_g)∧(((W.setCell ⟨w.heap.size+3,0,none⟩ a).setCell ⟨w.heap.size+3,1,none⟩ b).setCell ⟨w.heap.size+3,2,none⟩ c).cell? ⟨w.heap.size,7,none⟩=some (.slice p2_o p2_n p2_c)∧(((W.setCell ⟨w.heap.size+3,0,none⟩ a).setCell ⟨w.heap.size+3,1,none⟩ b).setCell ⟨w.heap.size+3,2,none⟩ c).cell? ⟨w.heap.size,8,none⟩=some (.int .i64 p2_e)∧(((W.setCell ⟨w.heap.size+3,0,none⟩ a).setCell ⟨w.heap.size+3,1,none⟩ b).setCell ⟨w.heap.size+3,2,none⟩ c).cell? ⟨w.heap.size+1,0,none⟩=some (.bool q0_g)∧(((W.setCell ⟨w.heap.size+3,0,none⟩ a).setCell ⟨w.heap.size+3,1,none⟩ b).setCell ⟨w.heap.size+3,2,none⟩ c).cell? ⟨w.heap.size+1,1,none⟩=some (.slice q0_o q0_n q0_c)∧(((W.setCell ⟨w.heap.size+3,0,none⟩ a).setCell ⟨w.heap.size+3,1,none⟩ b).setCell ⟨w.heap.size+3,2,none⟩ c).cell? ⟨w.heap.size+1,2,none⟩=some (.int .i64 q0_e)∧(((W.setCell ⟨w.heap.size+3,0,none⟩ a).setCell ⟨w.heap.size+3,1,none⟩ b).setCell ⟨w.heap.size+3,2,none⟩ c).cell? ⟨w.heap.size+1,3,none⟩=some (.bool q1_g)∧(((W.setCell ⟨w.heap.size+3,0,none⟩ a).setCell ⟨w.heap.size+3,1,none⟩ b).setCell ⟨w.heap.size+3,2,none⟩ c).cell? ⟨w.heap.size+1,4,none⟩=some (.slice q1_o q1_n q1_c)∧(((W.setCell ⟨w.heap.size+3,0,none⟩ a).setCell ⟨w.heap.size+3,1,none⟩ b).setCell ⟨w.heap.size+3,2,none⟩ c).cell? ⟨w.heap.size+1,5,none⟩=some (.int .i64 q1_e)∧(((W.setCell ⟨w.heap.size+3,0,none⟩ a).setCell ⟨w.heap.size+3,1,none⟩ b).setCell ⟨w.heap.size+3,2,none⟩ c).cell? ⟨w.heap.size+1,6,none⟩=some (.bool q2_g)∧(((W.setCell ⟨w.heap.size+3,0,none⟩ a).setCell ⟨w.heap.size+3,1,none⟩ b).setCell ⟨w.heap.size+3,2,none⟩ c).cell? ⟨w.heap.size+1,7,none⟩=some (.slice q2_o q2_n q2_c)∧(((W.setCell ⟨w.heap.size+3,0,none⟩ a).setCell ⟨w.heap.size+3,1,none⟩ b).setCell ⟨w.heap.size+3,2,none⟩ c).cell? ⟨w.heap.size+1,8,none⟩=some (.int .i64 q2_e)∧(((W.setCell ⟨w.heap.size+3,0,none⟩ a).setCell ⟨w.heap.size+3,1,none⟩ b).setCell ⟨w.heap.size+3,2,none⟩ c).cell? ⟨w.heap.size+2,0,none⟩=some (.bool r0_g)∧(((W.setCell ⟨w.heap.size+3,0,none⟩ a).setCell ⟨w.heap.size+3,1,none⟩ b).setCell ⟨w.heap.size+3,2,none⟩ c).cell? ⟨w.heap.size+2,1,none⟩=some (.slice r0_o r0_n r0_c)∧(((W.setCell ⟨w.heap.size+3,0,none⟩ a).setCell ⟨w.heap.size+3,1,none⟩ b).setCell ⟨w.heap.size+3,2,none⟩ c).cell? ⟨w.heap.size+2,2,none⟩=some (.int .i64 r0_e)∧(((W.setCell ⟨w.heap.size+3,0,none⟩ a).setCell ⟨w.heap.size+3,1,none⟩ b).setCell ⟨w.heap.size+3,2,none⟩ c).cell? ⟨w.heap.size+2,3,none⟩=some (.bool r1_g)∧(((W.setCell ⟨w.heap.size+3,0,none⟩ a).setCell ⟨w.heap.size+3,1,none⟩ b).setCell ⟨w.heap.size+3,2,none⟩ c).cell? ⟨w.heap.size+2,4,none⟩=some (.slice r1_o r1_n r1_c)∧(((W.setCell ⟨w.heap.size+3,0,none⟩ a).setCell ⟨w.heap.size+3,1,none⟩ b).setCell ⟨w.heap.size+3,2,none⟩ c).cell? ⟨w.heap.size+2,5,none⟩=some (.int .i64 r1_e)∧(((W.setCell ⟨w.heap.size+3,0,none⟩ a).setCell ⟨w.heap.size+3,1,none⟩ b).setCell ⟨w.heap.size+3,2,none⟩ c).cell? ⟨w.heap.size+2,6,none⟩=some (.bool r2_g)∧(((W.setCell ⟨w.heap.size+3,0,none⟩ a).setCell ⟨w.heap.size+3,1,none⟩ b).setCell ⟨w.heap.size+3,2,none⟩ c).cell? ⟨w.heap.size+2,7,none⟩=some (.slice r2_o r2_n r2_c)∧(((W.setCell ⟨w.heap.size+3,0,none⟩ a).setCell ⟨w.heap.size+3,1,none⟩ b).setCell ⟨w.heap.size+3,2,none⟩ c).cell? ⟨w.heap.size+2,8,none⟩=some (.int .i64 r2_e):=fun W a b c hb=>⟨cell_s3 (KK W hb).1 a b c (show w.heap.size≠w.heap.size+3 by omega),cell_s3 (KK W hb).2.1 a b c (show w.heap.size≠w.heap.size+3 by omega),cell_s3 (KK W hb).2.2.1 a b c (show w.heap.size≠w.heap.size+3 by omega),cell_s3 (KK W hb).2.2.2.1 a b c (show w.heap.size≠w.heap.size+3 by omega),cell_s3 (KK W hb).2.2.2.2.1 a b c (show w.heap.size≠w.heap.size+3 by omega),cell_s3 (KK W hb).2.2.2.2.2.1 a b c (show w.heap.size≠w.heap.size+3 by omega),cell_s3 (KK W hb).2.2.2.2.2.2.1 a b c (show w.heap.size≠w.heap.size+3 by omega),cell_s3 (KK W hb).2.2.2.2.2.2.2.1 a b c (show w.heap.size≠w.heap.size+3 by omega),cell_s3 (KK W hb).2.2.2.2.2.2.2.2.1 a b c (show w.heap.size≠w.heap.size+3 by omega),cell_s3 (KK W hb).2.2.2.2.2.2.2.2.2.1 a b c (show w.heap.size+1≠w.heap.size+3 by omega),cell_s3 (KK W hb).2.2.2.2.2.2.2.2.2.2.1 a b c (show w.heap.size+1≠w.heap.size+3 by omega),cell_s3 (KK W hb).2.2.2.2.2.2.2.2.2.2.2.1 a b c (show w.heap.size+1≠w.heap.size+3 by omega),cell_s3 (KK W hb).2.2.2.2.2.2.2.2.2.2.2.2.1 a b c (show w.heap.size+1≠w.heap.size+3 by omega),cell_s3 (KK W hb).2.2.2.2.2.2.2.2.2.2.2.2.2.1 a b c (show w.heap.size+1≠w.heap.size+3 by omega),cell_s3 (KK W hb).2.2.2.2.2.2.2.2.2.2.2.2.2.2.1 a b c (show w.heap.size+1≠w.heap.size+3 by omega),cell_s3 (KK W hb).2.2.2.2.2.2.2.2.2.2.2.2.2.2.2.1 a b c (show w.heap.size+1≠w.heap.size+3 by omega),cell_s3 (KK W hb).2.2.2.2.2.2.2.2.2.2.2.2.2.2.2.2.1 a b c (show w.heap.size+1≠w.heap.size+3 by omega),cell_s3 (KK W hb).2.2.2.2.2.2.2.2.2.2.2.2.2.2.2.2.2.1 a b c (show w.heap.size+1≠w.heap.size+3 by omega),cell_s3 (KK W hb).2.2.2.2.2.2.2.2.2.2.2.2.2.2.2.2.2.2.1 a b c (show w.heap.size+2≠w.heap.size+3 by omega),cell_s3 (KK W hb).2.2.2.2.2.2.2.2.2.2.2.2.2.2.2.2.2.2.2.1 a b c (show w.heap.size+2≠w.heap.size+3 by omega),cell_s3 (KK W hb).2.2.2.2.2.2.2.2.2.2.2.2.2.2.2.2.2.2.2.2.1 a b c (show w.heap.size+2≠w.heap.size+3 by omega),cell_s3 (KK W hb).2.2.2.2.2.2.2.2.2.2.2.2.2.2.2.2.2.2.2.2.2.1 a b c (show w.heap.size+2≠w.heap.size+3 by omega),cell_s3 (KK W hb).2.2.2.2.2.2.2.2.2.2.2.2.2.2.2.2.2.2.2.2.2.2.1 a b c (show w.heap.size+2≠w.heap.size+3 by omega),cell_s3 (KK W hb).2.2.2.2.2.2.2.2.2.2.2.2.2.2.2.2.2.2.2.2.2.2.2.1 a b c (show w.heap.size+2≠w.heap.size+3 by omega),cell_s3 (KK W hb).2.2.2.2.2.2.2.2.2.2.2.2.2.2.2.2.2.2.2.2.2.2.2.2.1 a b c (show w.heap.size+2≠w.heap.size+3 by omega),cell_s3 (KK W hb).2.2.2.2.2.2.2.2.2.2.2.2.2.2.2.2.2.2.2.2.2.2.2.2.2.1 a b c (show w.heap.size+2≠w.heap.size+3 by omega),cell_s3 (KK W hb).2.2.2.2.2.2.2.2.2.2.2.2.2.2.2.2.2.2.2.2.2.2.2.2.2.2 a b c (show w.heap.size+2≠w.heap.size+3 by omega)⟩
  have hR0:=bel_refl x4
  have hC0:=(bel_refl x4).drew
  go_region_held3 (fun W=>W.cell? ⟨w.heap.size,0,none⟩=some (.bool p0_g)∧W.cell? ⟨w.heap.size,1,none⟩=some (.slice p0_o p0_n p0_c)∧W.cell? ⟨w.heap.size,2,none⟩=some (.int .i64 p0_e)∧W.cell? ⟨w.heap.size,3,none⟩=some (.bool p1_g)∧W.cell? ⟨w.heap.size,4,none⟩=some (.slice p1_o p1_n p1_c)∧W.cell? ⟨w.heap.size,5,none⟩=some (.int .i64 p1_e)∧W.cell? ⟨w.heap.size,6,none⟩=some (.bool p2_g)∧W.cell? ⟨w.heap.size,7,none⟩=some (.slice p2_o p2_n p2_c)∧W.cell? ⟨w.heap.size,8,none⟩=some (.int .i64 p2_e)∧W.cell? ⟨w.heap.size+1,0,none⟩=some (.bool q0_g)∧W.cell? ⟨w.heap.size+1,1,none⟩=some (.slice q0_o q0_n q0_c)∧W.cell? ⟨w.heap.size+1,2,none⟩=some (.int .i64 q0_e)∧W.cell? ⟨w.heap.size+1,3,none⟩=some (.bool q1_g)∧W.cell? ⟨w.heap.size+1,4,none⟩=some (.slice q1_o q1_n q1_c)∧W.cell? ⟨w.heap.size+1,5,none⟩=some (.int .i64 q1_e)∧W.cell? ⟨w.heap.size+1,6,none⟩=some (.bool q2_g)∧W.cell? ⟨w.heap.size+1,7,none⟩=some (.slice q2_o q2_n q2_c)∧W.cell? ⟨w.heap.size+1,8,none⟩=some (.int .i64 q2_e)∧W.cell? ⟨w.heap.size+2,0,none⟩=some (.bool r0_g)∧W.cell? ⟨w.heap.size+2,1,none⟩=some (.slice r0_o r0_n r0_c)∧W.cell? ⟨w.heap.size+2,2,none⟩=some (.int .i64 r0_e)∧W.cell? ⟨w.heap.size+2,3,none⟩=some (.bool r1_g)∧W.cell? ⟨w.heap.size+2,4,none⟩=some (.slice r1_o r1_n r1_c)∧W.cell? ⟨w.heap.size+2,5,none⟩=some (.int .i64 r1_e)∧W.cell? ⟨w.heap.size+2,6,none⟩=some (.bool r2_g)∧W.cell? ⟨w.heap.size+2,7,none⟩=some (.slice r2_o r2_n r2_c)∧W.cell? ⟨w.heap.size+2,8,none⟩=some (.int .i64 r2_e))
    (with_reducible first | assumption | exact KK _ hC0 | exact KK _ (alD hR0 _) | exact KK _ (alS hC0 _) | exact KK _ hC1 | exact KK _ (alS hC1 _) | exact KK _ hC2 | exact KK _ (alS hC2 _) | exact KK _ hC3 | exact KK _ (alS hC3 _) | exact KK _ (alS (alS hC3 _) _) | exact KK _ hC4 | exact KN _ _ _ _ hC4 | fail)
    (first | (go_at_call 47; refine (CD.out _ _ _ _ _ _ _ _ _ _ _ _ _ _ _ _ _ _ _ _ _ (bel_trans hb0 (by with_reducible first | exact alS hC3 _ | exact alS (alS hC3 _) _)) (n1.keeps (bel_trans hq2 (bel_trans hq3 (by with_reducible first | exact bel_alloc _ _ | exact bel_alloc2 _ _ _)))) (n2.keeps (bel_trans hq3 (by with_reducible first | exact bel_alloc _ _ | exact bel_alloc2 _ _ _))) (n3.keeps (by with_reducible first | exact bel_alloc _ _ | exact bel_alloc2 _ _ _)) e1 e2 e3 b1 b2 b3 (by with_reducible first | exact heap_a2 _ _ _ | exact heap_b2 _ _ _ | exact heap_past _ (blk_us d3.below (heap_a1 _ _)) | exact heap_past _ (blk_us d3.below (blk_us d2.below (heap_a1 _ _))) | exact heap_past _ (blk_us d3.below (blk_us d2.below (blk_us d1.below (heap_ad _ _))))) (by with_reducible first | exact heap_a1 _ _ | exact heap_b2 _ _ _ | exact heap_a2 _ _ _)).mono ?_; rintro _ y4 ⟨v,D,rfl,hd,he,hbd⟩; obtain ⟨v_g,v_o,v_n,v_c,v_e,rfl⟩:=dans_shape hd; have hC4:=bel_trans (by with_reducible first | exact alS hC3 _ | exact alS (alS hC3 _) _) hd.below; have dA:=DAns.from hd (by with_reducible first | exact alS hC3 _ | exact alS (alS hC3 _) _); have o_k2:=blk_us hC4 o_k; have a0:=blkC o_k2 0 rfl; have a1:=blkC o_k2 1 rfl; have a2:=blkC o_k2 2 rfl; have z0:=blkF o_k2 0; have z1:=blkF o_k2 1; have z2:=blkF o_k2 2) | (go_at_call 49; have _t:=hq2; refine (M3.out _ (bel_trans hb0 (by with_reducible first | exact hC2 | exact alS hC2 _))).mono ?_; rintro _ y3 ⟨w3,E3,rfl,d3,e3,b3⟩; obtain ⟨m3_g,m3_o,m3_n,m3_c,m3_e,rfl⟩:=dans_shape d3; have hq3:Below y2.heap.size y2 y3:=(by with_reducible first | exact d3.below | exact bel_trans (bel_alloc _ _) d3.below); have n3:=d3.num; have hC3:=bel_trans (by with_reducible first | exact hC2 | exact alS hC2 _) d3.below) | (go_at_call 49; have _t:=hq1; refine (M2.out _ (bel_trans hb0 (by with_reducible first | exact hC1 | exact alS hC1 _))).mono ?_; rintro _ y2 ⟨w2,E2,rfl,d2,e2,b2⟩; obtain ⟨m2_g,m2_o,m2_n,m2_c,m2_e,rfl⟩:=dans_shape d2; have hq2:Below y1.heap.size y1 y2:=(by with_reducible first | exact d2.below | exact bel_trans (bel_alloc _ _) d2.below); have n2:=d2.num; have hC2:=bel_trans (by with_reducible first | exact hC1 | exact alS hC1 _) d2.below) | (go_at_call 49; refine (M1.out _ (bel_trans hb0 (by with_reducible first | exact hC0 | exact alS hC0 _ | exact alD hR0 _))).mono ?_; rintro _ y1 ⟨w1,E1,rfl,d1,e1,b1⟩; obtain ⟨m1_g,m1_o,m1_n,m1_c,m1_e,rfl⟩:=dans_shape d1; have hq1:=d1.below; have n1:=d1.num; have hC1:=bel_trans (by with_reducible first | exact hC0 | exact alS hC0 _ | exact alD hR0 _) hq1))
  all_goals
    go_wp2
    refine bodyPost_ret (v:=.agg #[.bool v_g,.slice v_o v_n v_c,.int .i64 v_e]) (by simp [results,Tryd.results34,go_sem,a0,a1,a2]) rfl ⟨_,D,rfl,?_,he,hbd⟩
    exact dans_res3 (g:=w.heap.size+3) dA hb0 (by omega) hs0 _ _ _
theorem lgA_at (u:Nat->Nat->Int):∀ p,p<4->∀ k,k<3->(#[.float .f64 (wd (u 0 0)),.float .f64 (wd (u 0 1)),.float .f64 (wd (u 0 2)),.float .f64 (wd (u 1 0)),.float .f64 (wd (u 1 1)),.float .f64 (wd (u 1 2)),.float .f64 (wd (u 2 0)),.float .f64 (wd (u 2 1)),.float .f64 (wd (u 2 2)),.float .f64 (wd (u 3 0)),.float .f64 (wd (u 3 1)),.float .f64 (wd (u 3 2))]:Array Value)[p*3+k]?=some (.float .f64 (wd (u p k)))
  | 0,_,0,_=>rfl
  | 0,_,1,_=>rfl
  | 0,_,2,_=>rfl
  | 1,_,0,_=>rfl
  | 1,_,1,_=>rfl
  | 1,_,2,_=>rfl
  | 2,_,0,_=>rfl
  | 2,_,1,_=>rfl
  | 2,_,2,_=>rfl
  | 3,_,0,_=>rfl
  | 3,_,1,_=>rfl
  | 3,_,2,_=>rfl
theorem frA_at (u:Nat->Nat->Int):∀ p,p<4->∀ k,k<3->(#[.float .f64 (wd (u 0 0)),.float .f64 (wd (u 0 1)),.float .f64 (wd (u 0 2)),.float .f64 (wd (u 1 0)),.float .f64 (wd (u 1 1)),.float .f64 (wd (u 1 2)),.float .f64 (wd (u 2 0)),.float .f64 (wd (u 2 1)),.float .f64 (wd (u 2 2)),.float .f64 (wd (u 3 0)),.float .f64 (wd (u 3 1)),.float .f64 (wd (u 3 2)),.float .f64 0,.float .f64 0,.float .f64 0,.float .f64 0,.float .f64 0,.float .f64 0,.float .f64 0,.float .f64 0,.float .f64 0,.float .f64 0,.float .f64 0,.float .f64 0,.float .f64 0,.float .f64 0,.float .f64 0,.float .f64 0,.float .f64 0,.float .f64 0,.float .f64 0,.float .f64 0,.float .f64 0,.float .f64 0,.float .f64 0,.float .f64 0,.float .f64 0,.float .f64 0,.float .f64 0,.float .f64 0,.float .f64 0,.float .f64 0,.float .f64 0,.float .f64 0]:Array Value)[p*3+k]?=some (.float .f64 (wd (u p k)))
  | 0,_,0,_=>rfl
  | 0,_,1,_=>rfl
  | 0,_,2,_=>rfl
  | 1,_,0,_=>rfl
  | 1,_,1,_=>rfl
  | 1,_,2,_=>rfl
  | 2,_,0,_=>rfl
  | 2,_,1,_=>rfl
  | 2,_,2,_=>rfl
  | 3,_,0,_=>rfl
  | 3,_,1,_=>rfl
  | 3,_,2,_=>rfl
structure FrN (arr:Array Value) (u:Nat->Nat->Int) (Q P:Nat):Prop where
  n:arr.size=44
  o:arr.all (·.oneCell')=true
  l:∀ p,p<4->∀ k,k<3->arr[p*3+k]?=some (.float .f64 (wd (u p k)))
  m:∀ a b,a<b->b<4->(b<Q∨(b=Q∧a<P))->arr[12+a*8+b*2]?=some (.float .f64 (wd (mn u a b)))∧arr[12+a*8+b*2+1]?=some (.float .f64 (wd (sz u a b)))∧arr[12+b*8+a*2]?=some (.float .f64 (wd (mn u b a)))∧arr[12+b*8+a*2+1]?=some (.float .f64 (wd (sz u b a)))
theorem get_set (arr:Array Value) (i j:Nat) (v:Value) (h:i<arr.size):(arr.setIfInBounds i v)[j]?=if i=j then some v else arr[j]?:=by
  rw [Array.getElem?_setIfInBounds]
  by_cases e:i=j
  . subst e
    simp [h]
  . simp [e]
theorem heap_ne {W:World} {g k:Nat} {X:Obj} (h:W.heap[k]?=some X) (hn:k≠g) (o:Nat) (v:Value):(W.setCell ⟨g,o,none⟩ v).heap[k]?=some X:=by
  have:=(Wr.refl g W).setCell o v
  exact (this.block k (Array.getElem?_eq_some_iff.1 h).1 hn).trans h
theorem all_set {arr:Array Value} (h:arr.all (·.oneCell')=true) (i:Nat) {v:Value} (hv:v.oneCell'=true):(arr.setIfInBounds i v).all (·.oneCell')=true:=by
  rw [Array.all_eq_true_iff_forall_mem] at h ⊢
  intro x hx
  rcases Array.mem_or_eq_of_mem_setIfInBounds hx with e | e
  . exact h x e
  . rw [e]; exact hv
theorem FrN.step {arr:Array Value} {u:Nat->Nat->Int} {q p:Nat} (h:FrN arr u q p) (pq:p<q) (q4:q<4) :
    FrN ((((arr.setIfInBounds (12+p*8+q*2) (.float .f64 (wd (mn u p q)))).setIfInBounds (12+p*8+q*2+1) (.float .f64 (wd (sz u p q)))).setIfInBounds (12+q*8+p*2) (.float .f64 (wd (mn u q p)))).setIfInBounds (12+q*8+p*2+1) (.float .f64 (wd (sz u q p)))) u q (p+1):=by
  have hn:=h.n
  have g:∀ j,((((arr.setIfInBounds (12+p*8+q*2) (.float .f64 (wd (mn u p q)))).setIfInBounds (12+p*8+q*2+1) (.float .f64 (wd (sz u p q)))).setIfInBounds (12+q*8+p*2) (.float .f64 (wd (mn u q p)))).setIfInBounds (12+q*8+p*2+1) (.float .f64 (wd (sz u q p))))[j]? =
      if 12+q*8+p*2+1=j then some (.float .f64 (wd (sz u q p))) else if 12+q*8+p*2=j then some (.float .f64 (wd (mn u q p))) else if 12+p*8+q*2+1=j then some (.float .f64 (wd (sz u p q))) else if 12+p*8+q*2=j then some (.float .f64 (wd (mn u p q))) else arr[j]?:=fun j=>by
    rw [get_set _ _ _ _ (by simp only [Array.size_setIfInBounds]; omega),get_set _ _ _ _ (by simp only [Array.size_setIfInBounds]; omega),get_set _ _ _ _ (by simp only [Array.size_setIfInBounds]; omega),get_set _ _ _ _ (by omega)]
  refine ⟨by simp only [Array.size_setIfInBounds]; exact hn,all_set (all_set (all_set (all_set h.o _ rfl) _ rfl) _ rfl) _ rfl,fun a ha k hk=>?_,fun a b ab b4 hc=>?_⟩
  . rw [g,if_neg (by omega),if_neg (by omega),if_neg (by omega),if_neg (by omega)]
    exact h.l a ha k hk
  . by_cases e:a=p∧b=q
    . obtain ⟨rfl,rfl⟩:=e
      refine ⟨?_,?_,?_,?_⟩
      . rw [g,if_neg (by omega),if_neg (by omega),if_neg (by omega),if_pos rfl]
      . rw [g,if_neg (by omega),if_neg (by omega),if_pos rfl]
      . rw [g,if_neg (by omega),if_pos rfl]
      . rw [g,if_pos rfl]
    . obtain ⟨h1,h2,h3,h4⟩:=h.m a b ab b4 (by omega)
      refine ⟨?_,?_,?_,?_⟩
      . rw [g,if_neg (by omega),if_neg (by omega),if_neg (by omega),if_neg (by omega)]; exact h1
      . rw [g,if_neg (by omega),if_neg (by omega),if_neg (by omega),if_neg (by omega)]; exact h2
      . rw [g,if_neg (by omega),if_neg (by omega),if_neg (by omega),if_neg (by omega)]; exact h3
      . rw [g,if_neg (by omega),if_neg (by omega),if_neg (by omega),if_neg (by omega)]; exact h4
theorem FrN.all {arr:Array Value} {u:Nat->Nat->Int} (h:FrN arr u 4 0):FrA arr u:=by
  refine ⟨h.n,h.o,h.l,fun p hp q hq pq=>?_,fun p hp q hq pq=>?_⟩
  . rcases Nat.lt_or_gt_of_ne pq with c | c
    . exact (h.m p q c hq (.inl hq)).1
    . exact (h.m q p c hp (.inl hp)).2.2.1
  . rcases Nat.lt_or_gt_of_ne pq with c | c
    . exact (h.m p q c hq (.inl hq)).2.1
    . exact (h.m q p c hp (.inl hp)).2.2.2
set_option maxRecDepth 100000 in
set_option maxHeartbeats 1000000 in
theorem sframe_any {u:Nat->Nat->Int} (hL:Lf u) (w:World) :
    Calls Tryd.prog 31 #[.agg #[.float .f64 (wd (u 0 0)),.float .f64 (wd (u 0 1)),.float .f64 (wd (u 0 2)),.float .f64 (wd (u 1 0)),.float .f64 (wd (u 1 1)),.float .f64 (wd (u 1 2)),.float .f64 (wd (u 2 0)),.float .f64 (wd (u 2 1)),.float .f64 (wd (u 2 2)),.float .f64 (wd (u 3 0)),.float .f64 (wd (u 3 1)),.float .f64 (wd (u 3 2))]] w fun e w'=>∃ arr,e=.returned (.agg arr)∧FrA arr u∧Below w.heap.size w w':=by
  go_enter Tryd.func31,Tryd.ntmps31
  iterate 15 go_step
  have hb0:=bel_alloc2 w (.cells #[.float .f64 (wd (u 0 0)),.float .f64 (wd (u 0 1)),.float .f64 (wd (u 0 2)),.float .f64 (wd (u 1 0)),.float .f64 (wd (u 1 1)),.float .f64 (wd (u 1 2)),.float .f64 (wd (u 2 0)),.float .f64 (wd (u 2 1)),.float .f64 (wd (u 2 2)),.float .f64 (wd (u 3 0)),.float .f64 (wd (u 3 1)),.float .f64 (wd (u 3 2))] 57) (.cells #[.float .f64 0,.float .f64 0,.float .f64 0,.float .f64 0,.float .f64 0,.float .f64 0,.float .f64 0,.float .f64 0,.float .f64 0,.float .f64 0,.float .f64 0,.float .f64 0,.float .f64 0,.float .f64 0,.float .f64 0,.float .f64 0,.float .f64 0,.float .f64 0,.float .f64 0,.float .f64 0,.float .f64 0,.float .f64 0,.float .f64 0,.float .f64 0,.float .f64 0,.float .f64 0,.float .f64 0,.float .f64 0,.float .f64 0,.float .f64 0,.float .f64 0,.float .f64 0,.float .f64 0,.float .f64 0,.float .f64 0,.float .f64 0,.float .f64 0,.float .f64 0,.float .f64 0,.float .f64 0,.float .f64 0,.float .f64 0,.float .f64 0,.float .f64 0] 73)
  have l_k:=heap_a2 w (.cells #[.float .f64 (wd (u 0 0)),.float .f64 (wd (u 0 1)),.float .f64 (wd (u 0 2)),.float .f64 (wd (u 1 0)),.float .f64 (wd (u 1 1)),.float .f64 (wd (u 1 2)),.float .f64 (wd (u 2 0)),.float .f64 (wd (u 2 1)),.float .f64 (wd (u 2 2)),.float .f64 (wd (u 3 0)),.float .f64 (wd (u 3 1)),.float .f64 (wd (u 3 2))] 57) (.cells #[.float .f64 0,.float .f64 0,.float .f64 0,.float .f64 0,.float .f64 0,.float .f64 0,.float .f64 0,.float .f64 0,.float .f64 0,.float .f64 0,.float .f64 0,.float .f64 0,.float .f64 0,.float .f64 0,.float .f64 0,.float .f64 0,.float .f64 0,.float .f64 0,.float .f64 0,.float .f64 0,.float .f64 0,.float .f64 0,.float .f64 0,.float .f64 0,.float .f64 0,.float .f64 0,.float .f64 0,.float .f64 0,.float .f64 0,.float .f64 0,.float .f64 0,.float .f64 0,.float .f64 0,.float .f64 0,.float .f64 0,.float .f64 0,.float .f64 0,.float .f64 0,.float .f64 0,.float .f64 0,.float .f64 0,.float .f64 0,.float .f64 0,.float .f64 0] 73)
  have r_k:=heap_b2 w (.cells #[.float .f64 (wd (u 0 0)),.float .f64 (wd (u 0 1)),.float .f64 (wd (u 0 2)),.float .f64 (wd (u 1 0)),.float .f64 (wd (u 1 1)),.float .f64 (wd (u 1 2)),.float .f64 (wd (u 2 0)),.float .f64 (wd (u 2 1)),.float .f64 (wd (u 2 2)),.float .f64 (wd (u 3 0)),.float .f64 (wd (u 3 1)),.float .f64 (wd (u 3 2))] 57) (.cells #[.float .f64 0,.float .f64 0,.float .f64 0,.float .f64 0,.float .f64 0,.float .f64 0,.float .f64 0,.float .f64 0,.float .f64 0,.float .f64 0,.float .f64 0,.float .f64 0,.float .f64 0,.float .f64 0,.float .f64 0,.float .f64 0,.float .f64 0,.float .f64 0,.float .f64 0,.float .f64 0,.float .f64 0,.float .f64 0,.float .f64 0,.float .f64 0,.float .f64 0,.float .f64 0,.float .f64 0,.float .f64 0,.float .f64 0,.float .f64 0,.float .f64 0,.float .f64 0,.float .f64 0,.float .f64 0,.float .f64 0,.float .f64 0,.float .f64 0,.float .f64 0,.float .f64 0,.float .f64 0,.float .f64 0,.float .f64 0,.float .f64 0,.float .f64 0] 73)
  generalize (w.alloc (.cells #[.float .f64 (wd (u 0 0)),.float .f64 (wd (u 0 1)),.float .f64 (wd (u 0 2)),.float .f64 (wd (u 1 0)),.float .f64 (wd (u 1 1)),.float .f64 (wd (u 1 2)),.float .f64 (wd (u 2 0)),.float .f64 (wd (u 2 1)),.float .f64 (wd (u 2 2)),.float .f64 (wd (u 3 0)),.float .f64 (wd (u 3 1)),.float .f64 (wd (u 3 2))] 57)).alloc (.cells #[.float .f64 0,.float .f64 0,.float .f64 0,.float .f64 0,.float .f64 0,.float .f64 0,.float .f64 0,.float .f64 0,.float .f64 0,.float .f64 0,.float .f64 0,.float .f64 0,.float .f64 0,.float .f64 0,.float .f64 0,.float .f64 0,.float .f64 0,.float .f64 0,.float .f64 0,.float .f64 0,.float .f64 0,.float .f64 0,.float .f64 0,.float .f64 0,.float .f64 0,.float .f64 0,.float .f64 0,.float .f64 0,.float .f64 0,.float .f64 0,.float .f64 0,.float .f64 0,.float .f64 0,.float .f64 0,.float .f64 0,.float .f64 0,.float .f64 0,.float .f64 0,.float .f64 0,.float .f64 0,.float .f64 0,.float .f64 0,.float .f64 0,.float .f64 0] 73)=x0 at hb0 l_k r_k ⊢
  refine wp_load_row 57 _ rfl w.heap.size rfl _ _ _ _ l_k Tryd.underlying57 rfl (by kernel_rfl) ?_
  dsimp only [Act.put]
  have rk0:=r_k
  iterate 8 go_step
  have f_k0:=heap_a1 x0 (.cells #[.float .f64 0,.float .f64 0,.float .f64 0,.float .f64 0,.float .f64 0,.float .f64 0,.float .f64 0,.float .f64 0,.float .f64 0,.float .f64 0,.float .f64 0,.float .f64 0,.float .f64 0,.float .f64 0,.float .f64 0,.float .f64 0,.float .f64 0,.float .f64 0,.float .f64 0,.float .f64 0,.float .f64 0,.float .f64 0,.float .f64 0,.float .f64 0,.float .f64 0,.float .f64 0,.float .f64 0,.float .f64 0,.float .f64 0,.float .f64 0,.float .f64 0,.float .f64 0,.float .f64 0,.float .f64 0,.float .f64 0,.float .f64 0,.float .f64 0,.float .f64 0,.float .f64 0,.float .f64 0,.float .f64 0,.float .f64 0,.float .f64 0,.float .f64 0] 73)
  refine wp_store_row 73 _ _ rfl x0.heap.size #[.float .f64 (wd (u 0 0)),.float .f64 (wd (u 0 1)),.float .f64 (wd (u 0 2)),.float .f64 (wd (u 1 0)),.float .f64 (wd (u 1 1)),.float .f64 (wd (u 1 2)),.float .f64 (wd (u 2 0)),.float .f64 (wd (u 2 1)),.float .f64 (wd (u 2 2)),.float .f64 (wd (u 3 0)),.float .f64 (wd (u 3 1)),.float .f64 (wd (u 3 2)),.float .f64 0,.float .f64 0,.float .f64 0,.float .f64 0,.float .f64 0,.float .f64 0,.float .f64 0,.float .f64 0,.float .f64 0,.float .f64 0,.float .f64 0,.float .f64 0,.float .f64 0,.float .f64 0,.float .f64 0,.float .f64 0,.float .f64 0,.float .f64 0,.float .f64 0,.float .f64 0,.float .f64 0,.float .f64 0,.float .f64 0,.float .f64 0,.float .f64 0,.float .f64 0,.float .f64 0,.float .f64 0,.float .f64 0,.float .f64 0,.float .f64 0,.float .f64 0] rfl rfl _ _ f_k0 (by kernel_rfl) rfl (by kernel_rfl) ?_
  rw [World.setRow_alloc_new]
  dsimp only [Act.put]
  clear f_k0
  have f_k:=heap_a1 x0 (.cells #[.float .f64 (wd (u 0 0)),.float .f64 (wd (u 0 1)),.float .f64 (wd (u 0 2)),.float .f64 (wd (u 1 0)),.float .f64 (wd (u 1 1)),.float .f64 (wd (u 1 2)),.float .f64 (wd (u 2 0)),.float .f64 (wd (u 2 1)),.float .f64 (wd (u 2 2)),.float .f64 (wd (u 3 0)),.float .f64 (wd (u 3 1)),.float .f64 (wd (u 3 2)),.float .f64 0,.float .f64 0,.float .f64 0,.float .f64 0,.float .f64 0,.float .f64 0,.float .f64 0,.float .f64 0,.float .f64 0,.float .f64 0,.float .f64 0,.float .f64 0,.float .f64 0,.float .f64 0,.float .f64 0,.float .f64 0,.float .f64 0,.float .f64 0,.float .f64 0,.float .f64 0,.float .f64 0,.float .f64 0,.float .f64 0,.float .f64 0,.float .f64 0,.float .f64 0,.float .f64 0,.float .f64 0,.float .f64 0,.float .f64 0,.float .f64 0,.float .f64 0] 73)
  replace l_k:=heap_past (.cells #[.float .f64 (wd (u 0 0)),.float .f64 (wd (u 0 1)),.float .f64 (wd (u 0 2)),.float .f64 (wd (u 1 0)),.float .f64 (wd (u 1 1)),.float .f64 (wd (u 1 2)),.float .f64 (wd (u 2 0)),.float .f64 (wd (u 2 1)),.float .f64 (wd (u 2 2)),.float .f64 (wd (u 3 0)),.float .f64 (wd (u 3 1)),.float .f64 (wd (u 3 2)),.float .f64 0,.float .f64 0,.float .f64 0,.float .f64 0,.float .f64 0,.float .f64 0,.float .f64 0,.float .f64 0,.float .f64 0,.float .f64 0,.float .f64 0,.float .f64 0,.float .f64 0,.float .f64 0,.float .f64 0,.float .f64 0,.float .f64 0,.float .f64 0,.float .f64 0,.float .f64 0,.float .f64 0,.float .f64 0,.float .f64 0,.float .f64 0,.float .f64 0,.float .f64 0,.float .f64 0,.float .f64 0,.float .f64 0,.float .f64 0,.float .f64 0,.float .f64 0] 73) l_k
  replace r_k:=heap_past (.cells #[.float .f64 (wd (u 0 0)),.float .f64 (wd (u 0 1)),.float .f64 (wd (u 0 2)),.float .f64 (wd (u 1 0)),.float .f64 (wd (u 1 1)),.float .f64 (wd (u 1 2)),.float .f64 (wd (u 2 0)),.float .f64 (wd (u 2 1)),.float .f64 (wd (u 2 2)),.float .f64 (wd (u 3 0)),.float .f64 (wd (u 3 1)),.float .f64 (wd (u 3 2)),.float .f64 0,.float .f64 0,.float .f64 0,.float .f64 0,.float .f64 0,.float .f64 0,.float .f64 0,.float .f64 0,.float .f64 0,.float .f64 0,.float .f64 0,.float .f64 0,.float .f64 0,.float .f64 0,.float .f64 0,.float .f64 0,.float .f64 0,.float .f64 0,.float .f64 0,.float .f64 0,.float .f64 0,.float .f64 0,.float .f64 0,.float .f64 0,.float .f64 0,.float .f64 0,.float .f64 0,.float .f64 0,.float .f64 0,.float .f64 0,.float .f64 0,.float .f64 0] 73) r_k
  have hsz:w.heap.size+1<x0.heap.size:=(Array.getElem?_eq_some_iff.1 (show x0.heap[w.heap.size+1]?=_ from rk0)).1
  replace hb0:=bel_trans hb0 (bel_alloc x0 (.cells #[.float .f64 (wd (u 0 0)),.float .f64 (wd (u 0 1)),.float .f64 (wd (u 0 2)),.float .f64 (wd (u 1 0)),.float .f64 (wd (u 1 1)),.float .f64 (wd (u 1 2)),.float .f64 (wd (u 2 0)),.float .f64 (wd (u 2 1)),.float .f64 (wd (u 2 2)),.float .f64 (wd (u 3 0)),.float .f64 (wd (u 3 1)),.float .f64 (wd (u 3 2)),.float .f64 0,.float .f64 0,.float .f64 0,.float .f64 0,.float .f64 0,.float .f64 0,.float .f64 0,.float .f64 0,.float .f64 0,.float .f64 0,.float .f64 0,.float .f64 0,.float .f64 0,.float .f64 0,.float .f64 0,.float .f64 0,.float .f64 0,.float .f64 0,.float .f64 0,.float .f64 0,.float .f64 0,.float .f64 0,.float .f64 0,.float .f64 0,.float .f64 0,.float .f64 0,.float .f64 0,.float .f64 0,.float .f64 0,.float .f64 0,.float .f64 0,.float .f64 0] 73))
  have HN:FrN #[.float .f64 (wd (u 0 0)),.float .f64 (wd (u 0 1)),.float .f64 (wd (u 0 2)),.float .f64 (wd (u 1 0)),.float .f64 (wd (u 1 1)),.float .f64 (wd (u 1 2)),.float .f64 (wd (u 2 0)),.float .f64 (wd (u 2 1)),.float .f64 (wd (u 2 2)),.float .f64 (wd (u 3 0)),.float .f64 (wd (u 3 1)),.float .f64 (wd (u 3 2)),.float .f64 0,.float .f64 0,.float .f64 0,.float .f64 0,.float .f64 0,.float .f64 0,.float .f64 0,.float .f64 0,.float .f64 0,.float .f64 0,.float .f64 0,.float .f64 0,.float .f64 0,.float .f64 0,.float .f64 0,.float .f64 0,.float .f64 0,.float .f64 0,.float .f64 0,.float .f64 0,.float .f64 0,.float .f64 0,.float .f64 0,.float .f64 0,.float .f64 0,.float .f64 0,.float .f64 0,.float .f64 0,.float .f64 0,.float .f64 0,.float .f64 0,.float .f64 0] u 0 0:=⟨rfl,by kernel_rfl,frA_at u,fun a b ab b4 hc=>by omega⟩
  generalize x0.alloc (.cells #[.float .f64 (wd (u 0 0)),.float .f64 (wd (u 0 1)),.float .f64 (wd (u 0 2)),.float .f64 (wd (u 1 0)),.float .f64 (wd (u 1 1)),.float .f64 (wd (u 1 2)),.float .f64 (wd (u 2 0)),.float .f64 (wd (u 2 1)),.float .f64 (wd (u 2 2)),.float .f64 (wd (u 3 0)),.float .f64 (wd (u 3 1)),.float .f64 (wd (u 3 2)),.float .f64 0,.float .f64 0,.float .f64 0,.float .f64 0,.float .f64 0,.float .f64 0,.float .f64 0,.float .f64 0,.float .f64 0,.float .f64 0,.float .f64 0,.float .f64 0,.float .f64 0,.float .f64 0,.float .f64 0,.float .f64 0,.float .f64 0,.float .f64 0,.float .f64 0,.float .f64 0,.float .f64 0,.float .f64 0,.float .f64 0,.float .f64 0,.float .f64 0,.float .f64 0,.float .f64 0,.float .f64 0,.float .f64 0,.float .f64 0,.float .f64 0,.float .f64 0] 73)=x1 at hb0 l_k r_k f_k ⊢
  generalize (#[.float .f64 (wd (u 0 0)),.float .f64 (wd (u 0 1)),.float .f64 (wd (u 0 2)),.float .f64 (wd (u 1 0)),.float .f64 (wd (u 1 1)),.float .f64 (wd (u 1 2)),.float .f64 (wd (u 2 0)),.float .f64 (wd (u 2 1)),.float .f64 (wd (u 2 2)),.float .f64 (wd (u 3 0)),.float .f64 (wd (u 3 1)),.float .f64 (wd (u 3 2)),.float .f64 0,.float .f64 0,.float .f64 0,.float .f64 0,.float .f64 0,.float .f64 0,.float .f64 0,.float .f64 0,.float .f64 0,.float .f64 0,.float .f64 0,.float .f64 0,.float .f64 0,.float .f64 0,.float .f64 0,.float .f64 0,.float .f64 0,.float .f64 0,.float .f64 0,.float .f64 0,.float .f64 0,.float .f64 0,.float .f64 0,.float .f64 0,.float .f64 0,.float .f64 0,.float .f64 0,.float .f64 0,.float .f64 0,.float .f64 0,.float .f64 0,.float .f64 0]:Array Value)=arr0 at f_k HN
  have hl:=lgA_at u
  generalize (#[.float .f64 (wd (u 0 0)),.float .f64 (wd (u 0 1)),.float .f64 (wd (u 0 2)),.float .f64 (wd (u 1 0)),.float .f64 (wd (u 1 1)),.float .f64 (wd (u 1 2)),.float .f64 (wd (u 2 0)),.float .f64 (wd (u 2 1)),.float .f64 (wd (u 2 2)),.float .f64 (wd (u 3 0)),.float .f64 (wd (u 3 1)),.float .f64 (wd (u 3 2))]:Array Value)=larr at l_k hl ⊢
  generalize x0.heap.size=fb at *
  clear rk0
  go_wp2_with fail
  go_loopw [11] (fun i wr=>∃ q:Nat,q<=4∧i=.int .i64 q∧∃ arr,Hid (FrN arr u q 0)∧wr.heap[fb]?=some (.cells arr 73 (0,0))∧wr.heap[w.heap.size]?=some (.cells larr 57 (0,0))∧wr.heap[w.heap.size+1]?=some (.cells #[.float .f64 0,.float .f64 0,.float .f64 0,.float .f64 0,.float .f64 0,.float .f64 0,.float .f64 0,.float .f64 0,.float .f64 0,.float .f64 0,.float .f64 0,.float .f64 0,.float .f64 0,.float .f64 0,.float .f64 0,.float .f64 0,.float .f64 0,.float .f64 0,.float .f64 0,.float .f64 0,.float .f64 0,.float .f64 0,.float .f64 0,.float .f64 0,.float .f64 0,.float .f64 0,.float .f64 0,.float .f64 0,.float .f64 0,.float .f64 0,.float .f64 0,.float .f64 0,.float .f64 0,.float .f64 0,.float .f64 0,.float .f64 0,.float .f64 0,.float .f64 0,.float .f64 0,.float .f64 0,.float .f64 0,.float .f64 0,.float .f64 0,.float .f64 0] 73 (0,0))∧Below w.heap.size w wr) (fun i _=>4-(intOf i).toNat)
  case atStart=>exact ⟨0,by omega,rfl,arr0,HN,f_k,l_k,r_k,hb0⟩
  case round=>
    clear f_k l_k r_k hb0 HN
    obtain ⟨q,hq,rfl,arr,HN,f_k,l_k,r_k,hbw⟩:=hrel
    by_cases q4:q<4
    . have q4':(q:Int)<4:=by omega
      go_wp2_with fail
      go_loopw [15] (fun i wr=>∃ p:Nat,p<=q∧i=.int .i64 p∧∃ arr,Hid (FrN arr u q p)∧wr.heap[fb]?=some (.cells arr 73 (0,0))∧wr.heap[w.heap.size]?=some (.cells larr 57 (0,0))∧wr.heap[w.heap.size+1]?=some (.cells #[.float .f64 0,.float .f64 0,.float .f64 0,.float .f64 0,.float .f64 0,.float .f64 0,.float .f64 0,.float .f64 0,.float .f64 0,.float .f64 0,.float .f64 0,.float .f64 0,.float .f64 0,.float .f64 0,.float .f64 0,.float .f64 0,.float .f64 0,.float .f64 0,.float .f64 0,.float .f64 0,.float .f64 0,.float .f64 0,.float .f64 0,.float .f64 0,.float .f64 0,.float .f64 0,.float .f64 0,.float .f64 0,.float .f64 0,.float .f64 0,.float .f64 0,.float .f64 0,.float .f64 0,.float .f64 0,.float .f64 0,.float .f64 0,.float .f64 0,.float .f64 0,.float .f64 0,.float .f64 0,.float .f64 0,.float .f64 0,.float .f64 0,.float .f64 0] 73 (0,0))∧Below w.heap.size w wr) (fun i _=>q-(intOf i).toNat)
      case atStart=>exact ⟨0,by omega,rfl,arr,HN,f_k,l_k,r_k,hbw⟩
      case round=>
        clear f_k l_k r_k hbw HN
        obtain ⟨p,hp,rfl,arr,HN,f_k,l_k,r_k,hbw⟩:=hrel
        by_cases pq:p<q
        . have gp:=hL.lg (show p<4 by omega)
          have gq:=hL.lg q4
          obtain ⟨fl,-⟩:=pL_fx gp gq
          obtain ⟨fr,-⟩:=pL_fx gq gp
          have h1:=mul_run (gp.f 0 (by decide)) (gq.f 1 (by decide)) fl.p
          have h2:=mul_run (gq.f 0 (by decide)) (gp.f 1 (by decide)) fr.p
          have h3:=add_run fl.abs.1 fr.abs.1 (sz_sz gp gq).1.p
          have h4:=sub_run fl fr (mn_dv gp gq).1.p
          have h5:=sub_run fr fl (mn_dv gq gp).1.p
          have CA:Hid (∀ W,Calls Tryd.prog 25 #[.float .f64 (wd (pL u p q))] W fun e w'=>e=.returned (.float .f64 (wd (rg (pL u p q))))∧w'=W):=fun W=>mathAbs fl.r W
          have CB:Hid (∀ W,Calls Tryd.prog 25 #[.float .f64 (wd (pL u q p))] W fun e w'=>e=.returned (.float .f64 (wd (rg (pL u q p))))∧w'=W):=fun W=>mathAbs fr.r W
          have esz:Hid (sz u q p=sz u p q):=sz_comm gq gp
          change ∀ W,(binOp .mul 45 (.float .f64 (wd (u p 0))) (.float .f64 (wd (u q 1)))).run Tryd.prog W=.ok (.float .f64 (wd (pL u p q))) W at h1
          change ∀ W,(binOp .mul 45 (.float .f64 (wd (u q 0))) (.float .f64 (wd (u p 1)))).run Tryd.prog W=.ok (.float .f64 (wd (pL u q p))) W at h2
          change ∀ W,(binOp .add 45 (.float .f64 (wd (rg (pL u p q)))) (.float .f64 (wd (rg (pL u q p))))).run Tryd.prog W=.ok (.float .f64 (wd (sz u p q))) W at h3
          change ∀ W,(binOp .sub 45 (.float .f64 (wd (pL u p q))) (.float .f64 (wd (pL u q p)))).run Tryd.prog W=.ok (.float .f64 (wd (mn u p q))) W at h4
          change ∀ W,(binOp .sub 45 (.float .f64 (wd (pL u q p))) (.float .f64 (wd (pL u p q)))).run Tryd.prog W=.ok (.float .f64 (wd (mn u q p))) W at h5
          clear gp gq fl fr
          have c1:=blkC l_k _ (hl p (by omega) 0 (by decide))
          have c2:=blkC l_k _ (hl q (by omega) 1 (by decide))
          have c3:=blkC l_k _ (hl q (by omega) 0 (by decide))
          have c4:=blkC l_k _ (hl p (by omega) 1 (by decide))
          rw [Nat.add_zero] at c1 c3
          have p4':(p:Int)<4:=by omega
          have pq':(p:Int)<q:=by omega
          go_wp2_with fail
          go_quiet (fail)
          go_wp2_with fail
          have hd:=bDrewN (bel_refl wr) nq
          replace f_k:=blk_us hd f_k
          replace l_k:=blk_us hd l_k
          replace r_k:=blk_us hd r_k
          replace hbw:=bel_trans hbw hd
          clear c1 c2 c3 c4 hd
          generalize wr.drewN nq=w1 at *
          refine (CA.out _).mono ?_
          rintro _ wz ⟨rfl,hwz⟩
          replace hwz:=hwz.symm
          subst hwz
          go_wp2_with fail
          refine (CB.out _).mono ?_
          rintro _ wz ⟨rfl,hwz⟩
          replace hwz:=hwz.symm
          subst hwz
          have hn:=HN.out.n
          have hst:∀ p x m w,(store p (.float .f64 x) m).run Tryd.prog w=stored Tryd.prog w p (.float .f64 x) m:=fun p x m w=>run_store _ w p _ m rfl
          have z1:=blkF f_k (12+p*8+q*2)
          have z2:=blkF f_k (12+p*8+q*2+1)
          have z3:=blkF f_k (12+q*8+p*2)
          have z4:=blkF f_k (12+q*8+p*2+1)
          obtain ⟨v1,e1⟩:∃ v,arr[12+p*8+q*2]?=some v:=⟨_,Array.getElem?_eq_getElem (by omega)⟩
          obtain ⟨v2,e2⟩:∃ v,arr[12+p*8+q*2+1]?=some v:=⟨_,Array.getElem?_eq_getElem (by omega)⟩
          obtain ⟨v3,e3⟩:∃ v,arr[12+q*8+p*2]?=some v:=⟨_,Array.getElem?_eq_getElem (by omega)⟩
          obtain ⟨v4,e4⟩:∃ v,arr[12+q*8+p*2+1]?=some v:=⟨_,Array.getElem?_eq_getElem (by omega)⟩
          have d1:=blkC f_k _ e1
          have d2:=blkC f_k _ e2
          have d3:=blkC f_k _ e3
          have d4:=blkC f_k _ e4
          clear e1 e2 e3 e4
          have HN':Hid (FrN ((((arr.setIfInBounds (12+p*8+q*2) (.float .f64 (wd (mn u p q)))).setIfInBounds (12+p*8+q*2+1) (.float .f64 (wd (sz u p q)))).setIfInBounds (12+q*8+p*2) (.float .f64 (wd (mn u q p)))).setIfInBounds (12+q*8+p*2+1) (.float .f64 (wd (sz u p q)))) u q (p+1)):=by
            have:=HN.out.step pq q4
            rw [esz.out] at this
            exact this
          have hge:w.heap.size<=fb:=by omega
          have hne:w.heap.size≠fb:=by omega
          have hne1:w.heap.size+1≠fb:=by omega
          go_wp2_with fail
          go_roundw
          case rel=>exact ⟨p+1,by omega,by go_num,_,HN',heap_set (heap_set (heap_set (heap_set f_k _ _) _ _) _ _) _ _,heap_ne (heap_ne (heap_ne (heap_ne l_k hne _ _) hne _ _) hne _ _) hne _ _,heap_ne (heap_ne (heap_ne (heap_ne r_k hne1 _ _) hne1 _ _) hne1 _ _) hne1 _ _,(((hbw.setCell (p:=⟨fb,_,none⟩) hge _).setCell (p:=⟨fb,_,none⟩) hge _).setCell (p:=⟨fb,_,none⟩) hge _).setCell (p:=⟨fb,_,none⟩) hge _⟩
          case measure=>simp [intOf]; omega
        . obtain rfl:p=q:=by omega
          have HN':Hid (FrN arr u (p+1) 0):=⟨HN.out.n,HN.out.o,HN.out.l,fun a b ab b4 hc=>HN.out.m a b ab b4 (by omega)⟩
          go_wp2_with fail
          go_roundw
          case rel=>exact ⟨p+1,by omega,by go_num,arr,HN',f_k,l_k,r_k,hbw⟩
          case measure=>simp [intOf]; omega
    . obtain rfl:q=4:=by omega
      have hi:(Tryd.prog.info? 73).map (·.size)=some arr.size:=by rw [HN.out.n]; kernel_rfl
      have h44:(#[.float .f64 0,.float .f64 0,.float .f64 0,.float .f64 0,.float .f64 0,.float .f64 0,.float .f64 0,.float .f64 0,.float .f64 0,.float .f64 0,.float .f64 0,.float .f64 0,.float .f64 0,.float .f64 0,.float .f64 0,.float .f64 0,.float .f64 0,.float .f64 0,.float .f64 0,.float .f64 0,.float .f64 0,.float .f64 0,.float .f64 0,.float .f64 0,.float .f64 0,.float .f64 0,.float .f64 0,.float .f64 0,.float .f64 0,.float .f64 0,.float .f64 0,.float .f64 0,.float .f64 0,.float .f64 0,.float .f64 0,.float .f64 0,.float .f64 0,.float .f64 0,.float .f64 0,.float .f64 0,.float .f64 0,.float .f64 0,.float .f64 0,.float .f64 0]:Array Value).size=arr.size:=HN.out.n.symm
      have ho:=HN.out.o
      repeat (first | (refine wp_load_row 73 _ rfl fb rfl _ _ _ _ f_k Tryd.underlying73 rfl hi ?_; dsimp only [Act.put]) | (refine wp_store_row 73 _ _ rfl (w.heap.size+1) arr rfl rfl _ _ r_k hi h44 ho ?_; dsimp only [Act.put]) | go_step)
      have r_k2:=setRow_heap _ _ _ arr _ _ r_k
      exact bodyPost_ret (v:=.agg arr) (results_cell_row Tryd.results31 _ _ (w.heap.size+1) 73 arr (0,0) _ (by simp) r_k2 Tryd.underlying73 rfl hi) rfl ⟨_,rfl,HN.out.all,below_setRow hbw (by omega) _⟩
end Go.Proofs.YtobofhgpidbpmaaDoor
