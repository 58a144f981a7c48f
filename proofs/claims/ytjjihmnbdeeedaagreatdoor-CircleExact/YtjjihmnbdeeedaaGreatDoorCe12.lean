/-
  The document's exact numbers for chapter 11 (plumbref11): minor, row, exact, by their contracts.
-/
import Derived.Test.YtjjihmnbdeeedaaGreatDoorCe11
set_option linter.unusedVariables false
set_option linter.unusedSimpArgs false
namespace Go.Proofs.YtjjihmnbdeeedaaGreatDoor
open Go Go.RowKit Go.Proofs.YtjjihmnbdeeedaaGreatDoor.M
theorem bel_dr (w:World) (o:Obj):Below w.drew.heap.size w.drew (w.alloc o).drew:=bel_trans (bel_alloc w.drew o) (bel_refl _)
theorem heap_a1d (w:World) (o:Obj):(w.alloc o).drew.heap[w.heap.size]?=some o:=heap_a1 w o
set_option maxRecDepth 100000 in
theorem c3plus_any {B:Nat} {w:World} {x y:Value} {A C:Int} {K:Nat} (hx:DAn B w A x) (hy:DAn B w C y) (hB:B<=w.heap.size) (bA:Bd K A) (bC:Bd K C) (hK:K<=28000) :
    Calls Tryz.prog 82 #[x,y] w fun r w'=>∃ v,r=.returned v∧DAn B w' (A+C) v∧Below w.heap.size w w':=by
  have CS:∀ W,Below w.heap.size w W->Calls Tryz.prog 152 #[x,y] W fun r w'=>∃ v,r=.returned v∧DAn B w' (A+C) v∧Below W.heap.size W w':=fun W hW=>by
    have hx':=hx.keeps hW
    have hy':=hy.keeps hW
    refine (radd_D hx'.num hy'.num (K:=K) (by omega) bA bC).mono ?_
    rintro r w' ⟨v,rfl,h⟩
    refine ⟨v,rfl,?_,h.1⟩
    rcases h.2 with h1 | ⟨h1,rfl⟩ | ⟨h1,rfl⟩
    . exact h1.dan.lower (Nat.le_trans hB hW.size)
    . rw [h1,Int.zero_add]; exact hy'.keeps h.1
    . rw [h1,Int.add_zero]; exact hx'.keeps h.1
  obtain ⟨p_g,p_o,p_n,p_c,p_e,rfl⟩:=hx.shape
  obtain ⟨q_g,q_o,q_n,q_c,q_e,rfl⟩:=hy.shape
  clear hx hy bA bC
  have hb0:=bel_a3 w (.cells #[.bool p_g,.slice p_o p_n p_c,.int .i64 p_e] 40) (.cells #[.bool q_g,.slice q_o q_n q_c,.int .i64 q_e] 40) (.cells #[.bool false,.slice none 0 0,.int .i64 0] 40)
  have r_k:=h3_2 w (.cells #[.bool p_g,.slice p_o p_n p_c,.int .i64 p_e] 40) (.cells #[.bool q_g,.slice q_o q_n q_c,.int .i64 q_e] 40) (.cells #[.bool false,.slice none 0 0,.int .i64 0] 40)
  go_enter Tryz.func82,Tryz.ntmps82
  go_wp2_with fail
  generalize ((w.alloc (.cells #[.bool p_g,.slice p_o p_n p_c,.int .i64 p_e] 40)).alloc (.cells #[.bool q_g,.slice q_o q_n q_c,.int .i64 q_e] 40)).alloc (.cells #[.bool false,.slice none 0 0,.int .i64 0] 40)=x0 at r_k hb0 ⊢
  refine (CS _ hb0).mono ?_
  rintro _ y1 ⟨v,rfl,h1,hw⟩
  obtain ⟨n_g,n_o,n_n,n_c,n_e,rfl⟩:=h1.shape
  have r_k:=(hw.block _ (Array.getElem?_eq_some_iff.1 r_k).1).trans r_k
  have k0:=blkC r_k 0 rfl
  have z0:=blkF r_k 0
  have k1:=blkC r_k 1 rfl
  have z1:=blkF r_k 1
  have k2:=blkC r_k 2 rfl
  have z2:=blkF r_k 2
  go_wp2
  refine bodyPost_ret (v:=.agg #[.bool n_g,.slice n_o n_n n_c,.int .i64 n_e]) (by simp [results,Tryz.results82,go_sem,k0,k1,k2]) rfl ⟨_,rfl,dan_res3 h1 r_k _ _ _,bel_set3 (bel_trans hb0 hw) (by omega) _ _ _⟩
theorem below_c3 {B:Nat} {w W:World} (h:Below B w W) {g:Nat} (hg:B<=g) (x y z:Value):Below B w (((W.setCell ⟨g,0,none⟩ x).setCell ⟨g,1,none⟩ y).setCell ⟨g,2,none⟩ z):=cc_s3 h hg 0 1 2 x y z
theorem cell_c3 {W:World} {p:Addr} {v:Value} (h:W.cell? p=some v) {g:Nat} (x y z:Value) (hg:p.block≠g):(((W.setCell ⟨g,0,none⟩ x).setCell ⟨g,1,none⟩ y).setCell ⟨g,2,none⟩ z).cell? p=some v :=
  ((wr3 W g 0 1 2 x y z).cell (World.block_lt_of_cell? W _ h) hg).trans h
theorem cc_dan1 {B:Nat} {w:World} {V:Int} {v:Value} (h:DAn B w V v) {g:Nat} {xs:Array Value} {t:TypeId} {z:Nat × Nat} (hg:w.heap[g]?=some (.cells xs t z)) (ht:t≠3) (o:Nat) (x:Value):DAn B (w.setCell ⟨g,o,none⟩ x) V v :=
  h.of_blocks fun k cur z' hk=>by
    have hne:k≠g:=fun e=>by
      subst e
      rw [hg] at hk
      simp only [Option.some.injEq,Obj.cells.injEq] at hk
      exact ht hk.2.1
    exact ((Wr.refl g w).setCell o x).block k (Array.getElem?_eq_some_iff.1 hk).1 hne
set_option maxRecDepth 100000 in
set_option maxHeartbeats 8000000 in
theorem r11minor {w:World} {a0_g:Bool} {a0_o:Option Addr} {a0_n a0_c:Nat} {a0_e:Int} {a1_g:Bool} {a1_o:Option Addr} {a1_n a1_c:Nat} {a1_e:Int} {a2_g:Bool} {a2_o:Option Addr} {a2_n a2_c:Nat} {a2_e:Int} {b0_g:Bool} {b0_o:Option Addr} {b0_n b0_c:Nat} {b0_e:Int} {b1_g:Bool} {b1_o:Option Addr} {b1_n b1_c:Nat} {b1_e:Int} {b2_g:Bool} {b2_o:Option Addr} {b2_n b2_c:Nat} {b2_e:Int} {A0 A1 B0 B1:Int} {K:Nat} (h0:DNum w (.agg #[.bool a0_g,.slice a0_o a0_n a0_c,.int .i64 a0_e]) A0) (h1:DNum w (.agg #[.bool a1_g,.slice a1_o a1_n a1_c,.int .i64 a1_e]) A1) (k0:DNum w (.agg #[.bool b0_g,.slice b0_o b0_n b0_c,.int .i64 b0_e]) B0) (k1:DNum w (.agg #[.bool b1_g,.slice b1_o b1_n b1_c,.int .i64 b1_e]) B1) (b0:Bd K A0) (b1:Bd K A1) (c0:Bd K B0) (c1:Bd K B1) (hK:K<=9000) :
    Calls Tryz.prog 81 #[.agg #[.bool a0_g,.slice a0_o a0_n a0_c,.int .i64 a0_e,.bool a1_g,.slice a1_o a1_n a1_c,.int .i64 a1_e,.bool a2_g,.slice a2_o a2_n a2_c,.int .i64 a2_e],.agg #[.bool b0_g,.slice b0_o b0_n b0_c,.int .i64 b0_e,.bool b1_g,.slice b1_o b1_n b1_c,.int .i64 b1_e,.bool b2_g,.slice b2_o b2_n b2_c,.int .i64 b2_e]] w fun r w'=>∃ v V,r=.returned v∧DAn w.heap.size w' V v∧Below w.heap.size w w'∧V*2^4194304=A0*B1-B0*A1∧Bd (2*K+1) V:=by
  have M1:Hid (∀ W,Below w.heap.size w W->Calls Tryz.prog 80 #[.agg #[.bool a0_g,.slice a0_o a0_n a0_c,.int .i64 a0_e],.agg #[.bool b1_g,.slice b1_o b1_n b1_c,.int .i64 b1_e]] W fun r w'=>∃ v V,r=.returned v∧DAns W w' V v∧V*2^4194304=A0*B1∧Bd (2*K) V):=fun W hW=>r3times_any (h0.keeps hW) (k1.keeps hW) b0 c1 (by omega)
  have M2:Hid (∀ W,Below w.heap.size w W->Calls Tryz.prog 80 #[.agg #[.bool b0_g,.slice b0_o b0_n b0_c,.int .i64 b0_e],.agg #[.bool a1_g,.slice a1_o a1_n a1_c,.int .i64 a1_e]] W fun r w'=>∃ v V,r=.returned v∧DAns W w' V v∧V*2^4194304=B0*A1∧Bd (2*K) V):=fun W hW=>r3times_any (k0.keeps hW) (h1.keeps hW) c0 b1 (by omega)
  have hK2:Hid (2*K<=28000):=(by omega:2*K<=28000)
  have hK3:Hid (2*K<4194304):=(by omega:2*K<4194304)
  clear h0 h1 k0 k1 b0 b1 c0 c1 hK
  obtain ⟨hb0,a_k,b_k,o_k,hsz0⟩:=blks3 w (.cells #[.bool a0_g,.slice a0_o a0_n a0_c,.int .i64 a0_e,.bool a1_g,.slice a1_o a1_n a1_c,.int .i64 a1_e,.bool a2_g,.slice a2_o a2_n a2_c,.int .i64 a2_e] 56) (.cells #[.bool b0_g,.slice b0_o b0_n b0_c,.int .i64 b0_e,.bool b1_g,.slice b1_o b1_n b1_c,.int .i64 b1_e,.bool b2_g,.slice b2_o b2_n b2_c,.int .i64 b2_e] 56) (.cells #[.bool false,.slice none 0 0,.int .i64 0] 40)
  clear hsz0
  go_enter Tryz.func81,Tryz.ntmps81
  go_wp2_with fail
  generalize (((w.alloc (.cells #[.bool a0_g,.slice a0_o a0_n a0_c,.int .i64 a0_e,.bool a1_g,.slice a1_o a1_n a1_c,.int .i64 a1_e,.bool a2_g,.slice a2_o a2_n a2_c,.int .i64 a2_e] 56)).alloc (.cells #[.bool b0_g,.slice b0_o b0_n b0_c,.int .i64 b0_e,.bool b1_g,.slice b1_o b1_n b1_c,.int .i64 b1_e,.bool b2_g,.slice b2_o b2_n b2_c,.int .i64 b2_e] 56)).alloc (.cells #[.bool false,.slice none 0 0,.int .i64 0] 40))=x0 at hb0 a_k b_k o_k ⊢
  have hs0:=(Array.getElem?_eq_some_iff.1 o_k).1
  have hlt:w.heap.size+2<=x0.heap.size:=by omega
  have KK:∀ W,Below (w.heap.size+2) x0 W->W.cell? ⟨w.heap.size,0,none⟩=some (.bool a0_g)∧W.cell? ⟨w.heap.size,1,none⟩=some (.slice a0_o a0_n a0_c)∧W.cell? ⟨w.heap.size,2,none⟩=some (.int .i64 a0_e)∧W.cell? ⟨w.heap.size,3,none⟩=some (.bool a1_g)∧W.cell? ⟨w.heap.size,4,none⟩=some (.slice a1_o a1_n a1_c)∧W.cell? ⟨w.heap.size,5,none⟩=some (.int .i64 a1_e)∧W.cell? ⟨w.heap.size+1,0,none⟩=some (.bool b0_g)∧W.cell? ⟨w.heap.size+1,1,none⟩=some (.slice b0_o b0_n b0_c)∧W.cell? ⟨w.heap.size+1,2,none⟩=some (.int .i64 b0_e)∧W.cell? ⟨w.heap.size+1,3,none⟩=some (.bool b1_g)∧W.cell? ⟨w.heap.size+1,4,none⟩=some (.slice b1_o b1_n b1_c)∧W.cell? ⟨w.heap.size+1,5,none⟩=some (.int .i64 b1_e):=fun W hb=>⟨cc_b (blkC a_k 0 rfl) hb (show w.heap.size<w.heap.size+2 by omega),cc_b (blkC a_k 1 rfl) hb (show w.heap.size<w.heap.size+2 by omega),cc_b (blkC a_k 2 rfl) hb (show w.heap.size<w.heap.size+2 by omega),cc_b (blkC a_k 3 rfl) hb (show w.heap.size<w.heap.size+2 by omega),cc_b (blkC a_k 4 rfl) hb (show w.heap.size<w.heap.size+2 by omega),cc_b (blkC a_k 5 rfl) hb (show w.heap.size<w.heap.size+2 by omega),cc_b (blkC b_k 0 rfl) hb (show w.heap.size+1<w.heap.size+2 by omega),cc_b (blkC b_k 1 rfl) hb (show w.heap.size+1<w.heap.size+2 by omega),cc_b (blkC b_k 2 rfl) hb (show w.heap.size+1<w.heap.size+2 by omega),cc_b (blkC b_k 3 rfl) hb (show w.heap.size+1<w.heap.size+2 by omega),cc_b (blkC b_k 4 rfl) hb (show w.heap.size+1<w.heap.size+2 by omega),cc_b (blkC b_k 5 rfl) hb (show w.heap.size+1<w.heap.size+2 by omega)⟩
  have hC0:=(bel_refl x0).drew
  go_region_held3 (fun W=>W.cell? ⟨w.heap.size,0,none⟩=some (.bool a0_g)∧W.cell? ⟨w.heap.size,1,none⟩=some (.slice a0_o a0_n a0_c)∧W.cell? ⟨w.heap.size,2,none⟩=some (.int .i64 a0_e)∧W.cell? ⟨w.heap.size,3,none⟩=some (.bool a1_g)∧W.cell? ⟨w.heap.size,4,none⟩=some (.slice a1_o a1_n a1_c)∧W.cell? ⟨w.heap.size,5,none⟩=some (.int .i64 a1_e)∧W.cell? ⟨w.heap.size+1,0,none⟩=some (.bool b0_g)∧W.cell? ⟨w.heap.size+1,1,none⟩=some (.slice b0_o b0_n b0_c)∧W.cell? ⟨w.heap.size+1,2,none⟩=some (.int .i64 b0_e)∧W.cell? ⟨w.heap.size+1,3,none⟩=some (.bool b1_g)∧W.cell? ⟨w.heap.size+1,4,none⟩=some (.slice b1_o b1_n b1_c)∧W.cell? ⟨w.heap.size+1,5,none⟩=some (.int .i64 b1_e))
    (with_reducible first | assumption | exact KK _ (hC0.mono hlt) | exact KK _ (hC1.mono hlt) | exact KK _ (hC2.mono hlt) | exact KK _ (hC3.mono hlt) | exact KK _ (below_c3 (hC3.mono hlt) (Nat.le_refl _) _ _ _) | fail)
    (first | (go_at_call 83; refine (r3minus_any l_A m_A (Nat.le_trans hb0.size hC2.size) l_B m_B hK2.out).mono ?_; rintro _ y3 ⟨v,rfl,d3,hs3⟩; obtain ⟨n_g,n_o,n_n,n_c,n_e,rfl⟩:=d3.shape; have hC3:=bel_trans hC2 hs3; have rk:=blk_on hC3 o_k; have e0:=blkC rk 0 rfl; have z0:=blkF rk 0; have e1:=blkC rk 1 rfl; have z1:=blkF rk 1; have e2:=blkC rk 2 rfl; have z2:=blkF rk 2) | (go_at_call 80; have _t:=hs1; refine (M2.out _ (bel_trans hb0 hC1)).mono ?_; rintro _ y2 ⟨v,m_V,rfl,d2,m_E,m_B⟩; obtain ⟨m_g,m_o,m_n,m_c,m_e,rfl⟩:=dans_shape d2; have hs2:=d2.below; have hC2:=bel_trans hC1 hs2; have m_A:=d2.dan.lower (Nat.le_trans hb0.size hC1.size); have l_A:=l_A.keeps hs2) | (go_at_call 80; refine (M1.out _ (bel_trans hb0 hC0)).mono ?_; rintro _ y1 ⟨v,l_V,rfl,d1,l_E,l_B⟩; obtain ⟨l_g,l_o,l_n,l_c,l_e,rfl⟩:=dans_shape d1; have hs1:=d1.below; have hC1:=bel_trans hC0 hs1; have l_A:=d1.dan.lower (Nat.le_trans hb0.size hC0.size)))
  go_wp2
  exact bodyPost_ret (v:=.agg #[.bool n_g,.slice n_o n_n n_c,.int .i64 n_e]) (by simp [results,Tryz.results81,go_sem,e0,e1,e2]) rfl ⟨_,l_V-m_V,rfl,dan_res3 d3 rk _ _ _,bel_set3 (bel_trans hb0 hC3) (by omega) _ _ _,by rw [Int.sub_mul,l_E,m_E],l_B.sub m_B hK3.out⟩
set_option maxRecDepth 100000 in
set_option maxHeartbeats 8000000 in
theorem r11row {w:World} {x_g:Bool} {x_o:Option Addr} {x_n x_c:Nat} {x_e:Int} {y_g:Bool} {y_o:Option Addr} {y_n y_c:Nat} {y_e:Int} {A0 A1:Int} {K:Nat} (h0:DNum w (.agg #[.bool x_g,.slice x_o x_n x_c,.int .i64 x_e]) A0) (h1:DNum w (.agg #[.bool y_g,.slice y_o y_n y_c,.int .i64 y_e]) A1) (b0:Bd K A0) (b1:Bd K A1) (hK:K<=9000) :
    Calls Tryz.prog 85 #[.agg #[.bool x_g,.slice x_o x_n x_c,.int .i64 x_e],.agg #[.bool y_g,.slice y_o y_n y_c,.int .i64 y_e]] w fun r w'=>∃ q_g q_o q_n q_c q_e V,r=.returned (.agg #[.bool x_g,.slice x_o x_n x_c,.int .i64 x_e,.bool y_g,.slice y_o y_n y_c,.int .i64 y_e,.bool q_g,.slice q_o q_n q_c,.int .i64 q_e])∧DAn w.heap.size w' V (.agg #[.bool q_g,.slice q_o q_n q_c,.int .i64 q_e])∧Below w.heap.size w w'∧V*2^4194304=A0*A0+A1*A1∧Bd (2*K+1) V:=by
  have M1:Hid (∀ W,Below w.heap.size w W->Calls Tryz.prog 80 #[.agg #[.bool x_g,.slice x_o x_n x_c,.int .i64 x_e],.agg #[.bool x_g,.slice x_o x_n x_c,.int .i64 x_e]] W fun r w'=>∃ v V,r=.returned v∧DAns W w' V v∧V*2^4194304=A0*A0∧Bd (2*K) V):=fun W hW=>r3times_any (h0.keeps hW) (h0.keeps hW) b0 b0 (by omega)
  have M2:Hid (∀ W,Below w.heap.size w W->Calls Tryz.prog 80 #[.agg #[.bool y_g,.slice y_o y_n y_c,.int .i64 y_e],.agg #[.bool y_g,.slice y_o y_n y_c,.int .i64 y_e]] W fun r w'=>∃ v V,r=.returned v∧DAns W w' V v∧V*2^4194304=A1*A1∧Bd (2*K) V):=fun W hW=>r3times_any (h1.keeps hW) (h1.keeps hW) b1 b1 (by omega)
  have hK2:Hid (2*K<=28000):=(by omega:2*K<=28000)
  have hK3:Hid (2*K<4194304):=(by omega:2*K<4194304)
  clear h0 h1 b0 b1 hK
  obtain ⟨hb0,x_k,y_k,o_k,hsz0⟩:=blks3 w (.cells #[.bool x_g,.slice x_o x_n x_c,.int .i64 x_e] 40) (.cells #[.bool y_g,.slice y_o y_n y_c,.int .i64 y_e] 40) (.cells #[.bool false,.slice none 0 0,.int .i64 0,.bool false,.slice none 0 0,.int .i64 0,.bool false,.slice none 0 0,.int .i64 0] 56)
  clear hsz0
  go_enter Tryz.func85,Tryz.ntmps85
  go_wp2_with fail
  generalize (((w.alloc (.cells #[.bool x_g,.slice x_o x_n x_c,.int .i64 x_e] 40)).alloc (.cells #[.bool y_g,.slice y_o y_n y_c,.int .i64 y_e] 40)).alloc (.cells #[.bool false,.slice none 0 0,.int .i64 0,.bool false,.slice none 0 0,.int .i64 0,.bool false,.slice none 0 0,.int .i64 0] 56))=x0 at hb0 x_k y_k o_k ⊢
  have hs0:=(Array.getElem?_eq_some_iff.1 o_k).1
  have hlt:w.heap.size+2<=x0.heap.size:=by omega
  have KK:∀ W,Below (w.heap.size+2) x0 W->W.cell? ⟨w.heap.size,0,none⟩=some (.bool x_g)∧W.cell? ⟨w.heap.size,1,none⟩=some (.slice x_o x_n x_c)∧W.cell? ⟨w.heap.size,2,none⟩=some (.int .i64 x_e)∧W.cell? ⟨w.heap.size+1,0,none⟩=some (.bool y_g)∧W.cell? ⟨w.heap.size+1,1,none⟩=some (.slice y_o y_n y_c)∧W.cell? ⟨w.heap.size+1,2,none⟩=some (.int .i64 y_e):=fun W hb=>⟨cc_b (blkC x_k 0 rfl) hb (show w.heap.size<w.heap.size+2 by omega),cc_b (blkC x_k 1 rfl) hb (show w.heap.size<w.heap.size+2 by omega),cc_b (blkC x_k 2 rfl) hb (show w.heap.size<w.heap.size+2 by omega),cc_b (blkC y_k 0 rfl) hb (show w.heap.size+1<w.heap.size+2 by omega),cc_b (blkC y_k 1 rfl) hb (show w.heap.size+1<w.heap.size+2 by omega),cc_b (blkC y_k 2 rfl) hb (show w.heap.size+1<w.heap.size+2 by omega)⟩
  have hC0:=(bel_refl x0).drew
  go_region_held3 (fun W=>W.cell? ⟨w.heap.size,0,none⟩=some (.bool x_g)∧W.cell? ⟨w.heap.size,1,none⟩=some (.slice x_o x_n x_c)∧W.cell? ⟨w.heap.size,2,none⟩=some (.int .i64 x_e)∧W.cell? ⟨w.heap.size+1,0,none⟩=some (.bool y_g)∧W.cell? ⟨w.heap.size+1,1,none⟩=some (.slice y_o y_n y_c)∧W.cell? ⟨w.heap.size+1,2,none⟩=some (.int .i64 y_e))
    (with_reducible first | assumption | exact KK _ (hC0.mono hlt) | exact KK _ (hC1.mono hlt) | exact KK _ (hC2.mono hlt) | exact KK _ (hC3.mono hlt) | exact KK _ ((((((((((hC3.mono hlt).setCell (p:=⟨w.heap.size+2,0,none⟩) (Nat.le_refl _) _).setCell (p:=⟨w.heap.size+2,1,none⟩) (Nat.le_refl _) _).setCell (p:=⟨w.heap.size+2,2,none⟩) (Nat.le_refl _) _).setCell (p:=⟨w.heap.size+2,3,none⟩) (Nat.le_refl _) _).setCell (p:=⟨w.heap.size+2,4,none⟩) (Nat.le_refl _) _).setCell (p:=⟨w.heap.size+2,5,none⟩) (Nat.le_refl _) _).setCell (p:=⟨w.heap.size+2,6,none⟩) (Nat.le_refl _) _).setCell (p:=⟨w.heap.size+2,7,none⟩) (Nat.le_refl _) _).setCell (p:=⟨w.heap.size+2,8,none⟩) (Nat.le_refl _) _) | fail)
    (first | (go_at_call 82; refine (c3plus_any l_A m_A (Nat.le_trans hb0.size hC2.size) l_B m_B hK2.out).mono ?_; rintro _ y3 ⟨v,rfl,d3,hs3⟩; obtain ⟨q_g,q_o,q_n,q_c,q_e,rfl⟩:=d3.shape; have hC3:=bel_trans hC2 hs3; have rk:=blk_on hC3 o_k; have e0:=blkC rk 0 rfl; have z0:=blkF rk 0; have e1:=blkC rk 1 rfl; have z1:=blkF rk 1; have e2:=blkC rk 2 rfl; have z2:=blkF rk 2; have e3:=blkC rk 3 rfl; have z3:=blkF rk 3; have e4:=blkC rk 4 rfl; have z4:=blkF rk 4; have e5:=blkC rk 5 rfl; have z5:=blkF rk 5; have e6:=blkC rk 6 rfl; have z6:=blkF rk 6; have e7:=blkC rk 7 rfl; have z7:=blkF rk 7; have e8:=blkC rk 8 rfl; have z8:=blkF rk 8) | (go_at_call 80; have _t:=hs1; refine (M2.out _ (bel_trans hb0 hC1)).mono ?_; rintro _ y2 ⟨v,m_V,rfl,d2,m_E,m_B⟩; obtain ⟨m_g,m_o,m_n,m_c,m_e,rfl⟩:=dans_shape d2; have hs2:=d2.below; have hC2:=bel_trans hC1 hs2; have m_A:=d2.dan.lower (Nat.le_trans hb0.size hC1.size); have l_A:=l_A.keeps hs2) | (go_at_call 80; refine (M1.out _ (bel_trans hb0 hC0)).mono ?_; rintro _ y1 ⟨v,l_V,rfl,d1,l_E,l_B⟩; obtain ⟨l_g,l_o,l_n,l_c,l_e,rfl⟩:=dans_shape d1; have hs1:=d1.below; have hC1:=bel_trans hC0 hs1; have l_A:=d1.dan.lower (Nat.le_trans hb0.size hC0.size)))
  go_wp2
  have hb3:=bel_trans hb0 hC3
  exact bodyPost_ret (v:=.agg #[.bool x_g,.slice x_o x_n x_c,.int .i64 x_e,.bool y_g,.slice y_o y_n y_c,.int .i64 y_e,.bool q_g,.slice q_o q_n q_c,.int .i64 q_e]) (by simp [results,Tryz.results85,go_sem,e0,e1,e2,e3,e4,e5,e6,e7,e8]) rfl ⟨_,_,_,_,_,l_V+m_V,rfl,cc_dan1 (cc_dan1 (cc_dan1 (cc_dan1 (cc_dan1 (cc_dan1 (cc_dan1 (cc_dan1 (cc_dan1 (d3) (rk) (by decide) 0 _) (heap_set (rk) 0 _) (by decide) 1 _) (heap_set (heap_set (rk) 0 _) 1 _) (by decide) 2 _) (heap_set (heap_set (heap_set (rk) 0 _) 1 _) 2 _) (by decide) 3 _) (heap_set (heap_set (heap_set (heap_set (rk) 0 _) 1 _) 2 _) 3 _) (by decide) 4 _) (heap_set (heap_set (heap_set (heap_set (heap_set (rk) 0 _) 1 _) 2 _) 3 _) 4 _) (by decide) 5 _) (heap_set (heap_set (heap_set (heap_set (heap_set (heap_set (rk) 0 _) 1 _) 2 _) 3 _) 4 _) 5 _) (by decide) 6 _) (heap_set (heap_set (heap_set (heap_set (heap_set (heap_set (heap_set (rk) 0 _) 1 _) 2 _) 3 _) 4 _) 5 _) 6 _) (by decide) 7 _) (heap_set (heap_set (heap_set (heap_set (heap_set (heap_set (heap_set (heap_set (rk) 0 _) 1 _) 2 _) 3 _) 4 _) 5 _) 6 _) 7 _) (by decide) 8 _,(((((((((hb3).setCell (p:=⟨w.heap.size+2,0,none⟩) (show w.heap.size<=w.heap.size+2 by omega) _).setCell (p:=⟨w.heap.size+2,1,none⟩) (show w.heap.size<=w.heap.size+2 by omega) _).setCell (p:=⟨w.heap.size+2,2,none⟩) (show w.heap.size<=w.heap.size+2 by omega) _).setCell (p:=⟨w.heap.size+2,3,none⟩) (show w.heap.size<=w.heap.size+2 by omega) _).setCell (p:=⟨w.heap.size+2,4,none⟩) (show w.heap.size<=w.heap.size+2 by omega) _).setCell (p:=⟨w.heap.size+2,5,none⟩) (show w.heap.size<=w.heap.size+2 by omega) _).setCell (p:=⟨w.heap.size+2,6,none⟩) (show w.heap.size<=w.heap.size+2 by omega) _).setCell (p:=⟨w.heap.size+2,7,none⟩) (show w.heap.size<=w.heap.size+2 by omega) _).setCell (p:=⟨w.heap.size+2,8,none⟩) (show w.heap.size<=w.heap.size+2 by omega) _,by rw [Int.add_mul,l_E,m_E],l_B.add m_B hK3.out⟩
end Go.Proofs.YtjjihmnbdeeedaaGreatDoor
