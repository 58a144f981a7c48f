/- Parts of the proof. -/
import Derived.Test.YtdcppnnodgnojaaDoorPart18
import Derived.Test.YtdcppnnodgnojaaDoorPart6
set_option linter.unusedVariables false
set_option linter.unusedSimpArgs false
namespace Go.Proofs.YtdcppnnodgnojaaDoor
open Go Go.RowKit Go.Proofs.YtdcppnnodgnojaaDoor.M
theorem cell_g2 {W:World} {p:Addr} {v:Value} (h:W.cell? p=some v) {g:Nat} (o0 o1:Nat) (x y:Value) (hg:p.block ≠ g):((W.setCell ⟨g,o0,none⟩ x).setCell ⟨g,o1,none⟩ y).cell? p=some v :=
  cell_ne (cell_ne h hg o0 x) hg o1 y
theorem h5b (w:World) (a b c d e:Obj):Below w.heap.size w (((((w.alloc a).alloc b).alloc c).alloc d).alloc e):=bel_trans (bel_a4 w a b c d) (bel_alloc _ _)
theorem h6b (w:World) (a b c d e f:Obj):Below w.heap.size w ((((((w.alloc a).alloc b).alloc c).alloc d).alloc e).alloc f):=bel_trans (h5b w a b c d e) (bel_alloc _ _)
theorem sps_side (s:Nat->Nat->Int) (w:World) {g:Nat} (h:w.heap[g]?=some (.cells #[.int .i64 (s 0 0),.int .i64 (s 0 1),.int .i64 (s 0 2),.int .i64 (s 1 0),.int .i64 (s 1 1),.int .i64 (s 1 2),.int .i64 (s 2 0),.int .i64 (s 2 1),.int .i64 (s 2 2),.int .i64 (s 3 0),.int .i64 (s 3 1),.int .i64 (s 3 2)] 23 (0,0))):Sps w (some ⟨g,0,none⟩) 4 4 s :=
  ⟨by omega,by omega,fun _=>⟨g,0,rfl,(Array.getElem?_eq_some_iff.1 h).1,fun i hi=>by
    match i,hi with
    | 0,_=>exact ⟨blkC h 0 rfl,blkC h 1 rfl,blkC h 2 rfl⟩
    | 1,_=>exact ⟨blkC h 3 rfl,blkC h 4 rfl,blkC h 5 rfl⟩
    | 2,_=>exact ⟨blkC h 6 rfl,blkC h 7 rfl,blkC h 8 rfl⟩
    | 3,_=>exact ⟨blkC h 9 rfl,blkC h 10 rfl,blkC h 11 rfl⟩⟩⟩
def st_side (s:Nat->Nat->Int):Int:=if allB (stm s) 4=true then (if key (fprod sA (sxz (uL s 3) 0 1 2)) < rg (dt (uL s 3) 0 1 2) then 1 else 4) else 6
theorem sok_all_side {s:Nat->Nat->Int} (h:allB (sok s) 4=true):∀ i,i <= 3->∀ k,k < 3->pok (s i k)=true:=fun i hi k hk=>by
  have:=(of_decide_eq_true h) i (by omega)
  unfold sok at this
  rw [Bool.and_eq_true,Bool.and_eq_true] at this
  match k,hk with
  | 0,_=>exact this.1.1
  | 1,_=>exact this.1.2
  | 2,_=>exact this.2
theorem stm_all_side {s:Nat->Nat->Int} (h:allB (stm s) 4=true):∀ i,i <= 3->∀ k,k < 3->tame (s i k)=true:=fun i hi k hk=>by
  have:=(of_decide_eq_true h) i (by omega)
  unfold stm at this
  rw [Bool.and_eq_true,Bool.and_eq_true] at this
  match k,hk with
  | 0,_=>exact this.1.1
  | 1,_=>exact this.1.2
  | 2,_=>exact this.2
theorem vd_ok_side (ao:Option Addr) (cap:Nat) (s:Nat->Nat->Int) (w:World) (h:Sps w ao 4 cap s) (hr:∀ i k,rng (s i k)) (hok:allB (sok s) 4=true) (H:Hold4 w) :
    Calls Tryd.prog 15 #[.agg #[.func (.func 19) #[] #[],.float .f64 4380876537524649991,.func (.func 20) #[] #[]],.slice ao 4 cap] w fun e w'=>e=.returned (.tuple #[.agg #[.int .i64 (ord (dX (vL s 3) 0 1 2) 0),.int .i64 (st_side s)],.int .i64 0])∧Below w.heap.size w w':=by
  have hz:=sok_all_side hok
  unfold st_side
  cases ht:allB (stm s) 4
  . rw [if_neg (by decide)]
    exact vd_wild_side ao cap s w h hr hok hz ht H
  . rw [if_pos rfl]
    by_cases c:key (fprod sA (sxz (uL s 3) 0 1 2)) < rg (dt (uL s 3) 0 1 2)
    . rw [if_pos c]
      exact vd_yes_side ao cap s w h hr hok hz ht (stm_all_side ht) c H
    . rw [if_neg c]
      exact vd_no4_side ao cap s w h hr hok hz ht (stm_all_side ht) (by omega) H
set_option maxRecDepth 100000 in
set_option maxHeartbeats 4000000 in
theorem sSide_ok (s:Nat->Nat->Int) (w:World) (hr:∀ i k,rng (s i k)) (hok:allB (sok s) 4=true) (H:Hold4 w) :
    Calls Tryd.prog 7 #[.agg #[.int .i64 (s 0 0),.int .i64 (s 0 1),.int .i64 (s 0 2)],.agg #[.int .i64 (s 1 0),.int .i64 (s 1 1),.int .i64 (s 1 2)],.agg #[.int .i64 (s 2 0),.int .i64 (s 2 1),.int .i64 (s 2 2)],.agg #[.int .i64 (s 3 0),.int .i64 (s 3 1),.int .i64 (s 3 2)]] w fun e w'=>e=.returned (.tuple #[.agg #[.int .i64 (ord (dX (vL s 3) 0 1 2) 0),.int .i64 (st_side s)],.int .i64 0])∧Below w.heap.size w w':=by
  have CV:Hid (∀ W g,Below w.heap.size w W->W.heap[g]?=some (.cells #[.int .i64 (s 0 0),.int .i64 (s 0 1),.int .i64 (s 0 2),.int .i64 (s 1 0),.int .i64 (s 1 1),.int .i64 (s 1 2),.int .i64 (s 2 0),.int .i64 (s 2 1),.int .i64 (s 2 2),.int .i64 (s 3 0),.int .i64 (s 3 1),.int .i64 (s 3 2)] 23 (0,0))->Calls Tryd.prog 15 #[.agg #[.func (.func 19) #[] #[],.float .f64 4380876537524649991,.func (.func 20) #[] #[]],.slice (some ⟨g,0,none⟩) 4 4] W fun e w'=>e=.returned (.tuple #[.agg #[.int .i64 (ord (dX (vL s 3) 0 1 2) 0),.int .i64 (st_side s)],.int .i64 0])∧Below W.heap.size W w'):=fun W g hW hk=>vd_ok_side _ 4 s W (sps_side s W hk) hr hok (H.keeps hW)
  have CQ:Hid (∀ W,Calls Tryd.prog 14 #[] W fun e w'=>e=.returned (.agg #[.func (.func 19) #[] #[],.float .f64 4380876537524649991,.func (.func 20) #[] #[]])∧Below W.heap.size W w'):=fun W=>q_side W
  clear hr hok H
  generalize ord (dX (vL s 3) 0 1 2) 0=sg at *
  generalize st_side s=st at *
  have hb0:=h5b w (.cells #[.int .i64 (s 0 0),.int .i64 (s 0 1),.int .i64 (s 0 2)] 23) (.cells #[.int .i64 (s 1 0),.int .i64 (s 1 1),.int .i64 (s 1 2)] 23) (.cells #[.int .i64 (s 2 0),.int .i64 (s 2 1),.int .i64 (s 2 2)] 23) (.cells #[.int .i64 (s 3 0),.int .i64 (s 3 1),.int .i64 (s 3 2)] 23) (.cells #[.int .i64 0,.int .i64 0] 29)
  have p0_k:=heap_new (w:=w) (k:=w.heap.size) (.cells #[.int .i64 (s 0 0),.int .i64 (s 0 1),.int .i64 (s 0 2)] 23) (by simp only [size_alloc])
  replace p0_k:=heap_past (.cells #[.int .i64 (s 1 0),.int .i64 (s 1 1),.int .i64 (s 1 2)] 23) p0_k
  replace p0_k:=heap_past (.cells #[.int .i64 (s 2 0),.int .i64 (s 2 1),.int .i64 (s 2 2)] 23) p0_k
  replace p0_k:=heap_past (.cells #[.int .i64 (s 3 0),.int .i64 (s 3 1),.int .i64 (s 3 2)] 23) p0_k
  replace p0_k:=heap_past (.cells #[.int .i64 0,.int .i64 0] 29) p0_k
  have p1_k:=heap_new (w:=(w.alloc (.cells #[.int .i64 (s 0 0),.int .i64 (s 0 1),.int .i64 (s 0 2)] 23))) (k:=w.heap.size + 1) (.cells #[.int .i64 (s 1 0),.int .i64 (s 1 1),.int .i64 (s 1 2)] 23) (by simp only [size_alloc])
  replace p1_k:=heap_past (.cells #[.int .i64 (s 2 0),.int .i64 (s 2 1),.int .i64 (s 2 2)] 23) p1_k
  replace p1_k:=heap_past (.cells #[.int .i64 (s 3 0),.int .i64 (s 3 1),.int .i64 (s 3 2)] 23) p1_k
  replace p1_k:=heap_past (.cells #[.int .i64 0,.int .i64 0] 29) p1_k
  have p2_k:=heap_new (w:=((w.alloc (.cells #[.int .i64 (s 0 0),.int .i64 (s 0 1),.int .i64 (s 0 2)] 23)).alloc (.cells #[.int .i64 (s 1 0),.int .i64 (s 1 1),.int .i64 (s 1 2)] 23))) (k:=w.heap.size + 1 + 1) (.cells #[.int .i64 (s 2 0),.int .i64 (s 2 1),.int .i64 (s 2 2)] 23) (by simp only [size_alloc])
  replace p2_k:=heap_past (.cells #[.int .i64 (s 3 0),.int .i64 (s 3 1),.int .i64 (s 3 2)] 23) p2_k
  replace p2_k:=heap_past (.cells #[.int .i64 0,.int .i64 0] 29) p2_k
  have p3_k:=heap_new (w:=(((w.alloc (.cells #[.int .i64 (s 0 0),.int .i64 (s 0 1),.int .i64 (s 0 2)] 23)).alloc (.cells #[.int .i64 (s 1 0),.int .i64 (s 1 1),.int .i64 (s 1 2)] 23)).alloc (.cells #[.int .i64 (s 2 0),.int .i64 (s 2 1),.int .i64 (s 2 2)] 23))) (k:=w.heap.size + 1 + 1 + 1) (.cells #[.int .i64 (s 3 0),.int .i64 (s 3 1),.int .i64 (s 3 2)] 23) (by simp only [size_alloc])
  replace p3_k:=heap_past (.cells #[.int .i64 0,.int .i64 0] 29) p3_k
  have r_k:=heap_new (w:=((((w.alloc (.cells #[.int .i64 (s 0 0),.int .i64 (s 0 1),.int .i64 (s 0 2)] 23)).alloc (.cells #[.int .i64 (s 1 0),.int .i64 (s 1 1),.int .i64 (s 1 2)] 23)).alloc (.cells #[.int .i64 (s 2 0),.int .i64 (s 2 1),.int .i64 (s 2 2)] 23)).alloc (.cells #[.int .i64 (s 3 0),.int .i64 (s 3 1),.int .i64 (s 3 2)] 23))) (k:=w.heap.size + 1 + 1 + 1 + 1) (.cells #[.int .i64 0,.int .i64 0] 29) (by simp only [size_alloc])
  go_enter Tryd.func7,Tryd.ntmps7
  go_wp2_with fail
  generalize (((((w.alloc (.cells #[.int .i64 (s 0 0),.int .i64 (s 0 1),.int .i64 (s 0 2)] 23)).alloc (.cells #[.int .i64 (s 1 0),.int .i64 (s 1 1),.int .i64 (s 1 2)] 23)).alloc (.cells #[.int .i64 (s 2 0),.int .i64 (s 2 1),.int .i64 (s 2 2)] 23)).alloc (.cells #[.int .i64 (s 3 0),.int .i64 (s 3 1),.int .i64 (s 3 2)] 23)).alloc (.cells #[.int .i64 0,.int .i64 0] 29))=x0 at hb0 p0_k p1_k p2_k p3_k r_k ⊢
  have hs0:=(Array.getElem?_eq_some_iff.1 r_k).1
  have KK:∀ W,Below x0.heap.size x0 W->W.cell? ⟨w.heap.size,0,none⟩=some (.int .i64 (s 0 0))∧W.cell? ⟨w.heap.size,1,none⟩=some (.int .i64 (s 0 1))∧W.cell? ⟨w.heap.size,2,none⟩=some (.int .i64 (s 0 2))∧W.cell? ⟨w.heap.size + 1,0,none⟩=some (.int .i64 (s 1 0))∧W.cell? ⟨w.heap.size + 1,1,none⟩=some (.int .i64 (s 1 1))∧W.cell? ⟨w.heap.size + 1,2,none⟩=some (.int .i64 (s 1 2))∧W.cell? ⟨w.heap.size + 1 + 1,0,none⟩=some (.int .i64 (s 2 0))∧W.cell? ⟨w.heap.size + 1 + 1,1,none⟩=some (.int .i64 (s 2 1))∧W.cell? ⟨w.heap.size + 1 + 1,2,none⟩=some (.int .i64 (s 2 2))∧W.cell? ⟨w.heap.size + 1 + 1 + 1,0,none⟩=some (.int .i64 (s 3 0))∧W.cell? ⟨w.heap.size + 1 + 1 + 1,1,none⟩=some (.int .i64 (s 3 1))∧W.cell? ⟨w.heap.size + 1 + 1 + 1,2,none⟩=some (.int .i64 (s 3 2)):=fun W hb=>⟨q_cell (blkC p0_k 0 rfl) hb,q_cell (blkC p0_k 1 rfl) hb,q_cell (blkC p0_k 2 rfl) hb,q_cell (blkC p1_k 0 rfl) hb,q_cell (blkC p1_k 1 rfl) hb,q_cell (blkC p1_k 2 rfl) hb,q_cell (blkC p2_k 0 rfl) hb,q_cell (blkC p2_k 1 rfl) hb,q_cell (blkC p2_k 2 rfl) hb,q_cell (blkC p3_k 0 rfl) hb,q_cell (blkC p3_k 1 rfl) hb,q_cell (blkC p3_k 2 rfl) hb⟩
  have KN:∀ W a b,Below x0.heap.size x0 W->((W.setCell ⟨w.heap.size + 1 + 1 + 1 + 1,0,none⟩ a).setCell ⟨w.heap.size + 1 + 1 + 1 + 1,1,none⟩ b).cell? ⟨w.heap.size,0,none⟩=some (.int .i64 (s 0 0))∧((W.setCell ⟨w.heap.size + 1 + 1 + 1 + 1,0,none⟩ a).setCell ⟨w.heap.size + 1 + 1 + 1 + 1,1,none⟩ b).cell? ⟨w.heap.size,1,none⟩=some (.int .i64 (s 0 1))∧((W.setCell ⟨w.heap.size + 1 + 1 + 1 + 1,0,none⟩ a).setCell ⟨w.heap.size + 1 + 1 + 1 + 1,1,none⟩ b).cell? ⟨w.heap.size,2,none⟩=some (.int .i64 (s 0 2))∧((W.setCell ⟨w.heap.size + 1 + 1 + 1 + 1,0,none⟩ a).setCell ⟨w.heap.size + 1 + 1 + 1 + 1,1,none⟩ b).cell? ⟨w.heap.size + 1,0,none⟩=some (.int .i64 (s 1 0))∧((W.setCell ⟨w.heap.size + 1 + 1 + 1 + 1,0,none⟩ a).setCell ⟨w.heap.size + 1 + 1 + 1 + 1,1,none⟩ b).cell? ⟨w.heap.size + 1,1,none⟩=some (.int .i64 (s 1 1))∧((W.setCell ⟨w.heap.size + 1 + 1 + 1 + 1,0,none⟩ a).setCell ⟨w.heap.size + 1 + 1 + 1 + 1,1,none⟩ b).cell? ⟨w.heap.size + 1,2,none⟩=some (.int .i64 (s 1 2))∧((W.setCell ⟨w.heap.size + 1 + 1 + 1 + 1,0,none⟩ a).setCell ⟨w.heap.size + 1 + 1 + 1 + 1,1,none⟩ b).cell? ⟨w.heap.size + 1 + 1,0,none⟩=some (.int .i64 (s 2 0))∧((W.setCell ⟨w.heap.size + 1 + 1 + 1 + 1,0,none⟩ a).setCell ⟨w.heap.size + 1 + 1 + 1 + 1,1,none⟩ b).cell? ⟨w.heap.size + 1 + 1,1,none⟩=some (.int .i64 (s 2 1))∧((W.setCell ⟨w.heap.size + 1 + 1 + 1 + 1,0,none⟩ a).setCell ⟨w.heap.size + 1 + 1 + 1 + 1,1,none⟩ b).cell? ⟨w.heap.size + 1 + 1,2,none⟩=some (.int .i64 (s 2 2))∧((W.setCell ⟨w.heap.size + 1 + 1 + 1 + 1,0,none⟩ a).setCell ⟨w.heap.size + 1 + 1 + 1 + 1,1,none⟩ b).cell? ⟨w.heap.size + 1 + 1 + 1,0,none⟩=some (.int .i64 (s 3 0))∧((W.setCell ⟨w.heap.size + 1 + 1 + 1 + 1,0,none⟩ a).setCell ⟨w.heap.size + 1 + 1 + 1 + 1,1,none⟩ b).cell? ⟨w.heap.size + 1 + 1 + 1,1,none⟩=some (.int .i64 (s 3 1))∧((W.setCell ⟨w.heap.size + 1 + 1 + 1 + 1,0,none⟩ a).setCell ⟨w.heap.size + 1 + 1 + 1 + 1,1,none⟩ b).cell? ⟨w.heap.size + 1 + 1 + 1,2,none⟩=some (.int .i64 (s 3 2)):=fun W a b hb=>⟨cell_g2 (KK W hb).1 0 1 a b (show w.heap.size ≠ w.heap.size + 1 + 1 + 1 + 1 by omega),cell_g2 (KK W hb).2.1 0 1 a b (show w.heap.size ≠ w.heap.size + 1 + 1 + 1 + 1 by omega),cell_g2 (KK W hb).2.2.1 0 1 a b (show w.heap.size ≠ w.heap.size + 1 + 1 + 1 + 1 by omega),cell_g2 (KK W hb).2.2.2.1 0 1 a b (show w.heap.size + 1 ≠ w.heap.size + 1 + 1 + 1 + 1 by omega),cell_g2 (KK W hb).2.2.2.2.1 0 1 a b (show w.heap.size + 1 ≠ w.heap.size + 1 + 1 + 1 + 1 by omega),cell_g2 (KK W hb).2.2.2.2.2.1 0 1 a b (show w.heap.size + 1 ≠ w.heap.size + 1 + 1 + 1 + 1 by omega),cell_g2 (KK W hb).2.2.2.2.2.2.1 0 1 a b (show w.heap.size + 1 + 1 ≠ w.heap.size + 1 + 1 + 1 + 1 by omega),cell_g2 (KK W hb).2.2.2.2.2.2.2.1 0 1 a b (show w.heap.size + 1 + 1 ≠ w.heap.size + 1 + 1 + 1 + 1 by omega),cell_g2 (KK W hb).2.2.2.2.2.2.2.2.1 0 1 a b (show w.heap.size + 1 + 1 ≠ w.heap.size + 1 + 1 + 1 + 1 by omega),cell_g2 (KK W hb).2.2.2.2.2.2.2.2.2.1 0 1 a b (show w.heap.size + 1 + 1 + 1 ≠ w.heap.size + 1 + 1 + 1 + 1 by omega),cell_g2 (KK W hb).2.2.2.2.2.2.2.2.2.2.1 0 1 a b (show w.heap.size + 1 + 1 + 1 ≠ w.heap.size + 1 + 1 + 1 + 1 by omega),cell_g2 (KK W hb).2.2.2.2.2.2.2.2.2.2.2 0 1 a b (show w.heap.size + 1 + 1 + 1 ≠ w.heap.size + 1 + 1 + 1 + 1 by omega)⟩
  have hR0:=bel_refl x0
  have hC0:=(bel_refl x0).drew
  go_region_held3 (fun W=>W.cell? ⟨w.heap.size,0,none⟩=some (.int .i64 (s 0 0))∧W.cell? ⟨w.heap.size,1,none⟩=some (.int .i64 (s 0 1))∧W.cell? ⟨w.heap.size,2,none⟩=some (.int .i64 (s 0 2))∧W.cell? ⟨w.heap.size + 1,0,none⟩=some (.int .i64 (s 1 0))∧W.cell? ⟨w.heap.size + 1,1,none⟩=some (.int .i64 (s 1 1))∧W.cell? ⟨w.heap.size + 1,2,none⟩=some (.int .i64 (s 1 2))∧W.cell? ⟨w.heap.size + 1 + 1,0,none⟩=some (.int .i64 (s 2 0))∧W.cell? ⟨w.heap.size + 1 + 1,1,none⟩=some (.int .i64 (s 2 1))∧W.cell? ⟨w.heap.size + 1 + 1,2,none⟩=some (.int .i64 (s 2 2))∧W.cell? ⟨w.heap.size + 1 + 1 + 1,0,none⟩=some (.int .i64 (s 3 0))∧W.cell? ⟨w.heap.size + 1 + 1 + 1,1,none⟩=some (.int .i64 (s 3 1))∧W.cell? ⟨w.heap.size + 1 + 1 + 1,2,none⟩=some (.int .i64 (s 3 2)))
    (with_reducible first | assumption | exact KK _ hC0 | exact KK _ (alD hR0 _) | exact KK _ (alS hC0 _) | exact KK _ hC1 | exact KK _ (alS hC1 _) | exact KK _ hC2 | exact KN _ _ _ hC2 | fail)
    (first | (go_at_call 15; refine (CV.out _ _ (bel_trans hb0 (by with_reducible first | exact hC1 | exact alS hC1 _)) (by with_reducible first | exact heap_a1 _ _ | exact blk_us hq (heap_ad _ _))).mono ?_; rintro _ y2 ⟨rfl,hw2⟩; have hC2:=bel_trans (by with_reducible first | exact hC1 | exact alS hC1 _) hw2; have r2:=blk_us hC2 r_k; have e0:=blkC r2 0 rfl; have z0:=blkF r2 0; have e1:=blkC r2 1 rfl; have z1:=blkF r2 1) | (go_at_call 14; refine (CQ.out _).mono ?_; rintro _ y1 ⟨rfl,hq⟩; have hC1:=bel_trans (by with_reducible first | exact hC0 | exact alD hR0 _) hq))
  all_goals
    go_wp2
    exact bodyPost_ret (v:=.tuple #[.agg #[.int .i64 sg,.int .i64 st],.int .i64 0]) (by simp [results,Tryd.results7,go_sem,e0,e1]) rfl ⟨rfl,by first | exact ((bel_trans hb0 hC2).setCell (p:=⟨w.heap.size + 1 + 1 + 1 + 1,0,none⟩) (show w.heap.size <= w.heap.size + 1 + 1 + 1 + 1 by omega) _).setCell (p:=⟨w.heap.size + 1 + 1 + 1 + 1,1,none⟩) (show w.heap.size <= w.heap.size + 1 + 1 + 1 + 1 by omega) _ | exact bel_trans hb0 hC2⟩
theorem sps_sphere (s:Nat->Nat->Int) (w:World) {g:Nat} (h:w.heap[g]?=some (.cells #[.int .i64 (s 0 0),.int .i64 (s 0 1),.int .i64 (s 0 2),.int .i64 (s 1 0),.int .i64 (s 1 1),.int .i64 (s 1 2),.int .i64 (s 2 0),.int .i64 (s 2 1),.int .i64 (s 2 2),.int .i64 (s 3 0),.int .i64 (s 3 1),.int .i64 (s 3 2),.int .i64 (s 4 0),.int .i64 (s 4 1),.int .i64 (s 4 2)] 23 (0,0))):Sps w (some ⟨g,0,none⟩) 5 5 s :=
  ⟨by omega,by omega,fun _=>⟨g,0,rfl,(Array.getElem?_eq_some_iff.1 h).1,fun i hi=>by
    match i,hi with
    | 0,_=>exact ⟨blkC h 0 rfl,blkC h 1 rfl,blkC h 2 rfl⟩
    | 1,_=>exact ⟨blkC h 3 rfl,blkC h 4 rfl,blkC h 5 rfl⟩
    | 2,_=>exact ⟨blkC h 6 rfl,blkC h 7 rfl,blkC h 8 rfl⟩
    | 3,_=>exact ⟨blkC h 9 rfl,blkC h 10 rfl,blkC h 11 rfl⟩
    | 4,_=>exact ⟨blkC h 12 rfl,blkC h 13 rfl,blkC h 14 rfl⟩⟩⟩
def st_sphere (s:Nat->Nat->Int):Int:=if allB (stm s) 5=true then (if key (fprod sB (fS (uL s 4))) < rg (fD (uL s 4)) then 1 else 4) else 6
theorem sok_all_sphere {s:Nat->Nat->Int} (h:allB (sok s) 5=true):∀ i,i <= 4->∀ k,k < 3->pok (s i k)=true:=fun i hi k hk=>by
  have:=(of_decide_eq_true h) i (by omega)
  unfold sok at this
  rw [Bool.and_eq_true,Bool.and_eq_true] at this
  match k,hk with
  | 0,_=>exact this.1.1
  | 1,_=>exact this.1.2
  | 2,_=>exact this.2
theorem stm_all_sphere {s:Nat->Nat->Int} (h:allB (stm s) 5=true):∀ i,i <= 4->∀ k,k < 3->tame (s i k)=true:=fun i hi k hk=>by
  have:=(of_decide_eq_true h) i (by omega)
  unfold stm at this
  rw [Bool.and_eq_true,Bool.and_eq_true] at this
  match k,hk with
  | 0,_=>exact this.1.1
  | 1,_=>exact this.1.2
  | 2,_=>exact this.2
theorem vd_ok_sphere (ao:Option Addr) (cap:Nat) (s:Nat->Nat->Int) (w:World) (h:Sps w ao 5 cap s) (hr:∀ i k,rng (s i k)) (hok:allB (sok s) 5=true) (H:Hold4 w) :
    Calls Tryd.prog 15 #[.agg #[.func (.func 30) #[] #[],.float .f64 4386506037058863111,.func (.func 31) #[] #[]],.slice ao 5 cap] w fun e w'=>e=.returned (.tuple #[.agg #[.int .i64 (ord (sX (vL s 4)) 0),.int .i64 (st_sphere s)],.int .i64 0])∧Below w.heap.size w w':=by
  have hz:=sok_all_sphere hok
  unfold st_sphere
  cases ht:allB (stm s) 5
  . rw [if_neg (by decide)]
    exact vd_wild_sphere ao cap s w h hr hok hz ht H
  . rw [if_pos rfl]
    by_cases c:key (fprod sB (fS (uL s 4))) < rg (fD (uL s 4))
    . rw [if_pos c]
      exact vd_yes_sphere ao cap s w h hr hok hz ht (stm_all_sphere ht) c H
    . rw [if_neg c]
      exact vd_no4_sphere ao cap s w h hr hok hz ht (stm_all_sphere ht) (by omega) H
set_option maxRecDepth 100000 in
set_option maxHeartbeats 4000000 in
theorem sSphere_ok (s:Nat->Nat->Int) (w:World) (hr:∀ i k,rng (s i k)) (hok:allB (sok s) 5=true) (H:Hold4 w) :
    Calls Tryd.prog 9 #[.agg #[.int .i64 (s 0 0),.int .i64 (s 0 1),.int .i64 (s 0 2)],.agg #[.int .i64 (s 1 0),.int .i64 (s 1 1),.int .i64 (s 1 2)],.agg #[.int .i64 (s 2 0),.int .i64 (s 2 1),.int .i64 (s 2 2)],.agg #[.int .i64 (s 3 0),.int .i64 (s 3 1),.int .i64 (s 3 2)],.agg #[.int .i64 (s 4 0),.int .i64 (s 4 1),.int .i64 (s 4 2)]] w fun e w'=>e=.returned (.tuple #[.agg #[.int .i64 (ord (sX (vL s 4)) 0),.int .i64 (st_sphere s)],.int .i64 0])∧Below w.heap.size w w':=by
  have CV:Hid (∀ W g,Below w.heap.size w W->W.heap[g]?=some (.cells #[.int .i64 (s 0 0),.int .i64 (s 0 1),.int .i64 (s 0 2),.int .i64 (s 1 0),.int .i64 (s 1 1),.int .i64 (s 1 2),.int .i64 (s 2 0),.int .i64 (s 2 1),.int .i64 (s 2 2),.int .i64 (s 3 0),.int .i64 (s 3 1),.int .i64 (s 3 2),.int .i64 (s 4 0),.int .i64 (s 4 1),.int .i64 (s 4 2)] 23 (0,0))->Calls Tryd.prog 15 #[.agg #[.func (.func 30) #[] #[],.float .f64 4386506037058863111,.func (.func 31) #[] #[]],.slice (some ⟨g,0,none⟩) 5 5] W fun e w'=>e=.returned (.tuple #[.agg #[.int .i64 (ord (sX (vL s 4)) 0),.int .i64 (st_sphere s)],.int .i64 0])∧Below W.heap.size W w'):=fun W g hW hk=>vd_ok_sphere _ 5 s W (sps_sphere s W hk) hr hok (H.keeps hW)
  have CQ:Hid (∀ W,Calls Tryd.prog 17 #[] W fun e w'=>e=.returned (.agg #[.func (.func 30) #[] #[],.float .f64 4386506037058863111,.func (.func 31) #[] #[]])∧Below W.heap.size W w'):=fun W=>q_sphere W
  clear hr hok H
  generalize ord (sX (vL s 4)) 0=sg at *
  generalize st_sphere s=st at *
  have hb0:=h6b w (.cells #[.int .i64 (s 0 0),.int .i64 (s 0 1),.int .i64 (s 0 2)] 23) (.cells #[.int .i64 (s 1 0),.int .i64 (s 1 1),.int .i64 (s 1 2)] 23) (.cells #[.int .i64 (s 2 0),.int .i64 (s 2 1),.int .i64 (s 2 2)] 23) (.cells #[.int .i64 (s 3 0),.int .i64 (s 3 1),.int .i64 (s 3 2)] 23) (.cells #[.int .i64 (s 4 0),.int .i64 (s 4 1),.int .i64 (s 4 2)] 23) (.cells #[.int .i64 0,.int .i64 0] 29)
  have p0_k:=heap_new (w:=w) (k:=w.heap.size) (.cells #[.int .i64 (s 0 0),.int .i64 (s 0 1),.int .i64 (s 0 2)] 23) (by simp only [size_alloc])
  replace p0_k:=heap_past (.cells #[.int .i64 (s 1 0),.int .i64 (s 1 1),.int .i64 (s 1 2)] 23) p0_k
  replace p0_k:=heap_past (.cells #[.int .i64 (s 2 0),.int .i64 (s 2 1),.int .i64 (s 2 2)] 23) p0_k
  replace p0_k:=heap_past (.cells #[.int .i64 (s 3 0),.int .i64 (s 3 1),.int .i64 (s 3 2)] 23) p0_k
  replace p0_k:=heap_past (.cells #[.int .i64 (s 4 0),.int .i64 (s 4 1),.int .i64 (s 4 2)] 23) p0_k
  replace p0_k:=heap_past (.cells #[.int .i64 0,.int .i64 0] 29) p0_k
  have p1_k:=heap_new (w:=(w.alloc (.cells #[.int .i64 (s 0 0),.int .i64 (s 0 1),.int .i64 (s 0 2)] 23))) (k:=w.heap.size + 1) (.cells #[.int .i64 (s 1 0),.int .i64 (s 1 1),.int .i64 (s 1 2)] 23) (by simp only [size_alloc])
  replace p1_k:=heap_past (.cells #[.int .i64 (s 2 0),.int .i64 (s 2 1),.int .i64 (s 2 2)] 23) p1_k
  replace p1_k:=heap_past (.cells #[.int .i64 (s 3 0),.int .i64 (s 3 1),.int .i64 (s 3 2)] 23) p1_k
  replace p1_k:=heap_past (.cells #[.int .i64 (s 4 0),.int .i64 (s 4 1),.int .i64 (s 4 2)] 23) p1_k
  replace p1_k:=heap_past (.cells #[.int .i64 0,.int .i64 0] 29) p1_k
  have p2_k:=heap_new (w:=((w.alloc (.cells #[.int .i64 (s 0 0),.int .i64 (s 0 1),.int .i64 (s 0 2)] 23)).alloc (.cells #[.int .i64 (s 1 0),.int .i64 (s 1 1),.int .i64 (s 1 2)] 23))) (k:=w.heap.size + 1 + 1) (.cells #[.int .i64 (s 2 0),.int .i64 (s 2 1),.int .i64 (s 2 2)] 23) (by simp only [size_alloc])
  replace p2_k:=heap_past (.cells #[.int .i64 (s 3 0),.int .i64 (s 3 1),.int .i64 (s 3 2)] 23) p2_k
  replace p2_k:=heap_past (.cells #[.int .i64 (s 4 0),.int .i64 (s 4 1),.int .i64 (s 4 2)] 23) p2_k
  replace p2_k:=heap_past (.cells #[.int .i64 0,.int .i64 0] 29) p2_k
  have p3_k:=heap_new (w:=(((w.alloc (.cells #[.int .i64 (s 0 0),.int .i64 (s 0 1),.int .i64 (s 0 2)] 23)).alloc (.cells #[.int .i64 (s 1 0),.int .i64 (s 1 1),.int .i64 (s 1 2)] 23)).alloc (.cells #[.int .i64 (s 2 0),.int .i64 (s 2 1),.int .i64 (s 2 2)] 23))) (k:=w.heap.size + 1 + 1 + 1) (.cells #[.int .i64 (s 3 0),.int .i64 (s 3 1),.int .i64 (s 3 2)] 23) (by simp only [size_alloc])
  replace p3_k:=heap_past (.cells #[.int .i64 (s 4 0),.int .i64 (s 4 1),.int .i64 (s 4 2)] 23) p3_k
  replace p3_k:=heap_past (.cells #[.int .i64 0,.int .i64 0] 29) p3_k
  have p4_k:=heap_new (w:=((((w.alloc (.cells #[.int .i64 (s 0 0),.int .i64 (s 0 1),.int .i64 (s 0 2)] 23)).alloc (.cells #[.int .i64 (s 1 0),.int .i64 (s 1 1),.int .i64 (s 1 2)] 23)).alloc (.cells #[.int .i64 (s 2 0),.int .i64 (s 2 1),.int .i64 (s 2 2)] 23)).alloc (.cells #[.int .i64 (s 3 0),.int .i64 (s 3 1),.int .i64 (s 3 2)] 23))) (k:=w.heap.size + 1 + 1 + 1 + 1) (.cells #[.int .i64 (s 4 0),.int .i64 (s 4 1),.int .i64 (s 4 2)] 23) (by simp only [size_alloc])
  replace p4_k:=heap_past (.cells #[.int .i64 0,.int .i64 0] 29) p4_k
  have r_k:=heap_new (w:=(((((w.alloc (.cells #[.int .i64 (s 0 0),.int .i64 (s 0 1),.int .i64 (s 0 2)] 23)).alloc (.cells #[.int .i64 (s 1 0),.int .i64 (s 1 1),.int .i64 (s 1 2)] 23)).alloc (.cells #[.int .i64 (s 2 0),.int .i64 (s 2 1),.int .i64 (s 2 2)] 23)).alloc (.cells #[.int .i64 (s 3 0),.int .i64 (s 3 1),.int .i64 (s 3 2)] 23)).alloc (.cells #[.int .i64 (s 4 0),.int .i64 (s 4 1),.int .i64 (s 4 2)] 23))) (k:=w.heap.size + 1 + 1 + 1 + 1 + 1) (.cells #[.int .i64 0,.int .i64 0] 29) (by simp only [size_alloc])
  go_enter Tryd.func9,Tryd.ntmps9
  go_wp2_with fail
  generalize ((((((w.alloc (.cells #[.int .i64 (s 0 0),.int .i64 (s 0 1),.int .i64 (s 0 2)] 23)).alloc (.cells #[.int .i64 (s 1 0),.int .i64 (s 1 1),.int .i64 (s 1 2)] 23)).alloc (.cells #[.int .i64 (s 2 0),.int .i64 (s 2 1),.int .i64 (s 2 2)] 23)).alloc (.cells #[.int .i64 (s 3 0),.int .i64 (s 3 1),.int .i64 (s 3 2)] 23)).alloc (.cells #[.int .i64 (s 4 0),.int .i64 (s 4 1),.int .i64 (s 4 2)] 23)).alloc (.cells #[.int .i64 0,.int .i64 0] 29))=x0 at hb0 p0_k p1_k p2_k p3_k p4_k r_k ⊢
  have hs0:=(Array.getElem?_eq_some_iff.1 r_k).1
  have KK:∀ W,Below x0.heap.size x0 W->W.cell? ⟨w.heap.size,0,none⟩=some (.int .i64 (s 0 0))∧W.cell? ⟨w.heap.size,1,none⟩=some (.int .i64 (s 0 1))∧W.cell? ⟨w.heap.size,2,none⟩=some (.int .i64 (s 0 2))∧W.cell? ⟨w.heap.size + 1,0,none⟩=some (.int .i64 (s 1 0))∧W.cell? ⟨w.heap.size + 1,1,none⟩=some (.int .i64 (s 1 1))∧W.cell? ⟨w.heap.size + 1,2,none⟩=some (.int .i64 (s 1 2))∧W.cell? ⟨w.heap.size + 1 + 1,0,none⟩=some (.int .i64 (s 2 0))∧W.cell? ⟨w.heap.size + 1 + 1,1,none⟩=some (.int .i64 (s 2 1))∧W.cell? ⟨w.heap.size + 1 + 1,2,none⟩=some (.int .i64 (s 2 2))∧W.cell? ⟨w.heap.size + 1 + 1 + 1,0,none⟩=some (.int .i64 (s 3 0))∧W.cell? ⟨w.heap.size + 1 + 1 + 1,1,none⟩=some (.int .i64 (s 3 1))∧W.cell? ⟨w.heap.size + 1 + 1 + 1,2,none⟩=some (.int .i64 (s 3 2))∧W.cell? ⟨w.heap.size + 1 + 1 + 1 + 1,0,none⟩=some (.int .i64 (s 4 0))∧W.cell? ⟨w.heap.size + 1 + 1 + 1 + 1,1,none⟩=some (.int .i64 (s 4 1))∧W.cell? ⟨w.heap.size + 1 + 1 + 1 + 1,2,none⟩=some (.int .i64 (s 4 2)):=fun W hb=>⟨q_cell (blkC p0_k 0 rfl) hb,q_cell (blkC p0_k 1 rfl) hb,q_cell (blkC p0_k 2 rfl) hb,q_cell (blkC p1_k 0 rfl) hb,q_cell (blkC p1_k 1 rfl) hb,q_cell (blkC p1_k 2 rfl) hb,q_cell (blkC p2_k 0 rfl) hb,q_cell (blkC p2_k 1 rfl) hb,q_cell (blkC p2_k 2 rfl) hb,q_cell (blkC p3_k 0 rfl) hb,q_cell (blkC p3_k 1 rfl) hb,q_cell (blkC p3_k 2 rfl) hb,q_cell (blkC p4_k 0 rfl) hb,q_cell (blkC p4_k 1 rfl) hb,q_cell (blkC p4_k 2 rfl) hb⟩
  have KN:∀ W a b,Below x0.heap.size x0 W->((W.setCell ⟨w.heap.size + 1 + 1 + 1 + 1 + 1,0,none⟩ a).setCell ⟨w.heap.size + 1 + 1 + 1 + 1 + 1,1,none⟩ b).cell? ⟨w.heap.size,0,none⟩=some (.int .i64 (s 0 0))∧((W.setCell ⟨w.heap.size + 1 + 1 + 1 + 1 + 1,0,none⟩ a).setCell ⟨w.heap.size + 1 + 1 + 1 + 1 + 1,1,none⟩ b).cell? ⟨w.heap.size,1,none⟩=some (.int .i64 (s 0 1))∧((W.setCell ⟨w.heap.size + 1 + 1 + 1 + 1 + 1,0,none⟩ a).setCell ⟨w.heap.size + 1 + 1 + 1 + 1 + 1,1,none⟩ b).cell? ⟨w.heap.size,2,none⟩=some (.int .i64 (s 0 2))∧((W.setCell ⟨w.heap.size + 1 + 1 + 1 + 1 + 1,0,none⟩ a).setCell ⟨w.heap.size + 1 + 1 + 1 + 1 + 1,1,none⟩ b).cell? ⟨w.heap.size + 1,0,none⟩=some (.int .i64 (s 1 0))∧((W.setCell ⟨w.heap.size + 1 + 1 + 1 + 1 + 1,0,none⟩ a).setCell ⟨w.heap.size + 1 + 1 + 1 + 1 + 1,1,none⟩ b).cell? ⟨w.heap.size + 1,1,none⟩=some (.int .i64 (s 1 1))∧((W.setCell ⟨w.heap.size + 1 + 1 + 1 + 1 + 1,0,none⟩ a).setCell ⟨w.heap.size + 1 + 1 + 1 + 1 + 1,1,none⟩ b).cell? ⟨w.heap.size + 1,2,none⟩=some (.int .i64 (s 1 2))∧((W.setCell ⟨w.heap.size + 1 + 1 + 1 + 1 + 1,0,none⟩ a).setCell ⟨w.heap.size + 1 + 1 + 1 + 1 + 1,1,none⟩ b).cell? ⟨w.heap.size + 1 + 1,0,none⟩=some (.int .i64 (s 2 0))∧((W.setCell ⟨w.heap.size + 1 + 1 + 1 + 1 + 1,0,none⟩ a).setCell ⟨w.heap.size + 1 + 1 + 1 + 1 + 1,1,none⟩ b).cell? ⟨w.heap.size + 1 + 1,1,none⟩=some (.int .i64 (s 2 1))∧((W.setCell ⟨w.heap.size + 1 + 1 + 1 + 1 + 1,0,none⟩ a).setCell ⟨w.heap.size + 1 + 1 + 1 + 1 + 1,1,none⟩ b).cell? ⟨w.heap.size + 1 + 1,2,none⟩=some (.int .i64 (s 2 2))∧((W.setCell ⟨w.heap.size + 1 + 1 + 1 + 1 + 1,0,none⟩ a).setCell ⟨w.heap.size + 1 + 1 + 1 + 1 + 1,1,none⟩ b).cell? ⟨w.heap.size + 1 + 1 + 1,0,none⟩=some (.int .i64 (s 3 0))∧((W.setCell ⟨w.heap.size + 1 + 1 + 1 + 1 + 1,0,none⟩ a).setCell ⟨w.heap.size + 1 + 1 + 1 + 1 + 1,1,none⟩ b).cell? ⟨w.heap.size + 1 + 1 + 1,1,none⟩=some (.int .i64 (s 3 1))∧((W.setCell ⟨w.heap.size + 1 + 1 + 1 + 1 + 1,0,none⟩ a).setCell ⟨w.heap.size + 1 + 1 + 1 + 1 + 1,1,none⟩ b).cell? ⟨w.heap.size + 1 + 1 + 1,2,none⟩=some (.int .i64 (s 3 2))∧((W.setCell ⟨w.heap.size + 1 + 1 + 1 + 1 + 1,0,none⟩ a).setCell ⟨w.heap.size + 1 + 1 + 1 + 1 + 1,1,none⟩ b).cell? ⟨w.heap.size + 1 + 1 + 1 + 1,0,none⟩=some (.int .i64 (s 4 0))∧((W.setCell ⟨w.heap.size + 1 + 1 + 1 + 1 + 1,0,none⟩ a).setCell ⟨w.heap.size + 1 + 1 + 1 + 1 + 1,1,none⟩ b).cell? ⟨w.heap.size + 1 + 1 + 1 + 1,1,none⟩=some (.int .i64 (s 4 1))∧((W.setCell ⟨w.heap.size + 1 + 1 + 1 + 1 + 1,0,none⟩ a).setCell ⟨w.heap.size + 1 + 1 + 1 + 1 + 1,1,none⟩ b).cell? ⟨w.heap.size + 1 + 1 + 1 + 1,2,none⟩=some (.int .i64 (s 4 2)):=fun W a b hb=>⟨cell_g2 (KK W hb).1 0 1 a b (show w.heap.size ≠ w.heap.size + 1 + 1 + 1 + 1 + 1 by omega),cell_g2 (KK W hb).2.1 0 1 a b (show w.heap.size ≠ w.heap.size + 1 + 1 + 1 + 1 + 1 by omega),cell_g2 (KK W hb).2.2.1 0 1 a b (show w.heap.size ≠ w.heap.size + 1 + 1 + 1 + 1 + 1 by omega),cell_g2 (KK W hb).2.2.2.1 0 1 a b (show w.heap.size + 1 ≠ w.heap.size + 1 + 1 + 1 + 1 + 1 by omega),cell_g2 (KK W hb).2.2.2.2.1 0 1 a b (show w.heap.size + 1 ≠ w.heap.size + 1 + 1 + 1 + 1 + 1 by omega),cell_g2 (KK W hb).2.2.2.2.2.1 0 1 a b (show w.heap.size + 1 ≠ w.heap.size + 1 + 1 + 1 + 1 + 1 by omega),cell_g2 (KK W hb).2.2.2.2.2.2.1 0 1 a b (show w.heap.size + 1 + 1 ≠ w.heap.size + 1 + 1 + 1 + 1 + 1 by omega),cell_g2 (KK W hb).2.2.2.2.2.2.2.1 0 1 a b (show w.heap.size + 1 + 1 ≠ w.heap.size + 1 + 1 + 1 + 1 + 1 by omega),cell_g2 (KK W hb).2.2.2.2.2.2.2.2.1 0 1 a b (show w.heap.size + 1 + 1 ≠ w.heap.size + 1 + 1 + 1 + 1 + 1 by omega),cell_g2 (KK W hb).2.2.2.2.2.2.2.2.2.1 0 1 a b (show w.heap.size + 1 + 1 + 1 ≠ w.heap.size + 1 + 1 + 1 + 1 + 1 by omega),cell_g2 (KK W hb).2.2.2.2.2.2.2.2.2.2.1 0 1 a b (show w.heap.size + 1 + 1 + 1 ≠ w.heap.size + 1 + 1 + 1 + 1 + 1 by omega),cell_g2 (KK W hb).2.2.2.2.2.2.2.2.2.2.2.1 0 1 a b (show w.heap.size + 1 + 1 + 1 ≠ w.heap.size + 1 + 1 + 1 + 1 + 1 by omega),cell_g2 (KK W hb).2.2.2.2.2.2.2.2.2.2.2.2.1 0 1 a b (show w.heap.size + 1 + 1 + 1 + 1 ≠ w.heap.size + 1 + 1 + 1 + 1 + 1 by omega),cell_g2 (KK W hb).2.2.2.2.2.2.2.2.2.2.2.2.2.1 0 1 a b (show w.heap.size + 1 + 1 + 1 + 1 ≠ w.heap.size + 1 + 1 + 1 + 1 + 1 by omega),cell_g2 (KK W hb).2.2.2.2.2.2.2.2.2.2.2.2.2.2 0 1 a b (show w.heap.size + 1 + 1 + 1 + 1 ≠ w.heap.size + 1 + 1 + 1 + 1 + 1 by omega)⟩
  have hR0:=bel_refl x0
  have hC0:=(bel_refl x0).drew
  go_region_held3 (fun W=>W.cell? ⟨w.heap.size,0,none⟩=some (.int .i64 (s 0 0))∧W.cell? ⟨w.heap.size,1,none⟩=some (.int .i64 (s 0 1))∧W.cell? ⟨w.heap.size,2,none⟩=some (.int .i64 (s 0 2))∧W.cell? ⟨w.heap.size + 1,0,none⟩=some (.int .i64 (s 1 0))∧W.cell? ⟨w.heap.size + 1,1,none⟩=some (.int .i64 (s 1 1))∧W.cell? ⟨w.heap.size + 1,2,none⟩=some (.int .i64 (s 1 2))∧W.cell? ⟨w.heap.size + 1 + 1,0,none⟩=some (.int .i64 (s 2 0))∧W.cell? ⟨w.heap.size + 1 + 1,1,none⟩=some (.int .i64 (s 2 1))∧W.cell? ⟨w.heap.size + 1 + 1,2,none⟩=some (.int .i64 (s 2 2))∧W.cell? ⟨w.heap.size + 1 + 1 + 1,0,none⟩=some (.int .i64 (s 3 0))∧W.cell? ⟨w.heap.size + 1 + 1 + 1,1,none⟩=some (.int .i64 (s 3 1))∧W.cell? ⟨w.heap.size + 1 + 1 + 1,2,none⟩=some (.int .i64 (s 3 2))∧W.cell? ⟨w.heap.size + 1 + 1 + 1 + 1,0,none⟩=some (.int .i64 (s 4 0))∧W.cell? ⟨w.heap.size + 1 + 1 + 1 + 1,1,none⟩=some (.int .i64 (s 4 1))∧W.cell? ⟨w.heap.size + 1 + 1 + 1 + 1,2,none⟩=some (.int .i64 (s 4 2)))
    (with_reducible first | assumption | exact KK _ hC0 | exact KK _ (alD hR0 _) | exact KK _ (alS hC0 _) | exact KK _ hC1 | exact KK _ (alS hC1 _) | exact KK _ hC2 | exact KN _ _ _ hC2 | fail)
    (first | (go_at_call 15; refine (CV.out _ _ (bel_trans hb0 (by with_reducible first | exact hC1 | exact alS hC1 _)) (by with_reducible first | exact heap_a1 _ _ | exact blk_us hq (heap_ad _ _))).mono ?_; rintro _ y2 ⟨rfl,hw2⟩; have hC2:=bel_trans (by with_reducible first | exact hC1 | exact alS hC1 _) hw2; have r2:=blk_us hC2 r_k; have e0:=blkC r2 0 rfl; have z0:=blkF r2 0; have e1:=blkC r2 1 rfl; have z1:=blkF r2 1) | (go_at_call 17; refine (CQ.out _).mono ?_; rintro _ y1 ⟨rfl,hq⟩; have hC1:=bel_trans (by with_reducible first | exact hC0 | exact alD hR0 _) hq))
  all_goals
    go_wp2
    exact bodyPost_ret (v:=.tuple #[.agg #[.int .i64 sg,.int .i64 st],.int .i64 0]) (by simp [results,Tryd.results9,go_sem,e0,e1]) rfl ⟨rfl,by first | exact ((bel_trans hb0 hC2).setCell (p:=⟨w.heap.size + 1 + 1 + 1 + 1 + 1,0,none⟩) (show w.heap.size <= w.heap.size + 1 + 1 + 1 + 1 + 1 by omega) _).setCell (p:=⟨w.heap.size + 1 + 1 + 1 + 1 + 1,1,none⟩) (show w.heap.size <= w.heap.size + 1 + 1 + 1 + 1 + 1 by omega) _ | exact bel_trans hb0 hC2⟩
theorem wd_eq1 {a b:Int} (ha:rng a) (hb:rng b) (h:wd a=wd b):a=b:=by
  unfold wd at h
  unfold rng at ha hb
  omega
theorem fsum_ev {a b:Nat} {p q r:Int} (hx:Fx a b p) (hy:Fx a b q) (hb:b + 1 <= 2097) (rr:rng r) (h:Ieee.double.add (wd p) (wd q)=some (wd r)):fsum p q=r:=by
  obtain ⟨s,-⟩:=hx.sum hy hb
  rcases add_FW (FW.pat (q_fin hx.p) hx.r) (FW.pat (q_fin hy.p) hy.r) with ⟨z,e1,e2⟩ | ⟨e1,_⟩
  . rw [h] at e1
    cases e1
    obtain ⟨_,e3,_⟩:=e2.of (q_fin s.p)
    exact (wd_eq1 rr s.r e3).symm
  . rw [h] at e1
    cases e1
theorem fprod_ev {p q r:Int} (rp:rng p) (pp:pok p=true) (rq:rng q) (pq:pok q=true) (rr:rng r) (h:Ieee.double.mul (wd p) (wd q)=some (wd r)):fprod p q=r:=by
  have c:=cls_prod pp rp pq rq
  rcases mul_FW (FW.pat (q_fin pp) rp) (FW.pat (q_fin pq) rq) with ⟨z,e1,e2⟩ | ⟨e1,_⟩
  . rw [h] at e1
    cases e1
    obtain ⟨_,e3,_⟩:=e2.of c
    exact (wd_eq1 rr (fprod_rng rp rq) e3).symm
  . rw [h] at e1
    cases e1
def one1:Int:=4607182418800017408
theorem rng_one:rng one1:=by unfold rng one1; omega
theorem rng_nil:rng 0:=by unfold rng; omega
theorem fx_one:Fx 872 1226 one1:=(tame_Mz rng_one (by decide)).fx.up (by decide)
theorem fx_nil:Fx 872 1226 0:=fx_zero
theorem s10:fsum one1 (neg 0)=one1:=fsum_ev fx_one fx_nil.neg.1 (by decide) rng_one (by decide +kernel)
theorem s00:fsum 0 (neg 0)=0:=fsum_ev fx_nil fx_nil.neg.1 (by decide) rng_nil (by decide +kernel)
theorem t10:fsum one1 0=one1:=fsum_ev fx_one fx_nil (by decide) rng_one (by decide +kernel)
theorem t01:fsum 0 one1=one1:=fsum_ev fx_nil fx_one (by decide) rng_one (by decide +kernel)
theorem t00:fsum 0 0=0:=fsum_ev fx_nil fx_nil (by decide) rng_nil (by decide +kernel)
theorem p11:fprod one1 one1=one1:=fprod_ev rng_one (by decide) rng_one (by decide) rng_one (by decide +kernel)
theorem p10:fprod one1 0=0:=fprod_ev rng_one (by decide) rng_nil (by decide) rng_nil (by decide +kernel)
theorem p01:fprod 0 one1=0:=fprod_ev rng_nil (by decide) rng_one (by decide) rng_nil (by decide +kernel)
theorem p00:fprod 0 0=0:=fprod_ev rng_nil (by decide) rng_nil (by decide) rng_nil (by decide +kernel)
theorem pA1:fprod sA one1=sA:=fprod_ev rng_sA (by decide) rng_one (by decide) rng_sA (by decide +kernel)
theorem r_one:rg one1=one1:=by decide
theorem r_nil:rg 0=0:=by decide
set_option maxRecDepth 100000 in
theorem lnum12 (e:Int) (W:World):Calls Tryd.prog 12 #[.int .i64 e] W fun r w'=>r=.returned (.int .i64 e)∧w'=W:=by
  go_enter Tryd.func12,Tryd.ntmps12
  go_wp2
  go_ret
  exact ⟨rfl,rfl⟩
def sal (p k:Nat):Int:=if p=k then one1 else 0
theorem rng_sal (p k:Nat):rng (sal p k):=by unfold sal; split; exact rng_one; exact rng_nil
theorem u_sal (p k:Nat) (hp:p < 3) (hk:k < 3):uL sal 3 p k=if p=k then one1 else 0:=by
  unfold uL sal
  rw [if_pos hp,if_neg (show ¬ (3=k) by omega)]
  by_cases e:p=k
  . rw [if_pos e,s10]
  . rw [if_neg e,s00]
theorem m_sal (p q:Nat) (hp:p < 3) (hq:q < 3):pL (uL sal 3) p q=if p=0∧q=1 then one1 else 0:=by
  unfold pL
  rw [u_sal p 0 hp (by decide),u_sal q 1 hq (by decide)]
  by_cases a:p=0 <;> by_cases b:q=1
  . rw [if_pos a,if_pos b,if_pos ⟨a,b⟩,p11]
  . rw [if_pos a,if_neg b,if_neg (fun c=>b c.2),p10]
  . rw [if_neg a,if_pos b,if_neg (fun c=>a c.1),p01]
  . rw [if_neg a,if_neg b,if_neg (fun c=>a c.1),p00]
theorem d_sal:dt (uL sal 3) 0 1 2=one1:=by
  unfold dt mn
  rw [m_sal 1 2 (by decide) (by decide),m_sal 2 1 (by decide) (by decide),m_sal 0 2 (by decide) (by decide),m_sal 2 0 (by decide) (by decide),m_sal 0 1 (by decide) (by decide),m_sal 1 0 (by decide) (by decide),u_sal 0 2 (by decide) (by decide),u_sal 1 2 (by decide) (by decide),u_sal 2 2 (by decide) (by decide)]
  simp only [reduceIte,Nat.reduceEqDiff,and_true,and_false,false_and,true_and]
  rw [s00,p00,s00,s10,p11,t01]
theorem x_sal:sxz (uL sal 3) 0 1 2=one1:=by
  unfold sxz sz
  rw [m_sal 1 2 (by decide) (by decide),m_sal 2 1 (by decide) (by decide),m_sal 0 2 (by decide) (by decide),m_sal 2 0 (by decide) (by decide),m_sal 0 1 (by decide) (by decide),m_sal 1 0 (by decide) (by decide),u_sal 0 2 (by decide) (by decide),u_sal 1 2 (by decide) (by decide),u_sal 2 2 (by decide) (by decide)]
  simp only [reduceIte,Nat.reduceEqDiff,and_true,and_false,false_and,true_and,r_one,r_nil]
  rw [t00,p00,t00,t10,p11,t01]
theorem z_sal (i k:Nat):Mz (sal i k):=tame_Mz (rng_sal i k) (by unfold sal; split <;> decide)
theorem st_sal:st_side sal=1:=by
  unfold st_side
  rw [if_pos (by decide),d_sal,x_sal,pA1,if_pos (by decide)]
theorem ord_sal:ord (dX (vL sal 3) 0 1 2) 0=1:=by
  rw [<- sgn_side rng_sal (fun i _ k _=>z_sal i k) (by rw [d_sal,x_sal,pA1]; decide),d_sal]
  decide
set_option maxRecDepth 100000 in
set_option maxHeartbeats 1000000 in
theorem alive12 (w:World) (H:Hold4 w):Calls Tryd.prog 5 #[] w fun e w'=>e=.returned (.bool true)∧Below w.heap.size w w':=by
  have CS:Hid (∀ W,Hold4 W->Calls Tryd.prog 7 #[.agg #[.int .i64 4607182418800017408,.int .i64 0,.int .i64 0],.agg #[.int .i64 0,.int .i64 4607182418800017408,.int .i64 0],.agg #[.int .i64 0,.int .i64 0,.int .i64 4607182418800017408],.agg #[.int .i64 0,.int .i64 0,.int .i64 0]] W fun e w'=>e=.returned (.tuple #[.agg #[.int .i64 1,.int .i64 1],.int .i64 0])∧Below W.heap.size W w'):=fun W hW=>by
    have:=sSide_ok sal W rng_sal (by decide) hW
    rw [ord_sal,st_sal] at this
    exact this
  have CN:Hid (∀ W,Calls Tryd.prog 12 #[.int .i64 0] W fun r w'=>r=.returned (.int .i64 0)∧w'=W):=fun W=>lnum12 _ W
  go_enter Tryd.func5,Tryd.ntmps5
  go_wp2_with fail
  refine (CS.out _ H).mono ?_
  rintro _ y1 ⟨rfl,hw⟩
  have v_k:=heap_a1 y1 (.cells #[.int .i64 1,.int .i64 1] 29)
  have k0:=blkC v_k 0 rfl
  have k1:=blkC v_k 1 rfl
  go_wp2_with (first | (go_at_call 12; refine (CN.out _).mono ?_; rintro _ _ ⟨rfl,rfl⟩))
  go_ret
  exact ⟨rfl,bel_trans hw (bel_alloc _ _)⟩
end Go.Proofs.YtdcppnnodgnojaaDoor
namespace Go.Proofs.YtdcppnnodgnojaaDoor
open Go Go.ChangeShapes Go.WideShapes Go.ChangeAt Go.RowKit Go.Proofs.YtdcppnnodgnojaaDoor.M
theorem q_cells5:Tryd.prog.cellsOf 24=15:=by kernel_rfl
theorem q_cellsSpace:Tryd.prog.cellsOf 23=3:=by kernel_rfl
theorem q_cellsInt3:Tryd.prog.cellsOf 3=1:=by kernel_rfl
set_option maxRecDepth 100000 in
theorem space_cells {H:Type} {enc:TypeId × Value->H} {W:World} {n:Nat} {cs:List Value} {x:DataW H × List MemPlace}
    (h:DataW.trod enc Tryd.prog W 0 (fun _=>true) true n 23 cs=some x) :
    ∃ a b c:Int,cs=[.int .i64 a,.int .i64 b,.int .i64 c]∧rng a∧rng b∧rng c:=by
  obtain ⟨xs,m,_,rfl,hl,hlen,hf⟩:=DataW.trod_struct Tryd.underlying23 h
  rw [q_cellsSpace] at hl
  match cs,hl with
  | [v0,v1,v2],_=>
    match xs,hlen with
    | [y0,y1,y2],_=>
      have f0:DataW.trod enc Tryd.prog W 0 (fun _=>true) true m 3 (([v0,v1,v2].drop 0).take (Tryd.prog.cellsOf 3))=some y0:=hf 0 _ rfl
      have f1:DataW.trod enc Tryd.prog W 0 (fun _=>true) true m 3 (([v0,v1,v2].drop 1).take (Tryd.prog.cellsOf 3))=some y1:=hf 1 _ rfl
      have f2:DataW.trod enc Tryd.prog W 0 (fun _=>true) true m 3 (([v0,v1,v2].drop 2).take (Tryd.prog.cellsOf 3))=some y2:=hf 2 _ rfl
      rw [q_cellsInt3] at f0 f1 f2
      simp only [List.drop_zero,List.drop_succ_cons,List.take_succ_cons,List.take_zero] at f0 f1 f2
      obtain ⟨k0,e0,_,w0⟩:=DataW.trod_int Tryd.underlying3 f0
      obtain ⟨k1,e1,_,w1⟩:=DataW.trod_int Tryd.underlying3 f1
      obtain ⟨k2,e2,_,w2⟩:=DataW.trod_int Tryd.underlying3 f2
      simp at e0 e1 e2
      subst e0 e1 e2
      exact ⟨k0,k1,k2,rfl,rng_of w0,rng_of w1,rng_of w2⟩
theorem chop3 (cs:List Value) (k:Nat):cs.drop k=(cs.drop k).take 3 ++ cs.drop (k + 3):=by
  rw [<- List.drop_drop]
  exact (List.take_append_drop 3 _).symm
def five (s:Nat->Nat->Int):Array Value:=#[.int .i64 (s 0 0),.int .i64 (s 0 1),.int .i64 (s 0 2),.int .i64 (s 1 0),.int .i64 (s 1 1),.int .i64 (s 1 2),.int .i64 (s 2 0),.int .i64 (s 2 1),.int .i64 (s 2 2),.int .i64 (s 3 0),.int .i64 (s 3 1),.int .i64 (s 3 2),.int .i64 (s 4 0),.int .i64 (s 4 1),.int .i64 (s 4 2)]
theorem rng_l3 {a b c:Int} (h:rng a∧rng b∧rng c) (k:Nat):rng (l3 a b c k):=by
  unfold l3
  split
  . exact h.1
  . split
    . exact h.2.1
    . exact h.2.2
set_option maxRecDepth 100000 in
theorem okWide_array5 {W:World} {base:Nat} {v:Value} (hv:Value.okWide Tryd.prog W .any base 24 v):∃ cs,v=.agg cs∧cs.size=15:=by
  unfold Value.okWide at hv
  rw [Tryd.underlying24] at hv
  dsimp only at hv
  obtain ⟨cs,h1,h2,_⟩:=hv
  exact ⟨cs,h1,by rw [h2]; exact q_cells5⟩
set_option maxRecDepth 100000 in
theorem spaces5_of {H:Type} {enc:TypeId × Value->H} {W:World} {base:Nat} {v:Value} {d:DataW H} {p:List MemPlace} (hv:Value.okWide Tryd.prog W .any base 24 v)
    (h:DataW.Trod enc Tryd.prog W 0 (fun _=>true) true 24 v d p):∃ s:Nat->Nat->Int,v=.agg (five s)∧∀ i k,rng (s i k):=by
  obtain ⟨cs,rfl,hc⟩:=okWide_array5 hv
  obtain ⟨fuel,hf⟩:=h
  obtain ⟨xs,m,_,_,hl,hx,hf⟩:=DataW.trod_array Tryd.underlying24 hf
  rw [q_cells5] at hl
  change cs.toList.length=15 at hl
  rw [q_cellsSpace] at hf
  have K:∀ i,i < 5->∃ a b c:Int,(cs.toList.drop (i * 3)).take 3=[.int .i64 a,.int .i64 b,.int .i64 c]∧rng a∧rng b∧rng c:=fun i hi=>
    space_cells ((hf i hi).trans (List.getElem?_eq_getElem (by omega)))
  obtain ⟨a0,b0,c0,e0,r0⟩:=K 0 (by decide)
  obtain ⟨a1,b1,c1,e1,r1⟩:=K 1 (by decide)
  obtain ⟨a2,b2,c2,e2,r2⟩:=K 2 (by decide)
  obtain ⟨a3,b3,c3,e3,r3⟩:=K 3 (by decide)
  obtain ⟨a4,b4,c4,e4,r4⟩:=K 4 (by decide)
  have hE:cs.toList.drop 15=[]:=List.drop_eq_nil_of_le (by omega)
  have hT:cs.toList=[.int .i64 a0,.int .i64 b0,.int .i64 c0,.int .i64 a1,.int .i64 b1,.int .i64 c1,.int .i64 a2,.int .i64 b2,.int .i64 c2,.int .i64 a3,.int .i64 b3,.int .i64 c3,.int .i64 a4,.int .i64 b4,.int .i64 c4]:=by
    have h0:=chop3 cs.toList 0
    have h1:=chop3 cs.toList 3
    have h2:=chop3 cs.toList 6
    have h3:=chop3 cs.toList 9
    have h4:=chop3 cs.toList 12
    simp only [Nat.reduceMul,Nat.reduceAdd] at h0 h1 h2 h3 h4 e0 e1 e2 e3 e4
    rw [hE,e4] at h4
    rw [h4,e3] at h3
    rw [h3,e2] at h2
    rw [h2,e1] at h1
    rw [h1,e0,List.drop_zero] at h0
    exact h0
  refine ⟨fun i=>if i=0 then l3 a0 b0 c0 else if i=1 then l3 a1 b1 c1 else if i=2 then l3 a2 b2 c2 else if i=3 then l3 a3 b3 c3 else l3 a4 b4 c4,?_,fun i k=>?_⟩
  . congr 1
    exact Array.toList_inj.1 hT
  . dsimp only
    split
    . exact rng_l3 r0 k
    . split
      . exact rng_l3 r1 k
      . split
        . exact rng_l3 r2 k
        . split
          . exact rng_l3 r3 k
          . exact rng_l3 r4 k
def flt (s:Nat->Nat->Int) (z:Int) (n p k:Nat):Int:=if k=2∧p < n then z else s p k
theorem rng_flt {s:Nat->Nat->Int} {z:Int} (hr:∀ i k,rng (s i k)) (hz:rng z) (n i k:Nat):rng (flt s z n i k):=by
  unfold flt
  split
  . exact hz
  . exact hr i k
theorem vL_flt (s:Nat->Nat->Int) (z:Int) (m p:Nat) (hm:m < 5):vL (flt s z 5) m p 2=0:=by
  unfold vL flt
  split
  . rw [if_pos ⟨rfl,by omega⟩,if_pos ⟨rfl,hm⟩]; omega
  . rfl
theorem dX_flat {X:Nat->Nat->Int} (h:∀ p,X p 2=0) (p q r:Nat):dX X p q r=0:=by
  unfold dX
  rw [h p,h q,h r,Int.zero_mul,Int.zero_mul,Int.zero_mul]; rfl
theorem sX_flat {X:Nat->Nat->Int} (h:∀ p,X p 2=0):sX X=0:=by
  unfold sX
  rw [dX_flat h,dX_flat h,dX_flat h,dX_flat h,Int.mul_zero,Int.mul_zero,Int.mul_zero,Int.mul_zero]; rfl
theorem ord_flat_side (s:Nat->Nat->Int) (z:Int):ord (dX (vL (flt s z 5) 3) 0 1 2) 0=0:=by
  rw [dX_flat fun p=>vL_flt s z 3 p (by decide)]; decide
theorem ord_flat_sphere (s:Nat->Nat->Int) (z:Int):ord (sX (vL (flt s z 5) 4)) 0=0:=by
  rw [sX_flat fun p=>vL_flt s z 4 p (by decide)]; decide
theorem sps5 (s:Nat->Nat->Int) (w:World) {g:Nat} {t:TypeId} (h:w.heap[g]?=some (.cells (five s) t (0,0))):Sps w (some ⟨g,0,none⟩) 5 5 s :=
  ⟨by omega,by omega,fun _=>⟨g,0,rfl,(Array.getElem?_eq_some_iff.1 h).1,fun i hi=>by
    match i,hi with
    | 0,_=>exact ⟨blkC h 0 rfl,blkC h 1 rfl,blkC h 2 rfl⟩
    | 1,_=>exact ⟨blkC h 3 rfl,blkC h 4 rfl,blkC h 5 rfl⟩
    | 2,_=>exact ⟨blkC h 6 rfl,blkC h 7 rfl,blkC h 8 rfl⟩
    | 3,_=>exact ⟨blkC h 9 rfl,blkC h 10 rfl,blkC h 11 rfl⟩
    | 4,_=>exact ⟨blkC h 12 rfl,blkC h 13 rfl,blkC h 14 rfl⟩⟩⟩
theorem sok54 {s:Nat->Nat->Int} (h:allB (sok s) 5=true):allB (sok s) 4=true:=decide_eq_true fun i hi=>(of_decide_eq_true h) i (by omega)
end Go.Proofs.YtdcppnnodgnojaaDoor
