/-
  Package orient: apart, by its contract: the exact difference of two coordinates.
-/
import Derived.Test.YtcpjdgfnblkfpaaGreatDoorRNear2
import Derived.Test.YtcpjdgfnblkfpaaGreatDoorDLaw
import Derived.Test.YtcpjdgfnblkfpaaGreatDoorEHelp
namespace Go.Proofs.YtcpjdgfnblkfpaaGreatDoor
open Go Go.RowKit Go.Proofs.YtcpjdgfnblkfpaaGreatDoor.M
set_option linter.unusedSimpArgs false
set_option linter.unusedVariables false

theorem dans_past {w w' : World} {V : Int} {v : Value} (h : DAns w w' V v) (o : Obj) : DAns w (w'.alloc o) V v := h.stays (bel_alloc _ _)
set_option maxRecDepth 100000 in
set_option maxHeartbeats 2000000 in
theorem oapart_any {p q : Int} (pp : pok p = true) (pq : pok q = true) (w : World) (H : Hold4 w) :
    Calls Tryz.prog 41 #[.int .i64 p, .int .i64 q] w fun r w' => ∃ v, r = .returned v ∧ DAns w w' (patV p - patV q) v := by
  have r_k := heap_a1 w (.cells #[.bool false, .slice none 0 0, .int .i64 0] 37)
  have hb0 := bel_alloc w (.cells #[.bool false, .slice none 0 0, .int .i64 0] 37)
  have B1 := patV_bd pp
  have B2 := patV_bd pq
  go_enter Tryz.func41, Tryz.ntmps41
  go_wp2_with fail
  generalize w.alloc (.cells #[.bool false, .slice none 0 0, .int .i64 0] 37) = x0 at r_k hb0 ⊢
  have H := H.keeps hb0
  refine (of_ok pp H).mono ?_
  rintro _ y1 ⟨v, rfl, h1⟩
  obtain ⟨x_g, x_o, x_n, x_c, x_e, rfl⟩ := dans_shape h1
  have hw1 := h1.below
  have x_D := h1.num
  have H := H.keeps hw1
  have r_k := (hw1.block _ (Array.getElem?_eq_some_iff.1 r_k).1).trans r_k
  have hb1 := bel_trans hb0 hw1
  have r_k := heap_past (.cells #[.bool x_g, .slice x_o x_n x_c, .int .i64 x_e] 37) r_k
  have x_k := heap_a1 y1 (.cells #[.bool x_g, .slice x_o x_n x_c, .int .i64 x_e] 37)
  have x_D := x_D.keeps (bel_alloc y1 (.cells #[.bool x_g, .slice x_o x_n x_c, .int .i64 x_e] 37))
  have H := H.keeps (bel_alloc y1 (.cells #[.bool x_g, .slice x_o x_n x_c, .int .i64 x_e] 37))
  have hb2' := bel_trans hb1 (bel_alloc y1 (.cells #[.bool x_g, .slice x_o x_n x_c, .int .i64 x_e] 37))
  go_wp2_with fail
  generalize y1.alloc (.cells #[.bool x_g, .slice x_o x_n x_c, .int .i64 x_e] 37) = x2 at r_k x_k x_D H hb2' ⊢
  refine (of_ok pq H).mono ?_
  rintro _ y2 ⟨v, rfl, h2⟩
  obtain ⟨y_g, y_o, y_n, y_c, y_e, rfl⟩ := dans_shape h2
  have hw2 := h2.below
  have y_D := h2.num
  have H := H.keeps hw2
  have r_k := (hw2.block _ (Array.getElem?_eq_some_iff.1 r_k).1).trans r_k
  have x_k := (hw2.block _ (Array.getElem?_eq_some_iff.1 x_k).1).trans x_k
  have x_D := x_D.keeps hw2
  have hb2 := bel_trans hb2' hw2
  have r_k := heap_past (.cells #[.bool y_g, .slice y_o y_n y_c, .int .i64 y_e] 37) r_k
  have x_k := heap_past (.cells #[.bool y_g, .slice y_o y_n y_c, .int .i64 y_e] 37) x_k
  have y_k := heap_a1 y2 (.cells #[.bool y_g, .slice y_o y_n y_c, .int .i64 y_e] 37)
  have x_D := x_D.keeps (bel_alloc y2 (.cells #[.bool y_g, .slice y_o y_n y_c, .int .i64 y_e] 37))
  have y_D := y_D.keeps (bel_alloc y2 (.cells #[.bool y_g, .slice y_o y_n y_c, .int .i64 y_e] 37))
  have H := H.keeps (bel_alloc y2 (.cells #[.bool y_g, .slice y_o y_n y_c, .int .i64 y_e] 37))
  have hb3' := bel_trans hb2 (bel_alloc y2 (.cells #[.bool y_g, .slice y_o y_n y_c, .int .i64 y_e] 37))
  have f_x0 := blkC x_k 0 rfl
  have f_x1 := blkC x_k 1 rfl
  have f_x2 := blkC x_k 2 rfl
  go_wp2_with fail
  clear f_x0 f_x1 f_x2
  generalize y2.alloc (.cells #[.bool y_g, .slice y_o y_n y_c, .int .i64 y_e] 37) = x3 at r_k x_k y_k x_D y_D H hb3' ⊢
  have hs0 := (Array.getElem?_eq_some_iff.1 r_k).1
  refine (sub_B x_D y_D B1 B2 (by omega) H.tab).mono ?_
  rintro _ y3 ⟨v, rfl, h3⟩
  obtain ⟨n_g, n_o, n_n, n_c, n_e, rfl⟩ := dans_shape h3
  have hw3 := h3.below
  have n_D := h3.num
  have H := H.keeps hw3
  have r_k := (hw3.block _ (Array.getElem?_eq_some_iff.1 r_k).1).trans r_k
  have x_k := (hw3.block _ (Array.getElem?_eq_some_iff.1 x_k).1).trans x_k
  have x_D := x_D.keeps hw3
  have y_k := (hw3.block _ (Array.getElem?_eq_some_iff.1 y_k).1).trans y_k
  have y_D := y_D.keeps hw3
  have hb3 := bel_trans hb3' hw3
  have r_k := heap_past (.cells #[.bool n_g, .slice n_o n_n n_c, .int .i64 n_e] 37) r_k
  have k0 := blkC r_k 0 rfl
  have k1 := blkC r_k 1 rfl
  have k2 := blkC r_k 2 rfl
  have z0 := blkF r_k 0
  have z1 := blkF r_k 1
  have z2 := blkF r_k 2
  go_wp2
  refine bodyPost_ret (v := .agg #[.bool n_g, .slice n_o n_n n_c, .int .i64 n_e]) (by simp [results, Tryz.results41, go_sem, k0, k1, k2]) rfl ⟨_, rfl, ?_⟩
  exact dans_res3 (g := w.heap.size) (dans_past h3 _) (by assumption) (Nat.le_refl _) hs0 _ _ _
end Go.Proofs.YtcpjdgfnblkfpaaGreatDoor
