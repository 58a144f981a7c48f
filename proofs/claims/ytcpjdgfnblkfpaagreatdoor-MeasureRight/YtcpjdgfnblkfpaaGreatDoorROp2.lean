/-
  Package round: product, total, the sum's closure, by their contracts.
-/
import Derived.Test.YtcpjdgfnblkfpaaGreatDoorROp
namespace Go.Proofs.YtcpjdgfnblkfpaaGreatDoor
open Go Go.RowKit Go.Proofs.YtcpjdgfnblkfpaaGreatDoor.M
set_option linter.unusedSimpArgs false
set_option linter.unusedVariables false

theorem Nums.at {w : World} {g n : Nat} {q : Nat → NumR} (h : Nums w (some ⟨g, 0, none⟩) n n q) (i : Nat) (hi : i < n) : At3 w g (i * 3) (q i) := by
  obtain ⟨b, off, he, hlt, hc⟩ := h.spot (by omega)
  cases he
  have := hc i hi
  rwa [Nat.zero_add] at this
theorem nums_D {w : World} {g n : Nat} {q : Nat → NumR} {V : Nat → Int} (h : Nums w (some ⟨g, 0, none⟩) n n q) (hf : ∀ i, i < n → Nrm (q i).d (q i).n ∧ Dy (V i) (q i).ng (val (q i).d (q i).n) (q i).e) (i : Nat) (hi : i < n) : DNum w (q i).v (V i) :=
  ⟨_, _, _, _, rfl, (hf i hi).2, _, _, _, _, rfl, (h.at i hi).row, (hf i hi).1, rfl⟩
theorem scale_injF {C D A B : Int} (h : C * 2 ^ 4194304 = A * B) (k : D * 2 ^ 4194304 = A * B) : C = D := Int.eq_of_mul_eq_mul_right (Int.ne_of_gt (two_pos 4194304)) (h.trans k.symm)
theorem keep6B {W w' : World} {g : Nat} {a b c d e f : Value} (h : W.cell? ⟨g, 0, none⟩ = some a ∧ W.cell? ⟨g, 1, none⟩ = some b ∧ W.cell? ⟨g, 2, none⟩ = some c ∧ W.cell? ⟨g, 3, none⟩ = some d ∧ W.cell? ⟨g, 4, none⟩ = some e ∧ W.cell? ⟨g, 5, none⟩ = some f) (hb : Below W.heap.size W w') :
    w'.cell? ⟨g, 0, none⟩ = some a ∧ w'.cell? ⟨g, 1, none⟩ = some b ∧ w'.cell? ⟨g, 2, none⟩ = some c ∧ w'.cell? ⟨g, 3, none⟩ = some d ∧ w'.cell? ⟨g, 4, none⟩ = some e ∧ w'.cell? ⟨g, 5, none⟩ = some f :=
  ⟨cell_keeps h.1 hb, cell_keeps h.2.1 hb, cell_keeps h.2.2.1 hb, cell_keeps h.2.2.2.1 hb, cell_keeps h.2.2.2.2.1 hb, cell_keeps h.2.2.2.2.2 hb⟩
set_option maxRecDepth 100000 in
set_option maxHeartbeats 1000000 in
theorem product_D (g : Nat) (w : World) (q : Nat → NumR) (A B C : Int) (ng : Bool) (m e : Int) (hN : Nums w (some ⟨g, 0, none⟩) 2 2 q) (h0 : DNum w (q 0).v A) (h1 : DNum w (q 1).v B) (oA : Dok A) (oB : Dok B) (hC : C * 2 ^ 4194304 = A * B) (oC : Dok C) (hy : Dy C ng m e) (hT : Tab w) :
    Calls Tryz.prog 153 #[.slice (some ⟨g, 0, none⟩) 2 2] w fun r w' => r = .returned (.tuple #[vlV ng m e false, .int .i64 0]) ∧ Below w.heap.size w w' := by
  have CM : Hid (∀ W, Below w.heap.size w W → Calls Tryz.prog 44 #[(q 0).v, (q 1).v] W fun r w' => ∃ v, r = .returned (.tuple #[v, .int .i64 0]) ∧ DAns W w' C v) := fun W hb => by
    refine (mul_D (h0.keeps hb) (h1.keeps hb) oA oB (hT.keeps hb)).mono ?_
    rintro r w' ⟨v, er, C', rfl, hC', hF⟩
    obtain rfl := scale_injF hC' hC
    obtain ⟨rfl, hA⟩ := hF.yes oC
    exact ⟨v, rfl, hA⟩
  have CV : Hid (∀ W v, Below w.heap.size w W → DNum W v C → Calls Tryz.prog 157 #[v] W fun r w' => r = .returned (vlV ng m e false) ∧ Below W.heap.size W w') := fun W v hb hv => valueOf_D hv oC hy (hT.keeps hb)
  obtain ⟨c0, c1, c2, _⟩ := hN.at 0 (by decide)
  obtain ⟨c3, c4, c5, _⟩ := hN.at 1 (by decide)
  unfold vlV valV NumR.v at *
  generalize (m / 2 ^ vK m).toNat = Q at CV ⊢
  generalize e + vK m = E at CV ⊢
  generalize decide (m % 2 ^ vK m ≠ 0) = R at CV ⊢
  clear h0 h1 hN oA oB hC oC hy hT
  generalize q 0 = x at *
  generalize q 1 = y at *
  obtain ⟨x_g, x_o, x_n, x_c, x_d, x_e⟩ := x
  obtain ⟨y_g, y_o, y_n, y_c, y_d, y_e⟩ := y
  simp only [Nat.zero_mul, Nat.zero_add, Nat.one_mul] at c0 c1 c2 c3 c4 c5 CM
  have q0 := heap_alloc_new w (.cells #[.bool false, .int .u64 0, .int .i64 0, .bool false, .bool false] 170)
  have hb1 := bel_alloc w (.cells #[.bool false, .int .u64 0, .int .i64 0, .bool false, .bool false] 170)
  have d0 := cell_keeps c0 hb1
  have d1 := cell_keeps c1 hb1
  have d2 := cell_keeps c2 hb1
  have d3 := cell_keeps c3 hb1
  have d4 := cell_keeps c4 hb1
  have d5 := cell_keeps c5 hb1
  clear c0 c1 c2 c3 c4 c5
  go_enter Tryz.func153, Tryz.ntmps153
  go_wp2_with fail
  generalize w.alloc (.cells #[.bool false, .int .u64 0, .int .i64 0, .bool false, .bool false] 170) = x1 at q0 hb1 d0 d1 d2 d3 d4 d5 ⊢
  have KK : ∀ W, Below x1.heap.size x1 W → W.cell? ⟨g, 0, none⟩ = some (.bool x_g) ∧ W.cell? ⟨g, 1, none⟩ = some (.slice x_o x_n x_c) ∧ W.cell? ⟨g, 2, none⟩ = some (.int .i64 x_e) ∧ W.cell? ⟨g, 3, none⟩ = some (.bool y_g) ∧ W.cell? ⟨g, 4, none⟩ = some (.slice y_o y_n y_c) ∧ W.cell? ⟨g, 5, none⟩ = some (.int .i64 y_e) := fun W hb => keep6B (W := x1) ⟨d0, d1, d2, d3, d4, d5⟩ hb
  clear d0 d1 d2 d3 d4 d5
  have i0 : (0 : Int) < 2 := by decide
  have i1 : (1 : Int) < 2 := by decide
  have hx0 := (bel_refl x1).drew
  have hx1 := (bel_alloc x1 (.cells #[.bool false, .slice none 0 0, .int .i64 0] 37)).drew
  go_region_held3 (fun W => W.cell? ⟨g, 0, none⟩ = some (.bool x_g) ∧ W.cell? ⟨g, 1, none⟩ = some (.slice x_o x_n x_c) ∧ W.cell? ⟨g, 2, none⟩ = some (.int .i64 x_e) ∧ W.cell? ⟨g, 3, none⟩ = some (.bool y_g) ∧ W.cell? ⟨g, 4, none⟩ = some (.slice y_o y_n y_c) ∧ W.cell? ⟨g, 5, none⟩ = some (.int .i64 y_e))
    (first | assumption | exact KK _ hx0 | exact KK _ hx1 | exact KK _ hw3 | exact KK _ (bel_trans hw3 (bel_alloc _ _)) | exact KK _ (bel_set3' hw3 (Nat.le_refl _) _ _ _) | fail)
    ((go_at_call 44; refine (CM.out _ (by first | exact hb1.drew | exact bel_trans hb1 hx1)).mono ?_; rintro _ w3 ⟨v, rfl, hD⟩; obtain ⟨n_g, n_o, n_n, n_c, n_e, rfl⟩ := dans_shape hD; have hw3 : Below x1.heap.size x1 w3 := (by first | exact bel_trans hx0 hD.below | exact bel_trans hx1 hD.below); first | (have qz : w3.heap[x1.heap.size]? = some (.cells #[.bool false, .slice none 0 0, .int .i64 0] 37 (0, 0)) := (hD.below.block _ (by first | exact (Array.getElem?_eq_some_iff.1 (heap_a1 x1 (.cells #[.bool false, .slice none 0 0, .int .i64 0] 37))).1)).trans (heap_a1 x1 (.cells #[.bool false, .slice none 0 0, .int .i64 0] 37)); have cz0 := blkC qz 0 rfl; have cz1 := blkC qz 1 rfl; have cz2 := blkC qz 2 rfl; have zz0 := blkF qz 0; have zz1 := blkF qz 1; have zz2 := blkF qz 2) | skip))
  · have hb4 := bel_alloc w3 (.cells #[.bool n_g, .slice n_o n_n n_c, .int .i64 n_e] 37)
    have qn := heap_a1 w3 (.cells #[.bool n_g, .slice n_o n_n n_c, .int .i64 n_e] 37)
    have hw4 := bel_trans hw3 hb4
    have q4 := (hw4.block _ (Array.getElem?_eq_some_iff.1 q0).1).trans q0
    have hD4 := hD.num.keeps hb4
    have hb5 := bel_trans hb1 hw4
    have c0 := blkC qn 0 rfl
    have c1 := blkC qn 1 rfl
    have c2 := blkC qn 2 rfl
    go_wp2_with fail
    refine (CV.out _ _ hb5 hD4).mono ?_
    rintro _ w6 ⟨rfl, hb6⟩
    have p1 := (hb6.block _ (Array.getElem?_eq_some_iff.1 q4).1).trans q4
    have hbw := bel_trans hb5 hb6
    have x0 := blkC p1 0 rfl
    have x1' := blkC p1 1 rfl
    have x2 := blkC p1 2 rfl
    have x3 := blkC p1 3 rfl
    have x4 := blkC p1 4 rfl
    have z0 := blkF p1 0
    have z1 := blkF p1 1
    have z2 := blkF p1 2
    have z3 := blkF p1 3
    have z4 := blkF p1 4
    go_wp2
    all_goals refine bodyPost_ret (v := .tuple #[.agg #[.bool ng, .int .u64 Q, .int .i64 E, .bool R, .bool false], .int .i64 0]) (by simp [results, Tryz.results153, go_sem, x0, x1', x2, x3, x4]) rfl ⟨rfl, ?_⟩
    all_goals exact (wr5 w6 w.heap.size _ _ _ _ _).below hbw hbw.size (Nat.le_refl _)
  · have hw4 := bel_set3' (o0 := 0) (o1 := 1) (o2 := 2) hw3 (Nat.le_refl _) (.bool n_g) (.slice n_o n_n n_c) (.int .i64 n_e)
    have qn := heap_set (heap_set (heap_set qz 0 (.bool n_g)) 1 (.slice n_o n_n n_c)) 2 (.int .i64 n_e)
    have q4 := (hw4.block _ (Array.getElem?_eq_some_iff.1 q0).1).trans q0
    have hD4 := (dans_res3 hD hx1 (Nat.le_refl _) (Array.getElem?_eq_some_iff.1 (heap_a1 x1 (.cells #[.bool false, .slice none 0 0, .int .i64 0] 37))).1 (.bool n_g) (.slice n_o n_n n_c) (.int .i64 n_e)).num
    have hb5 := bel_trans hb1 hw4
    clear cz0 cz1 cz2 zz0 zz1 zz2 qz
    have c0 := blkC qn 0 rfl
    have c1 := blkC qn 1 rfl
    have c2 := blkC qn 2 rfl
    go_wp2_with fail
    refine (CV.out _ _ hb5 hD4).mono ?_
    rintro _ w6 ⟨rfl, hb6⟩
    have p1 := (hb6.block _ (Array.getElem?_eq_some_iff.1 q4).1).trans q4
    have hbw := bel_trans hb5 hb6
    have x0 := blkC p1 0 rfl
    have x1' := blkC p1 1 rfl
    have x2 := blkC p1 2 rfl
    have x3 := blkC p1 3 rfl
    have x4 := blkC p1 4 rfl
    have z0 := blkF p1 0
    have z1 := blkF p1 1
    have z2 := blkF p1 2
    have z3 := blkF p1 3
    have z4 := blkF p1 4
    go_wp2
    all_goals refine bodyPost_ret (v := .tuple #[.agg #[.bool ng, .int .u64 Q, .int .i64 E, .bool R, .bool false], .int .i64 0]) (by simp [results, Tryz.results153, go_sem, x0, x1', x2, x3, x4]) rfl ⟨rfl, ?_⟩
    all_goals exact (wr5 w6 w.heap.size _ _ _ _ _).below hbw hbw.size (Nat.le_refl _)
theorem okR_nil {x : NumR} (ok : okR x = true) : x.V = 0 ↔ x.n = 0 := by
  have hd := (okR_dy ok).1
  rw [hd.eq_zero]
  constructor
  · intro h
    rcases Nat.eq_zero_or_pos x.n with h0 | h0
    · exact h0
    · have := val_pos (okR_sane ok).1 h0
      omega
  · intro h
    rw [h]; rfl
end Go.Proofs.YtcpjdgfnblkfpaaGreatDoor
