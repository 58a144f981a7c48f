/-
  Proved: at every five ints, plumblaw8.SpanMeets answers true: what is in two intervals is in both, what they have in common and what is around both is told; where the library's tables and the layout of binary64 lie as the program's text lays them.
-/
import Derived.Test.YtmjdlcbiaglkeaaDoorCards
import Derived.Test.YtmjdlcbiaglkeaaDoorTie
import Derived.Test.YtmjdlcbiaglkeaaDoorPart10
import Derived.Test.YtmjdlcbiaglkeaaDoorPart11
import Derived.Test.YtmjdlcbiaglkeaaDoorPart9
namespace Go.Proofs.YtmjdlcbiaglkeaaDoor.spanMeets
open Go Go.ChangeShapes Go.WideShapes Go.ChangeAt Go.RowKit Go.Proofs.YtmjdlcbiaglkeaaDoor Go.Proofs.YtmjdlcbiaglkeaaDoor.M
set_option linter.unusedSimpArgs false
set_option linter.unusedVariables false

theorem hold8_of {W : World} (h : laidMetH Tryd.prog [("math/bits.deBruijn32tab", Rows.laid_math_bits_deBruijn32tab), ("math/bits.deBruijn64tab", Rows.laid_math_bits_deBruijn64tab), ("plumb/bits.binary64", Rows.laid_plumb_bits_binary64)] W) : Hold4 W := by
  have k := hold_of h
  exact ⟨k.lay, k.tab, ⟨⟨k.lay.a0, k.lay.a1, k.lay.a2, trivial, trivial, trivial⟩, k.tab⟩⟩
/-- dyadic.Of, whatever it is asked -/
theorem of_any8 (x : Int) (w : World) (H : Hold4 w) : Calls Tryd.prog 4 #[.int .i64 x] w fun r w' => ∃ ng so sn sc e, r = .returned (.tuple #[.agg #[.bool ng, .slice so sn sc, .int .i64 e], .int .i64 (if pok x then 0 else 10)]) ∧ Below w.heap.size w w' ∧ (pok x = true → DNum w' (.agg #[.bool ng, .slice so sn sc, .int .i64 e]) (patV x)) := by
  cases hp : pok x
  · refine (of_no hp H).mono ?_
    rintro _ w' ⟨rfl, hb⟩
    exact ⟨_, _, _, _, _, rfl, hb, fun h => by cases h⟩
  · refine (of_ok hp H).mono ?_
    rintro _ w' ⟨v, rfl, hA⟩
    obtain ⟨g, o, n, c, e, rfl⟩ := dans_shape hA
    exact ⟨_, _, _, _, _, rfl, hA.below, fun _ => hA.num⟩
/-- the law's mathematics -/
theorem meets_math {a b c d A B : Int} (ha : nn a) (hb : nn b) (hc : nn c) (hd : nn d) (h1 : vld a b = true) (h2 : vld c d = true) (hAB : key A ≤ key B) :
    vld (canon (minP a c)) (canon (maxP b d)) = true ∧ ((inI a b A B || inI c d A B) = true → inI (canon (minP a c)) (canon (maxP b d)) A B = true)
    ∧ (vld (maxP a c) (minP b d) = false → (inI a b A B && inI c d A B) = false ∧ (less b c || less d a) = true)
    ∧ (vld (maxP a c) (minP b d) = true → vld (canon (maxP a c)) (canon (minP b d)) = true ∧ inI (canon (maxP a c)) (canon (minP b d)) A B = (inI a b A B && inI c d A B)) := by
  obtain ⟨n1, m1, m2, m3⟩ := minP_nn ha hc
  obtain ⟨n2, x1, x2, x3⟩ := maxP_nn hb hd
  obtain ⟨n3, y1, y2, y3⟩ := maxP_nn ha hc
  obtain ⟨n4, z1, z2, z3⟩ := minP_nn hb hd
  obtain ⟨k1, l1⟩ := key_canon n1
  obtain ⟨k2, l2⟩ := key_canon n2
  obtain ⟨k3, l3⟩ := key_canon n3
  obtain ⟨k4, l4⟩ := key_canon n4
  obtain ⟨_, _, u3, u4, u5⟩ := vld_iff.1 h1
  obtain ⟨_, _, v3, v4, v5⟩ := vld_iff.1 h2
  have lbc : less b c = decide (key b < key c) := by unfold less; simp [hb.2, hc.2]
  have lda : less d a = decide (key d < key a) := by unfold less; simp [hd.2, ha.2]
  refine ⟨vld_iff.2 ⟨l1.2, l2.2, by omega, by omega, by omega⟩, fun h => ?_, fun h => ?_, fun h => ?_⟩
  · unfold inI at *
    simp only [Bool.or_eq_true, decide_eq_true_eq] at *
    omega
  · have hn : ¬ (key (maxP a c) ≤ key (minP b d) ∧ key (maxP a c) < 9218868437227405312 ∧ -9218868437227405312 < key (minP b d)) := fun q => by
      have := vld_iff.2 ⟨n3.2, n4.2, q.1, q.2.1, q.2.2⟩
      rw [h] at this; cases this
    rw [lbc, lda]
    unfold inI
    refine ⟨?_, ?_⟩
    · rw [Bool.and_eq_false_iff]
      simp only [decide_eq_false_iff_not]
      omega
    · rw [Bool.or_eq_true]
      simp only [decide_eq_true_eq]
      omega
  · obtain ⟨_, _, q3, q4, q5⟩ := vld_iff.1 h
    refine ⟨vld_iff.2 ⟨l3.2, l4.2, by omega, by omega, by omega⟩, ?_⟩
    unfold inI
    rw [Bool.eq_iff_iff]
    simp only [Bool.and_eq_true, decide_eq_true_eq]
    omega
set_option maxRecDepth 100000 in
set_option maxHeartbeats 4000000 in
theorem walk (a b c d x : Int) (w : World) (ha : rng a) (hb : rng b) (hc : rng c) (hd : rng d) (hx : rng x) (H : Hold4 w) :
    Calls Tryd.prog 3 #[.int .i64 a, .int .i64 b, .int .i64 c, .int .i64 d, .int .i64 x] w fun e w' => e = .returned (.bool true) ∧ Below w.heap.size w w' := by
  have CO : Hid (∀ W, Hold4 W → Calls Tryd.prog 4 #[.int .i64 x] W fun r w' => ∃ ng so sn sc e, r = .returned (.tuple #[.agg #[.bool ng, .slice so sn sc, .int .i64 e], .int .i64 (if pok x then 0 else 10)]) ∧ Below W.heap.size W w' ∧ (pok x = true → DNum w' (.agg #[.bool ng, .slice so sn sc, .int .i64 e]) (patV x))) := fun W HW => of_any8 x W HW
  have CM : Hid (∀ W, Lays W → Calls Tryd.prog 5 #[.agg #[.int .i64 a, .int .i64 b], .agg #[.int .i64 c, .int .i64 d]] W fun e w' => ∃ X Y : Int, e = .returned (.tuple #[.agg #[.int .i64 X, .int .i64 Y], .bool ((vld a b && vld c d) && vld (maxP a c) (minP b d)), .int .i64 (errA (vld a b && vld c d))]) ∧ ((vld a b && vld c d) = true → vld (maxP a c) (minP b d) = true → X = canon (maxP a c) ∧ Y = canon (minP b d)) ∧ Below W.heap.size W w') := fun W LW => spanMeet ha hb hc hd W LW
  have V1 : Hid (∀ W, Calls Tryd.prog 7 #[.agg #[.int .i64 a, .int .i64 b]] W fun e w' => e = .returned (.bool (vld a b)) ∧ Below W.heap.size W w') := fun W => spanValid ha hb W
  have V2 : Hid (∀ W, Calls Tryd.prog 7 #[.agg #[.int .i64 c, .int .i64 d]] W fun e w' => e = .returned (.bool (vld c d)) ∧ Below W.heap.size W w') := fun W => spanValid hc hd W
  have hb2 := bel_alloc2 w (.cells #[.int .i64 a, .int .i64 b] 23) (.cells #[.int .i64 c, .int .i64 d] 23)
  have s_k := heap_a2 w (.cells #[.int .i64 a, .int .i64 b] 23) (.cells #[.int .i64 c, .int .i64 d] 23)
  have t_k := heap_b2 w (.cells #[.int .i64 a, .int .i64 b] 23) (.cells #[.int .i64 c, .int .i64 d] 23)
  have H2 := H.keeps hb2
  go_enter Tryd.func3, Tryd.ntmps3
  go_wp2_with fail
  generalize (w.alloc (.cells #[.int .i64 a, .int .i64 b] 23)).alloc (.cells #[.int .i64 c, .int .i64 d] 23) = w2 at *
  refine (CO.out _ H2).mono ?_
  rintro _ w3 ⟨yg, yo, yn, yc, ye, rfl, hb3, y_D⟩
  have hby := bel_alloc w3 (.cells #[.bool yg, .slice yo yn yc, .int .i64 ye] 26)
  have y_k := hl_last w3 (.cells #[.bool yg, .slice yo yn yc, .int .i64 ye] 26) rfl
  have s_k3 := ((bel_trans hb3 hby).block _ (Array.getElem?_eq_some_iff.1 s_k).1).trans s_k
  have t_k3 := ((bel_trans hb3 hby).block _ (Array.getElem?_eq_some_iff.1 t_k).1).trans t_k
  have c0 := blkC s_k3 0 rfl
  have c1 := blkC s_k3 1 rfl
  have c2 := blkC t_k3 0 rfl
  have c3 := blkC t_k3 1 rfl
  generalize hEr : (if pok x = true then (0 : Int) else 10) = er at *
  have HEr := hideIt hEr
  clear hEr
  have L3 : Lays (w3.alloc (.cells #[.bool yg, .slice yo yn yc, .int .i64 ye] 26)) := (H2.keeps (bel_trans hb3 hby)).env.lays
  go_wp2_with fail
  generalize w3.alloc (.cells #[.bool yg, .slice yo yn yc, .int .i64 ye] 26) = w4 at *
  refine (CM.out _ L3).mono ?_
  rintro _ w5 ⟨X, Y, rfl, hXY, hb5⟩
  clear c0 c1 c2 c3
  have hbm := bel_alloc w5 (.cells #[.int .i64 X, .int .i64 Y] 23)
  have m_k := hl_last w5 (.cells #[.int .i64 X, .int .i64 Y] 23) rfl
  have s_k6 := ((bel_trans hb5 hbm).block _ (Array.getElem?_eq_some_iff.1 s_k3).1).trans s_k3
  have t_k6 := ((bel_trans hb5 hbm).block _ (Array.getElem?_eq_some_iff.1 t_k3).1).trans t_k3
  have y_k6 := ((bel_trans hb5 hbm).block _ (Array.getElem?_eq_some_iff.1 y_k).1).trans y_k
  have L6 : Lays (w5.alloc (.cells #[.int .i64 X, .int .i64 Y] 23)) := L3.below' (bel_trans hb5 hbm)
  go_wp2_with fail
  generalize w5.alloc (.cells #[.int .i64 X, .int .i64 Y] 23) = w6 at *
  refine (alive8 _ L6).mono ?_
  rintro _ w7 ⟨rfl, hb7⟩
  have s_k7 := (hb7.block _ (Array.getElem?_eq_some_iff.1 s_k6).1).trans s_k6
  have t_k7 := (hb7.block _ (Array.getElem?_eq_some_iff.1 t_k6).1).trans t_k6
  have y_k7 := (hb7.block _ (Array.getElem?_eq_some_iff.1 y_k6).1).trans y_k6
  have m_k7 := (hb7.block _ (Array.getElem?_eq_some_iff.1 m_k).1).trans m_k
  have L7 := L6.below' hb7
  have c0 := blkC s_k7 0 rfl
  have c1 := blkC s_k7 1 rfl
  have hbw7 := bel_trans hb2 (bel_trans hb3 (bel_trans hby (bel_trans hb5 (bel_trans hbm hb7))))
  clear s_k s_k3 s_k6 t_k t_k3 t_k6 y_k y_k6 m_k L3 L6 H2
  go_wp2_with fail
  refine (V1.out _).mono ?_
  rintro _ w8 ⟨rfl, hb8⟩
  have s_k8 := (hb8.block _ (Array.getElem?_eq_some_iff.1 s_k7).1).trans s_k7
  have t_k8 := (hb8.block _ (Array.getElem?_eq_some_iff.1 t_k7).1).trans t_k7
  have y_k8 := (hb8.block _ (Array.getElem?_eq_some_iff.1 y_k7).1).trans y_k7
  have m_k8 := (hb8.block _ (Array.getElem?_eq_some_iff.1 m_k7).1).trans m_k7
  have L8 := L7.below' hb8
  clear c0 c1
  by_cases h1 : vld a b = false
  · rw [h1]
    rw [h1] at hXY
    simp only [h1, Bool.false_and]
    rw [show errA false = 1 from rfl]
    go_wp2_with (go_at_call 6; refine (alive8 _ L8).mono ?_; rintro _ w9 ⟨rfl, hb9⟩)
    go_ret
    exact ⟨rfl, bel_trans hbw7 (bel_trans hb8 hb9)⟩
  replace h1 : vld a b = true := by simpa using h1
  simp only [h1, Bool.true_and] at hXY ⊢
  have c2 := blkC t_k8 0 rfl
  have c3 := blkC t_k8 1 rfl
  go_wp2_with fail
  refine (V2.out _).mono ?_
  rintro _ w9 ⟨rfl, hb9⟩
  have s_k9 := (hb9.block _ (Array.getElem?_eq_some_iff.1 s_k8).1).trans s_k8
  have t_k9 := (hb9.block _ (Array.getElem?_eq_some_iff.1 t_k8).1).trans t_k8
  have y_k9 := (hb9.block _ (Array.getElem?_eq_some_iff.1 y_k8).1).trans y_k8
  have m_k9 := (hb9.block _ (Array.getElem?_eq_some_iff.1 m_k8).1).trans m_k8
  have L9 := L8.below' hb9
  have hbw9 := bel_trans hbw7 (bel_trans hb8 hb9)
  clear c2 c3 s_k7 t_k7 y_k7 m_k7 s_k8 t_k8 y_k8 m_k8 L7 L8
  by_cases h2 : vld c d = false
  · rw [h2]
    simp only [h2, Bool.false_and]
    rw [show errA false = 1 from rfl]
    clear hXY
    go_wp2_with (go_at_call 6; refine (alive8 _ L9).mono ?_; rintro _ w10 ⟨rfl, hb10⟩)
    go_ret
    exact ⟨rfl, bel_trans hbw9 hb10⟩
  replace h2 : vld c d = true := by simpa using h2
  simp only [h2, Bool.true_and] at hXY ⊢
  rw [show errA true = 0 from rfl]
  by_cases hp : pok x = false
  · obtain rfl : er = 10 := by have := HEr.out; rw [hp] at this; simpa using this.symm
    clear hXY
    go_wp2
    go_ret
    exact ⟨rfl, hbw9⟩
  replace hp : pok x = true := by simpa using hp
  obtain rfl : er = 0 := by have := HEr.out; rw [hp] at this; simpa using this.symm
  clear HEr
  have yD9 : DNum w9 (.agg #[.bool yg, .slice yo yn yc, .int .i64 ye]) (patV x) := (y_D hp).keeps (bel_trans hby (bel_trans hb5 (bel_trans hbm (bel_trans hb7 (bel_trans hb8 hb9)))))
  obtain ⟨va, vb, _, _, _⟩ := vld_iff.1 h1
  obtain ⟨vc, vd, _, _, _⟩ := vld_iff.1 h2
  obtain ⟨A, B, nA, nB, hAB, CA⟩ := around_of yD9 (patV_dok hp) (H.keeps hbw9)
  obtain ⟨g1, g2, g3, g4⟩ := meets_math (A := A) (B := B) ⟨ha, va⟩ ⟨hb, vb⟩ ⟨hc, vc⟩ ⟨hd, vd⟩ h1 h2 hAB
  have K1 : Hid (∀ W, Below w9.heap.size w9 W → Calls Tryd.prog 8 #[.agg #[.int .i64 a, .int .i64 b], .agg #[.bool yg, .slice yo yn yc, .int .i64 ye]] W fun e w' => e = .returned (.tuple #[.bool (inI a b A B), .int .i64 0]) ∧ Below W.heap.size W w') := fun W hW => spanHas ha hb nA nB h1 W (fun W' hW' => CA W' (bel_trans hW hW'))
  have K2 : Hid (∀ W, Below w9.heap.size w9 W → Calls Tryd.prog 8 #[.agg #[.int .i64 c, .int .i64 d], .agg #[.bool yg, .slice yo yn yc, .int .i64 ye]] W fun e w' => e = .returned (.tuple #[.bool (inI c d A B), .int .i64 0]) ∧ Below W.heap.size W w') := fun W hW => spanHas hc hd nA nB h2 W (fun W' hW' => CA W' (bel_trans hW hW'))
  have nj := (minP_nn ⟨ha, va⟩ ⟨hc, vc⟩).1
  have nk := (maxP_nn ⟨hb, vb⟩ ⟨hd, vd⟩).1
  have K3 : Hid (∀ W, Below w9.heap.size w9 W → Calls Tryd.prog 8 #[.agg #[.int .i64 (canon (minP a c)), .int .i64 (canon (maxP b d))], .agg #[.bool yg, .slice yo yn yc, .int .i64 ye]] W fun e w' => e = .returned (.tuple #[.bool (inI (canon (minP a c)) (canon (maxP b d)) A B), .int .i64 0]) ∧ Below W.heap.size W w') := fun W hW => spanHas (key_canon nj).2.1 (key_canon nk).2.1 nA nB g1 W (fun W' hW' => CA W' (bel_trans hW hW'))
  have nm := (maxP_nn ⟨ha, va⟩ ⟨hc, vc⟩).1
  have no := (minP_nn ⟨hb, vb⟩ ⟨hd, vd⟩).1
  have K4 : Hid (vld (maxP a c) (minP b d) = true → ∀ W, Below w9.heap.size w9 W → Calls Tryd.prog 8 #[.agg #[.int .i64 (canon (maxP a c)), .int .i64 (canon (minP b d))], .agg #[.bool yg, .slice yo yn yc, .int .i64 ye]] W fun e w' => e = .returned (.tuple #[.bool (inI a b A B && inI c d A B), .int .i64 0]) ∧ Below W.heap.size W w') := fun h3 W hW => by
    have := spanHas (key_canon nm).2.1 (key_canon no).2.1 nA nB (g4 h3).1 W (fun W' hW' => CA W' (bel_trans hW hW'))
    rw [(g4 h3).2] at this
    exact this
  have KJ : Hid (∀ W, Lays W → Calls Tryd.prog 9 #[.agg #[.int .i64 a, .int .i64 b], .agg #[.int .i64 c, .int .i64 d]] W fun e w' => e = .returned (.tuple #[.agg #[.int .i64 (canon (minP a c)), .int .i64 (canon (maxP b d))], .int .i64 0]) ∧ Below W.heap.size W w') := fun W LW => by
    have := spanJoin ha hb hc hd W LW
    rw [h1, h2] at this
    exact this
  have KL1 : Hid (∀ W, Calls Tryd.prog 10 #[.int .i64 b, .int .i64 c] W fun e w' => e = .returned (.bool (less b c)) ∧ w' = W) := fun W => bitsLess1 b c W hb hc
  have KL2 : Hid (∀ W, Calls Tryd.prog 10 #[.int .i64 d, .int .i64 a] W fun e w' => e = .returned (.bool (less d a)) ∧ w' = W) := fun W => bitsLess1 d a W hd ha
  have G2 := hideIt g2
  have G3 := hideIt g3
  have HXY := hideIt hXY
  clear g1 g2 g3 g4 hXY nA nB hAB CA nj nk nm no va vb vc vd yD9 y_D h1 h2 hp V1 V2 CM CO
  generalize inI a b A B = O1 at *
  generalize inI c d A B = O2 at *
  generalize inI (canon (minP a c)) (canon (maxP b d)) A B = O3 at *
  generalize vld (maxP a c) (minP b d) = P3 at *
  generalize less b c = F1 at *
  generalize less d a = F2 at *
  generalize canon (minP a c) = JX at *
  generalize canon (maxP b d) = JY at *
  have c0 := blkC s_k9 0 rfl
  have c1 := blkC s_k9 1 rfl
  have y0 := blkC y_k9 0 rfl
  have y1 := blkC y_k9 1 rfl
  have y2 := blkC y_k9 2 rfl
  go_wp2_with fail
  refine (K1.out _ (bel_refl _)).mono ?_
  rintro _ w10 ⟨rfl, hb10⟩
  have t0 := q_cell (blkC t_k9 0 rfl) hb10
  have t1 := q_cell (blkC t_k9 1 rfl) hb10
  replace y0 := q_cell y0 hb10
  replace y1 := q_cell y1 hb10
  replace y2 := q_cell y2 hb10
  replace c0 := q_cell c0 hb10
  replace c1 := q_cell c1 hb10
  go_wp2_with fail
  refine (K2.out _ hb10).mono ?_
  rintro _ w11 ⟨rfl, hb11⟩
  replace t0 := q_cell t0 hb11
  replace t1 := q_cell t1 hb11
  replace y0 := q_cell y0 hb11
  replace y1 := q_cell y1 hb11
  replace y2 := q_cell y2 hb11
  replace c0 := q_cell c0 hb11
  replace c1 := q_cell c1 hb11
  have b11 := bel_trans hb10 hb11
  have L11 := L9.below' b11
  go_wp2_with fail
  refine (KJ.out _ L11).mono ?_
  rintro _ w12 ⟨rfl, hb12⟩
  have hbj := bel_alloc w12 (.cells #[.int .i64 JX, .int .i64 JY] 23)
  have j_k := hl_last w12 (.cells #[.int .i64 JX, .int .i64 JY] 23) rfl
  have b13 := bel_trans b11 (bel_trans hb12 hbj)
  have m_k13 := (b13.block _ (Array.getElem?_eq_some_iff.1 m_k9).1).trans m_k9
  have y_k13 := (b13.block _ (Array.getElem?_eq_some_iff.1 y_k9).1).trans y_k9
  clear c0 c1 t0 t1 y0 y1 y2
  have y0 := blkC y_k13 0 rfl
  have y1 := blkC y_k13 1 rfl
  have y2 := blkC y_k13 2 rfl
  have j0 := blkC j_k 0 rfl
  have j1 := blkC j_k 1 rfl
  go_wp2_with fail
  generalize w12.alloc (.cells #[.int .i64 JX, .int .i64 JY] 23) = w13 at *
  refine (K3.out _ b13).mono ?_
  rintro _ w14 ⟨rfl, hb14⟩
  have b14 := bel_trans b13 hb14
  have hbw14 := bel_trans hbw9 b14
  replace y0 := q_cell y0 hb14
  replace y1 := q_cell y1 hb14
  replace y2 := q_cell y2 hb14
  have m0 := q_cell (blkC m_k13 0 rfl) hb14
  have m1 := q_cell (blkC m_k13 1 rfl) hb14
  clear j0 j1 j_k m_k13 y_k13 s_k9 t_k9 y_k9 m_k9 K1 K2 K3 KJ
  cases P3
  · obtain ⟨q1, q2⟩ := G3.out rfl
    clear K4 HXY G3 m0 m1 y0 y1 y2
    cases O1 <;> cases O2 <;> cases F1
    all_goals first
      | (exfalso; simp at q1; done)
      | skip
    all_goals first
      | (obtain rfl : O3 = true := G2.out rfl)
      | skip
    all_goals first
      | (simp at q2; subst q2)
      | skip
    all_goals clear G2 q1
    all_goals
      go_wp2_with (first | (go_at_call 10; refine (KL1.out _).mono ?_; rintro _ _ ⟨rfl, rfl⟩) | (go_at_call 10; refine (KL2.out _).mono ?_; rintro _ _ ⟨rfl, rfl⟩))
      go_ret
      exact ⟨rfl, hbw14⟩
  · obtain ⟨rfl, rfl⟩ := HXY.out trivial rfl
    have K4' : Hid (∀ W, Below w9.heap.size w9 W → Calls Tryd.prog 8 #[.agg #[.int .i64 (canon (maxP a c)), .int .i64 (canon (minP b d))], .agg #[.bool yg, .slice yo yn yc, .int .i64 ye]] W fun e w' => e = .returned (.tuple #[.bool (O1 && O2), .int .i64 0]) ∧ Below W.heap.size W w') := K4.out rfl
    clear K4 G3 HXY KL1 KL2
    cases O1 <;> cases O2
    all_goals first
      | (obtain rfl : O3 = true := G2.out rfl)
      | skip
    all_goals clear G2
    all_goals
      go_wp2_with (go_at_call 8; refine (K4'.out _ b14).mono ?_; rintro _ w15 ⟨rfl, hb15⟩)
      go_ret
      exact ⟨rfl, bel_trans hbw14 hb15⟩
theorem own : ownKnob Tryd.prog.godebug = none := by kernel_rfl
theorem laidOut : laidOutB Tryd.prog = true := by kernel_rfl
theorem door_met (os : Os) (args : Array Value) : laidMetH Tryd.prog Rows.spanMeetsRow.laid ((World.doorLaid Tryd.prog 400 os).forCall (fun _ _ => 0) ⟨#[], args, []⟩).memory :=
  laidMetH_of_parts3 (fuel := 8) (laidMet_of_run' 8 (by kernel_rfl) (by kernel_rfl)) (by kernel_rfl) (by kernel_rfl)
set_option maxRecDepth 100000 in
theorem lifted (os : Os) (started : os.Started) (H : Type) (enc : TypeId × Value → H) :
    ReturnsInHanded {} Tryd.checked os 3 .any (fun w args => (Rows.spanMeetsSpec.pre enc Tryd.prog Tryd.f3 [] false w args ∧ laidMetH Tryd.prog Rows.spanMeetsRow.laid w) ∧ sizedMet enc Tryd.prog Tryd.f3 (OpenSpec.ofChange Rows.spanMeetsSpec) false w args)
      (Rows.spanMeetsSpec.post enc Tryd.prog Tryd.f3 false true false false) := by
  refine returnsInHanded_of_change_and (C := Tryd.checked) (X := fun w _ => laidMetH Tryd.prog Rows.spanMeetsRow.laid w) (fun _ _ _ hh h => h.of_heap hh) own started (by kernel_rfl) Tryd.func3
    (ChangeSpec.witness_shaped (enc := enc) (C := Tryd.checked) (os := os) (X := fun w _ => laidMetH Tryd.prog Rows.spanMeetsRow.laid w) false (World.doorLaid Tryd.prog 400 os) #[.int .i64 0, .int .i64 0, .int .i64 0, .int .i64 0, .int .i64 0] 8 rfl (World.shaped_of_RefB (by kernel_rfl) (by kernel_rfl)) (by kernel_rfl) (by kernel_rfl) (by kernel_rfl) (door_met os _)) ?_
  intro W base args ds gs before hval0 hW _ _ hL _
  have hval : ∀ (j : Nat) t v, Tryd.f3.params[j]? = some t → args[j]? = some v → Value.okWide Tryd.prog W .any base t v := hval0
  have hW' := hW
  obtain ⟨p, q, hA0, hV, rfl, hfz, hnd⟩ := hW
  have hA : DataW.TrodAll enc Tryd.prog W 0 (fun _ => true) true Tryd.f3.params.toList args.toList ds p := hA0
  rw [Tryd.params3] at hA hval
  obtain ⟨v0, vs0, d0, ds0, p0, q0, hargs, rfl, rfl, h0, r0⟩ := trodAll_cons hA
  obtain ⟨v1, vs1, d1, ds1, p1, q1, rfl, rfl, rfl, h1, r1⟩ := trodAll_cons r0
  obtain ⟨v2, vs2, d2, ds2, p2, q2, rfl, rfl, rfl, h2, r2⟩ := trodAll_cons r1
  obtain ⟨v3, vs3, d3, ds3, p3, q3, rfl, rfl, rfl, h3, r3⟩ := trodAll_cons r2
  obtain ⟨v4, vs4, d4, ds4, p4, q4, rfl, rfl, rfl, h4, r4⟩ := trodAll_cons r3
  obtain ⟨rfl, rfl, rfl⟩ := trodAll_nil r4
  obtain rfl : args = #[v0, v1, v2, v3, v4] := by cases args; simp_all
  obtain ⟨rfl, rfl⟩ := trodVars_none hV
  obtain ⟨a0, rfl, rfl, rfl, w0⟩ := open_int Tryd.underlying3 (hval 0 3 v0 rfl rfl) h0
  obtain ⟨a1, rfl, rfl, rfl, w1⟩ := open_int Tryd.underlying3 (hval 1 3 v1 rfl rfl) h1
  obtain ⟨a2, rfl, rfl, rfl, w2⟩ := open_int Tryd.underlying3 (hval 2 3 v2 rfl rfl) h2
  obtain ⟨a3, rfl, rfl, rfl, w3⟩ := open_int Tryd.underlying3 (hval 3 3 v3 rfl rfl) h3
  obtain ⟨a4, rfl, rfl, rfl, w4⟩ := open_int Tryd.underlying3 (hval 4 3 v4 rfl rfl) h4
  clear hA0 hval0
  refine (walk a0 a1 a2 a3 a4 W (rng_of w0) (rng_of w1) (rng_of w2) (rng_of w3) (rng_of w4) (hold8_of hL)).mono fun e W' ⟨he, bel⟩ => ?_
  subst he
  exact ⟨_, rfl, _, _, _, [], _, [], hW', trodAll_mk1 (shut_bool Tryd.underlying4 _), (trodAll_cons_mk (shut_int Tryd.underlying3 w0) (trodAll_cons_mk (shut_int Tryd.underlying3 w1) (trodAll_cons_mk (shut_int Tryd.underlying3 w2) (trodAll_cons_mk (shut_int Tryd.underlying3 w3) (trodAll_cons_mk (shut_int Tryd.underlying3 w4) trodAll_mk0))))), rfl, bel.frame _, fun h => by cases h⟩
theorem said : Rows.SpanMeetsSaid :=
  OpenClaim.holds_of_wide 3 Tryd.f3 rfl rfl rfl rfl rfl rfl rfl ⟨rfl, rfl, rfl, rfl, rfl⟩ rfl rfl rfl rfl rfl (by kernel_rfl) Tryd.func3 (by kernel_rfl)
    (of_decide_eq_true (by kernel_rfl)) (by unfold Func.isWrapper; first | (rw [if_pos (by decide +kernel)]; kernel_rfl) | (rw [if_neg (by decide +kernel)]; exact ⟨rfl, rfl⟩))
    (fun os started H enc _ => lifted os started H enc)
theorem plain (f : FuncId) (fn : Func) (hf : Tryd.pinned.checked.prog.funcNamed Tryd.f3.name = some f) (hfn : Tryd.pinned.checked.prog.funcs[f]? = some fn) :
    false = Tryd.pinned.checked.prog.looks [] ∧ ∀ (j : Nat) t, fn.params[j]? = some t → Tryd.pinned.checked.prog.wantsStandIn t = false := by
  obtain rfl : f = 3 := Option.some.inj ((show Tryd.prog.funcNamed Tryd.f3.name = some 3 by kernel_rfl).symm.trans hf) |>.symm
  obtain rfl : fn = Tryd.f3 := (Option.some.inj (Tryd.func3.symm.trans hfn)).symm
  refine ⟨by kernel_rfl, fun j t ht => ?_⟩
  rw [Tryd.params3] at ht
  obtain rfl : t = 3 := by simpa using Array.mem_of_getElem? ht
  exact (show Tryd.prog.wantsStandIn 3 = false by kernel_rfl)
/-- THE CARD. -/
theorem card : Rows.SpanMeetsCardSaid :=
  Claim7.holds_tied_plain_at .later [] _ _ _ _ said (fun _ h => by cases h) (by kernel_rfl) (fun _ h => by cases h) spanMeets_row_tie rfl ⟨rfl, rfl⟩ (by kernel_rfl) rfl plain (by kernel_rfl)
end Go.Proofs.YtmjdlcbiaglkeaaDoor.spanMeets
namespace Go.Proofs.YtmjdlcbiaglkeaaDoor
/-- SpanMeets: the statement as it is given. -/
theorem spanMeets_holds : Rows.SpanMeetsCardSaid := spanMeets.card
end Go.Proofs.YtmjdlcbiaglkeaaDoor
