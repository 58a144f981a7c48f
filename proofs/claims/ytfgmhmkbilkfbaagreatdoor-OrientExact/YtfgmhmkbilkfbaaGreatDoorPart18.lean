/-
  Parts of the proof, one behind another.
-/
import Derived.Test.YtfgmhmkbilkfbaaGreatDoorPart10
import Derived.Test.YtfgmhmkbilkfbaaGreatDoorPart17
import Derived.Test.YtfgmhmkbilkfbaaGreatDoorPart11
import Derived.Test.YtfgmhmkbilkfbaaGreatDoorPart9
import Derived.Laws.MakeOwn
import Derived.Maps.AppendAt
import Derived.Laws.AppendOwnNone
/-
  plumblaw3.is: an answer of a number and an error, as the document says, by its contract; a number that is lent.
-/
namespace Go.Proofs.YtfgmhmkbilkfbaaGreatDoor
open Go Go.RowKit Go.Proofs.YtfgmhmkbilkfbaaGreatDoor.M
set_option linter.unusedSimpArgs false
set_option linter.unusedVariables false

/-- A number that was answered, its list from B on. -/
def DAn (B : Nat) (w : World) (V : Int) (v : Value) : Prop := ∃ ng s m e, v = .agg #[.bool ng, s, .int .i64 e] ∧ Dy V ng m e ∧ An B w s m
/-- A number or ErrLong. -/
def DFitA (B : Nat) (w : World) (V : Int) (v : Value) (er : Int) : Prop := (Dok V ∧ er = 0 ∧ DAn B w V v) ∨ (¬ Dok V ∧ er = 2 ∧ v = zeroV)
theorem DAns.dan {w w' : World} {V : Int} {v : Value} (h : DAns w w' V v) : DAn w.heap.size w' V v := by
  obtain ⟨ng, s, m, e, h1, h2, h3⟩ := h
  exact ⟨ng, s, m, e, h1, h2, h3.an⟩
theorem DFit.fitA {w w' : World} {V er : Int} {v : Value} (h : DFit w w' V v er) : DFitA w.heap.size w' V v er := by
  rcases h.2 with ⟨h1, h2, h3⟩ | h
  · exact .inl ⟨h1, h2, h3.dan⟩
  · exact .inr h
theorem DAns.fitA {w w' : World} {V : Int} {v : Value} (h : DAns w w' V v) (ok : Dok V) : DFitA w.heap.size w' V v 0 := .inl ⟨ok, rfl, h.dan⟩
theorem An.wr {B : Nat} {w w' : World} {v : Value} {V : Int} {g : Nat} (h : An B w v V) (hw : Wr g w w') (hg : g < B) : An B w' v V := by
  obtain ⟨t, d, h1, h2⟩ := h
  exact ⟨t, d, h1.of_block fun g' hg' => hw.block g' (h1.ge hg').2 (by have := (h1.ge hg').1; omega), h2⟩
theorem DAn.wr {B : Nat} {w w' : World} {v : Value} {V : Int} {g : Nat} (h : DAn B w V v) (hw : Wr g w w') (hg : g < B) : DAn B w' V v := by
  obtain ⟨ng, s, m, e, h1, h2, h3⟩ := h
  exact ⟨ng, s, m, e, h1, h2, h3.wr hw hg⟩
theorem DAn.keeps {B : Nat} {w w' : World} {v : Value} {V : Int} (h : DAn B w V v) (k : Below w.heap.size w w') : DAn B w' V v := by
  obtain ⟨ng, s, m, e, h1, h2, h3⟩ := h
  exact ⟨ng, s, m, e, h1, h2, h3.keeps k⟩
theorem DAn.lower {B B' : Nat} {w : World} {v : Value} {V : Int} (h : DAn B w V v) (hB : B' ≤ B) : DAn B' w V v := by
  obtain ⟨ng, s, m, e, h1, h2, h3⟩ := h
  exact ⟨ng, s, m, e, h1, h2, h3.lower hB⟩
theorem DAn.num {B : Nat} {w : World} {v : Value} {V : Int} (h : DAn B w V v) : DNum w v V := by
  obtain ⟨ng, s, m, e, h1, h2, h3⟩ := h
  exact ⟨ng, s, m, e, h1, h2, h3.num⟩
theorem DFitA.wr {B : Nat} {w w' : World} {v : Value} {V er : Int} {g : Nat} (h : DFitA B w V v er) (hw : Wr g w w') (hg : g < B) : DFitA B w' V v er := by
  rcases h with ⟨h1, h2, h3⟩ | h
  · exact .inl ⟨h1, h2, h3.wr hw hg⟩
  · exact .inr h
theorem DFitA.keeps {B : Nat} {w w' : World} {v : Value} {V er : Int} (h : DFitA B w V v er) (k : Below w.heap.size w w') : DFitA B w' V v er := by
  rcases h with ⟨h1, h2, h3⟩ | h
  · exact .inl ⟨h1, h2, h3.keeps k⟩
  · exact .inr h
theorem DFitA.lower {B B' : Nat} {w : World} {v : Value} {V er : Int} (h : DFitA B w V v er) (hB : B' ≤ B) : DFitA B' w V v er := by
  rcases h with ⟨h1, h2, h3⟩ | h
  · exact .inl ⟨h1, h2, h3.lower hB⟩
  · exact .inr h
theorem DFitA.shape {B : Nat} {w : World} {v : Value} {V er : Int} (h : DFitA B w V v er) : ∃ ng so sn sc e, v = .agg #[.bool ng, .slice so sn sc, .int .i64 e] := by
  rcases h with ⟨_, _, ng, s, m, e, h1, _, h3⟩ | ⟨_, _, rfl⟩
  · obtain ⟨so, sn, sc, rfl⟩ := h3.shape
    exact ⟨_, _, _, _, _, h1⟩
  · exact ⟨_, _, _, _, _, rfl⟩
theorem DFitA.ge {B : Nat} {w : World} {ng : Bool} {so : Option Addr} {sn sc : Nat} {e V er : Int} (h : DFitA B w V (.agg #[.bool ng, .slice so sn sc, .int .i64 e]) er) : Lies (.slice so sn sc) B w.heap.size := by
  intro g hg
  rcases h with ⟨_, _, ng', s, m, e', h1, _, h3⟩ | ⟨_, _, h1⟩
  · simp only [Value.agg.injEq, Array.mk.injEq, List.cons.injEq, Value.bool.injEq, Value.int.injEq, and_true, true_and] at h1
    obtain ⟨_, h1, _⟩ := h1
    rw [← h1] at h3
    exact h3.ge hg
  · simp only [zeroV, Value.agg.injEq, Array.mk.injEq, List.cons.injEq, Value.bool.injEq, Value.int.injEq, Value.slice.injEq, and_true, true_and] at h1
    obtain ⟨_, ⟨rfl, _, _⟩, _⟩ := h1
    simp [Value.ownBlock] at hg
theorem DAn.parts {B : Nat} {w : World} {ng : Bool} {so : Option Addr} {sn sc : Nat} {e V : Int} (h : DAn B w V (.agg #[.bool ng, .slice so sn sc, .int .i64 e])) : ∃ m, Dy V ng m e ∧ An B w (.slice so sn sc) m := by
  obtain ⟨ng', s, m, e', h1, h2, h3⟩ := h
  simp only [Value.agg.injEq, Array.mk.injEq, List.cons.injEq, Value.bool.injEq, Value.int.injEq, and_true, true_and] at h1
  obtain ⟨rfl, rfl, rfl⟩ := h1
  exact ⟨m, h2, h3⟩
theorem numblk_wr {g b : Nat} {w w' : World} (hw : Wr g w w') {cur xs : Array Value} {z z' : Nat × Nat} {t : TypeId} (hg : w.heap[g]? = some (.cells cur 3 z)) (ht : t ≠ 3) (hb : w.heap[b]? = some (.cells xs t z')) : w'.heap[b]? = some (.cells xs t z') := by
  refine (hw.block b (Array.getElem?_eq_some_iff.1 hb).1 fun e => ?_).trans hb
  subst e
  rw [hg] at hb
  simp at hb
  exact ht hb.2.1.symm
/-- The least exponent and the digits of a number that is told as valid. -/
theorem dok_lt {V : Int} {ng : Bool} {m e : Int} (hy : Dy V ng m e) (ok : Dok V) : m < P 2000 := (hy.ok.1 ok).1
end Go.Proofs.YtfgmhmkbilkfbaaGreatDoor

/-
  Package plumbref3: Sub, Cmp, by contracts.
-/
namespace Go.Proofs.YtfgmhmkbilkfbaaGreatDoor
open Go Go.RowKit Go.Proofs.YtfgmhmkbilkfbaaGreatDoor.M
set_option linter.unusedSimpArgs false
set_option linter.unusedVariables false

theorem opp_V {x : NumR} (ok : okR x = true) : x.opp.V = -x.V ∧ Dy x.opp.V x.opp.ng (val x.opp.d x.opp.n) x.opp.e := by
  have hy := (okR_dy ok).1
  have hN := (okR_sane ok).1
  by_cases h0 : x.n = 0
  · have hv : val x.d x.n = 0 := by rw [h0]; rfl
    have e : x.opp = x := by unfold NumR.opp; rw [if_pos h0]
    rw [e]
    have := hy.eq_zero.2 hv
    exact ⟨by omega, hy⟩
  · have hp := val_pos hN (show 0 < x.n by omega)
    have e : x.opp = ⟨!x.ng, x.ao, x.n, x.cap, x.d, x.e⟩ := by unfold NumR.opp; rw [if_neg h0]
    rw [e]
    have h1 := hy.neg hp
    have hV : NumR.V ⟨!x.ng, x.ao, x.n, x.cap, x.d, x.e⟩ = -x.V := h1.val.symm
    rw [hV]
    exact ⟨rfl, h1⟩
theorem RSum.shape {w w' : World} {A B : Int} {x y : NumR} {v : Value} (h : RSum w w' A B x.v y.v v) : ∃ ng so sn sc e, v = .agg #[.bool ng, .slice so sn sc, .int .i64 e] := by
  rcases h.2 with ⟨ng, s, m, e, rfl, _, hA⟩ | ⟨_, rfl⟩ | ⟨_, rfl⟩
  · obtain ⟨so, sn, sc, rfl⟩ := hA.num.shape
    exact ⟨_, _, _, _, _, rfl⟩
  · exact ⟨_, _, _, _, _, rfl⟩
  · exact ⟨_, _, _, _, _, rfl⟩
theorem rsum_res {w W w3 : World} {A B : Int} {x y v : Value} (hv : RSum W w3 A B x y v) (hb : Below w.heap.size w W) {g : Nat} (h0 : w.heap.size ≤ g) (h1 : g < W.heap.size) (a b c : Value) :
    RSum w (((w3.setCell ⟨g, 0, none⟩ a).setCell ⟨g, 1, none⟩ b).setCell ⟨g, 2, none⟩ c) A B x y v := by
  refine ⟨bel_set3 (bel_trans hb hv.1) h0 _ _ _, ?_⟩
  rcases hv.2 with h | h | h
  · exact .inl (dans_res3 h hb h0 h1 a b c)
  · exact .inr (.inl h)
  · exact .inr (.inr h)
set_option maxRecDepth 100000 in
set_option maxHeartbeats 2000000 in
theorem rsub3_any (x y : NumR) (w : World) (hx : Row w x.ao x.n x.cap x.d) (hy : Row w y.ao y.n y.cap y.d) (ox : okR x = true) (oy : okR y = true) {K : Nat} (hK : K ≤ 560000) (bx : Bd K x.V) (bY : Bd K y.V) :
    Calls Tryz.prog 26 #[x.v, y.v] w fun r w' => ∃ v, r = .returned v ∧ RSum w w' x.V (-y.V) x.v y.opp.v v := by
  obtain ⟨e1, e2⟩ := opp_V oy
  have hop := fun W => rneg3_any y W (by have := hy.le; have := hy.max; omega)
  have C2 : ∀ W, Below w.heap.size w W → Calls Tryz.prog 54 #[x.v, y.opp.v] W fun r w' => ∃ ng so sn sc e, r = .returned (.agg #[.bool ng, .slice so sn sc, .int .i64 e]) ∧ RSum W w' x.V (-y.V) x.v y.opp.v (.agg #[.bool ng, .slice so sn sc, .int .i64 e]) ∧ Below W.heap.size W w' := fun W hb => by
    refine (radd3_any x y.opp W (hx.keeps hb) (hy.keeps hb) (okR_dy ox).1 (okR_sane ox).1 e2 (okR_sane oy).1 hK bx (by rw [e1]; exact bY.neg)).mono ?_
    rintro r w' ⟨v, rfl, h⟩
    rw [e1] at h
    obtain ⟨ng, so, sn, sc, e, rfl⟩ := h.shape
    exact ⟨_, _, _, _, _, rfl, h, h.1⟩
  have hmy := hy.max
  have hly := hy.le
  obtain ⟨VV, hVV⟩ : ∃ V, V = x.V := ⟨_, rfl⟩
  obtain ⟨UU, hUU⟩ : ∃ V, V = -y.V := ⟨_, rfl⟩
  rw [← hVV, ← hUU] at C2 ⊢
  clear e1 e2 bx bY hVV hUU ox oy
  unfold NumR.opp at *
  obtain ⟨on, hon⟩ : ∃ V, V = (if y.n = 0 then y.ng else !y.ng) := ⟨_, rfl⟩
  rw [← hon] at hop C2 ⊢
  clear hon
  obtain ⟨an, ao, n, ca, a, e⟩ := x
  obtain ⟨bn, bo, m, cb, b, f⟩ := y
  unfold NumR.v at *
  simp only at *
  have hb3 : Below w.heap.size w (((w.alloc (.cells #[.bool an, .slice ao n ca, .int .i64 e] 27)).alloc (.cells #[.bool bn, .slice bo m cb, .int .i64 f] 27)).alloc (.cells #[.bool false, .slice none 0 0, .int .i64 0] 27)) := bel_a3 _ _ _ _
  have g0 := h3_0 w (.cells #[.bool an, .slice ao n ca, .int .i64 e] 27) (.cells #[.bool bn, .slice bo m cb, .int .i64 f] 27) (.cells #[.bool false, .slice none 0 0, .int .i64 0] 27)
  have g1 := h3_1 w (.cells #[.bool an, .slice ao n ca, .int .i64 e] 27) (.cells #[.bool bn, .slice bo m cb, .int .i64 f] 27) (.cells #[.bool false, .slice none 0 0, .int .i64 0] 27)
  have g2 := h3_2 w (.cells #[.bool an, .slice ao n ca, .int .i64 e] 27) (.cells #[.bool bn, .slice bo m cb, .int .i64 f] 27) (.cells #[.bool false, .slice none 0 0, .int .i64 0] 27)
  go_enter Tryz.func26, Tryz.ntmps26
  go_wp2_with fail
  generalize ((w.alloc (.cells #[.bool an, .slice ao n ca, .int .i64 e] 27)).alloc (.cells #[.bool bn, .slice bo m cb, .int .i64 f] 27)).alloc (.cells #[.bool false, .slice none 0 0, .int .i64 0] 27) = wx at hb3 g0 g1 g2 ⊢
  have k0 := blkC g0 0 rfl
  have k1 := blkC g0 1 rfl
  have k2 := blkC g0 2 rfl
  have j0 := blkC g1 0 rfl
  have j1 := blkC g1 1 rfl
  have j2 := blkC g1 2 rfl
  have hb1 := bel_refl wx
  have hs3 := (Array.getElem?_eq_some_iff.1 g2).1
  go_region_held3 (fun W => (W.cell? ⟨w.heap.size, 0, none⟩ = some (.bool an) ∧ W.cell? ⟨w.heap.size, 1, none⟩ = some (.slice ao n ca) ∧ W.cell? ⟨w.heap.size, 2, none⟩ = some (.int .i64 e)) ∧ W.cell? ⟨w.heap.size + 1, 0, none⟩ = some (.bool bn) ∧ W.cell? ⟨w.heap.size + 1, 1, none⟩ = some (.slice bo m cb) ∧ W.cell? ⟨w.heap.size + 1, 2, none⟩ = some (.int .i64 f))
    (first | assumption | exact ⟨⟨k0, k1, k2⟩, j0, j1, j2⟩ | exact keep66 (W := wx.drew) hbv1 ⟨⟨k0, k1, k2⟩, j0, j1, j2⟩ | exact keep66 hbv2 (keep66 (W := wx.drew) hbv1 ⟨⟨k0, k1, k2⟩, j0, j1, j2⟩) | exact ⟨keepS (keep66 hbv2 (keep66 (W := wx.drew) hbv1 ⟨⟨k0, k1, k2⟩, j0, j1, j2⟩)).1 (by omega) _ _ _, keepS (keep66 hbv2 (keep66 (W := wx.drew) hbv1 ⟨⟨k0, k1, k2⟩, j0, j1, j2⟩)).2 (by omega) _ _ _⟩)
    (first | (go_at_call 54; refine (C2 _ (bel_trans hb3 (bel_trans hb1.drew hbv1))).mono ?_; rintro y w4 ⟨ng4, o4, n4, c4, e4, rfl, hv2, hbv2⟩; have q0 := ((bel_trans hbv1 hbv2).block (w.heap.size + 2) (by show _ < wx.heap.size; omega)).trans g2; have x0 := blkC q0 0 rfl; have x1 := blkC q0 1 rfl; have x2 := blkC q0 2 rfl; have z0 := blkF q0 0; have z1 := blkF q0 1; have z2 := blkF q0 2) | (go_at_call 55; refine (hop _).mono ?_; rintro y w3 ⟨rfl, hbv1⟩))
  all_goals go_wp2
  all_goals
    refine bodyPost_ret (v := .agg #[.bool ng4, .slice o4 n4 c4, .int .i64 e4]) (by simp [results, Tryz.results26, go_sem, x0, x1, x2]) rfl ⟨_, rfl, ?_⟩
    exact rsum_res (g := w.heap.size + 2) hv2 (bel_trans hb3 (bel_trans hb1.drew hbv1)) (by omega) (Nat.lt_of_lt_of_le (show _ < wx.heap.size by omega) hbv1.size) _ _ _
theorem sgn_ord {w : World} {ng : Bool} {so : Option Addr} {sn sc : Nat} {e V : Int} (h : DNum w (.agg #[.bool ng, .slice so sn sc, .int .i64 e]) V) : sgn ng sn = ord V 0 ∧ sn ≤ 9223372036854775807 := by
  obtain ⟨ng', s, m, e', h1, hy, ao, n, cap, d, rfl, hR, hN, rfl⟩ := h
  simp only [Value.agg.injEq, Array.mk.injEq, List.cons.injEq, Value.bool.injEq, Value.int.injEq, Value.slice.injEq, and_true, true_and] at h1
  obtain ⟨rfl, ⟨rfl, rfl, rfl⟩, rfl⟩ := h1
  refine ⟨?_, by have := hR.le; have := hR.max; omega⟩
  by_cases h0 : sn = 0
  · have := hy.eq_zero.2 (by rw [h0]; rfl)
    rw [this, ord_eq rfl]
    simp [sgn, h0]
  · have hp := val_pos hN (show 0 < sn by omega)
    cases ng
    · have hn : ¬ V < 0 := fun h => by have := hy.neg_iff.2 h; simp at this
      have hz : V ≠ 0 := fun h => by have := hy.eq_zero.1 h; omega
      rw [ord_gt (by omega)]
      simp [sgn, h0]
    · have hn := hy.neg_iff.1 rfl
      rw [ord_lt hn]
      simp [sgn, h0]
end Go.Proofs.YtfgmhmkbilkfbaaGreatDoor

/-
  Package dyadic: products, Dot, by contracts.
-/
namespace Go.Proofs.YtfgmhmkbilkfbaaGreatDoor
open Go Go.RowKit Go.Proofs.YtfgmhmkbilkfbaaGreatDoor.M
set_option linter.unusedSimpArgs false
set_option linter.unusedVariables false

/-- A block of N numbers that is the call's own; the first k are those of q. -/
def BlkN (w : World) (g N k : Nat) (q : Nat → NumR) : Prop :=
  ∃ cur : Array Value, w.heap[g]? = some (.cells cur 27 (0, 0)) ∧ cur.size = N * 3 ∧ ∀ i, i < k → (cur[i * 3]? = some (.bool (q i).ng) ∧ cur[i * 3 + 1]? = some (.slice (q i).ao (q i).n (q i).cap) ∧ cur[i * 3 + 2]? = some (.int .i64 (q i).e)) ∧ Row w (q i).ao (q i).n (q i).cap (q i).d
theorem info_num : ∃ i, Tryz.prog.info? 27 = some i ∧ i.zero = some (.agg #[.bool false, .slice none 0 0, .int .i64 0]) ∧ i.size = 3 ∧ i.bytes = 40 := by
  have h : (Tryz.prog.info? 27).map (fun i => (i.zero, i.size, i.bytes)) = some (some (.agg #[.bool false, .slice none 0 0, .int .i64 0]), 3, 40) := by kernel_rfl
  obtain ⟨i, hi, hzz⟩ := Option.map_eq_some_iff.1 h
  simp only [Prod.mk.injEq] at hzz
  exact ⟨i, hi, hzz⟩
theorem make_nums (n : Nat) (hn : n ≤ 100000) (w : World) :
    (Instr.makeSlice 99 (.int .i64 (n : Int)) (.int .i64 (n : Int))).run Tryz.prog w = .ok (.slice (some ⟨w.heap.size, 0, none⟩) n n) (w.alloc (.cells (madeCells #[.bool false, .slice none 0 0, .int .i64 0] (n * 3)) 27)) := by
  obtain ⟨i, hi, hz, hs, hb⟩ := info_num
  have := run_make (P := Tryz.prog) w 99 27 i _ Tryz.underlying99 hi hz .i64 .i64 n n (by omega) (Int.le_refl _) (by rw [hb]; omega) (by omega)
  simp only [Int.toNat_natCast, hs] at this
  exact this
def updN (q : Nat → NumR) (k : Nat) (x : NumR) : Nat → NumR := fun j => if j = k then x else q j
theorem updN_same (q : Nat → NumR) (k : Nat) (x : NumR) : updN q k x k = x := by simp [updN]
theorem updN_other (q : Nat → NumR) {k j : Nat} (x : NumR) (h : j ≠ k) : updN q k x j = q j := by simp [updN, h]
theorem keep3W {W w' : World} {b g o0 o1 o2 : Nat} {x y z : Value} (h : W.cell? ⟨b, o0, none⟩ = some x ∧ W.cell? ⟨b, o1, none⟩ = some y ∧ W.cell? ⟨b, o2, none⟩ = some z) (hw : Wr g W w') (hg : b ≠ g) :
    w'.cell? ⟨b, o0, none⟩ = some x ∧ w'.cell? ⟨b, o1, none⟩ = some y ∧ w'.cell? ⟨b, o2, none⟩ = some z :=
  ⟨(hw.cell (World.block_lt_of_cell? W _ h.1) hg).trans h.1, (hw.cell (World.block_lt_of_cell? W _ h.2.1) hg).trans h.2.1, (hw.cell (World.block_lt_of_cell? W _ h.2.2) hg).trans h.2.2⟩
theorem keep3B {W w' : World} {b o0 o1 o2 : Nat} {x y z : Value} (h : W.cell? ⟨b, o0, none⟩ = some x ∧ W.cell? ⟨b, o1, none⟩ = some y ∧ W.cell? ⟨b, o2, none⟩ = some z) (hb : Below W.heap.size W w') :
    w'.cell? ⟨b, o0, none⟩ = some x ∧ w'.cell? ⟨b, o1, none⟩ = some y ∧ w'.cell? ⟨b, o2, none⟩ = some z := ⟨cell_keeps h.1 hb, cell_keeps h.2.1 hb, cell_keeps h.2.2 hb⟩
theorem wr3 (W : World) (g o0 o1 o2 : Nat) (x y z : Value) : Wr g W (((W.setCell ⟨g, o0, none⟩ x).setCell ⟨g, o1, none⟩ y).setCell ⟨g, o2, none⟩ z) := (((Wr.refl g W).setCell o0 x).setCell o1 y).setCell o2 z
theorem Row.wrN {w w' : World} {g : Nat} {ao : Option Addr} {n cap : Nat} {d : Nat → Int} (h : Row w ao n cap d) (hw : Wr g w w') {cur : Array Value} {z : Nat × Nat} (hg : w.heap[g]? = some (.cells cur 27 z)) (ht : ∀ b off, ao = some ⟨b, off, none⟩ → 0 < n → b ≠ g) : Row w' ao n cap d :=
  ⟨h.le, h.max, h.nl, fun hn => by
    obtain ⟨b, off, rfl, hlt, hc⟩ := h.spot hn
    exact ⟨b, off, rfl, Nat.lt_of_lt_of_le hlt hw.size, fun i hi => (hw.cell (p := ⟨b, off + i, none⟩) hlt (ht b off rfl hn)).trans (hc i hi)⟩⟩
theorem Ans.open {w w' : World} {V : Int} {so : Option Addr} {sn sc : Nat} (h : Ans w w' V (.slice so sn sc)) : ∃ d, Row w' so sn sc d ∧ Nrm d sn ∧ val d sn = V ∧ ∀ b off, so = some ⟨b, off, none⟩ → w.heap.size ≤ b := by
  obtain ⟨t, d, hO, hN, hV, _⟩ := h
  have hge := own_ge hO
  obtain ⟨so', sc', e, hR⟩ := hO.row
  simp only [Value.slice.injEq] at e
  obtain ⟨rfl, rfl, rfl⟩ := e
  exact ⟨d, hR, hN, hV, fun b off hb => hge b (by rw [hb]; rfl)⟩
theorem bel_set3' {w0 w : World} {g o0 o1 o2 : Nat} (h : Below w0.heap.size w0 w) (hg : w0.heap.size ≤ g) (x y z : Value) : Below w0.heap.size w0 (((w.setCell ⟨g, o0, none⟩ x).setCell ⟨g, o1, none⟩ y).setCell ⟨g, o2, none⟩ z) := ((h.setCell (p := ⟨g, o0, none⟩) hg x).setCell (p := ⟨g, o1, none⟩) hg y).setCell (p := ⟨g, o2, none⟩) hg z
theorem set3_get {cur : Array Value} {k : Nat} {x y z : Value} (h : k * 3 + 2 < cur.size) (i : Nat) :
    let c := ((cur.setIfInBounds (k * 3) x).setIfInBounds (k * 3 + 1) y).setIfInBounds (k * 3 + 2) z
    (i = k → c[i * 3]? = some x ∧ c[i * 3 + 1]? = some y ∧ c[i * 3 + 2]? = some z) ∧ (i ≠ k → c[i * 3]? = cur[i * 3]? ∧ c[i * 3 + 1]? = cur[i * 3 + 1]? ∧ c[i * 3 + 2]? = cur[i * 3 + 2]?) := by
  intro c
  refine ⟨fun e => ?_, fun e => ?_⟩
  · subst e
    refine ⟨?_, ?_, ?_⟩
    · show (((cur.setIfInBounds (i * 3) x).setIfInBounds (i * 3 + 1) y).setIfInBounds (i * 3 + 2) z)[i * 3]? = some x
      rw [Array.getElem?_setIfInBounds_ne (by omega), Array.getElem?_setIfInBounds_ne (by omega), Array.getElem?_setIfInBounds_self_of_lt (by omega)]
    · show (((cur.setIfInBounds (i * 3) x).setIfInBounds (i * 3 + 1) y).setIfInBounds (i * 3 + 2) z)[i * 3 + 1]? = some y
      rw [Array.getElem?_setIfInBounds_ne (by omega), Array.getElem?_setIfInBounds_self_of_lt (by simp; omega)]
    · show (((cur.setIfInBounds (i * 3) x).setIfInBounds (i * 3 + 1) y).setIfInBounds (i * 3 + 2) z)[i * 3 + 2]? = some z
      rw [Array.getElem?_setIfInBounds_self_of_lt (by simp; omega)]
  · refine ⟨?_, ?_, ?_⟩
    all_goals
      show (((cur.setIfInBounds (k * 3) x).setIfInBounds (k * 3 + 1) y).setIfInBounds (k * 3 + 2) z)[_]? = _
      rw [Array.getElem?_setIfInBounds_ne (by omega), Array.getElem?_setIfInBounds_ne (by omega), Array.getElem?_setIfInBounds_ne (by omega)]
theorem BlkN.step {wr w3 : World} {g N k : Nat} {q : Nat → NumR} (h : BlkN wr g N k q) (hb : Below wr.heap.size wr w3) (x : NumR) (hx : Row w3 x.ao x.n x.cap x.d) (hk : k < N) (hg : ∀ i b' off, i < k → (q i).ao = some ⟨b', off, none⟩ → 0 < (q i).n → g < b') (hg2 : ∀ b' off, x.ao = some ⟨b', off, none⟩ → 0 < x.n → g < b') :
    BlkN (((w3.setCell ⟨g, k * 3, none⟩ (.bool x.ng)).setCell ⟨g, k * 3 + 1, none⟩ (.slice x.ao x.n x.cap)).setCell ⟨g, k * 3 + 2, none⟩ (.int .i64 x.e)) g N (k + 1) (updN q k x) := by
  obtain ⟨cur, hcur, hsz, hc⟩ := h
  have q0 := (hb.block g (Array.getElem?_eq_some_iff.1 hcur).1).trans hcur
  have q1 := heap_set (heap_set (heap_set q0 (k * 3) (.bool x.ng)) (k * 3 + 1) (.slice x.ao x.n x.cap)) (k * 3 + 2) (.int .i64 x.e)
  have hw := wr3 w3 g (k * 3) (k * 3 + 1) (k * 3 + 2) (.bool x.ng) (.slice x.ao x.n x.cap) (.int .i64 x.e)
  refine ⟨_, q1, by simp [hsz], fun i hi => ?_⟩
  have hs := set3_get (cur := cur) (k := k) (x := .bool x.ng) (y := .slice x.ao x.n x.cap) (z := .int .i64 x.e) (by omega) i
  by_cases e : i = k
  · subst e
    rw [updN_same]
    exact ⟨hs.1 rfl, hx.wrN hw q0 fun b' off he hn => by have := hg2 b' off he hn; omega⟩
  · rw [updN_other q x e]
    obtain ⟨s0, s1, s2⟩ := hs.2 e
    obtain ⟨⟨c0, c1, c2⟩, hR⟩ := hc i (by omega)
    refine ⟨⟨s0.trans c0, s1.trans c1, s2.trans c2⟩, (hR.keeps hb).wrN hw q0 fun b' off he hn => ?_⟩
    have := hg i b' off (by omega) he hn
    omega
theorem BlkN.nums {w : World} {g N : Nat} {q : Nat → NumR} (h : BlkN w g N N q) (hN : N ≤ 100000) : Nums w (some ⟨g, 0, none⟩) N N q := by
  obtain ⟨cur, hcur, hsz, hc⟩ := h
  refine ⟨Nat.le_refl _, by omega, fun _ => ⟨g, 0, rfl, (Array.getElem?_eq_some_iff.1 hcur).1, fun i hi => ?_⟩⟩
  obtain ⟨⟨c0, c1, c2⟩, hR⟩ := hc i hi
  rw [Nat.zero_add]
  exact ⟨blkC hcur _ c0, blkC hcur _ c1, blkC hcur _ c2, hR⟩
set_option maxRecDepth 100000 in
set_option maxHeartbeats 2000000 in
theorem products_any (ao bo : Option Addr) (n ca cb : Nat) (a b : Nat → NumR) (w : World) (ha : Nums w ao n ca a) (hb : Nums w bo n cb b) (hn : n ≤ 100000) (sa : ∀ i, i < n → Sane (a i)) (sb : ∀ i, i < n → Sane (b i)) :
    Calls Tryz.prog 167 #[.slice ao n ca, .slice bo n cb] w fun x w' => ∃ g q, x = .returned (.slice (some ⟨g, 0, none⟩) n n) ∧ w.heap.size ≤ g ∧ Nums w' (some ⟨g, 0, none⟩) n n q ∧ Below w.heap.size w w' ∧ ∀ i, i < n → Nrm (q i).d (q i).n ∧ (q i).ng = ((a i).ng != (b i).ng) ∧ val (q i).d (q i).n = val (a i).d (a i).n * val (b i).d (b i).n ∧ (q i).e = (a i).e + (b i).e := by
  have hla := ha.le
  have hma := ha.max
  have hlb := hb.le
  have hmb := hb.max
  have hmake := make_nums n hn
  go_enter Tryz.func167, Tryz.ntmps167
  go_wp2_with fail
  have hb0 := bel_alloc w (.cells (madeCells #[.bool false, .slice none 0 0, .int .i64 0] (n * 3)) 27)
  have g0 := heap_a1 w (.cells (madeCells #[.bool false, .slice none 0 0, .int .i64 0] (n * 3)) 27)
  have HB0 : Hid (BlkN (w.alloc (.cells (madeCells #[.bool false, .slice none 0 0, .int .i64 0] (n * 3)) 27)) w.heap.size n 0 a) := ⟨_, g0, by rw [size_madeCells], fun i hi => by omega⟩
  clear g0 hmake
  generalize w.alloc (.cells (madeCells #[.bool false, .slice none 0 0, .int .i64 0] (n * 3)) 27) = wx at hb0 HB0 ⊢
  go_loopw [12] (fun iv wr => ∃ (k : Nat) (q : Nat → NumR), k ≤ n ∧ iv = .int .i64 k ∧ Hid (BlkN wr w.heap.size n k q) ∧ Hid (∀ i, i < k → Nrm (q i).d (q i).n ∧ (q i).ng = ((a i).ng != (b i).ng) ∧ val (q i).d (q i).n = val (a i).d (a i).n * val (b i).d (b i).n ∧ (q i).e = (a i).e + (b i).e) ∧ Hid (∀ i b' off, i < k → (q i).ao = some ⟨b', off, none⟩ → 0 < (q i).n → w.heap.size < b') ∧ Below w.heap.size w wr) (fun iv _ => n - (intOf iv).toNat)
  case atStart => exact ⟨0, a, Nat.zero_le _, rfl, HB0, fun i hi => by omega, fun i b' off hi => by omega, hb0⟩
  case round =>
    obtain ⟨k, q, hk, rfl, HQ, HF, HG, hbw⟩ := hrel
    clear HB0 hb0
    by_cases hlt : k < n
    · obtain ⟨ba, oa, rfl, hba, hca⟩ := ha.spot (by omega)
      obtain ⟨bb, ob, rfl, hbb, hcb⟩ := hb.spot (by omega)
      obtain ⟨c0, c1, c2, ra⟩ := (hca k hlt).keeps hbw hba
      obtain ⟨d0, d1, d2, rb⟩ := (hcb k hlt).keeps hbw hbb
      have CP := fun W (h : Below wr.heap.size wr W) => dproduct_any (a k) (b k) W (ra.keeps h) (rb.keeps h) (sa k hlt) (sb k hlt)
      have hea : Hid (-1100000 ≤ (a k).e ∧ (a k).e ≤ 1100000) := (sa k hlt).2.2
      have heb : Hid (-1100000 ≤ (b k).e ∧ (b k).e ≤ 1100000) := (sb k hlt).2.2
      have HAK : Hid (∀ x, a k = x → a k = x) := fun _ h => h
      clear hca hcb ra rb
      obtain ⟨xa, hxa⟩ : ∃ x, a k = x := ⟨_, rfl⟩
      obtain ⟨xb, hxb⟩ : ∃ x, b k = x := ⟨_, rfl⟩
      rw [hxa] at c0 c1 c2 CP hea
      rw [hxb] at d0 d1 d2 CP heb
      have HXA : Hid (a k = xa) := hxa
      have HXB : Hid (b k = xb) := hxb
      clear hxa hxb HAK
      unfold NumR.v at CP
      obtain ⟨ag, aao, an, aca, ad, ae⟩ := xa
      obtain ⟨bg, bao, bn, bca, bd, be⟩ := xb
      simp only at c0 c1 c2 d0 d1 d2 CP hea heb
      obtain ⟨cur, hcur, hsz, hcells⟩ := HQ.out
      have HCL : Hid _ := hcells
      have e0 : k * 3 < cur.size := by omega
      have e1 : k * 3 + 1 < cur.size := by omega
      have e2 : k * 3 + 2 < cur.size := by omega
      obtain ⟨v0, hv0⟩ : ∃ v, cur[k * 3]? = some v := ⟨_, Array.getElem?_eq_getElem e0⟩
      obtain ⟨v1, hv1⟩ : ∃ v, cur[k * 3 + 1]? = some v := ⟨_, Array.getElem?_eq_getElem e1⟩
      obtain ⟨v2, hv2⟩ : ∃ v, cur[k * 3 + 2]? = some v := ⟨_, Array.getElem?_eq_getElem e2⟩
      have HV : Hid (cur[k * 3]? = some v0 ∧ cur[k * 3 + 1]? = some v1 ∧ cur[k * 3 + 2]? = some v2) := ⟨hv0, hv1, hv2⟩
      have HSZ : Hid (cur.size = n * 3) := hsz
      have HCUR : Hid (wr.heap[w.heap.size]? = some (.cells cur 27 (0, 0))) := hcur
      have hgs : w.heap.size < wr.heap.size := (Array.getElem?_eq_some_iff.1 hcur).1
      clear hcells hv0 hv1 hv2 hcur hsz e0 e1 e2
      have i0 : (0 : Int) ≤ (k : Int) := by omega
      have i1 : (k : Int) < (n : Int) := by omega
      have kc0 : (wr.drew.cell? ⟨ba, oa + k * 3, none⟩ = some (.bool ag) ∧ wr.drew.cell? ⟨ba, oa + k * 3 + 1, none⟩ = some (.slice aao an aca) ∧ wr.drew.cell? ⟨ba, oa + k * 3 + 2, none⟩ = some (.int .i64 ae)) ∧ wr.drew.cell? ⟨bb, ob + k * 3, none⟩ = some (.bool bg) ∧ wr.drew.cell? ⟨bb, ob + k * 3 + 1, none⟩ = some (.slice bao bn bca) ∧ wr.drew.cell? ⟨bb, ob + k * 3 + 2, none⟩ = some (.int .i64 be) := ⟨⟨c0, c1, c2⟩, d0, d1, d2⟩
      have hb1 := bel_refl wr
      go_wp2_with fail
      go_region_held3 (fun W => (W.cell? ⟨ba, oa + k * 3, none⟩ = some (.bool ag) ∧ W.cell? ⟨ba, oa + k * 3 + 1, none⟩ = some (.slice aao an aca) ∧ W.cell? ⟨ba, oa + k * 3 + 2, none⟩ = some (.int .i64 ae)) ∧ W.cell? ⟨bb, ob + k * 3, none⟩ = some (.bool bg) ∧ W.cell? ⟨bb, ob + k * 3 + 1, none⟩ = some (.slice bao bn bca) ∧ W.cell? ⟨bb, ob + k * 3 + 2, none⟩ = some (.int .i64 be))
        (first | assumption | exact ⟨keep3W kc1.1 (wr3 _ _ _ _ _ _ _ _) (by omega), keep3W kc1.2 (wr3 _ _ _ _ _ _ _ _) (by omega)⟩)
        ((go_at_call 47; refine (CP _ hb1.drew).mono ?_; rintro y w3 ⟨s, rfl, hA⟩; have hbv1 := hA.below; have kc1 := And.intro (keep3B kc0.1 hbv1) (keep3B kc0.2 hbv1); obtain ⟨so, sn, sc, rfl⟩ := hA.num.shape; have q0 := (hbv1.block w.heap.size hgs).trans HCUR.out; have x0 := blkC q0 (k * 3) HV.out.1; have x1 := blkC q0 (k * 3 + 1) HV.out.2.1; have x2 := blkC q0 (k * 3 + 2) HV.out.2.2; have z0 := blkF q0 (k * 3); have z1 := blkF q0 (k * 3 + 1); have z2 := blkF q0 (k * 3 + 2)))
      all_goals go_wp2
      all_goals
        go_roundw
        case rel =>
          obtain ⟨dd, hRd, hNd, hVd, hgd⟩ := hA.open
          have hgs2 : ∀ b' off, so = some ⟨b', off, none⟩ → 0 < sn → w.heap.size < b' := fun b' off he _ => by
            have h9 := hgd b' off he
            have h8 : w.heap.size < wr.drew.heap.size := hgs
            omega
          refine ⟨k + 1, updN q k ⟨ag != bg, so, sn, sc, dd, ae + be⟩, by omega, by go_num, BlkN.step (x := ⟨ag != bg, so, sn, sc, dd, ae + be⟩) HQ.out (bel_trans hb1.drew hbv1) hRd hlt HG.out hgs2, fun i hi => ?_, fun i b' off hi he hn' => ?_, bel_set3' (bel_trans hbw (bel_trans hb1.drew hbv1)) (Nat.le_refl _) _ _ _⟩
          · by_cases e : i = k
            · subst e
              rw [updN_same, HXA.out, HXB.out]
              exact ⟨hNd, rfl, hVd, rfl⟩
            · rw [updN_other _ _ e]
              exact HF.out i (by omega)
          · by_cases e : i = k
            · subst e
              rw [updN_same] at he hn'
              exact hgs2 b' off he hn'
            · rw [updN_other _ _ e] at he hn'
              exact HG.out i b' off (by omega) he hn'
        case measure => simp [intOf]; omega
    · obtain rfl : k = n := by omega
      go_wp2
      go_ret
      exact ⟨_, q, rfl, Nat.le_refl _, HQ.out.nums hn, hbw, HF.out⟩
/-- The sum of the products. -/
def dotV (a b : Nat → NumR) : Nat → Int | 0 => 0 | k + 1 => dotV a b k + mulV (a k) (b k)
theorem sumV_dot {a b q : Nat → NumR} : ∀ n, (∀ i, i < n → (q i).ng = ((a i).ng != (b i).ng) ∧ val (q i).d (q i).n = val (a i).d (a i).n * val (b i).d (b i).n ∧ (q i).e = (a i).e + (b i).e) → sumV q n = dotV a b n
  | 0, _ => rfl
  | k + 1, h => by
    obtain ⟨h1, h2, h3⟩ := h k (by omega)
    show sumV q k + sg (q k).ng (val (q k).d (q k).n) * pw (q k).e = dotV a b k + sg ((a k).ng != (b k).ng) (val (a k).d (a k).n * val (b k).d (b k).n) * pw ((a k).e + (b k).e)
    rw [sumV_dot k fun i hi => h i (by omega), h1, h2, h3]
/-- Numbers whose products can be summed. -/
def Half (x : NumR) : Prop := -500000 ≤ x.e ∧ x.e ≤ 500000
theorem prod_sane {x y q : NumR} (ox : okR x = true) (oy : okR y = true) (hx : Half x) (hy : Half y) (h0 : Nrm q.d q.n) (h2 : val q.d q.n = val x.d x.n * val y.d y.n) (h3 : q.e = x.e + y.e) : Sane q := by
  refine ⟨h0, ?_, ?_, ?_⟩
  · have a := (okR_dy ox).2.1
    have b := (okR_dy oy).2.1
    have a0 := val_nonneg (okR_sane ox).1.1
    have b0 := val_nonneg (okR_sane oy).1.1
    by_cases hq : q.n ≤ 5000
    · exact hq
    · exfalso
      have c := val_top h0.1 (by omega) h0.2
      have d := P_le (show 4000 ≤ q.n - 1 by omega)
      have e : val x.d x.n * val y.d y.n < P 2000 * P 2000 := by
        by_cases hz : val x.d x.n = 0
        · rw [hz, Int.zero_mul]; exact Int.mul_pos (P_pos _) (P_pos _)
        · exact Int.lt_of_lt_of_le (Int.mul_lt_mul_of_pos_left b (by omega)) (Int.mul_le_mul_of_nonneg_right (by omega) (Int.le_of_lt (P_pos _)))
      have f : P 2000 * P 2000 = P 4000 := by rw [P_two 2000, P_two 4000, ← Int.pow_add, show 30 * 2000 + 30 * 2000 = 30 * 4000 from rfl]
      rw [f] at e
      rw [h2] at c
      generalize P 4000 = Y at *
      omega
  · unfold Half at *; omega
  · unfold Half at *; omega
set_option maxRecDepth 100000 in
set_option maxHeartbeats 2000000 in
theorem dot1_any (ao bo : Option Addr) (n ca cb : Nat) (a b : Nat → NumR) (p p2 : Addr) (w : World) (c : w.cell? p = some (.slice ao n ca)) (c2 : w.cell? p2 = some (.slice bo n cb)) (ha : Nums w ao n ca a) (hb : Nums w bo n cb b) (oa : ∀ i, i < n → okR (a i) = true) (ob : ∀ i, i < n → okR (b i) = true) (la : ∀ i, i < n → Half (a i)) (lb : ∀ i, i < n → Half (b i)) (hn : n ≤ 100000) (hT : Tab w) :
    Calls Tryz.prog 166 #[.pointer (some p), .pointer (some p2)] w (DOut w (dotV a b n)) := by
  have hbe := bel_alloc w (.cells #[.bool false, .slice none 0 0, .int .i64 0] 27)
  have k0 := cell_keeps c hbe
  have k1 := cell_keeps c2 hbe
  have g0 := heap_a1 w (.cells #[.bool false, .slice none 0 0, .int .i64 0] 27)
  have CP := products_any ao bo n ca cb a b _ (ha.keeps hbe) (hb.keeps hbe) hn (fun i hi => okR_sane (oa i hi)) (fun i hi => okR_sane (ob i hi))
  have hTx := hT.keeps hbe
  have HSUM : Hid (∀ W g q, Nums W (some ⟨g, 0, none⟩) n n q → (∀ i, i < n → Nrm (q i).d (q i).n ∧ (q i).ng = ((a i).ng != (b i).ng) ∧ val (q i).d (q i).n = val (a i).d (a i).n * val (b i).d (b i).n ∧ (q i).e = (a i).e + (b i).e) → Tab W → Calls Tryz.prog 50 #[.slice (some ⟨g, 0, none⟩) n n] W (DOut W (dotV a b n))) := fun W g q hN hF hTW => by
    have := total_any (some ⟨g, 0, none⟩) n n q W hN (fun i hi => prod_sane (oa i hi) (ob i hi) (la i hi) (lb i hi) (hF i hi).1 (hF i hi).2.2.1 (hF i hi).2.2.2) hn hTW
    rwa [sumV_dot n fun i hi => (hF i hi).2] at this
  generalize dotV a b n = V at HSUM ⊢
  clear oa ob la lb ha hb
  go_enter Tryz.func166, Tryz.ntmps166
  go_wp2_with fail
  generalize w.alloc (.cells #[.bool false, .slice none 0 0, .int .i64 0] 27) = wx at *
  refine CP.mono ?_
  rintro x w1 ⟨g, q, rfl, hg, hN, hb1, hF⟩
  have HF : Hid _ := hF
  clear hF
  go_wp2_with fail
  refine (HSUM.out _ _ _ hN HF.out (hTx.keeps hb1)).mono ?_
  rintro x w7 (⟨hok, v, rfl, hD⟩ | ⟨hno, rfl, hb7⟩)
  · have hb7 := hD.below
    obtain ⟨ng', s', m', e', rfl, hyy, hA2⟩ := id hD
    obtain ⟨so', sn', sc', rfl⟩ := hA2.num.shape
    have hlt := (Array.getElem?_eq_some_iff.1 g0).1
    have q0 := ((bel_trans hb1 hb7).block w.heap.size hlt).trans g0
    have x0 := blkC q0 0 rfl
    have x1 := blkC q0 1 rfl
    have x2 := blkC q0 2 rfl
    have z0 := blkF q0 0
    have z1 := blkF q0 1
    have z2 := blkF q0 2
    go_wp2
    refine bodyPost_ret (v := .agg #[.bool ng', .slice so' sn' sc', .int .i64 e']) (by simp [results, Tryz.results166, go_sem, x0, x1, x2]) rfl ?_
    exact .inl ⟨hok, _, rfl, dans_res3 (g := w.heap.size) hD (bel_trans hbe hb1) (Nat.le_refl _) (Nat.lt_of_lt_of_le hlt hb1.size) _ _ _⟩
  · exact ⟨rfl, .inr ⟨hno, rfl, bel_trans (bel_trans hbe hb1) hb7⟩⟩
set_option maxRecDepth 100000 in
set_option maxHeartbeats 2000000 in
theorem ddot_arg (ao bo : Option Addr) (n m ca cb : Nat) (w : World) (hn : n ≤ 9223372036854775807) (hm : m ≤ 9223372036854775807) (h : n ≠ m) :
    Calls Tryz.prog 149 #[.slice ao n ca, .slice bo m cb] w fun x w' => x = .returned (.tuple #[zeroV, .int .i64 1]) ∧ Below w.heap.size w w' := by
  have hmf : ∀ (fn : Fn) (first cap : Array Value) (w : World), (Instr.makeFunc fn first cap).run Tryz.prog w = .ok (.func fn first cap) w := fun _ _ _ _ => rfl
  have hne : ((n : Int) != (m : Int)) = true := by simp; omega
  have hne2 : ((n : Int) == (m : Int)) = false := by simp; omega
  go_enter Tryz.func149, Tryz.ntmps149
  go_wp2
  refine bodyPost_ret (v := .tuple #[zeroV, .int .i64 1]) (by simp [results, Tryz.results149, go_sem, zeroV]) rfl ⟨rfl, ?_⟩
  exact bel_a3 _ _ _ _
set_option maxRecDepth 100000 in
set_option maxHeartbeats 2000000 in
theorem ddot_bad (ao bo : Option Addr) (n ca cb : Nat) (a b : Nat → NumR) (w : World) (ha : Nums w ao n ca a) (hb : Nums w bo n cb b) (ok : (allOk a n && allOk b n) = false) :
    Calls Tryz.prog 149 #[.slice ao n ca, .slice bo n cb] w fun x w' => x = .returned (.tuple #[zeroV, .int .i64 11]) ∧ Below w.heap.size w w' := by
  have hmf : ∀ (fn : Fn) (first cap : Array Value) (w : World), (Instr.makeFunc fn first cap).run Tryz.prog w = .ok (.func fn first cap) w := fun _ _ _ _ => rfl
  have hla := ha.le
  have hma := ha.max
  have hlb := hb.le
  have hmb := hb.max
  have CA := fun W (h : Below w.heap.size w W) => dvalids_any ao n ca a W (ha.keeps h)
  have CB := fun W (h : Below w.heap.size w W) => dvalids_any bo n cb b W (hb.keeps h)
  have hb3 := bel_a3 w (.cells #[.slice ao n ca] 99) (.cells #[.slice bo n cb] 99) (.cells #[.bool false, .slice none 0 0, .int .i64 0] 27)
  have g0 := h3_0 w (.cells #[.slice ao n ca] 99) (.cells #[.slice bo n cb] 99) (.cells #[.bool false, .slice none 0 0, .int .i64 0] 27)
  have g1 := h3_1 w (.cells #[.slice ao n ca] 99) (.cells #[.slice bo n cb] 99) (.cells #[.bool false, .slice none 0 0, .int .i64 0] 27)
  have g2 := h3_2 w (.cells #[.slice ao n ca] 99) (.cells #[.slice bo n cb] 99) (.cells #[.bool false, .slice none 0 0, .int .i64 0] 27)
  cases oa : allOk a n
  · rw [oa] at CA
    go_enter Tryz.func149, Tryz.ntmps149
    go_wp2_with fail
    generalize ((w.alloc (.cells #[.slice ao n ca] 99)).alloc (.cells #[.slice bo n cb] 99)).alloc (.cells #[.bool false, .slice none 0 0, .int .i64 0] 27) = wx at hb3 g0 g1 g2 ⊢
    refine (CA _ hb3).mono ?_
    rintro x w1 ⟨rfl, hb1⟩
    have q0 := (hb1.block (w.heap.size + 2) (Array.getElem?_eq_some_iff.1 g2).1).trans g2
    have x0 := blkC q0 0 rfl
    have x1 := blkC q0 1 rfl
    have x2 := blkC q0 2 rfl
    have z0 := blkF q0 0
    have z1 := blkF q0 1
    have z2 := blkF q0 2
    go_wp2
    refine bodyPost_ret (v := .tuple #[zeroV, .int .i64 11]) (by simp [results, Tryz.results149, go_sem, zeroV, x0, x1, x2]) rfl ⟨rfl, ?_⟩
    exact bel_set3 (bel_trans hb3 hb1) (by omega) _ _ _
  · have ob : allOk b n = false := by simpa [oa] using ok
    rw [oa] at CA
    rw [ob] at CB
    go_enter Tryz.func149, Tryz.ntmps149
    go_wp2_with fail
    generalize ((w.alloc (.cells #[.slice ao n ca] 99)).alloc (.cells #[.slice bo n cb] 99)).alloc (.cells #[.bool false, .slice none 0 0, .int .i64 0] 27) = wx at hb3 g0 g1 g2 ⊢
    refine (CA _ hb3).mono ?_
    rintro x w1 ⟨rfl, hb1⟩
    have g1' := (hb1.block (w.heap.size + 1) (Array.getElem?_eq_some_iff.1 g1).1).trans g1
    have k1 := blkC g1' 0 rfl
    go_wp2_with fail
    refine (CB _ (bel_trans hb3 hb1)).mono ?_
    rintro x w2 ⟨rfl, hb2⟩
    have q0 := ((bel_trans hb1 hb2).block (w.heap.size + 2) (Array.getElem?_eq_some_iff.1 g2).1).trans g2
    have x0 := blkC q0 0 rfl
    have x1 := blkC q0 1 rfl
    have x2 := blkC q0 2 rfl
    have z0 := blkF q0 0
    have z1 := blkF q0 1
    have z2 := blkF q0 2
    go_wp2
    refine bodyPost_ret (v := .tuple #[zeroV, .int .i64 11]) (by simp [results, Tryz.results149, go_sem, zeroV, x0, x1, x2]) rfl ⟨rfl, ?_⟩
    exact bel_set3 (bel_trans hb3 (bel_trans hb1 hb2)) (by omega) _ _ _
set_option maxRecDepth 100000 in
set_option maxHeartbeats 2000000 in
theorem ddot_ok (ao bo : Option Addr) (n ca cb : Nat) (a b : Nat → NumR) (w : World) (ha : Nums w ao n ca a) (hb : Nums w bo n cb b) (oa : allOk a n = true) (ob : allOk b n = true) (la : ∀ i, i < n → Half (a i)) (lb : ∀ i, i < n → Half (b i)) (hn : n ≤ 100000) (hT : Tab w) :
    Calls Tryz.prog 149 #[.slice ao n ca, .slice bo n cb] w fun x w' => ∃ v er, x = .returned (.tuple #[v, .int .i64 er]) ∧ DFit w w' (dotV a b n) v er := by
  have hmf : ∀ (fn : Fn) (first cap : Array Value) (w : World), (Instr.makeFunc fn first cap).run Tryz.prog w = .ok (.func fn first cap) w := fun _ _ _ _ => rfl
  have hE : ∀ (cap : Array Value) (w : World), (callFunc 166 cap).run Tryz.prog w = .ok (.enter 166 cap) w := by
    intro cap w
    simp [go_sem]
  have hla := ha.le
  have hma := ha.max
  have hlb := hb.le
  have hmb := hb.max
  have CA := fun W (h : Below w.heap.size w W) => dvalids_any ao n ca a W (ha.keeps h)
  have CB := fun W (h : Below w.heap.size w W) => dvalids_any bo n cb b W (hb.keeps h)
  have CD : Hid (∀ W p p2, Below w.heap.size w W → W.cell? p = some (.slice ao n ca) → W.cell? p2 = some (.slice bo n cb) → Calls Tryz.prog 166 #[.pointer (some p), .pointer (some p2)] W (DOut W (dotV a b n))) := fun W p p2 h c1 c2 => dot1_any ao bo n ca cb a b p p2 W c1 c2 (ha.keeps h) (hb.keeps h) (allOk_out oa) (allOk_out ob) la lb hn (hT.keeps h)
  generalize dotV a b n = V at CD ⊢
  rw [oa] at CA
  rw [ob] at CB
  clear ha hb oa ob la lb hT
  have hb3 := bel_a3 w (.cells #[.slice ao n ca] 99) (.cells #[.slice bo n cb] 99) (.cells #[.bool false, .slice none 0 0, .int .i64 0] 27)
  have g0 := h3_0 w (.cells #[.slice ao n ca] 99) (.cells #[.slice bo n cb] 99) (.cells #[.bool false, .slice none 0 0, .int .i64 0] 27)
  have g1 := h3_1 w (.cells #[.slice ao n ca] 99) (.cells #[.slice bo n cb] 99) (.cells #[.bool false, .slice none 0 0, .int .i64 0] 27)
  have g2 := h3_2 w (.cells #[.slice ao n ca] 99) (.cells #[.slice bo n cb] 99) (.cells #[.bool false, .slice none 0 0, .int .i64 0] 27)
  go_enter Tryz.func149, Tryz.ntmps149
  go_wp2_with fail
  generalize ((w.alloc (.cells #[.slice ao n ca] 99)).alloc (.cells #[.slice bo n cb] 99)).alloc (.cells #[.bool false, .slice none 0 0, .int .i64 0] 27) = wx at hb3 g0 g1 g2 ⊢
  refine (CA _ hb3).mono ?_
  rintro x w1 ⟨rfl, hb1⟩
  have hbw := bel_trans hb3 hb1
  replace g0 := (hb1.block _ (Array.getElem?_eq_some_iff.1 g0).1).trans g0
  replace g1 := (hb1.block _ (Array.getElem?_eq_some_iff.1 g1).1).trans g1
  replace g2 := (hb1.block _ (Array.getElem?_eq_some_iff.1 g2).1).trans g2
  have k1 := blkC g1 0 rfl
  go_wp2_with fail
  clear k1
  refine (CB _ hbw).mono ?_
  rintro x w2 ⟨rfl, hb2⟩
  have hbw2 := bel_trans hbw hb2
  replace g0 := (hb2.block _ (Array.getElem?_eq_some_iff.1 g0).1).trans g0
  replace g1 := (hb2.block _ (Array.getElem?_eq_some_iff.1 g1).1).trans g1
  replace g2 := (hb2.block _ (Array.getElem?_eq_some_iff.1 g2).1).trans g2
  have hs3 := (Array.getElem?_eq_some_iff.1 g2).1
  go_wp2_with fail
  refine (told_any (V := V) (hE _) (fun W hW => CD.out W _ _ (bel_trans hbw2 hW) (blkC ((hW.block _ (by omega)).trans g0) 0 rfl) (blkC ((hW.block _ (by omega)).trans g1) 0 rfl))).mono ?_
  rintro x w3 ⟨v, er, rfl, hF⟩
  obtain ⟨ng', so, sn, sc, e', rfl⟩ := hF.shape
  have q0 := (hF.1.block (w.heap.size + 2) hs3).trans g2
  have x0 := blkC q0 0 rfl
  have x1 := blkC q0 1 rfl
  have x2 := blkC q0 2 rfl
  have z0 := blkF q0 0
  have z1 := blkF q0 1
  have z2 := blkF q0 2
  go_wp2
  refine bodyPost_ret (v := .tuple #[.agg #[.bool ng', .slice so sn sc, .int .i64 e'], .int .i64 er]) (by simp [results, Tryz.results149, go_sem, x0, x1, x2]) rfl ⟨_, _, rfl, ?_⟩
  exact dfit_res (g := w.heap.size + 2) hF hbw2 (by omega) (by omega) _ _ _
end Go.Proofs.YtfgmhmkbilkfbaaGreatDoor

/-
  Lists of numbers that are the call's own: what lies in them, append.
-/
namespace Go.Proofs.YtfgmhmkbilkfbaaGreatDoor
open Go Go.RowKit Go.Proofs.YtfgmhmkbilkfbaaGreatDoor.M
set_option linter.unusedSimpArgs false
set_option linter.unusedVariables false

/-- The cells of the first m. -/
def cells3 (f : Nat → Value) : Nat → List Value
  | 0 => []
  | m + 1 => cells3 f m ++ (f m).cells.toList
/-- A number's value in memory has three cells, each of them one. -/
def Three (v : Value) : Prop := ∃ ng so sn sc e, v = .agg #[.bool ng, .slice so sn sc, .int .i64 e]
theorem DAn.three {B : Nat} {w : World} {V : Int} {v : Value} (h : DAn B w V v) : Three v := by
  obtain ⟨ng, s, m, e, rfl, _, hA⟩ := h
  obtain ⟨so, sn, sc, rfl⟩ := hA.shape
  exact ⟨_, _, _, _, _, rfl⟩
theorem cells3_length {f : Nat → Value} : ∀ m, (∀ i, i < m → Three (f i)) → (cells3 f m).length = m * 3
  | 0, _ => rfl
  | m + 1, h => by
    obtain ⟨ng, so, sn, sc, e, he⟩ := h m (by omega)
    rw [cells3, List.length_append, cells3_length m fun i hi => h i (by omega), he]
    simp [Value.cells]
    omega
theorem cells3_congr {f f' : Nat → Value} : ∀ m, (∀ i, i < m → f i = f' i) → cells3 f m = cells3 f' m
  | 0, _ => rfl
  | m + 1, h => by rw [cells3, cells3, cells3_congr m fun i hi => h i (by omega), h m (by omega)]
theorem cells3_add (f : Nat → Value) (a : Nat) : ∀ b, cells3 f (a + b) = cells3 f a ++ cells3 (fun i => f (a + i)) b
  | 0 => by simp [cells3]
  | b + 1 => by
    show cells3 f (a + b) ++ (f (a + b)).cells.toList = cells3 f a ++ (cells3 (fun i => f (a + i)) b ++ (f (a + b)).cells.toList)
    rw [cells3_add f a b, List.append_assoc]
theorem cells3_at {f : Nat → Value} : ∀ m, (∀ i, i < m → Three (f i)) → ∀ i j, i < m → j < 3 → (cells3 f m)[i * 3 + j]? = (f i).cells[j]?
  | 0, _, i, j, hi, _ => by omega
  | m + 1, h, i, j, hi, hj => by
    have hl := cells3_length m fun i hi => h i (by omega)
    rw [cells3]
    by_cases e : i = m
    · subst e
      rw [List.getElem?_append_right (by omega), hl, show i * 3 + j - i * 3 = j by omega]
      simp
    · rw [List.getElem?_append_left (by omega)]
      exact cells3_at m (fun i hi => h i (by omega)) i j (by omega) hj
/-- A list of numbers that is the call's own. -/
def OutN (B : Nat) (w : World) (x : Value) (m : Nat) (f : Nat → Value) : Prop := w.ownsRow B 27 3 x m (cells3 f m)
theorem OutN.nil (B : Nat) (w : World) (f : Nat → Value) : OutN B w (.slice none 0 0) 0 f := ⟨rfl, .inl ⟨rfl, rfl⟩⟩
theorem OutN.of_block {B : Nat} {w w' : World} {x : Value} {m : Nat} {f : Nat → Value} (h : OutN B w x m f) (hb : ∀ g, x.ownBlock = some g → w'.heap[g]? = w.heap[g]?) : OutN B w' x m f := by
  refine ⟨h.1, ?_⟩
  rcases h.2 with hn | ⟨g, cap, cur, rfl, hbb, hg, rest⟩
  · exact .inl hn
  · exact .inr ⟨g, cap, cur, rfl, hbb, (hb g rfl).trans hg, rest⟩
theorem OutN.typed {B : Nat} {w : World} {x : Value} {m : Nat} {f : Nat → Value} (h : OutN B w x m f) {g : Nat} (hg : x.ownBlock = some g) : B ≤ g ∧ g < w.heap.size ∧ ∃ cur z, w.heap[g]? = some (.cells cur 27 z) := by
  rcases h.2 with ⟨rfl, _⟩ | ⟨g', cap, cur, rfl, hbb, hg', rest⟩
  · simp [Value.ownBlock] at hg
  · simp only [Value.ownBlock, Option.some.injEq] at hg; subst hg; exact ⟨hbb, (Array.getElem?_eq_some_iff.1 hg').1, cur, _, hg'⟩
theorem OutN.keeps {B : Nat} {w w' : World} {x : Value} {m : Nat} {f : Nat → Value} (h : OutN B w x m f) (hb : Below w.heap.size w w') : OutN B w' x m f := h.of_block fun g hg => hb.block g (h.typed hg).2.1
theorem OutN.shape {B : Nat} {w : World} {x : Value} {m : Nat} {f : Nat → Value} (h : OutN B w x m f) : ∃ xo xc, x = .slice xo m xc ∧ m ≤ xc ∧ (0 < m → ∃ g, xo = some ⟨g, 0, none⟩) := by
  rcases h.2 with ⟨rfl, rfl⟩ | ⟨g, cap, cur, rfl, hb, hg, hn, hm, _⟩
  · exact ⟨none, 0, rfl, Nat.le_refl _, fun h => by omega⟩
  · exact ⟨_, cap, rfl, hn, fun _ => ⟨g, rfl⟩⟩
theorem OutN.cell {B : Nat} {w : World} {xo : Option Addr} {m xc g : Nat} {f : Nat → Value} (h : OutN B w (.slice xo m xc) m f) (ht : ∀ i, i < m → Three (f i)) (hx : xo = some ⟨g, 0, none⟩) {i j : Nat} (hi : i < m) (hj : j < 3) : w.cell? ⟨g, i * 3 + j, none⟩ = (f i).cells[j]? := by
  rcases h.2 with ⟨_, rfl⟩ | ⟨g', cap, cur, e, hb, hg, hn, hm, hs, ht'⟩
  · omega
  · simp only [Value.slice.injEq] at e
    obtain ⟨rfl, _, rfl⟩ := e
    simp only [Option.some.injEq, Addr.mk.injEq] at hx
    obtain ⟨rfl, _⟩ := hx
    rw [cell_of_row w g' (i * 3 + j) cur _ _ hg, ← cells3_at m ht i j hi hj, ← ht', List.getElem?_take_of_lt (by omega)]
    simp
/-- A number's list stays where only lists of numbers grow. -/
theorem DAn.of_blocks {B : Nat} {w w' : World} {V : Int} {v : Value} (h : DAn B w V v) (hb : ∀ (g : Nat) (cur : Array Value) z, w.heap[g]? = some (.cells cur 3 z) → w'.heap[g]? = w.heap[g]?) : DAn B w' V v := by
  obtain ⟨ng, s, m, e, h1, h2, t, d, hO, h3⟩ := h
  exact ⟨ng, s, m, e, h1, h2, t, d, hO.of_block fun g hg => by obtain ⟨cur, z, hc⟩ := hO.typed hg; exact hb g cur z hc, h3⟩
theorem grown_ints {w w' : World} {row : Option Nat} (hg : w.grownBy w' row) (hr : ∀ g, row = some g → ∃ (cur : Array Value) (z : Nat × Nat), w.heap[g]? = some (Obj.cells cur 27 z)) : ∀ (g : Nat) (cur : Array Value) z, w.heap[g]? = some (.cells cur 3 z) → w'.heap[g]? = w.heap[g]? := fun g cur z hc => by
  refine hg.block g (Array.getElem?_eq_some_iff.1 hc).1 fun e => ?_
  obtain ⟨cur', z', hc'⟩ := hr g e.symm
  rw [hc] at hc'
  simp at hc'
theorem wpList_appN {w : World} {ops : Array Oper} {rest : List Oper} {o : Oper} {a : Act} {Q : Exit → Act → World → Prop} (hgd : o.guard = none) (s x : Operand)
    (ho : o.op = .call { callee := .builtin .append, args := #[s, x], argTypes := #[99, 99] }) (B : Nat) (v : Value) (m : Nat) (f : Nat → Value) (hs : a.eval s = v) (hO : OutN B w v m f)
    (g k cap : Nat) (f2 : Nat → Value) (h3 : ∀ i, i < k → Three (f2 i)) (hx : a.eval x = .slice (some ⟨g, 0, none⟩) k cap) (hy : ∀ i j, i < k → j < 3 → w.cell? ⟨g, i * 3 + j, none⟩ = (f2 i).cells[j]?) (hlen : m + k ≤ 100000) (hB : B ≤ w.heap.size)
    (h : ∀ v' w', OutN B w' v' (m + k) (fun i => if i < m then f i else f2 (i - m)) → w.grownBy w' v.ownBlock → (v'.ownBlock = v.ownBlock ∨ v'.ownBlock = some w.heap.size) → wpList Tryz.prog ops Q rest (a.put o.dst v') w') : wpList Tryz.prog ops Q (o :: rest) a w := by
  obtain ⟨i0, hi, hz0, hz1, hz2⟩ := info_num
  refine wpList_append_own_at w hgd s x 99 ho B 27 i0 (.agg #[.bool false, .slice none 0 0, .int .i64 0]) 3 40 Tryz.underlying99 hi hz0 hz1 hz2 rfl (by decide) v m (cells3 f m) hs hO ⟨g, 0, none⟩ k cap (cells3 f2 k) hx (cells3_length k h3) ?_ ?_ (by unfold maxLen; omega) (by omega) hB ?_
  · intro j u hu
    have hj : j < k * 3 := by have := (List.getElem?_eq_some_iff.1 hu).1; rw [cells3_length k h3] at this; exact this
    rw [add_none, Nat.zero_add]
    have e : j = j / 3 * 3 + j % 3 := by omega
    have h1 := cells3_at k h3 (j / 3) (j % 3) (by omega) (by omega)
    have h2 := hy (j / 3) (j % 3) (by omega) (by omega)
    rw [← e] at h1 h2
    rw [h2, ← h1, hu]
  · intro u hu
    obtain ⟨j, hj, hu2⟩ := List.mem_iff_getElem.1 hu
    have hj' : j < k * 3 := by rw [cells3_length k h3] at hj; exact hj
    have e : j = j / 3 * 3 + j % 3 := by omega
    have h1 := cells3_at k h3 (j / 3) (j % 3) (by omega) (by omega)
    rw [← e, List.getElem?_eq_getElem hj, hu2] at h1
    obtain ⟨ng, so, sn, sc, ee, he⟩ := h3 (j / 3) (by omega)
    rw [he] at h1
    have h5 : j % 3 = 0 ∨ j % 3 = 1 ∨ j % 3 = 2 := by omega
    rcases h5 with h5 | h5 | h5 <;> rw [h5] at h1 <;> simp [Value.cells] at h1 <;> subst h1 <;> rfl
  · intro v' w' h1 h2 _ h4
    refine h v' w' ?_ h2 h4
    unfold OutN
    rw [cells3_add, cells3_congr (f := fun i => if i < m then f i else f2 (i - m)) (f' := f) m (fun i hi => if_pos hi), cells3_congr (f := fun i => (fun i => if i < m then f i else f2 (i - m)) (m + i)) (f' := f2) k (fun i hi => by simp [show ¬ (m + i < m) by omega, show m + i - m = i by omega])]
    exact h1
theorem wpList_appN0 {w : World} {ops : Array Oper} {rest : List Oper} {o : Oper} {a : Act} {Q : Exit → Act → World → Prop} (hgd : o.guard = none) (s x : Operand)
    (ho : o.op = .call { callee := .builtin .append, args := #[s, x], argTypes := #[99, 99] }) (B : Nat) (v : Value) (m : Nat) (f : Nat → Value) (hs : a.eval s = v) (hO : OutN B w v m f)
    (hx : a.eval x = .slice none 0 0) (h : wpList Tryz.prog ops Q rest (a.put o.dst v) w) : wpList Tryz.prog ops Q (o :: rest) a w := by
  obtain ⟨i0, hi, hz0, hz1, hz2⟩ := info_num
  exact wpList_append_own_none hgd s x 99 ho B 27 i0 3 Tryz.underlying99 hi v m (cells3 f m) hs hO hx h
/-- A literal of one number, in its own new block. -/
theorem lit_cells {w : World} {g : Nat} {v : Value} {ng : Bool} {so : Option Addr} {sn sc : Nat} {e : Int} (hv : v = .agg #[.bool ng, .slice so sn sc, .int .i64 e]) (hg : w.heap[g]? = some (.cells #[.bool ng, .slice so sn sc, .int .i64 e] 27 (0, 0))) : ∀ i j, i < 1 → j < 3 → w.cell? ⟨g, i * 3 + j, none⟩ = ((fun _ => v) i).cells[j]? := fun i j hi hj => by
  obtain rfl : i = 0 := by omega
  rw [Nat.zero_mul, Nat.zero_add, hv]
  match j, hj with
  | 0, _ => exact blkC hg 0 rfl
  | 1, _ => exact blkC hg 1 rfl
  | 2, _ => exact blkC hg 2 rfl
theorem lit_own {w : World} {B g : Nat} {ng : Bool} {so : Option Addr} {sn sc : Nat} {e : Int} (hg : w.heap[g]? = some (.cells #[.bool ng, .slice so sn sc, .int .i64 e] 27 (0, 0))) (hB : B ≤ g) : OutN B w (.slice (some ⟨g, 0, none⟩) 1 1) 1 (fun _ => .agg #[.bool ng, .slice so sn sc, .int .i64 e]) := by
  refine ⟨by simp [cells3, Value.cells], .inr ⟨g, 1, _, rfl, hB, hg, Nat.le_refl _, by decide, by simp, ?_⟩⟩
  simp [cells3, Value.cells]
/-- Lists of numbers that are the call's own, each in a block of its own. -/
structure LS (B : Nat) (w : World) (N : Nat) (X : Nat → Value) (M : Nat → Nat) (F : Nat → Nat → Value) : Prop where
  own : ∀ j, j < N → OutN B w (X j) (M j) (F j)
  ne : ∀ i j, i < N → j < N → i ≠ j → ∀ g, (X i).ownBlock = some g → (X j).ownBlock ≠ some g
theorem LS.keeps {B : Nat} {w w' : World} {N : Nat} {X : Nat → Value} {M : Nat → Nat} {F : Nat → Nat → Value} (h : LS B w N X M F) (hb : Below w.heap.size w w') : LS B w' N X M F := ⟨fun j hj => (h.own j hj).keeps hb, h.ne⟩
theorem LS.put {B : Nat} {w w' : World} {N : Nat} {X : Nat → Value} {M : Nat → Nat} {F : Nat → Nat → Value} (h : LS B w N X M F) (j0 : Nat) {row : Option Nat} (hg : w.grownBy w' row) {v' : Value} {M' : Nat} {F' : Nat → Value} (hO : OutN B w' v' M' F') (h1 : ∀ j, j < N → j ≠ j0 → ∀ g, (X j).ownBlock = some g → row ≠ some g) (h2 : ∀ j, j < N → j ≠ j0 → ∀ g, (X j).ownBlock = some g → v'.ownBlock ≠ some g) :
    LS B w' N (updV X j0 v') (updV M j0 M') (updV F j0 F') := by
  refine ⟨fun j hj => ?_, fun i j hi hj hij g hgi => ?_⟩
  · by_cases e : j = j0
    · subst e; rw [updV_same, updV_same, updV_same]; exact hO
    · rw [updV_other _ _ e, updV_other _ _ e, updV_other _ _ e]
      exact (h.own j hj).of_block fun g hgx => hg.block g ((h.own j hj).typed hgx).2.1 fun e' => h1 j hj e g hgx e'.symm
  · by_cases e : i = j0
    · subst e
      rw [updV_same] at hgi
      rw [updV_other _ _ (Ne.symm hij)]
      exact fun hgj => h2 j hj (Ne.symm hij) g hgj hgi
    · rw [updV_other _ _ e] at hgi
      by_cases e2 : j = j0
      · subst e2
        rw [updV_same]
        exact h2 i hi e g hgi
      · rw [updV_other _ _ e2]
        exact h.ne i j hi hj hij g hgi
/-- Append to one of them. -/
theorem LS.app {B : Nat} {w w' : World} {N : Nat} {X : Nat → Value} {M : Nat → Nat} {F : Nat → Nat → Value} (h : LS B w N X M F) (j0 : Nat) (hj0 : j0 < N) (hg : w.grownBy w' (X j0).ownBlock) {v' : Value} {M' : Nat} {F' : Nat → Value} (hO : OutN B w' v' M' F') (hv : v'.ownBlock = (X j0).ownBlock ∨ v'.ownBlock = some w.heap.size) :
    LS B w' N (updV X j0 v') (updV M j0 M') (updV F j0 F') := by
  refine h.put j0 hg hO (fun j hj hne g hgj e => ?_) (fun j hj hne g hgj e => ?_)
  · exact h.ne j j0 hj hj0 hne g hgj e
  · rcases hv with hv | hv
    · rw [hv] at e; exact h.ne j j0 hj hj0 hne g hgj e
    · rw [hv] at e
      have := ((h.own j hj).typed hgj).2.1
      simp only [Option.some.injEq] at e
      omega
theorem LS.row {B : Nat} {w : World} {N : Nat} {X : Nat → Value} {M : Nat → Nat} {F : Nat → Nat → Value} (h : LS B w N X M F) {j : Nat} (hj : j < N) : ∀ g, (X j).ownBlock = some g → ∃ (cur : Array Value) (z : Nat × Nat), w.heap[g]? = some (Obj.cells cur 27 z) := fun g hg => (((h.own j hj).typed hg).2.2)
theorem LS.ge {B : Nat} {w : World} {N : Nat} {X : Nat → Value} {M : Nat → Nat} {F : Nat → Nat → Value} (h : LS B w N X M F) {j : Nat} (hj : j < N) : ∀ g, (X j).ownBlock = some g → B ≤ g := fun g hg => ((h.own j hj).typed hg).1
/-- As a list that is read. -/
theorem OutN.nums {B : Nat} {w : World} {xo : Option Addr} {m xc : Nat} {f : Nat → Value} {r : Nat → NumR} (h : OutN B w (.slice xo m xc) m f) (hm : m ≤ 100000) (hr : ∀ i, i < m → f i = (r i).v ∧ Row w (r i).ao (r i).n (r i).cap (r i).d) : ∃ c2, xc = c2 ∧ Nums w xo m xc r := by
  have ht : ∀ i, i < m → Three (f i) := fun i hi => ⟨_, _, _, _, _, (hr i hi).1⟩
  refine ⟨xc, rfl, ?_⟩
  obtain ⟨xo', xc', e, hle, hsp⟩ := h.shape
  simp only [Value.slice.injEq] at e
  obtain ⟨rfl, _, rfl⟩ := e
  refine ⟨hle, ?_, fun hm0 => ?_⟩
  · rcases h.2 with ⟨e, _⟩ | ⟨g, cap, cur, e, hb, hg, hn, hmx, hs, _⟩
    · simp only [Value.slice.injEq] at e; omega
    · simp only [Value.slice.injEq] at e
      obtain ⟨_, _, rfl⟩ := e
      unfold maxLen at hmx
      omega
  · obtain ⟨g, rfl⟩ := hsp hm0
    have hlt : g < w.heap.size := (h.typed (g := g) rfl).2.1
    refine ⟨g, 0, rfl, hlt, fun i hi => ?_⟩
    obtain ⟨h1, h2⟩ := hr i hi
    have c := fun j (hj : j < 3) => h.cell ht rfl hi (j := j) hj
    rw [h1] at c
    rw [Nat.zero_add]
    exact ⟨c 0 (by decide), c 1 (by decide), c 2 (by decide), h2⟩
end Go.Proofs.YtfgmhmkbilkfbaaGreatDoor

/-
  Package plumbref3: Sum, Dot, by contracts.
-/
namespace Go.Proofs.YtfgmhmkbilkfbaaGreatDoor
open Go Go.RowKit Go.Proofs.YtfgmhmkbilkfbaaGreatDoor.M
set_option linter.unusedSimpArgs false
set_option linter.unusedVariables false

/-- A sum so far: new memory, or one of the numbers. -/
def Src (B : Nat) (w : World) (n : Nat) (r : Nat → NumR) (V : Int) (v : Value) : Prop := DAn B w V v ∨ ∃ i, i < n ∧ v = (r i).v ∧ V = (r i).V
theorem Src.keeps {B : Nat} {w w' : World} {n : Nat} {r : Nat → NumR} {V : Int} {v : Value} (h : Src B w n r V v) (hb : Below w.heap.size w w') : Src B w' n r V v := by
  rcases h with h | h
  · exact .inl (h.keeps hb)
  · exact .inr h
theorem ints_set3 {w : World} {g o0 o1 o2 : Nat} {xs : Array Value} {z : Nat × Nat} (hg : w.heap[g]? = some (.cells xs 27 z)) (x y u : Value) : ∀ (g' : Nat) (cur : Array Value) z', w.heap[g']? = some (.cells cur 3 z') → (((w.setCell ⟨g, o0, none⟩ x).setCell ⟨g, o1, none⟩ y).setCell ⟨g, o2, none⟩ u).heap[g']? = w.heap[g']? := fun g' cur z' hc => by
  refine (wr3 w g o0 o1 o2 x y u).block g' (Array.getElem?_eq_some_iff.1 hc).1 fun e => ?_
  subst e
  rw [hg] at hc
  simp at hc
theorem Src.set3 {B : Nat} {w : World} {n : Nat} {r : Nat → NumR} {V : Int} {v : Value} (h : Src B w n r V v) {g o0 o1 o2 : Nat} {xs : Array Value} {z : Nat × Nat} (hg : w.heap[g]? = some (.cells xs 27 z)) (x y u : Value) : Src B (((w.setCell ⟨g, o0, none⟩ x).setCell ⟨g, o1, none⟩ y).setCell ⟨g, o2, none⟩ u) n r V v := by
  rcases h with h | h
  · exact .inl (h.of_blocks (ints_set3 hg x y u))
  · exact .inr h
theorem bd_sumV {r : Nat → NumR} {K : Nat} (hK : K ≤ 520000) : ∀ m, m ≤ 1000 → (∀ i, i < m → Bd K (r i).V) → Bd (K + m) (sumV r m)
  | 0, _, _ => ⟨0, by rw [Int.zero_mul]; rfl, by have := two_pos (2 * (K + 0)); omega, by have := two_pos (2 * (K + 0)); omega⟩
  | m + 1, hm, h => (bd_sumV hK m (by omega) fun i hi => h i (by omega)).add ((h m (by omega)).up (by omega) (by omega)) (by omega)
theorem bd_dotK {a b : Nat → NumR} {K : Nat} (hK : K ≤ 260000) : ∀ m, m ≤ 1000 → (∀ i, i < m → Bd K (a i).V ∧ Half (a i)) → (∀ i, i < m → Bd K (b i).V ∧ Half (b i)) → Bd (2 * K + m) (dotV a b m)
  | 0, _, _, _ => ⟨0, by rw [Int.zero_mul]; rfl, by have := two_pos (2 * (2 * K + 0)); omega, by have := two_pos (2 * (2 * K + 0)); omega⟩
  | m + 1, hm, h, k => by
    obtain ⟨h1, h2⟩ := h m (by omega)
    obtain ⟨k1, k2⟩ := k m (by omega)
    unfold Half at h2 k2
    exact (bd_dotK hK m (by omega) (fun i hi => h i (by omega)) (fun i hi => k i (by omega))).add ((h1.mul k1 (mulV_eq (by omega) (by omega)) (by omega)).up (by omega) (by omega)) (by omega)
theorem bel_trans' {w wr w3 : World} (h : Below w.heap.size w wr) (k : Below wr.heap.size wr w3) : Below w.heap.size w w3 := h.trans (k.mono h.size)
end Go.Proofs.YtfgmhmkbilkfbaaGreatDoor
