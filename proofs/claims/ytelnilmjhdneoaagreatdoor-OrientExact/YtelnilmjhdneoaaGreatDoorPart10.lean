/-
  Parts of the proof, one behind another.
-/
import Derived.Test.YtelnilmjhdneoaaGreatDoorPart9
import Derived.Test.YtelnilmjhdneoaaGreatDoorPart6
import Derived.Test.YtelnilmjhdneoaaGreatDoorPart7
import Derived.Laws.MakeOwn
import Derived.Maps.AppendAt
import Derived.Laws.AppendOwnNone
import Derived.Test.YtelnilmjhdneoaaGreatDoorPart8
import Derived.Deep.RegionHeld3
/-
  Package plumbref3: Sub, Cmp, by contracts.
-/
namespace Go.Proofs.YtelnilmjhdneoaaGreatDoor
open Go Go.RowKit Go.Proofs.YtelnilmjhdneoaaGreatDoor.M
set_option linter.unusedSimpArgs false
set_option linter.unusedVariables false

theorem opp_V {x : NumR} (ok : okR x = true) : x.opp.V = -x.V ∧ Dy x.opp.V x.opp.ng (val x.opp.d x.opp.n) x.opp.e := by
  have hy := (okR_dy ok).1
  have hN := (okR_sane ok).1
  by_cases h0 : x.n = 0
  · have hv : val x.d x.n = 0 := by rw [h0]; rfl
    have e : x.opp = x := by unfold NumR.opp; rw [if_pos h0]
    rw [e]
    have := hy.eq_zero.2 hv
    exact ⟨by omega, hy⟩
  · have hp := val_pos hN (show 0 < x.n by omega)
    have e : x.opp = ⟨!x.ng, x.ao, x.n, x.cap, x.d, x.e⟩ := by unfold NumR.opp; rw [if_neg h0]
    rw [e]
    have h1 := hy.neg hp
    have hV : NumR.V ⟨!x.ng, x.ao, x.n, x.cap, x.d, x.e⟩ = -x.V := h1.val.symm
    rw [hV]
    exact ⟨rfl, h1⟩
theorem RSum.shape {w w' : World} {A B : Int} {x y : NumR} {v : Value} (h : RSum w w' A B x.v y.v v) : ∃ ng so sn sc e, v = .agg #[.bool ng, .slice so sn sc, .int .i64 e] := by
  rcases h.2 with ⟨ng, s, m, e, rfl, _, hA⟩ | ⟨_, rfl⟩ | ⟨_, rfl⟩
  · obtain ⟨so, sn, sc, rfl⟩ := hA.num.shape
    exact ⟨_, _, _, _, _, rfl⟩
  · exact ⟨_, _, _, _, _, rfl⟩
  · exact ⟨_, _, _, _, _, rfl⟩
theorem rsum_res {w W w3 : World} {A B : Int} {x y v : Value} (hv : RSum W w3 A B x y v) (hb : Below w.heap.size w W) {g : Nat} (h0 : w.heap.size ≤ g) (h1 : g < W.heap.size) (a b c : Value) :
    RSum w (((w3.setCell ⟨g, 0, none⟩ a).setCell ⟨g, 1, none⟩ b).setCell ⟨g, 2, none⟩ c) A B x y v := by
  refine ⟨bel_set3 (bel_trans hb hv.1) h0 _ _ _, ?_⟩
  rcases hv.2 with h | h | h
  · exact .inl (dans_res3 h hb h0 h1 a b c)
  · exact .inr (.inl h)
  · exact .inr (.inr h)
set_option maxRecDepth 100000 in
set_option maxHeartbeats 2000000 in
theorem rsub3_any (x y : NumR) (w : World) (hx : Row w x.ao x.n x.cap x.d) (hy : Row w y.ao y.n y.cap y.d) (ox : okR x = true) (oy : okR y = true) {K : Nat} (hK : K ≤ 560000) (bx : Bd K x.V) (bY : Bd K y.V) :
    Calls Tryz.prog 26 #[x.v, y.v] w fun r w' => ∃ v, r = .returned v ∧ RSum w w' x.V (-y.V) x.v y.opp.v v := by
  obtain ⟨e1, e2⟩ := opp_V oy
  have hop := fun W => rneg3_any y W (by have := hy.le; have := hy.max; omega)
  have C2 : ∀ W, Below w.heap.size w W → Calls Tryz.prog 54 #[x.v, y.opp.v] W fun r w' => ∃ ng so sn sc e, r = .returned (.agg #[.bool ng, .slice so sn sc, .int .i64 e]) ∧ RSum W w' x.V (-y.V) x.v y.opp.v (.agg #[.bool ng, .slice so sn sc, .int .i64 e]) ∧ Below W.heap.size W w' := fun W hb => by
    refine (radd3_any x y.opp W (hx.keeps hb) (hy.keeps hb) (okR_dy ox).1 (okR_sane ox).1 e2 (okR_sane oy).1 hK bx (by rw [e1]; exact bY.neg)).mono ?_
    rintro r w' ⟨v, rfl, h⟩
    rw [e1] at h
    obtain ⟨ng, so, sn, sc, e, rfl⟩ := h.shape
    exact ⟨_, _, _, _, _, rfl, h, h.1⟩
  have hmy := hy.max
  have hly := hy.le
  obtain ⟨VV, hVV⟩ : ∃ V, V = x.V := ⟨_, rfl⟩
  obtain ⟨UU, hUU⟩ : ∃ V, V = -y.V := ⟨_, rfl⟩
  rw [← hVV, ← hUU] at C2 ⊢
  clear e1 e2 bx bY hVV hUU ox oy
  unfold NumR.opp at *
  obtain ⟨on, hon⟩ : ∃ V, V = (if y.n = 0 then y.ng else !y.ng) := ⟨_, rfl⟩
  rw [← hon] at hop C2 ⊢
  clear hon
  obtain ⟨an, ao, n, ca, a, e⟩ := x
  obtain ⟨bn, bo, m, cb, b, f⟩ := y
  unfold NumR.v at *
  simp only at *
  have hb3 : Below w.heap.size w (((w.alloc (.cells #[.bool an, .slice ao n ca, .int .i64 e] 27)).alloc (.cells #[.bool bn, .slice bo m cb, .int .i64 f] 27)).alloc (.cells #[.bool false, .slice none 0 0, .int .i64 0] 27)) := bel_a3 _ _ _ _
  have g0 := h3_0 w (.cells #[.bool an, .slice ao n ca, .int .i64 e] 27) (.cells #[.bool bn, .slice bo m cb, .int .i64 f] 27) (.cells #[.bool false, .slice none 0 0, .int .i64 0] 27)
  have g1 := h3_1 w (.cells #[.bool an, .slice ao n ca, .int .i64 e] 27) (.cells #[.bool bn, .slice bo m cb, .int .i64 f] 27) (.cells #[.bool false, .slice none 0 0, .int .i64 0] 27)
  have g2 := h3_2 w (.cells #[.bool an, .slice ao n ca, .int .i64 e] 27) (.cells #[.bool bn, .slice bo m cb, .int .i64 f] 27) (.cells #[.bool false, .slice none 0 0, .int .i64 0] 27)
  go_enter Tryz.func26, Tryz.ntmps26
  go_wp2_with fail
  generalize ((w.alloc (.cells #[.bool an, .slice ao n ca, .int .i64 e] 27)).alloc (.cells #[.bool bn, .slice bo m cb, .int .i64 f] 27)).alloc (.cells #[.bool false, .slice none 0 0, .int .i64 0] 27) = wx at hb3 g0 g1 g2 ⊢
  have k0 := blkC g0 0 rfl
  have k1 := blkC g0 1 rfl
  have k2 := blkC g0 2 rfl
  have j0 := blkC g1 0 rfl
  have j1 := blkC g1 1 rfl
  have j2 := blkC g1 2 rfl
  have hb1 := bel_refl wx
  have hs3 := (Array.getElem?_eq_some_iff.1 g2).1
  go_region_held3 (fun W => (W.cell? ⟨w.heap.size, 0, none⟩ = some (.bool an) ∧ W.cell? ⟨w.heap.size, 1, none⟩ = some (.slice ao n ca) ∧ W.cell? ⟨w.heap.size, 2, none⟩ = some (.int .i64 e)) ∧ W.cell? ⟨w.heap.size + 1, 0, none⟩ = some (.bool bn) ∧ W.cell? ⟨w.heap.size + 1, 1, none⟩ = some (.slice bo m cb) ∧ W.cell? ⟨w.heap.size + 1, 2, none⟩ = some (.int .i64 f))
    (first | assumption | exact ⟨⟨k0, k1, k2⟩, j0, j1, j2⟩ | exact keep66 (W := wx.drew) hbv1 ⟨⟨k0, k1, k2⟩, j0, j1, j2⟩ | exact keep66 hbv2 (keep66 (W := wx.drew) hbv1 ⟨⟨k0, k1, k2⟩, j0, j1, j2⟩) | exact ⟨keepS (keep66 hbv2 (keep66 (W := wx.drew) hbv1 ⟨⟨k0, k1, k2⟩, j0, j1, j2⟩)).1 (by omega) _ _ _, keepS (keep66 hbv2 (keep66 (W := wx.drew) hbv1 ⟨⟨k0, k1, k2⟩, j0, j1, j2⟩)).2 (by omega) _ _ _⟩)
    (first | (go_at_call 54; refine (C2 _ (bel_trans hb3 (bel_trans hb1.drew hbv1))).mono ?_; rintro y w4 ⟨ng4, o4, n4, c4, e4, rfl, hv2, hbv2⟩; have q0 := ((bel_trans hbv1 hbv2).block (w.heap.size + 2) (by show _ < wx.heap.size; omega)).trans g2; have x0 := blkC q0 0 rfl; have x1 := blkC q0 1 rfl; have x2 := blkC q0 2 rfl; have z0 := blkF q0 0; have z1 := blkF q0 1; have z2 := blkF q0 2) | (go_at_call 55; refine (hop _).mono ?_; rintro y w3 ⟨rfl, hbv1⟩))
  all_goals go_wp2
  all_goals
    refine bodyPost_ret (v := .agg #[.bool ng4, .slice o4 n4 c4, .int .i64 e4]) (by simp [results, Tryz.results26, go_sem, x0, x1, x2]) rfl ⟨_, rfl, ?_⟩
    exact rsum_res (g := w.heap.size + 2) hv2 (bel_trans hb3 (bel_trans hb1.drew hbv1)) (by omega) (Nat.lt_of_lt_of_le (show _ < wx.heap.size by omega) hbv1.size) _ _ _
end Go.Proofs.YtelnilmjhdneoaaGreatDoor

/-
  Package dyadic: products, Dot, by contracts.
-/
namespace Go.Proofs.YtelnilmjhdneoaaGreatDoor
open Go Go.RowKit Go.Proofs.YtelnilmjhdneoaaGreatDoor.M
set_option linter.unusedSimpArgs false
set_option linter.unusedVariables false

/-- A block of N numbers that is the call's own; the first k are those of q. -/
def BlkN (w : World) (g N k : Nat) (q : Nat → NumR) : Prop :=
  ∃ cur : Array Value, w.heap[g]? = some (.cells cur 27 (0, 0)) ∧ cur.size = N * 3 ∧ ∀ i, i < k → (cur[i * 3]? = some (.bool (q i).ng) ∧ cur[i * 3 + 1]? = some (.slice (q i).ao (q i).n (q i).cap) ∧ cur[i * 3 + 2]? = some (.int .i64 (q i).e)) ∧ Row w (q i).ao (q i).n (q i).cap (q i).d
def updN (q : Nat → NumR) (k : Nat) (x : NumR) : Nat → NumR := fun j => if j = k then x else q j
theorem updN_same (q : Nat → NumR) (k : Nat) (x : NumR) : updN q k x k = x := by simp [updN]
theorem updN_other (q : Nat → NumR) {k j : Nat} (x : NumR) (h : j ≠ k) : updN q k x j = q j := by simp [updN, h]
theorem wr3 (W : World) (g o0 o1 o2 : Nat) (x y z : Value) : Wr g W (((W.setCell ⟨g, o0, none⟩ x).setCell ⟨g, o1, none⟩ y).setCell ⟨g, o2, none⟩ z) := (((Wr.refl g W).setCell o0 x).setCell o1 y).setCell o2 z
theorem Row.wrN {w w' : World} {g : Nat} {ao : Option Addr} {n cap : Nat} {d : Nat → Int} (h : Row w ao n cap d) (hw : Wr g w w') {cur : Array Value} {z : Nat × Nat} (hg : w.heap[g]? = some (.cells cur 27 z)) (ht : ∀ b off, ao = some ⟨b, off, none⟩ → 0 < n → b ≠ g) : Row w' ao n cap d :=
  ⟨h.le, h.max, h.nl, fun hn => by
    obtain ⟨b, off, rfl, hlt, hc⟩ := h.spot hn
    exact ⟨b, off, rfl, Nat.lt_of_lt_of_le hlt hw.size, fun i hi => (hw.cell (p := ⟨b, off + i, none⟩) hlt (ht b off rfl hn)).trans (hc i hi)⟩⟩
theorem Ans.open {w w' : World} {V : Int} {so : Option Addr} {sn sc : Nat} (h : Ans w w' V (.slice so sn sc)) : ∃ d, Row w' so sn sc d ∧ Nrm d sn ∧ val d sn = V ∧ ∀ b off, so = some ⟨b, off, none⟩ → w.heap.size ≤ b := by
  obtain ⟨t, d, hO, hN, hV, _⟩ := h
  have hge := own_ge hO
  obtain ⟨so', sc', e, hR⟩ := hO.row
  simp only [Value.slice.injEq] at e
  obtain ⟨rfl, rfl, rfl⟩ := e
  exact ⟨d, hR, hN, hV, fun b off hb => hge b (by rw [hb]; rfl)⟩
theorem bel_set3' {w0 w : World} {g o0 o1 o2 : Nat} (h : Below w0.heap.size w0 w) (hg : w0.heap.size ≤ g) (x y z : Value) : Below w0.heap.size w0 (((w.setCell ⟨g, o0, none⟩ x).setCell ⟨g, o1, none⟩ y).setCell ⟨g, o2, none⟩ z) := ((h.setCell (p := ⟨g, o0, none⟩) hg x).setCell (p := ⟨g, o1, none⟩) hg y).setCell (p := ⟨g, o2, none⟩) hg z
theorem set3_get {cur : Array Value} {k : Nat} {x y z : Value} (h : k * 3 + 2 < cur.size) (i : Nat) :
    let c := ((cur.setIfInBounds (k * 3) x).setIfInBounds (k * 3 + 1) y).setIfInBounds (k * 3 + 2) z
    (i = k → c[i * 3]? = some x ∧ c[i * 3 + 1]? = some y ∧ c[i * 3 + 2]? = some z) ∧ (i ≠ k → c[i * 3]? = cur[i * 3]? ∧ c[i * 3 + 1]? = cur[i * 3 + 1]? ∧ c[i * 3 + 2]? = cur[i * 3 + 2]?) := by
  intro c
  refine ⟨fun e => ?_, fun e => ?_⟩
  · subst e
    refine ⟨?_, ?_, ?_⟩
    · show (((cur.setIfInBounds (i * 3) x).setIfInBounds (i * 3 + 1) y).setIfInBounds (i * 3 + 2) z)[i * 3]? = some x
      rw [Array.getElem?_setIfInBounds_ne (by omega), Array.getElem?_setIfInBounds_ne (by omega), Array.getElem?_setIfInBounds_self_of_lt (by omega)]
    · show (((cur.setIfInBounds (i * 3) x).setIfInBounds (i * 3 + 1) y).setIfInBounds (i * 3 + 2) z)[i * 3 + 1]? = some y
      rw [Array.getElem?_setIfInBounds_ne (by omega), Array.getElem?_setIfInBounds_self_of_lt (by simp; omega)]
    · show (((cur.setIfInBounds (i * 3) x).setIfInBounds (i * 3 + 1) y).setIfInBounds (i * 3 + 2) z)[i * 3 + 2]? = some z
      rw [Array.getElem?_setIfInBounds_self_of_lt (by simp; omega)]
  · refine ⟨?_, ?_, ?_⟩
    all_goals
      show (((cur.setIfInBounds (k * 3) x).setIfInBounds (k * 3 + 1) y).setIfInBounds (k * 3 + 2) z)[_]? = _
      rw [Array.getElem?_setIfInBounds_ne (by omega), Array.getElem?_setIfInBounds_ne (by omega), Array.getElem?_setIfInBounds_ne (by omega)]
theorem BlkN.step {wr w3 : World} {g N k : Nat} {q : Nat → NumR} (h : BlkN wr g N k q) (hb : Below wr.heap.size wr w3) (x : NumR) (hx : Row w3 x.ao x.n x.cap x.d) (hk : k < N) (hg : ∀ i b' off, i < k → (q i).ao = some ⟨b', off, none⟩ → 0 < (q i).n → g < b') (hg2 : ∀ b' off, x.ao = some ⟨b', off, none⟩ → 0 < x.n → g < b') :
    BlkN (((w3.setCell ⟨g, k * 3, none⟩ (.bool x.ng)).setCell ⟨g, k * 3 + 1, none⟩ (.slice x.ao x.n x.cap)).setCell ⟨g, k * 3 + 2, none⟩ (.int .i64 x.e)) g N (k + 1) (updN q k x) := by
  obtain ⟨cur, hcur, hsz, hc⟩ := h
  have q0 := (hb.block g (Array.getElem?_eq_some_iff.1 hcur).1).trans hcur
  have q1 := heap_set (heap_set (heap_set q0 (k * 3) (.bool x.ng)) (k * 3 + 1) (.slice x.ao x.n x.cap)) (k * 3 + 2) (.int .i64 x.e)
  have hw := wr3 w3 g (k * 3) (k * 3 + 1) (k * 3 + 2) (.bool x.ng) (.slice x.ao x.n x.cap) (.int .i64 x.e)
  refine ⟨_, q1, by simp [hsz], fun i hi => ?_⟩
  have hs := set3_get (cur := cur) (k := k) (x := .bool x.ng) (y := .slice x.ao x.n x.cap) (z := .int .i64 x.e) (by omega) i
  by_cases e : i = k
  · subst e
    rw [updN_same]
    exact ⟨hs.1 rfl, hx.wrN hw q0 fun b' off he hn => by have := hg2 b' off he hn; omega⟩
  · rw [updN_other q x e]
    obtain ⟨s0, s1, s2⟩ := hs.2 e
    obtain ⟨⟨c0, c1, c2⟩, hR⟩ := hc i (by omega)
    refine ⟨⟨s0.trans c0, s1.trans c1, s2.trans c2⟩, (hR.keeps hb).wrN hw q0 fun b' off he hn => ?_⟩
    have := hg i b' off (by omega) he hn
    omega
end Go.Proofs.YtelnilmjhdneoaaGreatDoor

/-
  Lists of numbers that are the call's own: what lies in them, append.
-/
namespace Go.Proofs.YtelnilmjhdneoaaGreatDoor
open Go Go.RowKit Go.Proofs.YtelnilmjhdneoaaGreatDoor.M
set_option linter.unusedSimpArgs false
set_option linter.unusedVariables false

/-- The cells of the first m. -/
def cells3 (f : Nat → Value) : Nat → List Value
  | 0 => []
  | m + 1 => cells3 f m ++ (f m).cells.toList
/-- A number's value in memory has three cells, each of them one. -/
def Three (v : Value) : Prop := ∃ ng so sn sc e, v = .agg #[.bool ng, .slice so sn sc, .int .i64 e]
theorem DAn.three {B : Nat} {w : World} {V : Int} {v : Value} (h : DAn B w V v) : Three v := by
  obtain ⟨ng, s, m, e, rfl, _, hA⟩ := h
  obtain ⟨so, sn, sc, rfl⟩ := hA.shape
  exact ⟨_, _, _, _, _, rfl⟩
theorem cells3_length {f : Nat → Value} : ∀ m, (∀ i, i < m → Three (f i)) → (cells3 f m).length = m * 3
  | 0, _ => rfl
  | m + 1, h => by
    obtain ⟨ng, so, sn, sc, e, he⟩ := h m (by omega)
    rw [cells3, List.length_append, cells3_length m fun i hi => h i (by omega), he]
    simp [Value.cells]
    omega
theorem cells3_at {f : Nat → Value} : ∀ m, (∀ i, i < m → Three (f i)) → ∀ i j, i < m → j < 3 → (cells3 f m)[i * 3 + j]? = (f i).cells[j]?
  | 0, _, i, j, hi, _ => by omega
  | m + 1, h, i, j, hi, hj => by
    have hl := cells3_length m fun i hi => h i (by omega)
    rw [cells3]
    by_cases e : i = m
    · subst e
      rw [List.getElem?_append_right (by omega), hl, show i * 3 + j - i * 3 = j by omega]
      simp
    · rw [List.getElem?_append_left (by omega)]
      exact cells3_at m (fun i hi => h i (by omega)) i j (by omega) hj
/-- A list of numbers that is the call's own. -/
def OutN (B : Nat) (w : World) (x : Value) (m : Nat) (f : Nat → Value) : Prop := w.ownsRow B 27 3 x m (cells3 f m)
theorem OutN.nil (B : Nat) (w : World) (f : Nat → Value) : OutN B w (.slice none 0 0) 0 f := ⟨rfl, .inl ⟨rfl, rfl⟩⟩
theorem OutN.of_block {B : Nat} {w w' : World} {x : Value} {m : Nat} {f : Nat → Value} (h : OutN B w x m f) (hb : ∀ g, x.ownBlock = some g → w'.heap[g]? = w.heap[g]?) : OutN B w' x m f := by
  refine ⟨h.1, ?_⟩
  rcases h.2 with hn | ⟨g, cap, cur, rfl, hbb, hg, rest⟩
  · exact .inl hn
  · exact .inr ⟨g, cap, cur, rfl, hbb, (hb g rfl).trans hg, rest⟩
theorem OutN.typed {B : Nat} {w : World} {x : Value} {m : Nat} {f : Nat → Value} (h : OutN B w x m f) {g : Nat} (hg : x.ownBlock = some g) : B ≤ g ∧ g < w.heap.size ∧ ∃ cur z, w.heap[g]? = some (.cells cur 27 z) := by
  rcases h.2 with ⟨rfl, _⟩ | ⟨g', cap, cur, rfl, hbb, hg', rest⟩
  · simp [Value.ownBlock] at hg
  · simp only [Value.ownBlock, Option.some.injEq] at hg; subst hg; exact ⟨hbb, (Array.getElem?_eq_some_iff.1 hg').1, cur, _, hg'⟩
theorem OutN.keeps {B : Nat} {w w' : World} {x : Value} {m : Nat} {f : Nat → Value} (h : OutN B w x m f) (hb : Below w.heap.size w w') : OutN B w' x m f := h.of_block fun g hg => hb.block g (h.typed hg).2.1
theorem OutN.shape {B : Nat} {w : World} {x : Value} {m : Nat} {f : Nat → Value} (h : OutN B w x m f) : ∃ xo xc, x = .slice xo m xc ∧ m ≤ xc ∧ (0 < m → ∃ g, xo = some ⟨g, 0, none⟩) := by
  rcases h.2 with ⟨rfl, rfl⟩ | ⟨g, cap, cur, rfl, hb, hg, hn, hm, _⟩
  · exact ⟨none, 0, rfl, Nat.le_refl _, fun h => by omega⟩
  · exact ⟨_, cap, rfl, hn, fun _ => ⟨g, rfl⟩⟩
theorem OutN.cell {B : Nat} {w : World} {xo : Option Addr} {m xc g : Nat} {f : Nat → Value} (h : OutN B w (.slice xo m xc) m f) (ht : ∀ i, i < m → Three (f i)) (hx : xo = some ⟨g, 0, none⟩) {i j : Nat} (hi : i < m) (hj : j < 3) : w.cell? ⟨g, i * 3 + j, none⟩ = (f i).cells[j]? := by
  rcases h.2 with ⟨_, rfl⟩ | ⟨g', cap, cur, e, hb, hg, hn, hm, hs, ht'⟩
  · omega
  · simp only [Value.slice.injEq] at e
    obtain ⟨rfl, _, rfl⟩ := e
    simp only [Option.some.injEq, Addr.mk.injEq] at hx
    obtain ⟨rfl, _⟩ := hx
    rw [cell_of_row w g' (i * 3 + j) cur _ _ hg, ← cells3_at m ht i j hi hj, ← ht', List.getElem?_take_of_lt (by omega)]
    simp
/-- A number's list stays where only lists of numbers grow. -/
theorem DAn.of_blocks {B : Nat} {w w' : World} {V : Int} {v : Value} (h : DAn B w V v) (hb : ∀ (g : Nat) (cur : Array Value) z, w.heap[g]? = some (.cells cur 3 z) → w'.heap[g]? = w.heap[g]?) : DAn B w' V v := by
  obtain ⟨ng, s, m, e, h1, h2, t, d, hO, h3⟩ := h
  exact ⟨ng, s, m, e, h1, h2, t, d, hO.of_block fun g hg => by obtain ⟨cur, z, hc⟩ := hO.typed hg; exact hb g cur z hc, h3⟩
/-- Lists of numbers that are the call's own, each in a block of its own. -/
structure LS (B : Nat) (w : World) (N : Nat) (X : Nat → Value) (M : Nat → Nat) (F : Nat → Nat → Value) : Prop where
  own : ∀ j, j < N → OutN B w (X j) (M j) (F j)
  ne : ∀ i j, i < N → j < N → i ≠ j → ∀ g, (X i).ownBlock = some g → (X j).ownBlock ≠ some g
theorem LS.keeps {B : Nat} {w w' : World} {N : Nat} {X : Nat → Value} {M : Nat → Nat} {F : Nat → Nat → Value} (h : LS B w N X M F) (hb : Below w.heap.size w w') : LS B w' N X M F := ⟨fun j hj => (h.own j hj).keeps hb, h.ne⟩
theorem LS.put {B : Nat} {w w' : World} {N : Nat} {X : Nat → Value} {M : Nat → Nat} {F : Nat → Nat → Value} (h : LS B w N X M F) (j0 : Nat) {row : Option Nat} (hg : w.grownBy w' row) {v' : Value} {M' : Nat} {F' : Nat → Value} (hO : OutN B w' v' M' F') (h1 : ∀ j, j < N → j ≠ j0 → ∀ g, (X j).ownBlock = some g → row ≠ some g) (h2 : ∀ j, j < N → j ≠ j0 → ∀ g, (X j).ownBlock = some g → v'.ownBlock ≠ some g) :
    LS B w' N (updV X j0 v') (updV M j0 M') (updV F j0 F') := by
  refine ⟨fun j hj => ?_, fun i j hi hj hij g hgi => ?_⟩
  · by_cases e : j = j0
    · subst e; rw [updV_same, updV_same, updV_same]; exact hO
    · rw [updV_other _ _ e, updV_other _ _ e, updV_other _ _ e]
      exact (h.own j hj).of_block fun g hgx => hg.block g ((h.own j hj).typed hgx).2.1 fun e' => h1 j hj e g hgx e'.symm
  · by_cases e : i = j0
    · subst e
      rw [updV_same] at hgi
      rw [updV_other _ _ (Ne.symm hij)]
      exact fun hgj => h2 j hj (Ne.symm hij) g hgj hgi
    · rw [updV_other _ _ e] at hgi
      by_cases e2 : j = j0
      · subst e2
        rw [updV_same]
        exact h2 i hi e g hgi
      · rw [updV_other _ _ e2]
        exact h.ne i j hi hj hij g hgi
theorem LS.row {B : Nat} {w : World} {N : Nat} {X : Nat → Value} {M : Nat → Nat} {F : Nat → Nat → Value} (h : LS B w N X M F) {j : Nat} (hj : j < N) : ∀ g, (X j).ownBlock = some g → ∃ (cur : Array Value) (z : Nat × Nat), w.heap[g]? = some (Obj.cells cur 27 z) := fun g hg => (((h.own j hj).typed hg).2.2)
theorem LS.ge {B : Nat} {w : World} {N : Nat} {X : Nat → Value} {M : Nat → Nat} {F : Nat → Nat → Value} (h : LS B w N X M F) {j : Nat} (hj : j < N) : ∀ g, (X j).ownBlock = some g → B ≤ g := fun g hg => ((h.own j hj).typed hg).1
end Go.Proofs.YtelnilmjhdneoaaGreatDoor

/-
  Package plumbref3: Sum, Dot, by contracts.
-/
namespace Go.Proofs.YtelnilmjhdneoaaGreatDoor
open Go Go.RowKit Go.Proofs.YtelnilmjhdneoaaGreatDoor.M
set_option linter.unusedSimpArgs false
set_option linter.unusedVariables false

/-- A sum so far: new memory, or one of the numbers. -/
def Src (B : Nat) (w : World) (n : Nat) (r : Nat → NumR) (V : Int) (v : Value) : Prop := DAn B w V v ∨ ∃ i, i < n ∧ v = (r i).v ∧ V = (r i).V
theorem Src.keeps {B : Nat} {w w' : World} {n : Nat} {r : Nat → NumR} {V : Int} {v : Value} (h : Src B w n r V v) (hb : Below w.heap.size w w') : Src B w' n r V v := by
  rcases h with h | h
  · exact .inl (h.keeps hb)
  · exact .inr h
theorem ints_set3 {w : World} {g o0 o1 o2 : Nat} {xs : Array Value} {z : Nat × Nat} (hg : w.heap[g]? = some (.cells xs 27 z)) (x y u : Value) : ∀ (g' : Nat) (cur : Array Value) z', w.heap[g']? = some (.cells cur 3 z') → (((w.setCell ⟨g, o0, none⟩ x).setCell ⟨g, o1, none⟩ y).setCell ⟨g, o2, none⟩ u).heap[g']? = w.heap[g']? := fun g' cur z' hc => by
  refine (wr3 w g o0 o1 o2 x y u).block g' (Array.getElem?_eq_some_iff.1 hc).1 fun e => ?_
  subst e
  rw [hg] at hc
  simp at hc
end Go.Proofs.YtelnilmjhdneoaaGreatDoor

/-
  Package orient: exact, by its contract: the exact value of an orientation.
-/
namespace Go.Proofs.YtelnilmjhdneoaaGreatDoor
open Go Go.RowKit Go.Proofs.YtelnilmjhdneoaaGreatDoor.M
set_option linter.unusedSimpArgs false
set_option linter.unusedVariables false

theorem blk_on {W y : World} (hb : Below W.heap.size W y) {g : Nat} {X : Obj} (h : W.heap[g]? = some X) : y.heap[g]? = some X := (hb.block _ (Array.getElem?_eq_some_iff.1 h).1).trans h
theorem cellS {W : World} {p : Addr} {v : Value} {o : Nat} (h : W.cell? p = some v) (hp : p.block ≠ o) (x y z : Value) : (((W.setCell ⟨o, 0, none⟩ x).setCell ⟨o, 1, none⟩ y).setCell ⟨o, 2, none⟩ z).cell? p = some v :=
  ((((Wr.refl o W).setCell 0 x |>.setCell 1 y).setCell 2 z).cell (World.block_lt_of_cell? W _ h) hp).trans h
/-- What is answered, put into the result's own block. -/
theorem dan_res3 {B : Nat} {w3 : World} {V : Int} {v : Value} (hv : DAn B w3 V v) {g : Nat} {xs : Array Value} {z : Nat × Nat} (hg : w3.heap[g]? = some (.cells xs 27 z)) (a b c : Value) :
    DAn B (((w3.setCell ⟨g, 0, none⟩ a).setCell ⟨g, 1, none⟩ b).setCell ⟨g, 2, none⟩ c) V v := hv.of_blocks (ints_set3 hg a b c)
/-- The exact value of an orientation, in the scale. -/
def Det (a1 a2 b1 b2 V : Int) : Prop := ∃ C D, C * 2 ^ 4194304 = a1 * b2 ∧ D * 2 ^ 4194304 = a2 * b1 ∧ V = C - D
theorem Det.unique {a1 a2 b1 b2 V V' : Int} (h : Det a1 a2 b1 b2 V) (k : Det a1 a2 b1 b2 V') : V = V' := by
  obtain ⟨C, D, h1, h2, rfl⟩ := h
  obtain ⟨C', D', k1, k2, rfl⟩ := k
  rw [scale_inj (h1.trans k1.symm), scale_inj (h2.trans k2.symm)]
set_option maxRecDepth 100000 in
set_option maxHeartbeats 8000000 in
theorem oexact_any {ax ay bx by' cx cy : Int} (pax : pok ax = true) (pay : pok ay = true) (pbx : pok bx = true) (pby : pok by' = true) (pcx : pok cx = true) (pcy : pok cy = true) (w : World) (H : Hold4 w) :
    Calls Tryz.prog 12 #[.agg #[.int .i64 ax, .int .i64 ay], .agg #[.int .i64 bx, .int .i64 by'], .agg #[.int .i64 cx, .int .i64 cy]] w fun r w' => ∃ v V, r = .returned v ∧ DAns w w' V v ∧ Det (patV ax - patV cx) (patV ay - patV cy) (patV bx - patV cx) (patV by' - patV cy) V ∧ Bd 8100 V := by
  have A1 : Hid (∀ W, Hold4 W → Calls Tryz.prog 22 #[.int .i64 ax, .int .i64 cx] W fun r w' => ∃ v, r = .returned v ∧ DAns W w' (patV ax - patV cx) v) := fun W h => oapart_any pax pcx W h
  have A2 : Hid (∀ W, Hold4 W → Calls Tryz.prog 22 #[.int .i64 by', .int .i64 cy] W fun r w' => ∃ v, r = .returned v ∧ DAns W w' (patV by' - patV cy) v) := fun W h => oapart_any pby pcy W h
  have A3 : Hid (∀ W, Hold4 W → Calls Tryz.prog 22 #[.int .i64 ay, .int .i64 cy] W fun r w' => ∃ v, r = .returned v ∧ DAns W w' (patV ay - patV cy) v) := fun W h => oapart_any pay pcy W h
  have A4 : Hid (∀ W, Hold4 W → Calls Tryz.prog 22 #[.int .i64 bx, .int .i64 cx] W fun r w' => ∃ v, r = .returned v ∧ DAns W w' (patV bx - patV cx) v) := fun W h => oapart_any pbx pcx W h
  have B1 := (patV_bd pax).sub (patV_bd pcx) (by decide)
  have B2 := (patV_bd pby).sub (patV_bd pcy) (by decide)
  have B3 := (patV_bd pay).sub (patV_bd pcy) (by decide)
  have B4 := (patV_bd pbx).sub (patV_bd pcx) (by decide)
  generalize patV ax - patV cx = a1 at *
  generalize patV by' - patV cy = b2 at *
  generalize patV ay - patV cy = a2 at *
  generalize patV bx - patV cx = b1 at *
  clear pax pay pbx pby pcx pcy
  have hb0 := bel_a4 w (.cells #[.int .i64 ax, .int .i64 ay] 23) (.cells #[.int .i64 bx, .int .i64 by'] 23) (.cells #[.int .i64 cx, .int .i64 cy] 23) (.cells #[.bool false, .slice none 0 0, .int .i64 0] 27)
  have a_k := h4_0 w (.cells #[.int .i64 ax, .int .i64 ay] 23) (.cells #[.int .i64 bx, .int .i64 by'] 23) (.cells #[.int .i64 cx, .int .i64 cy] 23) (.cells #[.bool false, .slice none 0 0, .int .i64 0] 27)
  have b_k := h4_1 w (.cells #[.int .i64 ax, .int .i64 ay] 23) (.cells #[.int .i64 bx, .int .i64 by'] 23) (.cells #[.int .i64 cx, .int .i64 cy] 23) (.cells #[.bool false, .slice none 0 0, .int .i64 0] 27)
  have c_k := h4_2 w (.cells #[.int .i64 ax, .int .i64 ay] 23) (.cells #[.int .i64 bx, .int .i64 by'] 23) (.cells #[.int .i64 cx, .int .i64 cy] 23) (.cells #[.bool false, .slice none 0 0, .int .i64 0] 27)
  have r_k := h4_3 w (.cells #[.int .i64 ax, .int .i64 ay] 23) (.cells #[.int .i64 bx, .int .i64 by'] 23) (.cells #[.int .i64 cx, .int .i64 cy] 23) (.cells #[.bool false, .slice none 0 0, .int .i64 0] 27)
  go_enter Tryz.func12, Tryz.ntmps12
  go_wp2_with fail
  rename_i Q0 K00 hK00
  generalize (((w.alloc (.cells #[.int .i64 ax, .int .i64 ay] 23)).alloc (.cells #[.int .i64 bx, .int .i64 by'] 23)).alloc (.cells #[.int .i64 cx, .int .i64 cy] 23)).alloc (.cells #[.bool false, .slice none 0 0, .int .i64 0] 27) = x0 at hb0 a_k b_k c_k r_k ⊢
  have H := H.keeps hb0
  have hK1 := hK00
  have HN1 : ∀ (g : Nat) (x1 : World) (t : Array Value) (l_g : Bool) (l_o : Option Addr) (l_n l_c : Nat) (l_e : Int) (l_V : Int), #[t.getD 0 undef, t.getD 1 undef, t.getD 2 undef, .pointer (some ⟨w.heap.size, 0, none⟩), .pointer (some ⟨w.heap.size + 1, 0, none⟩), .pointer (some ⟨w.heap.size + 1 + 1, 0, none⟩), .pointer (some ⟨w.heap.size + 1 + 1 + 1, 0, none⟩), .pointer (some ⟨g, 0, none⟩), t.getD 8 undef, t.getD 9 undef, t.getD 10 undef, t.getD 11 undef, t.getD 12 undef, t.getD 13 undef, t.getD 14 undef, t.getD 15 undef, t.getD 16 undef, t.getD 17 undef, t.getD 18 undef, t.getD 19 undef, t.getD 20 undef, t.getD 21 undef, t.getD 22 undef, t.getD 23 undef, t.getD 24 undef, t.getD 25 undef, t.getD 26 undef, t.getD 27 undef, t.getD 28 undef, t.getD 29 undef, t.getD 30 undef, t.getD 31 undef, t.getD 32 undef, t.getD 33 undef, t.getD 34 undef, t.getD 35 undef, t.getD 36 undef, t.getD 37 undef, t.getD 38 undef, t.getD 39 undef, t.getD 40 undef, t.getD 41 undef, t.getD 42 undef, t.getD 43 undef, t.getD 44 undef, t.getD 45 undef, t.getD 46 undef, t.getD 47 undef] = t → x0.heap.size ≤ g → x1.heap[g]? = some (.cells #[.bool l_g, .slice l_o l_n l_c, .int .i64 l_e] 27 (0, 0)) → Below x0.heap.size x0 x1 → DAn w.heap.size x1 l_V (.agg #[.bool l_g, .slice l_o l_n l_c, .int .i64 l_e]) → l_V * 2 ^ 4194304 = a1 * b2 → Bd (2 * (4000 + 1)) l_V → Exit.then K00 Q0 Exit.normal { tmps := t, defers := [] } x1 := by
    intro g_l x1 t l_g l_o l_n l_c l_e l_V ht l_ge l_k hw1 l_D l_E l_B
    obtain ⟨u1, hu⟩ : ∃ u : Nat → Value, t = #[u 0, u 1, u 2, .pointer (some ⟨w.heap.size, 0, none⟩), .pointer (some ⟨w.heap.size + 1, 0, none⟩), .pointer (some ⟨w.heap.size + 1 + 1, 0, none⟩), .pointer (some ⟨w.heap.size + 1 + 1 + 1, 0, none⟩), .pointer (some ⟨g_l, 0, none⟩), u 8, u 9, u 10, u 11, u 12, u 13, u 14, u 15, u 16, u 17, u 18, u 19, u 20, u 21, u 22, u 23, u 24, u 25, u 26, u 27, u 28, u 29, u 30, u 31, u 32, u 33, u 34, u 35, u 36, u 37, u 38, u 39, u 40, u 41, u 42, u 43, u 44, u 45, u 46, u 47] := ⟨fun k => t.getD k undef, ht.symm⟩
    clear ht
    subst hu
    have H := H.keeps hw1
    have a_k := (hw1.block _ (Array.getElem?_eq_some_iff.1 a_k).1).trans a_k
    have b_k := (hw1.block _ (Array.getElem?_eq_some_iff.1 b_k).1).trans b_k
    have c_k := (hw1.block _ (Array.getElem?_eq_some_iff.1 c_k).1).trans c_k
    have r_k := (hw1.block _ (Array.getElem?_eq_some_iff.1 r_k).1).trans r_k
    have hb1 := bel_trans hb0 hw1
    go_wp2_with fail
    rename_i K2 hK2
    have HN2 : ∀ (g : Nat) (x2 : World) (t : Array Value) (s_g : Bool) (s_o : Option Addr) (s_n s_c : Nat) (s_e : Int) (s_V : Int), #[t.getD 0 undef, t.getD 1 undef, t.getD 2 undef, .pointer (some ⟨w.heap.size, 0, none⟩), .pointer (some ⟨w.heap.size + 1, 0, none⟩), .pointer (some ⟨w.heap.size + 1 + 1, 0, none⟩), .pointer (some ⟨w.heap.size + 1 + 1 + 1, 0, none⟩), .pointer (some ⟨g_l, 0, none⟩), t.getD 8 undef, .pointer (some ⟨g, 0, none⟩), t.getD 10 undef, t.getD 11 undef, t.getD 12 undef, t.getD 13 undef, t.getD 14 undef, t.getD 15 undef, t.getD 16 undef, t.getD 17 undef, t.getD 18 undef, t.getD 19 undef, t.getD 20 undef, t.getD 21 undef, t.getD 22 undef, t.getD 23 undef, t.getD 24 undef, t.getD 25 undef, t.getD 26 undef, t.getD 27 undef, t.getD 28 undef, t.getD 29 undef, t.getD 30 undef, t.getD 31 undef, t.getD 32 undef, t.getD 33 undef, t.getD 34 undef, t.getD 35 undef, t.getD 36 undef, t.getD 37 undef, t.getD 38 undef, t.getD 39 undef, t.getD 40 undef, t.getD 41 undef, t.getD 42 undef, t.getD 43 undef, t.getD 44 undef, t.getD 45 undef, t.getD 46 undef, t.getD 47 undef] = t → x1.heap.size ≤ g → x2.heap[g]? = some (.cells #[.bool s_g, .slice s_o s_n s_c, .int .i64 s_e] 27 (0, 0)) → Below x1.heap.size x1 x2 → DAn w.heap.size x2 s_V (.agg #[.bool s_g, .slice s_o s_n s_c, .int .i64 s_e]) → s_V * 2 ^ 4194304 = a2 * b1 → Bd (2 * (4000 + 1)) s_V → Exit.then K2 Q0 Exit.normal { tmps := t, defers := [] } x2 := by
      intro g_s x2 t s_g s_o s_n s_c s_e s_V ht s_ge s_k hw2 s_D s_E s_B
      obtain ⟨u2, hu⟩ : ∃ u : Nat → Value, t = #[u 0, u 1, u 2, .pointer (some ⟨w.heap.size, 0, none⟩), .pointer (some ⟨w.heap.size + 1, 0, none⟩), .pointer (some ⟨w.heap.size + 1 + 1, 0, none⟩), .pointer (some ⟨w.heap.size + 1 + 1 + 1, 0, none⟩), .pointer (some ⟨g_l, 0, none⟩), u 8, .pointer (some ⟨g_s, 0, none⟩), u 10, u 11, u 12, u 13, u 14, u 15, u 16, u 17, u 18, u 19, u 20, u 21, u 22, u 23, u 24, u 25, u 26, u 27, u 28, u 29, u 30, u 31, u 32, u 33, u 34, u 35, u 36, u 37, u 38, u 39, u 40, u 41, u 42, u 43, u 44, u 45, u 46, u 47] := ⟨fun k => t.getD k undef, ht.symm⟩
      clear ht
      subst hu
      have H := H.keeps hw2
      have a_k := (hw2.block _ (Array.getElem?_eq_some_iff.1 a_k).1).trans a_k
      have b_k := (hw2.block _ (Array.getElem?_eq_some_iff.1 b_k).1).trans b_k
      have c_k := (hw2.block _ (Array.getElem?_eq_some_iff.1 c_k).1).trans c_k
      have r_k := (hw2.block _ (Array.getElem?_eq_some_iff.1 r_k).1).trans r_k
      have l_k := (hw2.block _ (Array.getElem?_eq_some_iff.1 l_k).1).trans l_k
      have l_D := l_D.keeps hw2
      have hb2 := bel_trans hb1 hw2
      have f_l0 := blkC l_k 0 rfl
      have f_l1 := blkC l_k 1 rfl
      have f_l2 := blkC l_k 2 rfl
      have f_s0 := blkC s_k 0 rfl
      have f_s1 := blkC s_k 1 rfl
      have f_s2 := blkC s_k 2 rfl
      go_wp2_with fail
      clear f_l0 f_l1 f_l2 f_s0 f_s1 f_s2
      have hs0 := (Array.getElem?_eq_some_iff.1 r_k).1
      refine (sub_B l_D.num s_D.num l_B s_B (by omega) H.tab).mono ?_
      rintro _ y3 ⟨v, rfl, h3⟩
      obtain ⟨n_g, n_o, n_n, n_c, n_e, rfl⟩ := dans_shape h3
      have hw3 := h3.below
      have n_D := h3.num
      have H := H.keeps hw3
      have a_k := (hw3.block _ (Array.getElem?_eq_some_iff.1 a_k).1).trans a_k
      have b_k := (hw3.block _ (Array.getElem?_eq_some_iff.1 b_k).1).trans b_k
      have c_k := (hw3.block _ (Array.getElem?_eq_some_iff.1 c_k).1).trans c_k
      have r_k := (hw3.block _ (Array.getElem?_eq_some_iff.1 r_k).1).trans r_k
      have l_k := (hw3.block _ (Array.getElem?_eq_some_iff.1 l_k).1).trans l_k
      have l_D := l_D.keeps hw3
      have s_k := (hw3.block _ (Array.getElem?_eq_some_iff.1 s_k).1).trans s_k
      have s_D := s_D.keeps hw3
      have hb3 := bel_trans hb2 hw3
      have r_k := heap_past (.cells #[.bool n_g, .slice n_o n_n n_c, .int .i64 n_e] 27) r_k
      have k0 := blkC r_k 0 rfl
      have k1 := blkC r_k 1 rfl
      have k2 := blkC r_k 2 rfl
      have z0 := blkF r_k 0
      have z1 := blkF r_k 1
      have z2 := blkF r_k 2
      go_wp2
      refine bodyPost_ret (v := .agg #[.bool n_g, .slice n_o n_n n_c, .int .i64 n_e]) (by simp [results, Tryz.results12, go_sem, k0, k1, k2]) rfl ⟨_, l_V - s_V, rfl, ?_, ⟨l_V, s_V, l_E, s_E, rfl⟩, ?_⟩
      · exact dans_res3 (g := w.heap.size + 3) (dans_past h3 _) (by assumption) (by omega) hs0 _ _ _
      · exact (l_B.sub s_B (by decide)).up (by decide) (by decide)
    have KK2 : ∀ W, Below x1.heap.size x1 W → W.cell? ⟨w.heap.size, 1, none⟩ = some (.int .i64 ay) ∧ W.cell? ⟨w.heap.size + 2, 1, none⟩ = some (.int .i64 cy) ∧ W.cell? ⟨w.heap.size + 1, 0, none⟩ = some (.int .i64 bx) ∧ W.cell? ⟨w.heap.size + 2, 0, none⟩ = some (.int .i64 cx) := fun W hb => ⟨q_cell (blkC a_k 1 rfl) hb, q_cell (blkC c_k 1 rfl) hb, q_cell (blkC b_k 0 rfl) hb, q_cell (blkC c_k 0 rfl) hb⟩
    have hC2_0 := (bel_refl x1).drew
    have hT2_0 : Below w.heap.size w x1.drew := hb1.drew
    have H_2_0 := H.keeps (bel_refl x1).drew
    have hs2_0 := (bel_refl x1).drew
    go_region_held3 (fun W => W.cell? ⟨w.heap.size, 1, none⟩ = some (.int .i64 ay) ∧ W.cell? ⟨w.heap.size + 2, 1, none⟩ = some (.int .i64 cy) ∧ W.cell? ⟨w.heap.size + 1, 0, none⟩ = some (.int .i64 bx) ∧ W.cell? ⟨w.heap.size + 2, 0, none⟩ = some (.int .i64 cx))
      (first | assumption | exact KK2 _ hC2_0 | exact KK2 _ hC2_1 | exact KK2 _ hC2_2 | exact KK2 _ hC2_3 | exact KK2 _ (bel_trans hC2_0 (bel_alloc _ _)) | exact KK2 _ (bel_trans hC2_1 (bel_alloc _ _)) | exact KK2 _ (bel_trans hC2_2 (bel_alloc _ _)) | exact KK2 _ (bel_trans hC2_3 (bel_alloc _ _)) | exact KK2 _ (bel_set3' hC2_3 (Nat.le_refl _) _ _ _) | exact KK2 _ (bel_set3' hC2_3 hC2_1.size _ _ _) | exact KK2 _ (bel_set3' hC2_3 hC2_2.size _ _ _) | fail)
      (first
        | (go_at_call 21; have _t := hs2_2; refine (mul_B (np2.keeps (by first | exact bel_refl _ | exact bel_alloc _ _)) (nb2.num.keeps (by first | exact bel_refl _ | exact bel_alloc _ _)) B3 B4 (by omega) (H_2_2.keeps (by first | exact bel_refl _ | exact bel_alloc _ _)).tab).mono ?_; rintro _ y2_3 ⟨v, s_V, rfl, nm2, s_E, s_B⟩; obtain ⟨s_g, s_o, s_n, s_c, s_e, rfl⟩ := dans_shape nm2; have hq2_3 := nm2.below; have s_A := nm2.dan.lower (Nat.le_trans hT2_2.size (by first | exact Nat.le_refl _ | exact (bel_alloc _ _).size)); have hs2_3 : Below y2_2.heap.size y2_2 y2_3 := (by first | exact hq2_3 | exact bel_trans (bel_alloc _ _) hq2_3); have hT2_3 := bel_trans hT2_2 hs2_3; have hC2_3 := bel_trans hC2_2 hs2_3; have H_2_3 := H_2_2.keeps hs2_3; first | (have qz2 : y2_3.heap[x1.heap.size]? = some (.cells #[.bool false, .slice none 0 0, .int .i64 0] 27 (0, 0)) := blk_on hq2_3 (blk_on hq2_2 (blk_on hq2_1 (heap_a1 x1 (.cells #[.bool false, .slice none 0 0, .int .i64 0] 27)))); have cz2_0 := blkC qz2 0 rfl; have zz2_0 := blkF qz2 0; have cz2_1 := blkC qz2 1 rfl; have zz2_1 := blkF qz2 1; have cz2_2 := blkC qz2 2 rfl; have zz2_2 := blkF qz2 2) | (have qz2 : y2_3.heap[y2_1.heap.size]? = some (.cells #[.bool false, .slice none 0 0, .int .i64 0] 27 (0, 0)) := blk_on hq2_3 (blk_on hq2_2 (heap_a1 _ _)); have cz2_0 := blkC qz2 0 rfl; have zz2_0 := blkF qz2 0; have cz2_1 := blkC qz2 1 rfl; have zz2_1 := blkF qz2 1; have cz2_2 := blkC qz2 2 rfl; have zz2_2 := blkF qz2 2) | (have qz2 : y2_3.heap[y2_2.heap.size]? = some (.cells #[.bool false, .slice none 0 0, .int .i64 0] 27 (0, 0)) := blk_on hq2_3 (heap_a1 _ _); have cz2_0 := blkC qz2 0 rfl; have zz2_0 := blkF qz2 0; have cz2_1 := blkC qz2 1 rfl; have zz2_1 := blkF qz2 1; have cz2_2 := blkC qz2 2 rfl; have zz2_2 := blkF qz2 2) | skip)
        | (go_at_call 22; have _t := hs2_1; refine (A4.out _ (H_2_1.keeps (by first | exact bel_refl _ | exact bel_alloc _ _))).mono ?_; rintro _ y2_2 ⟨v, rfl, nb2⟩; obtain ⟨q_g, q_o, q_n, q_c, q_e, rfl⟩ := dans_shape nb2; have hq2_2 := nb2.below; have hs2_2 : Below y2_1.heap.size y2_1 y2_2 := (by first | exact hq2_2 | exact bel_trans (bel_alloc _ _) hq2_2); have hT2_2 := bel_trans hT2_1 hs2_2; have hC2_2 := bel_trans hC2_1 hs2_2; have H_2_2 := H_2_1.keeps hs2_2; have np2 := na2.num.keeps hs2_2)
        | (go_at_call 22; refine (A3.out _ (H_2_0.keeps (by first | exact bel_refl _ | exact bel_alloc _ _))).mono ?_; rintro _ y2_1 ⟨v, rfl, na2⟩; obtain ⟨p_g, p_o, p_n, p_c, p_e, rfl⟩ := dans_shape na2; have hq2_1 := na2.below; have hs2_1 : Below x1.drew.heap.size x1.drew y2_1 := (by first | exact hq2_1 | exact bel_trans (bel_alloc _ _) hq2_1); have hT2_1 := bel_trans hT2_0 hs2_1; have hC2_1 := bel_trans hC2_0 hs2_1; have H_2_1 := H_2_0.keeps hs2_1))
    · exact HN2 y2_3.heap.size _ _ _ _ _ _ _ s_V (by kernel_rfl) ((bel_trans (bel_trans (bel_trans (hs2_0) hs2_1) hs2_2) hs2_3).size) (heap_a1 _ _) (bel_trans (bel_trans (bel_trans (bel_trans (hs2_0) hs2_1) hs2_2) hs2_3) (bel_alloc _ _)) (s_A.keeps (bel_alloc _ _)) s_E s_B
    · exact HN2 y2_2.heap.size _ _ _ _ _ _ _ s_V (by kernel_rfl) ((bel_trans (bel_trans (hs2_0) hs2_1) hs2_2).size) (heap_set (heap_set (heap_set (blk_on hq2_3 (heap_a1 _ _)) 0 _) 1 _) 2 _) (bel_set3' (bel_trans (bel_trans (bel_trans (hs2_0) hs2_1) hs2_2) hs2_3) ((bel_trans (bel_trans (hs2_0) hs2_1) hs2_2).size) _ _ _) (dan_res3 s_A (blk_on hq2_3 (heap_a1 _ _)) _ _ _) s_E s_B
    · exact HN2 y2_1.heap.size _ _ _ _ _ _ _ s_V (by kernel_rfl) ((bel_trans (hs2_0) hs2_1).size) (heap_set (heap_set (heap_set (blk_on hq2_3 (blk_on hq2_2 (heap_a1 _ _))) 0 _) 1 _) 2 _) (bel_set3' (bel_trans (bel_trans (bel_trans (hs2_0) hs2_1) hs2_2) hs2_3) ((bel_trans (hs2_0) hs2_1).size) _ _ _) (dan_res3 s_A (blk_on hq2_3 (blk_on hq2_2 (heap_a1 _ _))) _ _ _) s_E s_B
    · exact HN2 x1.heap.size _ _ _ _ _ _ _ s_V (by kernel_rfl) (Nat.le_refl _) (heap_set (heap_set (heap_set (blk_on hq2_3 (blk_on hq2_2 (blk_on hq2_1 (heap_a1 x1 (.cells #[.bool false, .slice none 0 0, .int .i64 0] 27))))) 0 _) 1 _) 2 _) (bel_set3' (bel_trans (bel_trans (bel_trans (hs2_0) hs2_1) hs2_2) hs2_3) (Nat.le_refl _) _ _ _) (dan_res3 s_A (blk_on hq2_3 (blk_on hq2_2 (blk_on hq2_1 (heap_a1 x1 (.cells #[.bool false, .slice none 0 0, .int .i64 0] 27))))) _ _ _) s_E s_B
  have KK1 : ∀ W, Below x0.heap.size x0 W → W.cell? ⟨w.heap.size, 0, none⟩ = some (.int .i64 ax) ∧ W.cell? ⟨w.heap.size + 2, 0, none⟩ = some (.int .i64 cx) ∧ W.cell? ⟨w.heap.size + 1, 1, none⟩ = some (.int .i64 by') ∧ W.cell? ⟨w.heap.size + 2, 1, none⟩ = some (.int .i64 cy) := fun W hb => ⟨q_cell (blkC a_k 0 rfl) hb, q_cell (blkC c_k 0 rfl) hb, q_cell (blkC b_k 1 rfl) hb, q_cell (blkC c_k 1 rfl) hb⟩
  have hC1_0 := (bel_refl x0).drew
  have hT1_0 : Below w.heap.size w x0.drew := hb0.drew
  have H_1_0 := H.keeps (bel_refl x0).drew
  have hs1_0 := (bel_refl x0).drew
  go_region_held3 (fun W => W.cell? ⟨w.heap.size, 0, none⟩ = some (.int .i64 ax) ∧ W.cell? ⟨w.heap.size + 2, 0, none⟩ = some (.int .i64 cx) ∧ W.cell? ⟨w.heap.size + 1, 1, none⟩ = some (.int .i64 by') ∧ W.cell? ⟨w.heap.size + 2, 1, none⟩ = some (.int .i64 cy))
    (first | assumption | exact KK1 _ hC1_0 | exact KK1 _ hC1_1 | exact KK1 _ hC1_2 | exact KK1 _ hC1_3 | exact KK1 _ (bel_trans hC1_0 (bel_alloc _ _)) | exact KK1 _ (bel_trans hC1_1 (bel_alloc _ _)) | exact KK1 _ (bel_trans hC1_2 (bel_alloc _ _)) | exact KK1 _ (bel_trans hC1_3 (bel_alloc _ _)) | exact KK1 _ (bel_set3' hC1_3 (Nat.le_refl _) _ _ _) | exact KK1 _ (bel_set3' hC1_3 hC1_1.size _ _ _) | exact KK1 _ (bel_set3' hC1_3 hC1_2.size _ _ _) | fail)
    (first
      | (go_at_call 21; have _t := hs1_2; refine (mul_B (np1.keeps (by first | exact bel_refl _ | exact bel_alloc _ _)) (nb1.num.keeps (by first | exact bel_refl _ | exact bel_alloc _ _)) B1 B2 (by omega) (H_1_2.keeps (by first | exact bel_refl _ | exact bel_alloc _ _)).tab).mono ?_; rintro _ y1_3 ⟨v, l_V, rfl, nm1, l_E, l_B⟩; obtain ⟨l_g, l_o, l_n, l_c, l_e, rfl⟩ := dans_shape nm1; have hq1_3 := nm1.below; have l_A := nm1.dan.lower (Nat.le_trans hT1_2.size (by first | exact Nat.le_refl _ | exact (bel_alloc _ _).size)); have hs1_3 : Below y1_2.heap.size y1_2 y1_3 := (by first | exact hq1_3 | exact bel_trans (bel_alloc _ _) hq1_3); have hT1_3 := bel_trans hT1_2 hs1_3; have hC1_3 := bel_trans hC1_2 hs1_3; have H_1_3 := H_1_2.keeps hs1_3; first | (have qz1 : y1_3.heap[x0.heap.size]? = some (.cells #[.bool false, .slice none 0 0, .int .i64 0] 27 (0, 0)) := blk_on hq1_3 (blk_on hq1_2 (blk_on hq1_1 (heap_a1 x0 (.cells #[.bool false, .slice none 0 0, .int .i64 0] 27)))); have cz1_0 := blkC qz1 0 rfl; have zz1_0 := blkF qz1 0; have cz1_1 := blkC qz1 1 rfl; have zz1_1 := blkF qz1 1; have cz1_2 := blkC qz1 2 rfl; have zz1_2 := blkF qz1 2) | (have qz1 : y1_3.heap[y1_1.heap.size]? = some (.cells #[.bool false, .slice none 0 0, .int .i64 0] 27 (0, 0)) := blk_on hq1_3 (blk_on hq1_2 (heap_a1 _ _)); have cz1_0 := blkC qz1 0 rfl; have zz1_0 := blkF qz1 0; have cz1_1 := blkC qz1 1 rfl; have zz1_1 := blkF qz1 1; have cz1_2 := blkC qz1 2 rfl; have zz1_2 := blkF qz1 2) | (have qz1 : y1_3.heap[y1_2.heap.size]? = some (.cells #[.bool false, .slice none 0 0, .int .i64 0] 27 (0, 0)) := blk_on hq1_3 (heap_a1 _ _); have cz1_0 := blkC qz1 0 rfl; have zz1_0 := blkF qz1 0; have cz1_1 := blkC qz1 1 rfl; have zz1_1 := blkF qz1 1; have cz1_2 := blkC qz1 2 rfl; have zz1_2 := blkF qz1 2) | skip)
      | (go_at_call 22; have _t := hs1_1; refine (A2.out _ (H_1_1.keeps (by first | exact bel_refl _ | exact bel_alloc _ _))).mono ?_; rintro _ y1_2 ⟨v, rfl, nb1⟩; obtain ⟨q_g, q_o, q_n, q_c, q_e, rfl⟩ := dans_shape nb1; have hq1_2 := nb1.below; have hs1_2 : Below y1_1.heap.size y1_1 y1_2 := (by first | exact hq1_2 | exact bel_trans (bel_alloc _ _) hq1_2); have hT1_2 := bel_trans hT1_1 hs1_2; have hC1_2 := bel_trans hC1_1 hs1_2; have H_1_2 := H_1_1.keeps hs1_2; have np1 := na1.num.keeps hs1_2)
      | (go_at_call 22; refine (A1.out _ (H_1_0.keeps (by first | exact bel_refl _ | exact bel_alloc _ _))).mono ?_; rintro _ y1_1 ⟨v, rfl, na1⟩; obtain ⟨p_g, p_o, p_n, p_c, p_e, rfl⟩ := dans_shape na1; have hq1_1 := na1.below; have hs1_1 : Below x0.drew.heap.size x0.drew y1_1 := (by first | exact hq1_1 | exact bel_trans (bel_alloc _ _) hq1_1); have hT1_1 := bel_trans hT1_0 hs1_1; have hC1_1 := bel_trans hC1_0 hs1_1; have H_1_1 := H_1_0.keeps hs1_1))
  · exact HN1 y1_3.heap.size _ _ _ _ _ _ _ l_V (by kernel_rfl) ((bel_trans (bel_trans (bel_trans (hs1_0) hs1_1) hs1_2) hs1_3).size) (heap_a1 _ _) (bel_trans (bel_trans (bel_trans (bel_trans (hs1_0) hs1_1) hs1_2) hs1_3) (bel_alloc _ _)) (l_A.keeps (bel_alloc _ _)) l_E l_B
  · exact HN1 y1_2.heap.size _ _ _ _ _ _ _ l_V (by kernel_rfl) ((bel_trans (bel_trans (hs1_0) hs1_1) hs1_2).size) (heap_set (heap_set (heap_set (blk_on hq1_3 (heap_a1 _ _)) 0 _) 1 _) 2 _) (bel_set3' (bel_trans (bel_trans (bel_trans (hs1_0) hs1_1) hs1_2) hs1_3) ((bel_trans (bel_trans (hs1_0) hs1_1) hs1_2).size) _ _ _) (dan_res3 l_A (blk_on hq1_3 (heap_a1 _ _)) _ _ _) l_E l_B
  · exact HN1 y1_1.heap.size _ _ _ _ _ _ _ l_V (by kernel_rfl) ((bel_trans (hs1_0) hs1_1).size) (heap_set (heap_set (heap_set (blk_on hq1_3 (blk_on hq1_2 (heap_a1 _ _))) 0 _) 1 _) 2 _) (bel_set3' (bel_trans (bel_trans (bel_trans (hs1_0) hs1_1) hs1_2) hs1_3) ((bel_trans (hs1_0) hs1_1).size) _ _ _) (dan_res3 l_A (blk_on hq1_3 (blk_on hq1_2 (heap_a1 _ _))) _ _ _) l_E l_B
  · exact HN1 x0.heap.size _ _ _ _ _ _ _ l_V (by kernel_rfl) (Nat.le_refl _) (heap_set (heap_set (heap_set (blk_on hq1_3 (blk_on hq1_2 (blk_on hq1_1 (heap_a1 x0 (.cells #[.bool false, .slice none 0 0, .int .i64 0] 27))))) 0 _) 1 _) 2 _) (bel_set3' (bel_trans (bel_trans (bel_trans (hs1_0) hs1_1) hs1_2) hs1_3) (Nat.le_refl _) _ _ _) (dan_res3 l_A (blk_on hq1_3 (blk_on hq1_2 (blk_on hq1_1 (heap_a1 x0 (.cells #[.bool false, .slice none 0 0, .int .i64 0] 27))))) _ _ _) l_E l_B
end Go.Proofs.YtelnilmjhdneoaaGreatDoor

/-
  Package orient: points, Exact, by their contracts; plumblaw10's good, num.
-/
namespace Go.Proofs.YtelnilmjhdneoaaGreatDoor
open Go Go.RowKit Go.Proofs.YtelnilmjhdneoaaGreatDoor.M
set_option linter.unusedSimpArgs false
set_option linter.unusedVariables false

set_option maxRecDepth 100000 in
theorem opoints_any {ax ay bx by' cx cy : Int} (rax : rng ax) (ray : rng ay) (rbx : rng bx) (rby : rng by') (rcx : rng cx) (rcy : rng cy) (w : World) :
    Calls Tryz.prog 11 #[.agg #[.int .i64 ax, .int .i64 ay], .agg #[.int .i64 bx, .int .i64 by'], .agg #[.int .i64 cx, .int .i64 cy]] w fun r w' => r = .returned (.bool ((pok ax && pok ay) && (pok bx && pok by') && (pok cx && pok cy))) ∧ Below w.heap.size w w' := by
  have CA : Hid (∀ W, Calls Tryz.prog 20 #[.agg #[.int .i64 ax, .int .i64 ay]] W fun e w' => e = .returned (.int .i64 (errF (pok ax && pok ay))) ∧ Below W.heap.size W w') := fun W => pointCheck rax ray W
  have CB : Hid (∀ W, Calls Tryz.prog 20 #[.agg #[.int .i64 bx, .int .i64 by']] W fun e w' => e = .returned (.int .i64 (errF (pok bx && pok by'))) ∧ Below W.heap.size W w') := fun W => pointCheck rbx rby W
  have CC : Hid (∀ W, Calls Tryz.prog 20 #[.agg #[.int .i64 cx, .int .i64 cy]] W fun e w' => e = .returned (.int .i64 (errF (pok cx && pok cy))) ∧ Below W.heap.size W w') := fun W => pointCheck rcx rcy W
  have hb0 := bel_a3 w (.cells #[.int .i64 ax, .int .i64 ay] 23) (.cells #[.int .i64 bx, .int .i64 by'] 23) (.cells #[.int .i64 cx, .int .i64 cy] 23)
  have a_k := h3_0 w (.cells #[.int .i64 ax, .int .i64 ay] 23) (.cells #[.int .i64 bx, .int .i64 by'] 23) (.cells #[.int .i64 cx, .int .i64 cy] 23)
  have b_k := h3_1 w (.cells #[.int .i64 ax, .int .i64 ay] 23) (.cells #[.int .i64 bx, .int .i64 by'] 23) (.cells #[.int .i64 cx, .int .i64 cy] 23)
  have c_k := h3_2 w (.cells #[.int .i64 ax, .int .i64 ay] 23) (.cells #[.int .i64 bx, .int .i64 by'] 23) (.cells #[.int .i64 cx, .int .i64 cy] 23)
  clear rax ray rbx rby rcx rcy
  have e0 : errF true = 0 := rfl
  have e1 : errF false = 10 := rfl
  generalize (pok ax && pok ay) = P at *
  generalize (pok bx && pok by') = Q at *
  generalize (pok cx && pok cy) = R at *
  cases P
  · rw [e1] at CA
    go_enter Tryz.func11, Tryz.ntmps11
    go_wp2_with fail
    generalize ((w.alloc (.cells #[.int .i64 ax, .int .i64 ay] 23)).alloc (.cells #[.int .i64 bx, .int .i64 by'] 23)).alloc (.cells #[.int .i64 cx, .int .i64 cy] 23) = x0 at hb0 a_k b_k c_k ⊢
    refine (CA.out _).mono ?_
    rintro _ y0 ⟨rfl, hw0⟩
    have b_k := (hw0.block _ (Array.getElem?_eq_some_iff.1 b_k).1).trans b_k
    have c_k := (hw0.block _ (Array.getElem?_eq_some_iff.1 c_k).1).trans c_k
    have hb1 := bel_trans hb0 hw0
    go_wp2
    all_goals go_ret
    all_goals exact ⟨rfl, by first | exact hb1 | exact hb1.drew⟩
  rw [e0] at CA
  cases Q
  · rw [e1] at CB
    go_enter Tryz.func11, Tryz.ntmps11
    go_wp2_with fail
    generalize ((w.alloc (.cells #[.int .i64 ax, .int .i64 ay] 23)).alloc (.cells #[.int .i64 bx, .int .i64 by'] 23)).alloc (.cells #[.int .i64 cx, .int .i64 cy] 23) = x0 at hb0 a_k b_k c_k ⊢
    refine (CA.out _).mono ?_
    rintro _ y0 ⟨rfl, hw0⟩
    have b_k := (hw0.block _ (Array.getElem?_eq_some_iff.1 b_k).1).trans b_k
    have c_k := (hw0.block _ (Array.getElem?_eq_some_iff.1 c_k).1).trans c_k
    have hb1 := bel_trans hb0 hw0
    have f10 := blkC b_k 0 rfl
    have f11 := blkC b_k 1 rfl
    go_wp2_with fail
    refine (CB.out _).mono ?_
    rintro _ y1 ⟨rfl, hw1⟩
    have c_k := (hw1.block _ (Array.getElem?_eq_some_iff.1 c_k).1).trans c_k
    have hb2 := bel_trans hb1 hw1
    go_wp2
    all_goals go_ret
    all_goals exact ⟨rfl, by first | exact hb2 | exact hb2.drew⟩
  rw [e0] at CB
  cases R
  · rw [e1] at CC
    go_enter Tryz.func11, Tryz.ntmps11
    go_wp2_with fail
    generalize ((w.alloc (.cells #[.int .i64 ax, .int .i64 ay] 23)).alloc (.cells #[.int .i64 bx, .int .i64 by'] 23)).alloc (.cells #[.int .i64 cx, .int .i64 cy] 23) = x0 at hb0 a_k b_k c_k ⊢
    refine (CA.out _).mono ?_
    rintro _ y0 ⟨rfl, hw0⟩
    have b_k := (hw0.block _ (Array.getElem?_eq_some_iff.1 b_k).1).trans b_k
    have c_k := (hw0.block _ (Array.getElem?_eq_some_iff.1 c_k).1).trans c_k
    have hb1 := bel_trans hb0 hw0
    have f10 := blkC b_k 0 rfl
    have f11 := blkC b_k 1 rfl
    go_wp2_with fail
    refine (CB.out _).mono ?_
    rintro _ y1 ⟨rfl, hw1⟩
    have c_k := (hw1.block _ (Array.getElem?_eq_some_iff.1 c_k).1).trans c_k
    have hb2 := bel_trans hb1 hw1
    have f20 := blkC c_k 0 rfl
    have f21 := blkC c_k 1 rfl
    go_wp2_with fail
    refine (CC.out _).mono ?_
    rintro _ y2 ⟨rfl, hw2⟩
    have hb3 := bel_trans hb2 hw2
    go_wp2
    all_goals go_ret
    all_goals exact ⟨rfl, by first | exact hb3 | exact hb3.drew⟩
  · rw [e0] at CC
    go_enter Tryz.func11, Tryz.ntmps11
    go_wp2_with fail
    generalize ((w.alloc (.cells #[.int .i64 ax, .int .i64 ay] 23)).alloc (.cells #[.int .i64 bx, .int .i64 by'] 23)).alloc (.cells #[.int .i64 cx, .int .i64 cy] 23) = x0 at hb0 a_k b_k c_k ⊢
    refine (CA.out _).mono ?_
    rintro _ y0 ⟨rfl, hw0⟩
    have b_k := (hw0.block _ (Array.getElem?_eq_some_iff.1 b_k).1).trans b_k
    have c_k := (hw0.block _ (Array.getElem?_eq_some_iff.1 c_k).1).trans c_k
    have hb1 := bel_trans hb0 hw0
    have f10 := blkC b_k 0 rfl
    have f11 := blkC b_k 1 rfl
    go_wp2_with fail
    refine (CB.out _).mono ?_
    rintro _ y1 ⟨rfl, hw1⟩
    have c_k := (hw1.block _ (Array.getElem?_eq_some_iff.1 c_k).1).trans c_k
    have hb2 := bel_trans hb1 hw1
    have f20 := blkC c_k 0 rfl
    have f21 := blkC c_k 1 rfl
    go_wp2_with fail
    refine (CC.out _).mono ?_
    rintro _ y2 ⟨rfl, hw2⟩
    have hb3 := bel_trans hb2 hw2
    go_wp2
    all_goals go_ret
    all_goals exact ⟨rfl, by first | exact hb3 | exact hb3.drew⟩
set_option maxRecDepth 100000 in
theorem ogood_any {ax ay bx by' cx cy : Int} (rax : rng ax) (ray : rng ay) (rbx : rng bx) (rby : rng by') (rcx : rng cx) (rcy : rng cy) (w : World) :
    Calls Tryz.prog 6 #[.agg #[.int .i64 ax, .int .i64 ay], .agg #[.int .i64 bx, .int .i64 by'], .agg #[.int .i64 cx, .int .i64 cy]] w fun r w' => r = .returned (.bool ((pok ax && pok ay) && (pok bx && pok by') && (pok cx && pok cy))) ∧ Below w.heap.size w w' := by
  have CA : Hid (∀ W, Calls Tryz.prog 13 #[.agg #[.int .i64 ax, .int .i64 ay]] W fun e w' => e = .returned (.bool (pok ax && pok ay)) ∧ Below W.heap.size W w') := fun W => q_refFinite rax ray W
  have CB : Hid (∀ W, Calls Tryz.prog 13 #[.agg #[.int .i64 bx, .int .i64 by']] W fun e w' => e = .returned (.bool (pok bx && pok by')) ∧ Below W.heap.size W w') := fun W => q_refFinite rbx rby W
  have CC : Hid (∀ W, Calls Tryz.prog 13 #[.agg #[.int .i64 cx, .int .i64 cy]] W fun e w' => e = .returned (.bool (pok cx && pok cy)) ∧ Below W.heap.size W w') := fun W => q_refFinite rcx rcy W
  have hb0 := bel_a3 w (.cells #[.int .i64 ax, .int .i64 ay] 23) (.cells #[.int .i64 bx, .int .i64 by'] 23) (.cells #[.int .i64 cx, .int .i64 cy] 23)
  have a_k := h3_0 w (.cells #[.int .i64 ax, .int .i64 ay] 23) (.cells #[.int .i64 bx, .int .i64 by'] 23) (.cells #[.int .i64 cx, .int .i64 cy] 23)
  have b_k := h3_1 w (.cells #[.int .i64 ax, .int .i64 ay] 23) (.cells #[.int .i64 bx, .int .i64 by'] 23) (.cells #[.int .i64 cx, .int .i64 cy] 23)
  have c_k := h3_2 w (.cells #[.int .i64 ax, .int .i64 ay] 23) (.cells #[.int .i64 bx, .int .i64 by'] 23) (.cells #[.int .i64 cx, .int .i64 cy] 23)
  clear rax ray rbx rby rcx rcy
  have e0 : errF true = 0 := rfl
  have e1 : errF false = 10 := rfl
  generalize (pok ax && pok ay) = P at *
  generalize (pok bx && pok by') = Q at *
  generalize (pok cx && pok cy) = R at *
  cases P <;> cases Q <;> cases R
  all_goals
    go_enter Tryz.func6, Tryz.ntmps6
    go_wp2_with fail
    generalize ((w.alloc (.cells #[.int .i64 ax, .int .i64 ay] 23)).alloc (.cells #[.int .i64 bx, .int .i64 by'] 23)).alloc (.cells #[.int .i64 cx, .int .i64 cy] 23) = x0 at hb0 a_k b_k c_k ⊢
    refine (CA.out _).mono ?_
    rintro _ y0 ⟨rfl, hw0⟩
    have b_k := (hw0.block _ (Array.getElem?_eq_some_iff.1 b_k).1).trans b_k
    have c_k := (hw0.block _ (Array.getElem?_eq_some_iff.1 c_k).1).trans c_k
    have hb1 := bel_trans hb0 hw0
    have f10 := blkC b_k 0 rfl
    have f11 := blkC b_k 1 rfl
    go_wp2_with fail
    refine (CB.out _).mono ?_
    rintro _ y1 ⟨rfl, hw1⟩
    have c_k := (hw1.block _ (Array.getElem?_eq_some_iff.1 c_k).1).trans c_k
    have hb2 := bel_trans hb1 hw1
    have f20 := blkC c_k 0 rfl
    have f21 := blkC c_k 1 rfl
    go_wp2_with fail
    refine (CC.out _).mono ?_
    rintro _ y2 ⟨rfl, hw2⟩
    have hb3 := bel_trans hb2 hw2
    go_wp2
    all_goals go_ret
    all_goals exact ⟨rfl, by first | exact hb3 | exact hb3.drew⟩
end Go.Proofs.YtelnilmjhdneoaaGreatDoor
