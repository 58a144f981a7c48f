/-
  Parts of the proof, one behind another.
-/
import Derived.Test.YtnhkagiionkjaaaGreatDoorPart12
import Derived.Test.YtnhkagiionkjaaaGreatDoorPart8
import Derived.Test.YtnhkagiionkjaaaGreatDoorPart9
import Derived.Test.YtnhkagiionkjaaaGreatDoorPart4
import Derived.Test.YtnhkagiionkjaaaGreatDoorPart11
/-
  plumblaw3.lists: what its loops keep: lists of lent numbers, the list of their marks.
-/
namespace Go.Proofs.YtnhkagiionkjaaaGreatDoor
open Go Go.RowKit Go.Proofs.YtnhkagiionkjaaaGreatDoor.M
set_option linter.unusedSimpArgs false
set_option linter.unusedVariables false

theorem OutN.congr {B : Nat} {w : World} {x : Value} {m : Nat} {f f' : Nat → Value} (h : OutN B w x m f) (he : ∀ i, i < m → f i = f' i) : OutN B w x m f' := by
  unfold OutN at *
  rwa [← cells3_congr m he]
theorem valsV_congr {f f' : Nat → Value} {m : Nat} (he : ∀ i, i < m → f i = f' i) : valsV f m = valsV f' m := by
  unfold valsV
  exact List.map_congr_left fun i hi => he i (List.mem_range.1 hi)
theorem OutV.congr {B : Nat} {w : World} {x : Value} {m : Nat} {f f' : Nat → Value} (h : OutV B w x m f) (he : ∀ i, i < m → f i = f' i) : OutV B w x m f' := by
  unfold OutV at *
  rwa [← valsV_congr he]
theorem OutV.keeps {B : Nat} {w w' : World} {x : Value} {m : Nat} {f : Nat → Value} (h : OutV B w x m f) (hb : Below w.heap.size w w') : OutV B w' x m f := h.of_block fun g hg => hb.block g (h.ge hg).2
theorem OutV.nil (B : Nat) (w : World) (f : Nat → Value) : OutV B w (.slice none 0 0) 0 f := ⟨rfl, .inl ⟨rfl, rfl⟩⟩
theorem OutV.cell {B : Nat} {w : World} {xo : Option Addr} {m xc : Nat} {f : Nat → Value} (h : OutV B w (.slice xo m xc) m f) {g : Nat} (hx : xo = some ⟨g, 0, none⟩) {i : Nat} (hi : i < m) : w.cell? ⟨g, i, none⟩ = some (f i) := by
  rcases h.2 with ⟨_, rfl⟩ | ⟨g', cap, cur, e, hb, hg, hn, hm, hs, ht'⟩
  · omega
  · simp only [Value.slice.injEq] at e
    obtain ⟨rfl, _, rfl⟩ := e
    simp only [Option.some.injEq, Addr.mk.injEq] at hx
    obtain ⟨rfl, _⟩ := hx
    rw [cell_of_row w g' i cur _ _ hg, ← valsV_get f hi, ← ht', List.getElem?_take_of_lt (by omega)]
    simp
/-- Where a row of one type grows, blocks of another stay. -/
theorem grown_typed {w w' : World} {row : Option Nat} {t t' : TypeId} (hg : w.grownBy w' row) (hr : ∀ g, row = some g → ∃ (cur : Array Value) (z : Nat × Nat), w.heap[g]? = some (Obj.cells cur t' z)) (ht : t ≠ t') : ∀ (g : Nat) (cur : Array Value) z, w.heap[g]? = some (.cells cur t z) → w'.heap[g]? = w.heap[g]? := fun g cur z hc => by
  refine hg.block g (Array.getElem?_eq_some_iff.1 hc).1 fun e => ?_
  obtain ⟨cur', z', hc'⟩ := hr g e.symm
  rw [hc] at hc'
  simp only [Option.some.injEq, Obj.cells.injEq] at hc'
  exact ht hc'.2.1
theorem markV_upd {r : Nat → NumR} {g cap : Nat → Nat} {L g' c' i : Nat} (h : i ≠ L) : markV r (updV g L g') (updV cap L c') i = markV r g cap i := by
  unfold markV
  rw [updV_other _ _ h, updV_other _ _ h]
theorem lentR_upd {r : Nat → NumR} {g cap : Nat → Nat} {L g' c' i : Nat} (h : i ≠ L) : lentR r (updV g L g') (updV cap L c') i = lentR r g cap i := by
  unfold lentR
  rw [updV_other _ _ h, updV_other _ _ h]
structure LSt (B : Nat) (w : World) (r : Nat → NumR) (g cap : Nat → Nat) (L M N o K : Nat) (xv yv mv : Value) : Prop where
  lf : LF B w L r g cap
  mks : OutV B w mv M (markV r g cap)
  xs : OutN B w xv N (fun i => (lentR r g cap i).v)
  ys : OutN B w yv K (fun i => (lentR r g cap (o + i)).v)
  ne : ∀ gg, xv.ownBlock = some gg → yv.ownBlock ≠ some gg
theorem LSt.nil (B : Nat) (w : World) (r : Nat → NumR) (g cap : Nat → Nat) (o : Nat) : LSt B w r g cap 0 0 0 o 0 (.slice none 0 0) (.slice none 0 0) (.slice none 0 0) :=
  ⟨LF.nil _ _ _ _ _, OutV.nil _ _ _, OutN.nil _ _ _, OutN.nil _ _ _, fun gg h => by simp [Value.ownBlock] at h⟩
theorem LSt.keeps {B : Nat} {w w' : World} {r : Nat → NumR} {g cap : Nat → Nat} {L M N o K : Nat} {xv yv mv : Value} (h : LSt B w r g cap L M N o K xv yv mv) (hb : Below w.heap.size w w') : LSt B w' r g cap L M N o K xv yv mv :=
  ⟨h.lf.keeps hb, h.mks.keeps hb, h.xs.keeps hb, h.ys.keeps hb, h.ne⟩
theorem LSt.lent {B : Nat} {w w' : World} {r : Nat → NumR} {g cap : Nat → Nat} {L M N o K : Nat} {xv yv mv : Value} (h : LSt B w r g cap L M N o K xv yv mv) (hb : Below w.heap.size w w') {g' c' : Nat} (hO : Out w.heap.size w' (.slice (some ⟨g', 0, none⟩) ((r L).n + 3) c') ((r L).n + 3) (lentD (r L).d (r L).n)) (hB : B ≤ w.heap.size) (hM : M ≤ L) (hN : N ≤ L) (hK : 0 < K → o + K ≤ L) :
    LSt B w' r (updV g L g') (updV cap L c') (L + 1) M N o K xv yv mv := by
  have k := h.keeps hb
  exact ⟨h.lf.snoc hb hO hB, k.mks.congr fun i hi => (markV_upd (by omega)).symm, k.xs.congr fun i hi => by rw [lentR_upd (by omega)], k.ys.congr fun i hi => by have := hK (by omega); rw [lentR_upd (by omega)], h.ne⟩
theorem LSt.mark {B : Nat} {w w' : World} {r : Nat → NumR} {g cap : Nat → Nat} {L M N o K : Nat} {xv yv mv : Value} (h : LSt B w r g cap L M N o K xv yv mv) {y mv' : Value} (hO : OutV B w' mv' (M + 1) (updV (markV r g cap) M y)) (hg : w.grownBy w' mv.ownBlock) (hy : y = markV r g cap M) :
    LSt B w' r g cap L (M + 1) N o K xv yv mv' := by
  have hr : ∀ gg, mv.ownBlock = some gg → ∃ (cur : Array Value) (z : Nat × Nat), w.heap[gg]? = some (Obj.cells cur 23 z) := fun gg hgg => h.mks.typed hgg
  refine ⟨h.lf.of_ints (grown_typed hg hr (by decide)), hO.congr fun i hi => ?_, h.xs.of_block fun gg hgg => ?_, h.ys.of_block fun gg hgg => ?_, h.ne⟩
  · by_cases e : i = M
    · subst e; rw [updV_same, hy]
    · rw [updV_other _ _ e]
  · obtain ⟨_, _, cur, z, hc⟩ := h.xs.typed hgg
    exact grown_typed hg hr (by decide) gg cur z hc
  · obtain ⟨_, _, cur, z, hc⟩ := h.ys.typed hgg
    exact grown_typed hg hr (by decide) gg cur z hc
theorem LSt.xapp {B : Nat} {w w' : World} {r : Nat → NumR} {g cap : Nat → Nat} {L M N o K : Nat} {xv yv mv : Value} (h : LSt B w r g cap L M N o K xv yv mv) {y xv' : Value} (hO : OutN B w' xv' (N + 1) (fun i => if i < N then (lentR r g cap i).v else y)) (hg : w.grownBy w' xv.ownBlock) (hv : xv'.ownBlock = xv.ownBlock ∨ xv'.ownBlock = some w.heap.size) (hy : y = (lentR r g cap N).v) :
    LSt B w' r g cap L M (N + 1) o K xv' yv mv := by
  have hr : ∀ gg, xv.ownBlock = some gg → ∃ (cur : Array Value) (z : Nat × Nat), w.heap[gg]? = some (Obj.cells cur 25 z) := fun gg hgg => (h.xs.typed hgg).2.2
  refine ⟨h.lf.of_ints (grown_typed hg hr (by decide)), h.mks.of_block fun gg hgg => ?_, hO.congr fun i hi => ?_, h.ys.of_block fun gg hgg => ?_, fun gg h1 h2 => ?_⟩
  · obtain ⟨cur, z, hc⟩ := h.mks.typed hgg
    exact grown_typed hg hr (by decide) gg cur z hc
  · by_cases e : i < N
    · simp [e]
    · obtain rfl : i = N := by omega
      simp [hy]
  · exact hg.block gg (h.ys.typed hgg).2.1 fun e => h.ne gg e.symm hgg
  · rcases hv with hv | hv
    · exact h.ne gg (hv ▸ h1) h2
    · rw [hv] at h1
      have := (h.ys.typed h2).2.1
      simp only [Option.some.injEq] at h1
      omega
theorem LSt.yapp {B : Nat} {w w' : World} {r : Nat → NumR} {g cap : Nat → Nat} {L M N o K : Nat} {xv yv mv : Value} (h : LSt B w r g cap L M N o K xv yv mv) {y yv' : Value} (hO : OutN B w' yv' (K + 1) (fun i => if i < K then (lentR r g cap (o + i)).v else y)) (hg : w.grownBy w' yv.ownBlock) (hv : yv'.ownBlock = yv.ownBlock ∨ yv'.ownBlock = some w.heap.size) (hy : y = (lentR r g cap (o + K)).v) :
    LSt B w' r g cap L M N o (K + 1) xv yv' mv := by
  have hr : ∀ gg, yv.ownBlock = some gg → ∃ (cur : Array Value) (z : Nat × Nat), w.heap[gg]? = some (Obj.cells cur 25 z) := fun gg hgg => (h.ys.typed hgg).2.2
  refine ⟨h.lf.of_ints (grown_typed hg hr (by decide)), h.mks.of_block fun gg hgg => ?_, h.xs.of_block fun gg hgg => ?_, hO.congr fun i hi => ?_, fun gg h1 h2 => ?_⟩
  · obtain ⟨cur, z, hc⟩ := h.mks.typed hgg
    exact grown_typed hg hr (by decide) gg cur z hc
  · exact hg.block gg (h.xs.typed hgg).2.1 fun e => h.ne gg hgg e.symm
  · by_cases e : i < K
    · simp [e]
    · obtain rfl : i = K := by omega
      simp [hy]
  · rcases hv with hv | hv
    · exact h.ne gg h1 (hv ▸ h2)
    · rw [hv] at h2
      have := (h.xs.typed h1).2.1
      simp only [Option.some.injEq] at h2
      omega
/-- Both lists' numbers, one behind the other. -/
def bothR (a b : Nat → NumR) (n : Nat) (i : Nat) : NumR := if i < n then a i else b (i - n)
theorem bothR_lt {a b : Nat → NumR} {n i : Nat} (h : i < n) : bothR a b n i = a i := by simp [bothR, h]
theorem bothR_ge {a b : Nat → NumR} {n i : Nat} : bothR a b n (n + i) = b i := by simp [bothR, show ¬ (n + i < n) by omega]
theorem LSt.numsX {B : Nat} {w : World} {r : Nat → NumR} {g cap : Nat → Nat} {L M N o K : Nat} {yv mv : Value} {xo : Option Addr} {xc : Nat} (h : LSt B w r g cap L M N o K (.slice xo N xc) yv mv) (hN : N ≤ L) (hl : N ≤ 100000) : Nums w xo N xc (lentR r g cap) :=
  (h.xs.nums hl (r := lentR r g cap) fun i hi => ⟨rfl, h.lf.row (by omega)⟩).choose_spec.2
theorem LSt.numsY {B : Nat} {w : World} {r : Nat → NumR} {g cap : Nat → Nat} {L M N o K : Nat} {xv mv : Value} {xo : Option Addr} {xc : Nat} (h : LSt B w r g cap L M N o K xv (.slice xo K xc) mv) (hN : o + K ≤ L) (hl : K ≤ 100000) : Nums w xo K xc (fun i => lentR r g cap (o + i)) :=
  (h.ys.nums hl (r := fun i => lentR r g cap (o + i)) fun i hi => ⟨rfl, h.lf.row (by omega)⟩).choose_spec.2
theorem LSt.shapes {B : Nat} {w : World} {r : Nat → NumR} {g cap : Nat → Nat} {L M N o K : Nat} {xv yv mv : Value} (h : LSt B w r g cap L M N o K xv yv mv) : ∃ xo xc yo yc mo mc, xv = .slice xo N xc ∧ yv = .slice yo K yc ∧ mv = .slice mo M mc := by
  obtain ⟨xo, xc, e1, _⟩ := h.xs.shape
  obtain ⟨yo, yc, e2, _⟩ := h.ys.shape
  obtain ⟨mo, mc, e3, _⟩ := h.mks.shape
  exact ⟨xo, xc, yo, yc, mo, mc, e1, e2, e3⟩
theorem sumV_congr {r q : Nat → NumR} : ∀ n, (∀ i, i < n → (r i).ng = (q i).ng ∧ (r i).n = (q i).n ∧ (r i).d = (q i).d ∧ (r i).e = (q i).e) → sumV r n = sumV q n
  | 0, _ => rfl
  | n + 1, h => by
    obtain ⟨h1, h2, h3, h4⟩ := h n (by omega)
    simp only [sumV]
    rw [sumV_congr n fun i hi => h i (by omega), h1, h2, h3, h4]
theorem dotV_congr {a b p q : Nat → NumR} : ∀ n, (∀ i, i < n → (a i).ng = (p i).ng ∧ (a i).n = (p i).n ∧ (a i).d = (p i).d ∧ (a i).e = (p i).e) → (∀ i, i < n → (b i).ng = (q i).ng ∧ (b i).n = (q i).n ∧ (b i).d = (q i).d ∧ (b i).e = (q i).e) → dotV a b n = dotV p q n
  | 0, _, _ => rfl
  | n + 1, h, k => by
    obtain ⟨h1, h2, h3, h4⟩ := h n (by omega)
    obtain ⟨k1, k2, k3, k4⟩ := k n (by omega)
    simp only [dotV, mulV]
    rw [dotV_congr n (fun i hi => h i (by omega)) fun i hi => k i (by omega), h1, h2, h3, h4, k1, k2, k3, k4]
theorem allOk_congr {r q : Nat → NumR} {n : Nat} (h : ∀ i, i < n → okR (r i) = okR (q i)) : allOk r n = allOk q n := by
  unfold allOk
  congr 1
  exact propext ⟨fun k i hi => (h i hi) ▸ k i hi, fun k i hi => (h i hi).symm ▸ k i hi⟩
theorem allOk_zero (r : Nat → NumR) : allOk r 0 = true := decide_eq_true fun i hi => by omega
theorem allOk_step (r : Nat → NumR) (k : Nat) : allOk r (k + 1) = (allOk r k && okR (r k)) := by
  unfold allOk
  cases h : okR (r k)
  · rw [Bool.and_false]
    exact decide_eq_false fun k' => by have := k' k (by omega); rw [h] at this; cases this
  · rw [Bool.and_true]
    congr 1
    refine propext ⟨fun k' i hi => k' i (by omega), fun k' i hi => ?_⟩
    by_cases e : i = k
    · exact e ▸ h
    · exact k' i (by omega)
/-- The marks from j on are as they were lent. -/
structure LBk (B : Nat) (w : World) (r : Nat → NumR) (g cap : Nat → Nat) (j L : Nat) (mv : Value) : Prop where
  out : ∀ i, j ≤ i → i < L → Out B w (markV r g cap i) ((r i).n + 3) (lentD (r i).d (r i).n)
  ne : ∀ i k, i < L → k < L → i ≠ k → g i ≠ g k
  mks : OutV B w mv L (markV r g cap)
theorem LSt.bk {B : Nat} {w : World} {r : Nat → NumR} {g cap : Nat → Nat} {L N o K : Nat} {xv yv mv : Value} (h : LSt B w r g cap L L N o K xv yv mv) : LBk B w r g cap 0 L mv := ⟨fun i _ hi => h.lf.out i hi, h.lf.ne, h.mks⟩
theorem LBk.keeps {B : Nat} {w w' : World} {r : Nat → NumR} {g cap : Nat → Nat} {j L : Nat} {mv : Value} (h : LBk B w r g cap j L mv) (hb : Below w.heap.size w w') : LBk B w' r g cap j L mv :=
  ⟨fun i hj hi => (h.out i hj hi).stays hb, h.ne, h.mks.keeps hb⟩
theorem LBk.step {B : Nat} {w w' : World} {r : Nat → NumR} {g cap : Nat → Nat} {j L : Nat} {mv : Value} (h : LBk B w r g cap j L mv) (hj : j < L) (hw : Wr (g j) w w') : LBk B w' r g cap (j + 1) L mv := by
  refine ⟨fun i hji hi => (h.out i (by omega) hi).wr_ne hw fun e => h.ne i j hi hj (by omega) (by simpa [markV, Value.ownBlock] using e), h.ne, h.mks.of_block fun gg hgg => ?_⟩
  obtain ⟨cur, z, hc⟩ := h.mks.typed hgg
  obtain ⟨cur2, z2, hc2⟩ := (h.out j (Nat.le_refl _) hj).typed (g := g j) rfl
  exact (numblk_wr hw hc2 (by decide) hc).trans hc.symm
theorem LBk.typed {B : Nat} {w : World} {r : Nat → NumR} {g cap : Nat → Nat} {j L : Nat} {mv : Value} (h : LBk B w r g cap j L mv) (hj : j < L) : B ≤ g j ∧ g j < w.heap.size ∧ ∃ cur z, w.heap[g j]? = some (.cells cur 3 z) := by
  have hO := h.out j (Nat.le_refl _) hj
  exact ⟨(hO.ge (g := g j) rfl).1, (hO.ge (g := g j) rfl).2, hO.typed (g := g j) rfl⟩
theorem bad_step0 {p q o ok : Bool} (h : false = !p) (hs : q = (p && o)) (ho : o = ok) : (!ok) = !q := by subst hs ho; cases p <;> simp at h ⊢
theorem bad_step1 {p q o : Bool} (h : true = !p) (hs : q = (p && o)) : true = !q := by subst hs; cases p <;> simp at h ⊢
/-- A number lent, its variable and the literal of its mark. -/
theorem LSt.lent2 {B : Nat} {w wr w1 w2 : World} {r : Nat → NumR} {g cap : Nat → Nat} {L M N o K : Nat} {xv yv mv : Value} {q : NumR} {lg lc : Nat} (h : LSt B wr r g cap L M N o K xv yv mv) (hbw : Below B w wr) (hB0 : B ≤ w.heap.size) (hb1 : Below wr.heap.size wr w1) (hb2 : Below w1.heap.size w1 w2) (hO : Out w1.heap.size w2 (.slice (some ⟨lg, 0, none⟩) (q.n + 3) lc) (q.n + 3) (lentD q.d q.n)) (hr : r L = q) (hM : M ≤ L) (hN : N ≤ L) (hK : 0 < K → o + K ≤ L) (A C : Obj) :
    LSt B ((w2.alloc A).alloc C) r (updV g L lg) (updV cap L lc) (L + 1) M N o K xv yv mv ∧ Below B w ((w2.alloc A).alloc C) ∧ B ≤ ((w2.alloc A).alloc C).heap.size := by
  subst hr
  have hBr : B ≤ wr.heap.size := Nat.le_trans hB0 hbw.size
  have h2 : Below wr.heap.size wr ((w2.alloc A).alloc C) := bel_trans (bel_trans hb1 hb2) (bel_alloc2 w2 A C)
  exact ⟨(LSt.lent (h.keeps hb1) hb2 hO (Nat.le_trans hBr hb1.size) hM hN hK).keeps (bel_alloc2 w2 A C), hbw.trans (h2.mono hBr), Nat.le_trans hBr h2.size⟩
theorem LSt.mark2 {B : Nat} {w0 w w' : World} {r : Nat → NumR} {g cap : Nat → Nat} {L M N o K : Nat} {xv yv mv : Value} (h : LSt B w r g cap L M N o K xv yv mv) {y mv' : Value} (hO : OutV B w' mv' (M + 1) (updV (markV r g cap) M y)) (hg : w.grownBy w' mv.ownBlock) (hy : y = markV r g cap M) (hb : Below B w0 w) (hB : B ≤ w.heap.size) :
    LSt B w' r g cap L (M + 1) N o K xv yv mv' ∧ Below B w0 w' ∧ ∀ (gg : Nat) (cur : Array Value) z, w.heap[gg]? = some (.cells cur 25 z) → w'.heap[gg]? = some (.cells cur 25 z) :=
  ⟨h.mark hO hg hy, hb.grown hg hB fun gg hgg => (h.mks.ge hgg).1, fun gg cur z hc => (grown_typed hg (fun gg hgg => h.mks.typed hgg) (by decide) gg cur z hc).trans hc⟩
theorem LSt.xapp2 {B : Nat} {w0 w w' : World} {r : Nat → NumR} {g cap : Nat → Nat} {L M N o K : Nat} {xv yv mv : Value} (h : LSt B w r g cap L M N o K xv yv mv) {y xv' : Value} (hO : OutN B w' xv' (N + 1) (fun i => if i < N then (lentR r g cap i).v else y)) (hg : w.grownBy w' xv.ownBlock) (hv : xv'.ownBlock = xv.ownBlock ∨ xv'.ownBlock = some w.heap.size) (hy : y = (lentR r g cap N).v) (hb : Below B w0 w) (hB : B ≤ w.heap.size) :
    LSt B w' r g cap L M (N + 1) o K xv' yv mv ∧ Below B w0 w' :=
  ⟨h.xapp hO hg hv hy, hb.grown hg hB fun gg hgg => (h.xs.typed hgg).1⟩
theorem LSt.yapp2 {B : Nat} {w0 w w' : World} {r : Nat → NumR} {g cap : Nat → Nat} {L M N o K : Nat} {xv yv mv : Value} (h : LSt B w r g cap L M N o K xv yv mv) {y yv' : Value} (hO : OutN B w' yv' (K + 1) (fun i => if i < K then (lentR r g cap (o + i)).v else y)) (hg : w.grownBy w' yv.ownBlock) (hv : yv'.ownBlock = yv.ownBlock ∨ yv'.ownBlock = some w.heap.size) (hy : y = (lentR r g cap (o + K)).v) (hb : Below B w0 w) (hB : B ≤ w.heap.size) :
    LSt B w' r g cap L M N o (K + 1) xv yv' mv ∧ Below B w0 w' :=
  ⟨h.yapp hO hg hv hy, hb.grown hg hB fun gg hgg => (h.ys.typed hgg).1⟩
theorem mark_new {r : Nat → NumR} {g cap : Nat → Nat} {L lg lc : Nat} {q : NumR} (hr : r L = q) : (Value.slice (some ⟨lg, 0, none⟩) (q.n + 3) lc) = markV r (updV g L lg) (updV cap L lc) L := by
  unfold markV; rw [hr, updV_same, updV_same]
theorem lent_new {r : Nat → NumR} {g cap : Nat → Nat} {L lg lc : Nat} {q : NumR} (hr : r L = q) : (Value.agg #[.bool q.ng, .slice (some ⟨lg, 0, none⟩) q.n lc, .int .i64 q.e]) = (lentR r (updV g L lg) (updV cap L lc) L).v := by
  unfold lentR NumR.v; rw [hr, updV_same, updV_same]
end Go.Proofs.YtnhkagiionkjaaaGreatDoor

/-
  Package plumbref3: Mul, by its contract.
-/
namespace Go.Proofs.YtnhkagiionkjaaaGreatDoor
open Go Go.RowKit Go.Proofs.YtnhkagiionkjaaaGreatDoor.M
set_option linter.unusedSimpArgs false
set_option linter.unusedVariables false

set_option maxRecDepth 100000 in
set_option maxHeartbeats 4000000 in
theorem rmul3_any (x y : NumR) (w : World) (hx : Row w x.ao x.n x.cap x.d) (hy : Row w y.ao y.n y.cap y.d) (sx : Sane x) (sy : Sane y) :
    Calls Tryz.prog 42 #[x.v, y.v] w fun r w' => ∃ v, r = .returned v ∧ DAns w w' (mulV x y) v := by
  have hV : mulV x y = sg (x.ng != y.ng) (val x.d x.n * val y.d y.n) * pw (x.e + y.e) := rfl
  have he : -4194304 ≤ x.e + y.e ∧ x.e + y.e ≤ 4194304 := by have := sx.2.2.1; have := sy.2.2.1; have := sx.2.2.2; have := sy.2.2.2; omega
  have hlen : val x.d x.n * val y.d y.n < P 10000 := by
    have a1 := val_lt sx.1.1
    have a2 := val_lt sy.1.1
    have b1 := val_nonneg sx.1.1
    have b2 := val_nonneg sy.1.1
    have c1 : val x.d x.n * val y.d y.n ≤ P x.n * val y.d y.n := Int.mul_le_mul_of_nonneg_right (by omega) b2
    have c2 : P x.n * val y.d y.n < P x.n * P y.n := Int.mul_lt_mul_of_pos_left a2 (P_pos _)
    rw [← P_add] at c2
    have := P_le (show x.n + y.n ≤ 10000 by have := sx.2.1; have := sy.2.1; omega)
    omega
  obtain ⟨an, ao, n, ca, a, e⟩ := x
  obtain ⟨bn, bo, m, cb, b, f⟩ := y
  obtain ⟨s1, s2, s3, s4⟩ := sx
  obtain ⟨t1, t2, t3, t4⟩ := sy
  unfold NumR.v
  simp only at *
  rw [hV]
  clear hV
  generalize hVV : sg (an != bn) (val a n * val b m) * pw (e + f) = V
  have HVV : Hid (sg (an != bn) (val a n * val b m) * pw (e + f) = V) := hVV
  clear hVV
  have hw : IntKind.i64.wrap (e + f) = e + f := by rw [wrap_i64_eq]; omega
  have hb3 := bel_a3 w (.cells #[.bool an, .slice ao n ca, .int .i64 e] 25) (.cells #[.bool bn, .slice bo m cb, .int .i64 f] 25) (.cells #[.bool false, .slice none 0 0, .int .i64 0] 25)
  have g0 := h3_0 w (.cells #[.bool an, .slice ao n ca, .int .i64 e] 25) (.cells #[.bool bn, .slice bo m cb, .int .i64 f] 25) (.cells #[.bool false, .slice none 0 0, .int .i64 0] 25)
  have g1 := h3_1 w (.cells #[.bool an, .slice ao n ca, .int .i64 e] 25) (.cells #[.bool bn, .slice bo m cb, .int .i64 f] 25) (.cells #[.bool false, .slice none 0 0, .int .i64 0] 25)
  have g2 := h3_2 w (.cells #[.bool an, .slice ao n ca, .int .i64 e] 25) (.cells #[.bool bn, .slice bo m cb, .int .i64 f] 25) (.cells #[.bool false, .slice none 0 0, .int .i64 0] 25)
  have hs3 := size3 w (.cells #[.bool an, .slice ao n ca, .int .i64 e] 25) (.cells #[.bool bn, .slice bo m cb, .int .i64 f] 25) (.cells #[.bool false, .slice none 0 0, .int .i64 0] 25)
  go_enter Tryz.func42, Tryz.ntmps42
  go_wp2_with fail
  have HX := hx.keeps hb3
  have HY := hy.keeps hb3
  generalize ((w.alloc (.cells #[.bool an, .slice ao n ca, .int .i64 e] 25)).alloc (.cells #[.bool bn, .slice bo m cb, .int .i64 f] 25)).alloc (.cells #[.bool false, .slice none 0 0, .int .i64 0] 25) = wx at hb3 g0 g1 g2 hs3 HX HY ⊢
  have k0 := blkC g0 0 rfl
  have k1 := blkC g0 1 rfl
  have k2 := blkC g0 2 rfl
  have j0 := blkC g1 0 rfl
  have j1 := blkC g1 1 rfl
  have j2 := blkC g1 2 rfl
  have hb1 := bel_refl wx
  have C1 : ∀ W, Below wx.heap.size wx W → Calls Tryz.prog 82 #[.slice ao n ca, .slice bo m cb] W fun r w' => ∃ so sn sc, r = .returned (.slice so sn sc) ∧ Ans W w' (val a n * val b m) (.slice so sn sc) ∧ Below W.heap.size W w' := fun W h => by
    refine (rmul_any ao bo n m ca cb a b W (HX.keeps h) (HY.keeps h) s1 t1 (by omega) (by omega)).mono ?_
    rintro r w' ⟨v, rfl, hA⟩
    obtain ⟨so, sn, sc, rfl⟩ := hA.num.shape
    exact ⟨so, sn, sc, rfl, hA, hA.below⟩
  have C2 : ∀ W so sn sc, Num W (.slice so sn sc) (val a n * val b m) → Calls Tryz.prog 60 #[.bool (!(an == bn)), .slice so sn sc, .int .i64 (e + f)] W fun r w' => ∃ ng s1 s2 s3 e1, r = .returned (.agg #[.bool ng, .slice s1 s2 s3, .int .i64 e1]) ∧ DAns W w' V (.agg #[.bool ng, .slice s1 s2 s3, .int .i64 e1]) ∧ Below W.heap.size W w' := fun W so sn sc hN => by
    have hsn : sn ≤ 10000 := hN.len hlen
    obtain ⟨ao', n', ca', d, e1, hR, h2, h3⟩ := hN
    simp only [Value.slice.injEq] at e1
    obtain ⟨rfl, rfl, rfl⟩ := e1
    refine (rnorm_any (an != bn) _ _ _ d (e + f) W hR h2.1 (by omega) (by omega) (by omega)).mono ?_
    rw [h3, HVV.out]
    rintro r w' ⟨v, rfl, hD⟩
    obtain ⟨ng, s, m', e1, rfl, _, hA⟩ := id hD
    obtain ⟨q1, q2, q3, rfl⟩ := hA.num.shape
    exact ⟨ng, q1, q2, q3, e1, rfl, hD, hD.below⟩
  clear hlen
  go_region_held3 (fun W => (W.cell? ⟨w.heap.size, 0, none⟩ = some (.bool an) ∧ W.cell? ⟨w.heap.size, 1, none⟩ = some (.slice ao n ca) ∧ W.cell? ⟨w.heap.size, 2, none⟩ = some (.int .i64 e)) ∧ W.cell? ⟨w.heap.size + 1, 0, none⟩ = some (.bool bn) ∧ W.cell? ⟨w.heap.size + 1, 1, none⟩ = some (.slice bo m cb) ∧ W.cell? ⟨w.heap.size + 1, 2, none⟩ = some (.int .i64 f))
    (first | assumption | exact ⟨⟨k0, k1, k2⟩, j0, j1, j2⟩ | exact keep66 (W := wx.drew) hbv1 ⟨⟨k0, k1, k2⟩, j0, j1, j2⟩ | exact keep66 hbv2 (keep66 (W := wx.drew) hbv1 ⟨⟨k0, k1, k2⟩, j0, j1, j2⟩) | exact ⟨keepS (keep66 hbv2 (keep66 (W := wx.drew) hbv1 ⟨⟨k0, k1, k2⟩, j0, j1, j2⟩)).1 (by omega) _ _ _, keepS (keep66 hbv2 (keep66 (W := wx.drew) hbv1 ⟨⟨k0, k1, k2⟩, j0, j1, j2⟩)).2 (by omega) _ _ _⟩)
    (first | (go_at_call 60; refine (C2 _ _ _ _ hv1.num).mono ?_; rintro y w4 ⟨ng4, o4, n4, c4, e4, rfl, hv2, hbv2⟩; have q0 := ((bel_trans hbv1 hbv2).block (w.heap.size + 2) (by show _ < wx.heap.size; omega)).trans g2; have x0 := blkC q0 0 rfl; have x1 := blkC q0 1 rfl; have x2 := blkC q0 2 rfl; have z0 := blkF q0 0; have z1 := blkF q0 1; have z2 := blkF q0 2) | (go_at_call 82; refine (C1 _ hb1.drew).mono ?_; rintro y w3 ⟨so, sn, sc, rfl, hv1, hbv1⟩))
  all_goals go_wp2
  all_goals
    refine bodyPost_ret (v := .agg #[.bool ng4, .slice o4 n4 c4, .int .i64 e4]) (by simp [results, Tryz.results42, go_sem, x0, x1, x2]) rfl ⟨_, rfl, ?_⟩
    exact dans_res3 (g := w.heap.size + 2) hv2 (bel_trans hb3 (bel_trans hb1.drew hbv1)) (by omega) (Nat.lt_of_lt_of_le (show _ < wx.heap.size by omega) hbv1.size) _ _ _
end Go.Proofs.YtnhkagiionkjaaaGreatDoor

/-
  Package plumbref3: Add, by its contract: a sum of numbers within bounds.
-/
namespace Go.Proofs.YtnhkagiionkjaaaGreatDoor
open Go Go.RowKit Go.Proofs.YtnhkagiionkjaaaGreatDoor.M
set_option linter.unusedSimpArgs false
set_option linter.unusedVariables false

/-- The form of a number within bounds. -/
theorem bd_form {K : Nat} {A : Int} {ng : Bool} {m e : Int} (h : Bd K A) (hy : Dy A ng m e) (hK : K ≤ 4194304) (h0 : 0 < m) : -(K : Int) ≤ e ∧ e ≤ K ∧ m * 2 ^ (e + K).toNat < 2 ^ (2 * K) := by
  obtain ⟨c, hc, c1, c2⟩ := h
  have key : ∀ (b : Bool) (C : Int), 0 < C → C < 2 ^ (2 * K) → A = sg b C * pw (-(K : Int)) → -(K : Int) ≤ e ∧ e ≤ K ∧ m * 2 ^ (e + K).toNat < 2 ^ (2 * K) := fun b C hC hlt hA => by
    obtain ⟨l, hl⟩ := isLow_ex hC
    have hy2 := Dy.of b hl hC (show -4194304 ≤ -(K : Int) by omega)
    rw [← hA] at hy2
    obtain ⟨_, rfl, rfl⟩ := hy.unique hy2
    obtain ⟨d1, d2, d3⟩ := isLow_odd hl hC
    have hl2 : l < 2 * K := by
      have h3 : (1 : Int) * 2 ^ l ≤ C / 2 ^ l * 2 ^ l := Int.mul_le_mul_of_nonneg_right (by omega) (Int.le_of_lt (two_pos l))
      rw [d3] at h3
      exact two_lt_iff (by omega)
    refine ⟨by omega, by omega, ?_⟩
    rw [show (-(K : Int) + l + K).toNat = l by omega, d3]
    exact hlt
  by_cases hz : c = 0
  · exfalso
    rw [hz, Int.zero_mul] at hc
    have := hy.eq_zero.1 hc
    omega
  · by_cases hp : 0 < c
    · exact key false c hp c2 (by simpa [sg] using hc)
    · exact key true (-c) (by omega) (by omega) (by simpa [sg] using hc)
theorem bd_shift {K : Nat} {A : Int} {ng : Bool} {m e low : Int} (h : Bd K A) (hy : Dy A ng m e) (hK : K ≤ 4194304) (h0 : 0 < m) (h1 : -(K : Int) ≤ low) (h2 : low ≤ e) : m * 2 ^ (e - low).toNat < 2 ^ (2 * K) := by
  obtain ⟨a, b, c⟩ := bd_form h hy hK h0
  have h3 : (2 : Int) ^ (e - low).toNat ≤ 2 ^ (e + K).toNat := two_le (by omega)
  have h4 : m * 2 ^ (e - low).toNat ≤ m * 2 ^ (e + K).toNat := Int.mul_le_mul_of_nonneg_left h3 (by omega)
  omega
theorem bd_self {K : Nat} {A : Int} {ng : Bool} {m e : Int} (h : Bd K A) (hy : Dy A ng m e) (hK : K ≤ 4194304) (h0 : 0 < m) : m < 2 ^ (2 * K) := by
  obtain ⟨a, b, c⟩ := bd_form h hy hK h0
  have h3 : (1 : Int) ≤ 2 ^ (e + K).toNat := two_pos _
  have h4 : m * 1 ≤ m * 2 ^ (e + K).toNat := Int.mul_le_mul_of_nonneg_left h3 (by omega)
  omega
theorem bd_digits {K : Nat} {d : Nat → Int} {n : Nat} (hK : K ≤ 560000) (hN : Nrm d n) (h : val d n < 2 ^ (2 * K)) : n ≤ 37400 := by
  by_cases h1 : n ≤ 37400
  · exact h1
  · exfalso
    have a := val_top hN.1 (by omega) hN.2
    have b := P_le (show 37400 ≤ n - 1 by omega)
    have c : (2 : Int) ^ (2 * K) ≤ 2 ^ (30 * 37400) := two_le (by omega)
    rw [← P_two] at c
    generalize P 37400 = Y at *
    omega
/-- A sum: its own, or one of the two where the other is 0. -/
def RSum (w w' : World) (A B : Int) (x y v : Value) : Prop := Below w.heap.size w w' ∧ (DAns w w' (A + B) v ∨ (A = 0 ∧ v = y) ∨ (B = 0 ∧ v = x))
theorem RSum.num {w w' : World} {A B : Int} {x y v : Value} (h : RSum w w' A B x y v) (hx : DNum w x A) (hy : DNum w y B) : DNum w' v (A + B) := by
  rcases h.2 with h1 | ⟨rfl, rfl⟩ | ⟨rfl, rfl⟩
  · exact h1.num
  · rw [Int.zero_add]; exact hy.keeps h.1
  · rw [Int.add_zero]; exact hx.keeps h.1
set_option maxRecDepth 100000 in
set_option maxHeartbeats 2000000 in
theorem radd3_left (x y : NumR) (w : World) (hm : x.n ≤ 9223372036854775807) (hm' : y.n ≤ 9223372036854775807) (h : x.n = 0) :
    Calls Tryz.prog 40 #[x.v, y.v] w fun r w' => r = .returned y.v ∧ Below w.heap.size w w' := by
  obtain ⟨an, ao, n, ca, a, e⟩ := x
  obtain ⟨bn, bo, m, cb, b, f⟩ := y
  unfold NumR.v at *
  simp only at *
  subst h
  go_enter Tryz.func40, Tryz.ntmps40
  go_wp2
  refine bodyPost_ret (v := .agg #[.bool bn, .slice bo m cb, .int .i64 f]) (by simp [results, Tryz.results40, go_sem]) rfl ⟨rfl, ?_⟩
  exact bel_a3 _ _ _ _
set_option maxRecDepth 100000 in
set_option maxHeartbeats 2000000 in
theorem radd3_right (x y : NumR) (w : World) (hm : x.n ≤ 9223372036854775807) (hm' : y.n ≤ 9223372036854775807) (h0 : 0 < x.n) (h : y.n = 0) :
    Calls Tryz.prog 40 #[x.v, y.v] w fun r w' => r = .returned x.v ∧ Below w.heap.size w w' := by
  obtain ⟨an, ao, n, ca, a, e⟩ := x
  obtain ⟨bn, bo, m, cb, b, f⟩ := y
  unfold NumR.v at *
  simp only at *
  have hn0 : ((n : Int) == 0) = false := by simp; omega
  subst h
  go_enter Tryz.func40, Tryz.ntmps40
  go_wp2
  refine bodyPost_ret (v := .agg #[.bool an, .slice ao n ca, .int .i64 e]) (by simp [results, Tryz.results40, go_sem]) rfl ⟨rfl, ?_⟩
  exact bel_a3 _ _ _ _
set_option maxRecDepth 100000 in
set_option maxHeartbeats 2000000 in
/-- The sum of two that are not 0, brought to one exponent: A and B units of 2^low. -/
theorem radd3_walk (x y : NumR) (w : World) (hx : Row w x.ao x.n x.cap x.d) (hy : Row w y.ao y.n y.cap y.d) (n0 : 0 < x.n) (m0 : 0 < y.n) (low A B V : Int)
    (hlow : low = min x.e y.e) (hl0 : -600000 ≤ low) (he : x.e ≤ 600000) (hf : y.e ≤ 600000)
    (H1 : ∀ W, Below w.heap.size w W → Calls Tryz.prog 78 #[.slice x.ao x.n x.cap, .int .i64 (x.e - low)] W fun r w' => ∃ so sn sc, r = .returned (.slice so sn sc) ∧ Num w' (.slice so sn sc) A ∧ Below W.heap.size W w')
    (H2 : ∀ W, Below w.heap.size w W → Calls Tryz.prog 78 #[.slice y.ao y.n y.cap, .int .i64 (y.e - low)] W fun r w' => ∃ so sn sc, r = .returned (.slice so sn sc) ∧ Num w' (.slice so sn sc) B ∧ Below W.heap.size W w')
    (H3 : ∀ W p q, Num W p A → Num W q B → Calls Tryz.prog 79 #[p, q] W fun r w' => ∃ so sn sc, r = .returned (.slice so sn sc) ∧ Num w' (.slice so sn sc) (A + B) ∧ Below W.heap.size W w')
    (H4 : ∀ W p q, Num W p A → Num W q B → Calls Tryz.prog 80 #[p, q] W fun r w' => r = .returned (.int .i64 (ord A B)) ∧ Below W.heap.size W w')
    (H5 : ∀ W p q, Num W p A → Num W q B → B ≤ A → Calls Tryz.prog 81 #[p, q] W fun r w' => ∃ so sn sc, r = .returned (.slice so sn sc) ∧ Num w' (.slice so sn sc) (A - B) ∧ Below W.heap.size W w')
    (H6 : ∀ W p q, Num W p A → Num W q B → A ≤ B → Calls Tryz.prog 81 #[q, p] W fun r w' => ∃ so sn sc, r = .returned (.slice so sn sc) ∧ Num w' (.slice so sn sc) (B - A) ∧ Below W.heap.size W w')
    (H7 : ∀ W ng s M, Num W s M → ((x.ng = y.ng ∧ ng = x.ng ∧ M = A + B) ∨ (x.ng ≠ y.ng ∧ B ≤ A ∧ ng = x.ng ∧ M = A - B) ∨ (x.ng ≠ y.ng ∧ A < B ∧ ng = y.ng ∧ M = B - A)) → Calls Tryz.prog 60 #[.bool ng, s, .int .i64 low] W fun r w' => ∃ ng s1 s2 s3 e1, r = .returned (.agg #[.bool ng, .slice s1 s2 s3, .int .i64 e1]) ∧ DAns W w' V (.agg #[.bool ng, .slice s1 s2 s3, .int .i64 e1]) ∧ Below W.heap.size W w') :
    Calls Tryz.prog 40 #[x.v, y.v] w fun r w' => ∃ v, r = .returned v ∧ DAns w w' V v := by
  have hmin : ∀ (ts : Array TypeId) (t : TypeId) (w : World), (Builtin.min_ ts t #[.int .i64 x.e, .int .i64 y.e]).run Tryz.prog w = .ok (.int .i64 low) w := fun ts t w => by rw [run_min_int2, hlow]; congr 2; omega
  have hl1 : low ≤ x.e := by omega
  have hl2 : low ≤ y.e := by omega
  have HH7 : Hid _ := H7
  have hm := hx.max
  have hm' := hy.max
  clear hlow H7
  obtain ⟨an, ao, n, ca, a, e⟩ := x
  obtain ⟨bn, bo, m, cb, b, f⟩ := y
  unfold NumR.v
  simp only at *
  have hn0 : ((n : Int) == 0) = false := by simp; omega
  have hm0 : ((m : Int) == 0) = false := by simp; omega
  have hb3 : Below w.heap.size w (((w.alloc (.cells #[.bool an, .slice ao n ca, .int .i64 e] 25)).alloc (.cells #[.bool bn, .slice bo m cb, .int .i64 f] 25)).alloc (.cells #[.bool false, .slice none 0 0, .int .i64 0] 25)) := bel_a3 _ _ _ _
  have g0 := h3_0 w (.cells #[.bool an, .slice ao n ca, .int .i64 e] 25) (.cells #[.bool bn, .slice bo m cb, .int .i64 f] 25) (.cells #[.bool false, .slice none 0 0, .int .i64 0] 25)
  have g1 := h3_1 w (.cells #[.bool an, .slice ao n ca, .int .i64 e] 25) (.cells #[.bool bn, .slice bo m cb, .int .i64 f] 25) (.cells #[.bool false, .slice none 0 0, .int .i64 0] 25)
  have g2 := h3_2 w (.cells #[.bool an, .slice ao n ca, .int .i64 e] 25) (.cells #[.bool bn, .slice bo m cb, .int .i64 f] 25) (.cells #[.bool false, .slice none 0 0, .int .i64 0] 25)
  go_enter Tryz.func40, Tryz.ntmps40
  go_wp2_with fail
  generalize ((w.alloc (.cells #[.bool an, .slice ao n ca, .int .i64 e] 25)).alloc (.cells #[.bool bn, .slice bo m cb, .int .i64 f] 25)).alloc (.cells #[.bool false, .slice none 0 0, .int .i64 0] 25) = wx at hb3 g0 g1 g2 ⊢
  refine (H1 _ hb3).mono ?_
  rintro r w1 ⟨po, pn, pc, rfl, hP, hb1⟩
  have hbx1 := bel_trans hb3 hb1
  replace g0 := (hb1.block _ (Array.getElem?_eq_some_iff.1 g0).1).trans g0
  replace g1 := (hb1.block _ (Array.getElem?_eq_some_iff.1 g1).1).trans g1
  replace g2 := (hb1.block _ (Array.getElem?_eq_some_iff.1 g2).1).trans g2
  have j1 := blkC g1 1 rfl
  have j2 := blkC g1 2 rfl
  go_wp2_with fail
  clear j1 j2
  refine (H2 _ hbx1).mono ?_
  rintro r w2 ⟨qo, qn, qc, rfl, hQ, hb2⟩
  have hbx2 := bel_trans hbx1 hb2
  replace hP := hP.keeps hb2
  replace g0 := (hb2.block _ (Array.getElem?_eq_some_iff.1 g0).1).trans g0
  replace g1 := (hb2.block _ (Array.getElem?_eq_some_iff.1 g1).1).trans g1
  replace g2 := (hb2.block _ (Array.getElem?_eq_some_iff.1 g2).1).trans g2
  have k0 := blkC g0 0 rfl
  have k1 := blkC g0 1 rfl
  have k2 := blkC g0 2 rfl
  have j0 := blkC g1 0 rfl
  have j1 := blkC g1 1 rfl
  have j2 := blkC g1 2 rfl
  by_cases hng : an = bn
  · subst hng
    have C1 : ∀ W, Below w2.heap.size w2 W → Calls Tryz.prog 79 #[.slice po pn pc, .slice qo qn qc] W fun r w' => ∃ so sn sc, r = .returned (.slice so sn sc) ∧ Num w' (.slice so sn sc) (A + B) ∧ Below W.heap.size W w' := fun W h => H3 W _ _ (hP.keeps h) (hQ.keeps h)
    have C2 : ∀ W so sn sc, Num W (.slice so sn sc) (A + B) → Calls Tryz.prog 60 #[.bool an, .slice so sn sc, .int .i64 low] W fun r w' => ∃ ng s1 s2 s3 e1, r = .returned (.agg #[.bool ng, .slice s1 s2 s3, .int .i64 e1]) ∧ DAns W w' V (.agg #[.bool ng, .slice s1 s2 s3, .int .i64 e1]) ∧ Below W.heap.size W w' := fun W so sn sc hN => HH7.out W an _ _ hN (.inl ⟨rfl, rfl, rfl⟩)
    clear H1 H2 H3 H4 H5 H6 HH7
    have hs3 := (Array.getElem?_eq_some_iff.1 g2).1
    go_wp2_with fail
    have hb1 := bel_refl w2
    go_region_held3 (fun W => (W.cell? ⟨w.heap.size, 0, none⟩ = some (.bool an) ∧ W.cell? ⟨w.heap.size, 1, none⟩ = some (.slice ao n ca) ∧ W.cell? ⟨w.heap.size, 2, none⟩ = some (.int .i64 e)) ∧ W.cell? ⟨w.heap.size + 1, 0, none⟩ = some (.bool an) ∧ W.cell? ⟨w.heap.size + 1, 1, none⟩ = some (.slice bo m cb) ∧ W.cell? ⟨w.heap.size + 1, 2, none⟩ = some (.int .i64 f))
      (first | assumption | exact ⟨⟨k0, k1, k2⟩, j0, j1, j2⟩ | exact keep66 (W := w2.drew) hbv1 ⟨⟨k0, k1, k2⟩, j0, j1, j2⟩ | exact keep66 hbv2 (keep66 (W := w2.drew) hbv1 ⟨⟨k0, k1, k2⟩, j0, j1, j2⟩) | exact ⟨keepS (keep66 hbv2 (keep66 (W := w2.drew) hbv1 ⟨⟨k0, k1, k2⟩, j0, j1, j2⟩)).1 (by omega) _ _ _, keepS (keep66 hbv2 (keep66 (W := w2.drew) hbv1 ⟨⟨k0, k1, k2⟩, j0, j1, j2⟩)).2 (by omega) _ _ _⟩)
      (first | (go_at_call 60; refine (C2 _ _ _ _ hv1).mono ?_; rintro y w4 ⟨ng4, o4, n4, c4, e4, rfl, hv2, hbv2⟩; have q0 := ((bel_trans hbv1 hbv2).block (w.heap.size + 2) (by show _ < w2.heap.size; omega)).trans g2; have x0 := blkC q0 0 rfl; have x1 := blkC q0 1 rfl; have x2 := blkC q0 2 rfl; have z0 := blkF q0 0; have z1 := blkF q0 1; have z2 := blkF q0 2) | (go_at_call 79; refine (C1 _ hb1.drew).mono ?_; rintro y w3 ⟨so, sn, sc, rfl, hv1, hbv1⟩))
    all_goals go_wp2
    all_goals
      refine bodyPost_ret (v := .agg #[.bool ng4, .slice o4 n4 c4, .int .i64 e4]) (by simp [results, Tryz.results40, go_sem, x0, x1, x2]) rfl ⟨_, rfl, ?_⟩
      exact dans_res3 (g := w.heap.size + 2) hv2 (bel_trans hbx2 (bel_trans hb1.drew hbv1)) (by omega) (Nat.lt_of_lt_of_le (show _ < w2.heap.size by omega) hbv1.size) _ _ _
  · have hng' : (an == bn) = false := by simp [hng]
    go_wp2_with fail
    refine (H4 _ _ _ hP hQ).mono ?_
    rintro r w3 ⟨rfl, hb3'⟩
    have hbx3 := bel_trans hbx2 hb3'
    replace hP := hP.keeps hb3'
    replace hQ := hQ.keeps hb3'
    replace g0 := (hb3'.block _ (Array.getElem?_eq_some_iff.1 g0).1).trans g0
    replace g1 := (hb3'.block _ (Array.getElem?_eq_some_iff.1 g1).1).trans g1
    replace g2 := (hb3'.block _ (Array.getElem?_eq_some_iff.1 g2).1).trans g2
    replace k0 := blkC g0 0 rfl
    replace k1 := blkC g0 1 rfl
    replace k2 := blkC g0 2 rfl
    replace j0 := blkC g1 0 rfl
    replace j1 := blkC g1 1 rfl
    replace j2 := blkC g1 2 rfl
    have hs3 := (Array.getElem?_eq_some_iff.1 g2).1
    by_cases hAB : B ≤ A
    · have ho : (0 : Int) ≤ ord A B := by
        rcases Int.lt_trichotomy A B with h | h | h
        · omega
        · rw [ord_eq h]; decide
        · rw [ord_gt h]; decide
      have C1 : ∀ W, Below w3.heap.size w3 W → Calls Tryz.prog 81 #[.slice po pn pc, .slice qo qn qc] W fun r w' => ∃ so sn sc, r = .returned (.slice so sn sc) ∧ Num w' (.slice so sn sc) (A - B) ∧ Below W.heap.size W w' := fun W h => H5 W _ _ (hP.keeps h) (hQ.keeps h) hAB
      have C2 : ∀ W so sn sc, Num W (.slice so sn sc) (A - B) → Calls Tryz.prog 60 #[.bool an, .slice so sn sc, .int .i64 low] W fun r w' => ∃ ng s1 s2 s3 e1, r = .returned (.agg #[.bool ng, .slice s1 s2 s3, .int .i64 e1]) ∧ DAns W w' V (.agg #[.bool ng, .slice s1 s2 s3, .int .i64 e1]) ∧ Below W.heap.size W w' := fun W so sn sc hN => HH7.out W an _ _ hN (.inr (.inl ⟨hng, hAB, rfl, rfl⟩))
      generalize ord A B = oAB at ho ⊢
      clear H1 H2 H3 H4 H5 H6 HH7 hAB
      go_wp2_with fail
      have hb1 := bel_refl w3
      go_region_held3 (fun W => (W.cell? ⟨w.heap.size, 0, none⟩ = some (.bool an) ∧ W.cell? ⟨w.heap.size, 1, none⟩ = some (.slice ao n ca) ∧ W.cell? ⟨w.heap.size, 2, none⟩ = some (.int .i64 e)) ∧ W.cell? ⟨w.heap.size + 1, 0, none⟩ = some (.bool bn) ∧ W.cell? ⟨w.heap.size + 1, 1, none⟩ = some (.slice bo m cb) ∧ W.cell? ⟨w.heap.size + 1, 2, none⟩ = some (.int .i64 f))
        (first | assumption | exact ⟨⟨k0, k1, k2⟩, j0, j1, j2⟩ | exact keep66 (W := w3.drew) hbv1 ⟨⟨k0, k1, k2⟩, j0, j1, j2⟩ | exact keep66 hbv2 (keep66 (W := w3.drew) hbv1 ⟨⟨k0, k1, k2⟩, j0, j1, j2⟩) | exact ⟨keepS (keep66 hbv2 (keep66 (W := w3.drew) hbv1 ⟨⟨k0, k1, k2⟩, j0, j1, j2⟩)).1 (by omega) _ _ _, keepS (keep66 hbv2 (keep66 (W := w3.drew) hbv1 ⟨⟨k0, k1, k2⟩, j0, j1, j2⟩)).2 (by omega) _ _ _⟩)
        (first | (go_at_call 60; refine (C2 _ _ _ _ hv1).mono ?_; rintro y w4 ⟨ng4, o4, n4, c4, e4, rfl, hv2, hbv2⟩; have q0 := ((bel_trans hbv1 hbv2).block (w.heap.size + 2) (by show _ < w3.heap.size; omega)).trans g2; have x0 := blkC q0 0 rfl; have x1 := blkC q0 1 rfl; have x2 := blkC q0 2 rfl; have z0 := blkF q0 0; have z1 := blkF q0 1; have z2 := blkF q0 2) | (go_at_call 81; refine (C1 _ hb1.drew).mono ?_; rintro y w3' ⟨so, sn, sc, rfl, hv1, hbv1⟩))
      all_goals go_wp2
      all_goals
        refine bodyPost_ret (v := .agg #[.bool ng4, .slice o4 n4 c4, .int .i64 e4]) (by simp [results, Tryz.results40, go_sem, x0, x1, x2]) rfl ⟨_, rfl, ?_⟩
        exact dans_res3 (g := w.heap.size + 2) hv2 (bel_trans hbx3 (bel_trans hb1.drew hbv1)) (by omega) (Nat.lt_of_lt_of_le (show _ < w3.heap.size by omega) hbv1.size) _ _ _
    · have ho : ord A B < (0 : Int) := by rw [ord_lt (by omega)]; decide
      have C1 : ∀ W, Below w3.heap.size w3 W → Calls Tryz.prog 81 #[.slice qo qn qc, .slice po pn pc] W fun r w' => ∃ so sn sc, r = .returned (.slice so sn sc) ∧ Num w' (.slice so sn sc) (B - A) ∧ Below W.heap.size W w' := fun W h => H6 W _ _ (hP.keeps h) (hQ.keeps h) (by omega)
      have C2 : ∀ W so sn sc, Num W (.slice so sn sc) (B - A) → Calls Tryz.prog 60 #[.bool bn, .slice so sn sc, .int .i64 low] W fun r w' => ∃ ng s1 s2 s3 e1, r = .returned (.agg #[.bool ng, .slice s1 s2 s3, .int .i64 e1]) ∧ DAns W w' V (.agg #[.bool ng, .slice s1 s2 s3, .int .i64 e1]) ∧ Below W.heap.size W w' := fun W so sn sc hN => HH7.out W bn _ _ hN (.inr (.inr ⟨hng, by omega, rfl, rfl⟩))
      generalize ord A B = oAB at ho ⊢
      clear H1 H2 H3 H4 H5 H6 HH7 hAB
      go_wp2_with fail
      have hb1 := bel_refl w3
      go_region_held3 (fun W => (W.cell? ⟨w.heap.size, 0, none⟩ = some (.bool an) ∧ W.cell? ⟨w.heap.size, 1, none⟩ = some (.slice ao n ca) ∧ W.cell? ⟨w.heap.size, 2, none⟩ = some (.int .i64 e)) ∧ W.cell? ⟨w.heap.size + 1, 0, none⟩ = some (.bool bn) ∧ W.cell? ⟨w.heap.size + 1, 1, none⟩ = some (.slice bo m cb) ∧ W.cell? ⟨w.heap.size + 1, 2, none⟩ = some (.int .i64 f))
        (first | assumption | exact ⟨⟨k0, k1, k2⟩, j0, j1, j2⟩ | exact keep66 (W := w3.drew) hbv1 ⟨⟨k0, k1, k2⟩, j0, j1, j2⟩ | exact keep66 hbv2 (keep66 (W := w3.drew) hbv1 ⟨⟨k0, k1, k2⟩, j0, j1, j2⟩) | exact ⟨keepS (keep66 hbv2 (keep66 (W := w3.drew) hbv1 ⟨⟨k0, k1, k2⟩, j0, j1, j2⟩)).1 (by omega) _ _ _, keepS (keep66 hbv2 (keep66 (W := w3.drew) hbv1 ⟨⟨k0, k1, k2⟩, j0, j1, j2⟩)).2 (by omega) _ _ _⟩)
        (first | (go_at_call 60; refine (C2 _ _ _ _ hv1).mono ?_; rintro y w4 ⟨ng4, o4, n4, c4, e4, rfl, hv2, hbv2⟩; have q0 := ((bel_trans hbv1 hbv2).block (w.heap.size + 2) (by show _ < w3.heap.size; omega)).trans g2; have x0 := blkC q0 0 rfl; have x1 := blkC q0 1 rfl; have x2 := blkC q0 2 rfl; have z0 := blkF q0 0; have z1 := blkF q0 1; have z2 := blkF q0 2) | (go_at_call 81; refine (C1 _ hb1.drew).mono ?_; rintro y w3' ⟨so, sn, sc, rfl, hv1, hbv1⟩))
      all_goals go_wp2
      all_goals
        refine bodyPost_ret (v := .agg #[.bool ng4, .slice o4 n4 c4, .int .i64 e4]) (by simp [results, Tryz.results40, go_sem, x0, x1, x2]) rfl ⟨_, rfl, ?_⟩
        exact dans_res3 (g := w.heap.size + 2) hv2 (bel_trans hbx3 (bel_trans hb1.drew hbv1)) (by omega) (Nat.lt_of_lt_of_le (show _ < w3.heap.size by omega) hbv1.size) _ _ _
/-- Two numbers brought to one exponent. -/
theorem rsum_V {an bn : Bool} {A B low : Int} {ng : Bool} {M : Int} (h : (an = bn ∧ ng = an ∧ M = A + B) ∨ (an ≠ bn ∧ B ≤ A ∧ ng = an ∧ M = A - B) ∨ (an ≠ bn ∧ A < B ∧ ng = bn ∧ M = B - A)) :
    sg ng M * pw low = sg an A * pw low + sg bn B * pw low := by
  rw [← Int.add_mul]
  congr 1
  rcases h with ⟨rfl, rfl, rfl⟩ | ⟨h1, h2, rfl, rfl⟩ | ⟨h1, h2, rfl, rfl⟩
  · cases ng <;> simp [sg] <;> omega
  · cases ng <;> cases bn <;> simp [sg] at * <;> omega
  · cases an <;> cases ng <;> simp [sg] at * <;> omega
theorem Num.digits {w : World} {so : Option Addr} {sn sc : Nat} {M : Int} (h : Num w (.slice so sn sc) M) {K : Nat} (hK : K ≤ 560000) (hM : M < 2 ^ (2 * K) + 2 ^ (2 * K)) : ∃ d, Row w so sn sc d ∧ Nrm d sn ∧ val d sn = M ∧ sn ≤ 37500 := by
  obtain ⟨ao, n, ca, d, e, hR, hN, hv⟩ := h
  simp only [Value.slice.injEq] at e
  obtain ⟨rfl, rfl, rfl⟩ := e
  refine ⟨d, hR, hN, hv, ?_⟩
  by_cases h1 : sn ≤ 37500
  · exact h1
  · exfalso
    have a := val_top hN.1 (by omega) hN.2
    have b := P_le (show 37500 ≤ sn - 1 by omega)
    have c : (2 : Int) ^ (2 * K) ≤ 2 ^ (30 * 37400) := two_le (by omega)
    have c2 : (2 : Int) ^ (30 * 37400) * 2 ≤ 2 ^ (30 * 37500) := by
      rw [← Int.pow_succ]
      exact two_le (by omega)
    rw [← P_two 37500] at c2
    generalize P 37500 = Y at *
    generalize (2 : Int) ^ (30 * 37400) = Z at *
    omega
theorem radd3_any (x y : NumR) (w : World) (hx : Row w x.ao x.n x.cap x.d) (hy : Row w y.ao y.n y.cap y.d) (dx : Dy x.V x.ng (val x.d x.n) x.e) (nx : Nrm x.d x.n) (dy : Dy y.V y.ng (val y.d y.n) y.e) (ny : Nrm y.d y.n) {K : Nat} (hK : K ≤ 560000) (bx : Bd K x.V) (bY : Bd K y.V) :
    Calls Tryz.prog 40 #[x.v, y.v] w fun r w' => ∃ v, r = .returned v ∧ RSum w w' x.V y.V x.v y.v v := by
  by_cases h0 : x.n = 0
  · refine (radd3_left x y w (Nat.le_trans hx.le hx.max) (Nat.le_trans hy.le hy.max) h0).mono ?_
    rintro r w' ⟨rfl, hb⟩
    exact ⟨_, rfl, hb, .inr (.inl ⟨dx.eq_zero.2 (by rw [h0]; rfl), rfl⟩)⟩
  · by_cases h1 : y.n = 0
    · refine (radd3_right x y w (Nat.le_trans hx.le hx.max) (Nat.le_trans hy.le hy.max) (by omega) h1).mono ?_
      rintro r w' ⟨rfl, hb⟩
      exact ⟨_, rfl, hb, .inr (.inr ⟨dy.eq_zero.2 (by rw [h1]; rfl), rfl⟩)⟩
    · have px := val_pos nx (show 0 < x.n by omega)
      have py := val_pos ny (show 0 < y.n by omega)
      obtain ⟨a1, a2, _⟩ := bd_form bx dx (by omega) px
      obtain ⟨b1, b2, _⟩ := bd_form bY dy (by omega) py
      obtain ⟨low, hlow⟩ : ∃ low : Int, low = min x.e y.e := ⟨_, rfl⟩
      have hl0 : -(K : Int) ≤ low := by omega
      have s1 := bd_shift bx dx (by omega) px hl0 (by omega)
      have s2 := bd_shift bY dy (by omega) py hl0 (by omega)
      have v1 := dx.at (low := low) (by omega) (by omega)
      have v2 := dy.at (low := low) (by omega) (by omega)
      have dgx := bd_digits hK nx (bd_self bx dx (by omega) px)
      have dgy := bd_digits hK ny (bd_self bY dy (by omega) py)
      have q1 : 0 ≤ val x.d x.n * 2 ^ (x.e - low).toNat := Int.mul_nonneg (by omega) (Int.le_of_lt (two_pos _))
      have q2 : 0 ≤ val y.d y.n * 2 ^ (y.e - low).toNat := Int.mul_nonneg (by omega) (Int.le_of_lt (two_pos _))
      have e1 : x.e - low = ((x.e - low).toNat : Int) := by omega
      have e2 : y.e - low = ((y.e - low).toNat : Int) := by omega
      have H1 : ∀ W, Below w.heap.size w W → Calls Tryz.prog 78 #[.slice x.ao x.n x.cap, .int .i64 (x.e - low)] W fun r w' => ∃ so sn sc, r = .returned (.slice so sn sc) ∧ Num w' (.slice so sn sc) (val x.d x.n * 2 ^ (x.e - low).toNat) ∧ Below W.heap.size W w' := fun W hb => by
        rw [e1]
        refine (rshl_any x.ao x.n x.cap _ x.d W (hx.keeps hb) nx.1 (by omega) (by omega)).mono ?_
        rintro r w' ⟨v, rfl, hA⟩
        obtain ⟨so, sn, sc, rfl⟩ := hA.num.shape
        exact ⟨so, sn, sc, rfl, by rw [← e1]; exact hA.num, hA.below⟩
      have H2 : ∀ W, Below w.heap.size w W → Calls Tryz.prog 78 #[.slice y.ao y.n y.cap, .int .i64 (y.e - low)] W fun r w' => ∃ so sn sc, r = .returned (.slice so sn sc) ∧ Num w' (.slice so sn sc) (val y.d y.n * 2 ^ (y.e - low).toNat) ∧ Below W.heap.size W w' := fun W hb => by
        rw [e2]
        refine (rshl_any y.ao y.n y.cap _ y.d W (hy.keeps hb) ny.1 (by omega) (by omega)).mono ?_
        rintro r w' ⟨v, rfl, hA⟩
        obtain ⟨so, sn, sc, rfl⟩ := hA.num.shape
        exact ⟨so, sn, sc, rfl, by rw [← e2]; exact hA.num, hA.below⟩
      generalize val x.d x.n * 2 ^ (x.e - low).toNat = A at *
      generalize val y.d y.n * 2 ^ (y.e - low).toNat = B at *
      have dg := fun W so sn sc M (h : Num W (.slice so sn sc) M) hM => h.digits hK hM
      have key : ∀ W p M, Num W p M → M < 2 ^ (2 * K) + 2 ^ (2 * K) → ∃ so sn sc d, p = .slice so sn sc ∧ Row W so sn sc d ∧ Nrm d sn ∧ val d sn = M ∧ sn ≤ 37500 := fun W p M h hM => by
        obtain ⟨so, sn, sc, rfl⟩ := h.shape
        obtain ⟨d, h1, h2, h3, h4⟩ := h.digits hK hM
        exact ⟨so, sn, sc, d, rfl, h1, h2, h3, h4⟩
      refine (radd3_walk x y w hx hy (by omega) (by omega) low A B (x.V + y.V) hlow (by omega) (by omega) (by omega) H1 H2 ?_ ?_ ?_ ?_ ?_).mono ?_
      · intro W p q hp hq
        obtain ⟨po, pn, pc, d, rfl, r1, r2, r3, r4⟩ := key W p A hp (by omega)
        obtain ⟨qo, qn, qc, d', rfl, u1, u2, u3, u4⟩ := key W q B hq (by omega)
        refine (radd_any _ _ _ _ _ _ d d' W r1 u1 r2 u2 (by omega) (by omega)).mono ?_
        rw [r3, u3]
        rintro r w' ⟨v, rfl, hA⟩
        obtain ⟨so, sn, sc, rfl⟩ := hA.num.shape
        exact ⟨so, sn, sc, rfl, hA.num, hA.below⟩
      · intro W p q hp hq
        obtain ⟨po, pn, pc, d, rfl, r1, r2, r3, r4⟩ := key W p A hp (by omega)
        obtain ⟨qo, qn, qc, d', rfl, u1, u2, u3, u4⟩ := key W q B hq (by omega)
        have := rcmp_any po qo pn qn pc qc d d' W r1 u1 r2 u2
        rwa [r3, u3] at this
      · intro W p q hp hq hle
        obtain ⟨po, pn, pc, d, rfl, r1, r2, r3, r4⟩ := key W p A hp (by omega)
        obtain ⟨qo, qn, qc, d', rfl, u1, u2, u3, u4⟩ := key W q B hq (by omega)
        refine (rsub_any _ _ _ _ _ _ d d' W r1 u1 r2 u2 (by omega) (by rw [r3, u3]; exact hle)).mono ?_
        rw [r3, u3]
        rintro r w' ⟨v, rfl, hA⟩
        obtain ⟨so, sn, sc, rfl⟩ := hA.num.shape
        exact ⟨so, sn, sc, rfl, hA.num, hA.below⟩
      · intro W p q hp hq hle
        obtain ⟨po, pn, pc, d, rfl, r1, r2, r3, r4⟩ := key W p A hp (by omega)
        obtain ⟨qo, qn, qc, d', rfl, u1, u2, u3, u4⟩ := key W q B hq (by omega)
        refine (rsub_any _ _ _ _ _ _ d' d W u1 r1 u2 r2 (by omega) (by rw [r3, u3]; exact hle)).mono ?_
        rw [r3, u3]
        rintro r w' ⟨v, rfl, hA⟩
        obtain ⟨so, sn, sc, rfl⟩ := hA.num.shape
        exact ⟨so, sn, sc, rfl, hA.num, hA.below⟩
      · intro W ng s M hs hc
        have hM : M < 2 ^ (2 * K) + 2 ^ (2 * K) := by rcases hc with ⟨_, _, h⟩ | ⟨_, _, _, h⟩ | ⟨_, _, _, h⟩ <;> omega
        obtain ⟨po, pn, pc, d, rfl, r1, r2, r3, r4⟩ := key W s M hs hM
        have hV := rsum_V (low := low) hc
        rw [← v1, ← v2] at hV
        refine (rnorm_any ng po pn pc d low W r1 r2.1 (by omega) (by omega) (by omega)).mono ?_
        rw [r3, hV]
        rintro r w' ⟨v, rfl, hD⟩
        obtain ⟨ng', s, m', e1, rfl, _, hA⟩ := id hD
        obtain ⟨q1, q2, q3, rfl⟩ := hA.num.shape
        exact ⟨ng', q1, q2, q3, e1, rfl, hD, hD.below⟩
      · rintro r w' ⟨v, rfl, hD⟩
        exact ⟨v, rfl, hD.below, .inl hD⟩
/-- A sum, by its worth. -/
theorem radd_D {w : World} {x y : Value} {A B : Int} (hx : DNum w x A) (hy : DNum w y B) {K : Nat} (hK : K ≤ 560000) (bx : Bd K A) (bY : Bd K B) :
    Calls Tryz.prog 40 #[x, y] w fun r w' => ∃ v, r = .returned v ∧ RSum w w' A B x y v := by
  obtain ⟨ng, s, m, e, rfl, dx, ao, n, cap, d, rfl, hR, hN, rfl⟩ := hx
  obtain ⟨ng', s', m', e', rfl, dy, ao', n', cap', d', rfl, hR', hN', rfl⟩ := hy
  obtain rfl : A = (⟨ng, ao, n, cap, d, e⟩ : NumR).V := dx.val
  obtain rfl : B = (⟨ng', ao', n', cap', d', e'⟩ : NumR).V := dy.val
  exact radd3_any ⟨ng, ao, n, cap, d, e⟩ ⟨ng', ao', n', cap', d', e'⟩ w hR hR' dx hN dy hN' hK bx bY
end Go.Proofs.YtnhkagiionkjaaaGreatDoor

/-
  Package plumbref3: Sub, Cmp, by contracts.
-/
namespace Go.Proofs.YtnhkagiionkjaaaGreatDoor
open Go Go.RowKit Go.Proofs.YtnhkagiionkjaaaGreatDoor.M
set_option linter.unusedSimpArgs false
set_option linter.unusedVariables false

theorem opp_V {x : NumR} (ok : okR x = true) : x.opp.V = -x.V ∧ Dy x.opp.V x.opp.ng (val x.opp.d x.opp.n) x.opp.e := by
  have hy := (okR_dy ok).1
  have hN := (okR_sane ok).1
  by_cases h0 : x.n = 0
  · have hv : val x.d x.n = 0 := by rw [h0]; rfl
    have e : x.opp = x := by unfold NumR.opp; rw [if_pos h0]
    rw [e]
    have := hy.eq_zero.2 hv
    exact ⟨by omega, hy⟩
  · have hp := val_pos hN (show 0 < x.n by omega)
    have e : x.opp = ⟨!x.ng, x.ao, x.n, x.cap, x.d, x.e⟩ := by unfold NumR.opp; rw [if_neg h0]
    rw [e]
    have h1 := hy.neg hp
    have hV : NumR.V ⟨!x.ng, x.ao, x.n, x.cap, x.d, x.e⟩ = -x.V := h1.val.symm
    rw [hV]
    exact ⟨rfl, h1⟩
theorem RSum.shape {w w' : World} {A B : Int} {x y : NumR} {v : Value} (h : RSum w w' A B x.v y.v v) : ∃ ng so sn sc e, v = .agg #[.bool ng, .slice so sn sc, .int .i64 e] := by
  rcases h.2 with ⟨ng, s, m, e, rfl, _, hA⟩ | ⟨_, rfl⟩ | ⟨_, rfl⟩
  · obtain ⟨so, sn, sc, rfl⟩ := hA.num.shape
    exact ⟨_, _, _, _, _, rfl⟩
  · exact ⟨_, _, _, _, _, rfl⟩
  · exact ⟨_, _, _, _, _, rfl⟩
theorem rsum_res {w W w3 : World} {A B : Int} {x y v : Value} (hv : RSum W w3 A B x y v) (hb : Below w.heap.size w W) {g : Nat} (h0 : w.heap.size ≤ g) (h1 : g < W.heap.size) (a b c : Value) :
    RSum w (((w3.setCell ⟨g, 0, none⟩ a).setCell ⟨g, 1, none⟩ b).setCell ⟨g, 2, none⟩ c) A B x y v := by
  refine ⟨bel_set3 (bel_trans hb hv.1) h0 _ _ _, ?_⟩
  rcases hv.2 with h | h | h
  · exact .inl (dans_res3 h hb h0 h1 a b c)
  · exact .inr (.inl h)
  · exact .inr (.inr h)
set_option maxRecDepth 100000 in
set_option maxHeartbeats 2000000 in
theorem rsub3_any (x y : NumR) (w : World) (hx : Row w x.ao x.n x.cap x.d) (hy : Row w y.ao y.n y.cap y.d) (ox : okR x = true) (oy : okR y = true) {K : Nat} (hK : K ≤ 560000) (bx : Bd K x.V) (bY : Bd K y.V) :
    Calls Tryz.prog 41 #[x.v, y.v] w fun r w' => ∃ v, r = .returned v ∧ RSum w w' x.V (-y.V) x.v y.opp.v v := by
  obtain ⟨e1, e2⟩ := opp_V oy
  have hop := fun W => rneg3_any y W (by have := hy.le; have := hy.max; omega)
  have C2 : ∀ W, Below w.heap.size w W → Calls Tryz.prog 40 #[x.v, y.opp.v] W fun r w' => ∃ ng so sn sc e, r = .returned (.agg #[.bool ng, .slice so sn sc, .int .i64 e]) ∧ RSum W w' x.V (-y.V) x.v y.opp.v (.agg #[.bool ng, .slice so sn sc, .int .i64 e]) ∧ Below W.heap.size W w' := fun W hb => by
    refine (radd3_any x y.opp W (hx.keeps hb) (hy.keeps hb) (okR_dy ox).1 (okR_sane ox).1 e2 (okR_sane oy).1 hK bx (by rw [e1]; exact bY.neg)).mono ?_
    rintro r w' ⟨v, rfl, h⟩
    rw [e1] at h
    obtain ⟨ng, so, sn, sc, e, rfl⟩ := h.shape
    exact ⟨_, _, _, _, _, rfl, h, h.1⟩
  have hmy := hy.max
  have hly := hy.le
  obtain ⟨VV, hVV⟩ : ∃ V, V = x.V := ⟨_, rfl⟩
  obtain ⟨UU, hUU⟩ : ∃ V, V = -y.V := ⟨_, rfl⟩
  rw [← hVV, ← hUU] at C2 ⊢
  clear e1 e2 bx bY hVV hUU ox oy
  unfold NumR.opp at *
  obtain ⟨on, hon⟩ : ∃ V, V = (if y.n = 0 then y.ng else !y.ng) := ⟨_, rfl⟩
  rw [← hon] at hop C2 ⊢
  clear hon
  obtain ⟨an, ao, n, ca, a, e⟩ := x
  obtain ⟨bn, bo, m, cb, b, f⟩ := y
  unfold NumR.v at *
  simp only at *
  have hb3 : Below w.heap.size w (((w.alloc (.cells #[.bool an, .slice ao n ca, .int .i64 e] 25)).alloc (.cells #[.bool bn, .slice bo m cb, .int .i64 f] 25)).alloc (.cells #[.bool false, .slice none 0 0, .int .i64 0] 25)) := bel_a3 _ _ _ _
  have g0 := h3_0 w (.cells #[.bool an, .slice ao n ca, .int .i64 e] 25) (.cells #[.bool bn, .slice bo m cb, .int .i64 f] 25) (.cells #[.bool false, .slice none 0 0, .int .i64 0] 25)
  have g1 := h3_1 w (.cells #[.bool an, .slice ao n ca, .int .i64 e] 25) (.cells #[.bool bn, .slice bo m cb, .int .i64 f] 25) (.cells #[.bool false, .slice none 0 0, .int .i64 0] 25)
  have g2 := h3_2 w (.cells #[.bool an, .slice ao n ca, .int .i64 e] 25) (.cells #[.bool bn, .slice bo m cb, .int .i64 f] 25) (.cells #[.bool false, .slice none 0 0, .int .i64 0] 25)
  go_enter Tryz.func41, Tryz.ntmps41
  go_wp2_with fail
  generalize ((w.alloc (.cells #[.bool an, .slice ao n ca, .int .i64 e] 25)).alloc (.cells #[.bool bn, .slice bo m cb, .int .i64 f] 25)).alloc (.cells #[.bool false, .slice none 0 0, .int .i64 0] 25) = wx at hb3 g0 g1 g2 ⊢
  have k0 := blkC g0 0 rfl
  have k1 := blkC g0 1 rfl
  have k2 := blkC g0 2 rfl
  have j0 := blkC g1 0 rfl
  have j1 := blkC g1 1 rfl
  have j2 := blkC g1 2 rfl
  have hb1 := bel_refl wx
  have hs3 := (Array.getElem?_eq_some_iff.1 g2).1
  go_region_held3 (fun W => (W.cell? ⟨w.heap.size, 0, none⟩ = some (.bool an) ∧ W.cell? ⟨w.heap.size, 1, none⟩ = some (.slice ao n ca) ∧ W.cell? ⟨w.heap.size, 2, none⟩ = some (.int .i64 e)) ∧ W.cell? ⟨w.heap.size + 1, 0, none⟩ = some (.bool bn) ∧ W.cell? ⟨w.heap.size + 1, 1, none⟩ = some (.slice bo m cb) ∧ W.cell? ⟨w.heap.size + 1, 2, none⟩ = some (.int .i64 f))
    (first | assumption | exact ⟨⟨k0, k1, k2⟩, j0, j1, j2⟩ | exact keep66 (W := wx.drew) hbv1 ⟨⟨k0, k1, k2⟩, j0, j1, j2⟩ | exact keep66 hbv2 (keep66 (W := wx.drew) hbv1 ⟨⟨k0, k1, k2⟩, j0, j1, j2⟩) | exact ⟨keepS (keep66 hbv2 (keep66 (W := wx.drew) hbv1 ⟨⟨k0, k1, k2⟩, j0, j1, j2⟩)).1 (by omega) _ _ _, keepS (keep66 hbv2 (keep66 (W := wx.drew) hbv1 ⟨⟨k0, k1, k2⟩, j0, j1, j2⟩)).2 (by omega) _ _ _⟩)
    (first | (go_at_call 40; refine (C2 _ (bel_trans hb3 (bel_trans hb1.drew hbv1))).mono ?_; rintro y w4 ⟨ng4, o4, n4, c4, e4, rfl, hv2, hbv2⟩; have q0 := ((bel_trans hbv1 hbv2).block (w.heap.size + 2) (by show _ < wx.heap.size; omega)).trans g2; have x0 := blkC q0 0 rfl; have x1 := blkC q0 1 rfl; have x2 := blkC q0 2 rfl; have z0 := blkF q0 0; have z1 := blkF q0 1; have z2 := blkF q0 2) | (go_at_call 35; refine (hop _).mono ?_; rintro y w3 ⟨rfl, hbv1⟩))
  all_goals go_wp2
  all_goals
    refine bodyPost_ret (v := .agg #[.bool ng4, .slice o4 n4 c4, .int .i64 e4]) (by simp [results, Tryz.results41, go_sem, x0, x1, x2]) rfl ⟨_, rfl, ?_⟩
    exact rsum_res (g := w.heap.size + 2) hv2 (bel_trans hb3 (bel_trans hb1.drew hbv1)) (by omega) (Nat.lt_of_lt_of_le (show _ < wx.heap.size by omega) hbv1.size) _ _ _
theorem sgn_ord {w : World} {ng : Bool} {so : Option Addr} {sn sc : Nat} {e V : Int} (h : DNum w (.agg #[.bool ng, .slice so sn sc, .int .i64 e]) V) : sgn ng sn = ord V 0 ∧ sn ≤ 9223372036854775807 := by
  obtain ⟨ng', s, m, e', h1, hy, ao, n, cap, d, rfl, hR, hN, rfl⟩ := h
  simp only [Value.agg.injEq, Array.mk.injEq, List.cons.injEq, Value.bool.injEq, Value.int.injEq, Value.slice.injEq, and_true, true_and] at h1
  obtain ⟨rfl, ⟨rfl, rfl, rfl⟩, rfl⟩ := h1
  refine ⟨?_, by have := hR.le; have := hR.max; omega⟩
  by_cases h0 : sn = 0
  · have := hy.eq_zero.2 (by rw [h0]; rfl)
    rw [this, ord_eq rfl]
    simp [sgn, h0]
  · have hp := val_pos hN (show 0 < sn by omega)
    cases ng
    · have hn : ¬ V < 0 := fun h => by have := hy.neg_iff.2 h; simp at this
      have hz : V ≠ 0 := fun h => by have := hy.eq_zero.1 h; omega
      rw [ord_gt (by omega)]
      simp [sgn, h0]
    · have hn := hy.neg_iff.1 rfl
      rw [ord_lt hn]
      simp [sgn, h0]
set_option maxRecDepth 100000 in
theorem rcmp3_any (x y : NumR) (w : World) (hx : Row w x.ao x.n x.cap x.d) (hy : Row w y.ao y.n y.cap y.d) (ox : okR x = true) (oy : okR y = true) {K : Nat} (hK : K ≤ 560000) (bx : Bd K x.V) (bY : Bd K y.V) :
    Calls Tryz.prog 43 #[x.v, y.v] w fun r w' => r = .returned (.int .i64 (ord x.V y.V)) ∧ Below w.heap.size w w' := by
  have nx : ∀ W, Below w.heap.size w W → DNum W x.v x.V := fun W hb => (DRd.of0 hx ox hb).num
  have ny : ∀ W, Below w.heap.size w W → DNum W y.opp.v (-y.V) := fun W hb => by
    obtain ⟨e1, e2⟩ := opp_V oy
    rw [e1] at e2
    exact ⟨_, _, _, _, rfl, e2, _, _, _, _, rfl, hy.keeps hb, (okR_sane oy).1, rfl⟩
  have C1 : ∀ W, Below w.heap.size w W → Calls Tryz.prog 41 #[x.v, y.v] W fun r w' => ∃ ng so sn sc e, r = .returned (.agg #[.bool ng, .slice so sn sc, .int .i64 e]) ∧ sgn ng sn = ord x.V y.V ∧ sn ≤ 9223372036854775807 ∧ Below W.heap.size W w' := fun W hb => by
    refine (rsub3_any x y W (hx.keeps hb) (hy.keeps hb) ox oy hK bx bY).mono ?_
    rintro r w' ⟨v, rfl, h⟩
    obtain ⟨ng, so, sn, sc, e, rfl⟩ := h.shape
    obtain ⟨s1, s2⟩ := sgn_ord (h.num (nx W hb) (ny W hb))
    refine ⟨_, _, _, _, _, rfl, ?_, s2, h.1⟩
    rw [s1]
    have := ord_sub x.V y.V
    rw [← this]
    congr 1
  obtain ⟨VV, hVV⟩ : ∃ V, V = ord x.V y.V := ⟨_, rfl⟩
  rw [← hVV] at C1 ⊢
  clear nx ny bx bY hVV ox oy
  obtain ⟨an, ao, n, ca, a, e⟩ := x
  obtain ⟨bn, bo, m, cb, b, f⟩ := y
  unfold NumR.v at *
  simp only at *
  go_enter Tryz.func43, Tryz.ntmps43
  go_wp2_with fail
  refine (C1 _ (bel_alloc2 _ _ _)).mono ?_
  rintro r w1 ⟨ng, so, sn, sc, e1, rfl, hs, hm, hb1⟩
  have HS : Hid (sgn ng sn = VV) := hs
  clear hs
  go_wp2_with fail
  refine (rsign3_any ng so sn sc e1 _ hm).mono ?_
  rintro r w2 ⟨rfl, hb2⟩
  go_wp2
  go_ret
  exact ⟨ret_int HS.out, bel_trans (bel_trans (bel_alloc2 _ _ _) hb1) hb2⟩
end Go.Proofs.YtnhkagiionkjaaaGreatDoor
