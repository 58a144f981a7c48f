/-
  Package dyadic: Add, Sub, by contracts.
-/
import Derived.Test.YtcpjdgfnblkfpaaGreatDoorDTotal
namespace Go.Proofs.YtcpjdgfnblkfpaaGreatDoor
open Go Go.RowKit Go.Proofs.YtcpjdgfnblkfpaaGreatDoor.M
set_option linter.unusedSimpArgs false
set_option linter.unusedVariables false

/-- What a number is worth, in the scale. -/
def NumR.V (r : NumR) : Int := sg r.ng (val r.d r.n) * pw r.e
def pair2 (x y : NumR) : Nat → NumR := fun i => if i = 0 then x else y
theorem nums2 {w : World} {g : Nat} {x y : NumR} {t : TypeId} (h : w.heap[g]? = some (.cells #[.bool x.ng, .slice x.ao x.n x.cap, .int .i64 x.e, .bool y.ng, .slice y.ao y.n y.cap, .int .i64 y.e] t (0, 0))) (hx : Row w x.ao x.n x.cap x.d) (hy : Row w y.ao y.n y.cap y.d) :
    Nums w (some ⟨g, 0, none⟩) 2 2 (pair2 x y) :=
  ⟨Nat.le_refl _, by decide, fun _ => ⟨g, 0, rfl, (Array.getElem?_eq_some_iff.1 h).1, fun i hi => by
    match i, hi with
    | 0, _ => exact ⟨blkC h 0 rfl, blkC h 1 rfl, blkC h 2 rfl, hx⟩
    | 1, _ => exact ⟨blkC h 3 rfl, blkC h 4 rfl, blkC h 5 rfl, hy⟩⟩⟩
theorem allOk2 (x y : NumR) : allOk (pair2 x y) 2 = (okR x && okR y) := by
  unfold allOk
  by_cases hx : okR x = true
  · by_cases hy : okR y = true
    · rw [hx, hy]
      exact decide_eq_true fun i hi => by
        match i, hi with
        | 0, _ => exact hx
        | 1, _ => exact hy
    · have : okR y = false := by simpa using hy
      rw [hx, this]
      exact decide_eq_false fun h => hy (h 1 (by omega))
  · have : okR x = false := by simpa using hx
    rw [this, Bool.false_and]
    exact decide_eq_false fun h => hx (h 0 (by omega))
theorem sumV2 (x y : NumR) : sumV (pair2 x y) 2 = x.V + y.V := by
  show 0 + x.V + y.V = _
  rw [Int.zero_add]
theorem okR_sane {x : NumR} (h : okR x = true) : Sane x := by
  rcases of_decide_eq_true h with ⟨h1, h2, h3⟩ | ⟨h1, ⟨h2, h3⟩, h4, h5, h6⟩
  · exact ⟨⟨fun i hi => by omega, .inl h1⟩, by omega, by omega, by omega⟩
  · exact ⟨h3, by omega, by omega, by omega⟩
theorem okR_dy {x : NumR} (h : okR x = true) : Dy x.V x.ng (val x.d x.n) x.e ∧ val x.d x.n < P 2000 ∧ Dok x.V := by
  have hd : Dy x.V x.ng (val x.d x.n) x.e ∧ val x.d x.n < P 2000 ∧ -1048576 ≤ x.e ∧ x.e ≤ 1048576 := by
    rcases of_decide_eq_true h with ⟨h1, h2, h3⟩ | ⟨h1, ⟨h2, h3⟩, h4, h5, h6⟩
    · exact ⟨⟨rfl, by omega, .inl ⟨by rw [h1]; rfl, h2, h3⟩⟩, by rw [h1]; show (0 : Int) < P 2000; exact P_pos 2000, by omega, by omega⟩
    · refine ⟨⟨rfl, by omega, .inr ⟨val_pos h3 h1, ?_⟩⟩, ?_, h5, h6⟩
      · obtain ⟨m, hm⟩ : ∃ m, x.n = m + 1 := ⟨x.n - 1, by omega⟩
        have := val_split x.d 1 m
        rw [show 1 + m = x.n by omega] at this
        rw [this]
        rw [show val x.d 1 = x.d 0 by show 0 + x.d 0 * 1 = _; omega, show P 1 = 1073741824 from rfl]
        omega
      · exact Int.lt_of_lt_of_le (val_lt h3.1) (P_le h2)
  exact ⟨hd.1, hd.2.1, hd.1.ok.2 hd.2⟩
theorem bel_set3 {w w1 : World} (h : Below w.heap.size w w1) {g : Nat} (hg : w.heap.size ≤ g) (a b c : Value) : Below w.heap.size w (((w1.setCell ⟨g, 0, none⟩ a).setCell ⟨g, 1, none⟩ b).setCell ⟨g, 2, none⟩ c) :=
  ((h.setCell (p := ⟨g, 0, none⟩) hg a).setCell (p := ⟨g, 1, none⟩) hg b).setCell (p := ⟨g, 2, none⟩) hg c
theorem heap_set {w : World} {g : Nat} {xs : Array Value} {t : TypeId} (h : w.heap[g]? = some (.cells xs t (0, 0))) (i : Nat) (v : Value) : (w.setCell ⟨g, i, none⟩ v).heap[g]? = some (.cells (xs.setIfInBounds i v) t (0, 0)) := by
  simp [World.setCell, Array.getElem?_modify, h]
set_option maxRecDepth 100000 in
set_option maxHeartbeats 1000000 in
theorem add1_any (x y : NumR) (g h : Nat) (w : World) (cg : w.heap[g]? = some (.cells #[.bool x.ng, .slice x.ao x.n x.cap, .int .i64 x.e] 37 (0, 0))) (ch : w.heap[h]? = some (.cells #[.bool y.ng, .slice y.ao y.n y.cap, .int .i64 y.e] 37 (0, 0)))
    (hx : Row w x.ao x.n x.cap x.d) (hy : Row w y.ao y.n y.cap y.d) (sx : Sane x) (sy : Sane y) (hT : Tab w) :
    Calls Tryz.prog 65 #[.pointer (some ⟨g, 0, none⟩), .pointer (some ⟨h, 0, none⟩)] w (DOut w (x.V + y.V)) := by
  obtain ⟨an, ao, n, ca, a, e⟩ := x
  obtain ⟨bn, bo, m, cb, b, f⟩ := y
  simp only at cg ch hx hy
  have hb := bel_alloc w (.cells #[.bool false, .slice none 0 0, .int .i64 0] 37)
  have g0 := heap_past (.cells #[.bool false, .slice none 0 0, .int .i64 0] 37) cg
  have g1 := heap_past (.cells #[.bool false, .slice none 0 0, .int .i64 0] 37) ch
  have k0 := blkC g0 0 rfl
  have k1 := blkC g0 1 rfl
  have k2 := blkC g0 2 rfl
  have j0 := blkC g1 0 rfl
  have j1 := blkC g1 1 rfl
  have j2 := blkC g1 2 rfl
  have hN := fun q => nums2 (w := (w.alloc (.cells #[.bool false, .slice none 0 0, .int .i64 0] 37)).alloc (.cells #[.bool an, .slice ao n ca, .int .i64 e, .bool bn, .slice bo m cb, .int .i64 f] 37)) (g := w.heap.size + 1) (x := ⟨an, ao, n, ca, a, e⟩) (y := ⟨bn, bo, m, cb, b, f⟩) (t := 37) q (hx.keeps (bel_alloc2 _ _ _)) (hy.keeps (bel_alloc2 _ _ _))
  go_enter Tryz.func65, Tryz.ntmps65
  go_wp2_with fail
  refine (total_any _ _ _ _ _ (hN (heap_b2 _ _ _)) (fun i hi => ?_) (by omega) (hT.keeps (bel_alloc2 _ _ _))).mono ?_
  · match i, hi with
    | 0, _ => exact sx
    | 1, _ => exact sy
  rw [sumV2]
  rintro r w7 (⟨hok, v, rfl, hD⟩ | ⟨hno, rfl, hb7⟩)
  · have hb7 := hD.below
    obtain ⟨ng', s', m', e', rfl, hyy, hA⟩ := id hD
    obtain ⟨so, sn, sc, rfl⟩ := hA.num.shape
    have q0 := (hb7.block w.heap.size (by rw [size2]; omega)).trans (heap_a2 _ _ _)
    have x0 := blkC q0 0 rfl
    have x1 := blkC q0 1 rfl
    have x2 := blkC q0 2 rfl
    have z0 := blkF q0 0
    have z1 := blkF q0 1
    have z2 := blkF q0 2
    go_wp2
    refine bodyPost_ret (v := .agg #[.bool ng', .slice so sn sc, .int .i64 e']) (by simp [results, Tryz.results65, go_sem, x0, x1, x2]) rfl ?_
    exact .inl ⟨hok, _, rfl, dans_res3 (g := w.heap.size) hD (bel_alloc2 _ _ _) (Nat.le_refl _) (by rw [size2]; omega) _ _ _⟩
  · exact ⟨rfl, .inr ⟨hno, rfl, bel_trans (bel_alloc2 _ _ _) hb7⟩⟩
set_option maxRecDepth 100000 in
set_option maxHeartbeats 1000000 in
theorem dadd_bad (x y : NumR) (w : World) (hx : Row w x.ao x.n x.cap x.d) (hy : Row w y.ao y.n y.cap y.d) (ok : (okR x && okR y) = false) :
    Calls Tryz.prog 42 #[x.v, y.v] w fun r w' => r = .returned (.tuple #[zeroV, .int .i64 11]) ∧ Below w.heap.size w w' := by
  have hmf : ∀ (fn : Fn) (first cap : Array Value) (w : World), (Instr.makeFunc fn first cap).run Tryz.prog w = .ok (.func fn first cap) w := fun _ _ _ _ => rfl
  have hA := allOk2 x y
  rw [ok] at hA
  have hN := fun W q hb => nums2 (w := W) (g := w.heap.size + 3) (x := x) (y := y) (t := 37) q (hx.keeps hb) (hy.keeps hb)
  generalize pair2 x y = pr at hA hN
  obtain ⟨an, ao, n, ca, a, e⟩ := x
  obtain ⟨bn, bo, m, cb, b, f⟩ := y
  unfold NumR.v
  simp only at hx hy hN ⊢
  go_enter Tryz.func42, Tryz.ntmps42
  go_wp2_with fail
  refine (dvalids_any _ _ _ _ _ (hN _ (h4_3 _ _ _ _ _) (bel_a4 _ _ _ _ _))).mono ?_
  rw [hA]
  rintro r w1 ⟨rfl, hb1⟩
  have q0 := (hb1.block (w.heap.size + 2) (by rw [size4]; omega)).trans (h4_2 _ _ _ _ _)
  have x0 := blkC q0 0 rfl
  have x1 := blkC q0 1 rfl
  have x2 := blkC q0 2 rfl
  have z0 := blkF q0 0
  have z1 := blkF q0 1
  have z2 := blkF q0 2
  go_wp2
  refine bodyPost_ret (v := .tuple #[zeroV, .int .i64 11]) (by simp [results, Tryz.results42, go_sem, zeroV, x0, x1, x2]) rfl ⟨rfl, ?_⟩
  exact bel_set3 (bel_trans (bel_a4 _ _ _ _ _) hb1) (by omega) _ _ _
set_option maxRecDepth 100000 in
set_option maxHeartbeats 1000000 in
theorem dadd_ok (x y : NumR) (w : World) (hx : Row w x.ao x.n x.cap x.d) (hy : Row w y.ao y.n y.cap y.d) (ox : okR x = true) (oy : okR y = true) (hT : Tab w) :
    Calls Tryz.prog 42 #[x.v, y.v] w fun r w' => ∃ v er, r = .returned (.tuple #[v, .int .i64 er]) ∧ DFit w w' (x.V + y.V) v er := by
  have hmf : ∀ (fn : Fn) (first cap : Array Value) (w : World), (Instr.makeFunc fn first cap).run Tryz.prog w = .ok (.func fn first cap) w := fun _ _ _ _ => rfl
  have hE : ∀ (cap : Array Value) (w : World), (callFunc 65 cap).run Tryz.prog w = .ok (.enter 65 cap) w := by
    intro cap w
    simp [go_sem]
  have hA := allOk2 x y
  rw [ox, oy] at hA
  have hN := fun W q hb => nums2 (w := W) (g := w.heap.size + 3) (x := x) (y := y) (t := 37) q (hx.keeps hb) (hy.keeps hb)
  have hC := fun W hb cg ch => add1_any x y w.heap.size (w.heap.size + 1) W cg ch (hx.keeps hb) (hy.keeps hb) (okR_sane ox) (okR_sane oy) (hT.keeps hb)
  generalize pair2 x y = pr at hA hN
  generalize x.V + y.V = V at hC ⊢
  clear ox oy
  obtain ⟨an, ao, n, ca, a, e⟩ := x
  obtain ⟨bn, bo, m, cb, b, f⟩ := y
  unfold NumR.v
  simp only at hx hy hN hC ⊢
  go_enter Tryz.func42, Tryz.ntmps42
  go_wp2_with fail
  refine (dvalids_any _ _ _ _ _ (hN _ (h4_3 _ _ _ _ _) (bel_a4 _ _ _ _ _))).mono ?_
  rw [hA]
  rintro r w1 ⟨rfl, hb1⟩
  have hbw := bel_trans (bel_a4 w _ _ _ _) hb1
  have g0 := (hb1.block w.heap.size (by rw [size4]; omega)).trans (h4_0 _ _ _ _ _)
  have g1 := (hb1.block (w.heap.size + 1) (by rw [size4]; omega)).trans (h4_1 _ _ _ _ _)
  have g2 := (hb1.block (w.heap.size + 2) (by rw [size4]; omega)).trans (h4_2 _ _ _ _ _)
  have hs4 : w.heap.size + 4 ≤ w1.heap.size := by have := hb1.size; rw [size4] at this; exact this
  go_wp2_with fail
  refine (told_any (V := V) (hE _) (fun W hW => hC W (bel_trans hbw hW) ((hW.block _ (by omega)).trans g0) ((hW.block _ (by omega)).trans g1))).mono ?_
  rintro r w2 ⟨v, er, rfl, hF⟩
  obtain ⟨ng', so, sn, sc, e', rfl⟩ := hF.shape
  have q0 := (hF.1.block (w.heap.size + 2) (by omega)).trans g2
  have x0 := blkC q0 0 rfl
  have x1 := blkC q0 1 rfl
  have x2 := blkC q0 2 rfl
  have z0 := blkF q0 0
  have z1 := blkF q0 1
  have z2 := blkF q0 2
  go_wp2
  refine bodyPost_ret (v := .tuple #[.agg #[.bool ng', .slice so sn sc, .int .i64 e'], .int .i64 er]) (by simp [results, Tryz.results42, go_sem, x0, x1, x2]) rfl ⟨_, _, rfl, ?_⟩
  exact dfit_res (g := w.heap.size + 2) hF hbw (by omega) (by omega) _ _ _
end Go.Proofs.YtcpjdgfnblkfpaaGreatDoor
