/-
  Package nat: simulate (Euclid's steps on the heads), by its contract.
-/
import Derived.Test.YtmbajngbiefilaaNG1
import Derived.Test.YtmbajngbiefilaaNDivM
import Derived.Deep.Cut
namespace Go.Proofs.Ytmbajngbiefilaa
open Go Go.RowKit Go.Proofs.Ytmbajngbiefilaa.M
set_option linter.unusedSimpArgs false
set_option linter.unusedVariables false

/-- The sign of the steps put together. -/
def sgn (odd : Bool) : Int := if odd then -1 else 1
theorem sgn_not (odd : Bool) : sgn (!odd) = - sgn odd := by cases odd <;> rfl
/-- Steps that are surely those of the whole numbers. -/
def Sure (x0 y0 x y fA fB nA nB : Int) (odd : Bool) : Prop :=
  M.Steps x0 y0 x y fA fB nA nB (sgn odd) ∧ nA ≤ nB ∧ fA ≤ fB ∧ fB ≤ nB ∧ 1 ≤ fB ∧ 1 ≤ nA ∧ nB ≤ y ∧ nB + fB ≤ x - y
/-- None as yet, or sure ones. -/
def Sim (x0 y0 x y fA fB nA nB : Int) (odd : Bool) : Prop :=
  (fA = 1 ∧ fB = 0 ∧ nA = 0 ∧ nB = 1 ∧ odd = false ∧ x = x0 ∧ y = y0) ∨ Sure x0 y0 x y fA fB nA nB odd
theorem Sim.steps {x0 y0 x y fA fB nA nB : Int} {odd : Bool} (h : Sim x0 y0 x y fA fB nA nB odd) : M.Steps x0 y0 x y fA fB nA nB (sgn odd) := by
  rcases h with ⟨rfl, rfl, rfl, rfl, rfl, rfl, rfl⟩ | h
  · exact M.Steps.start _ _
  · exact h.1
theorem Sim.bounds {x0 y0 x y fA fB nA nB : Int} {odd : Bool} (h : Sim x0 y0 x y fA fB nA nB odd) (hy : 0 < y) (hxy : y ≤ x) (hx0 : x0 < 1152921504606846976) (hy0 : y0 ≤ x0) :
    1 ≤ x / y ∧ 0 ≤ x / y * nA ∧ x / y * nA ≤ 1152921504606846976 ∧ 0 ≤ x / y * nB ∧ x / y * nB ≤ 1152921504606846976 ∧ 0 ≤ fA ∧ fA ≤ 1152921504606846976 ∧ 0 ≤ fB ∧ fB ≤ 1152921504606846976 ∧ 0 ≤ nA ∧ 1 ≤ nB ∧ nA ≤ 1152921504606846976 ∧ nB ≤ 1152921504606846976 := by
  have s := h.steps
  have q1 : 1 ≤ x / y := (Int.le_ediv_iff_mul_le hy).2 (by omega)
  have t := s.step q1
  have bx := t.back_x
  have by_ := t.back_y
  have e : x - x / y * y = x % y := by have := Int.mul_ediv_add_emod x y; rw [Int.mul_comm]; omega
  rw [e] at bx by_ t
  have m0 := Int.emod_nonneg x (show y ≠ 0 by omega)
  have a1 := Int.mul_nonneg (show 0 ≤ x / y by omega) s.nA0
  have a2 := Int.mul_nonneg (show 0 ≤ x / y by omega) (show 0 ≤ nB by have := s.nB1; omega)
  have f0 := s.fA0
  have g0 := s.fB0
  have n0 := s.nA0
  have n1 := s.nB1
  have c1 : (fB + x / y * nB) * 1 ≤ (fB + x / y * nB) * y := mul_le_l (by omega) (by omega)
  have c2 : (fA + x / y * nA) * 1 ≤ (fA + x / y * nA) * y := mul_le_l (by omega) (by omega)
  have c3 : 0 ≤ nB * (x % y) := Int.mul_nonneg (by omega) m0
  have c4 : 0 ≤ nA * (x % y) := Int.mul_nonneg n0 m0
  have d1 : 1 * nB ≤ x / y * nB := mul_le_r q1 (by omega)
  have d2 : 1 * nA ≤ x / y * nA := mul_le_r q1 n0
  refine ⟨q1, a1, ?_, a2, ?_, f0, ?_, g0, ?_, n0, n1, ?_, ?_⟩ <;> omega
theorem Sim.step {x0 y0 x y fA fB nA nB : Int} {odd : Bool} (h : Sim x0 y0 x y fA fB nA nB odd) (hy : 0 < y) (hxy : y ≤ x) (h1 : fB + x / y * nB ≤ x % y) (h2 : fB + x / y * nB + nB ≤ y - x % y) :
    Sim x0 y0 y (x % y) nA nB (fA + x / y * nA) (fB + x / y * nB) (!odd) := by
  have s := h.steps
  have q1 : 1 ≤ x / y := (Int.le_ediv_iff_mul_le hy).2 (by omega)
  have t := s.step q1
  have e : x - x / y * y = x % y := by have := Int.mul_ediv_add_emod x y; rw [Int.mul_comm]; omega
  rw [e, ← sgn_not] at t
  have n1 := s.nB1
  have n0 := s.nA0
  have f0 := s.fA0
  have g0 := s.fB0
  have d1 : 1 * nB ≤ x / y * nB := mul_le_r q1 (by omega)
  have d2 : 1 * nA ≤ x / y * nA := mul_le_r q1 n0
  refine .inr ⟨t, ?_, ?_, by omega, n1, ?_, h1, h2⟩
  · rcases h with ⟨rfl, rfl, rfl, rfl, rfl, rfl, rfl⟩ | ⟨_, c1, c2, _⟩
    · omega
    · have : x / y * nA ≤ x / y * nB := mul_le_l c1 (by omega)
      omega
  · rcases h with ⟨rfl, rfl, rfl, rfl, rfl, rfl, rfl⟩ | ⟨_, c1, _⟩
    · omega
    · exact c1
  · rcases h with ⟨rfl, rfl, rfl, rfl, rfl, rfl, rfl⟩ | ⟨_, _, c2, _, c4, c5, _⟩
    · omega
    · omega
/-- The block of five cells that holds steps. -/
structure StB (w : World) (g : Nat) (fA fB nA nB : Int) (odd : Bool) : Prop where
  blk : w.heap[g]? = some (.cells #[.int .i64 fA, .int .i64 fB, .int .i64 nA, .int .i64 nB, .bool odd] 65 (0, 0))
theorem StB.cells {w : World} {g : Nat} {fA fB nA nB : Int} {odd : Bool} (h : StB w g fA fB nA nB odd) :
    w.cell? ⟨g, 0, none⟩ = some (.int .i64 fA) ∧ w.cell? ⟨g, 1, none⟩ = some (.int .i64 fB) ∧ w.cell? ⟨g, 2, none⟩ = some (.int .i64 nA) ∧ w.cell? ⟨g, 3, none⟩ = some (.int .i64 nB) ∧ w.cell? ⟨g, 4, none⟩ = some (.bool odd) := by
  refine ⟨?_, ?_, ?_, ?_, ?_⟩ <;> (rw [cell_of_row w g _ _ _ _ h.blk]; rfl)
theorem StB.frozen {w : World} {g : Nat} {fA fB nA nB : Int} {odd : Bool} (h : StB w g fA fB nA nB odd) (o : Nat) : w.frozen? ⟨g, o, none⟩ = false := frozen_of_row w g o _ _ h.blk
theorem StB.of {w w' : World} {g : Nat} {fA fB nA nB : Int} {odd : Bool} (h : StB w g fA fB nA nB odd) (e : w'.heap[g]? = w.heap[g]?) : StB w' g fA fB nA nB odd := ⟨e.trans h.blk⟩
theorem StB.new {w : World} {fA fB nA nB : Int} {odd : Bool} : StB (w.alloc (.cells #[.int .i64 fA, .int .i64 fB, .int .i64 nA, .int .i64 nB, .bool odd] 65)) w.heap.size fA fB nA nB odd := ⟨heap_alloc_new w _⟩
theorem StB.lt {w : World} {g : Nat} {fA fB nA nB : Int} {odd : Bool} (h : StB w g fA fB nA nB odd) : g < w.heap.size := (Array.getElem?_eq_some_iff.1 h.blk).1
theorem StB.alloc {w : World} {g : Nat} {fA fB nA nB : Int} {odd : Bool} (h : StB w g fA fB nA nB odd) (o : Obj) : StB (w.alloc o) g fA fB nA nB odd := h.of (Below.heap_alloc w o g h.lt)
/-- The world with five cells of block g written. -/
def put5 (w : World) (g : Nat) (fA fB nA nB : Int) (odd : Bool) : World :=
  ((((w.setCell ⟨g, 0, none⟩ (.int .i64 fA)).setCell ⟨g, 1, none⟩ (.int .i64 fB)).setCell ⟨g, 2, none⟩ (.int .i64 nA)).setCell ⟨g, 3, none⟩ (.int .i64 nB)).setCell ⟨g, 4, none⟩ (.bool odd)
theorem StB.put {w : World} {g : Nat} {a b c d : Int} {e : Bool} (h : StB w g a b c d e) (fA fB nA nB : Int) (odd : Bool) : StB (put5 w g fA fB nA nB odd) g fA fB nA nB odd :=
  ⟨heap_setCell_same _ g 4 _ _ _ (heap_setCell_same _ g 3 _ _ _ (heap_setCell_same _ g 2 _ _ _ (heap_setCell_same _ g 1 _ _ _ (heap_setCell_same _ g 0 _ _ _ h.blk))))⟩
theorem put5_other {w : World} {g k : Nat} (fA fB nA nB : Int) (odd : Bool) (hk : k ≠ g) : (put5 w g fA fB nA nB odd).heap[k]? = w.heap[k]? := by
  unfold put5
  rw [heap_setCell_other _ _ k _ hk, heap_setCell_other _ _ k _ hk, heap_setCell_other _ _ k _ hk, heap_setCell_other _ _ k _ hk, heap_setCell_other _ _ k _ hk]
theorem put5_below {B : Nat} {a w : World} {g : Nat} (fA fB nA nB : Int) (odd : Bool) (h : Below B a w) (hg : B ≤ g) : Below B a (put5 w g fA fB nA nB odd) :=
  ((((h.setCell hg _).setCell hg _).setCell hg _).setCell hg _).setCell hg _
/-- What simulate tells. -/
def SimA (x0 y0 : Int) (v : Value) : Prop := ∃ x y fA fB nA nB odd, v = .agg #[.int .i64 fA, .int .i64 fB, .int .i64 nA, .int .i64 nB, .bool odd] ∧ Sim x0 y0 x y fA fB nA nB odd
set_option maxHeartbeats 2000000 in
theorem simulate_any (x0 y0 : Int) (w : World) (h0 : 0 ≤ y0) (h1 : y0 ≤ x0) (h2 : x0 < 1152921504606846976) :
    Calls Try.prog 65 #[.int .i64 x0, .int .i64 y0] w fun e w' => ∃ v, e = .returned v ∧ SimA x0 y0 v ∧ Below w.heap.size w w' := by
  go_enter Try.func65, Try.ntmps65
  go_wp2
  go_loopw [0, 1] (fun x y wr => ∃ (x' y' fA fB nA nB : Int) (odd : Bool), x = .int .i64 x' ∧ y = .int .i64 y' ∧ 0 ≤ y' ∧ y' ≤ x' ∧ x' ≤ x0 ∧ Hid (Sim x0 y0 x' y' fA fB nA nB odd) ∧ StB wr (w.heap.size + 1) fA fB nA nB odd ∧ StB wr w.heap.size 0 0 0 0 false ∧ Below w.heap.size w wr) (fun _ y _ => (intOf y).toNat)
  case atStart => exact ⟨x0, y0, 1, 0, 0, 1, false, rfl, rfl, h0, h1, Int.le_refl _, .inl ⟨rfl, rfl, rfl, rfl, rfl, rfl, rfl⟩, by have := StB.new (w := w.alloc (.cells #[.int .i64 0, .int .i64 0, .int .i64 0, .int .i64 0, .bool false] 65)) (fA := 1) (fB := 0) (nA := 0) (nB := 1) (odd := false); simpa using this, StB.new.alloc _, bel_alloc2 _ _ _⟩
  case round =>
    obtain ⟨x, y, fA, fB, nA, nB, odd, rfl, rfl, hy, hxy, hxx, HS, hB, hB0, hbw⟩ := hrel
    obtain ⟨c0, c1, c2, c3, c4⟩ := hB.cells
    obtain ⟨z0, z1, z2, z3, z4⟩ := hB0.cells
    have fz := hB.frozen
    have fz0 := hB0.frozen
    by_cases hz : y = 0
    · subst hz
      go_wp2
      refine bodyPost_ret (v := .agg #[.int .i64 fA, .int .i64 fB, .int .i64 nA, .int .i64 nB, .bool odd]) ?_ rfl ⟨_, rfl, ⟨x, 0, fA, fB, nA, nB, odd, rfl, HS.out⟩, put5_below fA fB nA nB odd hbw (Nat.le_refl _)⟩
      have hc := (hB0.put fA fB nA nB odd).cells
      unfold put5 at hc
      obtain ⟨d0, d1, d2, d3, d4⟩ := hc
      simp [results, Try.results65, go_sem, d0, d1, d2, d3, d4]
    · have hyp : 0 < y := by omega
      obtain ⟨q1, m1, m2, m3, m4, f0, f1, g0, g1, n0, n1, n2, n3⟩ := HS.out.bounds hyp hxy h2 h1
      have r0 := Int.emod_nonneg x (show y ≠ 0 by omega)
      have r1 := Int.emod_lt_of_pos x hyp
      have hzz : (y == 0) = false := by simp; omega
      go_wp2
      go_quiet (fail)
      have hB1 : StB (wr.drewN nq) (w.heap.size + 1) fA fB nA nB odd := hB.of rfl
      have hB01 : StB (wr.drewN nq) w.heap.size 0 0 0 0 false := hB0.of rfl
      have hbw1 := bDrewN hbw nq
      generalize wr.drewN nq = w1 at hB1 hB01 hbw1 ⊢
      clear c0 c1 c2 c3 c4 z0 z1 z2 z3 z4 fz fz0 hB hB0 hbw
      obtain ⟨c0, c1, c2, c3, c4⟩ := hB1.cells
      obtain ⟨z0, z1, z2, z3, z4⟩ := hB01.cells
      have fz := hB1.frozen
      have fz0 := hB01.frozen
      have hl1 := hB1.lt
      have hsz := hB1.lt
      go_upto_region 6 with (fail)
      have hM : StB (w1.alloc (.cells #[.int .i64 nA, .int .i64 nB, .int .i64 (fA + x / y * nA), .int .i64 (fB + x / y * nB), .bool (!odd)] 65)) w1.heap.size nA nB (fA + x / y * nA) (fB + x / y * nB) (!odd) := StB.new
      have hB2 := hB1.alloc (.cells #[.int .i64 nA, .int .i64 nB, .int .i64 (fA + x / y * nA), .int .i64 (fB + x / y * nB), .bool (!odd)] 65)
      have hB02 := hB01.alloc (.cells #[.int .i64 nA, .int .i64 nB, .int .i64 (fA + x / y * nA), .int .i64 (fB + x / y * nB), .bool (!odd)] 65)
      have hbw2 := hbw1.alloc hbw1.size (.cells #[.int .i64 nA, .int .i64 nB, .int .i64 (fA + x / y * nA), .int .i64 (fB + x / y * nB), .bool (!odd)] 65)
      generalize (w1.alloc (.cells #[.int .i64 nA, .int .i64 nB, .int .i64 (fA + x / y * nA), .int .i64 (fB + x / y * nB), .bool (!odd)] 65)) = w2 at hM hB2 hB02 hbw2 ⊢
      clear c0 c1 c2 c3 c4 z0 z1 z2 z3 z4 fz fz0 hB1 hB01 hbw1
      obtain ⟨c0, c1, c2, c3, c4⟩ := hB2.cells
      obtain ⟨z0, z1, z2, z3, z4⟩ := hB02.cells
      obtain ⟨k0, k1, k2, k3, k4⟩ := hM.cells
      have fz := hB2.frozen
      have fz0 := hB02.frozen
      by_cases b1 : x % y < fB + x / y * nB
      · go_wp2
        refine bodyPost_ret (v := .agg #[.int .i64 fA, .int .i64 fB, .int .i64 nA, .int .i64 nB, .bool odd]) ?_ rfl ⟨_, rfl, ⟨x, y, fA, fB, nA, nB, odd, rfl, HS.out⟩, put5_below fA fB nA nB odd hbw2 (Nat.le_refl _)⟩
        have hc := (hB02.put fA fB nA nB odd).cells
        unfold put5 at hc
        obtain ⟨d0, d1, d2, d3, d4⟩ := hc
        simp [results, Try.results65, go_sem, d0, d1, d2, d3, d4]
      · by_cases b2 : y - x % y < fB + x / y * nB + nB
        · go_wp2
          refine bodyPost_ret (v := .agg #[.int .i64 fA, .int .i64 fB, .int .i64 nA, .int .i64 nB, .bool odd]) ?_ rfl ⟨_, rfl, ⟨x, y, fA, fB, nA, nB, odd, rfl, HS.out⟩, put5_below fA fB nA nB odd hbw2 (Nat.le_refl _)⟩
          have hc := (hB02.put fA fB nA nB odd).cells
          unfold put5 at hc
          obtain ⟨d0, d1, d2, d3, d4⟩ := hc
          simp [results, Try.results65, go_sem, d0, d1, d2, d3, d4]
        · have HN := HS.out.step hyp hxy (by omega) (by omega)
          have H2 := hB2.put nA nB (fA + x / y * nA) (fB + x / y * nB) (!odd)
          have H3 := hB02.of (put5_other (w := w2) (g := w.heap.size + 1) nA nB (fA + x / y * nA) (fB + x / y * nB) (!odd) (by omega))
          have H4 := put5_below nA nB (fA + x / y * nA) (fB + x / y * nB) (!odd) hbw2 (show w.heap.size ≤ w.heap.size + 1 by omega)
          unfold put5 at H2 H3 H4
          have HH : Hid (Sim x0 y0 y (x % y) nA nB (fA + x / y * nA) (fB + x / y * nB) (!odd)) := HN
          clear HN
          go_wp2
          go_roundw
          case rel => exact ⟨y, x % y, nA, nB, fA + x / y * nA, fB + x / y * nB, !odd, rfl, rfl, r0, by omega, by omega, HH, H2, H3, H4⟩
          case measure => simp [intOf]; omega
end Go.Proofs.Ytmbajngbiefilaa
