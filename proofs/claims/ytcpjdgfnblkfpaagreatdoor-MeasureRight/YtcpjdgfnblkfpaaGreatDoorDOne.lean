/-
  Package dyadic: Neg, Abs, Sign, Scale, by contracts.
-/
import Derived.Test.YtcpjdgfnblkfpaaGreatDoorDFace
import Derived.Test.YtcpjdgfnblkfpaaGreatDoorNPow2
import Derived.Deep.RegionHeld3
namespace Go.Proofs.YtcpjdgfnblkfpaaGreatDoor
open Go Go.RowKit Go.Proofs.YtcpjdgfnblkfpaaGreatDoor.M
set_option linter.unusedSimpArgs false
set_option linter.unusedVariables false

set_option maxRecDepth 100000 in
set_option maxHeartbeats 1000000 in
theorem dsignF_any (x : NumR) (w : World) (hx : Row w x.ao x.n x.cap x.d) :
    Calls Tryz.prog 76 #[x.v] w fun r w' => r = .returned (.tuple #[.int .i64 (if okR x then sgn x.ng x.n else 0), .int .i64 (if okR x then 0 else 11)]) ∧ Below w.heap.size w w' := by
  have hV := fun W hb => dvalid_any x.ng x.ao x.n x.cap x.d x.e W (hx.keeps hb)
  have hS := fun W => dsign_any x.ng x.ao x.n x.cap x.e W (by have := hx.le; have := hx.max; omega)
  have hk : okN x.ng x.d x.n x.e = okR x := rfl
  rw [hk] at hV
  unfold NumR.v
  generalize okR x = ok at *
  obtain ⟨an, ao, n, ca, a, e⟩ := x
  simp only at *
  cases ok
  · go_enter Tryz.func76, Tryz.ntmps76
    go_wp2_with fail
    refine (hV _ (bel_alloc _ _)).mono ?_
    rintro r w1 ⟨rfl, hb1⟩
    go_wp2
    go_ret2
    exact ⟨rfl, bel_trans (bel_alloc _ _) hb1⟩
  · go_enter Tryz.func76, Tryz.ntmps76
    go_wp2_with fail
    refine (hV _ (bel_alloc _ _)).mono ?_
    rintro r w1 ⟨rfl, hb1⟩
    have g0 := (hb1.block w.heap.size (by rw [size1]; omega)).trans (heap_a1 _ _)
    have k0 := blkC g0 0 rfl
    have k1 := blkC g0 1 rfl
    have k2 := blkC g0 2 rfl
    go_wp2_with fail
    refine (hS _).mono ?_
    rintro r w2 ⟨rfl, hb2⟩
    go_wp2
    go_ret2
    exact ⟨rfl, bel_trans (bel_trans (bel_alloc _ _) hb1) hb2⟩
theorem neg_dy {x : NumR} (h : okR x = true) : Dy (-x.V) (!x.ng && decide (0 < x.n)) (val x.d x.n) x.e := by
  have hd := (okR_dy h).1
  by_cases h0 : 0 < x.n
  · have hv := val_pos (okR_sane h).1 h0
    have := hd.neg hv
    simpa [h0] using this
  · rcases of_decide_eq_true h with ⟨h1, h2, h3⟩ | ⟨h1, _⟩
    · have hv : val x.d x.n = 0 := by rw [h1]; rfl
      have := hd.eq_zero.2 hv
      rw [this, hv, h3]
      simpa [h0] using Dy.zero
    · omega
theorem abs_dy {x : NumR} (h : okR x = true) : Dy (x.V.natAbs : Int) (false && decide (0 < x.n)) (val x.d x.n) x.e := by
  have hd := (okR_dy h).1.abs
  simpa using hd
end Go.Proofs.YtcpjdgfnblkfpaaGreatDoor
