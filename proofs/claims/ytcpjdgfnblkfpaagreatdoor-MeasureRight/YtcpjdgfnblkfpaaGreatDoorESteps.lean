/-
  Package eft: the steps on floats, by their contracts: what they tell is told by patterns.
-/
import Derived.Test.YtcpjdgfnblkfpaaGreatDoorEPat2
namespace Go.Proofs.YtcpjdgfnblkfpaaGreatDoor
open Go Go.RowKit Go.Proofs.YtcpjdgfnblkfpaaGreatDoor.M Ieee
set_option linter.unusedSimpArgs false
set_option linter.unusedVariables false

/-- The patterns of TwoSum's, FastTwoSum's, Split's, TwoProd's second answers. -/
def sV (p q : Int) : Int := fsum (fsum p q) (neg p)
def sL (p q : Int) : Int := fsum (fsum p (neg (fsum (fsum p q) (neg (sV p q))))) (fsum q (neg (sV p q)))
def fL (p q : Int) : Int := fsum q (neg (fsum (fsum p q) (neg p)))
def cC (p : Int) : Int := fprod 4728779608772575232 p
def spH (p : Int) : Int := fsum (cC p) (neg (fsum (cC p) (neg p)))
def spL (p : Int) : Int := fsum p (neg (spH p))
def pT1 (a b : Int) : Int := fsum (fprod a b) (neg (fprod (spH a) (spH b)))
def pT2 (a b : Int) : Int := fsum (pT1 a b) (neg (fprod (spL a) (spH b)))
def pT3 (a b : Int) : Int := fsum (pT2 a b) (neg (fprod (spH a) (spL b)))
def prL (a b : Int) : Int := fsum (fprod (spL a) (spL b)) (neg (pT3 a b))
theorem stay_b {w w' : World} (h : w' = w ∨ w' = w.drew) : Below w.heap.size w w' := by
  rcases h with rfl | rfl
  · exact bel_refl _
  · exact (bel_refl _).drew
theorem cv64 (x : Nat) (w : World) : (convert 42 42 (.float .f64 x)).run Tryz.prog w = .ok (.float .f64 x) w := run_convert_float_float w _ _ _ _ _ _ (by rw [Tryz.underlying42]; rfl) Tryz.underlying42 rfl
set_option maxRecDepth 100000 in
set_option maxHeartbeats 1000000 in
theorem esum_any {p q : Int} {x y : Nat} (hx : FW p x) (hy : FW q y) (w : World) :
    Calls Tryz.prog 132 #[.float .f64 x, .float .f64 y] w fun e w' => ∃ z u, e = .returned (.tuple #[.float .f64 z, .float .f64 u]) ∧ FW (fsum p q) z ∧ FW (sL p q) u ∧ Below w.heap.size w w' := by
  obtain ⟨z1, w1, e1, f1, d1⟩ := run_fsum (P := Tryz.prog) 42 hx hy w
  obtain ⟨z2, w2, e2, f2, d2⟩ := run_fdiff (P := Tryz.prog) 42 f1 hx w1
  obtain ⟨z3, w3, e3, f3, d3⟩ := run_fdiff (P := Tryz.prog) 42 f1 f2 w2
  obtain ⟨z4, w4, e4, f4, d4⟩ := run_fdiff (P := Tryz.prog) 42 hx f3 w3
  obtain ⟨z5, w5, e5, f5, d5⟩ := run_fdiff (P := Tryz.prog) 42 hy f2 w4
  obtain ⟨z6, w6, e6, f6, d6⟩ := run_fsum (P := Tryz.prog) 42 f4 f5 w5
  have hb : Hid (Below w.heap.size w w6) := bel_trans (bel_trans (bel_trans (bel_trans (bel_trans (stay_b d1) (stay_b d2)) (stay_b d3)) (stay_b d4)) (stay_b d5)) (stay_b d6)
  have H1 : Hid (FW (fsum p q) z1) := f1
  have H6 : Hid (FW (sL p q) z6) := f6
  clear d1 d2 d3 d4 d5 d6 f1 f2 f3 f4 f5 f6 hx hy
  go_enter Tryz.func132, Tryz.ntmps132
  go_wp2
  refine bodyPost_ret (v := .tuple #[.float .f64 z1, .float .f64 z6]) (by simp [results, Tryz.results132, go_sem]) rfl ⟨z1, z6, rfl, H1.out, H6.out, hb.out⟩
set_option maxRecDepth 100000 in
set_option maxHeartbeats 1000000 in
theorem efast_any {p q : Int} {x y : Nat} (hx : FW p x) (hy : FW q y) (w : World) :
    Calls Tryz.prog 140 #[.float .f64 x, .float .f64 y] w fun e w' => ∃ z u, e = .returned (.tuple #[.float .f64 z, .float .f64 u]) ∧ FW (fsum p q) z ∧ FW (fL p q) u ∧ Below w.heap.size w w' := by
  obtain ⟨z1, w1, e1, f1, d1⟩ := run_fsum (P := Tryz.prog) 42 hx hy w
  obtain ⟨z2, w2, e2, f2, d2⟩ := run_fdiff (P := Tryz.prog) 42 f1 hx w1
  obtain ⟨z3, w3, e3, f3, d3⟩ := run_fdiff (P := Tryz.prog) 42 hy f2 w2
  have hb : Hid (Below w.heap.size w w3) := bel_trans (bel_trans (stay_b d1) (stay_b d2)) (stay_b d3)
  have H1 : Hid (FW (fsum p q) z1) := f1
  have H6 : Hid (FW (fL p q) z3) := f3
  clear d1 d2 d3 f1 f2 f3 hx hy
  go_enter Tryz.func140, Tryz.ntmps140
  go_wp2
  refine bodyPost_ret (v := .tuple #[.float .f64 z1, .float .f64 z3]) (by simp [results, Tryz.results140, go_sem]) rfl ⟨z1, z3, rfl, H1.out, H6.out, hb.out⟩
theorem spl_rng : rng 4728779608772575232 := by unfold rng; decide
theorem fw_split : FW 4728779608772575232 4728779608772575232 := .inl ⟨by decide, spl_rng, by decide⟩
set_option maxRecDepth 100000 in
set_option maxHeartbeats 1000000 in
theorem esplit_any {p : Int} {x : Nat} (hx : FW p x) (w : World) :
    Calls Tryz.prog 146 #[.float .f64 x] w fun e w' => ∃ z u, e = .returned (.tuple #[.float .f64 z, .float .f64 u]) ∧ FW (spH p) z ∧ FW (spL p) u ∧ Below w.heap.size w w' := by
  obtain ⟨z1, w1, e1, f1, d1⟩ := run_fprod (P := Tryz.prog) 42 fw_split hx w
  obtain ⟨z2, w2, e2, f2, d2⟩ := run_fdiff (P := Tryz.prog) 42 f1 hx w1
  obtain ⟨z3, w3, e3, f3, d3⟩ := run_fdiff (P := Tryz.prog) 42 f1 f2 w2
  obtain ⟨z4, w4, e4, f4, d4⟩ := run_fdiff (P := Tryz.prog) 42 hx f3 w3
  have hcv := cv64
  have hb : Hid (Below w.heap.size w w4) := bel_trans (bel_trans (bel_trans (stay_b d1) (stay_b d2)) (stay_b d3)) (stay_b d4)
  have H1 : Hid (FW (spH p) z3) := f3
  have H6 : Hid (FW (spL p) z4) := f4
  clear d1 d2 d3 d4 f1 f2 f3 f4 hx
  go_enter Tryz.func146, Tryz.ntmps146
  go_wp2
  refine bodyPost_ret (v := .tuple #[.float .f64 z3, .float .f64 z4]) (by simp [results, Tryz.results146, go_sem]) rfl ⟨z3, z4, rfl, H1.out, H6.out, hb.out⟩
set_option maxRecDepth 100000 in
set_option maxHeartbeats 2000000 in
theorem eprod_any {p q : Int} {x y : Nat} (hx : FW p x) (hy : FW q y) (w : World) :
    Calls Tryz.prog 138 #[.float .f64 x, .float .f64 y] w fun e w' => ∃ z u, e = .returned (.tuple #[.float .f64 z, .float .f64 u]) ∧ FW (fprod p q) z ∧ FW (prL p q) u ∧ Below w.heap.size w w' := by
  obtain ⟨z1, w1, e1, f1, d1⟩ := run_fprod (P := Tryz.prog) 42 hx hy w
  have hcv := cv64
  have Hx : Hid (FW p x) := hx
  have Hy : Hid (FW q y) := hy
  have F1 : Hid (FW (fprod p q) z1) := f1
  have B1 : Hid (Below w.heap.size w w1) := stay_b d1
  clear hx hy f1 d1
  go_enter Tryz.func138, Tryz.ntmps138
  go_wp2_with fail
  refine (esplit_any Hx.out _).mono ?_
  rintro _ w2 ⟨P, Q, rfl, gP, gQ, b2⟩
  have GP : Hid (FW (spH p) P) := gP
  have GQ : Hid (FW (spL p) Q) := gQ
  have B2 : Hid (Below w.heap.size w w2) := bel_trans B1.out b2
  clear gP gQ b2 B1 e1
  go_wp2_with fail
  refine (esplit_any Hy.out _).mono ?_
  rintro _ w3 ⟨R, S, rfl, gR, gS, b3⟩
  have hb3 := bel_trans B2.out b3
  obtain ⟨z2, w4, e2, f2, d2⟩ := run_fprod (P := Tryz.prog) 42 GQ.out gS w3
  obtain ⟨z3, w5, e3, f3, d3⟩ := run_fprod (P := Tryz.prog) 42 GP.out gR w4
  obtain ⟨z4, w6, e4, f4, d4⟩ := run_fdiff (P := Tryz.prog) 42 F1.out f3 w5
  obtain ⟨z5, w7, e5, f5, d5⟩ := run_fprod (P := Tryz.prog) 42 GQ.out gR w6
  obtain ⟨z6, w8, e6, f6, d6⟩ := run_fdiff (P := Tryz.prog) 42 f4 f5 w7
  obtain ⟨z7, w9, e7, f7, d7⟩ := run_fprod (P := Tryz.prog) 42 GP.out gS w8
  obtain ⟨z8, wa, e8, f8, d8⟩ := run_fdiff (P := Tryz.prog) 42 f6 f7 w9
  obtain ⟨z9, wb, e9, f9, d9⟩ := run_fdiff (P := Tryz.prog) 42 f2 f8 wa
  have hb : Hid (Below w.heap.size w wb) := bel_trans (bel_trans (bel_trans (bel_trans (bel_trans (bel_trans (bel_trans (bel_trans hb3 (stay_b d2)) (stay_b d3)) (stay_b d4)) (stay_b d5)) (stay_b d6)) (stay_b d7)) (stay_b d8)) (stay_b d9)
  have H9 : Hid (FW (prL p q) z9) := f9
  clear d2 d3 d4 d5 d6 d7 d8 d9 f2 f3 f4 f5 f6 f7 f8 f9 gR gS b3 hb3 B2 Hx Hy GP GQ
  go_wp2
  refine bodyPost_ret (v := .tuple #[.float .f64 z1, .float .f64 z9]) (by simp [results, Tryz.results138, go_sem]) rfl ⟨z1, z9, rfl, F1.out, H9.out, hb.out⟩
end Go.Proofs.YtcpjdgfnblkfpaaGreatDoor
