/-
  Package sites, by contracts: Points; the law's own test that something is there at all.
-/
import Derived.Test.YtejbjaddfjelaaaDoorTDrop
namespace Go.Proofs.YtejbjaddfjelaaaDoor
open Go Go.RowKit Go.Proofs.YtejbjaddfjelaaaDoor.M
set_option linter.unusedSimpArgs false
set_option linter.unusedVariables false

/-- A slice of points that is read. -/
structure PtS (w : World) (ao : Option Addr) (n cap : Nat) (px py : Nat → Int) : Prop where
  le : n ≤ cap
  max : cap ≤ 9223372036854775807
  spot : 0 < n → ∃ b off, ao = some ⟨b, off, none⟩ ∧ b < w.heap.size ∧ ∀ i, i < n → w.cell? ⟨b, off + i * 2, none⟩ = some (.int .i64 (px i)) ∧ w.cell? ⟨b, off + i * 2 + 1, none⟩ = some (.int .i64 (py i))
theorem PtS.stays {w w' : World} {ao : Option Addr} {n cap B : Nat} {px py : Nat → Int} (h : PtS w ao n cap px py) (hB : w.heap.size ≤ B) (hb : Below B w w') : PtS w' ao n cap px py :=
  ⟨h.le, h.max, fun hn => by
    obtain ⟨b, off, rfl, hlt, hc⟩ := h.spot hn
    exact ⟨b, off, rfl, Nat.lt_of_lt_of_le hlt hb.size, fun i hi => ⟨(hb.cell (p := ⟨b, off + i * 2, none⟩) (Nat.lt_of_lt_of_le hlt hB)).trans (hc i hi).1, (hb.cell (p := ⟨b, off + i * 2 + 1, none⟩) (Nat.lt_of_lt_of_le hlt hB)).trans (hc i hi).2⟩⟩⟩
theorem t_infoP : (Tryd.prog.info? 31).map (fun i => (i.zero, i.size, i.bytes)) = some (some (.agg #[.int .i64 0, .int .i64 0]), 2, 16) := by kernel_rfl
theorem make_pts (n : Nat) (hn : n ≤ 100000) (w : World) :
    (Instr.makeSlice 22 (.int .i64 (n : Int)) (.int .i64 (n : Int))).run Tryd.prog w = .ok (.slice (some ⟨w.heap.size, 0, none⟩) n n) (w.alloc (.cells (madeCells #[.int .i64 0, .int .i64 0] (n * 2)) 31)) := by
  obtain ⟨i, hi, hz, hs, hb⟩ := info_parts t_infoP
  have := run_make (P := Tryd.prog) w 22 31 i _ Tryd.underlying22 hi hz .i64 .i64 n n (by omega) (Int.le_refl _) (by rw [hb]; omega) (by omega)
  simp only [Int.toNat_natCast, hs] at this
  exact this
/-- A block of n points, of which the first j are laid. -/
def BlP (w : World) (b n j : Nat) (px py : Nat → Int) : Prop := ∃ cur, w.heap[b]? = some (.cells cur 31 (0, 0)) ∧ cur.size = n * 2 ∧ ∀ i, i < j → cur[i * 2]? = some (.int .i64 (px i)) ∧ cur[i * 2 + 1]? = some (.int .i64 (py i))
theorem BlP.step {w : World} {b n j : Nat} {px py : Nat → Int} (h : BlP w b n j px py) (hj : j < n) : BlP ((w.setCell ⟨b, j * 2, none⟩ (.int .i64 (px j))).setCell ⟨b, j * 2 + 1, none⟩ (.int .i64 (py j))) b n (j + 1) px py := by
  obtain ⟨cur, h1, h2, h3⟩ := h
  refine ⟨_, q_heap_set (q_heap_set h1 _ _) _ _, by simpa using h2, fun i hi => ?_⟩
  by_cases e : i = j
  · subst e
    constructor
    · rw [Array.getElem?_setIfInBounds_ne (by omega), Array.getElem?_setIfInBounds_self_of_lt (by omega)]
    · rw [Array.getElem?_setIfInBounds_self_of_lt (by simp; omega)]
  · rw [Array.getElem?_setIfInBounds_ne (by omega), Array.getElem?_setIfInBounds_ne (by omega), Array.getElem?_setIfInBounds_ne (by omega), Array.getElem?_setIfInBounds_ne (by omega)]
    exact h3 i (by omega)
theorem BlP.cell {w : World} {b n j : Nat} {px py : Nat → Int} (h : BlP w b n j px py) {i : Nat} (hi : i < n) : (∃ v, w.cell? ⟨b, i * 2, none⟩ = some v) ∧ (∃ v, w.cell? ⟨b, i * 2 + 1, none⟩ = some v) ∧ w.frozen? ⟨b, i * 2, none⟩ = false ∧ w.frozen? ⟨b, i * 2 + 1, none⟩ = false := by
  obtain ⟨cur, h1, h2, h3⟩ := h
  refine ⟨⟨cur[i * 2]'(by omega), ?_⟩, ⟨cur[i * 2 + 1]'(by omega), ?_⟩, frozen_of_row w b _ _ _ h1, frozen_of_row w b _ _ _ h1⟩
  · rw [cell_of_row w b _ _ _ _ h1, Array.getElem?_eq_getElem]
  · rw [cell_of_row w b _ _ _ _ h1, Array.getElem?_eq_getElem]
theorem BlP.pts {w : World} {b n : Nat} {px py : Nat → Int} (h : BlP w b n n px py) (hn : n ≤ 100000) : PtS w (some ⟨b, 0, none⟩) n n px py := by
  obtain ⟨cur, h1, h2, h3⟩ := h
  refine ⟨Nat.le_refl _, by omega, fun _ => ⟨b, 0, rfl, (Array.getElem?_eq_some_iff.1 h1).1, fun i hi => ?_⟩⟩
  rw [Nat.zero_add, cell_of_row w b _ _ _ _ h1, cell_of_row w b _ _ _ _ h1]
  exact h3 i hi
set_option maxRecDepth 100000 in
set_option maxHeartbeats 2000000 in
theorem tPoints {B : Nat} {w : World} {g n s : Nat} {px py : Nat → Int} {al : Nat → Bool} {f : Int → Int → Option Int} (h : SetR B w g n s px py al f) :
    Calls Tryd.prog 12 #[.pointer (some ⟨g, 0, none⟩)] w fun r w' => ∃ b, r = .returned (.slice (some ⟨b, 0, none⟩) n n) ∧ PtS w' (some ⟨b, 0, none⟩) n n px py ∧ Below w.heap.size w w' := by
  have hmost := h.most
  have CG : Hid (Calls Tryd.prog 11 #[.pointer (some ⟨g, 0, none⟩)] w fun r w' => r = .returned (.int .i64 n) ∧ Below w.heap.size w w') := tGiven h
  have hmake := make_pts n (by omega)
  have HS : Hid (∀ W, Below w.heap.size w W → SetR B W g n s px py al f) := fun W hb => h.keeps hb
  clear h
  go_enter Tryd.func12, Tryd.ntmps12
  go_wp2_with fail
  refine CG.out.mono ?_
  rintro _ y1 ⟨rfl, hw1⟩
  go_wp2_with fail
  have hb2 := bel_trans hw1 (bel_alloc y1 (.cells (madeCells #[.int .i64 0, .int .i64 0] (n * 2)) 31))
  have HB : Hid (BlP (y1.alloc (.cells (madeCells #[.int .i64 0, .int .i64 0] (n * 2)) 31)) y1.heap.size n 0 px py) := ⟨_, t_new _ _, by rw [size_madeCells], fun i hi => by omega⟩
  clear hmake CG
  have hy1 := hw1.size
  generalize y1.heap.size = b at *
  generalize y1.alloc (.cells (madeCells #[.int .i64 0, .int .i64 0] (n * 2)) 31) = x2 at *
  go_loopw [10] (fun iv wr => ∃ k : Nat, k ≤ n ∧ iv = .int .i64 k ∧ Hid (BlP wr b n k px py) ∧ Below w.heap.size w wr) (fun iv _ => n - (intOf iv).toNat)
  case atStart => exact ⟨0, Nat.zero_le _, (by first | rfl | simp), HB, hb2⟩
  case round =>
    obtain ⟨k, hk, rfl, HK, hbw⟩ := hrel
    by_cases hlt : k < n
    · have i0 : (0 : Int) ≤ (k : Int) := by omega
      have i1 : (k : Int) < (n : Int) := by omega
      obtain ⟨gv, mv, h1, hg, h3, h4, h5, h6⟩ := HS.out _ hbw
      obtain ⟨xo, xc, rfl, hle, hmx, hxo⟩ := h3.shape
      obtain ⟨r, rfl⟩ := hxo (by omega)
      obtain ⟨c0, c1, _, _⟩ := t_blkC h1
      obtain ⟨d0, d1, d2, _⟩ := h3.cell hlt
      obtain ⟨⟨v0, p0⟩, ⟨v1, p1⟩, z0, z1⟩ := HK.out.cell hlt
      clear h1 h3 h4 h6 hxo
      go_wp2
      go_roundw
      case rel => exact ⟨k + 1, by omega, by go_num, HK.out.step hlt, (hbw.setCell hy1 _).setCell hy1 _⟩
      case measure => simp [intOf]; omega
    · obtain rfl : k = n := by omega
      have i1 : ¬ (k : Int) < (k : Int) := by omega
      go_wp2
      go_ret
      exact ⟨_, rfl, HK.out.pts (by omega), hbw⟩
end Go.Proofs.YtejbjaddfjelaaaDoor
