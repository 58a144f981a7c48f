/-
  Parts of the proof, one behind another.
-/
import Derived.Test.YtnhkagiionkjaaaGreatDoorPart24
import Derived.Test.YtnhkagiionkjaaaGreatDoorPart11
import Derived.Test.YtnhkagiionkjaaaGreatDoorPart13
/-
  plumblaw3.ones at anything, by its contract.
-/
namespace Go.Proofs.YtnhkagiionkjaaaGreatDoor
open Go Go.RowKit Go.Proofs.YtnhkagiionkjaaaGreatDoor.M
set_option linter.unusedSimpArgs false
set_option linter.unusedVariables false

theorem ones_any {w0 : World} (a : NumR) (ra : Row w0 a.ao a.n a.cap a.d) (hn : a.n ≤ 2100) (he : rng a.e) (i : Int) (hi : rng i) (w : World) (hb0 : Below w0.heap.size w0 w) {k : Nat} {S : Nat → Prop} (hk : Kept w0.heap.size w k S) (hT : Tab w0) (L : Lay64 w0) :
    Calls Tryz.prog 7 #[.pointer (some ⟨k, 0, none⟩), a.v, .int .i64 i] w fun e w' => e = .returned (.bool true) ∧ Below w0.heap.size w0 w' ∧ ∃ S', Kept w0.heap.size w' k S' ∧ Fr w w' := by
  cases ok : okR a
  · exact ones_bad a ra hn he i hi w hb0 hk hT L ok
  · exact ones_ok a ra hn he i hi w hb0 hk hT L ok
end Go.Proofs.YtnhkagiionkjaaaGreatDoor

/-
  plumblaw3.twos: the calls with two numbers: it answers true, what it keeps is kept, and it turns nothing that was there ahead of the law.
-/
namespace Go.Proofs.YtnhkagiionkjaaaGreatDoor
open Go Go.RowKit Go.Proofs.YtnhkagiionkjaaaGreatDoor.M
set_option linter.unusedSimpArgs false
set_option linter.unusedVariables false

set_option maxRecDepth 100000 in
set_option maxHeartbeats 8000000 in
theorem twos_bad1 {w0 : World} (a b : NumR) (ra : Row w0 a.ao a.n a.cap a.d) (rb : Row w0 b.ao b.n b.cap b.d) (hn : a.n ≤ 2100) (hm : b.n ≤ 2100) (w : World) (hb0 : Below w0.heap.size w0 w) {k : Nat} {S : Nat → Prop} (hk : Kept w0.heap.size w k S) (hT : Tab w0) (oa : okR a = false) :
    Calls Tryz.prog 8 #[.pointer (some ⟨k, 0, none⟩), a.v, b.v] w fun e w' => e = .returned (.bool true) ∧ Below w0.heap.size w0 w' ∧ ∃ S', Kept w0.heap.size w' k S' ∧ Fr w w' := by
  have HOK : Hid ((okR a && okR b) = false) := by unfold Hid; rw [oa]; rfl
  have HT : Hid (∀ W, Below w0.heap.size w0 W → Tab W) := fun W hb => hT.keeps hb
  clear hT
  have CLA : Hid (∀ W, Below w0.heap.size w0 W → _) := fun W hb => lent3_any a W (ra.keeps hb) (by omega)
  have CLB : Hid (∀ W, Below w0.heap.size w0 W → _) := fun W hb => lent3_any b W (rb.keeps hb) (by omega)
  have CVA : Hid (∀ W, Below w0.heap.size w0 W → _) := fun W hb => rvalid3_any a W (ra.keeps hb)
  have CVB : Hid (∀ W, Below w0.heap.size w0 W → _) := fun W hb => rvalid3_any b W (rb.keeps hb)
  rw [oa] at CVA
  have HA : Hid (Row w0 a.ao a.n a.cap a.d) := ra
  have HRB : Hid (Row w0 b.ao b.n b.cap b.d) := rb
  have hla := ra.le
  have hma := ra.max
  have hlb := rb.le
  have hmb := rb.max
  clear ra rb
  unfold NumR.v at *
  obtain ⟨a_g, a_o, a_n, a_c, a_d, a_e⟩ := a
  obtain ⟨b_g, b_o, b_n, b_c, b_d, b_e⟩ := b
  simp only at hn hm hla hma hlb hmb CLA CLB CVA CVB HA HRB HOK ⊢
  have HS0 : Hid (w0.heap.size ≤ w.heap.size) := hb0.size
  have HB : Hid (Below w0.heap.size w0 w) := hb0
  have HK : Hid (Kept w0.heap.size w k (fun g => g < w.heap.size)) := hk.old
  have FR : Hid (Fr w w) := Fr.of (bel_refl w)
  clear hb0 hk
  go_enter Tryz.func8, Tryz.ntmps8
  have hbx : Below w.heap.size w ((w.alloc (.cells #[.bool a_g, .slice a_o a_n a_c, .int .i64 a_e] 25)).alloc (.cells #[.bool b_g, .slice b_o b_n b_c, .int .i64 b_e] 25)) := bel_alloc2 _ _ _
  have a_k : ((w.alloc (.cells #[.bool a_g, .slice a_o a_n a_c, .int .i64 a_e] 25)).alloc (.cells #[.bool b_g, .slice b_o b_n b_c, .int .i64 b_e] 25)).heap[w.heap.size]? = some (.cells #[.bool a_g, .slice a_o a_n a_c, .int .i64 a_e] 25 (0, 0)) := heap_a2 _ _ _
  have b_k : ((w.alloc (.cells #[.bool a_g, .slice a_o a_n a_c, .int .i64 a_e] 25)).alloc (.cells #[.bool b_g, .slice b_o b_n b_c, .int .i64 b_e] 25)).heap[w.heap.size + 1]? = some (.cells #[.bool b_g, .slice b_o b_n b_c, .int .i64 b_e] 25 (0, 0)) := heap_b2 _ _ _
  go_wp2_with fail
  generalize ((w.alloc (.cells #[.bool a_g, .slice a_o a_n a_c, .int .i64 a_e] 25)).alloc (.cells #[.bool b_g, .slice b_o b_n b_c, .int .i64 b_e] 25)) = x1 at hbx a_k b_k ⊢
  have Z2 : Hid (w.heap.size ≤ x1.heap.size) := hbx.size
  have FR : Hid (Fr w x1) := FR.out.trans (Fr.of hbx)
  have HB : Hid (Below w0.heap.size w0 x1) := HB.out.trans ((hbx).mono HB.out.size)
  have HK : Hid (Kept w0.heap.size x1 k (fun g => g < w.heap.size)) := HK.out.keeps hbx
  clear hbx
  refine (CLA.out _ HB.out).mono ?_
  rintro _ y2 ⟨c_b, c_c, rfl, l_O', hw⟩
  have Z3 : Hid (x1.heap.size ≤ y2.heap.size) := hw.size
  have a_k := (hw.block _ (Array.getElem?_eq_some_iff.1 a_k).1).trans a_k
  have b_k := (hw.block _ (Array.getElem?_eq_some_iff.1 b_k).1).trans b_k
  have FR : Hid (Fr w y2) := FR.out.trans (Fr.of hw)
  have HB : Hid (Below w0.heap.size w0 y2) := HB.out.trans ((hw).mono HB.out.size)
  have HK : Hid (Kept w0.heap.size y2 k (fun g => g < w.heap.size)) := HK.out.keeps hw
  have c_O : Hid (Out x1.heap.size y2 (.slice (some ⟨c_b, 0, none⟩) (a_n + 3) c_c) (a_n + 3) (lentD a_d a_n)) := l_O'
  have c_L : Hid (x1.heap.size ≤ c_b ∧ c_b < y2.heap.size) := c_O.out.ge rfl
  have c_M := lent_cap c_O.out
  clear l_O' hw
  have hbx : Below y2.heap.size y2 (y2.alloc (.cells #[.bool a_g, .slice (some ⟨c_b, 0, none⟩) a_n c_c, .int .i64 a_e] 25)) := bel_alloc _ _
  have x_k : (y2.alloc (.cells #[.bool a_g, .slice (some ⟨c_b, 0, none⟩) a_n c_c, .int .i64 a_e] 25)).heap[y2.heap.size]? = some (.cells #[.bool a_g, .slice (some ⟨c_b, 0, none⟩) a_n c_c, .int .i64 a_e] 25 (0, 0)) := heap_a1 _ _
  have u_k := (hbx.block _ (Array.getElem?_eq_some_iff.1 b_k).1).trans b_k
  have f_b0 := blkC u_k 0 rfl
  have f_b1 := blkC u_k 1 rfl
  have f_b2 := blkC u_k 2 rfl
  clear u_k
  go_wp2_with fail
  clear f_b0 f_b1 f_b2
  generalize (y2.alloc (.cells #[.bool a_g, .slice (some ⟨c_b, 0, none⟩) a_n c_c, .int .i64 a_e] 25)) = x3 at hbx x_k ⊢
  have Z4 : Hid (y2.heap.size ≤ x3.heap.size) := hbx.size
  have a_k := (hbx.block _ (Array.getElem?_eq_some_iff.1 a_k).1).trans a_k
  have b_k := (hbx.block _ (Array.getElem?_eq_some_iff.1 b_k).1).trans b_k
  have c_O : Hid (Out x1.heap.size x3 (.slice (some ⟨c_b, 0, none⟩) (a_n + 3) c_c) (a_n + 3) (lentD a_d a_n)) := c_O.out.stays hbx
  have FR : Hid (Fr w x3) := FR.out.trans (Fr.of hbx)
  have HB : Hid (Below w0.heap.size w0 x3) := HB.out.trans ((hbx).mono HB.out.size)
  have HK : Hid (Kept w0.heap.size x3 k (fun g => g < w.heap.size)) := HK.out.keeps hbx
  clear hbx
  refine (CLB.out _ HB.out).mono ?_
  rintro _ y4 ⟨d_b, d_c, rfl, l_O', hw⟩
  have Z5 : Hid (x3.heap.size ≤ y4.heap.size) := hw.size
  have a_k := (hw.block _ (Array.getElem?_eq_some_iff.1 a_k).1).trans a_k
  have b_k := (hw.block _ (Array.getElem?_eq_some_iff.1 b_k).1).trans b_k
  have x_k := (hw.block _ (Array.getElem?_eq_some_iff.1 x_k).1).trans x_k
  have c_O : Hid (Out x1.heap.size y4 (.slice (some ⟨c_b, 0, none⟩) (a_n + 3) c_c) (a_n + 3) (lentD a_d a_n)) := c_O.out.stays hw
  have FR : Hid (Fr w y4) := FR.out.trans (Fr.of hw)
  have HB : Hid (Below w0.heap.size w0 y4) := HB.out.trans ((hw).mono HB.out.size)
  have HK : Hid (Kept w0.heap.size y4 k (fun g => g < w.heap.size)) := HK.out.keeps hw
  have d_O : Hid (Out x3.heap.size y4 (.slice (some ⟨d_b, 0, none⟩) (b_n + 3) d_c) (b_n + 3) (lentD b_d b_n)) := l_O'
  have d_L : Hid (x3.heap.size ≤ d_b ∧ d_b < y4.heap.size) := d_O.out.ge rfl
  have d_M := lent_cap d_O.out
  clear l_O' hw
  have hbx : Below y4.heap.size y4 (y4.alloc (.cells #[.bool b_g, .slice (some ⟨d_b, 0, none⟩) b_n d_c, .int .i64 b_e] 25)) := bel_alloc _ _
  have y_k : (y4.alloc (.cells #[.bool b_g, .slice (some ⟨d_b, 0, none⟩) b_n d_c, .int .i64 b_e] 25)).heap[y4.heap.size]? = some (.cells #[.bool b_g, .slice (some ⟨d_b, 0, none⟩) b_n d_c, .int .i64 b_e] 25 (0, 0)) := heap_a1 _ _
  have u_k := (hbx.block _ (Array.getElem?_eq_some_iff.1 a_k).1).trans a_k
  have f_a0 := blkC u_k 0 rfl
  have f_a1 := blkC u_k 1 rfl
  have f_a2 := blkC u_k 2 rfl
  clear u_k
  go_wp2_with fail
  clear f_a0 f_a1 f_a2
  generalize (y4.alloc (.cells #[.bool b_g, .slice (some ⟨d_b, 0, none⟩) b_n d_c, .int .i64 b_e] 25)) = x5 at hbx y_k ⊢
  have Z6 : Hid (y4.heap.size ≤ x5.heap.size) := hbx.size
  have a_k := (hbx.block _ (Array.getElem?_eq_some_iff.1 a_k).1).trans a_k
  have b_k := (hbx.block _ (Array.getElem?_eq_some_iff.1 b_k).1).trans b_k
  have x_k := (hbx.block _ (Array.getElem?_eq_some_iff.1 x_k).1).trans x_k
  have c_O : Hid (Out x1.heap.size x5 (.slice (some ⟨c_b, 0, none⟩) (a_n + 3) c_c) (a_n + 3) (lentD a_d a_n)) := c_O.out.stays hbx
  have d_O : Hid (Out x3.heap.size x5 (.slice (some ⟨d_b, 0, none⟩) (b_n + 3) d_c) (b_n + 3) (lentD b_d b_n)) := d_O.out.stays hbx
  have FR : Hid (Fr w x5) := FR.out.trans (Fr.of hbx)
  have HB : Hid (Below w0.heap.size w0 x5) := HB.out.trans ((hbx).mono HB.out.size)
  have HK : Hid (Kept w0.heap.size x5 k (fun g => g < w.heap.size)) := HK.out.keeps hbx
  clear hbx
  refine (CVA.out _ HB.out).mono ?_
  rintro _ y6 ⟨rfl, hw⟩
  have Z7 : Hid (x5.heap.size ≤ y6.heap.size) := hw.size
  have a_k := (hw.block _ (Array.getElem?_eq_some_iff.1 a_k).1).trans a_k
  have b_k := (hw.block _ (Array.getElem?_eq_some_iff.1 b_k).1).trans b_k
  have x_k := (hw.block _ (Array.getElem?_eq_some_iff.1 x_k).1).trans x_k
  have y_k := (hw.block _ (Array.getElem?_eq_some_iff.1 y_k).1).trans y_k
  have c_O : Hid (Out x1.heap.size y6 (.slice (some ⟨c_b, 0, none⟩) (a_n + 3) c_c) (a_n + 3) (lentD a_d a_n)) := c_O.out.stays hw
  have d_O : Hid (Out x3.heap.size y6 (.slice (some ⟨d_b, 0, none⟩) (b_n + 3) d_c) (b_n + 3) (lentD b_d b_n)) := d_O.out.stays hw
  have FR : Hid (Fr w y6) := FR.out.trans (Fr.of hw)
  have HB : Hid (Below w0.heap.size w0 y6) := HB.out.trans ((hw).mono HB.out.size)
  have HK : Hid (Kept w0.heap.size y6 k (fun g => g < w.heap.size)) := HK.out.keeps hw
  clear hw
  have f_x0 := blkC x_k 0 rfl
  have f_x1 := blkC x_k 1 rfl
  have f_x2 := blkC x_k 2 rfl
  have f_y0 := blkC y_k 0 rfl
  have f_y1 := blkC y_k 1 rfl
  have f_y2 := blkC y_k 2 rfl
  go_wp2_with fail
  clear f_x0 f_x1 f_x2 f_y0 f_y1 f_y2
  refine (dadd_bad ⟨a_g, some ⟨c_b, 0, none⟩, a_n, c_c, a_d, a_e⟩ ⟨b_g, some ⟨d_b, 0, none⟩, b_n, d_c, b_d, b_e⟩ _ (lent_row c_O.out) (lent_row d_O.out) HOK.out).mono ?_
  rintro _ y7 ⟨rfl, hw⟩
  have Z8 : Hid (y6.heap.size ≤ y7.heap.size) := hw.size
  have a_k := (hw.block _ (Array.getElem?_eq_some_iff.1 a_k).1).trans a_k
  have b_k := (hw.block _ (Array.getElem?_eq_some_iff.1 b_k).1).trans b_k
  have x_k := (hw.block _ (Array.getElem?_eq_some_iff.1 x_k).1).trans x_k
  have y_k := (hw.block _ (Array.getElem?_eq_some_iff.1 y_k).1).trans y_k
  have c_O : Hid (Out x1.heap.size y7 (.slice (some ⟨c_b, 0, none⟩) (a_n + 3) c_c) (a_n + 3) (lentD a_d a_n)) := c_O.out.stays hw
  have d_O : Hid (Out x3.heap.size y7 (.slice (some ⟨d_b, 0, none⟩) (b_n + 3) d_c) (b_n + 3) (lentD b_d b_n)) := d_O.out.stays hw
  have FR : Hid (Fr w y7) := FR.out.trans (Fr.of hw)
  have HB : Hid (Below w0.heap.size w0 y7) := HB.out.trans ((hw).mono HB.out.size)
  have HK : Hid (Kept w0.heap.size y7 k (fun g => g < w.heap.size)) := HK.out.keeps hw
  clear hw
  unfold zeroV
  have hbx : Below y7.heap.size y7 (y7.alloc (.cells #[.bool false, .slice none 0 0, .int .i64 0] 25)) := bel_alloc _ _
  have p_k : (y7.alloc (.cells #[.bool false, .slice none 0 0, .int .i64 0] 25)).heap[y7.heap.size]? = some (.cells #[.bool false, .slice none 0 0, .int .i64 0] 25 (0, 0)) := heap_a1 _ _
  have u_k := (hbx.block _ (Array.getElem?_eq_some_iff.1 x_k).1).trans x_k
  have f_x0 := blkC u_k 0 rfl
  have f_x1 := blkC u_k 1 rfl
  have f_x2 := blkC u_k 2 rfl
  clear u_k
  have u_k := (hbx.block _ (Array.getElem?_eq_some_iff.1 y_k).1).trans y_k
  have f_y0 := blkC u_k 0 rfl
  have f_y1 := blkC u_k 1 rfl
  have f_y2 := blkC u_k 2 rfl
  clear u_k
  go_wp2_with fail
  clear f_x0 f_x1 f_x2 f_y0 f_y1 f_y2
  generalize (y7.alloc (.cells #[.bool false, .slice none 0 0, .int .i64 0] 25)) = x8 at hbx p_k ⊢
  have Z9 : Hid (y7.heap.size ≤ x8.heap.size) := hbx.size
  have a_k := (hbx.block _ (Array.getElem?_eq_some_iff.1 a_k).1).trans a_k
  have b_k := (hbx.block _ (Array.getElem?_eq_some_iff.1 b_k).1).trans b_k
  have x_k := (hbx.block _ (Array.getElem?_eq_some_iff.1 x_k).1).trans x_k
  have y_k := (hbx.block _ (Array.getElem?_eq_some_iff.1 y_k).1).trans y_k
  have c_O : Hid (Out x1.heap.size x8 (.slice (some ⟨c_b, 0, none⟩) (a_n + 3) c_c) (a_n + 3) (lentD a_d a_n)) := c_O.out.stays hbx
  have d_O : Hid (Out x3.heap.size x8 (.slice (some ⟨d_b, 0, none⟩) (b_n + 3) d_c) (b_n + 3) (lentD b_d b_n)) := d_O.out.stays hbx
  have FR : Hid (Fr w x8) := FR.out.trans (Fr.of hbx)
  have HB : Hid (Below w0.heap.size w0 x8) := HB.out.trans ((hbx).mono HB.out.size)
  have HK : Hid (Kept w0.heap.size x8 k (fun g => g < w.heap.size)) := HK.out.keeps hbx
  clear hbx
  refine (dsub_bad ⟨a_g, some ⟨c_b, 0, none⟩, a_n, c_c, a_d, a_e⟩ ⟨b_g, some ⟨d_b, 0, none⟩, b_n, d_c, b_d, b_e⟩ _ (lent_row c_O.out) (lent_row d_O.out) HOK.out).mono ?_
  rintro _ y9 ⟨rfl, hw⟩
  have Z10 : Hid (x8.heap.size ≤ y9.heap.size) := hw.size
  have a_k := (hw.block _ (Array.getElem?_eq_some_iff.1 a_k).1).trans a_k
  have b_k := (hw.block _ (Array.getElem?_eq_some_iff.1 b_k).1).trans b_k
  have x_k := (hw.block _ (Array.getElem?_eq_some_iff.1 x_k).1).trans x_k
  have y_k := (hw.block _ (Array.getElem?_eq_some_iff.1 y_k).1).trans y_k
  have p_k := (hw.block _ (Array.getElem?_eq_some_iff.1 p_k).1).trans p_k
  have c_O : Hid (Out x1.heap.size y9 (.slice (some ⟨c_b, 0, none⟩) (a_n + 3) c_c) (a_n + 3) (lentD a_d a_n)) := c_O.out.stays hw
  have d_O : Hid (Out x3.heap.size y9 (.slice (some ⟨d_b, 0, none⟩) (b_n + 3) d_c) (b_n + 3) (lentD b_d b_n)) := d_O.out.stays hw
  have FR : Hid (Fr w y9) := FR.out.trans (Fr.of hw)
  have HB : Hid (Below w0.heap.size w0 y9) := HB.out.trans ((hw).mono HB.out.size)
  have HK : Hid (Kept w0.heap.size y9 k (fun g => g < w.heap.size)) := HK.out.keeps hw
  clear hw
  unfold zeroV
  have hbx : Below y9.heap.size y9 (y9.alloc (.cells #[.bool false, .slice none 0 0, .int .i64 0] 25)) := bel_alloc _ _
  have q_k : (y9.alloc (.cells #[.bool false, .slice none 0 0, .int .i64 0] 25)).heap[y9.heap.size]? = some (.cells #[.bool false, .slice none 0 0, .int .i64 0] 25 (0, 0)) := heap_a1 _ _
  have u_k := (hbx.block _ (Array.getElem?_eq_some_iff.1 x_k).1).trans x_k
  have f_x0 := blkC u_k 0 rfl
  have f_x1 := blkC u_k 1 rfl
  have f_x2 := blkC u_k 2 rfl
  clear u_k
  have u_k := (hbx.block _ (Array.getElem?_eq_some_iff.1 y_k).1).trans y_k
  have f_y0 := blkC u_k 0 rfl
  have f_y1 := blkC u_k 1 rfl
  have f_y2 := blkC u_k 2 rfl
  clear u_k
  go_wp2_with fail
  clear f_x0 f_x1 f_x2 f_y0 f_y1 f_y2
  generalize (y9.alloc (.cells #[.bool false, .slice none 0 0, .int .i64 0] 25)) = x10 at hbx q_k ⊢
  have Z11 : Hid (y9.heap.size ≤ x10.heap.size) := hbx.size
  have a_k := (hbx.block _ (Array.getElem?_eq_some_iff.1 a_k).1).trans a_k
  have b_k := (hbx.block _ (Array.getElem?_eq_some_iff.1 b_k).1).trans b_k
  have x_k := (hbx.block _ (Array.getElem?_eq_some_iff.1 x_k).1).trans x_k
  have y_k := (hbx.block _ (Array.getElem?_eq_some_iff.1 y_k).1).trans y_k
  have p_k := (hbx.block _ (Array.getElem?_eq_some_iff.1 p_k).1).trans p_k
  have c_O : Hid (Out x1.heap.size x10 (.slice (some ⟨c_b, 0, none⟩) (a_n + 3) c_c) (a_n + 3) (lentD a_d a_n)) := c_O.out.stays hbx
  have d_O : Hid (Out x3.heap.size x10 (.slice (some ⟨d_b, 0, none⟩) (b_n + 3) d_c) (b_n + 3) (lentD b_d b_n)) := d_O.out.stays hbx
  have FR : Hid (Fr w x10) := FR.out.trans (Fr.of hbx)
  have HB : Hid (Below w0.heap.size w0 x10) := HB.out.trans ((hbx).mono HB.out.size)
  have HK : Hid (Kept w0.heap.size x10 k (fun g => g < w.heap.size)) := HK.out.keeps hbx
  clear hbx
  refine (dmul_bad ⟨a_g, some ⟨c_b, 0, none⟩, a_n, c_c, a_d, a_e⟩ ⟨b_g, some ⟨d_b, 0, none⟩, b_n, d_c, b_d, b_e⟩ _ (lent_row c_O.out) (lent_row d_O.out) HOK.out).mono ?_
  rintro _ y11 ⟨rfl, hw⟩
  have Z12 : Hid (x10.heap.size ≤ y11.heap.size) := hw.size
  have a_k := (hw.block _ (Array.getElem?_eq_some_iff.1 a_k).1).trans a_k
  have b_k := (hw.block _ (Array.getElem?_eq_some_iff.1 b_k).1).trans b_k
  have x_k := (hw.block _ (Array.getElem?_eq_some_iff.1 x_k).1).trans x_k
  have y_k := (hw.block _ (Array.getElem?_eq_some_iff.1 y_k).1).trans y_k
  have p_k := (hw.block _ (Array.getElem?_eq_some_iff.1 p_k).1).trans p_k
  have q_k := (hw.block _ (Array.getElem?_eq_some_iff.1 q_k).1).trans q_k
  have c_O : Hid (Out x1.heap.size y11 (.slice (some ⟨c_b, 0, none⟩) (a_n + 3) c_c) (a_n + 3) (lentD a_d a_n)) := c_O.out.stays hw
  have d_O : Hid (Out x3.heap.size y11 (.slice (some ⟨d_b, 0, none⟩) (b_n + 3) d_c) (b_n + 3) (lentD b_d b_n)) := d_O.out.stays hw
  have FR : Hid (Fr w y11) := FR.out.trans (Fr.of hw)
  have HB : Hid (Below w0.heap.size w0 y11) := HB.out.trans ((hw).mono HB.out.size)
  have HK : Hid (Kept w0.heap.size y11 k (fun g => g < w.heap.size)) := HK.out.keeps hw
  clear hw
  unfold zeroV
  have hbx : Below y11.heap.size y11 (y11.alloc (.cells #[.bool false, .slice none 0 0, .int .i64 0] 25)) := bel_alloc _ _
  have r_k : (y11.alloc (.cells #[.bool false, .slice none 0 0, .int .i64 0] 25)).heap[y11.heap.size]? = some (.cells #[.bool false, .slice none 0 0, .int .i64 0] 25 (0, 0)) := heap_a1 _ _
  have u_k := (hbx.block _ (Array.getElem?_eq_some_iff.1 x_k).1).trans x_k
  have f_x0 := blkC u_k 0 rfl
  have f_x1 := blkC u_k 1 rfl
  have f_x2 := blkC u_k 2 rfl
  clear u_k
  have u_k := (hbx.block _ (Array.getElem?_eq_some_iff.1 y_k).1).trans y_k
  have f_y0 := blkC u_k 0 rfl
  have f_y1 := blkC u_k 1 rfl
  have f_y2 := blkC u_k 2 rfl
  clear u_k
  go_wp2_with fail
  clear f_x0 f_x1 f_x2 f_y0 f_y1 f_y2
  generalize (y11.alloc (.cells #[.bool false, .slice none 0 0, .int .i64 0] 25)) = x12 at hbx r_k ⊢
  have Z13 : Hid (y11.heap.size ≤ x12.heap.size) := hbx.size
  have a_k := (hbx.block _ (Array.getElem?_eq_some_iff.1 a_k).1).trans a_k
  have b_k := (hbx.block _ (Array.getElem?_eq_some_iff.1 b_k).1).trans b_k
  have x_k := (hbx.block _ (Array.getElem?_eq_some_iff.1 x_k).1).trans x_k
  have y_k := (hbx.block _ (Array.getElem?_eq_some_iff.1 y_k).1).trans y_k
  have p_k := (hbx.block _ (Array.getElem?_eq_some_iff.1 p_k).1).trans p_k
  have q_k := (hbx.block _ (Array.getElem?_eq_some_iff.1 q_k).1).trans q_k
  have c_O : Hid (Out x1.heap.size x12 (.slice (some ⟨c_b, 0, none⟩) (a_n + 3) c_c) (a_n + 3) (lentD a_d a_n)) := c_O.out.stays hbx
  have d_O : Hid (Out x3.heap.size x12 (.slice (some ⟨d_b, 0, none⟩) (b_n + 3) d_c) (b_n + 3) (lentD b_d b_n)) := d_O.out.stays hbx
  have FR : Hid (Fr w x12) := FR.out.trans (Fr.of hbx)
  have HB : Hid (Below w0.heap.size w0 x12) := HB.out.trans ((hbx).mono HB.out.size)
  have HK : Hid (Kept w0.heap.size x12 k (fun g => g < w.heap.size)) := HK.out.keeps hbx
  clear hbx
  refine (dcmp_any ⟨a_g, some ⟨c_b, 0, none⟩, a_n, c_c, a_d, a_e⟩ ⟨b_g, some ⟨d_b, 0, none⟩, b_n, d_c, b_d, b_e⟩ _ (lent_row c_O.out) (lent_row d_O.out)).mono ?_
  rintro _ y13 ⟨rfl, hw⟩
  rw [show (okR ⟨a_g, some ⟨c_b, 0, none⟩, a_n, c_c, a_d, a_e⟩ && okR ⟨b_g, some ⟨d_b, 0, none⟩, b_n, d_c, b_d, b_e⟩) = false from HOK.out]
  have Z14 : Hid (x12.heap.size ≤ y13.heap.size) := hw.size
  have a_k := (hw.block _ (Array.getElem?_eq_some_iff.1 a_k).1).trans a_k
  have b_k := (hw.block _ (Array.getElem?_eq_some_iff.1 b_k).1).trans b_k
  have x_k := (hw.block _ (Array.getElem?_eq_some_iff.1 x_k).1).trans x_k
  have y_k := (hw.block _ (Array.getElem?_eq_some_iff.1 y_k).1).trans y_k
  have p_k := (hw.block _ (Array.getElem?_eq_some_iff.1 p_k).1).trans p_k
  have q_k := (hw.block _ (Array.getElem?_eq_some_iff.1 q_k).1).trans q_k
  have r_k := (hw.block _ (Array.getElem?_eq_some_iff.1 r_k).1).trans r_k
  have c_O : Hid (Out x1.heap.size y13 (.slice (some ⟨c_b, 0, none⟩) (a_n + 3) c_c) (a_n + 3) (lentD a_d a_n)) := c_O.out.stays hw
  have d_O : Hid (Out x3.heap.size y13 (.slice (some ⟨d_b, 0, none⟩) (b_n + 3) d_c) (b_n + 3) (lentD b_d b_n)) := d_O.out.stays hw
  have FR : Hid (Fr w y13) := FR.out.trans (Fr.of hw)
  have HB : Hid (Below w0.heap.size w0 y13) := HB.out.trans ((hw).mono HB.out.size)
  have HK : Hid (Kept w0.heap.size y13 k (fun g => g < w.heap.size)) := HK.out.keeps hw
  clear hw
  have f_a0 := blkC a_k 0 rfl
  have f_a1 := blkC a_k 1 rfl
  have f_a2 := blkC a_k 2 rfl
  go_wp2_with fail
  clear f_a0 f_a1 f_a2
  refine (back_any c_O.out (RowX.of0 HA.out HB.out (by have h1 := c_L.out; have HS0q := HS0.out; have Z2q := Z2.out; have Z3q := Z3.out; have Z4q := Z4.out; have Z5q := Z5.out; have Z6q := Z6.out; have Z7q := Z7.out; have Z8q := Z8.out; have Z9q := Z9.out; have Z10q := Z10.out; have Z11q := Z11.out; have Z12q := Z12.out; have Z13q := Z13.out; have Z14q := Z14.out; omega)) (HA.out.keeps HB.out) (by omega)).mono ?_
  rintro _ y14 ⟨rfl, hw⟩
  have Z15 : Hid (y13.heap.size ≤ y14.heap.size) := hw.size
  obtain ⟨t_cur, t_z, t_t⟩ := c_O.out.typed (g := c_b) rfl
  have a_k := numblk_wr hw t_t (by decide) a_k
  have b_k := numblk_wr hw t_t (by decide) b_k
  have x_k := numblk_wr hw t_t (by decide) x_k
  have y_k := numblk_wr hw t_t (by decide) y_k
  have p_k := numblk_wr hw t_t (by decide) p_k
  have q_k := numblk_wr hw t_t (by decide) q_k
  have r_k := numblk_wr hw t_t (by decide) r_k
  have d_O : Hid (Out x3.heap.size y14 (.slice (some ⟨d_b, 0, none⟩) (b_n + 3) d_c) (b_n + 3) (lentD b_d b_n)) := d_O.out.of_block fun g hg => by
      have e : d_b = g := by simpa [Value.ownBlock] using hg
      refine hw.block g (d_O.out.ge hg).2 ?_
      have h1 := d_L.out; have h2 := c_L.out; have HS0q := HS0.out; have Z2q := Z2.out; have Z3q := Z3.out; have Z4q := Z4.out; have Z5q := Z5.out; have Z6q := Z6.out; have Z7q := Z7.out; have Z8q := Z8.out; have Z9q := Z9.out; have Z10q := Z10.out; have Z11q := Z11.out; have Z12q := Z12.out; have Z13q := Z13.out; have Z14q := Z14.out; omega
  have FR : Hid (Fr w y14) := FR.out.wr hw (by have h1 := c_L.out; have HS0q := HS0.out; have Z2q := Z2.out; have Z3q := Z3.out; have Z4q := Z4.out; have Z5q := Z5.out; have Z6q := Z6.out; have Z7q := Z7.out; have Z8q := Z8.out; have Z9q := Z9.out; have Z10q := Z10.out; have Z11q := Z11.out; have Z12q := Z12.out; have Z13q := Z13.out; have Z14q := Z14.out; omega) (by have HS0q := HS0.out; have Z2q := Z2.out; have Z3q := Z3.out; have Z4q := Z4.out; have Z5q := Z5.out; have Z6q := Z6.out; have Z7q := Z7.out; have Z8q := Z8.out; have Z9q := Z9.out; have Z10q := Z10.out; have Z11q := Z11.out; have Z12q := Z12.out; have Z13q := Z13.out; have Z14q := Z14.out; omega)
  have HB : Hid (Below w0.heap.size w0 y14) := hw.below HB.out HB.out.size (by have h1 := c_L.out; have h0 := HS0.out; have HS0q := HS0.out; have Z2q := Z2.out; have Z3q := Z3.out; have Z4q := Z4.out; have Z5q := Z5.out; have Z6q := Z6.out; have Z7q := Z7.out; have Z8q := Z8.out; have Z9q := Z9.out; have Z10q := Z10.out; have Z11q := Z11.out; have Z12q := Z12.out; have Z13q := Z13.out; have Z14q := Z14.out; omega)
  have HK : Hid (Kept w0.heap.size y14 k (fun g => g < w.heap.size)) := HK.out.wr hw (fun (h : c_b < w.heap.size) => by have h1 := c_L.out; have HS0q := HS0.out; have Z2q := Z2.out; have Z3q := Z3.out; have Z4q := Z4.out; have Z5q := Z5.out; have Z6q := Z6.out; have Z7q := Z7.out; have Z8q := Z8.out; have Z9q := Z9.out; have Z10q := Z10.out; have Z11q := Z11.out; have Z12q := Z12.out; have Z13q := Z13.out; have Z14q := Z14.out; omega) t_t
  clear hw t_t
  have f_b0 := blkC b_k 0 rfl
  have f_b1 := blkC b_k 1 rfl
  have f_b2 := blkC b_k 2 rfl
  go_wp2_with fail
  clear f_b0 f_b1 f_b2
  refine (back_any d_O.out (RowX.of0 HRB.out HB.out (by have h1 := d_L.out; have HS0q := HS0.out; have Z2q := Z2.out; have Z3q := Z3.out; have Z4q := Z4.out; have Z5q := Z5.out; have Z6q := Z6.out; have Z7q := Z7.out; have Z8q := Z8.out; have Z9q := Z9.out; have Z10q := Z10.out; have Z11q := Z11.out; have Z12q := Z12.out; have Z13q := Z13.out; have Z14q := Z14.out; have Z15q := Z15.out; omega)) (HRB.out.keeps HB.out) (by omega)).mono ?_
  rintro _ y15 ⟨rfl, hw⟩
  have Z16 : Hid (y14.heap.size ≤ y15.heap.size) := hw.size
  obtain ⟨t_cur, t_z, t_t⟩ := d_O.out.typed (g := d_b) rfl
  have a_k := numblk_wr hw t_t (by decide) a_k
  have b_k := numblk_wr hw t_t (by decide) b_k
  have x_k := numblk_wr hw t_t (by decide) x_k
  have y_k := numblk_wr hw t_t (by decide) y_k
  have p_k := numblk_wr hw t_t (by decide) p_k
  have q_k := numblk_wr hw t_t (by decide) q_k
  have r_k := numblk_wr hw t_t (by decide) r_k
  have FR : Hid (Fr w y15) := FR.out.wr hw (by have h1 := d_L.out; have HS0q := HS0.out; have Z2q := Z2.out; have Z3q := Z3.out; have Z4q := Z4.out; have Z5q := Z5.out; have Z6q := Z6.out; have Z7q := Z7.out; have Z8q := Z8.out; have Z9q := Z9.out; have Z10q := Z10.out; have Z11q := Z11.out; have Z12q := Z12.out; have Z13q := Z13.out; have Z14q := Z14.out; have Z15q := Z15.out; omega) (by have HS0q := HS0.out; have Z2q := Z2.out; have Z3q := Z3.out; have Z4q := Z4.out; have Z5q := Z5.out; have Z6q := Z6.out; have Z7q := Z7.out; have Z8q := Z8.out; have Z9q := Z9.out; have Z10q := Z10.out; have Z11q := Z11.out; have Z12q := Z12.out; have Z13q := Z13.out; have Z14q := Z14.out; have Z15q := Z15.out; omega)
  have HB : Hid (Below w0.heap.size w0 y15) := hw.below HB.out HB.out.size (by have h1 := d_L.out; have h0 := HS0.out; have HS0q := HS0.out; have Z2q := Z2.out; have Z3q := Z3.out; have Z4q := Z4.out; have Z5q := Z5.out; have Z6q := Z6.out; have Z7q := Z7.out; have Z8q := Z8.out; have Z9q := Z9.out; have Z10q := Z10.out; have Z11q := Z11.out; have Z12q := Z12.out; have Z13q := Z13.out; have Z14q := Z14.out; have Z15q := Z15.out; omega)
  have HK : Hid (Kept w0.heap.size y15 k (fun g => g < w.heap.size)) := HK.out.wr hw (fun (h : d_b < w.heap.size) => by have h1 := d_L.out; have HS0q := HS0.out; have Z2q := Z2.out; have Z3q := Z3.out; have Z4q := Z4.out; have Z5q := Z5.out; have Z6q := Z6.out; have Z7q := Z7.out; have Z8q := Z8.out; have Z9q := Z9.out; have Z10q := Z10.out; have Z11q := Z11.out; have Z12q := Z12.out; have Z13q := Z13.out; have Z14q := Z14.out; have Z15q := Z15.out; omega) t_t
  clear hw t_t
  have f_p0 := blkC p_k 0 rfl
  have f_p1 := blkC p_k 1 rfl
  have f_p2 := blkC p_k 2 rfl
  have f_a0 := blkC a_k 0 rfl
  have f_a1 := blkC a_k 1 rfl
  have f_a2 := blkC a_k 2 rfl
  go_wp2_with fail
  clear f_p0 f_p1 f_p2 f_a0 f_a1 f_a2
  refine (is_bad _).mono ?_
  rintro _ y16 ⟨rfl, hw⟩
  have Z17 : Hid (y15.heap.size ≤ y16.heap.size) := hw.size
  have a_k := (hw.block _ (Array.getElem?_eq_some_iff.1 a_k).1).trans a_k
  have b_k := (hw.block _ (Array.getElem?_eq_some_iff.1 b_k).1).trans b_k
  have x_k := (hw.block _ (Array.getElem?_eq_some_iff.1 x_k).1).trans x_k
  have y_k := (hw.block _ (Array.getElem?_eq_some_iff.1 y_k).1).trans y_k
  have p_k := (hw.block _ (Array.getElem?_eq_some_iff.1 p_k).1).trans p_k
  have q_k := (hw.block _ (Array.getElem?_eq_some_iff.1 q_k).1).trans q_k
  have r_k := (hw.block _ (Array.getElem?_eq_some_iff.1 r_k).1).trans r_k
  have FR : Hid (Fr w y16) := FR.out.trans (Fr.of hw)
  have HB : Hid (Below w0.heap.size w0 y16) := HB.out.trans ((hw).mono HB.out.size)
  have HK : Hid (Kept w0.heap.size y16 k (fun g => g < w.heap.size)) := HK.out.keeps hw
  clear hw
  have f_q0 := blkC q_k 0 rfl
  have f_q1 := blkC q_k 1 rfl
  have f_q2 := blkC q_k 2 rfl
  have f_a0 := blkC a_k 0 rfl
  have f_a1 := blkC a_k 1 rfl
  have f_a2 := blkC a_k 2 rfl
  go_wp2_with fail
  clear f_q0 f_q1 f_q2 f_a0 f_a1 f_a2
  refine (is_bad _).mono ?_
  rintro _ y17 ⟨rfl, hw⟩
  have Z18 : Hid (y16.heap.size ≤ y17.heap.size) := hw.size
  have a_k := (hw.block _ (Array.getElem?_eq_some_iff.1 a_k).1).trans a_k
  have b_k := (hw.block _ (Array.getElem?_eq_some_iff.1 b_k).1).trans b_k
  have x_k := (hw.block _ (Array.getElem?_eq_some_iff.1 x_k).1).trans x_k
  have y_k := (hw.block _ (Array.getElem?_eq_some_iff.1 y_k).1).trans y_k
  have p_k := (hw.block _ (Array.getElem?_eq_some_iff.1 p_k).1).trans p_k
  have q_k := (hw.block _ (Array.getElem?_eq_some_iff.1 q_k).1).trans q_k
  have r_k := (hw.block _ (Array.getElem?_eq_some_iff.1 r_k).1).trans r_k
  have FR : Hid (Fr w y17) := FR.out.trans (Fr.of hw)
  have HB : Hid (Below w0.heap.size w0 y17) := HB.out.trans ((hw).mono HB.out.size)
  have HK : Hid (Kept w0.heap.size y17 k (fun g => g < w.heap.size)) := HK.out.keeps hw
  clear hw
  have f_r0 := blkC r_k 0 rfl
  have f_r1 := blkC r_k 1 rfl
  have f_r2 := blkC r_k 2 rfl
  have f_a0 := blkC a_k 0 rfl
  have f_a1 := blkC a_k 1 rfl
  have f_a2 := blkC a_k 2 rfl
  go_wp2_with fail
  clear f_r0 f_r1 f_r2 f_a0 f_a1 f_a2
  refine (is_bad _).mono ?_
  rintro _ y18 ⟨rfl, hw⟩
  have Z19 : Hid (y17.heap.size ≤ y18.heap.size) := hw.size
  have a_k := (hw.block _ (Array.getElem?_eq_some_iff.1 a_k).1).trans a_k
  have b_k := (hw.block _ (Array.getElem?_eq_some_iff.1 b_k).1).trans b_k
  have x_k := (hw.block _ (Array.getElem?_eq_some_iff.1 x_k).1).trans x_k
  have y_k := (hw.block _ (Array.getElem?_eq_some_iff.1 y_k).1).trans y_k
  have p_k := (hw.block _ (Array.getElem?_eq_some_iff.1 p_k).1).trans p_k
  have q_k := (hw.block _ (Array.getElem?_eq_some_iff.1 q_k).1).trans q_k
  have r_k := (hw.block _ (Array.getElem?_eq_some_iff.1 r_k).1).trans r_k
  have FR : Hid (Fr w y18) := FR.out.trans (Fr.of hw)
  have HB : Hid (Below w0.heap.size w0 y18) := HB.out.trans ((hw).mono HB.out.size)
  have HK : Hid (Kept w0.heap.size y18 k (fun g => g < w.heap.size)) := HK.out.keeps hw
  clear hw
  go_wp2
  go_ret
  exact ⟨rfl, HB.out, _, HK.out, FR.out⟩
set_option maxRecDepth 100000 in
set_option maxHeartbeats 8000000 in
theorem twos_bad2 {w0 : World} (a b : NumR) (ra : Row w0 a.ao a.n a.cap a.d) (rb : Row w0 b.ao b.n b.cap b.d) (hn : a.n ≤ 2100) (hm : b.n ≤ 2100) (w : World) (hb0 : Below w0.heap.size w0 w) {k : Nat} {S : Nat → Prop} (hk : Kept w0.heap.size w k S) (hT : Tab w0) (oa : okR a = true) (ob : okR b = false) :
    Calls Tryz.prog 8 #[.pointer (some ⟨k, 0, none⟩), a.v, b.v] w fun e w' => e = .returned (.bool true) ∧ Below w0.heap.size w0 w' ∧ ∃ S', Kept w0.heap.size w' k S' ∧ Fr w w' := by
  have HOK : Hid ((okR a && okR b) = false) := by unfold Hid; rw [oa, ob]; rfl
  have HT : Hid (∀ W, Below w0.heap.size w0 W → Tab W) := fun W hb => hT.keeps hb
  clear hT
  have CLA : Hid (∀ W, Below w0.heap.size w0 W → _) := fun W hb => lent3_any a W (ra.keeps hb) (by omega)
  have CLB : Hid (∀ W, Below w0.heap.size w0 W → _) := fun W hb => lent3_any b W (rb.keeps hb) (by omega)
  have CVA : Hid (∀ W, Below w0.heap.size w0 W → _) := fun W hb => rvalid3_any a W (ra.keeps hb)
  have CVB : Hid (∀ W, Below w0.heap.size w0 W → _) := fun W hb => rvalid3_any b W (rb.keeps hb)
  rw [oa] at CVA
  rw [ob] at CVB
  have HA : Hid (Row w0 a.ao a.n a.cap a.d) := ra
  have HRB : Hid (Row w0 b.ao b.n b.cap b.d) := rb
  have hla := ra.le
  have hma := ra.max
  have hlb := rb.le
  have hmb := rb.max
  clear ra rb
  unfold NumR.v at *
  obtain ⟨a_g, a_o, a_n, a_c, a_d, a_e⟩ := a
  obtain ⟨b_g, b_o, b_n, b_c, b_d, b_e⟩ := b
  simp only at hn hm hla hma hlb hmb CLA CLB CVA CVB HA HRB HOK ⊢
  have HS0 : Hid (w0.heap.size ≤ w.heap.size) := hb0.size
  have HB : Hid (Below w0.heap.size w0 w) := hb0
  have HK : Hid (Kept w0.heap.size w k (fun g => g < w.heap.size)) := hk.old
  have FR : Hid (Fr w w) := Fr.of (bel_refl w)
  clear hb0 hk
  go_enter Tryz.func8, Tryz.ntmps8
  have hbx : Below w.heap.size w ((w.alloc (.cells #[.bool a_g, .slice a_o a_n a_c, .int .i64 a_e] 25)).alloc (.cells #[.bool b_g, .slice b_o b_n b_c, .int .i64 b_e] 25)) := bel_alloc2 _ _ _
  have a_k : ((w.alloc (.cells #[.bool a_g, .slice a_o a_n a_c, .int .i64 a_e] 25)).alloc (.cells #[.bool b_g, .slice b_o b_n b_c, .int .i64 b_e] 25)).heap[w.heap.size]? = some (.cells #[.bool a_g, .slice a_o a_n a_c, .int .i64 a_e] 25 (0, 0)) := heap_a2 _ _ _
  have b_k : ((w.alloc (.cells #[.bool a_g, .slice a_o a_n a_c, .int .i64 a_e] 25)).alloc (.cells #[.bool b_g, .slice b_o b_n b_c, .int .i64 b_e] 25)).heap[w.heap.size + 1]? = some (.cells #[.bool b_g, .slice b_o b_n b_c, .int .i64 b_e] 25 (0, 0)) := heap_b2 _ _ _
  go_wp2_with fail
  generalize ((w.alloc (.cells #[.bool a_g, .slice a_o a_n a_c, .int .i64 a_e] 25)).alloc (.cells #[.bool b_g, .slice b_o b_n b_c, .int .i64 b_e] 25)) = x1 at hbx a_k b_k ⊢
  have Z2 : Hid (w.heap.size ≤ x1.heap.size) := hbx.size
  have FR : Hid (Fr w x1) := FR.out.trans (Fr.of hbx)
  have HB : Hid (Below w0.heap.size w0 x1) := HB.out.trans ((hbx).mono HB.out.size)
  have HK : Hid (Kept w0.heap.size x1 k (fun g => g < w.heap.size)) := HK.out.keeps hbx
  clear hbx
  refine (CLA.out _ HB.out).mono ?_
  rintro _ y2 ⟨c_b, c_c, rfl, l_O', hw⟩
  have Z3 : Hid (x1.heap.size ≤ y2.heap.size) := hw.size
  have a_k := (hw.block _ (Array.getElem?_eq_some_iff.1 a_k).1).trans a_k
  have b_k := (hw.block _ (Array.getElem?_eq_some_iff.1 b_k).1).trans b_k
  have FR : Hid (Fr w y2) := FR.out.trans (Fr.of hw)
  have HB : Hid (Below w0.heap.size w0 y2) := HB.out.trans ((hw).mono HB.out.size)
  have HK : Hid (Kept w0.heap.size y2 k (fun g => g < w.heap.size)) := HK.out.keeps hw
  have c_O : Hid (Out x1.heap.size y2 (.slice (some ⟨c_b, 0, none⟩) (a_n + 3) c_c) (a_n + 3) (lentD a_d a_n)) := l_O'
  have c_L : Hid (x1.heap.size ≤ c_b ∧ c_b < y2.heap.size) := c_O.out.ge rfl
  have c_M := lent_cap c_O.out
  clear l_O' hw
  have hbx : Below y2.heap.size y2 (y2.alloc (.cells #[.bool a_g, .slice (some ⟨c_b, 0, none⟩) a_n c_c, .int .i64 a_e] 25)) := bel_alloc _ _
  have x_k : (y2.alloc (.cells #[.bool a_g, .slice (some ⟨c_b, 0, none⟩) a_n c_c, .int .i64 a_e] 25)).heap[y2.heap.size]? = some (.cells #[.bool a_g, .slice (some ⟨c_b, 0, none⟩) a_n c_c, .int .i64 a_e] 25 (0, 0)) := heap_a1 _ _
  have u_k := (hbx.block _ (Array.getElem?_eq_some_iff.1 b_k).1).trans b_k
  have f_b0 := blkC u_k 0 rfl
  have f_b1 := blkC u_k 1 rfl
  have f_b2 := blkC u_k 2 rfl
  clear u_k
  go_wp2_with fail
  clear f_b0 f_b1 f_b2
  generalize (y2.alloc (.cells #[.bool a_g, .slice (some ⟨c_b, 0, none⟩) a_n c_c, .int .i64 a_e] 25)) = x3 at hbx x_k ⊢
  have Z4 : Hid (y2.heap.size ≤ x3.heap.size) := hbx.size
  have a_k := (hbx.block _ (Array.getElem?_eq_some_iff.1 a_k).1).trans a_k
  have b_k := (hbx.block _ (Array.getElem?_eq_some_iff.1 b_k).1).trans b_k
  have c_O : Hid (Out x1.heap.size x3 (.slice (some ⟨c_b, 0, none⟩) (a_n + 3) c_c) (a_n + 3) (lentD a_d a_n)) := c_O.out.stays hbx
  have FR : Hid (Fr w x3) := FR.out.trans (Fr.of hbx)
  have HB : Hid (Below w0.heap.size w0 x3) := HB.out.trans ((hbx).mono HB.out.size)
  have HK : Hid (Kept w0.heap.size x3 k (fun g => g < w.heap.size)) := HK.out.keeps hbx
  clear hbx
  refine (CLB.out _ HB.out).mono ?_
  rintro _ y4 ⟨d_b, d_c, rfl, l_O', hw⟩
  have Z5 : Hid (x3.heap.size ≤ y4.heap.size) := hw.size
  have a_k := (hw.block _ (Array.getElem?_eq_some_iff.1 a_k).1).trans a_k
  have b_k := (hw.block _ (Array.getElem?_eq_some_iff.1 b_k).1).trans b_k
  have x_k := (hw.block _ (Array.getElem?_eq_some_iff.1 x_k).1).trans x_k
  have c_O : Hid (Out x1.heap.size y4 (.slice (some ⟨c_b, 0, none⟩) (a_n + 3) c_c) (a_n + 3) (lentD a_d a_n)) := c_O.out.stays hw
  have FR : Hid (Fr w y4) := FR.out.trans (Fr.of hw)
  have HB : Hid (Below w0.heap.size w0 y4) := HB.out.trans ((hw).mono HB.out.size)
  have HK : Hid (Kept w0.heap.size y4 k (fun g => g < w.heap.size)) := HK.out.keeps hw
  have d_O : Hid (Out x3.heap.size y4 (.slice (some ⟨d_b, 0, none⟩) (b_n + 3) d_c) (b_n + 3) (lentD b_d b_n)) := l_O'
  have d_L : Hid (x3.heap.size ≤ d_b ∧ d_b < y4.heap.size) := d_O.out.ge rfl
  have d_M := lent_cap d_O.out
  clear l_O' hw
  have hbx : Below y4.heap.size y4 (y4.alloc (.cells #[.bool b_g, .slice (some ⟨d_b, 0, none⟩) b_n d_c, .int .i64 b_e] 25)) := bel_alloc _ _
  have y_k : (y4.alloc (.cells #[.bool b_g, .slice (some ⟨d_b, 0, none⟩) b_n d_c, .int .i64 b_e] 25)).heap[y4.heap.size]? = some (.cells #[.bool b_g, .slice (some ⟨d_b, 0, none⟩) b_n d_c, .int .i64 b_e] 25 (0, 0)) := heap_a1 _ _
  have u_k := (hbx.block _ (Array.getElem?_eq_some_iff.1 a_k).1).trans a_k
  have f_a0 := blkC u_k 0 rfl
  have f_a1 := blkC u_k 1 rfl
  have f_a2 := blkC u_k 2 rfl
  clear u_k
  go_wp2_with fail
  clear f_a0 f_a1 f_a2
  generalize (y4.alloc (.cells #[.bool b_g, .slice (some ⟨d_b, 0, none⟩) b_n d_c, .int .i64 b_e] 25)) = x5 at hbx y_k ⊢
  have Z6 : Hid (y4.heap.size ≤ x5.heap.size) := hbx.size
  have a_k := (hbx.block _ (Array.getElem?_eq_some_iff.1 a_k).1).trans a_k
  have b_k := (hbx.block _ (Array.getElem?_eq_some_iff.1 b_k).1).trans b_k
  have x_k := (hbx.block _ (Array.getElem?_eq_some_iff.1 x_k).1).trans x_k
  have c_O : Hid (Out x1.heap.size x5 (.slice (some ⟨c_b, 0, none⟩) (a_n + 3) c_c) (a_n + 3) (lentD a_d a_n)) := c_O.out.stays hbx
  have d_O : Hid (Out x3.heap.size x5 (.slice (some ⟨d_b, 0, none⟩) (b_n + 3) d_c) (b_n + 3) (lentD b_d b_n)) := d_O.out.stays hbx
  have FR : Hid (Fr w x5) := FR.out.trans (Fr.of hbx)
  have HB : Hid (Below w0.heap.size w0 x5) := HB.out.trans ((hbx).mono HB.out.size)
  have HK : Hid (Kept w0.heap.size x5 k (fun g => g < w.heap.size)) := HK.out.keeps hbx
  clear hbx
  refine (CVA.out _ HB.out).mono ?_
  rintro _ y6 ⟨rfl, hw⟩
  have Z7 : Hid (x5.heap.size ≤ y6.heap.size) := hw.size
  have a_k := (hw.block _ (Array.getElem?_eq_some_iff.1 a_k).1).trans a_k
  have b_k := (hw.block _ (Array.getElem?_eq_some_iff.1 b_k).1).trans b_k
  have x_k := (hw.block _ (Array.getElem?_eq_some_iff.1 x_k).1).trans x_k
  have y_k := (hw.block _ (Array.getElem?_eq_some_iff.1 y_k).1).trans y_k
  have c_O : Hid (Out x1.heap.size y6 (.slice (some ⟨c_b, 0, none⟩) (a_n + 3) c_c) (a_n + 3) (lentD a_d a_n)) := c_O.out.stays hw
  have d_O : Hid (Out x3.heap.size y6 (.slice (some ⟨d_b, 0, none⟩) (b_n + 3) d_c) (b_n + 3) (lentD b_d b_n)) := d_O.out.stays hw
  have FR : Hid (Fr w y6) := FR.out.trans (Fr.of hw)
  have HB : Hid (Below w0.heap.size w0 y6) := HB.out.trans ((hw).mono HB.out.size)
  have HK : Hid (Kept w0.heap.size y6 k (fun g => g < w.heap.size)) := HK.out.keeps hw
  clear hw
  have f_b0 := blkC b_k 0 rfl
  have f_b1 := blkC b_k 1 rfl
  have f_b2 := blkC b_k 2 rfl
  go_wp2_with fail
  clear f_b0 f_b1 f_b2
  refine (CVB.out _ HB.out).mono ?_
  rintro _ y7 ⟨rfl, hw⟩
  have Z8 : Hid (y6.heap.size ≤ y7.heap.size) := hw.size
  have a_k := (hw.block _ (Array.getElem?_eq_some_iff.1 a_k).1).trans a_k
  have b_k := (hw.block _ (Array.getElem?_eq_some_iff.1 b_k).1).trans b_k
  have x_k := (hw.block _ (Array.getElem?_eq_some_iff.1 x_k).1).trans x_k
  have y_k := (hw.block _ (Array.getElem?_eq_some_iff.1 y_k).1).trans y_k
  have c_O : Hid (Out x1.heap.size y7 (.slice (some ⟨c_b, 0, none⟩) (a_n + 3) c_c) (a_n + 3) (lentD a_d a_n)) := c_O.out.stays hw
  have d_O : Hid (Out x3.heap.size y7 (.slice (some ⟨d_b, 0, none⟩) (b_n + 3) d_c) (b_n + 3) (lentD b_d b_n)) := d_O.out.stays hw
  have FR : Hid (Fr w y7) := FR.out.trans (Fr.of hw)
  have HB : Hid (Below w0.heap.size w0 y7) := HB.out.trans ((hw).mono HB.out.size)
  have HK : Hid (Kept w0.heap.size y7 k (fun g => g < w.heap.size)) := HK.out.keeps hw
  clear hw
  have f_x0 := blkC x_k 0 rfl
  have f_x1 := blkC x_k 1 rfl
  have f_x2 := blkC x_k 2 rfl
  have f_y0 := blkC y_k 0 rfl
  have f_y1 := blkC y_k 1 rfl
  have f_y2 := blkC y_k 2 rfl
  go_wp2_with fail
  clear f_x0 f_x1 f_x2 f_y0 f_y1 f_y2
  refine (dadd_bad ⟨a_g, some ⟨c_b, 0, none⟩, a_n, c_c, a_d, a_e⟩ ⟨b_g, some ⟨d_b, 0, none⟩, b_n, d_c, b_d, b_e⟩ _ (lent_row c_O.out) (lent_row d_O.out) HOK.out).mono ?_
  rintro _ y8 ⟨rfl, hw⟩
  have Z9 : Hid (y7.heap.size ≤ y8.heap.size) := hw.size
  have a_k := (hw.block _ (Array.getElem?_eq_some_iff.1 a_k).1).trans a_k
  have b_k := (hw.block _ (Array.getElem?_eq_some_iff.1 b_k).1).trans b_k
  have x_k := (hw.block _ (Array.getElem?_eq_some_iff.1 x_k).1).trans x_k
  have y_k := (hw.block _ (Array.getElem?_eq_some_iff.1 y_k).1).trans y_k
  have c_O : Hid (Out x1.heap.size y8 (.slice (some ⟨c_b, 0, none⟩) (a_n + 3) c_c) (a_n + 3) (lentD a_d a_n)) := c_O.out.stays hw
  have d_O : Hid (Out x3.heap.size y8 (.slice (some ⟨d_b, 0, none⟩) (b_n + 3) d_c) (b_n + 3) (lentD b_d b_n)) := d_O.out.stays hw
  have FR : Hid (Fr w y8) := FR.out.trans (Fr.of hw)
  have HB : Hid (Below w0.heap.size w0 y8) := HB.out.trans ((hw).mono HB.out.size)
  have HK : Hid (Kept w0.heap.size y8 k (fun g => g < w.heap.size)) := HK.out.keeps hw
  clear hw
  unfold zeroV
  have hbx : Below y8.heap.size y8 (y8.alloc (.cells #[.bool false, .slice none 0 0, .int .i64 0] 25)) := bel_alloc _ _
  have p_k : (y8.alloc (.cells #[.bool false, .slice none 0 0, .int .i64 0] 25)).heap[y8.heap.size]? = some (.cells #[.bool false, .slice none 0 0, .int .i64 0] 25 (0, 0)) := heap_a1 _ _
  have u_k := (hbx.block _ (Array.getElem?_eq_some_iff.1 x_k).1).trans x_k
  have f_x0 := blkC u_k 0 rfl
  have f_x1 := blkC u_k 1 rfl
  have f_x2 := blkC u_k 2 rfl
  clear u_k
  have u_k := (hbx.block _ (Array.getElem?_eq_some_iff.1 y_k).1).trans y_k
  have f_y0 := blkC u_k 0 rfl
  have f_y1 := blkC u_k 1 rfl
  have f_y2 := blkC u_k 2 rfl
  clear u_k
  go_wp2_with fail
  clear f_x0 f_x1 f_x2 f_y0 f_y1 f_y2
  generalize (y8.alloc (.cells #[.bool false, .slice none 0 0, .int .i64 0] 25)) = x9 at hbx p_k ⊢
  have Z10 : Hid (y8.heap.size ≤ x9.heap.size) := hbx.size
  have a_k := (hbx.block _ (Array.getElem?_eq_some_iff.1 a_k).1).trans a_k
  have b_k := (hbx.block _ (Array.getElem?_eq_some_iff.1 b_k).1).trans b_k
  have x_k := (hbx.block _ (Array.getElem?_eq_some_iff.1 x_k).1).trans x_k
  have y_k := (hbx.block _ (Array.getElem?_eq_some_iff.1 y_k).1).trans y_k
  have c_O : Hid (Out x1.heap.size x9 (.slice (some ⟨c_b, 0, none⟩) (a_n + 3) c_c) (a_n + 3) (lentD a_d a_n)) := c_O.out.stays hbx
  have d_O : Hid (Out x3.heap.size x9 (.slice (some ⟨d_b, 0, none⟩) (b_n + 3) d_c) (b_n + 3) (lentD b_d b_n)) := d_O.out.stays hbx
  have FR : Hid (Fr w x9) := FR.out.trans (Fr.of hbx)
  have HB : Hid (Below w0.heap.size w0 x9) := HB.out.trans ((hbx).mono HB.out.size)
  have HK : Hid (Kept w0.heap.size x9 k (fun g => g < w.heap.size)) := HK.out.keeps hbx
  clear hbx
  refine (dsub_bad ⟨a_g, some ⟨c_b, 0, none⟩, a_n, c_c, a_d, a_e⟩ ⟨b_g, some ⟨d_b, 0, none⟩, b_n, d_c, b_d, b_e⟩ _ (lent_row c_O.out) (lent_row d_O.out) HOK.out).mono ?_
  rintro _ y10 ⟨rfl, hw⟩
  have Z11 : Hid (x9.heap.size ≤ y10.heap.size) := hw.size
  have a_k := (hw.block _ (Array.getElem?_eq_some_iff.1 a_k).1).trans a_k
  have b_k := (hw.block _ (Array.getElem?_eq_some_iff.1 b_k).1).trans b_k
  have x_k := (hw.block _ (Array.getElem?_eq_some_iff.1 x_k).1).trans x_k
  have y_k := (hw.block _ (Array.getElem?_eq_some_iff.1 y_k).1).trans y_k
  have p_k := (hw.block _ (Array.getElem?_eq_some_iff.1 p_k).1).trans p_k
  have c_O : Hid (Out x1.heap.size y10 (.slice (some ⟨c_b, 0, none⟩) (a_n + 3) c_c) (a_n + 3) (lentD a_d a_n)) := c_O.out.stays hw
  have d_O : Hid (Out x3.heap.size y10 (.slice (some ⟨d_b, 0, none⟩) (b_n + 3) d_c) (b_n + 3) (lentD b_d b_n)) := d_O.out.stays hw
  have FR : Hid (Fr w y10) := FR.out.trans (Fr.of hw)
  have HB : Hid (Below w0.heap.size w0 y10) := HB.out.trans ((hw).mono HB.out.size)
  have HK : Hid (Kept w0.heap.size y10 k (fun g => g < w.heap.size)) := HK.out.keeps hw
  clear hw
  unfold zeroV
  have hbx : Below y10.heap.size y10 (y10.alloc (.cells #[.bool false, .slice none 0 0, .int .i64 0] 25)) := bel_alloc _ _
  have q_k : (y10.alloc (.cells #[.bool false, .slice none 0 0, .int .i64 0] 25)).heap[y10.heap.size]? = some (.cells #[.bool false, .slice none 0 0, .int .i64 0] 25 (0, 0)) := heap_a1 _ _
  have u_k := (hbx.block _ (Array.getElem?_eq_some_iff.1 x_k).1).trans x_k
  have f_x0 := blkC u_k 0 rfl
  have f_x1 := blkC u_k 1 rfl
  have f_x2 := blkC u_k 2 rfl
  clear u_k
  have u_k := (hbx.block _ (Array.getElem?_eq_some_iff.1 y_k).1).trans y_k
  have f_y0 := blkC u_k 0 rfl
  have f_y1 := blkC u_k 1 rfl
  have f_y2 := blkC u_k 2 rfl
  clear u_k
  go_wp2_with fail
  clear f_x0 f_x1 f_x2 f_y0 f_y1 f_y2
  generalize (y10.alloc (.cells #[.bool false, .slice none 0 0, .int .i64 0] 25)) = x11 at hbx q_k ⊢
  have Z12 : Hid (y10.heap.size ≤ x11.heap.size) := hbx.size
  have a_k := (hbx.block _ (Array.getElem?_eq_some_iff.1 a_k).1).trans a_k
  have b_k := (hbx.block _ (Array.getElem?_eq_some_iff.1 b_k).1).trans b_k
  have x_k := (hbx.block _ (Array.getElem?_eq_some_iff.1 x_k).1).trans x_k
  have y_k := (hbx.block _ (Array.getElem?_eq_some_iff.1 y_k).1).trans y_k
  have p_k := (hbx.block _ (Array.getElem?_eq_some_iff.1 p_k).1).trans p_k
  have c_O : Hid (Out x1.heap.size x11 (.slice (some ⟨c_b, 0, none⟩) (a_n + 3) c_c) (a_n + 3) (lentD a_d a_n)) := c_O.out.stays hbx
  have d_O : Hid (Out x3.heap.size x11 (.slice (some ⟨d_b, 0, none⟩) (b_n + 3) d_c) (b_n + 3) (lentD b_d b_n)) := d_O.out.stays hbx
  have FR : Hid (Fr w x11) := FR.out.trans (Fr.of hbx)
  have HB : Hid (Below w0.heap.size w0 x11) := HB.out.trans ((hbx).mono HB.out.size)
  have HK : Hid (Kept w0.heap.size x11 k (fun g => g < w.heap.size)) := HK.out.keeps hbx
  clear hbx
  refine (dmul_bad ⟨a_g, some ⟨c_b, 0, none⟩, a_n, c_c, a_d, a_e⟩ ⟨b_g, some ⟨d_b, 0, none⟩, b_n, d_c, b_d, b_e⟩ _ (lent_row c_O.out) (lent_row d_O.out) HOK.out).mono ?_
  rintro _ y12 ⟨rfl, hw⟩
  have Z13 : Hid (x11.heap.size ≤ y12.heap.size) := hw.size
  have a_k := (hw.block _ (Array.getElem?_eq_some_iff.1 a_k).1).trans a_k
  have b_k := (hw.block _ (Array.getElem?_eq_some_iff.1 b_k).1).trans b_k
  have x_k := (hw.block _ (Array.getElem?_eq_some_iff.1 x_k).1).trans x_k
  have y_k := (hw.block _ (Array.getElem?_eq_some_iff.1 y_k).1).trans y_k
  have p_k := (hw.block _ (Array.getElem?_eq_some_iff.1 p_k).1).trans p_k
  have q_k := (hw.block _ (Array.getElem?_eq_some_iff.1 q_k).1).trans q_k
  have c_O : Hid (Out x1.heap.size y12 (.slice (some ⟨c_b, 0, none⟩) (a_n + 3) c_c) (a_n + 3) (lentD a_d a_n)) := c_O.out.stays hw
  have d_O : Hid (Out x3.heap.size y12 (.slice (some ⟨d_b, 0, none⟩) (b_n + 3) d_c) (b_n + 3) (lentD b_d b_n)) := d_O.out.stays hw
  have FR : Hid (Fr w y12) := FR.out.trans (Fr.of hw)
  have HB : Hid (Below w0.heap.size w0 y12) := HB.out.trans ((hw).mono HB.out.size)
  have HK : Hid (Kept w0.heap.size y12 k (fun g => g < w.heap.size)) := HK.out.keeps hw
  clear hw
  unfold zeroV
  have hbx : Below y12.heap.size y12 (y12.alloc (.cells #[.bool false, .slice none 0 0, .int .i64 0] 25)) := bel_alloc _ _
  have r_k : (y12.alloc (.cells #[.bool false, .slice none 0 0, .int .i64 0] 25)).heap[y12.heap.size]? = some (.cells #[.bool false, .slice none 0 0, .int .i64 0] 25 (0, 0)) := heap_a1 _ _
  have u_k := (hbx.block _ (Array.getElem?_eq_some_iff.1 x_k).1).trans x_k
  have f_x0 := blkC u_k 0 rfl
  have f_x1 := blkC u_k 1 rfl
  have f_x2 := blkC u_k 2 rfl
  clear u_k
  have u_k := (hbx.block _ (Array.getElem?_eq_some_iff.1 y_k).1).trans y_k
  have f_y0 := blkC u_k 0 rfl
  have f_y1 := blkC u_k 1 rfl
  have f_y2 := blkC u_k 2 rfl
  clear u_k
  go_wp2_with fail
  clear f_x0 f_x1 f_x2 f_y0 f_y1 f_y2
  generalize (y12.alloc (.cells #[.bool false, .slice none 0 0, .int .i64 0] 25)) = x13 at hbx r_k ⊢
  have Z14 : Hid (y12.heap.size ≤ x13.heap.size) := hbx.size
  have a_k := (hbx.block _ (Array.getElem?_eq_some_iff.1 a_k).1).trans a_k
  have b_k := (hbx.block _ (Array.getElem?_eq_some_iff.1 b_k).1).trans b_k
  have x_k := (hbx.block _ (Array.getElem?_eq_some_iff.1 x_k).1).trans x_k
  have y_k := (hbx.block _ (Array.getElem?_eq_some_iff.1 y_k).1).trans y_k
  have p_k := (hbx.block _ (Array.getElem?_eq_some_iff.1 p_k).1).trans p_k
  have q_k := (hbx.block _ (Array.getElem?_eq_some_iff.1 q_k).1).trans q_k
  have c_O : Hid (Out x1.heap.size x13 (.slice (some ⟨c_b, 0, none⟩) (a_n + 3) c_c) (a_n + 3) (lentD a_d a_n)) := c_O.out.stays hbx
  have d_O : Hid (Out x3.heap.size x13 (.slice (some ⟨d_b, 0, none⟩) (b_n + 3) d_c) (b_n + 3) (lentD b_d b_n)) := d_O.out.stays hbx
  have FR : Hid (Fr w x13) := FR.out.trans (Fr.of hbx)
  have HB : Hid (Below w0.heap.size w0 x13) := HB.out.trans ((hbx).mono HB.out.size)
  have HK : Hid (Kept w0.heap.size x13 k (fun g => g < w.heap.size)) := HK.out.keeps hbx
  clear hbx
  refine (dcmp_any ⟨a_g, some ⟨c_b, 0, none⟩, a_n, c_c, a_d, a_e⟩ ⟨b_g, some ⟨d_b, 0, none⟩, b_n, d_c, b_d, b_e⟩ _ (lent_row c_O.out) (lent_row d_O.out)).mono ?_
  rintro _ y14 ⟨rfl, hw⟩
  rw [show (okR ⟨a_g, some ⟨c_b, 0, none⟩, a_n, c_c, a_d, a_e⟩ && okR ⟨b_g, some ⟨d_b, 0, none⟩, b_n, d_c, b_d, b_e⟩) = false from HOK.out]
  have Z15 : Hid (x13.heap.size ≤ y14.heap.size) := hw.size
  have a_k := (hw.block _ (Array.getElem?_eq_some_iff.1 a_k).1).trans a_k
  have b_k := (hw.block _ (Array.getElem?_eq_some_iff.1 b_k).1).trans b_k
  have x_k := (hw.block _ (Array.getElem?_eq_some_iff.1 x_k).1).trans x_k
  have y_k := (hw.block _ (Array.getElem?_eq_some_iff.1 y_k).1).trans y_k
  have p_k := (hw.block _ (Array.getElem?_eq_some_iff.1 p_k).1).trans p_k
  have q_k := (hw.block _ (Array.getElem?_eq_some_iff.1 q_k).1).trans q_k
  have r_k := (hw.block _ (Array.getElem?_eq_some_iff.1 r_k).1).trans r_k
  have c_O : Hid (Out x1.heap.size y14 (.slice (some ⟨c_b, 0, none⟩) (a_n + 3) c_c) (a_n + 3) (lentD a_d a_n)) := c_O.out.stays hw
  have d_O : Hid (Out x3.heap.size y14 (.slice (some ⟨d_b, 0, none⟩) (b_n + 3) d_c) (b_n + 3) (lentD b_d b_n)) := d_O.out.stays hw
  have FR : Hid (Fr w y14) := FR.out.trans (Fr.of hw)
  have HB : Hid (Below w0.heap.size w0 y14) := HB.out.trans ((hw).mono HB.out.size)
  have HK : Hid (Kept w0.heap.size y14 k (fun g => g < w.heap.size)) := HK.out.keeps hw
  clear hw
  have f_a0 := blkC a_k 0 rfl
  have f_a1 := blkC a_k 1 rfl
  have f_a2 := blkC a_k 2 rfl
  go_wp2_with fail
  clear f_a0 f_a1 f_a2
  refine (back_any c_O.out (RowX.of0 HA.out HB.out (by have h1 := c_L.out; have HS0q := HS0.out; have Z2q := Z2.out; have Z3q := Z3.out; have Z4q := Z4.out; have Z5q := Z5.out; have Z6q := Z6.out; have Z7q := Z7.out; have Z8q := Z8.out; have Z9q := Z9.out; have Z10q := Z10.out; have Z11q := Z11.out; have Z12q := Z12.out; have Z13q := Z13.out; have Z14q := Z14.out; have Z15q := Z15.out; omega)) (HA.out.keeps HB.out) (by omega)).mono ?_
  rintro _ y15 ⟨rfl, hw⟩
  have Z16 : Hid (y14.heap.size ≤ y15.heap.size) := hw.size
  obtain ⟨t_cur, t_z, t_t⟩ := c_O.out.typed (g := c_b) rfl
  have a_k := numblk_wr hw t_t (by decide) a_k
  have b_k := numblk_wr hw t_t (by decide) b_k
  have x_k := numblk_wr hw t_t (by decide) x_k
  have y_k := numblk_wr hw t_t (by decide) y_k
  have p_k := numblk_wr hw t_t (by decide) p_k
  have q_k := numblk_wr hw t_t (by decide) q_k
  have r_k := numblk_wr hw t_t (by decide) r_k
  have d_O : Hid (Out x3.heap.size y15 (.slice (some ⟨d_b, 0, none⟩) (b_n + 3) d_c) (b_n + 3) (lentD b_d b_n)) := d_O.out.of_block fun g hg => by
      have e : d_b = g := by simpa [Value.ownBlock] using hg
      refine hw.block g (d_O.out.ge hg).2 ?_
      have h1 := d_L.out; have h2 := c_L.out; have HS0q := HS0.out; have Z2q := Z2.out; have Z3q := Z3.out; have Z4q := Z4.out; have Z5q := Z5.out; have Z6q := Z6.out; have Z7q := Z7.out; have Z8q := Z8.out; have Z9q := Z9.out; have Z10q := Z10.out; have Z11q := Z11.out; have Z12q := Z12.out; have Z13q := Z13.out; have Z14q := Z14.out; have Z15q := Z15.out; omega
  have FR : Hid (Fr w y15) := FR.out.wr hw (by have h1 := c_L.out; have HS0q := HS0.out; have Z2q := Z2.out; have Z3q := Z3.out; have Z4q := Z4.out; have Z5q := Z5.out; have Z6q := Z6.out; have Z7q := Z7.out; have Z8q := Z8.out; have Z9q := Z9.out; have Z10q := Z10.out; have Z11q := Z11.out; have Z12q := Z12.out; have Z13q := Z13.out; have Z14q := Z14.out; have Z15q := Z15.out; omega) (by have HS0q := HS0.out; have Z2q := Z2.out; have Z3q := Z3.out; have Z4q := Z4.out; have Z5q := Z5.out; have Z6q := Z6.out; have Z7q := Z7.out; have Z8q := Z8.out; have Z9q := Z9.out; have Z10q := Z10.out; have Z11q := Z11.out; have Z12q := Z12.out; have Z13q := Z13.out; have Z14q := Z14.out; have Z15q := Z15.out; omega)
  have HB : Hid (Below w0.heap.size w0 y15) := hw.below HB.out HB.out.size (by have h1 := c_L.out; have h0 := HS0.out; have HS0q := HS0.out; have Z2q := Z2.out; have Z3q := Z3.out; have Z4q := Z4.out; have Z5q := Z5.out; have Z6q := Z6.out; have Z7q := Z7.out; have Z8q := Z8.out; have Z9q := Z9.out; have Z10q := Z10.out; have Z11q := Z11.out; have Z12q := Z12.out; have Z13q := Z13.out; have Z14q := Z14.out; have Z15q := Z15.out; omega)
  have HK : Hid (Kept w0.heap.size y15 k (fun g => g < w.heap.size)) := HK.out.wr hw (fun (h : c_b < w.heap.size) => by have h1 := c_L.out; have HS0q := HS0.out; have Z2q := Z2.out; have Z3q := Z3.out; have Z4q := Z4.out; have Z5q := Z5.out; have Z6q := Z6.out; have Z7q := Z7.out; have Z8q := Z8.out; have Z9q := Z9.out; have Z10q := Z10.out; have Z11q := Z11.out; have Z12q := Z12.out; have Z13q := Z13.out; have Z14q := Z14.out; have Z15q := Z15.out; omega) t_t
  clear hw t_t
  have f_b0 := blkC b_k 0 rfl
  have f_b1 := blkC b_k 1 rfl
  have f_b2 := blkC b_k 2 rfl
  go_wp2_with fail
  clear f_b0 f_b1 f_b2
  refine (back_any d_O.out (RowX.of0 HRB.out HB.out (by have h1 := d_L.out; have HS0q := HS0.out; have Z2q := Z2.out; have Z3q := Z3.out; have Z4q := Z4.out; have Z5q := Z5.out; have Z6q := Z6.out; have Z7q := Z7.out; have Z8q := Z8.out; have Z9q := Z9.out; have Z10q := Z10.out; have Z11q := Z11.out; have Z12q := Z12.out; have Z13q := Z13.out; have Z14q := Z14.out; have Z15q := Z15.out; have Z16q := Z16.out; omega)) (HRB.out.keeps HB.out) (by omega)).mono ?_
  rintro _ y16 ⟨rfl, hw⟩
  have Z17 : Hid (y15.heap.size ≤ y16.heap.size) := hw.size
  obtain ⟨t_cur, t_z, t_t⟩ := d_O.out.typed (g := d_b) rfl
  have a_k := numblk_wr hw t_t (by decide) a_k
  have b_k := numblk_wr hw t_t (by decide) b_k
  have x_k := numblk_wr hw t_t (by decide) x_k
  have y_k := numblk_wr hw t_t (by decide) y_k
  have p_k := numblk_wr hw t_t (by decide) p_k
  have q_k := numblk_wr hw t_t (by decide) q_k
  have r_k := numblk_wr hw t_t (by decide) r_k
  have FR : Hid (Fr w y16) := FR.out.wr hw (by have h1 := d_L.out; have HS0q := HS0.out; have Z2q := Z2.out; have Z3q := Z3.out; have Z4q := Z4.out; have Z5q := Z5.out; have Z6q := Z6.out; have Z7q := Z7.out; have Z8q := Z8.out; have Z9q := Z9.out; have Z10q := Z10.out; have Z11q := Z11.out; have Z12q := Z12.out; have Z13q := Z13.out; have Z14q := Z14.out; have Z15q := Z15.out; have Z16q := Z16.out; omega) (by have HS0q := HS0.out; have Z2q := Z2.out; have Z3q := Z3.out; have Z4q := Z4.out; have Z5q := Z5.out; have Z6q := Z6.out; have Z7q := Z7.out; have Z8q := Z8.out; have Z9q := Z9.out; have Z10q := Z10.out; have Z11q := Z11.out; have Z12q := Z12.out; have Z13q := Z13.out; have Z14q := Z14.out; have Z15q := Z15.out; have Z16q := Z16.out; omega)
  have HB : Hid (Below w0.heap.size w0 y16) := hw.below HB.out HB.out.size (by have h1 := d_L.out; have h0 := HS0.out; have HS0q := HS0.out; have Z2q := Z2.out; have Z3q := Z3.out; have Z4q := Z4.out; have Z5q := Z5.out; have Z6q := Z6.out; have Z7q := Z7.out; have Z8q := Z8.out; have Z9q := Z9.out; have Z10q := Z10.out; have Z11q := Z11.out; have Z12q := Z12.out; have Z13q := Z13.out; have Z14q := Z14.out; have Z15q := Z15.out; have Z16q := Z16.out; omega)
  have HK : Hid (Kept w0.heap.size y16 k (fun g => g < w.heap.size)) := HK.out.wr hw (fun (h : d_b < w.heap.size) => by have h1 := d_L.out; have HS0q := HS0.out; have Z2q := Z2.out; have Z3q := Z3.out; have Z4q := Z4.out; have Z5q := Z5.out; have Z6q := Z6.out; have Z7q := Z7.out; have Z8q := Z8.out; have Z9q := Z9.out; have Z10q := Z10.out; have Z11q := Z11.out; have Z12q := Z12.out; have Z13q := Z13.out; have Z14q := Z14.out; have Z15q := Z15.out; have Z16q := Z16.out; omega) t_t
  clear hw t_t
  have f_p0 := blkC p_k 0 rfl
  have f_p1 := blkC p_k 1 rfl
  have f_p2 := blkC p_k 2 rfl
  have f_a0 := blkC a_k 0 rfl
  have f_a1 := blkC a_k 1 rfl
  have f_a2 := blkC a_k 2 rfl
  go_wp2_with fail
  clear f_p0 f_p1 f_p2 f_a0 f_a1 f_a2
  refine (is_bad _).mono ?_
  rintro _ y17 ⟨rfl, hw⟩
  have Z18 : Hid (y16.heap.size ≤ y17.heap.size) := hw.size
  have a_k := (hw.block _ (Array.getElem?_eq_some_iff.1 a_k).1).trans a_k
  have b_k := (hw.block _ (Array.getElem?_eq_some_iff.1 b_k).1).trans b_k
  have x_k := (hw.block _ (Array.getElem?_eq_some_iff.1 x_k).1).trans x_k
  have y_k := (hw.block _ (Array.getElem?_eq_some_iff.1 y_k).1).trans y_k
  have p_k := (hw.block _ (Array.getElem?_eq_some_iff.1 p_k).1).trans p_k
  have q_k := (hw.block _ (Array.getElem?_eq_some_iff.1 q_k).1).trans q_k
  have r_k := (hw.block _ (Array.getElem?_eq_some_iff.1 r_k).1).trans r_k
  have FR : Hid (Fr w y17) := FR.out.trans (Fr.of hw)
  have HB : Hid (Below w0.heap.size w0 y17) := HB.out.trans ((hw).mono HB.out.size)
  have HK : Hid (Kept w0.heap.size y17 k (fun g => g < w.heap.size)) := HK.out.keeps hw
  clear hw
  have f_q0 := blkC q_k 0 rfl
  have f_q1 := blkC q_k 1 rfl
  have f_q2 := blkC q_k 2 rfl
  have f_a0 := blkC a_k 0 rfl
  have f_a1 := blkC a_k 1 rfl
  have f_a2 := blkC a_k 2 rfl
  go_wp2_with fail
  clear f_q0 f_q1 f_q2 f_a0 f_a1 f_a2
  refine (is_bad _).mono ?_
  rintro _ y18 ⟨rfl, hw⟩
  have Z19 : Hid (y17.heap.size ≤ y18.heap.size) := hw.size
  have a_k := (hw.block _ (Array.getElem?_eq_some_iff.1 a_k).1).trans a_k
  have b_k := (hw.block _ (Array.getElem?_eq_some_iff.1 b_k).1).trans b_k
  have x_k := (hw.block _ (Array.getElem?_eq_some_iff.1 x_k).1).trans x_k
  have y_k := (hw.block _ (Array.getElem?_eq_some_iff.1 y_k).1).trans y_k
  have p_k := (hw.block _ (Array.getElem?_eq_some_iff.1 p_k).1).trans p_k
  have q_k := (hw.block _ (Array.getElem?_eq_some_iff.1 q_k).1).trans q_k
  have r_k := (hw.block _ (Array.getElem?_eq_some_iff.1 r_k).1).trans r_k
  have FR : Hid (Fr w y18) := FR.out.trans (Fr.of hw)
  have HB : Hid (Below w0.heap.size w0 y18) := HB.out.trans ((hw).mono HB.out.size)
  have HK : Hid (Kept w0.heap.size y18 k (fun g => g < w.heap.size)) := HK.out.keeps hw
  clear hw
  have f_r0 := blkC r_k 0 rfl
  have f_r1 := blkC r_k 1 rfl
  have f_r2 := blkC r_k 2 rfl
  have f_a0 := blkC a_k 0 rfl
  have f_a1 := blkC a_k 1 rfl
  have f_a2 := blkC a_k 2 rfl
  go_wp2_with fail
  clear f_r0 f_r1 f_r2 f_a0 f_a1 f_a2
  refine (is_bad _).mono ?_
  rintro _ y19 ⟨rfl, hw⟩
  have Z20 : Hid (y18.heap.size ≤ y19.heap.size) := hw.size
  have a_k := (hw.block _ (Array.getElem?_eq_some_iff.1 a_k).1).trans a_k
  have b_k := (hw.block _ (Array.getElem?_eq_some_iff.1 b_k).1).trans b_k
  have x_k := (hw.block _ (Array.getElem?_eq_some_iff.1 x_k).1).trans x_k
  have y_k := (hw.block _ (Array.getElem?_eq_some_iff.1 y_k).1).trans y_k
  have p_k := (hw.block _ (Array.getElem?_eq_some_iff.1 p_k).1).trans p_k
  have q_k := (hw.block _ (Array.getElem?_eq_some_iff.1 q_k).1).trans q_k
  have r_k := (hw.block _ (Array.getElem?_eq_some_iff.1 r_k).1).trans r_k
  have FR : Hid (Fr w y19) := FR.out.trans (Fr.of hw)
  have HB : Hid (Below w0.heap.size w0 y19) := HB.out.trans ((hw).mono HB.out.size)
  have HK : Hid (Kept w0.heap.size y19 k (fun g => g < w.heap.size)) := HK.out.keeps hw
  clear hw
  go_wp2
  go_ret
  exact ⟨rfl, HB.out, _, HK.out, FR.out⟩
end Go.Proofs.YtnhkagiionkjaaaGreatDoor
