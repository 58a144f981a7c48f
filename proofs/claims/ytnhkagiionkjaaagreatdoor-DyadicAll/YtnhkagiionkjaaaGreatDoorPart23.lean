/-
  Parts of the proof, one behind another.
-/
import Derived.Test.YtnhkagiionkjaaaGreatDoorPart8
import Derived.Test.YtnhkagiionkjaaaGreatDoorPart22
import Derived.Test.YtnhkagiionkjaaaGreatDoorPart10
import Derived.Test.YtnhkagiionkjaaaGreatDoorPart11
import Derived.Test.YtnhkagiionkjaaaGreatDoorPart21
/-
  Package plumbref3: Float, by its contract.
-/
namespace Go.Proofs.YtnhkagiionkjaaaGreatDoor
open Go Go.RowKit Go.Proofs.YtnhkagiionkjaaaGreatDoor.M
set_option linter.unusedSimpArgs false
set_option linter.unusedVariables false

theorem int_smallD {A W : Int} {a : Nat → Int} {m : Nat} (hd : Dig a (m + 1)) (h : W * P (m + 1) + val a (m + 1) = A) (h0 : 0 ≤ W) (hA : A < 9223372036854775808) : W * 1073741824 + a m ≤ 9223372036854775807 ∧ (W * 1073741824 + a m) * P m + val a m = A := by
  have e : (W * 1073741824 + a m) * P m + val a m = A := by
    rw [← h, P_succ, val_succ]; grind
  refine ⟨?_, e⟩
  have h1 := val_nonneg (hd.le (Nat.le_succ m))
  have h2 := P_pos m
  have h3 := (hd m (by omega)).1
  have h4 : (W * 1073741824 + a m) * 1 ≤ (W * 1073741824 + a m) * P m := Int.mul_le_mul_of_nonneg_left (by omega) (by omega)
  omega
/-- What Float tells of a valid number. -/
def flB (x : NumR) : Int := if decide (blen (val x.d x.n) ≤ 63) then jp x.ng (val x.d x.n) x.e else 0
def flK (x : NumR) : Bool := decide (blen (val x.d x.n) ≤ 63) && jk 52 2047 (-1074) (val x.d x.n) x.e
theorem fl_long {x : NumR} (ok : okR x = true) (h : 2 < x.n) : flB x = 0 ∧ flK x = false := by
  have hN := (okR_sane ok).1
  have h1 := val_top hN.1 (by omega) hN.2
  have h2 := P_le (show 2 ≤ x.n - 1 by omega)
  have h3 : P 2 = 1152921504606846976 := rfl
  have ho : 0 < val x.d x.n ∧ val x.d x.n % 2 = 1 := by
    rcases (okR_dy ok).1.form with ⟨q, _⟩ | q
    · omega
    · exact q
  unfold flB flK
  by_cases hb : blen (val x.d x.n) ≤ 63
  · have hlt : val x.d x.n < 9223372036854775808 := by
      have := blen_lt (val x.d x.n)
      have h4 : (2 : Int) ^ blen (val x.d x.n) ≤ 2 ^ 63 := two_le hb
      have h5 : (2 : Int) ^ 63 = 9223372036854775808 := rfl
      omega
    have h54 : 54 ≤ blen (val x.d x.n) := by
      have h6 : (2 : Int) ^ 60 = 1152921504606846976 := rfl
      have := blen_ge (V := val x.d x.n) (k := 60) (by omega)
      omega
    have hk := j_long (e := x.e) ho.1 hlt ho.2 h54
    rw [hk]
    refine ⟨?_, by simp⟩
    rw [if_pos (by simpa using hb)]
    unfold jp
    rw [hk]
    have hg : jgood 52 2047 (-1074) (val x.d x.n) x.e = false := by
      unfold jk at hk
      rwa [if_neg (by omega), if_neg (by omega)] at hk
    simp [jv, hg]
  · simp [hb]
theorem fl_short {x : NumR} (ok : okR x = true) (h : x.n ≤ 2) : flB x = jp x.ng (val x.d x.n) x.e ∧ flK x = jk 52 2047 (-1074) (val x.d x.n) x.e ∧ 0 ≤ val x.d x.n ∧ val x.d x.n < 1152921504606846976 := by
  have hN := (okR_sane ok).1
  have h1 := val_lt hN.1
  have h2 := P_le h
  have h3 : P 2 = 1152921504606846976 := rfl
  have h0 := val_nonneg hN.1
  have hb : blen (val x.d x.n) ≤ 63 := by
    have h6 : (2 : Int) ^ 60 = 1152921504606846976 := rfl
    have := blen_le (V := val x.d x.n) (k := 60) (by omega)
    omega
  unfold flB flK
  simp [hb]
  omega
set_option maxRecDepth 100000 in
set_option maxHeartbeats 1000000 in
theorem rfloat3_any (x : NumR) (w : World) (h : Row w x.ao x.n x.cap x.d) (ok : okR x = true) :
    Calls Tryz.prog 34 #[x.v] w fun r w' => r = .returned (.tuple #[.int .i64 (flB x), .bool (flK x)]) ∧ Below w.heap.size w w' := by
  have he := (okR_dy ok).1.ok.1 (okR_dy ok).2.2
  have hN := (okR_sane ok).1
  by_cases h2 : 2 < x.n
  · obtain ⟨e1, e2⟩ := fl_long ok h2
    rw [e1, e2]
    have hm := h.max
    obtain ⟨ng, ao, n, cap, d, e⟩ := x
    unfold NumR.v
    simp only at *
    clear he hN ok e1 e2
    go_enter Tryz.func34, Tryz.ntmps34
    go_wp2
    go_ret2
    exact ⟨rfl, bel_alloc _ _⟩
  · obtain ⟨e1, e2, v0, v1⟩ := fl_short ok (by omega)
    rw [e1, e2]
    have hJ := fun W => refJoin x.ng (val x.d x.n) x.e W (by unfold rng; omega) (by unfold rng; omega)
    have hm := h.max
    have hl := h.le
    obtain ⟨ng, ao, n, cap, d, e⟩ := x
    unfold NumR.v
    simp only at *
    clear he ok e1 e2
    have HR : Hid (Row (w.alloc (.cells #[.bool ng, .slice ao n cap, .int .i64 e] 25)) ao n cap d) := h.keeps (bel_alloc _ _)
    have HN : Hid (Nrm d n) := hN
    have HV1 : Hid (val d n < 9223372036854775808) := by unfold Hid; omega
    clear v1 h hN
    generalize hjp : jp ng (val d n) e = J at hJ ⊢
    generalize hjk : jk 52 2047 (-1074) (val d n) e = K at hJ ⊢
    clear hjp hjk
    go_enter Tryz.func34, Tryz.ntmps34
    go_wp2
    go_loop [4, 5] (fun wv iv => ∃ (j : Nat) (W : Int), j ≤ n ∧ iv = .int .i64 ((j : Int) - 1) ∧ wv = .int .i64 W ∧ 0 ≤ W ∧ Hid (W * P j + val d j = val d n)) (fun _ iv => (intOf iv + 1).toNat)
    case atStart => exact ⟨n, 0, Nat.le_refl _, rfl, rfl, by omega, by show _ = _; omega⟩
    case round =>
      obtain ⟨j, W, hj, rfl, rfl, hW0, HW⟩ := hrel
      by_cases hj0 : 0 < j
      · obtain ⟨m, rfl⟩ : ∃ m, j = m + 1 := ⟨j - 1, by omega⟩
        have em : ((m + 1 : Nat) : Int) - 1 = m := by omega
        obtain ⟨hb1, hb2⟩ := int_smallD (HN.out.1.le hj) HW.out hW0 HV1.out
        have HB2' : Hid ((W * 1073741824 + d m) * P m + val d m = val d n) := hb2
        obtain ⟨ba, fa, hba, hblt, hca⟩ := HR.out.spot (by omega)
        subst hba
        have c1 := hca m (by omega)
        have dm := HN.out.1 m (by omega)
        rw [em]
        clear hb2 hca
        go_wp2
        go_round
        case rel => exact ⟨m, W * 1073741824 + d m, by omega, rfl, rfl, by omega, HB2'.out⟩
        case measure => simp [intOf]; try omega
      · obtain rfl : j = 0 := by omega
        obtain rfl : W = val d n := by
          have h := HW.out
          rw [show P 0 = 1 from rfl, show val d 0 = 0 from rfl] at h
          omega
        go_wp2_with fail
        refine (hJ _).mono ?_
        rintro r w1 ⟨rfl, rfl⟩
        go_wp2
        go_ret2
        exact ⟨rfl, bel_alloc _ _⟩
end Go.Proofs.YtnhkagiionkjaaaGreatDoor

/-
  plumblaw3.ones: the calls with one number: it answers true, what it keeps is kept, and it turns nothing that was there ahead of the law.
-/
namespace Go.Proofs.YtnhkagiionkjaaaGreatDoor
open Go Go.RowKit Go.Proofs.YtnhkagiionkjaaaGreatDoor.M
set_option linter.unusedSimpArgs false
set_option linter.unusedVariables false

set_option maxRecDepth 100000 in
set_option maxHeartbeats 8000000 in
theorem ones_bad {w0 : World} (a : NumR) (ra : Row w0 a.ao a.n a.cap a.d) (hn : a.n ≤ 2100) (he : rng a.e) (i : Int) (hi : rng i) (w : World) (hb0 : Below w0.heap.size w0 w) {k : Nat} {S : Nat → Prop} (hk : Kept w0.heap.size w k S) (hT : Tab w0) (L : Lay64 w0) (ok : okR a = false) :
    Calls Tryz.prog 7 #[.pointer (some ⟨k, 0, none⟩), a.v, .int .i64 i] w fun e w' => e = .returned (.bool true) ∧ Below w0.heap.size w0 w' ∧ ∃ S', Kept w0.heap.size w' k S' ∧ Fr w w' := by
  have HT : Hid (∀ W, Below w0.heap.size w0 W → Tab W) := fun W hb => hT.keeps hb
  have HL : Hid (∀ W, Below w0.heap.size w0 W → Lay64 W) := fun W hb => L.keeps hb
  clear hT L
  have CL : Hid (∀ W, Below w0.heap.size w0 W → _) := fun W hb => lent3_any a W (ra.keeps hb) (by omega)
  have CV : Hid (∀ W, Below w0.heap.size w0 W → _) := fun W hb => rvalid3_any a W (ra.keeps hb)
  have HA : Hid (Row w0 a.ao a.n a.cap a.d) := ra
  have HOK : Hid (okR a = false) := ok
  have hla := ra.le
  have hma := ra.max
  clear ra ok
  unfold NumR.v at *
  obtain ⟨a_g, a_o, a_n, a_c, a_d, a_e⟩ := a
  simp only at hn he hla hma CL CV HA HOK ⊢
  have HS0 : Hid (w0.heap.size ≤ w.heap.size) := hb0.size
  have HB : Hid (Below w0.heap.size w0 w) := hb0
  have HK : Hid (Kept w0.heap.size w k (fun g => g < w.heap.size)) := hk.old
  have FR : Hid (Fr w w) := Fr.of (bel_refl w)
  clear hb0 hk
  go_enter Tryz.func7, Tryz.ntmps7
  have hbx : Below w.heap.size w (w.alloc (.cells #[.bool a_g, .slice a_o a_n a_c, .int .i64 a_e] 25)) := bel_alloc _ _
  have a_k : (w.alloc (.cells #[.bool a_g, .slice a_o a_n a_c, .int .i64 a_e] 25)).heap[w.heap.size]? = some (.cells #[.bool a_g, .slice a_o a_n a_c, .int .i64 a_e] 25 (0, 0)) := heap_a1 _ _
  go_wp2_with fail
  generalize (w.alloc (.cells #[.bool a_g, .slice a_o a_n a_c, .int .i64 a_e] 25)) = x1 at hbx a_k ⊢
  have Z2 : Hid (w.heap.size ≤ x1.heap.size) := hbx.size
  have FR : Hid (Fr w x1) := FR.out.trans (Fr.of hbx)
  have HB : Hid (Below w0.heap.size w0 x1) := HB.out.trans ((hbx).mono HB.out.size)
  have HK : Hid (Kept w0.heap.size x1 k (fun g => g < w.heap.size)) := HK.out.keeps hbx
  clear hbx
  refine (CL.out _ HB.out).mono ?_
  rintro _ y2 ⟨c_b, c_c, rfl, c_O', hw⟩
  have Z3 : Hid (x1.heap.size ≤ y2.heap.size) := hw.size
  have a_k := (hw.block _ (Array.getElem?_eq_some_iff.1 a_k).1).trans a_k
  have FR : Hid (Fr w y2) := FR.out.trans (Fr.of hw)
  have HB : Hid (Below w0.heap.size w0 y2) := HB.out.trans ((hw).mono HB.out.size)
  have HK : Hid (Kept w0.heap.size y2 k (fun g => g < w.heap.size)) := HK.out.keeps hw
  have c_O : Hid (Out x1.heap.size y2 (.slice (some ⟨c_b, 0, none⟩) (a_n + 3) c_c) (a_n + 3) (lentD a_d a_n)) := c_O'
  have c_L : Hid (x1.heap.size ≤ c_b ∧ c_b < y2.heap.size) := c_O.out.ge rfl
  have c_M := lent_cap c_O.out
  clear c_O' hw
  have x_R := lent_row c_O.out
  have hbx : Below y2.heap.size y2 (y2.alloc (.cells #[.bool a_g, .slice (some ⟨c_b, 0, none⟩) a_n c_c, .int .i64 a_e] 25)) := bel_alloc _ _
  have x_k : (y2.alloc (.cells #[.bool a_g, .slice (some ⟨c_b, 0, none⟩) a_n c_c, .int .i64 a_e] 25)).heap[y2.heap.size]? = some (.cells #[.bool a_g, .slice (some ⟨c_b, 0, none⟩) a_n c_c, .int .i64 a_e] 25 (0, 0)) := heap_a1 _ _
  have u_k := (hbx.block _ (Array.getElem?_eq_some_iff.1 a_k).1).trans a_k
  have f_a0 := blkC u_k 0 rfl
  have f_a1 := blkC u_k 1 rfl
  have f_a2 := blkC u_k 2 rfl
  clear u_k
  go_wp2_with fail
  clear f_a0 f_a1 f_a2
  generalize (y2.alloc (.cells #[.bool a_g, .slice (some ⟨c_b, 0, none⟩) a_n c_c, .int .i64 a_e] 25)) = x3 at hbx x_k ⊢
  have Z4 : Hid (y2.heap.size ≤ x3.heap.size) := hbx.size
  have a_k := (hbx.block _ (Array.getElem?_eq_some_iff.1 a_k).1).trans a_k
  have c_O : Hid (Out x1.heap.size x3 (.slice (some ⟨c_b, 0, none⟩) (a_n + 3) c_c) (a_n + 3) (lentD a_d a_n)) := c_O.out.stays hbx
  have FR : Hid (Fr w x3) := FR.out.trans (Fr.of hbx)
  have HB : Hid (Below w0.heap.size w0 x3) := HB.out.trans ((hbx).mono HB.out.size)
  have HK : Hid (Kept w0.heap.size x3 k (fun g => g < w.heap.size)) := HK.out.keeps hbx
  clear hbx
  refine (CV.out _ HB.out).mono ?_
  rintro _ y4 ⟨rfl, hw⟩
  rw [HOK.out]
  have Z5 : Hid (x3.heap.size ≤ y4.heap.size) := hw.size
  have a_k := (hw.block _ (Array.getElem?_eq_some_iff.1 a_k).1).trans a_k
  have x_k := (hw.block _ (Array.getElem?_eq_some_iff.1 x_k).1).trans x_k
  have c_O : Hid (Out x1.heap.size y4 (.slice (some ⟨c_b, 0, none⟩) (a_n + 3) c_c) (a_n + 3) (lentD a_d a_n)) := c_O.out.stays hw
  have FR : Hid (Fr w y4) := FR.out.trans (Fr.of hw)
  have HB : Hid (Below w0.heap.size w0 y4) := HB.out.trans ((hw).mono HB.out.size)
  have HK : Hid (Kept w0.heap.size y4 k (fun g => g < w.heap.size)) := HK.out.keeps hw
  clear hw x_R
  have f_x0 := blkC x_k 0 rfl
  have f_x1 := blkC x_k 1 rfl
  have f_x2 := blkC x_k 2 rfl
  go_wp2_with fail
  clear f_x0 f_x1 f_x2
  refine (dneg_bad ⟨a_g, some ⟨c_b, 0, none⟩, a_n, c_c, a_d, a_e⟩ _ (lent_row c_O.out) HOK.out).mono ?_
  rintro _ y5 ⟨rfl, hw⟩
  have Z6 : Hid (y4.heap.size ≤ y5.heap.size) := hw.size
  have a_k := (hw.block _ (Array.getElem?_eq_some_iff.1 a_k).1).trans a_k
  have x_k := (hw.block _ (Array.getElem?_eq_some_iff.1 x_k).1).trans x_k
  have c_O : Hid (Out x1.heap.size y5 (.slice (some ⟨c_b, 0, none⟩) (a_n + 3) c_c) (a_n + 3) (lentD a_d a_n)) := c_O.out.stays hw
  have FR : Hid (Fr w y5) := FR.out.trans (Fr.of hw)
  have HB : Hid (Below w0.heap.size w0 y5) := HB.out.trans ((hw).mono HB.out.size)
  have HK : Hid (Kept w0.heap.size y5 k (fun g => g < w.heap.size)) := HK.out.keeps hw
  clear hw
  unfold zeroV
  have hbx : Below y5.heap.size y5 (y5.alloc (.cells #[.bool false, .slice none 0 0, .int .i64 0] 25)) := bel_alloc _ _
  have p_k : (y5.alloc (.cells #[.bool false, .slice none 0 0, .int .i64 0] 25)).heap[y5.heap.size]? = some (.cells #[.bool false, .slice none 0 0, .int .i64 0] 25 (0, 0)) := heap_a1 _ _
  have u_k := (hbx.block _ (Array.getElem?_eq_some_iff.1 x_k).1).trans x_k
  have f_x0 := blkC u_k 0 rfl
  have f_x1 := blkC u_k 1 rfl
  have f_x2 := blkC u_k 2 rfl
  clear u_k
  go_wp2_with fail
  clear f_x0 f_x1 f_x2
  generalize (y5.alloc (.cells #[.bool false, .slice none 0 0, .int .i64 0] 25)) = x6 at hbx p_k ⊢
  have Z7 : Hid (y5.heap.size ≤ x6.heap.size) := hbx.size
  have a_k := (hbx.block _ (Array.getElem?_eq_some_iff.1 a_k).1).trans a_k
  have x_k := (hbx.block _ (Array.getElem?_eq_some_iff.1 x_k).1).trans x_k
  have c_O : Hid (Out x1.heap.size x6 (.slice (some ⟨c_b, 0, none⟩) (a_n + 3) c_c) (a_n + 3) (lentD a_d a_n)) := c_O.out.stays hbx
  have FR : Hid (Fr w x6) := FR.out.trans (Fr.of hbx)
  have HB : Hid (Below w0.heap.size w0 x6) := HB.out.trans ((hbx).mono HB.out.size)
  have HK : Hid (Kept w0.heap.size x6 k (fun g => g < w.heap.size)) := HK.out.keeps hbx
  clear hbx
  refine (dabs_bad ⟨a_g, some ⟨c_b, 0, none⟩, a_n, c_c, a_d, a_e⟩ _ (lent_row c_O.out) HOK.out).mono ?_
  rintro _ y7 ⟨rfl, hw⟩
  have Z8 : Hid (x6.heap.size ≤ y7.heap.size) := hw.size
  have a_k := (hw.block _ (Array.getElem?_eq_some_iff.1 a_k).1).trans a_k
  have x_k := (hw.block _ (Array.getElem?_eq_some_iff.1 x_k).1).trans x_k
  have p_k := (hw.block _ (Array.getElem?_eq_some_iff.1 p_k).1).trans p_k
  have c_O : Hid (Out x1.heap.size y7 (.slice (some ⟨c_b, 0, none⟩) (a_n + 3) c_c) (a_n + 3) (lentD a_d a_n)) := c_O.out.stays hw
  have FR : Hid (Fr w y7) := FR.out.trans (Fr.of hw)
  have HB : Hid (Below w0.heap.size w0 y7) := HB.out.trans ((hw).mono HB.out.size)
  have HK : Hid (Kept w0.heap.size y7 k (fun g => g < w.heap.size)) := HK.out.keeps hw
  clear hw
  unfold zeroV
  have hbx : Below y7.heap.size y7 (y7.alloc (.cells #[.bool false, .slice none 0 0, .int .i64 0] 25)) := bel_alloc _ _
  have q_k : (y7.alloc (.cells #[.bool false, .slice none 0 0, .int .i64 0] 25)).heap[y7.heap.size]? = some (.cells #[.bool false, .slice none 0 0, .int .i64 0] 25 (0, 0)) := heap_a1 _ _
  have u_k := (hbx.block _ (Array.getElem?_eq_some_iff.1 x_k).1).trans x_k
  have f_x0 := blkC u_k 0 rfl
  have f_x1 := blkC u_k 1 rfl
  have f_x2 := blkC u_k 2 rfl
  clear u_k
  go_wp2_with fail
  clear f_x0 f_x1 f_x2
  generalize (y7.alloc (.cells #[.bool false, .slice none 0 0, .int .i64 0] 25)) = x8 at hbx q_k ⊢
  have Z9 : Hid (y7.heap.size ≤ x8.heap.size) := hbx.size
  have a_k := (hbx.block _ (Array.getElem?_eq_some_iff.1 a_k).1).trans a_k
  have x_k := (hbx.block _ (Array.getElem?_eq_some_iff.1 x_k).1).trans x_k
  have p_k := (hbx.block _ (Array.getElem?_eq_some_iff.1 p_k).1).trans p_k
  have c_O : Hid (Out x1.heap.size x8 (.slice (some ⟨c_b, 0, none⟩) (a_n + 3) c_c) (a_n + 3) (lentD a_d a_n)) := c_O.out.stays hbx
  have FR : Hid (Fr w x8) := FR.out.trans (Fr.of hbx)
  have HB : Hid (Below w0.heap.size w0 x8) := HB.out.trans ((hbx).mono HB.out.size)
  have HK : Hid (Kept w0.heap.size x8 k (fun g => g < w.heap.size)) := HK.out.keeps hbx
  clear hbx
  refine (dsignF_any ⟨a_g, some ⟨c_b, 0, none⟩, a_n, c_c, a_d, a_e⟩ _ (lent_row c_O.out)).mono ?_
  rintro _ y9 ⟨rfl, hw⟩
  rw [show okR ⟨a_g, some ⟨c_b, 0, none⟩, a_n, c_c, a_d, a_e⟩ = false from HOK.out]
  have Z10 : Hid (x8.heap.size ≤ y9.heap.size) := hw.size
  have a_k := (hw.block _ (Array.getElem?_eq_some_iff.1 a_k).1).trans a_k
  have x_k := (hw.block _ (Array.getElem?_eq_some_iff.1 x_k).1).trans x_k
  have p_k := (hw.block _ (Array.getElem?_eq_some_iff.1 p_k).1).trans p_k
  have q_k := (hw.block _ (Array.getElem?_eq_some_iff.1 q_k).1).trans q_k
  have c_O : Hid (Out x1.heap.size y9 (.slice (some ⟨c_b, 0, none⟩) (a_n + 3) c_c) (a_n + 3) (lentD a_d a_n)) := c_O.out.stays hw
  have FR : Hid (Fr w y9) := FR.out.trans (Fr.of hw)
  have HB : Hid (Below w0.heap.size w0 y9) := HB.out.trans ((hw).mono HB.out.size)
  have HK : Hid (Kept w0.heap.size y9 k (fun g => g < w.heap.size)) := HK.out.keeps hw
  clear hw
  have f_x0 := blkC x_k 0 rfl
  have f_x1 := blkC x_k 1 rfl
  have f_x2 := blkC x_k 2 rfl
  go_wp2_with fail
  clear f_x0 f_x1 f_x2
  refine (dfloat_any ⟨a_g, some ⟨c_b, 0, none⟩, a_n, c_c, a_d, a_e⟩ _ (lent_row c_O.out) (HL.out _ HB.out) (HT.out _ HB.out) he).mono ?_
  rintro _ y10 ⟨rfl, hw⟩
  rw [show okR ⟨a_g, some ⟨c_b, 0, none⟩, a_n, c_c, a_d, a_e⟩ = false from HOK.out]
  have Z11 : Hid (y9.heap.size ≤ y10.heap.size) := hw.size
  have a_k := (hw.block _ (Array.getElem?_eq_some_iff.1 a_k).1).trans a_k
  have x_k := (hw.block _ (Array.getElem?_eq_some_iff.1 x_k).1).trans x_k
  have p_k := (hw.block _ (Array.getElem?_eq_some_iff.1 p_k).1).trans p_k
  have q_k := (hw.block _ (Array.getElem?_eq_some_iff.1 q_k).1).trans q_k
  have c_O : Hid (Out x1.heap.size y10 (.slice (some ⟨c_b, 0, none⟩) (a_n + 3) c_c) (a_n + 3) (lentD a_d a_n)) := c_O.out.stays hw
  have FR : Hid (Fr w y10) := FR.out.trans (Fr.of hw)
  have HB : Hid (Below w0.heap.size w0 y10) := HB.out.trans ((hw).mono HB.out.size)
  have HK : Hid (Kept w0.heap.size y10 k (fun g => g < w.heap.size)) := HK.out.keeps hw
  clear hw
  have f_x0 := blkC x_k 0 rfl
  have f_x1 := blkC x_k 1 rfl
  have f_x2 := blkC x_k 2 rfl
  go_wp2_with fail
  clear f_x0 f_x1 f_x2
  refine (dscale_bad ⟨a_g, some ⟨c_b, 0, none⟩, a_n, c_c, a_d, a_e⟩ _ (lent_row c_O.out) i HOK.out).mono ?_
  rintro _ y11 ⟨rfl, hw⟩
  have Z12 : Hid (y10.heap.size ≤ y11.heap.size) := hw.size
  have a_k := (hw.block _ (Array.getElem?_eq_some_iff.1 a_k).1).trans a_k
  have x_k := (hw.block _ (Array.getElem?_eq_some_iff.1 x_k).1).trans x_k
  have p_k := (hw.block _ (Array.getElem?_eq_some_iff.1 p_k).1).trans p_k
  have q_k := (hw.block _ (Array.getElem?_eq_some_iff.1 q_k).1).trans q_k
  have c_O : Hid (Out x1.heap.size y11 (.slice (some ⟨c_b, 0, none⟩) (a_n + 3) c_c) (a_n + 3) (lentD a_d a_n)) := c_O.out.stays hw
  have FR : Hid (Fr w y11) := FR.out.trans (Fr.of hw)
  have HB : Hid (Below w0.heap.size w0 y11) := HB.out.trans ((hw).mono HB.out.size)
  have HK : Hid (Kept w0.heap.size y11 k (fun g => g < w.heap.size)) := HK.out.keeps hw
  clear hw
  unfold zeroV
  have hbx : Below y11.heap.size y11 (y11.alloc (.cells #[.bool false, .slice none 0 0, .int .i64 0] 25)) := bel_alloc _ _
  have r_k : (y11.alloc (.cells #[.bool false, .slice none 0 0, .int .i64 0] 25)).heap[y11.heap.size]? = some (.cells #[.bool false, .slice none 0 0, .int .i64 0] 25 (0, 0)) := heap_a1 _ _
  have u_k := (hbx.block _ (Array.getElem?_eq_some_iff.1 x_k).1).trans x_k
  have f_x0 := blkC u_k 0 rfl
  have f_x1 := blkC u_k 1 rfl
  have f_x2 := blkC u_k 2 rfl
  clear u_k
  go_wp2_with fail
  clear f_x0 f_x1 f_x2
  generalize (y11.alloc (.cells #[.bool false, .slice none 0 0, .int .i64 0] 25)) = x12 at hbx r_k ⊢
  have Z13 : Hid (y11.heap.size ≤ x12.heap.size) := hbx.size
  have a_k := (hbx.block _ (Array.getElem?_eq_some_iff.1 a_k).1).trans a_k
  have x_k := (hbx.block _ (Array.getElem?_eq_some_iff.1 x_k).1).trans x_k
  have p_k := (hbx.block _ (Array.getElem?_eq_some_iff.1 p_k).1).trans p_k
  have q_k := (hbx.block _ (Array.getElem?_eq_some_iff.1 q_k).1).trans q_k
  have c_O : Hid (Out x1.heap.size x12 (.slice (some ⟨c_b, 0, none⟩) (a_n + 3) c_c) (a_n + 3) (lentD a_d a_n)) := c_O.out.stays hbx
  have FR : Hid (Fr w x12) := FR.out.trans (Fr.of hbx)
  have HB : Hid (Below w0.heap.size w0 x12) := HB.out.trans ((hbx).mono HB.out.size)
  have HK : Hid (Kept w0.heap.size x12 k (fun g => g < w.heap.size)) := HK.out.keeps hbx
  clear hbx
  refine (dvalid_any a_g (some ⟨c_b, 0, none⟩) a_n c_c a_d a_e _ (lent_row c_O.out)).mono ?_
  rintro _ y13 ⟨rfl, hw⟩
  rw [show okN a_g a_d a_n a_e = false from HOK.out]
  have Z14 : Hid (x12.heap.size ≤ y13.heap.size) := hw.size
  have a_k := (hw.block _ (Array.getElem?_eq_some_iff.1 a_k).1).trans a_k
  have x_k := (hw.block _ (Array.getElem?_eq_some_iff.1 x_k).1).trans x_k
  have p_k := (hw.block _ (Array.getElem?_eq_some_iff.1 p_k).1).trans p_k
  have q_k := (hw.block _ (Array.getElem?_eq_some_iff.1 q_k).1).trans q_k
  have r_k := (hw.block _ (Array.getElem?_eq_some_iff.1 r_k).1).trans r_k
  have c_O : Hid (Out x1.heap.size y13 (.slice (some ⟨c_b, 0, none⟩) (a_n + 3) c_c) (a_n + 3) (lentD a_d a_n)) := c_O.out.stays hw
  have FR : Hid (Fr w y13) := FR.out.trans (Fr.of hw)
  have HB : Hid (Below w0.heap.size w0 y13) := HB.out.trans ((hw).mono HB.out.size)
  have HK : Hid (Kept w0.heap.size y13 k (fun g => g < w.heap.size)) := HK.out.keeps hw
  clear hw
  have f_a0 := blkC a_k 0 rfl
  have f_a1 := blkC a_k 1 rfl
  have f_a2 := blkC a_k 2 rfl
  go_wp2_with fail
  clear f_a0 f_a1 f_a2
  refine (back_any c_O.out (RowX.of0 HA.out HB.out (by have h1 := c_L.out; have HS0q := HS0.out; have Z2q := Z2.out; have Z3q := Z3.out; have Z4q := Z4.out; have Z5q := Z5.out; have Z6q := Z6.out; have Z7q := Z7.out; have Z8q := Z8.out; have Z9q := Z9.out; have Z10q := Z10.out; have Z11q := Z11.out; have Z12q := Z12.out; have Z13q := Z13.out; have Z14q := Z14.out; omega)) (HA.out.keeps HB.out) (by omega)).mono ?_
  rintro _ y14 ⟨rfl, hw⟩
  have Z15 : Hid (y13.heap.size ≤ y14.heap.size) := hw.size
  obtain ⟨t_cur, t_z, t_t⟩ := c_O.out.typed (g := c_b) rfl
  have a_k := numblk_wr hw t_t (by decide) a_k
  have x_k := numblk_wr hw t_t (by decide) x_k
  have p_k := numblk_wr hw t_t (by decide) p_k
  have q_k := numblk_wr hw t_t (by decide) q_k
  have r_k := numblk_wr hw t_t (by decide) r_k
  have FR : Hid (Fr w y14) := FR.out.wr hw (by have h1 := c_L.out; have HS0q := HS0.out; have Z2q := Z2.out; have Z3q := Z3.out; have Z4q := Z4.out; have Z5q := Z5.out; have Z6q := Z6.out; have Z7q := Z7.out; have Z8q := Z8.out; have Z9q := Z9.out; have Z10q := Z10.out; have Z11q := Z11.out; have Z12q := Z12.out; have Z13q := Z13.out; have Z14q := Z14.out; omega) (by have HS0q := HS0.out; have Z2q := Z2.out; have Z3q := Z3.out; have Z4q := Z4.out; have Z5q := Z5.out; have Z6q := Z6.out; have Z7q := Z7.out; have Z8q := Z8.out; have Z9q := Z9.out; have Z10q := Z10.out; have Z11q := Z11.out; have Z12q := Z12.out; have Z13q := Z13.out; have Z14q := Z14.out; omega)
  have HB : Hid (Below w0.heap.size w0 y14) := hw.below HB.out HB.out.size (by have h1 := c_L.out; have h0 := HS0.out; have HS0q := HS0.out; have Z2q := Z2.out; have Z3q := Z3.out; have Z4q := Z4.out; have Z5q := Z5.out; have Z6q := Z6.out; have Z7q := Z7.out; have Z8q := Z8.out; have Z9q := Z9.out; have Z10q := Z10.out; have Z11q := Z11.out; have Z12q := Z12.out; have Z13q := Z13.out; have Z14q := Z14.out; omega)
  have HK : Hid (Kept w0.heap.size y14 k (fun g => g < w.heap.size)) := HK.out.wr hw (fun (h : c_b < w.heap.size) => by have h1 := c_L.out; have HS0q := HS0.out; have Z2q := Z2.out; have Z3q := Z3.out; have Z4q := Z4.out; have Z5q := Z5.out; have Z6q := Z6.out; have Z7q := Z7.out; have Z8q := Z8.out; have Z9q := Z9.out; have Z10q := Z10.out; have Z11q := Z11.out; have Z12q := Z12.out; have Z13q := Z13.out; have Z14q := Z14.out; omega) t_t
  clear hw t_t
  have f_p0 := blkC p_k 0 rfl
  have f_p1 := blkC p_k 1 rfl
  have f_p2 := blkC p_k 2 rfl
  have f_a0 := blkC a_k 0 rfl
  have f_a1 := blkC a_k 1 rfl
  have f_a2 := blkC a_k 2 rfl
  go_wp2_with fail
  clear f_p0 f_p1 f_p2 f_a0 f_a1 f_a2
  refine (is_bad _).mono ?_
  rintro _ y15 ⟨rfl, hw⟩
  have Z16 : Hid (y14.heap.size ≤ y15.heap.size) := hw.size
  have a_k := (hw.block _ (Array.getElem?_eq_some_iff.1 a_k).1).trans a_k
  have x_k := (hw.block _ (Array.getElem?_eq_some_iff.1 x_k).1).trans x_k
  have p_k := (hw.block _ (Array.getElem?_eq_some_iff.1 p_k).1).trans p_k
  have q_k := (hw.block _ (Array.getElem?_eq_some_iff.1 q_k).1).trans q_k
  have r_k := (hw.block _ (Array.getElem?_eq_some_iff.1 r_k).1).trans r_k
  have FR : Hid (Fr w y15) := FR.out.trans (Fr.of hw)
  have HB : Hid (Below w0.heap.size w0 y15) := HB.out.trans ((hw).mono HB.out.size)
  have HK : Hid (Kept w0.heap.size y15 k (fun g => g < w.heap.size)) := HK.out.keeps hw
  clear hw
  have f_q0 := blkC q_k 0 rfl
  have f_q1 := blkC q_k 1 rfl
  have f_q2 := blkC q_k 2 rfl
  have f_a0 := blkC a_k 0 rfl
  have f_a1 := blkC a_k 1 rfl
  have f_a2 := blkC a_k 2 rfl
  go_wp2_with fail
  clear f_q0 f_q1 f_q2 f_a0 f_a1 f_a2
  refine (is_bad _).mono ?_
  rintro _ y16 ⟨rfl, hw⟩
  have Z17 : Hid (y15.heap.size ≤ y16.heap.size) := hw.size
  have a_k := (hw.block _ (Array.getElem?_eq_some_iff.1 a_k).1).trans a_k
  have x_k := (hw.block _ (Array.getElem?_eq_some_iff.1 x_k).1).trans x_k
  have p_k := (hw.block _ (Array.getElem?_eq_some_iff.1 p_k).1).trans p_k
  have q_k := (hw.block _ (Array.getElem?_eq_some_iff.1 q_k).1).trans q_k
  have r_k := (hw.block _ (Array.getElem?_eq_some_iff.1 r_k).1).trans r_k
  have FR : Hid (Fr w y16) := FR.out.trans (Fr.of hw)
  have HB : Hid (Below w0.heap.size w0 y16) := HB.out.trans ((hw).mono HB.out.size)
  have HK : Hid (Kept w0.heap.size y16 k (fun g => g < w.heap.size)) := HK.out.keeps hw
  clear hw
  have f_r0 := blkC r_k 0 rfl
  have f_r1 := blkC r_k 1 rfl
  have f_r2 := blkC r_k 2 rfl
  have f_a0 := blkC a_k 0 rfl
  have f_a1 := blkC a_k 1 rfl
  have f_a2 := blkC a_k 2 rfl
  go_wp2_with fail
  clear f_r0 f_r1 f_r2 f_a0 f_a1 f_a2
  refine (is_bad _).mono ?_
  rintro _ y17 ⟨rfl, hw⟩
  have Z18 : Hid (y16.heap.size ≤ y17.heap.size) := hw.size
  have a_k := (hw.block _ (Array.getElem?_eq_some_iff.1 a_k).1).trans a_k
  have x_k := (hw.block _ (Array.getElem?_eq_some_iff.1 x_k).1).trans x_k
  have p_k := (hw.block _ (Array.getElem?_eq_some_iff.1 p_k).1).trans p_k
  have q_k := (hw.block _ (Array.getElem?_eq_some_iff.1 q_k).1).trans q_k
  have r_k := (hw.block _ (Array.getElem?_eq_some_iff.1 r_k).1).trans r_k
  have FR : Hid (Fr w y17) := FR.out.trans (Fr.of hw)
  have HB : Hid (Below w0.heap.size w0 y17) := HB.out.trans ((hw).mono HB.out.size)
  have HK : Hid (Kept w0.heap.size y17 k (fun g => g < w.heap.size)) := HK.out.keeps hw
  clear hw
  go_wp2
  go_ret
  exact ⟨rfl, HB.out, _, HK.out, FR.out⟩
end Go.Proofs.YtnhkagiionkjaaaGreatDoor
