/-
  plumblaw3.twos: the calls with two numbers: it answers true, what it keeps is kept, and it turns nothing that was there ahead of the law.
-/
import Derived.Test.YtnhkagiionkjaaaGreatDoorPart11
import Derived.Test.YtnhkagiionkjaaaGreatDoorPart13
namespace Go.Proofs.YtnhkagiionkjaaaGreatDoor
open Go Go.RowKit Go.Proofs.YtnhkagiionkjaaaGreatDoor.M
set_option linter.unusedSimpArgs false
set_option linter.unusedVariables false

theorem RSum.drd {w0 W w' : World} {A B : Int} {x y v : Value} (h : RSum W w' A B x y v) (hb : Below w0.heap.size w0 W) (hx : ∀ W, Below w0.heap.size w0 W → DRd w0.heap.size W A x) (hy : ∀ W, Below w0.heap.size w0 W → DRd w0.heap.size W B y) : DRd w0.heap.size w' (A + B) v := by
  have hb2 := hb.trans (h.1.mono hb.size)
  rcases h.2 with h1 | ⟨rfl, rfl⟩ | ⟨rfl, rfl⟩
  · exact (h1.dan.lower hb.size).rd
  · rw [Int.zero_add]; exact hy _ hb2
  · rw [Int.add_zero]; exact hx _ hb2
theorem drd_opp2 {w0 W : World} {a : NumR} (ra : Row w0 a.ao a.n a.cap a.d) (ok : okR a = true) (hb : Below w0.heap.size w0 W) : DRd w0.heap.size W (-a.V) a.opp.v := by
  obtain ⟨e1, e2⟩ := opp_V ok
  rw [e1] at e2
  exact ⟨_, _, _, _, a.d, _, rfl, e2, (okR_sane ok).1, Rd.of0 ra hb⟩
theorem bd_light {x : NumR} (ok : okR x = true) (h0 : -200000 ≤ x.e) (h1 : x.e ≤ 200000) : Bd 260000 x.V := by
  obtain ⟨hy, hlt, _⟩ := okR_dy ok
  have h2 := hy.nonneg
  have hs : pw x.e = pw (-((260000 : Nat) : Int)) * 2 ^ (x.e + 260000).toNat := by
    rw [← pw_add (by omega)]; congr 1; omega
  have hp := two_pos (x.e + 260000).toNat
  have hlt2 : val x.d x.n * 2 ^ (x.e + 260000).toNat < 2 ^ (2 * 260000) := by
    have a : val x.d x.n * 2 ^ (x.e + 260000).toNat < P 2000 * 2 ^ (x.e + 260000).toNat := Int.mul_lt_mul_of_pos_right hlt hp
    rw [P_two, ← Int.pow_add] at a
    exact Int.lt_of_lt_of_le a (two_le (by omega))
  have hn : 0 ≤ val x.d x.n * 2 ^ (x.e + 260000).toNat := Int.mul_nonneg h2 (Int.le_of_lt hp)
  have hV : x.V = sg x.ng (val x.d x.n * 2 ^ (x.e + 260000).toNat) * pw (-((260000 : Nat) : Int)) := by
    rw [hy.val, hs, sg_sgn, sg_sgn]
    generalize pw (-((260000 : Nat) : Int)) = Q
    grind
  refine ⟨_, hV, ?_, ?_⟩
  all_goals
    generalize val x.d x.n * 2 ^ (x.e + 260000).toNat = Z at *
    generalize (2 : Int) ^ (2 * 260000) = U at *
    cases x.ng <;> simp only [sg] <;> simp <;> omega
set_option maxRecDepth 100000 in
set_option maxHeartbeats 8000000 in
theorem twos_ok {w0 : World} (a b : NumR) (ra : Row w0 a.ao a.n a.cap a.d) (rb : Row w0 b.ao b.n b.cap b.d) (hn : a.n ≤ 2100) (hm : b.n ≤ 2100) (w : World) (hb0 : Below w0.heap.size w0 w) {k : Nat} {S : Nat → Prop} (hk : Kept w0.heap.size w k S) (hT : Tab w0) (oa : okR a = true) (ob : okR b = true) (ea : -200000 ≤ a.e ∧ a.e ≤ 200000) (eb : -200000 ≤ b.e ∧ b.e ≤ 200000) :
    Calls Tryz.prog 8 #[.pointer (some ⟨k, 0, none⟩), a.v, b.v] w fun e w' => e = .returned (.bool true) ∧ Below w0.heap.size w0 w' ∧ ∃ S', Kept w0.heap.size w' k S' ∧ Fr w w' := by
  have bA := bd_light oa ea.1 ea.2
  have bB := bd_light ob eb.1 eb.2
  obtain ⟨SA, hSA⟩ : ∃ V, V = a.V + b.V := ⟨_, rfl⟩
  obtain ⟨SD, hSD⟩ : ∃ V, V = a.V - b.V := ⟨_, rfl⟩
  obtain ⟨SM, hSM⟩ : ∃ V, V = mulV a b := ⟨_, rfl⟩
  obtain ⟨SC, hSC⟩ : ∃ V, V = ord a.V b.V := ⟨_, rfl⟩
  have CADD : Hid (∀ W b1 c1 b2 c2, Row W (some ⟨b1, 0, none⟩) a.n c1 a.d → Row W (some ⟨b2, 0, none⟩) b.n c2 b.d → Tab W → Calls Tryz.prog 14 #[.agg #[.bool a.ng, .slice (some ⟨b1, 0, none⟩) a.n c1, .int .i64 a.e], .agg #[.bool b.ng, .slice (some ⟨b2, 0, none⟩) b.n c2, .int .i64 b.e]] W fun r w' => ∃ v er, r = .returned (.tuple #[v, .int .i64 er]) ∧ DFit W w' SA v er) := fun W b1 c1 b2 c2 h1 h2 T => by rw [hSA]; exact dadd_ok ⟨a.ng, some ⟨b1, 0, none⟩, a.n, c1, a.d, a.e⟩ ⟨b.ng, some ⟨b2, 0, none⟩, b.n, c2, b.d, b.e⟩ W h1 h2 oa ob T
  have CSUB : Hid (∀ W b1 c1 b2 c2, Row W (some ⟨b1, 0, none⟩) a.n c1 a.d → Row W (some ⟨b2, 0, none⟩) b.n c2 b.d → Tab W → Calls Tryz.prog 37 #[.agg #[.bool a.ng, .slice (some ⟨b1, 0, none⟩) a.n c1, .int .i64 a.e], .agg #[.bool b.ng, .slice (some ⟨b2, 0, none⟩) b.n c2, .int .i64 b.e]] W fun r w' => ∃ v er, r = .returned (.tuple #[v, .int .i64 er]) ∧ DFit W w' SD v er) := fun W b1 c1 b2 c2 h1 h2 T => by rw [hSD]; exact dsub_ok ⟨a.ng, some ⟨b1, 0, none⟩, a.n, c1, a.d, a.e⟩ ⟨b.ng, some ⟨b2, 0, none⟩, b.n, c2, b.d, b.e⟩ W h1 h2 oa ob T
  have CMUL : Hid (∀ W b1 c1 b2 c2, Row W (some ⟨b1, 0, none⟩) a.n c1 a.d → Row W (some ⟨b2, 0, none⟩) b.n c2 b.d → Tab W → Calls Tryz.prog 38 #[.agg #[.bool a.ng, .slice (some ⟨b1, 0, none⟩) a.n c1, .int .i64 a.e], .agg #[.bool b.ng, .slice (some ⟨b2, 0, none⟩) b.n c2, .int .i64 b.e]] W fun r w' => ∃ v er, r = .returned (.tuple #[v, .int .i64 er]) ∧ DFit W w' SM v er) := fun W b1 c1 b2 c2 h1 h2 T => by rw [hSM]; exact dmul_ok ⟨a.ng, some ⟨b1, 0, none⟩, a.n, c1, a.d, a.e⟩ ⟨b.ng, some ⟨b2, 0, none⟩, b.n, c2, b.d, b.e⟩ W h1 h2 oa ob T
  have CCMP : Hid (∀ W b1 c1 b2 c2, Row W (some ⟨b1, 0, none⟩) a.n c1 a.d → Row W (some ⟨b2, 0, none⟩) b.n c2 b.d → Calls Tryz.prog 39 #[.agg #[.bool a.ng, .slice (some ⟨b1, 0, none⟩) a.n c1, .int .i64 a.e], .agg #[.bool b.ng, .slice (some ⟨b2, 0, none⟩) b.n c2, .int .i64 b.e]] W fun r w' => r = .returned (.tuple #[.int .i64 SC, .int .i64 0]) ∧ Below W.heap.size W w') := fun W b1 c1 b2 c2 h1 h2 => by
    have := dcmp_any ⟨a.ng, some ⟨b1, 0, none⟩, a.n, c1, a.d, a.e⟩ ⟨b.ng, some ⟨b2, 0, none⟩, b.n, c2, b.d, b.e⟩ W h1 h2
    rw [show (okR ⟨a.ng, some ⟨b1, 0, none⟩, a.n, c1, a.d, a.e⟩ && okR ⟨b.ng, some ⟨b2, 0, none⟩, b.n, c2, b.d, b.e⟩) = true by show (okR a && okR b) = true; rw [oa, ob]; rfl] at this
    rw [hSC]
    exact this
  have RADD : Hid (∀ W, Below w0.heap.size w0 W → Calls Tryz.prog 40 #[a.v, b.v] W fun r w' => ∃ v, r = .returned v ∧ Below W.heap.size W w' ∧ DRd w0.heap.size w' SA v) := fun W hb => by
    refine (radd3_any a b W (ra.keeps hb) (rb.keeps hb) (okR_dy oa).1 (okR_sane oa).1 (okR_dy ob).1 (okR_sane ob).1 (K := 260000) (by decide) bA bB).mono ?_
    rintro r w' ⟨v, rfl, h⟩
    rw [hSA]
    exact ⟨v, rfl, h.1, h.drd hb (fun W hb => DRd.of0 ra oa hb) (fun W hb => DRd.of0 rb ob hb)⟩
  have RSUB : Hid (∀ W, Below w0.heap.size w0 W → Calls Tryz.prog 41 #[a.v, b.v] W fun r w' => ∃ v, r = .returned v ∧ Below W.heap.size W w' ∧ DRd w0.heap.size w' SD v) := fun W hb => by
    refine (rsub3_any a b W (ra.keeps hb) (rb.keeps hb) oa ob (K := 260000) (by decide) bA bB).mono ?_
    rintro r w' ⟨v, rfl, h⟩
    rw [hSD, Int.sub_eq_add_neg]
    exact ⟨v, rfl, h.1, h.drd hb (fun W hb => DRd.of0 ra oa hb) (fun W hb => drd_opp2 rb ob hb)⟩
  have RMUL : Hid (∀ W, Below w0.heap.size w0 W → Calls Tryz.prog 42 #[a.v, b.v] W fun r w' => ∃ v, r = .returned v ∧ Below W.heap.size W w' ∧ DRd w0.heap.size w' SM v) := fun W hb => by
    refine (rmul3_any a b W (ra.keeps hb) (rb.keeps hb) (okR_sane oa) (okR_sane ob)).mono ?_
    rintro r w' ⟨v, rfl, h⟩
    rw [hSM]
    exact ⟨v, rfl, h.below, (h.dan.lower hb.size).rd⟩
  have RCMP : Hid (∀ W, Below w0.heap.size w0 W → Calls Tryz.prog 43 #[a.v, b.v] W fun r w' => r = .returned (.int .i64 SC) ∧ Below W.heap.size W w') := fun W hb => by rw [hSC]; exact rcmp3_any a b W (ra.keeps hb) (rb.keeps hb) oa ob (K := 260000) (by decide) bA bB
  clear hSA hSD hSM hSC bA bB
  have HT : Hid (∀ W, Below w0.heap.size w0 W → Tab W) := fun W hb => hT.keeps hb
  clear hT
  have CLA : Hid (∀ W, Below w0.heap.size w0 W → _) := fun W hb => lent3_any a W (ra.keeps hb) (by omega)
  have CLB : Hid (∀ W, Below w0.heap.size w0 W → _) := fun W hb => lent3_any b W (rb.keeps hb) (by omega)
  have CVA : Hid (∀ W, Below w0.heap.size w0 W → _) := fun W hb => rvalid3_any a W (ra.keeps hb)
  have CVB : Hid (∀ W, Below w0.heap.size w0 W → _) := fun W hb => rvalid3_any b W (rb.keeps hb)
  rw [oa] at CVA
  rw [ob] at CVB
  have HA : Hid (Row w0 a.ao a.n a.cap a.d) := ra
  have HRB : Hid (Row w0 b.ao b.n b.cap b.d) := rb
  have hla := ra.le
  have hma := ra.max
  have hlb := rb.le
  have hmb := rb.max
  clear ra rb
  unfold NumR.v at *
  obtain ⟨a_g, a_o, a_n, a_c, a_d, a_e⟩ := a
  obtain ⟨b_g, b_o, b_n, b_c, b_d, b_e⟩ := b
  simp only at hn hm hla hma hlb hmb CLA CLB CVA CVB HA HRB CADD CSUB CMUL CCMP RADD RSUB RMUL RCMP ⊢
  have HS0 : Hid (w0.heap.size ≤ w.heap.size) := hb0.size
  have HB : Hid (Below w0.heap.size w0 w) := hb0
  have HK : Hid (Kept w0.heap.size w k (fun g => g < w.heap.size)) := hk.old
  have FR : Hid (Fr w w) := Fr.of (bel_refl w)
  clear hb0 hk
  go_enter Tryz.func8, Tryz.ntmps8
  have hbx : Below w.heap.size w ((w.alloc (.cells #[.bool a_g, .slice a_o a_n a_c, .int .i64 a_e] 25)).alloc (.cells #[.bool b_g, .slice b_o b_n b_c, .int .i64 b_e] 25)) := bel_alloc2 _ _ _
  have a_k : ((w.alloc (.cells #[.bool a_g, .slice a_o a_n a_c, .int .i64 a_e] 25)).alloc (.cells #[.bool b_g, .slice b_o b_n b_c, .int .i64 b_e] 25)).heap[w.heap.size]? = some (.cells #[.bool a_g, .slice a_o a_n a_c, .int .i64 a_e] 25 (0, 0)) := heap_a2 _ _ _
  have b_k : ((w.alloc (.cells #[.bool a_g, .slice a_o a_n a_c, .int .i64 a_e] 25)).alloc (.cells #[.bool b_g, .slice b_o b_n b_c, .int .i64 b_e] 25)).heap[w.heap.size + 1]? = some (.cells #[.bool b_g, .slice b_o b_n b_c, .int .i64 b_e] 25 (0, 0)) := heap_b2 _ _ _
  go_wp2_with fail
  generalize ((w.alloc (.cells #[.bool a_g, .slice a_o a_n a_c, .int .i64 a_e] 25)).alloc (.cells #[.bool b_g, .slice b_o b_n b_c, .int .i64 b_e] 25)) = x1 at hbx a_k b_k ⊢
  have Z2 : Hid (w.heap.size ≤ x1.heap.size) := hbx.size
  have FR : Hid (Fr w x1) := FR.out.trans (Fr.of hbx)
  have HB : Hid (Below w0.heap.size w0 x1) := HB.out.trans ((hbx).mono HB.out.size)
  have HK : Hid (Kept w0.heap.size x1 k (fun g => g < w.heap.size)) := HK.out.keeps hbx
  clear hbx
  refine (CLA.out _ HB.out).mono ?_
  rintro _ y2 ⟨c_b, c_c, rfl, l_O', hw⟩
  have Z3 : Hid (x1.heap.size ≤ y2.heap.size) := hw.size
  have a_k := (hw.block _ (Array.getElem?_eq_some_iff.1 a_k).1).trans a_k
  have b_k := (hw.block _ (Array.getElem?_eq_some_iff.1 b_k).1).trans b_k
  have FR : Hid (Fr w y2) := FR.out.trans (Fr.of hw)
  have HB : Hid (Below w0.heap.size w0 y2) := HB.out.trans ((hw).mono HB.out.size)
  have HK : Hid (Kept w0.heap.size y2 k (fun g => g < w.heap.size)) := HK.out.keeps hw
  have c_O : Hid (Out x1.heap.size y2 (.slice (some ⟨c_b, 0, none⟩) (a_n + 3) c_c) (a_n + 3) (lentD a_d a_n)) := l_O'
  have c_L : Hid (x1.heap.size ≤ c_b ∧ c_b < y2.heap.size) := c_O.out.ge rfl
  have c_M := lent_cap c_O.out
  clear l_O' hw
  have hbx : Below y2.heap.size y2 (y2.alloc (.cells #[.bool a_g, .slice (some ⟨c_b, 0, none⟩) a_n c_c, .int .i64 a_e] 25)) := bel_alloc _ _
  have x_k : (y2.alloc (.cells #[.bool a_g, .slice (some ⟨c_b, 0, none⟩) a_n c_c, .int .i64 a_e] 25)).heap[y2.heap.size]? = some (.cells #[.bool a_g, .slice (some ⟨c_b, 0, none⟩) a_n c_c, .int .i64 a_e] 25 (0, 0)) := heap_a1 _ _
  have u_k := (hbx.block _ (Array.getElem?_eq_some_iff.1 b_k).1).trans b_k
  have f_b0 := blkC u_k 0 rfl
  have f_b1 := blkC u_k 1 rfl
  have f_b2 := blkC u_k 2 rfl
  clear u_k
  go_wp2_with fail
  clear f_b0 f_b1 f_b2
  generalize (y2.alloc (.cells #[.bool a_g, .slice (some ⟨c_b, 0, none⟩) a_n c_c, .int .i64 a_e] 25)) = x3 at hbx x_k ⊢
  have Z4 : Hid (y2.heap.size ≤ x3.heap.size) := hbx.size
  have a_k := (hbx.block _ (Array.getElem?_eq_some_iff.1 a_k).1).trans a_k
  have b_k := (hbx.block _ (Array.getElem?_eq_some_iff.1 b_k).1).trans b_k
  have c_O : Hid (Out x1.heap.size x3 (.slice (some ⟨c_b, 0, none⟩) (a_n + 3) c_c) (a_n + 3) (lentD a_d a_n)) := c_O.out.stays hbx
  have FR : Hid (Fr w x3) := FR.out.trans (Fr.of hbx)
  have HB : Hid (Below w0.heap.size w0 x3) := HB.out.trans ((hbx).mono HB.out.size)
  have HK : Hid (Kept w0.heap.size x3 k (fun g => g < w.heap.size)) := HK.out.keeps hbx
  clear hbx
  refine (CLB.out _ HB.out).mono ?_
  rintro _ y4 ⟨d_b, d_c, rfl, l_O', hw⟩
  have Z5 : Hid (x3.heap.size ≤ y4.heap.size) := hw.size
  have a_k := (hw.block _ (Array.getElem?_eq_some_iff.1 a_k).1).trans a_k
  have b_k := (hw.block _ (Array.getElem?_eq_some_iff.1 b_k).1).trans b_k
  have x_k := (hw.block _ (Array.getElem?_eq_some_iff.1 x_k).1).trans x_k
  have c_O : Hid (Out x1.heap.size y4 (.slice (some ⟨c_b, 0, none⟩) (a_n + 3) c_c) (a_n + 3) (lentD a_d a_n)) := c_O.out.stays hw
  have FR : Hid (Fr w y4) := FR.out.trans (Fr.of hw)
  have HB : Hid (Below w0.heap.size w0 y4) := HB.out.trans ((hw).mono HB.out.size)
  have HK : Hid (Kept w0.heap.size y4 k (fun g => g < w.heap.size)) := HK.out.keeps hw
  have d_O : Hid (Out x3.heap.size y4 (.slice (some ⟨d_b, 0, none⟩) (b_n + 3) d_c) (b_n + 3) (lentD b_d b_n)) := l_O'
  have d_L : Hid (x3.heap.size ≤ d_b ∧ d_b < y4.heap.size) := d_O.out.ge rfl
  have d_M := lent_cap d_O.out
  clear l_O' hw
  have hbx : Below y4.heap.size y4 (y4.alloc (.cells #[.bool b_g, .slice (some ⟨d_b, 0, none⟩) b_n d_c, .int .i64 b_e] 25)) := bel_alloc _ _
  have y_k : (y4.alloc (.cells #[.bool b_g, .slice (some ⟨d_b, 0, none⟩) b_n d_c, .int .i64 b_e] 25)).heap[y4.heap.size]? = some (.cells #[.bool b_g, .slice (some ⟨d_b, 0, none⟩) b_n d_c, .int .i64 b_e] 25 (0, 0)) := heap_a1 _ _
  have u_k := (hbx.block _ (Array.getElem?_eq_some_iff.1 a_k).1).trans a_k
  have f_a0 := blkC u_k 0 rfl
  have f_a1 := blkC u_k 1 rfl
  have f_a2 := blkC u_k 2 rfl
  clear u_k
  go_wp2_with fail
  clear f_a0 f_a1 f_a2
  generalize (y4.alloc (.cells #[.bool b_g, .slice (some ⟨d_b, 0, none⟩) b_n d_c, .int .i64 b_e] 25)) = x5 at hbx y_k ⊢
  have Z6 : Hid (y4.heap.size ≤ x5.heap.size) := hbx.size
  have a_k := (hbx.block _ (Array.getElem?_eq_some_iff.1 a_k).1).trans a_k
  have b_k := (hbx.block _ (Array.getElem?_eq_some_iff.1 b_k).1).trans b_k
  have x_k := (hbx.block _ (Array.getElem?_eq_some_iff.1 x_k).1).trans x_k
  have c_O : Hid (Out x1.heap.size x5 (.slice (some ⟨c_b, 0, none⟩) (a_n + 3) c_c) (a_n + 3) (lentD a_d a_n)) := c_O.out.stays hbx
  have d_O : Hid (Out x3.heap.size x5 (.slice (some ⟨d_b, 0, none⟩) (b_n + 3) d_c) (b_n + 3) (lentD b_d b_n)) := d_O.out.stays hbx
  have FR : Hid (Fr w x5) := FR.out.trans (Fr.of hbx)
  have HB : Hid (Below w0.heap.size w0 x5) := HB.out.trans ((hbx).mono HB.out.size)
  have HK : Hid (Kept w0.heap.size x5 k (fun g => g < w.heap.size)) := HK.out.keeps hbx
  clear hbx
  refine (CVA.out _ HB.out).mono ?_
  rintro _ y6 ⟨rfl, hw⟩
  have Z7 : Hid (x5.heap.size ≤ y6.heap.size) := hw.size
  have a_k := (hw.block _ (Array.getElem?_eq_some_iff.1 a_k).1).trans a_k
  have b_k := (hw.block _ (Array.getElem?_eq_some_iff.1 b_k).1).trans b_k
  have x_k := (hw.block _ (Array.getElem?_eq_some_iff.1 x_k).1).trans x_k
  have y_k := (hw.block _ (Array.getElem?_eq_some_iff.1 y_k).1).trans y_k
  have c_O : Hid (Out x1.heap.size y6 (.slice (some ⟨c_b, 0, none⟩) (a_n + 3) c_c) (a_n + 3) (lentD a_d a_n)) := c_O.out.stays hw
  have d_O : Hid (Out x3.heap.size y6 (.slice (some ⟨d_b, 0, none⟩) (b_n + 3) d_c) (b_n + 3) (lentD b_d b_n)) := d_O.out.stays hw
  have FR : Hid (Fr w y6) := FR.out.trans (Fr.of hw)
  have HB : Hid (Below w0.heap.size w0 y6) := HB.out.trans ((hw).mono HB.out.size)
  have HK : Hid (Kept w0.heap.size y6 k (fun g => g < w.heap.size)) := HK.out.keeps hw
  clear hw
  have f_b0 := blkC b_k 0 rfl
  have f_b1 := blkC b_k 1 rfl
  have f_b2 := blkC b_k 2 rfl
  go_wp2_with fail
  clear f_b0 f_b1 f_b2
  refine (CVB.out _ HB.out).mono ?_
  rintro _ y7 ⟨rfl, hw⟩
  have Z8 : Hid (y6.heap.size ≤ y7.heap.size) := hw.size
  have a_k := (hw.block _ (Array.getElem?_eq_some_iff.1 a_k).1).trans a_k
  have b_k := (hw.block _ (Array.getElem?_eq_some_iff.1 b_k).1).trans b_k
  have x_k := (hw.block _ (Array.getElem?_eq_some_iff.1 x_k).1).trans x_k
  have y_k := (hw.block _ (Array.getElem?_eq_some_iff.1 y_k).1).trans y_k
  have c_O : Hid (Out x1.heap.size y7 (.slice (some ⟨c_b, 0, none⟩) (a_n + 3) c_c) (a_n + 3) (lentD a_d a_n)) := c_O.out.stays hw
  have d_O : Hid (Out x3.heap.size y7 (.slice (some ⟨d_b, 0, none⟩) (b_n + 3) d_c) (b_n + 3) (lentD b_d b_n)) := d_O.out.stays hw
  have FR : Hid (Fr w y7) := FR.out.trans (Fr.of hw)
  have HB : Hid (Below w0.heap.size w0 y7) := HB.out.trans ((hw).mono HB.out.size)
  have HK : Hid (Kept w0.heap.size y7 k (fun g => g < w.heap.size)) := HK.out.keeps hw
  clear hw
  have f_x0 := blkC x_k 0 rfl
  have f_x1 := blkC x_k 1 rfl
  have f_x2 := blkC x_k 2 rfl
  have f_y0 := blkC y_k 0 rfl
  have f_y1 := blkC y_k 1 rfl
  have f_y2 := blkC y_k 2 rfl
  go_wp2_with fail
  clear f_x0 f_x1 f_x2 f_y0 f_y1 f_y2
  refine (CADD.out _ _ _ _ _ (lent_row c_O.out) (lent_row d_O.out) (HT.out _ HB.out)).mono ?_
  rintro _ y8 ⟨v, p_r, rfl, hA⟩
  obtain ⟨p_g, p_o, p_n, p_c, p_e, rfl⟩ := hA.shape
  have hw := hA.1
  have Z9 : Hid (y7.heap.size ≤ y8.heap.size) := hw.size
  have a_k := (hw.block _ (Array.getElem?_eq_some_iff.1 a_k).1).trans a_k
  have b_k := (hw.block _ (Array.getElem?_eq_some_iff.1 b_k).1).trans b_k
  have x_k := (hw.block _ (Array.getElem?_eq_some_iff.1 x_k).1).trans x_k
  have y_k := (hw.block _ (Array.getElem?_eq_some_iff.1 y_k).1).trans y_k
  have c_O : Hid (Out x1.heap.size y8 (.slice (some ⟨c_b, 0, none⟩) (a_n + 3) c_c) (a_n + 3) (lentD a_d a_n)) := c_O.out.stays hw
  have d_O : Hid (Out x3.heap.size y8 (.slice (some ⟨d_b, 0, none⟩) (b_n + 3) d_c) (b_n + 3) (lentD b_d b_n)) := d_O.out.stays hw
  have FR : Hid (Fr w y8) := FR.out.trans (Fr.of hw)
  have HB : Hid (Below w0.heap.size w0 y8) := HB.out.trans ((hw).mono HB.out.size)
  have HK : Hid (Kept w0.heap.size y8 k (fun g => g < w.heap.size)) := HK.out.keeps hw
  have p_F : Hid (DFitA y7.heap.size y8 SA (.agg #[.bool p_g, .slice p_o p_n p_c, .int .i64 p_e]) p_r) := hA.fitA
  have p_L : Hid (Lies (.slice p_o p_n p_c) y7.heap.size y8.heap.size) := p_F.out.ge
  clear hw hA
  have hbx : Below y8.heap.size y8 (y8.alloc (.cells #[.bool p_g, .slice p_o p_n p_c, .int .i64 p_e] 25)) := bel_alloc _ _
  have p_k : (y8.alloc (.cells #[.bool p_g, .slice p_o p_n p_c, .int .i64 p_e] 25)).heap[y8.heap.size]? = some (.cells #[.bool p_g, .slice p_o p_n p_c, .int .i64 p_e] 25 (0, 0)) := heap_a1 _ _
  have u_k := (hbx.block _ (Array.getElem?_eq_some_iff.1 x_k).1).trans x_k
  have f_x0 := blkC u_k 0 rfl
  have f_x1 := blkC u_k 1 rfl
  have f_x2 := blkC u_k 2 rfl
  clear u_k
  have u_k := (hbx.block _ (Array.getElem?_eq_some_iff.1 y_k).1).trans y_k
  have f_y0 := blkC u_k 0 rfl
  have f_y1 := blkC u_k 1 rfl
  have f_y2 := blkC u_k 2 rfl
  clear u_k
  go_wp2_with fail
  clear f_x0 f_x1 f_x2 f_y0 f_y1 f_y2
  generalize (y8.alloc (.cells #[.bool p_g, .slice p_o p_n p_c, .int .i64 p_e] 25)) = x9 at hbx p_k ⊢
  have Z10 : Hid (y8.heap.size ≤ x9.heap.size) := hbx.size
  have a_k := (hbx.block _ (Array.getElem?_eq_some_iff.1 a_k).1).trans a_k
  have b_k := (hbx.block _ (Array.getElem?_eq_some_iff.1 b_k).1).trans b_k
  have x_k := (hbx.block _ (Array.getElem?_eq_some_iff.1 x_k).1).trans x_k
  have y_k := (hbx.block _ (Array.getElem?_eq_some_iff.1 y_k).1).trans y_k
  have p_F : Hid (DFitA y7.heap.size x9 SA (.agg #[.bool p_g, .slice p_o p_n p_c, .int .i64 p_e]) p_r) := p_F.out.keeps hbx
  have c_O : Hid (Out x1.heap.size x9 (.slice (some ⟨c_b, 0, none⟩) (a_n + 3) c_c) (a_n + 3) (lentD a_d a_n)) := c_O.out.stays hbx
  have d_O : Hid (Out x3.heap.size x9 (.slice (some ⟨d_b, 0, none⟩) (b_n + 3) d_c) (b_n + 3) (lentD b_d b_n)) := d_O.out.stays hbx
  have FR : Hid (Fr w x9) := FR.out.trans (Fr.of hbx)
  have HB : Hid (Below w0.heap.size w0 x9) := HB.out.trans ((hbx).mono HB.out.size)
  have HK : Hid (Kept w0.heap.size x9 k (fun g => g < w.heap.size)) := HK.out.keeps hbx
  clear hbx
  refine (CSUB.out _ _ _ _ _ (lent_row c_O.out) (lent_row d_O.out) (HT.out _ HB.out)).mono ?_
  rintro _ y10 ⟨v, q_r, rfl, hA⟩
  obtain ⟨q_g, q_o, q_n, q_c, q_e, rfl⟩ := hA.shape
  have hw := hA.1
  have Z11 : Hid (x9.heap.size ≤ y10.heap.size) := hw.size
  have a_k := (hw.block _ (Array.getElem?_eq_some_iff.1 a_k).1).trans a_k
  have b_k := (hw.block _ (Array.getElem?_eq_some_iff.1 b_k).1).trans b_k
  have x_k := (hw.block _ (Array.getElem?_eq_some_iff.1 x_k).1).trans x_k
  have y_k := (hw.block _ (Array.getElem?_eq_some_iff.1 y_k).1).trans y_k
  have p_k := (hw.block _ (Array.getElem?_eq_some_iff.1 p_k).1).trans p_k
  have p_F : Hid (DFitA y7.heap.size y10 SA (.agg #[.bool p_g, .slice p_o p_n p_c, .int .i64 p_e]) p_r) := p_F.out.keeps hw
  have c_O : Hid (Out x1.heap.size y10 (.slice (some ⟨c_b, 0, none⟩) (a_n + 3) c_c) (a_n + 3) (lentD a_d a_n)) := c_O.out.stays hw
  have d_O : Hid (Out x3.heap.size y10 (.slice (some ⟨d_b, 0, none⟩) (b_n + 3) d_c) (b_n + 3) (lentD b_d b_n)) := d_O.out.stays hw
  have FR : Hid (Fr w y10) := FR.out.trans (Fr.of hw)
  have HB : Hid (Below w0.heap.size w0 y10) := HB.out.trans ((hw).mono HB.out.size)
  have HK : Hid (Kept w0.heap.size y10 k (fun g => g < w.heap.size)) := HK.out.keeps hw
  have q_F : Hid (DFitA x9.heap.size y10 SD (.agg #[.bool q_g, .slice q_o q_n q_c, .int .i64 q_e]) q_r) := hA.fitA
  have q_L : Hid (Lies (.slice q_o q_n q_c) x9.heap.size y10.heap.size) := q_F.out.ge
  clear hw hA
  have hbx : Below y10.heap.size y10 (y10.alloc (.cells #[.bool q_g, .slice q_o q_n q_c, .int .i64 q_e] 25)) := bel_alloc _ _
  have q_k : (y10.alloc (.cells #[.bool q_g, .slice q_o q_n q_c, .int .i64 q_e] 25)).heap[y10.heap.size]? = some (.cells #[.bool q_g, .slice q_o q_n q_c, .int .i64 q_e] 25 (0, 0)) := heap_a1 _ _
  have u_k := (hbx.block _ (Array.getElem?_eq_some_iff.1 x_k).1).trans x_k
  have f_x0 := blkC u_k 0 rfl
  have f_x1 := blkC u_k 1 rfl
  have f_x2 := blkC u_k 2 rfl
  clear u_k
  have u_k := (hbx.block _ (Array.getElem?_eq_some_iff.1 y_k).1).trans y_k
  have f_y0 := blkC u_k 0 rfl
  have f_y1 := blkC u_k 1 rfl
  have f_y2 := blkC u_k 2 rfl
  clear u_k
  go_wp2_with fail
  clear f_x0 f_x1 f_x2 f_y0 f_y1 f_y2
  generalize (y10.alloc (.cells #[.bool q_g, .slice q_o q_n q_c, .int .i64 q_e] 25)) = x11 at hbx q_k ⊢
  have Z12 : Hid (y10.heap.size ≤ x11.heap.size) := hbx.size
  have a_k := (hbx.block _ (Array.getElem?_eq_some_iff.1 a_k).1).trans a_k
  have b_k := (hbx.block _ (Array.getElem?_eq_some_iff.1 b_k).1).trans b_k
  have x_k := (hbx.block _ (Array.getElem?_eq_some_iff.1 x_k).1).trans x_k
  have y_k := (hbx.block _ (Array.getElem?_eq_some_iff.1 y_k).1).trans y_k
  have p_k := (hbx.block _ (Array.getElem?_eq_some_iff.1 p_k).1).trans p_k
  have p_F : Hid (DFitA y7.heap.size x11 SA (.agg #[.bool p_g, .slice p_o p_n p_c, .int .i64 p_e]) p_r) := p_F.out.keeps hbx
  have q_F : Hid (DFitA x9.heap.size x11 SD (.agg #[.bool q_g, .slice q_o q_n q_c, .int .i64 q_e]) q_r) := q_F.out.keeps hbx
  have c_O : Hid (Out x1.heap.size x11 (.slice (some ⟨c_b, 0, none⟩) (a_n + 3) c_c) (a_n + 3) (lentD a_d a_n)) := c_O.out.stays hbx
  have d_O : Hid (Out x3.heap.size x11 (.slice (some ⟨d_b, 0, none⟩) (b_n + 3) d_c) (b_n + 3) (lentD b_d b_n)) := d_O.out.stays hbx
  have FR : Hid (Fr w x11) := FR.out.trans (Fr.of hbx)
  have HB : Hid (Below w0.heap.size w0 x11) := HB.out.trans ((hbx).mono HB.out.size)
  have HK : Hid (Kept w0.heap.size x11 k (fun g => g < w.heap.size)) := HK.out.keeps hbx
  clear hbx
  refine (CMUL.out _ _ _ _ _ (lent_row c_O.out) (lent_row d_O.out) (HT.out _ HB.out)).mono ?_
  rintro _ y12 ⟨v, r_r, rfl, hA⟩
  obtain ⟨r_g, r_o, r_n, r_c, r_e, rfl⟩ := hA.shape
  have hw := hA.1
  have Z13 : Hid (x11.heap.size ≤ y12.heap.size) := hw.size
  have a_k := (hw.block _ (Array.getElem?_eq_some_iff.1 a_k).1).trans a_k
  have b_k := (hw.block _ (Array.getElem?_eq_some_iff.1 b_k).1).trans b_k
  have x_k := (hw.block _ (Array.getElem?_eq_some_iff.1 x_k).1).trans x_k
  have y_k := (hw.block _ (Array.getElem?_eq_some_iff.1 y_k).1).trans y_k
  have p_k := (hw.block _ (Array.getElem?_eq_some_iff.1 p_k).1).trans p_k
  have q_k := (hw.block _ (Array.getElem?_eq_some_iff.1 q_k).1).trans q_k
  have p_F : Hid (DFitA y7.heap.size y12 SA (.agg #[.bool p_g, .slice p_o p_n p_c, .int .i64 p_e]) p_r) := p_F.out.keeps hw
  have q_F : Hid (DFitA x9.heap.size y12 SD (.agg #[.bool q_g, .slice q_o q_n q_c, .int .i64 q_e]) q_r) := q_F.out.keeps hw
  have c_O : Hid (Out x1.heap.size y12 (.slice (some ⟨c_b, 0, none⟩) (a_n + 3) c_c) (a_n + 3) (lentD a_d a_n)) := c_O.out.stays hw
  have d_O : Hid (Out x3.heap.size y12 (.slice (some ⟨d_b, 0, none⟩) (b_n + 3) d_c) (b_n + 3) (lentD b_d b_n)) := d_O.out.stays hw
  have FR : Hid (Fr w y12) := FR.out.trans (Fr.of hw)
  have HB : Hid (Below w0.heap.size w0 y12) := HB.out.trans ((hw).mono HB.out.size)
  have HK : Hid (Kept w0.heap.size y12 k (fun g => g < w.heap.size)) := HK.out.keeps hw
  have r_F : Hid (DFitA x11.heap.size y12 SM (.agg #[.bool r_g, .slice r_o r_n r_c, .int .i64 r_e]) r_r) := hA.fitA
  have r_L : Hid (Lies (.slice r_o r_n r_c) x11.heap.size y12.heap.size) := r_F.out.ge
  clear hw hA
  have hbx : Below y12.heap.size y12 (y12.alloc (.cells #[.bool r_g, .slice r_o r_n r_c, .int .i64 r_e] 25)) := bel_alloc _ _
  have r_k : (y12.alloc (.cells #[.bool r_g, .slice r_o r_n r_c, .int .i64 r_e] 25)).heap[y12.heap.size]? = some (.cells #[.bool r_g, .slice r_o r_n r_c, .int .i64 r_e] 25 (0, 0)) := heap_a1 _ _
  have u_k := (hbx.block _ (Array.getElem?_eq_some_iff.1 x_k).1).trans x_k
  have f_x0 := blkC u_k 0 rfl
  have f_x1 := blkC u_k 1 rfl
  have f_x2 := blkC u_k 2 rfl
  clear u_k
  have u_k := (hbx.block _ (Array.getElem?_eq_some_iff.1 y_k).1).trans y_k
  have f_y0 := blkC u_k 0 rfl
  have f_y1 := blkC u_k 1 rfl
  have f_y2 := blkC u_k 2 rfl
  clear u_k
  go_wp2_with fail
  clear f_x0 f_x1 f_x2 f_y0 f_y1 f_y2
  generalize (y12.alloc (.cells #[.bool r_g, .slice r_o r_n r_c, .int .i64 r_e] 25)) = x13 at hbx r_k ⊢
  have Z14 : Hid (y12.heap.size ≤ x13.heap.size) := hbx.size
  have a_k := (hbx.block _ (Array.getElem?_eq_some_iff.1 a_k).1).trans a_k
  have b_k := (hbx.block _ (Array.getElem?_eq_some_iff.1 b_k).1).trans b_k
  have x_k := (hbx.block _ (Array.getElem?_eq_some_iff.1 x_k).1).trans x_k
  have y_k := (hbx.block _ (Array.getElem?_eq_some_iff.1 y_k).1).trans y_k
  have p_k := (hbx.block _ (Array.getElem?_eq_some_iff.1 p_k).1).trans p_k
  have q_k := (hbx.block _ (Array.getElem?_eq_some_iff.1 q_k).1).trans q_k
  have p_F : Hid (DFitA y7.heap.size x13 SA (.agg #[.bool p_g, .slice p_o p_n p_c, .int .i64 p_e]) p_r) := p_F.out.keeps hbx
  have q_F : Hid (DFitA x9.heap.size x13 SD (.agg #[.bool q_g, .slice q_o q_n q_c, .int .i64 q_e]) q_r) := q_F.out.keeps hbx
  have r_F : Hid (DFitA x11.heap.size x13 SM (.agg #[.bool r_g, .slice r_o r_n r_c, .int .i64 r_e]) r_r) := r_F.out.keeps hbx
  have c_O : Hid (Out x1.heap.size x13 (.slice (some ⟨c_b, 0, none⟩) (a_n + 3) c_c) (a_n + 3) (lentD a_d a_n)) := c_O.out.stays hbx
  have d_O : Hid (Out x3.heap.size x13 (.slice (some ⟨d_b, 0, none⟩) (b_n + 3) d_c) (b_n + 3) (lentD b_d b_n)) := d_O.out.stays hbx
  have FR : Hid (Fr w x13) := FR.out.trans (Fr.of hbx)
  have HB : Hid (Below w0.heap.size w0 x13) := HB.out.trans ((hbx).mono HB.out.size)
  have HK : Hid (Kept w0.heap.size x13 k (fun g => g < w.heap.size)) := HK.out.keeps hbx
  clear hbx
  refine (CCMP.out _ _ _ _ _ (lent_row c_O.out) (lent_row d_O.out)).mono ?_
  rintro _ y14 ⟨rfl, hw⟩
  have Z15 : Hid (x13.heap.size ≤ y14.heap.size) := hw.size
  have a_k := (hw.block _ (Array.getElem?_eq_some_iff.1 a_k).1).trans a_k
  have b_k := (hw.block _ (Array.getElem?_eq_some_iff.1 b_k).1).trans b_k
  have x_k := (hw.block _ (Array.getElem?_eq_some_iff.1 x_k).1).trans x_k
  have y_k := (hw.block _ (Array.getElem?_eq_some_iff.1 y_k).1).trans y_k
  have p_k := (hw.block _ (Array.getElem?_eq_some_iff.1 p_k).1).trans p_k
  have q_k := (hw.block _ (Array.getElem?_eq_some_iff.1 q_k).1).trans q_k
  have r_k := (hw.block _ (Array.getElem?_eq_some_iff.1 r_k).1).trans r_k
  have p_F : Hid (DFitA y7.heap.size y14 SA (.agg #[.bool p_g, .slice p_o p_n p_c, .int .i64 p_e]) p_r) := p_F.out.keeps hw
  have q_F : Hid (DFitA x9.heap.size y14 SD (.agg #[.bool q_g, .slice q_o q_n q_c, .int .i64 q_e]) q_r) := q_F.out.keeps hw
  have r_F : Hid (DFitA x11.heap.size y14 SM (.agg #[.bool r_g, .slice r_o r_n r_c, .int .i64 r_e]) r_r) := r_F.out.keeps hw
  have c_O : Hid (Out x1.heap.size y14 (.slice (some ⟨c_b, 0, none⟩) (a_n + 3) c_c) (a_n + 3) (lentD a_d a_n)) := c_O.out.stays hw
  have d_O : Hid (Out x3.heap.size y14 (.slice (some ⟨d_b, 0, none⟩) (b_n + 3) d_c) (b_n + 3) (lentD b_d b_n)) := d_O.out.stays hw
  have FR : Hid (Fr w y14) := FR.out.trans (Fr.of hw)
  have HB : Hid (Below w0.heap.size w0 y14) := HB.out.trans ((hw).mono HB.out.size)
  have HK : Hid (Kept w0.heap.size y14 k (fun g => g < w.heap.size)) := HK.out.keeps hw
  clear hw
  have f_a0 := blkC a_k 0 rfl
  have f_a1 := blkC a_k 1 rfl
  have f_a2 := blkC a_k 2 rfl
  go_wp2_with fail
  clear f_a0 f_a1 f_a2
  refine (back_any c_O.out (RowX.of0 HA.out HB.out (by have h1 := c_L.out; have HS0q := HS0.out; have Z2q := Z2.out; have Z3q := Z3.out; have Z4q := Z4.out; have Z5q := Z5.out; have Z6q := Z6.out; have Z7q := Z7.out; have Z8q := Z8.out; have Z9q := Z9.out; have Z10q := Z10.out; have Z11q := Z11.out; have Z12q := Z12.out; have Z13q := Z13.out; have Z14q := Z14.out; have Z15q := Z15.out; omega)) (HA.out.keeps HB.out) (by omega)).mono ?_
  rintro _ y15 ⟨rfl, hw⟩
  have Z16 : Hid (y14.heap.size ≤ y15.heap.size) := hw.size
  obtain ⟨t_cur, t_z, t_t⟩ := c_O.out.typed (g := c_b) rfl
  have a_k := numblk_wr hw t_t (by decide) a_k
  have b_k := numblk_wr hw t_t (by decide) b_k
  have x_k := numblk_wr hw t_t (by decide) x_k
  have y_k := numblk_wr hw t_t (by decide) y_k
  have p_k := numblk_wr hw t_t (by decide) p_k
  have q_k := numblk_wr hw t_t (by decide) q_k
  have r_k := numblk_wr hw t_t (by decide) r_k
  have p_F : Hid (DFitA y7.heap.size y15 SA (.agg #[.bool p_g, .slice p_o p_n p_c, .int .i64 p_e]) p_r) := p_F.out.wr hw (by have h1 := c_L.out; have HS0q := HS0.out; have Z2q := Z2.out; have Z3q := Z3.out; have Z4q := Z4.out; have Z5q := Z5.out; have Z6q := Z6.out; have Z7q := Z7.out; have Z8q := Z8.out; have Z9q := Z9.out; have Z10q := Z10.out; have Z11q := Z11.out; have Z12q := Z12.out; have Z13q := Z13.out; have Z14q := Z14.out; have Z15q := Z15.out; omega)
  have q_F : Hid (DFitA x9.heap.size y15 SD (.agg #[.bool q_g, .slice q_o q_n q_c, .int .i64 q_e]) q_r) := q_F.out.wr hw (by have h1 := c_L.out; have HS0q := HS0.out; have Z2q := Z2.out; have Z3q := Z3.out; have Z4q := Z4.out; have Z5q := Z5.out; have Z6q := Z6.out; have Z7q := Z7.out; have Z8q := Z8.out; have Z9q := Z9.out; have Z10q := Z10.out; have Z11q := Z11.out; have Z12q := Z12.out; have Z13q := Z13.out; have Z14q := Z14.out; have Z15q := Z15.out; omega)
  have r_F : Hid (DFitA x11.heap.size y15 SM (.agg #[.bool r_g, .slice r_o r_n r_c, .int .i64 r_e]) r_r) := r_F.out.wr hw (by have h1 := c_L.out; have HS0q := HS0.out; have Z2q := Z2.out; have Z3q := Z3.out; have Z4q := Z4.out; have Z5q := Z5.out; have Z6q := Z6.out; have Z7q := Z7.out; have Z8q := Z8.out; have Z9q := Z9.out; have Z10q := Z10.out; have Z11q := Z11.out; have Z12q := Z12.out; have Z13q := Z13.out; have Z14q := Z14.out; have Z15q := Z15.out; omega)
  have d_O : Hid (Out x3.heap.size y15 (.slice (some ⟨d_b, 0, none⟩) (b_n + 3) d_c) (b_n + 3) (lentD b_d b_n)) := d_O.out.of_block fun g hg => by
      have e : d_b = g := by simpa [Value.ownBlock] using hg
      refine hw.block g (d_O.out.ge hg).2 ?_
      have h1 := d_L.out; have h2 := c_L.out; have HS0q := HS0.out; have Z2q := Z2.out; have Z3q := Z3.out; have Z4q := Z4.out; have Z5q := Z5.out; have Z6q := Z6.out; have Z7q := Z7.out; have Z8q := Z8.out; have Z9q := Z9.out; have Z10q := Z10.out; have Z11q := Z11.out; have Z12q := Z12.out; have Z13q := Z13.out; have Z14q := Z14.out; have Z15q := Z15.out; omega
  have FR : Hid (Fr w y15) := FR.out.wr hw (by have h1 := c_L.out; have HS0q := HS0.out; have Z2q := Z2.out; have Z3q := Z3.out; have Z4q := Z4.out; have Z5q := Z5.out; have Z6q := Z6.out; have Z7q := Z7.out; have Z8q := Z8.out; have Z9q := Z9.out; have Z10q := Z10.out; have Z11q := Z11.out; have Z12q := Z12.out; have Z13q := Z13.out; have Z14q := Z14.out; have Z15q := Z15.out; omega) (by have HS0q := HS0.out; have Z2q := Z2.out; have Z3q := Z3.out; have Z4q := Z4.out; have Z5q := Z5.out; have Z6q := Z6.out; have Z7q := Z7.out; have Z8q := Z8.out; have Z9q := Z9.out; have Z10q := Z10.out; have Z11q := Z11.out; have Z12q := Z12.out; have Z13q := Z13.out; have Z14q := Z14.out; have Z15q := Z15.out; omega)
  have HB : Hid (Below w0.heap.size w0 y15) := hw.below HB.out HB.out.size (by have h1 := c_L.out; have h0 := HS0.out; have HS0q := HS0.out; have Z2q := Z2.out; have Z3q := Z3.out; have Z4q := Z4.out; have Z5q := Z5.out; have Z6q := Z6.out; have Z7q := Z7.out; have Z8q := Z8.out; have Z9q := Z9.out; have Z10q := Z10.out; have Z11q := Z11.out; have Z12q := Z12.out; have Z13q := Z13.out; have Z14q := Z14.out; have Z15q := Z15.out; omega)
  have HK : Hid (Kept w0.heap.size y15 k (fun g => g < w.heap.size)) := HK.out.wr hw (fun (h : c_b < w.heap.size) => by have h1 := c_L.out; have HS0q := HS0.out; have Z2q := Z2.out; have Z3q := Z3.out; have Z4q := Z4.out; have Z5q := Z5.out; have Z6q := Z6.out; have Z7q := Z7.out; have Z8q := Z8.out; have Z9q := Z9.out; have Z10q := Z10.out; have Z11q := Z11.out; have Z12q := Z12.out; have Z13q := Z13.out; have Z14q := Z14.out; have Z15q := Z15.out; omega) t_t
  clear hw t_t
  have f_b0 := blkC b_k 0 rfl
  have f_b1 := blkC b_k 1 rfl
  have f_b2 := blkC b_k 2 rfl
  go_wp2_with fail
  clear f_b0 f_b1 f_b2
  refine (back_any d_O.out (RowX.of0 HRB.out HB.out (by have h1 := d_L.out; have HS0q := HS0.out; have Z2q := Z2.out; have Z3q := Z3.out; have Z4q := Z4.out; have Z5q := Z5.out; have Z6q := Z6.out; have Z7q := Z7.out; have Z8q := Z8.out; have Z9q := Z9.out; have Z10q := Z10.out; have Z11q := Z11.out; have Z12q := Z12.out; have Z13q := Z13.out; have Z14q := Z14.out; have Z15q := Z15.out; have Z16q := Z16.out; omega)) (HRB.out.keeps HB.out) (by omega)).mono ?_
  rintro _ y16 ⟨rfl, hw⟩
  have Z17 : Hid (y15.heap.size ≤ y16.heap.size) := hw.size
  obtain ⟨t_cur, t_z, t_t⟩ := d_O.out.typed (g := d_b) rfl
  have a_k := numblk_wr hw t_t (by decide) a_k
  have b_k := numblk_wr hw t_t (by decide) b_k
  have x_k := numblk_wr hw t_t (by decide) x_k
  have y_k := numblk_wr hw t_t (by decide) y_k
  have p_k := numblk_wr hw t_t (by decide) p_k
  have q_k := numblk_wr hw t_t (by decide) q_k
  have r_k := numblk_wr hw t_t (by decide) r_k
  have p_F : Hid (DFitA y7.heap.size y16 SA (.agg #[.bool p_g, .slice p_o p_n p_c, .int .i64 p_e]) p_r) := p_F.out.wr hw (by have h1 := d_L.out; have HS0q := HS0.out; have Z2q := Z2.out; have Z3q := Z3.out; have Z4q := Z4.out; have Z5q := Z5.out; have Z6q := Z6.out; have Z7q := Z7.out; have Z8q := Z8.out; have Z9q := Z9.out; have Z10q := Z10.out; have Z11q := Z11.out; have Z12q := Z12.out; have Z13q := Z13.out; have Z14q := Z14.out; have Z15q := Z15.out; have Z16q := Z16.out; omega)
  have q_F : Hid (DFitA x9.heap.size y16 SD (.agg #[.bool q_g, .slice q_o q_n q_c, .int .i64 q_e]) q_r) := q_F.out.wr hw (by have h1 := d_L.out; have HS0q := HS0.out; have Z2q := Z2.out; have Z3q := Z3.out; have Z4q := Z4.out; have Z5q := Z5.out; have Z6q := Z6.out; have Z7q := Z7.out; have Z8q := Z8.out; have Z9q := Z9.out; have Z10q := Z10.out; have Z11q := Z11.out; have Z12q := Z12.out; have Z13q := Z13.out; have Z14q := Z14.out; have Z15q := Z15.out; have Z16q := Z16.out; omega)
  have r_F : Hid (DFitA x11.heap.size y16 SM (.agg #[.bool r_g, .slice r_o r_n r_c, .int .i64 r_e]) r_r) := r_F.out.wr hw (by have h1 := d_L.out; have HS0q := HS0.out; have Z2q := Z2.out; have Z3q := Z3.out; have Z4q := Z4.out; have Z5q := Z5.out; have Z6q := Z6.out; have Z7q := Z7.out; have Z8q := Z8.out; have Z9q := Z9.out; have Z10q := Z10.out; have Z11q := Z11.out; have Z12q := Z12.out; have Z13q := Z13.out; have Z14q := Z14.out; have Z15q := Z15.out; have Z16q := Z16.out; omega)
  have FR : Hid (Fr w y16) := FR.out.wr hw (by have h1 := d_L.out; have HS0q := HS0.out; have Z2q := Z2.out; have Z3q := Z3.out; have Z4q := Z4.out; have Z5q := Z5.out; have Z6q := Z6.out; have Z7q := Z7.out; have Z8q := Z8.out; have Z9q := Z9.out; have Z10q := Z10.out; have Z11q := Z11.out; have Z12q := Z12.out; have Z13q := Z13.out; have Z14q := Z14.out; have Z15q := Z15.out; have Z16q := Z16.out; omega) (by have HS0q := HS0.out; have Z2q := Z2.out; have Z3q := Z3.out; have Z4q := Z4.out; have Z5q := Z5.out; have Z6q := Z6.out; have Z7q := Z7.out; have Z8q := Z8.out; have Z9q := Z9.out; have Z10q := Z10.out; have Z11q := Z11.out; have Z12q := Z12.out; have Z13q := Z13.out; have Z14q := Z14.out; have Z15q := Z15.out; have Z16q := Z16.out; omega)
  have HB : Hid (Below w0.heap.size w0 y16) := hw.below HB.out HB.out.size (by have h1 := d_L.out; have h0 := HS0.out; have HS0q := HS0.out; have Z2q := Z2.out; have Z3q := Z3.out; have Z4q := Z4.out; have Z5q := Z5.out; have Z6q := Z6.out; have Z7q := Z7.out; have Z8q := Z8.out; have Z9q := Z9.out; have Z10q := Z10.out; have Z11q := Z11.out; have Z12q := Z12.out; have Z13q := Z13.out; have Z14q := Z14.out; have Z15q := Z15.out; have Z16q := Z16.out; omega)
  have HK : Hid (Kept w0.heap.size y16 k (fun g => g < w.heap.size)) := HK.out.wr hw (fun (h : d_b < w.heap.size) => by have h1 := d_L.out; have HS0q := HS0.out; have Z2q := Z2.out; have Z3q := Z3.out; have Z4q := Z4.out; have Z5q := Z5.out; have Z6q := Z6.out; have Z7q := Z7.out; have Z8q := Z8.out; have Z9q := Z9.out; have Z10q := Z10.out; have Z11q := Z11.out; have Z12q := Z12.out; have Z13q := Z13.out; have Z14q := Z14.out; have Z15q := Z15.out; have Z16q := Z16.out; omega) t_t
  clear hw t_t
  go_wp2_with fail
  have kc0 : (y16.drew.cell? ⟨w.heap.size, 0, none⟩ = some (.bool a_g) ∧ y16.drew.cell? ⟨w.heap.size, 1, none⟩ = some (.slice a_o a_n a_c) ∧ y16.drew.cell? ⟨w.heap.size, 2, none⟩ = some (.int .i64 a_e)) ∧ (y16.drew.cell? ⟨w.heap.size + 1, 0, none⟩ = some (.bool b_g) ∧ y16.drew.cell? ⟨w.heap.size + 1, 1, none⟩ = some (.slice b_o b_n b_c) ∧ y16.drew.cell? ⟨w.heap.size + 1, 2, none⟩ = some (.int .i64 b_e)) ∧ (y16.drew.cell? ⟨y8.heap.size, 0, none⟩ = some (.bool p_g) ∧ y16.drew.cell? ⟨y8.heap.size, 1, none⟩ = some (.slice p_o p_n p_c) ∧ y16.drew.cell? ⟨y8.heap.size, 2, none⟩ = some (.int .i64 p_e)) ∧ (y16.drew.cell? ⟨y10.heap.size, 0, none⟩ = some (.bool q_g) ∧ y16.drew.cell? ⟨y10.heap.size, 1, none⟩ = some (.slice q_o q_n q_c) ∧ y16.drew.cell? ⟨y10.heap.size, 2, none⟩ = some (.int .i64 q_e)) ∧ (y16.drew.cell? ⟨y12.heap.size, 0, none⟩ = some (.bool r_g) ∧ y16.drew.cell? ⟨y12.heap.size, 1, none⟩ = some (.slice r_o r_n r_c) ∧ y16.drew.cell? ⟨y12.heap.size, 2, none⟩ = some (.int .i64 r_e)) := ⟨⟨blkC a_k 0 rfl, blkC a_k 1 rfl, blkC a_k 2 rfl⟩, ⟨blkC b_k 0 rfl, blkC b_k 1 rfl, blkC b_k 2 rfl⟩, ⟨blkC p_k 0 rfl, blkC p_k 1 rfl, blkC p_k 2 rfl⟩, ⟨blkC q_k 0 rfl, blkC q_k 1 rfl, blkC q_k 2 rfl⟩, ⟨blkC r_k 0 rfl, blkC r_k 1 rfl, blkC r_k 2 rfl⟩⟩
  go_region_held3 (fun W => (W.cell? ⟨w.heap.size, 0, none⟩ = some (.bool a_g) ∧ W.cell? ⟨w.heap.size, 1, none⟩ = some (.slice a_o a_n a_c) ∧ W.cell? ⟨w.heap.size, 2, none⟩ = some (.int .i64 a_e)) ∧ (W.cell? ⟨w.heap.size + 1, 0, none⟩ = some (.bool b_g) ∧ W.cell? ⟨w.heap.size + 1, 1, none⟩ = some (.slice b_o b_n b_c) ∧ W.cell? ⟨w.heap.size + 1, 2, none⟩ = some (.int .i64 b_e)) ∧ (W.cell? ⟨y8.heap.size, 0, none⟩ = some (.bool p_g) ∧ W.cell? ⟨y8.heap.size, 1, none⟩ = some (.slice p_o p_n p_c) ∧ W.cell? ⟨y8.heap.size, 2, none⟩ = some (.int .i64 p_e)) ∧ (W.cell? ⟨y10.heap.size, 0, none⟩ = some (.bool q_g) ∧ W.cell? ⟨y10.heap.size, 1, none⟩ = some (.slice q_o q_n q_c) ∧ W.cell? ⟨y10.heap.size, 2, none⟩ = some (.int .i64 q_e)) ∧ (W.cell? ⟨y12.heap.size, 0, none⟩ = some (.bool r_g) ∧ W.cell? ⟨y12.heap.size, 1, none⟩ = some (.slice r_o r_n r_c) ∧ W.cell? ⟨y12.heap.size, 2, none⟩ = some (.int .i64 r_e)))
    (first | assumption)
    (first | (go_at_call 43; have _t := kc6; refine (RCMP.out _ HB.out).mono ?_; rintro _ y23 ⟨rfl, hw⟩; have Z24 : Hid (y22.heap.size ≤ y23.heap.size) := hw.size; have a_k := (hw.block _ (Array.getElem?_eq_some_iff.1 a_k).1).trans a_k; have b_k := (hw.block _ (Array.getElem?_eq_some_iff.1 b_k).1).trans b_k; have p_k := (hw.block _ (Array.getElem?_eq_some_iff.1 p_k).1).trans p_k; have q_k := (hw.block _ (Array.getElem?_eq_some_iff.1 q_k).1).trans q_k; have r_k := (hw.block _ (Array.getElem?_eq_some_iff.1 r_k).1).trans r_k; have p_F : Hid (DFitA y7.heap.size y23 SA (.agg #[.bool p_g, .slice p_o p_n p_c, .int .i64 p_e]) p_r) := p_F.out.keeps hw; have q_F : Hid (DFitA x9.heap.size y23 SD (.agg #[.bool q_g, .slice q_o q_n q_c, .int .i64 q_e]) q_r) := q_F.out.keeps hw; have r_F : Hid (DFitA x11.heap.size y23 SM (.agg #[.bool r_g, .slice r_o r_n r_c, .int .i64 r_e]) r_r) := r_F.out.keeps hw; have FR : Hid (Fr w y23) := FR.out.trans (Fr.of hw); have HB : Hid (Below w0.heap.size w0 y23) := HB.out.trans ((hw).mono HB.out.size); have HK : Hid (Kept w0.heap.size y23 k (S2 (S2 (S2 (fun g => g < w.heap.size) (.slice p_o p_n p_c) y17.heap.size) (.slice q_o q_n q_c) y19.heap.size) (.slice r_o r_n r_c) y21.heap.size)) := HK.out.keeps hw; have kc7 : (y23.cell? ⟨w.heap.size, 0, none⟩ = some (.bool a_g) ∧ y23.cell? ⟨w.heap.size, 1, none⟩ = some (.slice a_o a_n a_c) ∧ y23.cell? ⟨w.heap.size, 2, none⟩ = some (.int .i64 a_e)) ∧ (y23.cell? ⟨w.heap.size + 1, 0, none⟩ = some (.bool b_g) ∧ y23.cell? ⟨w.heap.size + 1, 1, none⟩ = some (.slice b_o b_n b_c) ∧ y23.cell? ⟨w.heap.size + 1, 2, none⟩ = some (.int .i64 b_e)) ∧ (y23.cell? ⟨y8.heap.size, 0, none⟩ = some (.bool p_g) ∧ y23.cell? ⟨y8.heap.size, 1, none⟩ = some (.slice p_o p_n p_c) ∧ y23.cell? ⟨y8.heap.size, 2, none⟩ = some (.int .i64 p_e)) ∧ (y23.cell? ⟨y10.heap.size, 0, none⟩ = some (.bool q_g) ∧ y23.cell? ⟨y10.heap.size, 1, none⟩ = some (.slice q_o q_n q_c) ∧ y23.cell? ⟨y10.heap.size, 2, none⟩ = some (.int .i64 q_e)) ∧ (y23.cell? ⟨y12.heap.size, 0, none⟩ = some (.bool r_g) ∧ y23.cell? ⟨y12.heap.size, 1, none⟩ = some (.slice r_o r_n r_c) ∧ y23.cell? ⟨y12.heap.size, 2, none⟩ = some (.int .i64 r_e)) := ⟨⟨blkC a_k 0 rfl, blkC a_k 1 rfl, blkC a_k 2 rfl⟩, ⟨blkC b_k 0 rfl, blkC b_k 1 rfl, blkC b_k 2 rfl⟩, ⟨blkC p_k 0 rfl, blkC p_k 1 rfl, blkC p_k 2 rfl⟩, ⟨blkC q_k 0 rfl, blkC q_k 1 rfl, blkC q_k 2 rfl⟩, ⟨blkC r_k 0 rfl, blkC r_k 1 rfl, blkC r_k 2 rfl⟩⟩) | (go_at_call 24; have _t := kc5; refine (is_any HK.out (r_F.out.lower (by have HS0q := HS0.out; have Z2q := Z2.out; have Z3q := Z3.out; have Z4q := Z4.out; have Z5q := Z5.out; have Z6q := Z6.out; have Z7q := Z7.out; have Z8q := Z8.out; have Z9q := Z9.out; have Z10q := Z10.out; have Z11q := Z11.out; have Z12q := Z12.out; have Z13q := Z13.out; have Z14q := Z14.out; have Z15q := Z15.out; have Z16q := Z16.out; have Z17q := Z17.out; have Z18q := Z18.out; have Z19q := Z19.out; have Z20q := Z20.out; have Z21q := Z21.out; have Z22q := Z22.out; omega)) want_D HB.out.size (fun g hg => (notS2 (notS2 (show ¬ g < w.heap.size from by have h1 := r_L.out g hg; have HS0q := HS0.out; have Z2q := Z2.out; have Z3q := Z3.out; have Z4q := Z4.out; have Z5q := Z5.out; have Z6q := Z6.out; have Z7q := Z7.out; have Z8q := Z8.out; have Z9q := Z9.out; have Z10q := Z10.out; have Z11q := Z11.out; have Z12q := Z12.out; have Z13q := Z13.out; have Z14q := Z14.out; have Z15q := Z15.out; have Z16q := Z16.out; have Z17q := Z17.out; have Z18q := Z18.out; have Z19q := Z19.out; have Z20q := Z20.out; have Z21q := Z21.out; have Z22q := Z22.out; omega) (fun hl => by have h1 := r_L.out g hg; have h2 := p_L.out g hl; have HS0q := HS0.out; have Z2q := Z2.out; have Z3q := Z3.out; have Z4q := Z4.out; have Z5q := Z5.out; have Z6q := Z6.out; have Z7q := Z7.out; have Z8q := Z8.out; have Z9q := Z9.out; have Z10q := Z10.out; have Z11q := Z11.out; have Z12q := Z12.out; have Z13q := Z13.out; have Z14q := Z14.out; have Z15q := Z15.out; have Z16q := Z16.out; have Z17q := Z17.out; have Z18q := Z18.out; have Z19q := Z19.out; have Z20q := Z20.out; have Z21q := Z21.out; have Z22q := Z22.out; omega) (by have h1 := r_L.out g hg; have HS0q := HS0.out; have Z2q := Z2.out; have Z3q := Z3.out; have Z4q := Z4.out; have Z5q := Z5.out; have Z6q := Z6.out; have Z7q := Z7.out; have Z8q := Z8.out; have Z9q := Z9.out; have Z10q := Z10.out; have Z11q := Z11.out; have Z12q := Z12.out; have Z13q := Z13.out; have Z14q := Z14.out; have Z15q := Z15.out; have Z16q := Z16.out; have Z17q := Z17.out; have Z18q := Z18.out; have Z19q := Z19.out; have Z20q := Z20.out; have Z21q := Z21.out; have Z22q := Z22.out; omega)) (fun hl => by have h1 := r_L.out g hg; have h2 := q_L.out g hl; have HS0q := HS0.out; have Z2q := Z2.out; have Z3q := Z3.out; have Z4q := Z4.out; have Z5q := Z5.out; have Z6q := Z6.out; have Z7q := Z7.out; have Z8q := Z8.out; have Z9q := Z9.out; have Z10q := Z10.out; have Z11q := Z11.out; have Z12q := Z12.out; have Z13q := Z13.out; have Z14q := Z14.out; have Z15q := Z15.out; have Z16q := Z16.out; have Z17q := Z17.out; have Z18q := Z18.out; have Z19q := Z19.out; have Z20q := Z20.out; have Z21q := Z21.out; have Z22q := Z22.out; omega) (by have h1 := r_L.out g hg; have HS0q := HS0.out; have Z2q := Z2.out; have Z3q := Z3.out; have Z4q := Z4.out; have Z5q := Z5.out; have Z6q := Z6.out; have Z7q := Z7.out; have Z8q := Z8.out; have Z9q := Z9.out; have Z10q := Z10.out; have Z11q := Z11.out; have Z12q := Z12.out; have Z13q := Z13.out; have Z14q := Z14.out; have Z15q := Z15.out; have Z16q := Z16.out; have Z17q := Z17.out; have Z18q := Z18.out; have Z19q := Z19.out; have Z20q := Z20.out; have Z21q := Z21.out; have Z22q := Z22.out; omega)))).mono ?_; rintro _ y22 ⟨rfl, hw, hk9⟩; have Z23 : Hid (y21.heap.size ≤ y22.heap.size) := hw.below.size; have a_k := (hw.block _ _ _ _ (by decide) (by decide) a_k).trans a_k; have b_k := (hw.block _ _ _ _ (by decide) (by decide) b_k).trans b_k; have p_k := (hw.block _ _ _ _ (by decide) (by decide) p_k).trans p_k; have q_k := (hw.block _ _ _ _ (by decide) (by decide) q_k).trans q_k; have r_k := (hw.block _ _ _ _ (by decide) (by decide) r_k).trans r_k; have p_F : Hid (DFitA y7.heap.size y22 SA (.agg #[.bool p_g, .slice p_o p_n p_c, .int .i64 p_e]) p_r) := p_F.out.ik hw; have q_F : Hid (DFitA x9.heap.size y22 SD (.agg #[.bool q_g, .slice q_o q_n q_c, .int .i64 q_e]) q_r) := q_F.out.ik hw; have r_F : Hid (DFitA x11.heap.size y22 SM (.agg #[.bool r_g, .slice r_o r_n r_c, .int .i64 r_e]) r_r) := r_F.out.ik hw; have FR : Hid (Fr w y22) := FR.out.trans (hw.fr); have HB : Hid (Below w0.heap.size w0 y22) := HB.out.trans (hw.below); have HK : Hid (Kept w0.heap.size y22 k (S2 (S2 (S2 (fun g => g < w.heap.size) (.slice p_o p_n p_c) y17.heap.size) (.slice q_o q_n q_c) y19.heap.size) (.slice r_o r_n r_c) y21.heap.size)) := hk9; have kc6 : (y22.cell? ⟨w.heap.size, 0, none⟩ = some (.bool a_g) ∧ y22.cell? ⟨w.heap.size, 1, none⟩ = some (.slice a_o a_n a_c) ∧ y22.cell? ⟨w.heap.size, 2, none⟩ = some (.int .i64 a_e)) ∧ (y22.cell? ⟨w.heap.size + 1, 0, none⟩ = some (.bool b_g) ∧ y22.cell? ⟨w.heap.size + 1, 1, none⟩ = some (.slice b_o b_n b_c) ∧ y22.cell? ⟨w.heap.size + 1, 2, none⟩ = some (.int .i64 b_e)) ∧ (y22.cell? ⟨y8.heap.size, 0, none⟩ = some (.bool p_g) ∧ y22.cell? ⟨y8.heap.size, 1, none⟩ = some (.slice p_o p_n p_c) ∧ y22.cell? ⟨y8.heap.size, 2, none⟩ = some (.int .i64 p_e)) ∧ (y22.cell? ⟨y10.heap.size, 0, none⟩ = some (.bool q_g) ∧ y22.cell? ⟨y10.heap.size, 1, none⟩ = some (.slice q_o q_n q_c) ∧ y22.cell? ⟨y10.heap.size, 2, none⟩ = some (.int .i64 q_e)) ∧ (y22.cell? ⟨y12.heap.size, 0, none⟩ = some (.bool r_g) ∧ y22.cell? ⟨y12.heap.size, 1, none⟩ = some (.slice r_o r_n r_c) ∧ y22.cell? ⟨y12.heap.size, 2, none⟩ = some (.int .i64 r_e)) := ⟨⟨blkC a_k 0 rfl, blkC a_k 1 rfl, blkC a_k 2 rfl⟩, ⟨blkC b_k 0 rfl, blkC b_k 1 rfl, blkC b_k 2 rfl⟩, ⟨blkC p_k 0 rfl, blkC p_k 1 rfl, blkC p_k 2 rfl⟩, ⟨blkC q_k 0 rfl, blkC q_k 1 rfl, blkC q_k 2 rfl⟩, ⟨blkC r_k 0 rfl, blkC r_k 1 rfl, blkC r_k 2 rfl⟩⟩) | (go_at_call 42; have _t := kc4; refine (RMUL.out _ HB.out).mono ?_; rintro _ y21 ⟨vr, rfl, hw, want_D⟩; have Z22 : Hid (y20.heap.size ≤ y21.heap.size) := hw.size; have a_k := (hw.block _ (Array.getElem?_eq_some_iff.1 a_k).1).trans a_k; have b_k := (hw.block _ (Array.getElem?_eq_some_iff.1 b_k).1).trans b_k; have p_k := (hw.block _ (Array.getElem?_eq_some_iff.1 p_k).1).trans p_k; have q_k := (hw.block _ (Array.getElem?_eq_some_iff.1 q_k).1).trans q_k; have r_k := (hw.block _ (Array.getElem?_eq_some_iff.1 r_k).1).trans r_k; have p_F : Hid (DFitA y7.heap.size y21 SA (.agg #[.bool p_g, .slice p_o p_n p_c, .int .i64 p_e]) p_r) := p_F.out.keeps hw; have q_F : Hid (DFitA x9.heap.size y21 SD (.agg #[.bool q_g, .slice q_o q_n q_c, .int .i64 q_e]) q_r) := q_F.out.keeps hw; have r_F : Hid (DFitA x11.heap.size y21 SM (.agg #[.bool r_g, .slice r_o r_n r_c, .int .i64 r_e]) r_r) := r_F.out.keeps hw; have FR : Hid (Fr w y21) := FR.out.trans (Fr.of hw); have HB : Hid (Below w0.heap.size w0 y21) := HB.out.trans ((hw).mono HB.out.size); have HK : Hid (Kept w0.heap.size y21 k (S2 (S2 (fun g => g < w.heap.size) (.slice p_o p_n p_c) y17.heap.size) (.slice q_o q_n q_c) y19.heap.size)) := HK.out.keeps hw; have kc5 : (y21.cell? ⟨w.heap.size, 0, none⟩ = some (.bool a_g) ∧ y21.cell? ⟨w.heap.size, 1, none⟩ = some (.slice a_o a_n a_c) ∧ y21.cell? ⟨w.heap.size, 2, none⟩ = some (.int .i64 a_e)) ∧ (y21.cell? ⟨w.heap.size + 1, 0, none⟩ = some (.bool b_g) ∧ y21.cell? ⟨w.heap.size + 1, 1, none⟩ = some (.slice b_o b_n b_c) ∧ y21.cell? ⟨w.heap.size + 1, 2, none⟩ = some (.int .i64 b_e)) ∧ (y21.cell? ⟨y8.heap.size, 0, none⟩ = some (.bool p_g) ∧ y21.cell? ⟨y8.heap.size, 1, none⟩ = some (.slice p_o p_n p_c) ∧ y21.cell? ⟨y8.heap.size, 2, none⟩ = some (.int .i64 p_e)) ∧ (y21.cell? ⟨y10.heap.size, 0, none⟩ = some (.bool q_g) ∧ y21.cell? ⟨y10.heap.size, 1, none⟩ = some (.slice q_o q_n q_c) ∧ y21.cell? ⟨y10.heap.size, 2, none⟩ = some (.int .i64 q_e)) ∧ (y21.cell? ⟨y12.heap.size, 0, none⟩ = some (.bool r_g) ∧ y21.cell? ⟨y12.heap.size, 1, none⟩ = some (.slice r_o r_n r_c) ∧ y21.cell? ⟨y12.heap.size, 2, none⟩ = some (.int .i64 r_e)) := ⟨⟨blkC a_k 0 rfl, blkC a_k 1 rfl, blkC a_k 2 rfl⟩, ⟨blkC b_k 0 rfl, blkC b_k 1 rfl, blkC b_k 2 rfl⟩, ⟨blkC p_k 0 rfl, blkC p_k 1 rfl, blkC p_k 2 rfl⟩, ⟨blkC q_k 0 rfl, blkC q_k 1 rfl, blkC q_k 2 rfl⟩, ⟨blkC r_k 0 rfl, blkC r_k 1 rfl, blkC r_k 2 rfl⟩⟩) | (go_at_call 24; have _t := kc3; refine (is_any HK.out (q_F.out.lower (by have HS0q := HS0.out; have Z2q := Z2.out; have Z3q := Z3.out; have Z4q := Z4.out; have Z5q := Z5.out; have Z6q := Z6.out; have Z7q := Z7.out; have Z8q := Z8.out; have Z9q := Z9.out; have Z10q := Z10.out; have Z11q := Z11.out; have Z12q := Z12.out; have Z13q := Z13.out; have Z14q := Z14.out; have Z15q := Z15.out; have Z16q := Z16.out; have Z17q := Z17.out; have Z18q := Z18.out; have Z19q := Z19.out; have Z20q := Z20.out; omega)) want_D HB.out.size (fun g hg => (notS2 (show ¬ g < w.heap.size from by have h1 := q_L.out g hg; have HS0q := HS0.out; have Z2q := Z2.out; have Z3q := Z3.out; have Z4q := Z4.out; have Z5q := Z5.out; have Z6q := Z6.out; have Z7q := Z7.out; have Z8q := Z8.out; have Z9q := Z9.out; have Z10q := Z10.out; have Z11q := Z11.out; have Z12q := Z12.out; have Z13q := Z13.out; have Z14q := Z14.out; have Z15q := Z15.out; have Z16q := Z16.out; have Z17q := Z17.out; have Z18q := Z18.out; have Z19q := Z19.out; have Z20q := Z20.out; omega) (fun hl => by have h1 := q_L.out g hg; have h2 := p_L.out g hl; have HS0q := HS0.out; have Z2q := Z2.out; have Z3q := Z3.out; have Z4q := Z4.out; have Z5q := Z5.out; have Z6q := Z6.out; have Z7q := Z7.out; have Z8q := Z8.out; have Z9q := Z9.out; have Z10q := Z10.out; have Z11q := Z11.out; have Z12q := Z12.out; have Z13q := Z13.out; have Z14q := Z14.out; have Z15q := Z15.out; have Z16q := Z16.out; have Z17q := Z17.out; have Z18q := Z18.out; have Z19q := Z19.out; have Z20q := Z20.out; omega) (by have h1 := q_L.out g hg; have HS0q := HS0.out; have Z2q := Z2.out; have Z3q := Z3.out; have Z4q := Z4.out; have Z5q := Z5.out; have Z6q := Z6.out; have Z7q := Z7.out; have Z8q := Z8.out; have Z9q := Z9.out; have Z10q := Z10.out; have Z11q := Z11.out; have Z12q := Z12.out; have Z13q := Z13.out; have Z14q := Z14.out; have Z15q := Z15.out; have Z16q := Z16.out; have Z17q := Z17.out; have Z18q := Z18.out; have Z19q := Z19.out; have Z20q := Z20.out; omega)))).mono ?_; rintro _ y20 ⟨rfl, hw, hk9⟩; have Z21 : Hid (y19.heap.size ≤ y20.heap.size) := hw.below.size; have a_k := (hw.block _ _ _ _ (by decide) (by decide) a_k).trans a_k; have b_k := (hw.block _ _ _ _ (by decide) (by decide) b_k).trans b_k; have p_k := (hw.block _ _ _ _ (by decide) (by decide) p_k).trans p_k; have q_k := (hw.block _ _ _ _ (by decide) (by decide) q_k).trans q_k; have r_k := (hw.block _ _ _ _ (by decide) (by decide) r_k).trans r_k; have p_F : Hid (DFitA y7.heap.size y20 SA (.agg #[.bool p_g, .slice p_o p_n p_c, .int .i64 p_e]) p_r) := p_F.out.ik hw; have q_F : Hid (DFitA x9.heap.size y20 SD (.agg #[.bool q_g, .slice q_o q_n q_c, .int .i64 q_e]) q_r) := q_F.out.ik hw; have r_F : Hid (DFitA x11.heap.size y20 SM (.agg #[.bool r_g, .slice r_o r_n r_c, .int .i64 r_e]) r_r) := r_F.out.ik hw; have FR : Hid (Fr w y20) := FR.out.trans (hw.fr); have HB : Hid (Below w0.heap.size w0 y20) := HB.out.trans (hw.below); have HK : Hid (Kept w0.heap.size y20 k (S2 (S2 (fun g => g < w.heap.size) (.slice p_o p_n p_c) y17.heap.size) (.slice q_o q_n q_c) y19.heap.size)) := hk9; have kc4 : (y20.cell? ⟨w.heap.size, 0, none⟩ = some (.bool a_g) ∧ y20.cell? ⟨w.heap.size, 1, none⟩ = some (.slice a_o a_n a_c) ∧ y20.cell? ⟨w.heap.size, 2, none⟩ = some (.int .i64 a_e)) ∧ (y20.cell? ⟨w.heap.size + 1, 0, none⟩ = some (.bool b_g) ∧ y20.cell? ⟨w.heap.size + 1, 1, none⟩ = some (.slice b_o b_n b_c) ∧ y20.cell? ⟨w.heap.size + 1, 2, none⟩ = some (.int .i64 b_e)) ∧ (y20.cell? ⟨y8.heap.size, 0, none⟩ = some (.bool p_g) ∧ y20.cell? ⟨y8.heap.size, 1, none⟩ = some (.slice p_o p_n p_c) ∧ y20.cell? ⟨y8.heap.size, 2, none⟩ = some (.int .i64 p_e)) ∧ (y20.cell? ⟨y10.heap.size, 0, none⟩ = some (.bool q_g) ∧ y20.cell? ⟨y10.heap.size, 1, none⟩ = some (.slice q_o q_n q_c) ∧ y20.cell? ⟨y10.heap.size, 2, none⟩ = some (.int .i64 q_e)) ∧ (y20.cell? ⟨y12.heap.size, 0, none⟩ = some (.bool r_g) ∧ y20.cell? ⟨y12.heap.size, 1, none⟩ = some (.slice r_o r_n r_c) ∧ y20.cell? ⟨y12.heap.size, 2, none⟩ = some (.int .i64 r_e)) := ⟨⟨blkC a_k 0 rfl, blkC a_k 1 rfl, blkC a_k 2 rfl⟩, ⟨blkC b_k 0 rfl, blkC b_k 1 rfl, blkC b_k 2 rfl⟩, ⟨blkC p_k 0 rfl, blkC p_k 1 rfl, blkC p_k 2 rfl⟩, ⟨blkC q_k 0 rfl, blkC q_k 1 rfl, blkC q_k 2 rfl⟩, ⟨blkC r_k 0 rfl, blkC r_k 1 rfl, blkC r_k 2 rfl⟩⟩) | (go_at_call 41; have _t := kc2; refine (RSUB.out _ HB.out).mono ?_; rintro _ y19 ⟨vq, rfl, hw, want_D⟩; have Z20 : Hid (y18.heap.size ≤ y19.heap.size) := hw.size; have a_k := (hw.block _ (Array.getElem?_eq_some_iff.1 a_k).1).trans a_k; have b_k := (hw.block _ (Array.getElem?_eq_some_iff.1 b_k).1).trans b_k; have p_k := (hw.block _ (Array.getElem?_eq_some_iff.1 p_k).1).trans p_k; have q_k := (hw.block _ (Array.getElem?_eq_some_iff.1 q_k).1).trans q_k; have r_k := (hw.block _ (Array.getElem?_eq_some_iff.1 r_k).1).trans r_k; have p_F : Hid (DFitA y7.heap.size y19 SA (.agg #[.bool p_g, .slice p_o p_n p_c, .int .i64 p_e]) p_r) := p_F.out.keeps hw; have q_F : Hid (DFitA x9.heap.size y19 SD (.agg #[.bool q_g, .slice q_o q_n q_c, .int .i64 q_e]) q_r) := q_F.out.keeps hw; have r_F : Hid (DFitA x11.heap.size y19 SM (.agg #[.bool r_g, .slice r_o r_n r_c, .int .i64 r_e]) r_r) := r_F.out.keeps hw; have FR : Hid (Fr w y19) := FR.out.trans (Fr.of hw); have HB : Hid (Below w0.heap.size w0 y19) := HB.out.trans ((hw).mono HB.out.size); have HK : Hid (Kept w0.heap.size y19 k (S2 (fun g => g < w.heap.size) (.slice p_o p_n p_c) y17.heap.size)) := HK.out.keeps hw; have kc3 : (y19.cell? ⟨w.heap.size, 0, none⟩ = some (.bool a_g) ∧ y19.cell? ⟨w.heap.size, 1, none⟩ = some (.slice a_o a_n a_c) ∧ y19.cell? ⟨w.heap.size, 2, none⟩ = some (.int .i64 a_e)) ∧ (y19.cell? ⟨w.heap.size + 1, 0, none⟩ = some (.bool b_g) ∧ y19.cell? ⟨w.heap.size + 1, 1, none⟩ = some (.slice b_o b_n b_c) ∧ y19.cell? ⟨w.heap.size + 1, 2, none⟩ = some (.int .i64 b_e)) ∧ (y19.cell? ⟨y8.heap.size, 0, none⟩ = some (.bool p_g) ∧ y19.cell? ⟨y8.heap.size, 1, none⟩ = some (.slice p_o p_n p_c) ∧ y19.cell? ⟨y8.heap.size, 2, none⟩ = some (.int .i64 p_e)) ∧ (y19.cell? ⟨y10.heap.size, 0, none⟩ = some (.bool q_g) ∧ y19.cell? ⟨y10.heap.size, 1, none⟩ = some (.slice q_o q_n q_c) ∧ y19.cell? ⟨y10.heap.size, 2, none⟩ = some (.int .i64 q_e)) ∧ (y19.cell? ⟨y12.heap.size, 0, none⟩ = some (.bool r_g) ∧ y19.cell? ⟨y12.heap.size, 1, none⟩ = some (.slice r_o r_n r_c) ∧ y19.cell? ⟨y12.heap.size, 2, none⟩ = some (.int .i64 r_e)) := ⟨⟨blkC a_k 0 rfl, blkC a_k 1 rfl, blkC a_k 2 rfl⟩, ⟨blkC b_k 0 rfl, blkC b_k 1 rfl, blkC b_k 2 rfl⟩, ⟨blkC p_k 0 rfl, blkC p_k 1 rfl, blkC p_k 2 rfl⟩, ⟨blkC q_k 0 rfl, blkC q_k 1 rfl, blkC q_k 2 rfl⟩, ⟨blkC r_k 0 rfl, blkC r_k 1 rfl, blkC r_k 2 rfl⟩⟩) | (go_at_call 24; have _t := kc1; refine (is_any HK.out (p_F.out.lower (by have HS0q := HS0.out; have Z2q := Z2.out; have Z3q := Z3.out; have Z4q := Z4.out; have Z5q := Z5.out; have Z6q := Z6.out; have Z7q := Z7.out; have Z8q := Z8.out; have Z9q := Z9.out; have Z10q := Z10.out; have Z11q := Z11.out; have Z12q := Z12.out; have Z13q := Z13.out; have Z14q := Z14.out; have Z15q := Z15.out; have Z16q := Z16.out; have Z17q := Z17.out; have Z18q := Z18.out; omega)) want_D HB.out.size (fun g hg => (show ¬ g < w.heap.size from by have h1 := p_L.out g hg; have HS0q := HS0.out; have Z2q := Z2.out; have Z3q := Z3.out; have Z4q := Z4.out; have Z5q := Z5.out; have Z6q := Z6.out; have Z7q := Z7.out; have Z8q := Z8.out; have Z9q := Z9.out; have Z10q := Z10.out; have Z11q := Z11.out; have Z12q := Z12.out; have Z13q := Z13.out; have Z14q := Z14.out; have Z15q := Z15.out; have Z16q := Z16.out; have Z17q := Z17.out; have Z18q := Z18.out; omega))).mono ?_; rintro _ y18 ⟨rfl, hw, hk9⟩; have Z19 : Hid (y17.heap.size ≤ y18.heap.size) := hw.below.size; have a_k := (hw.block _ _ _ _ (by decide) (by decide) a_k).trans a_k; have b_k := (hw.block _ _ _ _ (by decide) (by decide) b_k).trans b_k; have p_k := (hw.block _ _ _ _ (by decide) (by decide) p_k).trans p_k; have q_k := (hw.block _ _ _ _ (by decide) (by decide) q_k).trans q_k; have r_k := (hw.block _ _ _ _ (by decide) (by decide) r_k).trans r_k; have p_F : Hid (DFitA y7.heap.size y18 SA (.agg #[.bool p_g, .slice p_o p_n p_c, .int .i64 p_e]) p_r) := p_F.out.ik hw; have q_F : Hid (DFitA x9.heap.size y18 SD (.agg #[.bool q_g, .slice q_o q_n q_c, .int .i64 q_e]) q_r) := q_F.out.ik hw; have r_F : Hid (DFitA x11.heap.size y18 SM (.agg #[.bool r_g, .slice r_o r_n r_c, .int .i64 r_e]) r_r) := r_F.out.ik hw; have FR : Hid (Fr w y18) := FR.out.trans (hw.fr); have HB : Hid (Below w0.heap.size w0 y18) := HB.out.trans (hw.below); have HK : Hid (Kept w0.heap.size y18 k (S2 (fun g => g < w.heap.size) (.slice p_o p_n p_c) y17.heap.size)) := hk9; have kc2 : (y18.cell? ⟨w.heap.size, 0, none⟩ = some (.bool a_g) ∧ y18.cell? ⟨w.heap.size, 1, none⟩ = some (.slice a_o a_n a_c) ∧ y18.cell? ⟨w.heap.size, 2, none⟩ = some (.int .i64 a_e)) ∧ (y18.cell? ⟨w.heap.size + 1, 0, none⟩ = some (.bool b_g) ∧ y18.cell? ⟨w.heap.size + 1, 1, none⟩ = some (.slice b_o b_n b_c) ∧ y18.cell? ⟨w.heap.size + 1, 2, none⟩ = some (.int .i64 b_e)) ∧ (y18.cell? ⟨y8.heap.size, 0, none⟩ = some (.bool p_g) ∧ y18.cell? ⟨y8.heap.size, 1, none⟩ = some (.slice p_o p_n p_c) ∧ y18.cell? ⟨y8.heap.size, 2, none⟩ = some (.int .i64 p_e)) ∧ (y18.cell? ⟨y10.heap.size, 0, none⟩ = some (.bool q_g) ∧ y18.cell? ⟨y10.heap.size, 1, none⟩ = some (.slice q_o q_n q_c) ∧ y18.cell? ⟨y10.heap.size, 2, none⟩ = some (.int .i64 q_e)) ∧ (y18.cell? ⟨y12.heap.size, 0, none⟩ = some (.bool r_g) ∧ y18.cell? ⟨y12.heap.size, 1, none⟩ = some (.slice r_o r_n r_c) ∧ y18.cell? ⟨y12.heap.size, 2, none⟩ = some (.int .i64 r_e)) := ⟨⟨blkC a_k 0 rfl, blkC a_k 1 rfl, blkC a_k 2 rfl⟩, ⟨blkC b_k 0 rfl, blkC b_k 1 rfl, blkC b_k 2 rfl⟩, ⟨blkC p_k 0 rfl, blkC p_k 1 rfl, blkC p_k 2 rfl⟩, ⟨blkC q_k 0 rfl, blkC q_k 1 rfl, blkC q_k 2 rfl⟩, ⟨blkC r_k 0 rfl, blkC r_k 1 rfl, blkC r_k 2 rfl⟩⟩) | (go_at_call 40; have _t := kc0; refine (RADD.out _ HB.out.drew).mono ?_; rintro _ y17 ⟨vp, rfl, hw, want_D⟩; have hw := bel_trans (bel_refl y16).drew hw; have Z18 : Hid (y16.heap.size ≤ y17.heap.size) := hw.size; have a_k := (hw.block _ (Array.getElem?_eq_some_iff.1 a_k).1).trans a_k; have b_k := (hw.block _ (Array.getElem?_eq_some_iff.1 b_k).1).trans b_k; have p_k := (hw.block _ (Array.getElem?_eq_some_iff.1 p_k).1).trans p_k; have q_k := (hw.block _ (Array.getElem?_eq_some_iff.1 q_k).1).trans q_k; have r_k := (hw.block _ (Array.getElem?_eq_some_iff.1 r_k).1).trans r_k; have p_F : Hid (DFitA y7.heap.size y17 SA (.agg #[.bool p_g, .slice p_o p_n p_c, .int .i64 p_e]) p_r) := p_F.out.keeps hw; have q_F : Hid (DFitA x9.heap.size y17 SD (.agg #[.bool q_g, .slice q_o q_n q_c, .int .i64 q_e]) q_r) := q_F.out.keeps hw; have r_F : Hid (DFitA x11.heap.size y17 SM (.agg #[.bool r_g, .slice r_o r_n r_c, .int .i64 r_e]) r_r) := r_F.out.keeps hw; have FR : Hid (Fr w y17) := FR.out.trans (Fr.of hw); have HB : Hid (Below w0.heap.size w0 y17) := HB.out.trans ((hw).mono HB.out.size); have HK : Hid (Kept w0.heap.size y17 k (fun g => g < w.heap.size)) := HK.out.keeps hw; have kc1 : (y17.cell? ⟨w.heap.size, 0, none⟩ = some (.bool a_g) ∧ y17.cell? ⟨w.heap.size, 1, none⟩ = some (.slice a_o a_n a_c) ∧ y17.cell? ⟨w.heap.size, 2, none⟩ = some (.int .i64 a_e)) ∧ (y17.cell? ⟨w.heap.size + 1, 0, none⟩ = some (.bool b_g) ∧ y17.cell? ⟨w.heap.size + 1, 1, none⟩ = some (.slice b_o b_n b_c) ∧ y17.cell? ⟨w.heap.size + 1, 2, none⟩ = some (.int .i64 b_e)) ∧ (y17.cell? ⟨y8.heap.size, 0, none⟩ = some (.bool p_g) ∧ y17.cell? ⟨y8.heap.size, 1, none⟩ = some (.slice p_o p_n p_c) ∧ y17.cell? ⟨y8.heap.size, 2, none⟩ = some (.int .i64 p_e)) ∧ (y17.cell? ⟨y10.heap.size, 0, none⟩ = some (.bool q_g) ∧ y17.cell? ⟨y10.heap.size, 1, none⟩ = some (.slice q_o q_n q_c) ∧ y17.cell? ⟨y10.heap.size, 2, none⟩ = some (.int .i64 q_e)) ∧ (y17.cell? ⟨y12.heap.size, 0, none⟩ = some (.bool r_g) ∧ y17.cell? ⟨y12.heap.size, 1, none⟩ = some (.slice r_o r_n r_c) ∧ y17.cell? ⟨y12.heap.size, 2, none⟩ = some (.int .i64 r_e)) := ⟨⟨blkC a_k 0 rfl, blkC a_k 1 rfl, blkC a_k 2 rfl⟩, ⟨blkC b_k 0 rfl, blkC b_k 1 rfl, blkC b_k 2 rfl⟩, ⟨blkC p_k 0 rfl, blkC p_k 1 rfl, blkC p_k 2 rfl⟩, ⟨blkC q_k 0 rfl, blkC q_k 1 rfl, blkC q_k 2 rfl⟩, ⟨blkC r_k 0 rfl, blkC r_k 1 rfl, blkC r_k 2 rfl⟩⟩))
  all_goals go_wp2
  all_goals
    go_ret
    exact ⟨rfl, HB.out, _, HK.out, FR.out⟩
end Go.Proofs.YtnhkagiionkjaaaGreatDoor
