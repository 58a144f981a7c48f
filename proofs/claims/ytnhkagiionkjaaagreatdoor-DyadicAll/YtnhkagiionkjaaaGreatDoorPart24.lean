/-
  plumblaw3.ones: the calls with one number: it answers true, what it keeps is kept, and it turns nothing that was there ahead of the law.
-/
import Derived.Test.YtnhkagiionkjaaaGreatDoorPart23
import Derived.Test.YtnhkagiionkjaaaGreatDoorPart21
namespace Go.Proofs.YtnhkagiionkjaaaGreatDoor
open Go Go.RowKit Go.Proofs.YtnhkagiionkjaaaGreatDoor.M
set_option linter.unusedSimpArgs false
set_option linter.unusedVariables false

theorem zeroV_inj {xg : Bool} {xo : Option Addr} {xn xc : Nat} {xe : Int} (hz : Value.agg #[.bool xg, .slice xo xn xc, .int .i64 xe] = zeroV) : xg = false ∧ xo = none ∧ xn = 0 ∧ xc = 0 ∧ xe = 0 := by
  simp only [zeroV, Value.agg.injEq, Array.mk.injEq, List.cons.injEq, Value.bool.injEq, Value.int.injEq, Value.slice.injEq, and_true, true_and] at hz
  exact ⟨hz.1, hz.2.1.1, hz.2.1.2.1, hz.2.1.2.2, hz.2.2⟩
theorem fitA_dan {B : Nat} {w : World} {v : Value} {V er : Int} (h : DFitA B w V v er) (ok : Dok V) : DAn B w V v := by
  rcases h with ⟨_, _, h⟩ | ⟨h, _⟩
  · exact h
  · exact absurd ok h
theorem fitA_num {B : Nat} {w : World} {v : Value} {V er : Int} (h : DFitA B w V v er) (ok : Dok V) : DNum w v V := (fitA_dan h ok).num
theorem drd_opp {w0 W : World} {a : NumR} (ra : Row w0 a.ao a.n a.cap a.d) (ok : okR a = true) (hb : Below w0.heap.size w0 W) : DRd w0.heap.size W (-a.V) a.opp.v := by
  have hd := neg_dy ok
  refine ⟨_, _, _, _, a.d, _, rfl, ?_, (okR_sane ok).1, Rd.of0 ra hb⟩
  have e : (if a.n = 0 then a.ng else !a.ng) = (!a.ng && decide (0 < a.n)) := by
    by_cases h0 : a.n = 0
    · rw [if_pos h0]
      rcases of_decide_eq_true ok with ⟨_, h2, _⟩ | ⟨h1, _⟩
      · simp [h0, h2]
      · omega
    · rw [if_neg h0]
      simp [show 0 < a.n by omega]
  show Dy (-a.V) (if a.n = 0 then a.ng else !a.ng) (val a.d a.n) a.e
  rw [e]
  exact hd
theorem drd_abs {w0 W : World} {a : NumR} (ra : Row w0 a.ao a.n a.cap a.d) (ok : okR a = true) (hb : Below w0.heap.size w0 W) : DRd w0.heap.size W (a.V.natAbs : Int) (.agg #[.bool false, .slice a.ao a.n a.cap, .int .i64 a.e]) := by
  have hd := abs_dy ok
  rw [Bool.false_and] at hd
  exact ⟨_, _, _, _, a.d, _, rfl, hd, (okR_sane ok).1, Rd.of0 ra hb⟩
theorem dok_neg {a : NumR} (ok : okR a = true) : Dok (-a.V) := (neg_dy ok).ok.2 ((okR_dy ok).1.ok.1 (okR_dy ok).2.2)
theorem dok_abs {a : NumR} (ok : okR a = true) : Dok (a.V.natAbs : Int) := (abs_dy ok).ok.2 ((okR_dy ok).1.ok.1 (okR_dy ok).2.2)
set_option maxRecDepth 100000 in
set_option maxHeartbeats 8000000 in
theorem ones_ok {w0 : World} (a : NumR) (ra : Row w0 a.ao a.n a.cap a.d) (hn : a.n ≤ 2100) (he : rng a.e) (i : Int) (hi : rng i) (w : World) (hb0 : Below w0.heap.size w0 w) {k : Nat} {S : Nat → Prop} (hk : Kept w0.heap.size w k S) (hT : Tab w0) (L : Lay64 w0) (ok : okR a = true) :
    Calls Tryz.prog 7 #[.pointer (some ⟨k, 0, none⟩), a.v, .int .i64 i] w fun e w' => e = .returned (.bool true) ∧ Below w0.heap.size w0 w' ∧ ∃ S', Kept w0.heap.size w' k S' ∧ Fr w w' := by
  obtain ⟨AV, hAV⟩ : ∃ V, V = a.V := ⟨_, rfl⟩
  obtain ⟨SV, hSV⟩ : ∃ V, V = mkV a.ng (val a.d a.n) (a.e + i) := ⟨_, rfl⟩
  obtain ⟨fb, hfb⟩ : ∃ V, V = flB a := ⟨_, rfl⟩
  obtain ⟨fk, hfk⟩ : ∃ V, V = flK a := ⟨_, rfl⟩
  have CN : Hid (∀ W b c, Row W (some ⟨b, 0, none⟩) a.n c a.d → Calls Tryz.prog 28 #[.agg #[.bool a.ng, .slice (some ⟨b, 0, none⟩) a.n c, .int .i64 a.e]] W fun r w' => ∃ v, r = .returned (.tuple #[v, .int .i64 0]) ∧ DAns W w' (-AV) v) := fun W b c h => by rw [hAV]; exact dneg_ok ⟨a.ng, some ⟨b, 0, none⟩, a.n, c, a.d, a.e⟩ W h ok
  have CA : Hid (∀ W b c, Row W (some ⟨b, 0, none⟩) a.n c a.d → Calls Tryz.prog 29 #[.agg #[.bool a.ng, .slice (some ⟨b, 0, none⟩) a.n c, .int .i64 a.e]] W fun r w' => ∃ v, r = .returned (.tuple #[v, .int .i64 0]) ∧ DAns W w' (AV.natAbs : Int) v) := fun W b c h => by rw [hAV]; exact dabs_ok ⟨a.ng, some ⟨b, 0, none⟩, a.n, c, a.d, a.e⟩ W h ok
  have CS : Hid (∀ W b c, Row W (some ⟨b, 0, none⟩) a.n c a.d → Calls Tryz.prog 30 #[.agg #[.bool a.ng, .slice (some ⟨b, 0, none⟩) a.n c, .int .i64 a.e]] W fun r w' => r = .returned (.tuple #[.int .i64 (sgn a.ng a.n), .int .i64 0]) ∧ Below W.heap.size W w') := fun W b c h => by
    have := dsignF_any ⟨a.ng, some ⟨b, 0, none⟩, a.n, c, a.d, a.e⟩ W h
    rwa [show okR ⟨a.ng, some ⟨b, 0, none⟩, a.n, c, a.d, a.e⟩ = true from ok] at this
  have CF : Hid (∀ W b c, Row W (some ⟨b, 0, none⟩) a.n c a.d → Lay64 W → Tab W → Calls Tryz.prog 31 #[.agg #[.bool a.ng, .slice (some ⟨b, 0, none⟩) a.n c, .int .i64 a.e]] W fun r w' => r = .returned (.tuple #[.int .i64 fb, .bool fk]) ∧ Below W.heap.size W w') := fun W b c h L T => by
    have := dfloat_any ⟨a.ng, some ⟨b, 0, none⟩, a.n, c, a.d, a.e⟩ W h L T he
    rw [show okR ⟨a.ng, some ⟨b, 0, none⟩, a.n, c, a.d, a.e⟩ = true from ok] at this
    rw [hfb, hfk]
    exact this
  have CC : Hid (∀ W b c, Row W (some ⟨b, 0, none⟩) a.n c a.d → Tab W → Calls Tryz.prog 32 #[.agg #[.bool a.ng, .slice (some ⟨b, 0, none⟩) a.n c, .int .i64 a.e], .int .i64 i] W fun r w' => ∃ v er, r = .returned (.tuple #[v, .int .i64 er]) ∧ DFit W w' SV v er) := fun W b c h T => by rw [hSV]; exact dscale_ok ⟨a.ng, some ⟨b, 0, none⟩, a.n, c, a.d, a.e⟩ W h i hi ok T
  have CVX : Hid (∀ W b c, Row W (some ⟨b, 0, none⟩) a.n c a.d → Calls Tryz.prog 16 #[.agg #[.bool a.ng, .slice (some ⟨b, 0, none⟩) a.n c, .int .i64 a.e]] W fun r w' => r = .returned (.bool true) ∧ Below W.heap.size W w') := fun W b c h => by
    have := dvalid_any a.ng (some ⟨b, 0, none⟩) a.n c a.d a.e W h
    rwa [show okN a.ng a.d a.n a.e = true from ok] at this
  have RN : Hid (∀ W, Below w0.heap.size w0 W → Calls Tryz.prog 35 #[a.v] W fun r w' => r = .returned a.opp.v ∧ Below W.heap.size W w') := fun W hb => rneg3_any a W (by have := ra.le; have := ra.max; omega)
  have RS : Hid (∀ W, Below w0.heap.size w0 W → Calls Tryz.prog 36 #[a.v] W fun r w' => r = .returned (.int .i64 (sgn a.ng a.n)) ∧ Below W.heap.size W w') := fun W hb => rsign3_any a.ng a.ao a.n a.cap a.e W (by have := ra.le; have := ra.max; omega)
  have RC : Hid (∀ W, Below w0.heap.size w0 W → Calls Tryz.prog 33 #[a.v, .int .i64 i] W fun r w' => ∃ v er, r = .returned (.tuple #[v, .int .i64 er]) ∧ RFitX a W w' SV v er) := fun W hb => by rw [hSV]; exact rscale3_any a W (ra.keeps hb) i hi ok
  have RF : Hid (∀ W, Below w0.heap.size w0 W → Calls Tryz.prog 34 #[a.v] W fun r w' => r = .returned (.tuple #[.int .i64 fb, .bool fk]) ∧ Below W.heap.size W w') := fun W hb => by rw [hfb, hfk]; exact rfloat3_any a W (ra.keeps hb) ok
  have DN : Hid (∀ W, Below w0.heap.size w0 W → DRd w0.heap.size W (-AV) a.opp.v) := fun W hb => by rw [hAV]; exact drd_opp ra ok hb
  have DA : Hid (∀ W, Below w0.heap.size w0 W → DRd w0.heap.size W (AV.natAbs : Int) (.agg #[.bool false, .slice a.ao a.n a.cap, .int .i64 a.e])) := fun W hb => by rw [hAV]; exact drd_abs ra ok hb
  have DS : Hid (∀ W, Below w0.heap.size w0 W → ∀ e', Dy SV a.ng (val a.d a.n) e' → DRd w0.heap.size W SV (.agg #[.bool a.ng, .slice a.ao a.n a.cap, .int .i64 e'])) := fun W hb e' hy => ⟨_, _, _, _, _, _, rfl, hy, (okR_sane ok).1, Rd.of0 ra hb⟩
  have ON : Hid (Dok (-AV)) := by unfold Hid; rw [hAV]; exact dok_neg ok
  have OA : Hid (Dok (AV.natAbs : Int)) := by unfold Hid; rw [hAV]; exact dok_abs ok
  unfold RFitX at RC
  unfold NumR.opp at RN DN
  obtain ⟨on, hon⟩ : ∃ V, V = (if a.n = 0 then a.ng else !a.ng) := ⟨_, rfl⟩
  rw [← hon] at RN DN
  clear hAV hSV hfb hfk hon
  have HT : Hid (∀ W, Below w0.heap.size w0 W → Tab W) := fun W hb => hT.keeps hb
  have HL : Hid (∀ W, Below w0.heap.size w0 W → Lay64 W) := fun W hb => L.keeps hb
  clear hT L
  have CL : Hid (∀ W, Below w0.heap.size w0 W → _) := fun W hb => lent3_any a W (ra.keeps hb) (by omega)
  have CV : Hid (∀ W, Below w0.heap.size w0 W → _) := fun W hb => rvalid3_any a W (ra.keeps hb)
  have HA : Hid (Row w0 a.ao a.n a.cap a.d) := ra
  have HOK : Hid (okR a = true) := ok
  have hla := ra.le
  have hma := ra.max
  clear ra ok
  unfold NumR.v at *
  obtain ⟨a_g, a_o, a_n, a_c, a_d, a_e⟩ := a
  simp only at hn he hla hma CL CV HA HOK CN CA CS CF CC CVX RN RS RC RF DN DA DS ⊢
  have HS0 : Hid (w0.heap.size ≤ w.heap.size) := hb0.size
  have HB : Hid (Below w0.heap.size w0 w) := hb0
  have HK : Hid (Kept w0.heap.size w k (fun g => g < w.heap.size)) := hk.old
  have FR : Hid (Fr w w) := Fr.of (bel_refl w)
  clear hb0 hk
  go_enter Tryz.func7, Tryz.ntmps7
  have hbx : Below w.heap.size w (w.alloc (.cells #[.bool a_g, .slice a_o a_n a_c, .int .i64 a_e] 25)) := bel_alloc _ _
  have a_k : (w.alloc (.cells #[.bool a_g, .slice a_o a_n a_c, .int .i64 a_e] 25)).heap[w.heap.size]? = some (.cells #[.bool a_g, .slice a_o a_n a_c, .int .i64 a_e] 25 (0, 0)) := heap_a1 _ _
  go_wp2_with fail
  generalize (w.alloc (.cells #[.bool a_g, .slice a_o a_n a_c, .int .i64 a_e] 25)) = x1 at hbx a_k ⊢
  have Z2 : Hid (w.heap.size ≤ x1.heap.size) := hbx.size
  have FR : Hid (Fr w x1) := FR.out.trans (Fr.of hbx)
  have HB : Hid (Below w0.heap.size w0 x1) := HB.out.trans ((hbx).mono HB.out.size)
  have HK : Hid (Kept w0.heap.size x1 k (fun g => g < w.heap.size)) := HK.out.keeps hbx
  clear hbx
  refine (CL.out _ HB.out).mono ?_
  rintro _ y2 ⟨c_b, c_c, rfl, c_O', hw⟩
  have Z3 : Hid (x1.heap.size ≤ y2.heap.size) := hw.size
  have a_k := (hw.block _ (Array.getElem?_eq_some_iff.1 a_k).1).trans a_k
  have FR : Hid (Fr w y2) := FR.out.trans (Fr.of hw)
  have HB : Hid (Below w0.heap.size w0 y2) := HB.out.trans ((hw).mono HB.out.size)
  have HK : Hid (Kept w0.heap.size y2 k (fun g => g < w.heap.size)) := HK.out.keeps hw
  have c_O : Hid (Out x1.heap.size y2 (.slice (some ⟨c_b, 0, none⟩) (a_n + 3) c_c) (a_n + 3) (lentD a_d a_n)) := c_O'
  have c_L : Hid (x1.heap.size ≤ c_b ∧ c_b < y2.heap.size) := c_O.out.ge rfl
  have c_M := lent_cap c_O.out
  clear c_O' hw
  have x_R := lent_row c_O.out
  have hbx : Below y2.heap.size y2 (y2.alloc (.cells #[.bool a_g, .slice (some ⟨c_b, 0, none⟩) a_n c_c, .int .i64 a_e] 25)) := bel_alloc _ _
  have x_k : (y2.alloc (.cells #[.bool a_g, .slice (some ⟨c_b, 0, none⟩) a_n c_c, .int .i64 a_e] 25)).heap[y2.heap.size]? = some (.cells #[.bool a_g, .slice (some ⟨c_b, 0, none⟩) a_n c_c, .int .i64 a_e] 25 (0, 0)) := heap_a1 _ _
  have u_k := (hbx.block _ (Array.getElem?_eq_some_iff.1 a_k).1).trans a_k
  have f_a0 := blkC u_k 0 rfl
  have f_a1 := blkC u_k 1 rfl
  have f_a2 := blkC u_k 2 rfl
  clear u_k
  go_wp2_with fail
  clear f_a0 f_a1 f_a2
  generalize (y2.alloc (.cells #[.bool a_g, .slice (some ⟨c_b, 0, none⟩) a_n c_c, .int .i64 a_e] 25)) = x3 at hbx x_k ⊢
  have Z4 : Hid (y2.heap.size ≤ x3.heap.size) := hbx.size
  have a_k := (hbx.block _ (Array.getElem?_eq_some_iff.1 a_k).1).trans a_k
  have c_O : Hid (Out x1.heap.size x3 (.slice (some ⟨c_b, 0, none⟩) (a_n + 3) c_c) (a_n + 3) (lentD a_d a_n)) := c_O.out.stays hbx
  have FR : Hid (Fr w x3) := FR.out.trans (Fr.of hbx)
  have HB : Hid (Below w0.heap.size w0 x3) := HB.out.trans ((hbx).mono HB.out.size)
  have HK : Hid (Kept w0.heap.size x3 k (fun g => g < w.heap.size)) := HK.out.keeps hbx
  clear hbx
  refine (CV.out _ HB.out).mono ?_
  rintro _ y4 ⟨rfl, hw⟩
  rw [HOK.out]
  have Z5 : Hid (x3.heap.size ≤ y4.heap.size) := hw.size
  have a_k := (hw.block _ (Array.getElem?_eq_some_iff.1 a_k).1).trans a_k
  have x_k := (hw.block _ (Array.getElem?_eq_some_iff.1 x_k).1).trans x_k
  have c_O : Hid (Out x1.heap.size y4 (.slice (some ⟨c_b, 0, none⟩) (a_n + 3) c_c) (a_n + 3) (lentD a_d a_n)) := c_O.out.stays hw
  have FR : Hid (Fr w y4) := FR.out.trans (Fr.of hw)
  have HB : Hid (Below w0.heap.size w0 y4) := HB.out.trans ((hw).mono HB.out.size)
  have HK : Hid (Kept w0.heap.size y4 k (fun g => g < w.heap.size)) := HK.out.keeps hw
  clear hw x_R
  have f_x0 := blkC x_k 0 rfl
  have f_x1 := blkC x_k 1 rfl
  have f_x2 := blkC x_k 2 rfl
  go_wp2_with fail
  clear f_x0 f_x1 f_x2
  refine (CN.out _ _ _ (lent_row c_O.out)).mono ?_
  rintro _ y5 ⟨v, rfl, hA⟩
  obtain ⟨p_g, p_o, p_n, p_c, p_e, rfl⟩ := dans_shape hA
  have hw := hA.below
  have Z6 : Hid (y4.heap.size ≤ y5.heap.size) := hw.size
  have a_k := (hw.block _ (Array.getElem?_eq_some_iff.1 a_k).1).trans a_k
  have x_k := (hw.block _ (Array.getElem?_eq_some_iff.1 x_k).1).trans x_k
  have c_O : Hid (Out x1.heap.size y5 (.slice (some ⟨c_b, 0, none⟩) (a_n + 3) c_c) (a_n + 3) (lentD a_d a_n)) := c_O.out.stays hw
  have FR : Hid (Fr w y5) := FR.out.trans (Fr.of hw)
  have HB : Hid (Below w0.heap.size w0 y5) := HB.out.trans ((hw).mono HB.out.size)
  have HK : Hid (Kept w0.heap.size y5 k (fun g => g < w.heap.size)) := HK.out.keeps hw
  have p_F : Hid (DFitA y4.heap.size y5 (-AV) (.agg #[.bool p_g, .slice p_o p_n p_c, .int .i64 p_e]) 0) := hA.fitA ON.out
  have p_L : Hid (Lies (.slice p_o p_n p_c) y4.heap.size y5.heap.size) := p_F.out.ge
  clear hw hA
  have hbx : Below y5.heap.size y5 (y5.alloc (.cells #[.bool p_g, .slice p_o p_n p_c, .int .i64 p_e] 25)) := bel_alloc _ _
  have p_k : (y5.alloc (.cells #[.bool p_g, .slice p_o p_n p_c, .int .i64 p_e] 25)).heap[y5.heap.size]? = some (.cells #[.bool p_g, .slice p_o p_n p_c, .int .i64 p_e] 25 (0, 0)) := heap_a1 _ _
  have u_k := (hbx.block _ (Array.getElem?_eq_some_iff.1 x_k).1).trans x_k
  have f_x0 := blkC u_k 0 rfl
  have f_x1 := blkC u_k 1 rfl
  have f_x2 := blkC u_k 2 rfl
  clear u_k
  go_wp2_with fail
  clear f_x0 f_x1 f_x2
  generalize (y5.alloc (.cells #[.bool p_g, .slice p_o p_n p_c, .int .i64 p_e] 25)) = x6 at hbx p_k ⊢
  have Z7 : Hid (y5.heap.size ≤ x6.heap.size) := hbx.size
  have a_k := (hbx.block _ (Array.getElem?_eq_some_iff.1 a_k).1).trans a_k
  have x_k := (hbx.block _ (Array.getElem?_eq_some_iff.1 x_k).1).trans x_k
  have p_F : Hid (DFitA y4.heap.size x6 (-AV) (.agg #[.bool p_g, .slice p_o p_n p_c, .int .i64 p_e]) 0) := p_F.out.keeps hbx
  have c_O : Hid (Out x1.heap.size x6 (.slice (some ⟨c_b, 0, none⟩) (a_n + 3) c_c) (a_n + 3) (lentD a_d a_n)) := c_O.out.stays hbx
  have FR : Hid (Fr w x6) := FR.out.trans (Fr.of hbx)
  have HB : Hid (Below w0.heap.size w0 x6) := HB.out.trans ((hbx).mono HB.out.size)
  have HK : Hid (Kept w0.heap.size x6 k (fun g => g < w.heap.size)) := HK.out.keeps hbx
  clear hbx
  refine (CA.out _ _ _ (lent_row c_O.out)).mono ?_
  rintro _ y7 ⟨v, rfl, hA⟩
  obtain ⟨q_g, q_o, q_n, q_c, q_e, rfl⟩ := dans_shape hA
  have hw := hA.below
  have Z8 : Hid (x6.heap.size ≤ y7.heap.size) := hw.size
  have a_k := (hw.block _ (Array.getElem?_eq_some_iff.1 a_k).1).trans a_k
  have x_k := (hw.block _ (Array.getElem?_eq_some_iff.1 x_k).1).trans x_k
  have p_k := (hw.block _ (Array.getElem?_eq_some_iff.1 p_k).1).trans p_k
  have p_F : Hid (DFitA y4.heap.size y7 (-AV) (.agg #[.bool p_g, .slice p_o p_n p_c, .int .i64 p_e]) 0) := p_F.out.keeps hw
  have c_O : Hid (Out x1.heap.size y7 (.slice (some ⟨c_b, 0, none⟩) (a_n + 3) c_c) (a_n + 3) (lentD a_d a_n)) := c_O.out.stays hw
  have FR : Hid (Fr w y7) := FR.out.trans (Fr.of hw)
  have HB : Hid (Below w0.heap.size w0 y7) := HB.out.trans ((hw).mono HB.out.size)
  have HK : Hid (Kept w0.heap.size y7 k (fun g => g < w.heap.size)) := HK.out.keeps hw
  have q_F : Hid (DFitA x6.heap.size y7 (AV.natAbs : Int) (.agg #[.bool q_g, .slice q_o q_n q_c, .int .i64 q_e]) 0) := hA.fitA OA.out
  have q_L : Hid (Lies (.slice q_o q_n q_c) x6.heap.size y7.heap.size) := q_F.out.ge
  clear hw hA
  have hbx : Below y7.heap.size y7 (y7.alloc (.cells #[.bool q_g, .slice q_o q_n q_c, .int .i64 q_e] 25)) := bel_alloc _ _
  have q_k : (y7.alloc (.cells #[.bool q_g, .slice q_o q_n q_c, .int .i64 q_e] 25)).heap[y7.heap.size]? = some (.cells #[.bool q_g, .slice q_o q_n q_c, .int .i64 q_e] 25 (0, 0)) := heap_a1 _ _
  have u_k := (hbx.block _ (Array.getElem?_eq_some_iff.1 x_k).1).trans x_k
  have f_x0 := blkC u_k 0 rfl
  have f_x1 := blkC u_k 1 rfl
  have f_x2 := blkC u_k 2 rfl
  clear u_k
  go_wp2_with fail
  clear f_x0 f_x1 f_x2
  generalize (y7.alloc (.cells #[.bool q_g, .slice q_o q_n q_c, .int .i64 q_e] 25)) = x8 at hbx q_k ⊢
  have Z9 : Hid (y7.heap.size ≤ x8.heap.size) := hbx.size
  have a_k := (hbx.block _ (Array.getElem?_eq_some_iff.1 a_k).1).trans a_k
  have x_k := (hbx.block _ (Array.getElem?_eq_some_iff.1 x_k).1).trans x_k
  have p_k := (hbx.block _ (Array.getElem?_eq_some_iff.1 p_k).1).trans p_k
  have p_F : Hid (DFitA y4.heap.size x8 (-AV) (.agg #[.bool p_g, .slice p_o p_n p_c, .int .i64 p_e]) 0) := p_F.out.keeps hbx
  have q_F : Hid (DFitA x6.heap.size x8 (AV.natAbs : Int) (.agg #[.bool q_g, .slice q_o q_n q_c, .int .i64 q_e]) 0) := q_F.out.keeps hbx
  have c_O : Hid (Out x1.heap.size x8 (.slice (some ⟨c_b, 0, none⟩) (a_n + 3) c_c) (a_n + 3) (lentD a_d a_n)) := c_O.out.stays hbx
  have FR : Hid (Fr w x8) := FR.out.trans (Fr.of hbx)
  have HB : Hid (Below w0.heap.size w0 x8) := HB.out.trans ((hbx).mono HB.out.size)
  have HK : Hid (Kept w0.heap.size x8 k (fun g => g < w.heap.size)) := HK.out.keeps hbx
  clear hbx
  refine (CS.out _ _ _ (lent_row c_O.out)).mono ?_
  rintro _ y9 ⟨rfl, hw⟩
  have Z10 : Hid (x8.heap.size ≤ y9.heap.size) := hw.size
  have a_k := (hw.block _ (Array.getElem?_eq_some_iff.1 a_k).1).trans a_k
  have x_k := (hw.block _ (Array.getElem?_eq_some_iff.1 x_k).1).trans x_k
  have p_k := (hw.block _ (Array.getElem?_eq_some_iff.1 p_k).1).trans p_k
  have q_k := (hw.block _ (Array.getElem?_eq_some_iff.1 q_k).1).trans q_k
  have p_F : Hid (DFitA y4.heap.size y9 (-AV) (.agg #[.bool p_g, .slice p_o p_n p_c, .int .i64 p_e]) 0) := p_F.out.keeps hw
  have q_F : Hid (DFitA x6.heap.size y9 (AV.natAbs : Int) (.agg #[.bool q_g, .slice q_o q_n q_c, .int .i64 q_e]) 0) := q_F.out.keeps hw
  have c_O : Hid (Out x1.heap.size y9 (.slice (some ⟨c_b, 0, none⟩) (a_n + 3) c_c) (a_n + 3) (lentD a_d a_n)) := c_O.out.stays hw
  have FR : Hid (Fr w y9) := FR.out.trans (Fr.of hw)
  have HB : Hid (Below w0.heap.size w0 y9) := HB.out.trans ((hw).mono HB.out.size)
  have HK : Hid (Kept w0.heap.size y9 k (fun g => g < w.heap.size)) := HK.out.keeps hw
  clear hw
  have f_x0 := blkC x_k 0 rfl
  have f_x1 := blkC x_k 1 rfl
  have f_x2 := blkC x_k 2 rfl
  go_wp2_with fail
  clear f_x0 f_x1 f_x2
  refine (CF.out _ _ _ (lent_row c_O.out) (HL.out _ HB.out) (HT.out _ HB.out)).mono ?_
  rintro _ y10 ⟨rfl, hw⟩
  have Z11 : Hid (y9.heap.size ≤ y10.heap.size) := hw.size
  have a_k := (hw.block _ (Array.getElem?_eq_some_iff.1 a_k).1).trans a_k
  have x_k := (hw.block _ (Array.getElem?_eq_some_iff.1 x_k).1).trans x_k
  have p_k := (hw.block _ (Array.getElem?_eq_some_iff.1 p_k).1).trans p_k
  have q_k := (hw.block _ (Array.getElem?_eq_some_iff.1 q_k).1).trans q_k
  have p_F : Hid (DFitA y4.heap.size y10 (-AV) (.agg #[.bool p_g, .slice p_o p_n p_c, .int .i64 p_e]) 0) := p_F.out.keeps hw
  have q_F : Hid (DFitA x6.heap.size y10 (AV.natAbs : Int) (.agg #[.bool q_g, .slice q_o q_n q_c, .int .i64 q_e]) 0) := q_F.out.keeps hw
  have c_O : Hid (Out x1.heap.size y10 (.slice (some ⟨c_b, 0, none⟩) (a_n + 3) c_c) (a_n + 3) (lentD a_d a_n)) := c_O.out.stays hw
  have FR : Hid (Fr w y10) := FR.out.trans (Fr.of hw)
  have HB : Hid (Below w0.heap.size w0 y10) := HB.out.trans ((hw).mono HB.out.size)
  have HK : Hid (Kept w0.heap.size y10 k (fun g => g < w.heap.size)) := HK.out.keeps hw
  clear hw
  have f_x0 := blkC x_k 0 rfl
  have f_x1 := blkC x_k 1 rfl
  have f_x2 := blkC x_k 2 rfl
  go_wp2_with fail
  clear f_x0 f_x1 f_x2
  refine (CC.out _ _ _ (lent_row c_O.out) (HT.out _ HB.out)).mono ?_
  rintro _ y11 ⟨v, r_r, rfl, hA⟩
  obtain ⟨r_g, r_o, r_n, r_c, r_e, rfl⟩ := hA.shape
  have hw := hA.1
  have Z12 : Hid (y10.heap.size ≤ y11.heap.size) := hw.size
  have a_k := (hw.block _ (Array.getElem?_eq_some_iff.1 a_k).1).trans a_k
  have x_k := (hw.block _ (Array.getElem?_eq_some_iff.1 x_k).1).trans x_k
  have p_k := (hw.block _ (Array.getElem?_eq_some_iff.1 p_k).1).trans p_k
  have q_k := (hw.block _ (Array.getElem?_eq_some_iff.1 q_k).1).trans q_k
  have p_F : Hid (DFitA y4.heap.size y11 (-AV) (.agg #[.bool p_g, .slice p_o p_n p_c, .int .i64 p_e]) 0) := p_F.out.keeps hw
  have q_F : Hid (DFitA x6.heap.size y11 (AV.natAbs : Int) (.agg #[.bool q_g, .slice q_o q_n q_c, .int .i64 q_e]) 0) := q_F.out.keeps hw
  have c_O : Hid (Out x1.heap.size y11 (.slice (some ⟨c_b, 0, none⟩) (a_n + 3) c_c) (a_n + 3) (lentD a_d a_n)) := c_O.out.stays hw
  have FR : Hid (Fr w y11) := FR.out.trans (Fr.of hw)
  have HB : Hid (Below w0.heap.size w0 y11) := HB.out.trans ((hw).mono HB.out.size)
  have HK : Hid (Kept w0.heap.size y11 k (fun g => g < w.heap.size)) := HK.out.keeps hw
  have r_F : Hid (DFitA y10.heap.size y11 SV (.agg #[.bool r_g, .slice r_o r_n r_c, .int .i64 r_e]) r_r) := hA.fitA
  have r_L : Hid (Lies (.slice r_o r_n r_c) y10.heap.size y11.heap.size) := r_F.out.ge
  clear hw hA
  have hbx : Below y11.heap.size y11 (y11.alloc (.cells #[.bool r_g, .slice r_o r_n r_c, .int .i64 r_e] 25)) := bel_alloc _ _
  have r_k : (y11.alloc (.cells #[.bool r_g, .slice r_o r_n r_c, .int .i64 r_e] 25)).heap[y11.heap.size]? = some (.cells #[.bool r_g, .slice r_o r_n r_c, .int .i64 r_e] 25 (0, 0)) := heap_a1 _ _
  have u_k := (hbx.block _ (Array.getElem?_eq_some_iff.1 x_k).1).trans x_k
  have f_x0 := blkC u_k 0 rfl
  have f_x1 := blkC u_k 1 rfl
  have f_x2 := blkC u_k 2 rfl
  clear u_k
  go_wp2_with fail
  clear f_x0 f_x1 f_x2
  generalize (y11.alloc (.cells #[.bool r_g, .slice r_o r_n r_c, .int .i64 r_e] 25)) = x12 at hbx r_k ⊢
  have Z13 : Hid (y11.heap.size ≤ x12.heap.size) := hbx.size
  have a_k := (hbx.block _ (Array.getElem?_eq_some_iff.1 a_k).1).trans a_k
  have x_k := (hbx.block _ (Array.getElem?_eq_some_iff.1 x_k).1).trans x_k
  have p_k := (hbx.block _ (Array.getElem?_eq_some_iff.1 p_k).1).trans p_k
  have q_k := (hbx.block _ (Array.getElem?_eq_some_iff.1 q_k).1).trans q_k
  have p_F : Hid (DFitA y4.heap.size x12 (-AV) (.agg #[.bool p_g, .slice p_o p_n p_c, .int .i64 p_e]) 0) := p_F.out.keeps hbx
  have q_F : Hid (DFitA x6.heap.size x12 (AV.natAbs : Int) (.agg #[.bool q_g, .slice q_o q_n q_c, .int .i64 q_e]) 0) := q_F.out.keeps hbx
  have r_F : Hid (DFitA y10.heap.size x12 SV (.agg #[.bool r_g, .slice r_o r_n r_c, .int .i64 r_e]) r_r) := r_F.out.keeps hbx
  have c_O : Hid (Out x1.heap.size x12 (.slice (some ⟨c_b, 0, none⟩) (a_n + 3) c_c) (a_n + 3) (lentD a_d a_n)) := c_O.out.stays hbx
  have FR : Hid (Fr w x12) := FR.out.trans (Fr.of hbx)
  have HB : Hid (Below w0.heap.size w0 x12) := HB.out.trans ((hbx).mono HB.out.size)
  have HK : Hid (Kept w0.heap.size x12 k (fun g => g < w.heap.size)) := HK.out.keeps hbx
  clear hbx
  refine (CVX.out _ _ _ (lent_row c_O.out)).mono ?_
  rintro _ y13 ⟨rfl, hw⟩
  have Z14 : Hid (x12.heap.size ≤ y13.heap.size) := hw.size
  have a_k := (hw.block _ (Array.getElem?_eq_some_iff.1 a_k).1).trans a_k
  have x_k := (hw.block _ (Array.getElem?_eq_some_iff.1 x_k).1).trans x_k
  have p_k := (hw.block _ (Array.getElem?_eq_some_iff.1 p_k).1).trans p_k
  have q_k := (hw.block _ (Array.getElem?_eq_some_iff.1 q_k).1).trans q_k
  have r_k := (hw.block _ (Array.getElem?_eq_some_iff.1 r_k).1).trans r_k
  have p_F : Hid (DFitA y4.heap.size y13 (-AV) (.agg #[.bool p_g, .slice p_o p_n p_c, .int .i64 p_e]) 0) := p_F.out.keeps hw
  have q_F : Hid (DFitA x6.heap.size y13 (AV.natAbs : Int) (.agg #[.bool q_g, .slice q_o q_n q_c, .int .i64 q_e]) 0) := q_F.out.keeps hw
  have r_F : Hid (DFitA y10.heap.size y13 SV (.agg #[.bool r_g, .slice r_o r_n r_c, .int .i64 r_e]) r_r) := r_F.out.keeps hw
  have c_O : Hid (Out x1.heap.size y13 (.slice (some ⟨c_b, 0, none⟩) (a_n + 3) c_c) (a_n + 3) (lentD a_d a_n)) := c_O.out.stays hw
  have FR : Hid (Fr w y13) := FR.out.trans (Fr.of hw)
  have HB : Hid (Below w0.heap.size w0 y13) := HB.out.trans ((hw).mono HB.out.size)
  have HK : Hid (Kept w0.heap.size y13 k (fun g => g < w.heap.size)) := HK.out.keeps hw
  clear hw
  have f_a0 := blkC a_k 0 rfl
  have f_a1 := blkC a_k 1 rfl
  have f_a2 := blkC a_k 2 rfl
  go_wp2_with fail
  clear f_a0 f_a1 f_a2
  refine (back_any c_O.out (RowX.of0 HA.out HB.out (by have h1 := c_L.out; have HS0q := HS0.out; have Z2q := Z2.out; have Z3q := Z3.out; have Z4q := Z4.out; have Z5q := Z5.out; have Z6q := Z6.out; have Z7q := Z7.out; have Z8q := Z8.out; have Z9q := Z9.out; have Z10q := Z10.out; have Z11q := Z11.out; have Z12q := Z12.out; have Z13q := Z13.out; have Z14q := Z14.out; omega)) (HA.out.keeps HB.out) (by omega)).mono ?_
  rintro _ y14 ⟨rfl, hw⟩
  have Z15 : Hid (y13.heap.size ≤ y14.heap.size) := hw.size
  obtain ⟨t_cur, t_z, t_t⟩ := c_O.out.typed (g := c_b) rfl
  have a_k := numblk_wr hw t_t (by decide) a_k
  have x_k := numblk_wr hw t_t (by decide) x_k
  have p_k := numblk_wr hw t_t (by decide) p_k
  have q_k := numblk_wr hw t_t (by decide) q_k
  have r_k := numblk_wr hw t_t (by decide) r_k
  have p_F : Hid (DFitA y4.heap.size y14 (-AV) (.agg #[.bool p_g, .slice p_o p_n p_c, .int .i64 p_e]) 0) := p_F.out.wr hw (by have h1 := c_L.out; have HS0q := HS0.out; have Z2q := Z2.out; have Z3q := Z3.out; have Z4q := Z4.out; have Z5q := Z5.out; have Z6q := Z6.out; have Z7q := Z7.out; have Z8q := Z8.out; have Z9q := Z9.out; have Z10q := Z10.out; have Z11q := Z11.out; have Z12q := Z12.out; have Z13q := Z13.out; have Z14q := Z14.out; omega)
  have q_F : Hid (DFitA x6.heap.size y14 (AV.natAbs : Int) (.agg #[.bool q_g, .slice q_o q_n q_c, .int .i64 q_e]) 0) := q_F.out.wr hw (by have h1 := c_L.out; have HS0q := HS0.out; have Z2q := Z2.out; have Z3q := Z3.out; have Z4q := Z4.out; have Z5q := Z5.out; have Z6q := Z6.out; have Z7q := Z7.out; have Z8q := Z8.out; have Z9q := Z9.out; have Z10q := Z10.out; have Z11q := Z11.out; have Z12q := Z12.out; have Z13q := Z13.out; have Z14q := Z14.out; omega)
  have r_F : Hid (DFitA y10.heap.size y14 SV (.agg #[.bool r_g, .slice r_o r_n r_c, .int .i64 r_e]) r_r) := r_F.out.wr hw (by have h1 := c_L.out; have HS0q := HS0.out; have Z2q := Z2.out; have Z3q := Z3.out; have Z4q := Z4.out; have Z5q := Z5.out; have Z6q := Z6.out; have Z7q := Z7.out; have Z8q := Z8.out; have Z9q := Z9.out; have Z10q := Z10.out; have Z11q := Z11.out; have Z12q := Z12.out; have Z13q := Z13.out; have Z14q := Z14.out; omega)
  have FR : Hid (Fr w y14) := FR.out.wr hw (by have h1 := c_L.out; have HS0q := HS0.out; have Z2q := Z2.out; have Z3q := Z3.out; have Z4q := Z4.out; have Z5q := Z5.out; have Z6q := Z6.out; have Z7q := Z7.out; have Z8q := Z8.out; have Z9q := Z9.out; have Z10q := Z10.out; have Z11q := Z11.out; have Z12q := Z12.out; have Z13q := Z13.out; have Z14q := Z14.out; omega) (by have HS0q := HS0.out; have Z2q := Z2.out; have Z3q := Z3.out; have Z4q := Z4.out; have Z5q := Z5.out; have Z6q := Z6.out; have Z7q := Z7.out; have Z8q := Z8.out; have Z9q := Z9.out; have Z10q := Z10.out; have Z11q := Z11.out; have Z12q := Z12.out; have Z13q := Z13.out; have Z14q := Z14.out; omega)
  have HB : Hid (Below w0.heap.size w0 y14) := hw.below HB.out HB.out.size (by have h1 := c_L.out; have h0 := HS0.out; have HS0q := HS0.out; have Z2q := Z2.out; have Z3q := Z3.out; have Z4q := Z4.out; have Z5q := Z5.out; have Z6q := Z6.out; have Z7q := Z7.out; have Z8q := Z8.out; have Z9q := Z9.out; have Z10q := Z10.out; have Z11q := Z11.out; have Z12q := Z12.out; have Z13q := Z13.out; have Z14q := Z14.out; omega)
  have HK : Hid (Kept w0.heap.size y14 k (fun g => g < w.heap.size)) := HK.out.wr hw (fun (h : c_b < w.heap.size) => by have h1 := c_L.out; have HS0q := HS0.out; have Z2q := Z2.out; have Z3q := Z3.out; have Z4q := Z4.out; have Z5q := Z5.out; have Z6q := Z6.out; have Z7q := Z7.out; have Z8q := Z8.out; have Z9q := Z9.out; have Z10q := Z10.out; have Z11q := Z11.out; have Z12q := Z12.out; have Z13q := Z13.out; have Z14q := Z14.out; omega) t_t
  clear hw t_t
  have h_a0 := blkC a_k 0 rfl
  have h_a1 := blkC a_k 1 rfl
  have h_a2 := blkC a_k 2 rfl
  have hbx : Below y14.heap.size y14 (y14.alloc (.cells #[.bool false, .slice a_o a_n a_c, .int .i64 a_e] 25)) := bel_alloc _ _
  have l_k : (y14.alloc (.cells #[.bool false, .slice a_o a_n a_c, .int .i64 a_e] 25)).heap[y14.heap.size]? = some (.cells #[.bool false, .slice a_o a_n a_c, .int .i64 a_e] 25 (0, 0)) := heap_a1 _ _
  have u_k := (hbx.block _ (Array.getElem?_eq_some_iff.1 a_k).1).trans a_k
  have f_a0 := blkC u_k 0 rfl
  have f_a1 := blkC u_k 1 rfl
  have f_a2 := blkC u_k 2 rfl
  clear u_k
  go_wp2_with fail
  clear f_a0 f_a1 f_a2
  generalize (y14.alloc (.cells #[.bool false, .slice a_o a_n a_c, .int .i64 a_e] 25)) = x15 at hbx l_k ⊢
  have Z16 : Hid (y14.heap.size ≤ x15.heap.size) := hbx.size
  have a_k := (hbx.block _ (Array.getElem?_eq_some_iff.1 a_k).1).trans a_k
  have x_k := (hbx.block _ (Array.getElem?_eq_some_iff.1 x_k).1).trans x_k
  have p_k := (hbx.block _ (Array.getElem?_eq_some_iff.1 p_k).1).trans p_k
  have q_k := (hbx.block _ (Array.getElem?_eq_some_iff.1 q_k).1).trans q_k
  have r_k := (hbx.block _ (Array.getElem?_eq_some_iff.1 r_k).1).trans r_k
  have p_F : Hid (DFitA y4.heap.size x15 (-AV) (.agg #[.bool p_g, .slice p_o p_n p_c, .int .i64 p_e]) 0) := p_F.out.keeps hbx
  have q_F : Hid (DFitA x6.heap.size x15 (AV.natAbs : Int) (.agg #[.bool q_g, .slice q_o q_n q_c, .int .i64 q_e]) 0) := q_F.out.keeps hbx
  have r_F : Hid (DFitA y10.heap.size x15 SV (.agg #[.bool r_g, .slice r_o r_n r_c, .int .i64 r_e]) r_r) := r_F.out.keeps hbx
  have FR : Hid (Fr w x15) := FR.out.trans (Fr.of hbx)
  have HB : Hid (Below w0.heap.size w0 x15) := HB.out.trans ((hbx).mono HB.out.size)
  have HK : Hid (Kept w0.heap.size x15 k (fun g => g < w.heap.size)) := HK.out.keeps hbx
  clear hbx
  clear h_a0 h_a1 h_a2
  refine (RC.out _ HB.out).mono ?_
  rintro _ y90 ⟨v, s_r, rfl, hw, hor⟩
  have Z17 : Hid (x15.heap.size ≤ y90.heap.size) := hw.size
  have a_k := (hw.block _ (Array.getElem?_eq_some_iff.1 a_k).1).trans a_k
  have x_k := (hw.block _ (Array.getElem?_eq_some_iff.1 x_k).1).trans x_k
  have p_k := (hw.block _ (Array.getElem?_eq_some_iff.1 p_k).1).trans p_k
  have q_k := (hw.block _ (Array.getElem?_eq_some_iff.1 q_k).1).trans q_k
  have r_k := (hw.block _ (Array.getElem?_eq_some_iff.1 r_k).1).trans r_k
  have l_k := (hw.block _ (Array.getElem?_eq_some_iff.1 l_k).1).trans l_k
  have p_F : Hid (DFitA y4.heap.size y90 (-AV) (.agg #[.bool p_g, .slice p_o p_n p_c, .int .i64 p_e]) 0) := p_F.out.keeps hw
  have q_F : Hid (DFitA x6.heap.size y90 (AV.natAbs : Int) (.agg #[.bool q_g, .slice q_o q_n q_c, .int .i64 q_e]) 0) := q_F.out.keeps hw
  have r_F : Hid (DFitA y10.heap.size y90 SV (.agg #[.bool r_g, .slice r_o r_n r_c, .int .i64 r_e]) r_r) := r_F.out.keeps hw
  have FR : Hid (Fr w y90) := FR.out.trans (Fr.of hw)
  have HB : Hid (Below w0.heap.size w0 y90) := HB.out.trans ((hw).mono HB.out.size)
  have HK : Hid (Kept w0.heap.size y90 k (fun g => g < w.heap.size)) := HK.out.keeps hw
  clear hw
  rcases r_F.out with ⟨o1, e1, r_D⟩ | ⟨o1, e1, hz⟩
  · rcases hor with ⟨o2, e2, s_e, h1, hy⟩ | ⟨o2, e2, h1⟩
    · subst e1 e2 h1
      have OKS : Hid (Dok SV) := o1
      have HDS : Hid (∀ W, Below w0.heap.size w0 W → DRd w0.heap.size W SV (.agg #[.bool a_g, .slice a_o a_n a_c, .int .i64 s_e])) := fun W hb => DS.out W hb s_e hy
      clear o1 o2 hy r_D
      have hbx : Below y90.heap.size y90 (y90.alloc (.cells #[.bool a_g, .slice a_o a_n a_c, .int .i64 s_e] 25)) := bel_alloc _ _
      have s_k : (y90.alloc (.cells #[.bool a_g, .slice a_o a_n a_c, .int .i64 s_e] 25)).heap[y90.heap.size]? = some (.cells #[.bool a_g, .slice a_o a_n a_c, .int .i64 s_e] 25 (0, 0)) := heap_a1 _ _
      have u_k := (hbx.block _ (Array.getElem?_eq_some_iff.1 a_k).1).trans a_k
      have f_a0 := blkC u_k 0 rfl
      have f_a1 := blkC u_k 1 rfl
      have f_a2 := blkC u_k 2 rfl
      clear u_k
      go_wp2_with fail
      clear f_a0 f_a1 f_a2
      generalize (y90.alloc (.cells #[.bool a_g, .slice a_o a_n a_c, .int .i64 s_e] 25)) = x16 at hbx s_k ⊢
      have Z18 : Hid (y90.heap.size ≤ x16.heap.size) := hbx.size
      have a_k := (hbx.block _ (Array.getElem?_eq_some_iff.1 a_k).1).trans a_k
      have x_k := (hbx.block _ (Array.getElem?_eq_some_iff.1 x_k).1).trans x_k
      have p_k := (hbx.block _ (Array.getElem?_eq_some_iff.1 p_k).1).trans p_k
      have q_k := (hbx.block _ (Array.getElem?_eq_some_iff.1 q_k).1).trans q_k
      have r_k := (hbx.block _ (Array.getElem?_eq_some_iff.1 r_k).1).trans r_k
      have l_k := (hbx.block _ (Array.getElem?_eq_some_iff.1 l_k).1).trans l_k
      have p_F : Hid (DFitA y4.heap.size x16 (-AV) (.agg #[.bool p_g, .slice p_o p_n p_c, .int .i64 p_e]) 0) := p_F.out.keeps hbx
      have q_F : Hid (DFitA x6.heap.size x16 (AV.natAbs : Int) (.agg #[.bool q_g, .slice q_o q_n q_c, .int .i64 q_e]) 0) := q_F.out.keeps hbx
      have r_F : Hid (DFitA y10.heap.size x16 SV (.agg #[.bool r_g, .slice r_o r_n r_c, .int .i64 r_e]) 0) := r_F.out.keeps hbx
      have FR : Hid (Fr w x16) := FR.out.trans (Fr.of hbx)
      have HB : Hid (Below w0.heap.size w0 x16) := HB.out.trans ((hbx).mono HB.out.size)
      have HK : Hid (Kept w0.heap.size x16 k (fun g => g < w.heap.size)) := HK.out.keeps hbx
      clear hbx
      refine (RF.out _ HB.out).mono ?_
      rintro _ y17 ⟨rfl, hw⟩
      have Z19 : Hid (x16.heap.size ≤ y17.heap.size) := hw.size
      have a_k := (hw.block _ (Array.getElem?_eq_some_iff.1 a_k).1).trans a_k
      have x_k := (hw.block _ (Array.getElem?_eq_some_iff.1 x_k).1).trans x_k
      have p_k := (hw.block _ (Array.getElem?_eq_some_iff.1 p_k).1).trans p_k
      have q_k := (hw.block _ (Array.getElem?_eq_some_iff.1 q_k).1).trans q_k
      have r_k := (hw.block _ (Array.getElem?_eq_some_iff.1 r_k).1).trans r_k
      have l_k := (hw.block _ (Array.getElem?_eq_some_iff.1 l_k).1).trans l_k
      have s_k := (hw.block _ (Array.getElem?_eq_some_iff.1 s_k).1).trans s_k
      have p_F : Hid (DFitA y4.heap.size y17 (-AV) (.agg #[.bool p_g, .slice p_o p_n p_c, .int .i64 p_e]) 0) := p_F.out.keeps hw
      have q_F : Hid (DFitA x6.heap.size y17 (AV.natAbs : Int) (.agg #[.bool q_g, .slice q_o q_n q_c, .int .i64 q_e]) 0) := q_F.out.keeps hw
      have r_F : Hid (DFitA y10.heap.size y17 SV (.agg #[.bool r_g, .slice r_o r_n r_c, .int .i64 r_e]) 0) := r_F.out.keeps hw
      have FR : Hid (Fr w y17) := FR.out.trans (Fr.of hw)
      have HB : Hid (Below w0.heap.size w0 y17) := HB.out.trans ((hw).mono HB.out.size)
      have HK : Hid (Kept w0.heap.size y17 k (fun g => g < w.heap.size)) := HK.out.keeps hw
      clear hw
      go_wp2_with fail
      have kc0 : (y17.drew.cell? ⟨y5.heap.size, 0, none⟩ = some (.bool p_g) ∧ y17.drew.cell? ⟨y5.heap.size, 1, none⟩ = some (.slice p_o p_n p_c) ∧ y17.drew.cell? ⟨y5.heap.size, 2, none⟩ = some (.int .i64 p_e)) ∧ (y17.drew.cell? ⟨w.heap.size, 0, none⟩ = some (.bool a_g) ∧ y17.drew.cell? ⟨w.heap.size, 1, none⟩ = some (.slice a_o a_n a_c) ∧ y17.drew.cell? ⟨w.heap.size, 2, none⟩ = some (.int .i64 a_e)) ∧ (y17.drew.cell? ⟨y7.heap.size, 0, none⟩ = some (.bool q_g) ∧ y17.drew.cell? ⟨y7.heap.size, 1, none⟩ = some (.slice q_o q_n q_c) ∧ y17.drew.cell? ⟨y7.heap.size, 2, none⟩ = some (.int .i64 q_e)) ∧ (y17.drew.cell? ⟨y14.heap.size, 0, none⟩ = some (.bool false) ∧ y17.drew.cell? ⟨y14.heap.size, 1, none⟩ = some (.slice a_o a_n a_c) ∧ y17.drew.cell? ⟨y14.heap.size, 2, none⟩ = some (.int .i64 a_e)) ∧ (y17.drew.cell? ⟨y11.heap.size, 0, none⟩ = some (.bool r_g) ∧ y17.drew.cell? ⟨y11.heap.size, 1, none⟩ = some (.slice r_o r_n r_c) ∧ y17.drew.cell? ⟨y11.heap.size, 2, none⟩ = some (.int .i64 r_e)) ∧ (y17.drew.cell? ⟨y90.heap.size, 0, none⟩ = some (.bool a_g) ∧ y17.drew.cell? ⟨y90.heap.size, 1, none⟩ = some (.slice a_o a_n a_c) ∧ y17.drew.cell? ⟨y90.heap.size, 2, none⟩ = some (.int .i64 s_e)) := ⟨⟨blkC p_k 0 rfl, blkC p_k 1 rfl, blkC p_k 2 rfl⟩, ⟨blkC a_k 0 rfl, blkC a_k 1 rfl, blkC a_k 2 rfl⟩, ⟨blkC q_k 0 rfl, blkC q_k 1 rfl, blkC q_k 2 rfl⟩, ⟨blkC l_k 0 rfl, blkC l_k 1 rfl, blkC l_k 2 rfl⟩, ⟨blkC r_k 0 rfl, blkC r_k 1 rfl, blkC r_k 2 rfl⟩, ⟨blkC s_k 0 rfl, blkC s_k 1 rfl, blkC s_k 2 rfl⟩⟩
      go_region_held3 (fun W => (W.cell? ⟨y5.heap.size, 0, none⟩ = some (.bool p_g) ∧ W.cell? ⟨y5.heap.size, 1, none⟩ = some (.slice p_o p_n p_c) ∧ W.cell? ⟨y5.heap.size, 2, none⟩ = some (.int .i64 p_e)) ∧ (W.cell? ⟨w.heap.size, 0, none⟩ = some (.bool a_g) ∧ W.cell? ⟨w.heap.size, 1, none⟩ = some (.slice a_o a_n a_c) ∧ W.cell? ⟨w.heap.size, 2, none⟩ = some (.int .i64 a_e)) ∧ (W.cell? ⟨y7.heap.size, 0, none⟩ = some (.bool q_g) ∧ W.cell? ⟨y7.heap.size, 1, none⟩ = some (.slice q_o q_n q_c) ∧ W.cell? ⟨y7.heap.size, 2, none⟩ = some (.int .i64 q_e)) ∧ (W.cell? ⟨y14.heap.size, 0, none⟩ = some (.bool false) ∧ W.cell? ⟨y14.heap.size, 1, none⟩ = some (.slice a_o a_n a_c) ∧ W.cell? ⟨y14.heap.size, 2, none⟩ = some (.int .i64 a_e)) ∧ (W.cell? ⟨y11.heap.size, 0, none⟩ = some (.bool r_g) ∧ W.cell? ⟨y11.heap.size, 1, none⟩ = some (.slice r_o r_n r_c) ∧ W.cell? ⟨y11.heap.size, 2, none⟩ = some (.int .i64 r_e)) ∧ (W.cell? ⟨y90.heap.size, 0, none⟩ = some (.bool a_g) ∧ W.cell? ⟨y90.heap.size, 1, none⟩ = some (.slice a_o a_n a_c) ∧ W.cell? ⟨y90.heap.size, 2, none⟩ = some (.int .i64 s_e)))
        (first | assumption)
        (first | (go_at_call 20; have _t := kc5; refine (keep_num HK.out ((fitA_dan r_F.out OKS.out).lower (by have HS0q := HS0.out; have Z2q := Z2.out; have Z3q := Z3.out; have Z4q := Z4.out; have Z5q := Z5.out; have Z6q := Z6.out; have Z7q := Z7.out; have Z8q := Z8.out; have Z9q := Z9.out; have Z10q := Z10.out; have Z11q := Z11.out; have Z12q := Z12.out; have Z13q := Z13.out; have Z14q := Z14.out; have Z15q := Z15.out; have Z16q := Z16.out; have Z17q := Z17.out; have Z18q := Z18.out; have Z19q := Z19.out; have Z20q := Z20.out; have Z21q := Z21.out; have Z22q := Z22.out; have Z23q := Z23.out; have Z24q := Z24.out; omega)) (HDS.out _ HB.out) OKS.out HB.out.size (fun g hg => (notS2 (notS2 (show ¬ g < w.heap.size from by have h1 := r_L.out g hg; have HS0q := HS0.out; have Z2q := Z2.out; have Z3q := Z3.out; have Z4q := Z4.out; have Z5q := Z5.out; have Z6q := Z6.out; have Z7q := Z7.out; have Z8q := Z8.out; have Z9q := Z9.out; have Z10q := Z10.out; have Z11q := Z11.out; have Z12q := Z12.out; have Z13q := Z13.out; have Z14q := Z14.out; have Z15q := Z15.out; have Z16q := Z16.out; have Z17q := Z17.out; have Z18q := Z18.out; have Z19q := Z19.out; have Z20q := Z20.out; have Z21q := Z21.out; have Z22q := Z22.out; have Z23q := Z23.out; have Z24q := Z24.out; omega) (fun hl => by have h1 := r_L.out g hg; have h2 := p_L.out g hl; have HS0q := HS0.out; have Z2q := Z2.out; have Z3q := Z3.out; have Z4q := Z4.out; have Z5q := Z5.out; have Z6q := Z6.out; have Z7q := Z7.out; have Z8q := Z8.out; have Z9q := Z9.out; have Z10q := Z10.out; have Z11q := Z11.out; have Z12q := Z12.out; have Z13q := Z13.out; have Z14q := Z14.out; have Z15q := Z15.out; have Z16q := Z16.out; have Z17q := Z17.out; have Z18q := Z18.out; have Z19q := Z19.out; have Z20q := Z20.out; have Z21q := Z21.out; have Z22q := Z22.out; have Z23q := Z23.out; have Z24q := Z24.out; omega) (by have h1 := r_L.out g hg; have HS0q := HS0.out; have Z2q := Z2.out; have Z3q := Z3.out; have Z4q := Z4.out; have Z5q := Z5.out; have Z6q := Z6.out; have Z7q := Z7.out; have Z8q := Z8.out; have Z9q := Z9.out; have Z10q := Z10.out; have Z11q := Z11.out; have Z12q := Z12.out; have Z13q := Z13.out; have Z14q := Z14.out; have Z15q := Z15.out; have Z16q := Z16.out; have Z17q := Z17.out; have Z18q := Z18.out; have Z19q := Z19.out; have Z20q := Z20.out; have Z21q := Z21.out; have Z22q := Z22.out; have Z23q := Z23.out; have Z24q := Z24.out; omega)) (fun hl => by have h1 := r_L.out g hg; have h2 := q_L.out g hl; have HS0q := HS0.out; have Z2q := Z2.out; have Z3q := Z3.out; have Z4q := Z4.out; have Z5q := Z5.out; have Z6q := Z6.out; have Z7q := Z7.out; have Z8q := Z8.out; have Z9q := Z9.out; have Z10q := Z10.out; have Z11q := Z11.out; have Z12q := Z12.out; have Z13q := Z13.out; have Z14q := Z14.out; have Z15q := Z15.out; have Z16q := Z16.out; have Z17q := Z17.out; have Z18q := Z18.out; have Z19q := Z19.out; have Z20q := Z20.out; have Z21q := Z21.out; have Z22q := Z22.out; have Z23q := Z23.out; have Z24q := Z24.out; omega) (by have h1 := r_L.out g hg; have HS0q := HS0.out; have Z2q := Z2.out; have Z3q := Z3.out; have Z4q := Z4.out; have Z5q := Z5.out; have Z6q := Z6.out; have Z7q := Z7.out; have Z8q := Z8.out; have Z9q := Z9.out; have Z10q := Z10.out; have Z11q := Z11.out; have Z12q := Z12.out; have Z13q := Z13.out; have Z14q := Z14.out; have Z15q := Z15.out; have Z16q := Z16.out; have Z17q := Z17.out; have Z18q := Z18.out; have Z19q := Z19.out; have Z20q := Z20.out; have Z21q := Z21.out; have Z22q := Z22.out; have Z23q := Z23.out; have Z24q := Z24.out; omega)))).mono ?_; rintro _ y23 ⟨rfl, hw, hk9⟩; have Z25 : Hid (y22.heap.size ≤ y23.heap.size) := hw.below.size; have a_k := (hw.block _ _ _ _ (by decide) (by decide) a_k).trans a_k; have x_k := (hw.block _ _ _ _ (by decide) (by decide) x_k).trans x_k; have p_k := (hw.block _ _ _ _ (by decide) (by decide) p_k).trans p_k; have q_k := (hw.block _ _ _ _ (by decide) (by decide) q_k).trans q_k; have r_k := (hw.block _ _ _ _ (by decide) (by decide) r_k).trans r_k; have l_k := (hw.block _ _ _ _ (by decide) (by decide) l_k).trans l_k; have s_k := (hw.block _ _ _ _ (by decide) (by decide) s_k).trans s_k; have p_F : Hid (DFitA y4.heap.size y23 (-AV) (.agg #[.bool p_g, .slice p_o p_n p_c, .int .i64 p_e]) 0) := p_F.out.ik hw; have q_F : Hid (DFitA x6.heap.size y23 (AV.natAbs : Int) (.agg #[.bool q_g, .slice q_o q_n q_c, .int .i64 q_e]) 0) := q_F.out.ik hw; have r_F : Hid (DFitA y10.heap.size y23 SV (.agg #[.bool r_g, .slice r_o r_n r_c, .int .i64 r_e]) 0) := r_F.out.ik hw; have FR : Hid (Fr w y23) := FR.out.trans (hw.fr); have HB : Hid (Below w0.heap.size w0 y23) := HB.out.trans (hw.below); have HK : Hid (Kept w0.heap.size y23 k (S2 (S2 (S2 (fun g => g < w.heap.size) (.slice p_o p_n p_c) y18.heap.size) (.slice q_o q_n q_c) y19.heap.size) (.slice r_o r_n r_c) y22.heap.size)) := hk9; have kc6 : (y23.cell? ⟨y5.heap.size, 0, none⟩ = some (.bool p_g) ∧ y23.cell? ⟨y5.heap.size, 1, none⟩ = some (.slice p_o p_n p_c) ∧ y23.cell? ⟨y5.heap.size, 2, none⟩ = some (.int .i64 p_e)) ∧ (y23.cell? ⟨w.heap.size, 0, none⟩ = some (.bool a_g) ∧ y23.cell? ⟨w.heap.size, 1, none⟩ = some (.slice a_o a_n a_c) ∧ y23.cell? ⟨w.heap.size, 2, none⟩ = some (.int .i64 a_e)) ∧ (y23.cell? ⟨y7.heap.size, 0, none⟩ = some (.bool q_g) ∧ y23.cell? ⟨y7.heap.size, 1, none⟩ = some (.slice q_o q_n q_c) ∧ y23.cell? ⟨y7.heap.size, 2, none⟩ = some (.int .i64 q_e)) ∧ (y23.cell? ⟨y14.heap.size, 0, none⟩ = some (.bool false) ∧ y23.cell? ⟨y14.heap.size, 1, none⟩ = some (.slice a_o a_n a_c) ∧ y23.cell? ⟨y14.heap.size, 2, none⟩ = some (.int .i64 a_e)) ∧ (y23.cell? ⟨y11.heap.size, 0, none⟩ = some (.bool r_g) ∧ y23.cell? ⟨y11.heap.size, 1, none⟩ = some (.slice r_o r_n r_c) ∧ y23.cell? ⟨y11.heap.size, 2, none⟩ = some (.int .i64 r_e)) ∧ (y23.cell? ⟨y90.heap.size, 0, none⟩ = some (.bool a_g) ∧ y23.cell? ⟨y90.heap.size, 1, none⟩ = some (.slice a_o a_n a_c) ∧ y23.cell? ⟨y90.heap.size, 2, none⟩ = some (.int .i64 s_e)) := ⟨⟨blkC p_k 0 rfl, blkC p_k 1 rfl, blkC p_k 2 rfl⟩, ⟨blkC a_k 0 rfl, blkC a_k 1 rfl, blkC a_k 2 rfl⟩, ⟨blkC q_k 0 rfl, blkC q_k 1 rfl, blkC q_k 2 rfl⟩, ⟨blkC l_k 0 rfl, blkC l_k 1 rfl, blkC l_k 2 rfl⟩, ⟨blkC r_k 0 rfl, blkC r_k 1 rfl, blkC r_k 2 rfl⟩, ⟨blkC s_k 0 rfl, blkC s_k 1 rfl, blkC s_k 2 rfl⟩⟩) | (go_at_call 15; have _t := kc4; refine (sameD_yes (fitA_num r_F.out OKS.out) (HDS.out _ HB.out).num).mono ?_; rintro _ y22 ⟨rfl, hw⟩; have Z24 : Hid (y21.heap.size ≤ y22.heap.size) := hw.size; have a_k := (hw.block _ (Array.getElem?_eq_some_iff.1 a_k).1).trans a_k; have x_k := (hw.block _ (Array.getElem?_eq_some_iff.1 x_k).1).trans x_k; have p_k := (hw.block _ (Array.getElem?_eq_some_iff.1 p_k).1).trans p_k; have q_k := (hw.block _ (Array.getElem?_eq_some_iff.1 q_k).1).trans q_k; have r_k := (hw.block _ (Array.getElem?_eq_some_iff.1 r_k).1).trans r_k; have l_k := (hw.block _ (Array.getElem?_eq_some_iff.1 l_k).1).trans l_k; have s_k := (hw.block _ (Array.getElem?_eq_some_iff.1 s_k).1).trans s_k; have p_F : Hid (DFitA y4.heap.size y22 (-AV) (.agg #[.bool p_g, .slice p_o p_n p_c, .int .i64 p_e]) 0) := p_F.out.keeps hw; have q_F : Hid (DFitA x6.heap.size y22 (AV.natAbs : Int) (.agg #[.bool q_g, .slice q_o q_n q_c, .int .i64 q_e]) 0) := q_F.out.keeps hw; have r_F : Hid (DFitA y10.heap.size y22 SV (.agg #[.bool r_g, .slice r_o r_n r_c, .int .i64 r_e]) 0) := r_F.out.keeps hw; have FR : Hid (Fr w y22) := FR.out.trans (Fr.of hw); have HB : Hid (Below w0.heap.size w0 y22) := HB.out.trans ((hw).mono HB.out.size); have HK : Hid (Kept w0.heap.size y22 k (S2 (S2 (fun g => g < w.heap.size) (.slice p_o p_n p_c) y18.heap.size) (.slice q_o q_n q_c) y19.heap.size)) := HK.out.keeps hw; have kc5 : (y22.cell? ⟨y5.heap.size, 0, none⟩ = some (.bool p_g) ∧ y22.cell? ⟨y5.heap.size, 1, none⟩ = some (.slice p_o p_n p_c) ∧ y22.cell? ⟨y5.heap.size, 2, none⟩ = some (.int .i64 p_e)) ∧ (y22.cell? ⟨w.heap.size, 0, none⟩ = some (.bool a_g) ∧ y22.cell? ⟨w.heap.size, 1, none⟩ = some (.slice a_o a_n a_c) ∧ y22.cell? ⟨w.heap.size, 2, none⟩ = some (.int .i64 a_e)) ∧ (y22.cell? ⟨y7.heap.size, 0, none⟩ = some (.bool q_g) ∧ y22.cell? ⟨y7.heap.size, 1, none⟩ = some (.slice q_o q_n q_c) ∧ y22.cell? ⟨y7.heap.size, 2, none⟩ = some (.int .i64 q_e)) ∧ (y22.cell? ⟨y14.heap.size, 0, none⟩ = some (.bool false) ∧ y22.cell? ⟨y14.heap.size, 1, none⟩ = some (.slice a_o a_n a_c) ∧ y22.cell? ⟨y14.heap.size, 2, none⟩ = some (.int .i64 a_e)) ∧ (y22.cell? ⟨y11.heap.size, 0, none⟩ = some (.bool r_g) ∧ y22.cell? ⟨y11.heap.size, 1, none⟩ = some (.slice r_o r_n r_c) ∧ y22.cell? ⟨y11.heap.size, 2, none⟩ = some (.int .i64 r_e)) ∧ (y22.cell? ⟨y90.heap.size, 0, none⟩ = some (.bool a_g) ∧ y22.cell? ⟨y90.heap.size, 1, none⟩ = some (.slice a_o a_n a_c) ∧ y22.cell? ⟨y90.heap.size, 2, none⟩ = some (.int .i64 s_e)) := ⟨⟨blkC p_k 0 rfl, blkC p_k 1 rfl, blkC p_k 2 rfl⟩, ⟨blkC a_k 0 rfl, blkC a_k 1 rfl, blkC a_k 2 rfl⟩, ⟨blkC q_k 0 rfl, blkC q_k 1 rfl, blkC q_k 2 rfl⟩, ⟨blkC l_k 0 rfl, blkC l_k 1 rfl, blkC l_k 2 rfl⟩, ⟨blkC r_k 0 rfl, blkC r_k 1 rfl, blkC r_k 2 rfl⟩, ⟨blkC s_k 0 rfl, blkC s_k 1 rfl, blkC s_k 2 rfl⟩⟩) | (go_at_call 36; have _t := kc3; refine (RS.out _ HB.out).mono ?_; rintro _ y21 ⟨rfl, hw⟩; have Z23 : Hid (y20.heap.size ≤ y21.heap.size) := hw.size; have a_k := (hw.block _ (Array.getElem?_eq_some_iff.1 a_k).1).trans a_k; have x_k := (hw.block _ (Array.getElem?_eq_some_iff.1 x_k).1).trans x_k; have p_k := (hw.block _ (Array.getElem?_eq_some_iff.1 p_k).1).trans p_k; have q_k := (hw.block _ (Array.getElem?_eq_some_iff.1 q_k).1).trans q_k; have r_k := (hw.block _ (Array.getElem?_eq_some_iff.1 r_k).1).trans r_k; have l_k := (hw.block _ (Array.getElem?_eq_some_iff.1 l_k).1).trans l_k; have s_k := (hw.block _ (Array.getElem?_eq_some_iff.1 s_k).1).trans s_k; have p_F : Hid (DFitA y4.heap.size y21 (-AV) (.agg #[.bool p_g, .slice p_o p_n p_c, .int .i64 p_e]) 0) := p_F.out.keeps hw; have q_F : Hid (DFitA x6.heap.size y21 (AV.natAbs : Int) (.agg #[.bool q_g, .slice q_o q_n q_c, .int .i64 q_e]) 0) := q_F.out.keeps hw; have r_F : Hid (DFitA y10.heap.size y21 SV (.agg #[.bool r_g, .slice r_o r_n r_c, .int .i64 r_e]) 0) := r_F.out.keeps hw; have FR : Hid (Fr w y21) := FR.out.trans (Fr.of hw); have HB : Hid (Below w0.heap.size w0 y21) := HB.out.trans ((hw).mono HB.out.size); have HK : Hid (Kept w0.heap.size y21 k (S2 (S2 (fun g => g < w.heap.size) (.slice p_o p_n p_c) y18.heap.size) (.slice q_o q_n q_c) y19.heap.size)) := HK.out.keeps hw; have kc4 : (y21.cell? ⟨y5.heap.size, 0, none⟩ = some (.bool p_g) ∧ y21.cell? ⟨y5.heap.size, 1, none⟩ = some (.slice p_o p_n p_c) ∧ y21.cell? ⟨y5.heap.size, 2, none⟩ = some (.int .i64 p_e)) ∧ (y21.cell? ⟨w.heap.size, 0, none⟩ = some (.bool a_g) ∧ y21.cell? ⟨w.heap.size, 1, none⟩ = some (.slice a_o a_n a_c) ∧ y21.cell? ⟨w.heap.size, 2, none⟩ = some (.int .i64 a_e)) ∧ (y21.cell? ⟨y7.heap.size, 0, none⟩ = some (.bool q_g) ∧ y21.cell? ⟨y7.heap.size, 1, none⟩ = some (.slice q_o q_n q_c) ∧ y21.cell? ⟨y7.heap.size, 2, none⟩ = some (.int .i64 q_e)) ∧ (y21.cell? ⟨y14.heap.size, 0, none⟩ = some (.bool false) ∧ y21.cell? ⟨y14.heap.size, 1, none⟩ = some (.slice a_o a_n a_c) ∧ y21.cell? ⟨y14.heap.size, 2, none⟩ = some (.int .i64 a_e)) ∧ (y21.cell? ⟨y11.heap.size, 0, none⟩ = some (.bool r_g) ∧ y21.cell? ⟨y11.heap.size, 1, none⟩ = some (.slice r_o r_n r_c) ∧ y21.cell? ⟨y11.heap.size, 2, none⟩ = some (.int .i64 r_e)) ∧ (y21.cell? ⟨y90.heap.size, 0, none⟩ = some (.bool a_g) ∧ y21.cell? ⟨y90.heap.size, 1, none⟩ = some (.slice a_o a_n a_c) ∧ y21.cell? ⟨y90.heap.size, 2, none⟩ = some (.int .i64 s_e)) := ⟨⟨blkC p_k 0 rfl, blkC p_k 1 rfl, blkC p_k 2 rfl⟩, ⟨blkC a_k 0 rfl, blkC a_k 1 rfl, blkC a_k 2 rfl⟩, ⟨blkC q_k 0 rfl, blkC q_k 1 rfl, blkC q_k 2 rfl⟩, ⟨blkC l_k 0 rfl, blkC l_k 1 rfl, blkC l_k 2 rfl⟩, ⟨blkC r_k 0 rfl, blkC r_k 1 rfl, blkC r_k 2 rfl⟩, ⟨blkC s_k 0 rfl, blkC s_k 1 rfl, blkC s_k 2 rfl⟩⟩) | (go_at_call 24; have _t := kc2; refine (is_any HK.out (q_F.out.lower (by have HS0q := HS0.out; have Z2q := Z2.out; have Z3q := Z3.out; have Z4q := Z4.out; have Z5q := Z5.out; have Z6q := Z6.out; have Z7q := Z7.out; have Z8q := Z8.out; have Z9q := Z9.out; have Z10q := Z10.out; have Z11q := Z11.out; have Z12q := Z12.out; have Z13q := Z13.out; have Z14q := Z14.out; have Z15q := Z15.out; have Z16q := Z16.out; have Z17q := Z17.out; have Z18q := Z18.out; have Z19q := Z19.out; have Z20q := Z20.out; have Z21q := Z21.out; omega)) (DA.out _ HB.out) HB.out.size (fun g hg => (notS2 (show ¬ g < w.heap.size from by have h1 := q_L.out g hg; have HS0q := HS0.out; have Z2q := Z2.out; have Z3q := Z3.out; have Z4q := Z4.out; have Z5q := Z5.out; have Z6q := Z6.out; have Z7q := Z7.out; have Z8q := Z8.out; have Z9q := Z9.out; have Z10q := Z10.out; have Z11q := Z11.out; have Z12q := Z12.out; have Z13q := Z13.out; have Z14q := Z14.out; have Z15q := Z15.out; have Z16q := Z16.out; have Z17q := Z17.out; have Z18q := Z18.out; have Z19q := Z19.out; have Z20q := Z20.out; have Z21q := Z21.out; omega) (fun hl => by have h1 := q_L.out g hg; have h2 := p_L.out g hl; have HS0q := HS0.out; have Z2q := Z2.out; have Z3q := Z3.out; have Z4q := Z4.out; have Z5q := Z5.out; have Z6q := Z6.out; have Z7q := Z7.out; have Z8q := Z8.out; have Z9q := Z9.out; have Z10q := Z10.out; have Z11q := Z11.out; have Z12q := Z12.out; have Z13q := Z13.out; have Z14q := Z14.out; have Z15q := Z15.out; have Z16q := Z16.out; have Z17q := Z17.out; have Z18q := Z18.out; have Z19q := Z19.out; have Z20q := Z20.out; have Z21q := Z21.out; omega) (by have h1 := q_L.out g hg; have HS0q := HS0.out; have Z2q := Z2.out; have Z3q := Z3.out; have Z4q := Z4.out; have Z5q := Z5.out; have Z6q := Z6.out; have Z7q := Z7.out; have Z8q := Z8.out; have Z9q := Z9.out; have Z10q := Z10.out; have Z11q := Z11.out; have Z12q := Z12.out; have Z13q := Z13.out; have Z14q := Z14.out; have Z15q := Z15.out; have Z16q := Z16.out; have Z17q := Z17.out; have Z18q := Z18.out; have Z19q := Z19.out; have Z20q := Z20.out; have Z21q := Z21.out; omega)))).mono ?_; rintro _ y20 ⟨rfl, hw, hk9⟩; have Z22 : Hid (y19.heap.size ≤ y20.heap.size) := hw.below.size; have a_k := (hw.block _ _ _ _ (by decide) (by decide) a_k).trans a_k; have x_k := (hw.block _ _ _ _ (by decide) (by decide) x_k).trans x_k; have p_k := (hw.block _ _ _ _ (by decide) (by decide) p_k).trans p_k; have q_k := (hw.block _ _ _ _ (by decide) (by decide) q_k).trans q_k; have r_k := (hw.block _ _ _ _ (by decide) (by decide) r_k).trans r_k; have l_k := (hw.block _ _ _ _ (by decide) (by decide) l_k).trans l_k; have s_k := (hw.block _ _ _ _ (by decide) (by decide) s_k).trans s_k; have p_F : Hid (DFitA y4.heap.size y20 (-AV) (.agg #[.bool p_g, .slice p_o p_n p_c, .int .i64 p_e]) 0) := p_F.out.ik hw; have q_F : Hid (DFitA x6.heap.size y20 (AV.natAbs : Int) (.agg #[.bool q_g, .slice q_o q_n q_c, .int .i64 q_e]) 0) := q_F.out.ik hw; have r_F : Hid (DFitA y10.heap.size y20 SV (.agg #[.bool r_g, .slice r_o r_n r_c, .int .i64 r_e]) 0) := r_F.out.ik hw; have FR : Hid (Fr w y20) := FR.out.trans (hw.fr); have HB : Hid (Below w0.heap.size w0 y20) := HB.out.trans (hw.below); have HK : Hid (Kept w0.heap.size y20 k (S2 (S2 (fun g => g < w.heap.size) (.slice p_o p_n p_c) y18.heap.size) (.slice q_o q_n q_c) y19.heap.size)) := hk9; have kc3 : (y20.cell? ⟨y5.heap.size, 0, none⟩ = some (.bool p_g) ∧ y20.cell? ⟨y5.heap.size, 1, none⟩ = some (.slice p_o p_n p_c) ∧ y20.cell? ⟨y5.heap.size, 2, none⟩ = some (.int .i64 p_e)) ∧ (y20.cell? ⟨w.heap.size, 0, none⟩ = some (.bool a_g) ∧ y20.cell? ⟨w.heap.size, 1, none⟩ = some (.slice a_o a_n a_c) ∧ y20.cell? ⟨w.heap.size, 2, none⟩ = some (.int .i64 a_e)) ∧ (y20.cell? ⟨y7.heap.size, 0, none⟩ = some (.bool q_g) ∧ y20.cell? ⟨y7.heap.size, 1, none⟩ = some (.slice q_o q_n q_c) ∧ y20.cell? ⟨y7.heap.size, 2, none⟩ = some (.int .i64 q_e)) ∧ (y20.cell? ⟨y14.heap.size, 0, none⟩ = some (.bool false) ∧ y20.cell? ⟨y14.heap.size, 1, none⟩ = some (.slice a_o a_n a_c) ∧ y20.cell? ⟨y14.heap.size, 2, none⟩ = some (.int .i64 a_e)) ∧ (y20.cell? ⟨y11.heap.size, 0, none⟩ = some (.bool r_g) ∧ y20.cell? ⟨y11.heap.size, 1, none⟩ = some (.slice r_o r_n r_c) ∧ y20.cell? ⟨y11.heap.size, 2, none⟩ = some (.int .i64 r_e)) ∧ (y20.cell? ⟨y90.heap.size, 0, none⟩ = some (.bool a_g) ∧ y20.cell? ⟨y90.heap.size, 1, none⟩ = some (.slice a_o a_n a_c) ∧ y20.cell? ⟨y90.heap.size, 2, none⟩ = some (.int .i64 s_e)) := ⟨⟨blkC p_k 0 rfl, blkC p_k 1 rfl, blkC p_k 2 rfl⟩, ⟨blkC a_k 0 rfl, blkC a_k 1 rfl, blkC a_k 2 rfl⟩, ⟨blkC q_k 0 rfl, blkC q_k 1 rfl, blkC q_k 2 rfl⟩, ⟨blkC l_k 0 rfl, blkC l_k 1 rfl, blkC l_k 2 rfl⟩, ⟨blkC r_k 0 rfl, blkC r_k 1 rfl, blkC r_k 2 rfl⟩, ⟨blkC s_k 0 rfl, blkC s_k 1 rfl, blkC s_k 2 rfl⟩⟩) | (go_at_call 24; have _t := kc1; refine (is_any HK.out (p_F.out.lower (by have HS0q := HS0.out; have Z2q := Z2.out; have Z3q := Z3.out; have Z4q := Z4.out; have Z5q := Z5.out; have Z6q := Z6.out; have Z7q := Z7.out; have Z8q := Z8.out; have Z9q := Z9.out; have Z10q := Z10.out; have Z11q := Z11.out; have Z12q := Z12.out; have Z13q := Z13.out; have Z14q := Z14.out; have Z15q := Z15.out; have Z16q := Z16.out; have Z17q := Z17.out; have Z18q := Z18.out; have Z19q := Z19.out; have Z20q := Z20.out; omega)) (DN.out _ HB.out) HB.out.size (fun g hg => (show ¬ g < w.heap.size from by have h1 := p_L.out g hg; have HS0q := HS0.out; have Z2q := Z2.out; have Z3q := Z3.out; have Z4q := Z4.out; have Z5q := Z5.out; have Z6q := Z6.out; have Z7q := Z7.out; have Z8q := Z8.out; have Z9q := Z9.out; have Z10q := Z10.out; have Z11q := Z11.out; have Z12q := Z12.out; have Z13q := Z13.out; have Z14q := Z14.out; have Z15q := Z15.out; have Z16q := Z16.out; have Z17q := Z17.out; have Z18q := Z18.out; have Z19q := Z19.out; have Z20q := Z20.out; omega))).mono ?_; rintro _ y19 ⟨rfl, hw, hk9⟩; have Z21 : Hid (y18.heap.size ≤ y19.heap.size) := hw.below.size; have a_k := (hw.block _ _ _ _ (by decide) (by decide) a_k).trans a_k; have x_k := (hw.block _ _ _ _ (by decide) (by decide) x_k).trans x_k; have p_k := (hw.block _ _ _ _ (by decide) (by decide) p_k).trans p_k; have q_k := (hw.block _ _ _ _ (by decide) (by decide) q_k).trans q_k; have r_k := (hw.block _ _ _ _ (by decide) (by decide) r_k).trans r_k; have l_k := (hw.block _ _ _ _ (by decide) (by decide) l_k).trans l_k; have s_k := (hw.block _ _ _ _ (by decide) (by decide) s_k).trans s_k; have p_F : Hid (DFitA y4.heap.size y19 (-AV) (.agg #[.bool p_g, .slice p_o p_n p_c, .int .i64 p_e]) 0) := p_F.out.ik hw; have q_F : Hid (DFitA x6.heap.size y19 (AV.natAbs : Int) (.agg #[.bool q_g, .slice q_o q_n q_c, .int .i64 q_e]) 0) := q_F.out.ik hw; have r_F : Hid (DFitA y10.heap.size y19 SV (.agg #[.bool r_g, .slice r_o r_n r_c, .int .i64 r_e]) 0) := r_F.out.ik hw; have FR : Hid (Fr w y19) := FR.out.trans (hw.fr); have HB : Hid (Below w0.heap.size w0 y19) := HB.out.trans (hw.below); have HK : Hid (Kept w0.heap.size y19 k (S2 (fun g => g < w.heap.size) (.slice p_o p_n p_c) y18.heap.size)) := hk9; have kc2 : (y19.cell? ⟨y5.heap.size, 0, none⟩ = some (.bool p_g) ∧ y19.cell? ⟨y5.heap.size, 1, none⟩ = some (.slice p_o p_n p_c) ∧ y19.cell? ⟨y5.heap.size, 2, none⟩ = some (.int .i64 p_e)) ∧ (y19.cell? ⟨w.heap.size, 0, none⟩ = some (.bool a_g) ∧ y19.cell? ⟨w.heap.size, 1, none⟩ = some (.slice a_o a_n a_c) ∧ y19.cell? ⟨w.heap.size, 2, none⟩ = some (.int .i64 a_e)) ∧ (y19.cell? ⟨y7.heap.size, 0, none⟩ = some (.bool q_g) ∧ y19.cell? ⟨y7.heap.size, 1, none⟩ = some (.slice q_o q_n q_c) ∧ y19.cell? ⟨y7.heap.size, 2, none⟩ = some (.int .i64 q_e)) ∧ (y19.cell? ⟨y14.heap.size, 0, none⟩ = some (.bool false) ∧ y19.cell? ⟨y14.heap.size, 1, none⟩ = some (.slice a_o a_n a_c) ∧ y19.cell? ⟨y14.heap.size, 2, none⟩ = some (.int .i64 a_e)) ∧ (y19.cell? ⟨y11.heap.size, 0, none⟩ = some (.bool r_g) ∧ y19.cell? ⟨y11.heap.size, 1, none⟩ = some (.slice r_o r_n r_c) ∧ y19.cell? ⟨y11.heap.size, 2, none⟩ = some (.int .i64 r_e)) ∧ (y19.cell? ⟨y90.heap.size, 0, none⟩ = some (.bool a_g) ∧ y19.cell? ⟨y90.heap.size, 1, none⟩ = some (.slice a_o a_n a_c) ∧ y19.cell? ⟨y90.heap.size, 2, none⟩ = some (.int .i64 s_e)) := ⟨⟨blkC p_k 0 rfl, blkC p_k 1 rfl, blkC p_k 2 rfl⟩, ⟨blkC a_k 0 rfl, blkC a_k 1 rfl, blkC a_k 2 rfl⟩, ⟨blkC q_k 0 rfl, blkC q_k 1 rfl, blkC q_k 2 rfl⟩, ⟨blkC l_k 0 rfl, blkC l_k 1 rfl, blkC l_k 2 rfl⟩, ⟨blkC r_k 0 rfl, blkC r_k 1 rfl, blkC r_k 2 rfl⟩, ⟨blkC s_k 0 rfl, blkC s_k 1 rfl, blkC s_k 2 rfl⟩⟩) | (go_at_call 35; have _t := kc0; refine (RN.out _ HB.out.drew).mono ?_; rintro _ y18 ⟨rfl, hw⟩; have hw := bel_trans (bel_refl y17).drew hw; have Z20 : Hid (y17.heap.size ≤ y18.heap.size) := hw.size; have a_k := (hw.block _ (Array.getElem?_eq_some_iff.1 a_k).1).trans a_k; have x_k := (hw.block _ (Array.getElem?_eq_some_iff.1 x_k).1).trans x_k; have p_k := (hw.block _ (Array.getElem?_eq_some_iff.1 p_k).1).trans p_k; have q_k := (hw.block _ (Array.getElem?_eq_some_iff.1 q_k).1).trans q_k; have r_k := (hw.block _ (Array.getElem?_eq_some_iff.1 r_k).1).trans r_k; have l_k := (hw.block _ (Array.getElem?_eq_some_iff.1 l_k).1).trans l_k; have s_k := (hw.block _ (Array.getElem?_eq_some_iff.1 s_k).1).trans s_k; have p_F : Hid (DFitA y4.heap.size y18 (-AV) (.agg #[.bool p_g, .slice p_o p_n p_c, .int .i64 p_e]) 0) := p_F.out.keeps hw; have q_F : Hid (DFitA x6.heap.size y18 (AV.natAbs : Int) (.agg #[.bool q_g, .slice q_o q_n q_c, .int .i64 q_e]) 0) := q_F.out.keeps hw; have r_F : Hid (DFitA y10.heap.size y18 SV (.agg #[.bool r_g, .slice r_o r_n r_c, .int .i64 r_e]) 0) := r_F.out.keeps hw; have FR : Hid (Fr w y18) := FR.out.trans (Fr.of hw); have HB : Hid (Below w0.heap.size w0 y18) := HB.out.trans ((hw).mono HB.out.size); have HK : Hid (Kept w0.heap.size y18 k (fun g => g < w.heap.size)) := HK.out.keeps hw; have kc1 : (y18.cell? ⟨y5.heap.size, 0, none⟩ = some (.bool p_g) ∧ y18.cell? ⟨y5.heap.size, 1, none⟩ = some (.slice p_o p_n p_c) ∧ y18.cell? ⟨y5.heap.size, 2, none⟩ = some (.int .i64 p_e)) ∧ (y18.cell? ⟨w.heap.size, 0, none⟩ = some (.bool a_g) ∧ y18.cell? ⟨w.heap.size, 1, none⟩ = some (.slice a_o a_n a_c) ∧ y18.cell? ⟨w.heap.size, 2, none⟩ = some (.int .i64 a_e)) ∧ (y18.cell? ⟨y7.heap.size, 0, none⟩ = some (.bool q_g) ∧ y18.cell? ⟨y7.heap.size, 1, none⟩ = some (.slice q_o q_n q_c) ∧ y18.cell? ⟨y7.heap.size, 2, none⟩ = some (.int .i64 q_e)) ∧ (y18.cell? ⟨y14.heap.size, 0, none⟩ = some (.bool false) ∧ y18.cell? ⟨y14.heap.size, 1, none⟩ = some (.slice a_o a_n a_c) ∧ y18.cell? ⟨y14.heap.size, 2, none⟩ = some (.int .i64 a_e)) ∧ (y18.cell? ⟨y11.heap.size, 0, none⟩ = some (.bool r_g) ∧ y18.cell? ⟨y11.heap.size, 1, none⟩ = some (.slice r_o r_n r_c) ∧ y18.cell? ⟨y11.heap.size, 2, none⟩ = some (.int .i64 r_e)) ∧ (y18.cell? ⟨y90.heap.size, 0, none⟩ = some (.bool a_g) ∧ y18.cell? ⟨y90.heap.size, 1, none⟩ = some (.slice a_o a_n a_c) ∧ y18.cell? ⟨y90.heap.size, 2, none⟩ = some (.int .i64 s_e)) := ⟨⟨blkC p_k 0 rfl, blkC p_k 1 rfl, blkC p_k 2 rfl⟩, ⟨blkC a_k 0 rfl, blkC a_k 1 rfl, blkC a_k 2 rfl⟩, ⟨blkC q_k 0 rfl, blkC q_k 1 rfl, blkC q_k 2 rfl⟩, ⟨blkC l_k 0 rfl, blkC l_k 1 rfl, blkC l_k 2 rfl⟩, ⟨blkC r_k 0 rfl, blkC r_k 1 rfl, blkC r_k 2 rfl⟩, ⟨blkC s_k 0 rfl, blkC s_k 1 rfl, blkC s_k 2 rfl⟩⟩))
      all_goals go_wp2
      all_goals
        go_ret
        exact ⟨rfl, HB.out, _, hk9, FR.out⟩
    · exact absurd o1 o2
  · rcases hor with ⟨o2, e2, s_e, h1, hy⟩ | ⟨o2, e2, h1⟩
    · exact absurd o2 o1
    · obtain ⟨rfl, rfl, rfl, rfl, rfl⟩ := zeroV_inj hz
      obtain rfl : v = .agg #[.bool false, .slice none 0 0, .int .i64 0] := h1
      subst e1 e2
      clear o1 o2 hz
      have hbx : Below y90.heap.size y90 (y90.alloc (.cells #[.bool false, .slice none 0 0, .int .i64 0] 25)) := bel_alloc _ _
      have s_k : (y90.alloc (.cells #[.bool false, .slice none 0 0, .int .i64 0] 25)).heap[y90.heap.size]? = some (.cells #[.bool false, .slice none 0 0, .int .i64 0] 25 (0, 0)) := heap_a1 _ _
      have u_k := (hbx.block _ (Array.getElem?_eq_some_iff.1 a_k).1).trans a_k
      have f_a0 := blkC u_k 0 rfl
      have f_a1 := blkC u_k 1 rfl
      have f_a2 := blkC u_k 2 rfl
      clear u_k
      go_wp2_with fail
      clear f_a0 f_a1 f_a2
      generalize (y90.alloc (.cells #[.bool false, .slice none 0 0, .int .i64 0] 25)) = x16 at hbx s_k ⊢
      have Z18 : Hid (y90.heap.size ≤ x16.heap.size) := hbx.size
      have a_k := (hbx.block _ (Array.getElem?_eq_some_iff.1 a_k).1).trans a_k
      have x_k := (hbx.block _ (Array.getElem?_eq_some_iff.1 x_k).1).trans x_k
      have p_k := (hbx.block _ (Array.getElem?_eq_some_iff.1 p_k).1).trans p_k
      have q_k := (hbx.block _ (Array.getElem?_eq_some_iff.1 q_k).1).trans q_k
      have r_k := (hbx.block _ (Array.getElem?_eq_some_iff.1 r_k).1).trans r_k
      have l_k := (hbx.block _ (Array.getElem?_eq_some_iff.1 l_k).1).trans l_k
      have p_F : Hid (DFitA y4.heap.size x16 (-AV) (.agg #[.bool p_g, .slice p_o p_n p_c, .int .i64 p_e]) 0) := p_F.out.keeps hbx
      have q_F : Hid (DFitA x6.heap.size x16 (AV.natAbs : Int) (.agg #[.bool q_g, .slice q_o q_n q_c, .int .i64 q_e]) 0) := q_F.out.keeps hbx
      have FR : Hid (Fr w x16) := FR.out.trans (Fr.of hbx)
      have HB : Hid (Below w0.heap.size w0 x16) := HB.out.trans ((hbx).mono HB.out.size)
      have HK : Hid (Kept w0.heap.size x16 k (fun g => g < w.heap.size)) := HK.out.keeps hbx
      clear hbx
      refine (RF.out _ HB.out).mono ?_
      rintro _ y17 ⟨rfl, hw⟩
      have Z19 : Hid (x16.heap.size ≤ y17.heap.size) := hw.size
      have a_k := (hw.block _ (Array.getElem?_eq_some_iff.1 a_k).1).trans a_k
      have x_k := (hw.block _ (Array.getElem?_eq_some_iff.1 x_k).1).trans x_k
      have p_k := (hw.block _ (Array.getElem?_eq_some_iff.1 p_k).1).trans p_k
      have q_k := (hw.block _ (Array.getElem?_eq_some_iff.1 q_k).1).trans q_k
      have r_k := (hw.block _ (Array.getElem?_eq_some_iff.1 r_k).1).trans r_k
      have l_k := (hw.block _ (Array.getElem?_eq_some_iff.1 l_k).1).trans l_k
      have s_k := (hw.block _ (Array.getElem?_eq_some_iff.1 s_k).1).trans s_k
      have p_F : Hid (DFitA y4.heap.size y17 (-AV) (.agg #[.bool p_g, .slice p_o p_n p_c, .int .i64 p_e]) 0) := p_F.out.keeps hw
      have q_F : Hid (DFitA x6.heap.size y17 (AV.natAbs : Int) (.agg #[.bool q_g, .slice q_o q_n q_c, .int .i64 q_e]) 0) := q_F.out.keeps hw
      have FR : Hid (Fr w y17) := FR.out.trans (Fr.of hw)
      have HB : Hid (Below w0.heap.size w0 y17) := HB.out.trans ((hw).mono HB.out.size)
      have HK : Hid (Kept w0.heap.size y17 k (fun g => g < w.heap.size)) := HK.out.keeps hw
      clear hw
      go_wp2_with fail
      have kc0 : (y17.drew.cell? ⟨y5.heap.size, 0, none⟩ = some (.bool p_g) ∧ y17.drew.cell? ⟨y5.heap.size, 1, none⟩ = some (.slice p_o p_n p_c) ∧ y17.drew.cell? ⟨y5.heap.size, 2, none⟩ = some (.int .i64 p_e)) ∧ (y17.drew.cell? ⟨w.heap.size, 0, none⟩ = some (.bool a_g) ∧ y17.drew.cell? ⟨w.heap.size, 1, none⟩ = some (.slice a_o a_n a_c) ∧ y17.drew.cell? ⟨w.heap.size, 2, none⟩ = some (.int .i64 a_e)) ∧ (y17.drew.cell? ⟨y7.heap.size, 0, none⟩ = some (.bool q_g) ∧ y17.drew.cell? ⟨y7.heap.size, 1, none⟩ = some (.slice q_o q_n q_c) ∧ y17.drew.cell? ⟨y7.heap.size, 2, none⟩ = some (.int .i64 q_e)) ∧ (y17.drew.cell? ⟨y14.heap.size, 0, none⟩ = some (.bool false) ∧ y17.drew.cell? ⟨y14.heap.size, 1, none⟩ = some (.slice a_o a_n a_c) ∧ y17.drew.cell? ⟨y14.heap.size, 2, none⟩ = some (.int .i64 a_e)) ∧ (y17.drew.cell? ⟨y11.heap.size, 0, none⟩ = some (.bool false) ∧ y17.drew.cell? ⟨y11.heap.size, 1, none⟩ = some (.slice none 0 0) ∧ y17.drew.cell? ⟨y11.heap.size, 2, none⟩ = some (.int .i64 0)) ∧ (y17.drew.cell? ⟨y90.heap.size, 0, none⟩ = some (.bool false) ∧ y17.drew.cell? ⟨y90.heap.size, 1, none⟩ = some (.slice none 0 0) ∧ y17.drew.cell? ⟨y90.heap.size, 2, none⟩ = some (.int .i64 0)) := ⟨⟨blkC p_k 0 rfl, blkC p_k 1 rfl, blkC p_k 2 rfl⟩, ⟨blkC a_k 0 rfl, blkC a_k 1 rfl, blkC a_k 2 rfl⟩, ⟨blkC q_k 0 rfl, blkC q_k 1 rfl, blkC q_k 2 rfl⟩, ⟨blkC l_k 0 rfl, blkC l_k 1 rfl, blkC l_k 2 rfl⟩, ⟨blkC r_k 0 rfl, blkC r_k 1 rfl, blkC r_k 2 rfl⟩, ⟨blkC s_k 0 rfl, blkC s_k 1 rfl, blkC s_k 2 rfl⟩⟩
      go_region_held3 (fun W => (W.cell? ⟨y5.heap.size, 0, none⟩ = some (.bool p_g) ∧ W.cell? ⟨y5.heap.size, 1, none⟩ = some (.slice p_o p_n p_c) ∧ W.cell? ⟨y5.heap.size, 2, none⟩ = some (.int .i64 p_e)) ∧ (W.cell? ⟨w.heap.size, 0, none⟩ = some (.bool a_g) ∧ W.cell? ⟨w.heap.size, 1, none⟩ = some (.slice a_o a_n a_c) ∧ W.cell? ⟨w.heap.size, 2, none⟩ = some (.int .i64 a_e)) ∧ (W.cell? ⟨y7.heap.size, 0, none⟩ = some (.bool q_g) ∧ W.cell? ⟨y7.heap.size, 1, none⟩ = some (.slice q_o q_n q_c) ∧ W.cell? ⟨y7.heap.size, 2, none⟩ = some (.int .i64 q_e)) ∧ (W.cell? ⟨y14.heap.size, 0, none⟩ = some (.bool false) ∧ W.cell? ⟨y14.heap.size, 1, none⟩ = some (.slice a_o a_n a_c) ∧ W.cell? ⟨y14.heap.size, 2, none⟩ = some (.int .i64 a_e)) ∧ (W.cell? ⟨y11.heap.size, 0, none⟩ = some (.bool false) ∧ W.cell? ⟨y11.heap.size, 1, none⟩ = some (.slice none 0 0) ∧ W.cell? ⟨y11.heap.size, 2, none⟩ = some (.int .i64 0)) ∧ (W.cell? ⟨y90.heap.size, 0, none⟩ = some (.bool false) ∧ W.cell? ⟨y90.heap.size, 1, none⟩ = some (.slice none 0 0) ∧ W.cell? ⟨y90.heap.size, 2, none⟩ = some (.int .i64 0)))
        (first | assumption)
        (first | (go_at_call 20; have _t := kc5; refine (keep_zero HK.out HB.out.size).mono ?_; rintro _ y23 ⟨rfl, hw, hk9⟩; have Z25 : Hid (y22.heap.size ≤ y23.heap.size) := hw.below.size; have a_k := (hw.block _ _ _ _ (by decide) (by decide) a_k).trans a_k; have x_k := (hw.block _ _ _ _ (by decide) (by decide) x_k).trans x_k; have p_k := (hw.block _ _ _ _ (by decide) (by decide) p_k).trans p_k; have q_k := (hw.block _ _ _ _ (by decide) (by decide) q_k).trans q_k; have r_k := (hw.block _ _ _ _ (by decide) (by decide) r_k).trans r_k; have l_k := (hw.block _ _ _ _ (by decide) (by decide) l_k).trans l_k; have s_k := (hw.block _ _ _ _ (by decide) (by decide) s_k).trans s_k; have p_F : Hid (DFitA y4.heap.size y23 (-AV) (.agg #[.bool p_g, .slice p_o p_n p_c, .int .i64 p_e]) 0) := p_F.out.ik hw; have q_F : Hid (DFitA x6.heap.size y23 (AV.natAbs : Int) (.agg #[.bool q_g, .slice q_o q_n q_c, .int .i64 q_e]) 0) := q_F.out.ik hw; have FR : Hid (Fr w y23) := FR.out.trans (hw.fr); have HB : Hid (Below w0.heap.size w0 y23) := HB.out.trans (hw.below); have HK := hk9; have kc6 : (y23.cell? ⟨y5.heap.size, 0, none⟩ = some (.bool p_g) ∧ y23.cell? ⟨y5.heap.size, 1, none⟩ = some (.slice p_o p_n p_c) ∧ y23.cell? ⟨y5.heap.size, 2, none⟩ = some (.int .i64 p_e)) ∧ (y23.cell? ⟨w.heap.size, 0, none⟩ = some (.bool a_g) ∧ y23.cell? ⟨w.heap.size, 1, none⟩ = some (.slice a_o a_n a_c) ∧ y23.cell? ⟨w.heap.size, 2, none⟩ = some (.int .i64 a_e)) ∧ (y23.cell? ⟨y7.heap.size, 0, none⟩ = some (.bool q_g) ∧ y23.cell? ⟨y7.heap.size, 1, none⟩ = some (.slice q_o q_n q_c) ∧ y23.cell? ⟨y7.heap.size, 2, none⟩ = some (.int .i64 q_e)) ∧ (y23.cell? ⟨y14.heap.size, 0, none⟩ = some (.bool false) ∧ y23.cell? ⟨y14.heap.size, 1, none⟩ = some (.slice a_o a_n a_c) ∧ y23.cell? ⟨y14.heap.size, 2, none⟩ = some (.int .i64 a_e)) ∧ (y23.cell? ⟨y11.heap.size, 0, none⟩ = some (.bool false) ∧ y23.cell? ⟨y11.heap.size, 1, none⟩ = some (.slice none 0 0) ∧ y23.cell? ⟨y11.heap.size, 2, none⟩ = some (.int .i64 0)) ∧ (y23.cell? ⟨y90.heap.size, 0, none⟩ = some (.bool false) ∧ y23.cell? ⟨y90.heap.size, 1, none⟩ = some (.slice none 0 0) ∧ y23.cell? ⟨y90.heap.size, 2, none⟩ = some (.int .i64 0)) := ⟨⟨blkC p_k 0 rfl, blkC p_k 1 rfl, blkC p_k 2 rfl⟩, ⟨blkC a_k 0 rfl, blkC a_k 1 rfl, blkC a_k 2 rfl⟩, ⟨blkC q_k 0 rfl, blkC q_k 1 rfl, blkC q_k 2 rfl⟩, ⟨blkC l_k 0 rfl, blkC l_k 1 rfl, blkC l_k 2 rfl⟩, ⟨blkC r_k 0 rfl, blkC r_k 1 rfl, blkC r_k 2 rfl⟩, ⟨blkC s_k 0 rfl, blkC s_k 1 rfl, blkC s_k 2 rfl⟩⟩) | (go_at_call 15; have _t := kc4; refine (sameD_yes (DNum.zero _) (DNum.zero _)).mono ?_; rintro _ y22 ⟨rfl, hw⟩; have Z24 : Hid (y21.heap.size ≤ y22.heap.size) := hw.size; have a_k := (hw.block _ (Array.getElem?_eq_some_iff.1 a_k).1).trans a_k; have x_k := (hw.block _ (Array.getElem?_eq_some_iff.1 x_k).1).trans x_k; have p_k := (hw.block _ (Array.getElem?_eq_some_iff.1 p_k).1).trans p_k; have q_k := (hw.block _ (Array.getElem?_eq_some_iff.1 q_k).1).trans q_k; have r_k := (hw.block _ (Array.getElem?_eq_some_iff.1 r_k).1).trans r_k; have l_k := (hw.block _ (Array.getElem?_eq_some_iff.1 l_k).1).trans l_k; have s_k := (hw.block _ (Array.getElem?_eq_some_iff.1 s_k).1).trans s_k; have p_F : Hid (DFitA y4.heap.size y22 (-AV) (.agg #[.bool p_g, .slice p_o p_n p_c, .int .i64 p_e]) 0) := p_F.out.keeps hw; have q_F : Hid (DFitA x6.heap.size y22 (AV.natAbs : Int) (.agg #[.bool q_g, .slice q_o q_n q_c, .int .i64 q_e]) 0) := q_F.out.keeps hw; have FR : Hid (Fr w y22) := FR.out.trans (Fr.of hw); have HB : Hid (Below w0.heap.size w0 y22) := HB.out.trans ((hw).mono HB.out.size); have HK : Hid (Kept w0.heap.size y22 k (S2 (S2 (fun g => g < w.heap.size) (.slice p_o p_n p_c) y18.heap.size) (.slice q_o q_n q_c) y19.heap.size)) := HK.out.keeps hw; have kc5 : (y22.cell? ⟨y5.heap.size, 0, none⟩ = some (.bool p_g) ∧ y22.cell? ⟨y5.heap.size, 1, none⟩ = some (.slice p_o p_n p_c) ∧ y22.cell? ⟨y5.heap.size, 2, none⟩ = some (.int .i64 p_e)) ∧ (y22.cell? ⟨w.heap.size, 0, none⟩ = some (.bool a_g) ∧ y22.cell? ⟨w.heap.size, 1, none⟩ = some (.slice a_o a_n a_c) ∧ y22.cell? ⟨w.heap.size, 2, none⟩ = some (.int .i64 a_e)) ∧ (y22.cell? ⟨y7.heap.size, 0, none⟩ = some (.bool q_g) ∧ y22.cell? ⟨y7.heap.size, 1, none⟩ = some (.slice q_o q_n q_c) ∧ y22.cell? ⟨y7.heap.size, 2, none⟩ = some (.int .i64 q_e)) ∧ (y22.cell? ⟨y14.heap.size, 0, none⟩ = some (.bool false) ∧ y22.cell? ⟨y14.heap.size, 1, none⟩ = some (.slice a_o a_n a_c) ∧ y22.cell? ⟨y14.heap.size, 2, none⟩ = some (.int .i64 a_e)) ∧ (y22.cell? ⟨y11.heap.size, 0, none⟩ = some (.bool false) ∧ y22.cell? ⟨y11.heap.size, 1, none⟩ = some (.slice none 0 0) ∧ y22.cell? ⟨y11.heap.size, 2, none⟩ = some (.int .i64 0)) ∧ (y22.cell? ⟨y90.heap.size, 0, none⟩ = some (.bool false) ∧ y22.cell? ⟨y90.heap.size, 1, none⟩ = some (.slice none 0 0) ∧ y22.cell? ⟨y90.heap.size, 2, none⟩ = some (.int .i64 0)) := ⟨⟨blkC p_k 0 rfl, blkC p_k 1 rfl, blkC p_k 2 rfl⟩, ⟨blkC a_k 0 rfl, blkC a_k 1 rfl, blkC a_k 2 rfl⟩, ⟨blkC q_k 0 rfl, blkC q_k 1 rfl, blkC q_k 2 rfl⟩, ⟨blkC l_k 0 rfl, blkC l_k 1 rfl, blkC l_k 2 rfl⟩, ⟨blkC r_k 0 rfl, blkC r_k 1 rfl, blkC r_k 2 rfl⟩, ⟨blkC s_k 0 rfl, blkC s_k 1 rfl, blkC s_k 2 rfl⟩⟩) | (go_at_call 36; have _t := kc3; refine (RS.out _ HB.out).mono ?_; rintro _ y21 ⟨rfl, hw⟩; have Z23 : Hid (y20.heap.size ≤ y21.heap.size) := hw.size; have a_k := (hw.block _ (Array.getElem?_eq_some_iff.1 a_k).1).trans a_k; have x_k := (hw.block _ (Array.getElem?_eq_some_iff.1 x_k).1).trans x_k; have p_k := (hw.block _ (Array.getElem?_eq_some_iff.1 p_k).1).trans p_k; have q_k := (hw.block _ (Array.getElem?_eq_some_iff.1 q_k).1).trans q_k; have r_k := (hw.block _ (Array.getElem?_eq_some_iff.1 r_k).1).trans r_k; have l_k := (hw.block _ (Array.getElem?_eq_some_iff.1 l_k).1).trans l_k; have s_k := (hw.block _ (Array.getElem?_eq_some_iff.1 s_k).1).trans s_k; have p_F : Hid (DFitA y4.heap.size y21 (-AV) (.agg #[.bool p_g, .slice p_o p_n p_c, .int .i64 p_e]) 0) := p_F.out.keeps hw; have q_F : Hid (DFitA x6.heap.size y21 (AV.natAbs : Int) (.agg #[.bool q_g, .slice q_o q_n q_c, .int .i64 q_e]) 0) := q_F.out.keeps hw; have FR : Hid (Fr w y21) := FR.out.trans (Fr.of hw); have HB : Hid (Below w0.heap.size w0 y21) := HB.out.trans ((hw).mono HB.out.size); have HK : Hid (Kept w0.heap.size y21 k (S2 (S2 (fun g => g < w.heap.size) (.slice p_o p_n p_c) y18.heap.size) (.slice q_o q_n q_c) y19.heap.size)) := HK.out.keeps hw; have kc4 : (y21.cell? ⟨y5.heap.size, 0, none⟩ = some (.bool p_g) ∧ y21.cell? ⟨y5.heap.size, 1, none⟩ = some (.slice p_o p_n p_c) ∧ y21.cell? ⟨y5.heap.size, 2, none⟩ = some (.int .i64 p_e)) ∧ (y21.cell? ⟨w.heap.size, 0, none⟩ = some (.bool a_g) ∧ y21.cell? ⟨w.heap.size, 1, none⟩ = some (.slice a_o a_n a_c) ∧ y21.cell? ⟨w.heap.size, 2, none⟩ = some (.int .i64 a_e)) ∧ (y21.cell? ⟨y7.heap.size, 0, none⟩ = some (.bool q_g) ∧ y21.cell? ⟨y7.heap.size, 1, none⟩ = some (.slice q_o q_n q_c) ∧ y21.cell? ⟨y7.heap.size, 2, none⟩ = some (.int .i64 q_e)) ∧ (y21.cell? ⟨y14.heap.size, 0, none⟩ = some (.bool false) ∧ y21.cell? ⟨y14.heap.size, 1, none⟩ = some (.slice a_o a_n a_c) ∧ y21.cell? ⟨y14.heap.size, 2, none⟩ = some (.int .i64 a_e)) ∧ (y21.cell? ⟨y11.heap.size, 0, none⟩ = some (.bool false) ∧ y21.cell? ⟨y11.heap.size, 1, none⟩ = some (.slice none 0 0) ∧ y21.cell? ⟨y11.heap.size, 2, none⟩ = some (.int .i64 0)) ∧ (y21.cell? ⟨y90.heap.size, 0, none⟩ = some (.bool false) ∧ y21.cell? ⟨y90.heap.size, 1, none⟩ = some (.slice none 0 0) ∧ y21.cell? ⟨y90.heap.size, 2, none⟩ = some (.int .i64 0)) := ⟨⟨blkC p_k 0 rfl, blkC p_k 1 rfl, blkC p_k 2 rfl⟩, ⟨blkC a_k 0 rfl, blkC a_k 1 rfl, blkC a_k 2 rfl⟩, ⟨blkC q_k 0 rfl, blkC q_k 1 rfl, blkC q_k 2 rfl⟩, ⟨blkC l_k 0 rfl, blkC l_k 1 rfl, blkC l_k 2 rfl⟩, ⟨blkC r_k 0 rfl, blkC r_k 1 rfl, blkC r_k 2 rfl⟩, ⟨blkC s_k 0 rfl, blkC s_k 1 rfl, blkC s_k 2 rfl⟩⟩) | (go_at_call 24; have _t := kc2; refine (is_any HK.out (q_F.out.lower (by have HS0q := HS0.out; have Z2q := Z2.out; have Z3q := Z3.out; have Z4q := Z4.out; have Z5q := Z5.out; have Z6q := Z6.out; have Z7q := Z7.out; have Z8q := Z8.out; have Z9q := Z9.out; have Z10q := Z10.out; have Z11q := Z11.out; have Z12q := Z12.out; have Z13q := Z13.out; have Z14q := Z14.out; have Z15q := Z15.out; have Z16q := Z16.out; have Z17q := Z17.out; have Z18q := Z18.out; have Z19q := Z19.out; have Z20q := Z20.out; have Z21q := Z21.out; omega)) (DA.out _ HB.out) HB.out.size (fun g hg => (notS2 (show ¬ g < w.heap.size from by have h1 := q_L.out g hg; have HS0q := HS0.out; have Z2q := Z2.out; have Z3q := Z3.out; have Z4q := Z4.out; have Z5q := Z5.out; have Z6q := Z6.out; have Z7q := Z7.out; have Z8q := Z8.out; have Z9q := Z9.out; have Z10q := Z10.out; have Z11q := Z11.out; have Z12q := Z12.out; have Z13q := Z13.out; have Z14q := Z14.out; have Z15q := Z15.out; have Z16q := Z16.out; have Z17q := Z17.out; have Z18q := Z18.out; have Z19q := Z19.out; have Z20q := Z20.out; have Z21q := Z21.out; omega) (fun hl => by have h1 := q_L.out g hg; have h2 := p_L.out g hl; have HS0q := HS0.out; have Z2q := Z2.out; have Z3q := Z3.out; have Z4q := Z4.out; have Z5q := Z5.out; have Z6q := Z6.out; have Z7q := Z7.out; have Z8q := Z8.out; have Z9q := Z9.out; have Z10q := Z10.out; have Z11q := Z11.out; have Z12q := Z12.out; have Z13q := Z13.out; have Z14q := Z14.out; have Z15q := Z15.out; have Z16q := Z16.out; have Z17q := Z17.out; have Z18q := Z18.out; have Z19q := Z19.out; have Z20q := Z20.out; have Z21q := Z21.out; omega) (by have h1 := q_L.out g hg; have HS0q := HS0.out; have Z2q := Z2.out; have Z3q := Z3.out; have Z4q := Z4.out; have Z5q := Z5.out; have Z6q := Z6.out; have Z7q := Z7.out; have Z8q := Z8.out; have Z9q := Z9.out; have Z10q := Z10.out; have Z11q := Z11.out; have Z12q := Z12.out; have Z13q := Z13.out; have Z14q := Z14.out; have Z15q := Z15.out; have Z16q := Z16.out; have Z17q := Z17.out; have Z18q := Z18.out; have Z19q := Z19.out; have Z20q := Z20.out; have Z21q := Z21.out; omega)))).mono ?_; rintro _ y20 ⟨rfl, hw, hk9⟩; have Z22 : Hid (y19.heap.size ≤ y20.heap.size) := hw.below.size; have a_k := (hw.block _ _ _ _ (by decide) (by decide) a_k).trans a_k; have x_k := (hw.block _ _ _ _ (by decide) (by decide) x_k).trans x_k; have p_k := (hw.block _ _ _ _ (by decide) (by decide) p_k).trans p_k; have q_k := (hw.block _ _ _ _ (by decide) (by decide) q_k).trans q_k; have r_k := (hw.block _ _ _ _ (by decide) (by decide) r_k).trans r_k; have l_k := (hw.block _ _ _ _ (by decide) (by decide) l_k).trans l_k; have s_k := (hw.block _ _ _ _ (by decide) (by decide) s_k).trans s_k; have p_F : Hid (DFitA y4.heap.size y20 (-AV) (.agg #[.bool p_g, .slice p_o p_n p_c, .int .i64 p_e]) 0) := p_F.out.ik hw; have q_F : Hid (DFitA x6.heap.size y20 (AV.natAbs : Int) (.agg #[.bool q_g, .slice q_o q_n q_c, .int .i64 q_e]) 0) := q_F.out.ik hw; have FR : Hid (Fr w y20) := FR.out.trans (hw.fr); have HB : Hid (Below w0.heap.size w0 y20) := HB.out.trans (hw.below); have HK : Hid (Kept w0.heap.size y20 k (S2 (S2 (fun g => g < w.heap.size) (.slice p_o p_n p_c) y18.heap.size) (.slice q_o q_n q_c) y19.heap.size)) := hk9; have kc3 : (y20.cell? ⟨y5.heap.size, 0, none⟩ = some (.bool p_g) ∧ y20.cell? ⟨y5.heap.size, 1, none⟩ = some (.slice p_o p_n p_c) ∧ y20.cell? ⟨y5.heap.size, 2, none⟩ = some (.int .i64 p_e)) ∧ (y20.cell? ⟨w.heap.size, 0, none⟩ = some (.bool a_g) ∧ y20.cell? ⟨w.heap.size, 1, none⟩ = some (.slice a_o a_n a_c) ∧ y20.cell? ⟨w.heap.size, 2, none⟩ = some (.int .i64 a_e)) ∧ (y20.cell? ⟨y7.heap.size, 0, none⟩ = some (.bool q_g) ∧ y20.cell? ⟨y7.heap.size, 1, none⟩ = some (.slice q_o q_n q_c) ∧ y20.cell? ⟨y7.heap.size, 2, none⟩ = some (.int .i64 q_e)) ∧ (y20.cell? ⟨y14.heap.size, 0, none⟩ = some (.bool false) ∧ y20.cell? ⟨y14.heap.size, 1, none⟩ = some (.slice a_o a_n a_c) ∧ y20.cell? ⟨y14.heap.size, 2, none⟩ = some (.int .i64 a_e)) ∧ (y20.cell? ⟨y11.heap.size, 0, none⟩ = some (.bool false) ∧ y20.cell? ⟨y11.heap.size, 1, none⟩ = some (.slice none 0 0) ∧ y20.cell? ⟨y11.heap.size, 2, none⟩ = some (.int .i64 0)) ∧ (y20.cell? ⟨y90.heap.size, 0, none⟩ = some (.bool false) ∧ y20.cell? ⟨y90.heap.size, 1, none⟩ = some (.slice none 0 0) ∧ y20.cell? ⟨y90.heap.size, 2, none⟩ = some (.int .i64 0)) := ⟨⟨blkC p_k 0 rfl, blkC p_k 1 rfl, blkC p_k 2 rfl⟩, ⟨blkC a_k 0 rfl, blkC a_k 1 rfl, blkC a_k 2 rfl⟩, ⟨blkC q_k 0 rfl, blkC q_k 1 rfl, blkC q_k 2 rfl⟩, ⟨blkC l_k 0 rfl, blkC l_k 1 rfl, blkC l_k 2 rfl⟩, ⟨blkC r_k 0 rfl, blkC r_k 1 rfl, blkC r_k 2 rfl⟩, ⟨blkC s_k 0 rfl, blkC s_k 1 rfl, blkC s_k 2 rfl⟩⟩) | (go_at_call 24; have _t := kc1; refine (is_any HK.out (p_F.out.lower (by have HS0q := HS0.out; have Z2q := Z2.out; have Z3q := Z3.out; have Z4q := Z4.out; have Z5q := Z5.out; have Z6q := Z6.out; have Z7q := Z7.out; have Z8q := Z8.out; have Z9q := Z9.out; have Z10q := Z10.out; have Z11q := Z11.out; have Z12q := Z12.out; have Z13q := Z13.out; have Z14q := Z14.out; have Z15q := Z15.out; have Z16q := Z16.out; have Z17q := Z17.out; have Z18q := Z18.out; have Z19q := Z19.out; have Z20q := Z20.out; omega)) (DN.out _ HB.out) HB.out.size (fun g hg => (show ¬ g < w.heap.size from by have h1 := p_L.out g hg; have HS0q := HS0.out; have Z2q := Z2.out; have Z3q := Z3.out; have Z4q := Z4.out; have Z5q := Z5.out; have Z6q := Z6.out; have Z7q := Z7.out; have Z8q := Z8.out; have Z9q := Z9.out; have Z10q := Z10.out; have Z11q := Z11.out; have Z12q := Z12.out; have Z13q := Z13.out; have Z14q := Z14.out; have Z15q := Z15.out; have Z16q := Z16.out; have Z17q := Z17.out; have Z18q := Z18.out; have Z19q := Z19.out; have Z20q := Z20.out; omega))).mono ?_; rintro _ y19 ⟨rfl, hw, hk9⟩; have Z21 : Hid (y18.heap.size ≤ y19.heap.size) := hw.below.size; have a_k := (hw.block _ _ _ _ (by decide) (by decide) a_k).trans a_k; have x_k := (hw.block _ _ _ _ (by decide) (by decide) x_k).trans x_k; have p_k := (hw.block _ _ _ _ (by decide) (by decide) p_k).trans p_k; have q_k := (hw.block _ _ _ _ (by decide) (by decide) q_k).trans q_k; have r_k := (hw.block _ _ _ _ (by decide) (by decide) r_k).trans r_k; have l_k := (hw.block _ _ _ _ (by decide) (by decide) l_k).trans l_k; have s_k := (hw.block _ _ _ _ (by decide) (by decide) s_k).trans s_k; have p_F : Hid (DFitA y4.heap.size y19 (-AV) (.agg #[.bool p_g, .slice p_o p_n p_c, .int .i64 p_e]) 0) := p_F.out.ik hw; have q_F : Hid (DFitA x6.heap.size y19 (AV.natAbs : Int) (.agg #[.bool q_g, .slice q_o q_n q_c, .int .i64 q_e]) 0) := q_F.out.ik hw; have FR : Hid (Fr w y19) := FR.out.trans (hw.fr); have HB : Hid (Below w0.heap.size w0 y19) := HB.out.trans (hw.below); have HK : Hid (Kept w0.heap.size y19 k (S2 (fun g => g < w.heap.size) (.slice p_o p_n p_c) y18.heap.size)) := hk9; have kc2 : (y19.cell? ⟨y5.heap.size, 0, none⟩ = some (.bool p_g) ∧ y19.cell? ⟨y5.heap.size, 1, none⟩ = some (.slice p_o p_n p_c) ∧ y19.cell? ⟨y5.heap.size, 2, none⟩ = some (.int .i64 p_e)) ∧ (y19.cell? ⟨w.heap.size, 0, none⟩ = some (.bool a_g) ∧ y19.cell? ⟨w.heap.size, 1, none⟩ = some (.slice a_o a_n a_c) ∧ y19.cell? ⟨w.heap.size, 2, none⟩ = some (.int .i64 a_e)) ∧ (y19.cell? ⟨y7.heap.size, 0, none⟩ = some (.bool q_g) ∧ y19.cell? ⟨y7.heap.size, 1, none⟩ = some (.slice q_o q_n q_c) ∧ y19.cell? ⟨y7.heap.size, 2, none⟩ = some (.int .i64 q_e)) ∧ (y19.cell? ⟨y14.heap.size, 0, none⟩ = some (.bool false) ∧ y19.cell? ⟨y14.heap.size, 1, none⟩ = some (.slice a_o a_n a_c) ∧ y19.cell? ⟨y14.heap.size, 2, none⟩ = some (.int .i64 a_e)) ∧ (y19.cell? ⟨y11.heap.size, 0, none⟩ = some (.bool false) ∧ y19.cell? ⟨y11.heap.size, 1, none⟩ = some (.slice none 0 0) ∧ y19.cell? ⟨y11.heap.size, 2, none⟩ = some (.int .i64 0)) ∧ (y19.cell? ⟨y90.heap.size, 0, none⟩ = some (.bool false) ∧ y19.cell? ⟨y90.heap.size, 1, none⟩ = some (.slice none 0 0) ∧ y19.cell? ⟨y90.heap.size, 2, none⟩ = some (.int .i64 0)) := ⟨⟨blkC p_k 0 rfl, blkC p_k 1 rfl, blkC p_k 2 rfl⟩, ⟨blkC a_k 0 rfl, blkC a_k 1 rfl, blkC a_k 2 rfl⟩, ⟨blkC q_k 0 rfl, blkC q_k 1 rfl, blkC q_k 2 rfl⟩, ⟨blkC l_k 0 rfl, blkC l_k 1 rfl, blkC l_k 2 rfl⟩, ⟨blkC r_k 0 rfl, blkC r_k 1 rfl, blkC r_k 2 rfl⟩, ⟨blkC s_k 0 rfl, blkC s_k 1 rfl, blkC s_k 2 rfl⟩⟩) | (go_at_call 35; have _t := kc0; refine (RN.out _ HB.out.drew).mono ?_; rintro _ y18 ⟨rfl, hw⟩; have hw := bel_trans (bel_refl y17).drew hw; have Z20 : Hid (y17.heap.size ≤ y18.heap.size) := hw.size; have a_k := (hw.block _ (Array.getElem?_eq_some_iff.1 a_k).1).trans a_k; have x_k := (hw.block _ (Array.getElem?_eq_some_iff.1 x_k).1).trans x_k; have p_k := (hw.block _ (Array.getElem?_eq_some_iff.1 p_k).1).trans p_k; have q_k := (hw.block _ (Array.getElem?_eq_some_iff.1 q_k).1).trans q_k; have r_k := (hw.block _ (Array.getElem?_eq_some_iff.1 r_k).1).trans r_k; have l_k := (hw.block _ (Array.getElem?_eq_some_iff.1 l_k).1).trans l_k; have s_k := (hw.block _ (Array.getElem?_eq_some_iff.1 s_k).1).trans s_k; have p_F : Hid (DFitA y4.heap.size y18 (-AV) (.agg #[.bool p_g, .slice p_o p_n p_c, .int .i64 p_e]) 0) := p_F.out.keeps hw; have q_F : Hid (DFitA x6.heap.size y18 (AV.natAbs : Int) (.agg #[.bool q_g, .slice q_o q_n q_c, .int .i64 q_e]) 0) := q_F.out.keeps hw; have FR : Hid (Fr w y18) := FR.out.trans (Fr.of hw); have HB : Hid (Below w0.heap.size w0 y18) := HB.out.trans ((hw).mono HB.out.size); have HK : Hid (Kept w0.heap.size y18 k (fun g => g < w.heap.size)) := HK.out.keeps hw; have kc1 : (y18.cell? ⟨y5.heap.size, 0, none⟩ = some (.bool p_g) ∧ y18.cell? ⟨y5.heap.size, 1, none⟩ = some (.slice p_o p_n p_c) ∧ y18.cell? ⟨y5.heap.size, 2, none⟩ = some (.int .i64 p_e)) ∧ (y18.cell? ⟨w.heap.size, 0, none⟩ = some (.bool a_g) ∧ y18.cell? ⟨w.heap.size, 1, none⟩ = some (.slice a_o a_n a_c) ∧ y18.cell? ⟨w.heap.size, 2, none⟩ = some (.int .i64 a_e)) ∧ (y18.cell? ⟨y7.heap.size, 0, none⟩ = some (.bool q_g) ∧ y18.cell? ⟨y7.heap.size, 1, none⟩ = some (.slice q_o q_n q_c) ∧ y18.cell? ⟨y7.heap.size, 2, none⟩ = some (.int .i64 q_e)) ∧ (y18.cell? ⟨y14.heap.size, 0, none⟩ = some (.bool false) ∧ y18.cell? ⟨y14.heap.size, 1, none⟩ = some (.slice a_o a_n a_c) ∧ y18.cell? ⟨y14.heap.size, 2, none⟩ = some (.int .i64 a_e)) ∧ (y18.cell? ⟨y11.heap.size, 0, none⟩ = some (.bool false) ∧ y18.cell? ⟨y11.heap.size, 1, none⟩ = some (.slice none 0 0) ∧ y18.cell? ⟨y11.heap.size, 2, none⟩ = some (.int .i64 0)) ∧ (y18.cell? ⟨y90.heap.size, 0, none⟩ = some (.bool false) ∧ y18.cell? ⟨y90.heap.size, 1, none⟩ = some (.slice none 0 0) ∧ y18.cell? ⟨y90.heap.size, 2, none⟩ = some (.int .i64 0)) := ⟨⟨blkC p_k 0 rfl, blkC p_k 1 rfl, blkC p_k 2 rfl⟩, ⟨blkC a_k 0 rfl, blkC a_k 1 rfl, blkC a_k 2 rfl⟩, ⟨blkC q_k 0 rfl, blkC q_k 1 rfl, blkC q_k 2 rfl⟩, ⟨blkC l_k 0 rfl, blkC l_k 1 rfl, blkC l_k 2 rfl⟩, ⟨blkC r_k 0 rfl, blkC r_k 1 rfl, blkC r_k 2 rfl⟩, ⟨blkC s_k 0 rfl, blkC s_k 1 rfl, blkC s_k 2 rfl⟩⟩))
      all_goals go_wp2
      all_goals
        go_ret
        exact ⟨rfl, HB.out, _, hk9, FR.out⟩
end Go.Proofs.YtnhkagiionkjaaaGreatDoor
