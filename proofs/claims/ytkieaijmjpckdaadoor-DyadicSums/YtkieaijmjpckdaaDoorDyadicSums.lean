/-
  Proved: at every list and every number, plumblaw3.DyadicSums answers true: a list's sum in any order, and beside what is added and taken off again, is the same; Dot with ones is Sum; with itself it is not below 0. As a card: the library's tables and the layout start as the program's text lays them; no other conditions.
-/
import Derived.Test.YtkieaijmjpckdaaDoorPart13
import Derived.Test.YtkieaijmjpckdaaDoorPart11
import Derived.Test.YtkieaijmjpckdaaDoorCards
import Derived.Test.YtkieaijmjpckdaaDoorTie
namespace Go.Proofs.YtkieaijmjpckdaaDoor.dyadicSums
open Go Go.ChangeShapes Go.WideShapes Go.ChangeAt Go.RowKit Go.Proofs.YtkieaijmjpckdaaDoor Go.Proofs.YtkieaijmjpckdaaDoor.M
set_option linter.unusedSimpArgs false
set_option linter.unusedVariables false

/-- What lies in the four lists behind k rounds. -/
def FF (f : Nat → Value) (k : Nat) (o y : Value) (j i : Nat) : Value := if j = 0 then f i else if j = 1 then f (k - 1 - i) else if j = 2 then o else if i = 0 then y else f (i - 1)
def MM (k j : Nat) : Nat := if j = 3 then k + 1 else k
theorem OutN.congr {B : Nat} {w : World} {x : Value} {m m' : Nat} {f f' : Nat → Value} (h : OutN B w x m f) (hm : m = m') (hf : ∀ i, i < m → f i = f' i) : OutN B w x m' f' := by
  subst hm
  unfold OutN at *
  rwa [← cells3_congr m hf]
theorem LS.congr {B : Nat} {w : World} {N : Nat} {X : Nat → Value} {M M' : Nat → Nat} {F F' : Nat → Nat → Value} (h : LS B w N X M F) (hM : ∀ j, j < N → M j = M' j) (hF : ∀ j, j < N → ∀ i, i < M j → F j i = F' j i) : LS B w N X M' F' :=
  ⟨fun j hj => OutN.congr (h.own j hj) (hM j hj) (hF j hj), h.ne⟩
theorem ff_step {f : Nat → Value} {k : Nat} {o y n : Value} {Fb : Nat → Value} (hFb : ∀ i, i < k + 1 → Fb i = if i < 1 then n else f (k - 1 - (i - 1))) : ∀ j, j < 4 → ∀ i, i < updV (updV (updV (updV (MM k) 0 (k + 1)) 1 (k + 1)) 2 (k + 1)) 3 (k + 1 + 1) j →
    updV (updV (updV (updV (FF f k o y) 0 (fun i => if i < k then f i else n)) 1 Fb) 2 (fun i => if i < k then o else o)) 3 (fun i => if i < k + 1 then FF f k o y 3 i else n) j i = FF (updV f k n) (k + 1) o y j i := by
  intro j hj i hi
  match j, hj with
  | 0, _ =>
    simp [updV, FF] at *
    by_cases h : i < k
    · simp [h, show ¬ i = k by omega]
    · simp [show i = k by omega]
  | 1, _ =>
    simp [updV] at hi
    have := hFb i hi
    simp only [updV, FF] at *
    simp
    rw [this]
    by_cases h : i = 0
    · subst h; simp
    · rw [if_neg (by omega), if_neg (by omega)]; congr 1; omega
  | 2, _ => simp [updV, FF]
  | 3, _ =>
    simp [updV] at hi
    simp only [updV, FF]
    simp
    by_cases h0 : i = 0
    · subst h0; simp
    · by_cases h : i < k + 1
      · simp [h, h0, show ¬ i - 1 = k by omega]
      · simp [h0, show ¬ i < k + 1 by omega, show i - 1 = k by omega]
theorem ff_one {f : Nat → Value} {o y : Value} : ∀ i, i < 0 + 1 → (if i < 0 then y else y) = FF f 0 o y 3 i := by
  intro i hi
  obtain rfl : i = 0 := by omega
  rfl
theorem mm_step (k : Nat) : ∀ j, j < 4 → updV (updV (updV (updV (MM k) 0 (k + 1)) 1 (k + 1)) 2 (k + 1)) 3 (k + 1 + 1) j = MM (k + 1) j := by
  intro j hj
  match j, hj with
  | 0, _ => rfl
  | 1, _ => rfl
  | 2, _ => rfl
  | 3, _ => rfl
theorem num_litS {w : World} {g : Nat} {x : Int} (h : w.heap[g]? = some (.cells #[.int .i64 x] 3 (0, 0))) (h0 : 0 < x) (h1 : x < 1073741824) : Num w (.slice (some ⟨g, 0, none⟩) 1 1) x :=
  ⟨_, 1, 1, fun _ => x, rfl, ⟨Nat.le_refl _, by decide, (fun h => by cases h), fun _ => ⟨g, 0, rfl, (Array.getElem?_eq_some_iff.1 h).1, fun i hi => by
    match i, hi with
    | 0, _ => exact blkC h 0 rfl⟩⟩, ⟨fun i _ => by show 0 ≤ x ∧ x < 1073741824; omega, .inr (by show x ≠ 0; omega)⟩, by show 0 + x * 1 = x; omega⟩
theorem sumF_around (V : Nat → Int) (Y : Int) (k : Nat) : sumF (fun i => if i = 0 then Y else if i < k + 1 then V (i - 1) else -Y) (k + 1 + 1) = sumF V k := by
  have h1 : sumF (fun i => if i = 0 then Y else if i < k + 1 then V (i - 1) else -Y) (k + 1) = Y + sumF V k := by
    rw [sumF_front]
    show Y + _ = _
    congr 1
    exact sumF_congr k fun i hi => by simp [show i < k by omega]
  show sumF (fun i => if i = 0 then Y else if i < k + 1 then V (i - 1) else -Y) (k + 1) + (if k + 1 = 0 then Y else if k + 1 < k + 1 then V (k + 1 - 1) else -Y) = sumF V k
  rw [h1, if_neg (by omega), if_neg (by omega)]
  omega
/-- What the calls behind the loop tell. -/
theorem sums_facts {w1 wE : World} {X f : Nat → Value} {V : Nat → Int} {vE o y z : Value} {k : Nat} {VO VY : Int}
    (HL : Hid (LS w1.heap.size wE 4 (updV X 3 vE) (updV (MM k) 3 (k + 1 + 1)) (updV (FF f k o y) 3 (fun i => if i < k + 1 then FF f k o y 3 i else z))))
    (HV : Hid (∀ i, i < k → DAn w1.heap.size wE (V i) (f i) ∧ Bd 4000 (V i))) (hb : Below w1.heap.size w1 wE)
    (HO : Hid (∀ W, Below w1.heap.size w1 W → DNum W o VO)) (HY : Hid (∀ W, Below w1.heap.size w1 W → DNum W y VY)) (HZ : Hid (∀ W, Below w1.heap.size w1 W → DNum W z (-VY))) (bY : Bd 4000 VY) (hVO : VO = pw 0) (hk : k ≤ 60) :
    ∃ SV, Hid (∀ W, Below wE.heap.size wE W → Tab W → Calls Tryd.prog 18 #[X 0] W fun r w' => ∃ v, r = .returned (.tuple #[v, .int .i64 0]) ∧ DAns W w' SV v) ∧
      Hid (∀ W, Below wE.heap.size wE W → Tab W → Calls Tryd.prog 18 #[X 1] W fun r w' => ∃ v, r = .returned (.tuple #[v, .int .i64 0]) ∧ DAns W w' SV v) ∧
      Hid (∀ W, Below wE.heap.size wE W → Tab W → Calls Tryd.prog 18 #[vE] W fun r w' => ∃ v, r = .returned (.tuple #[v, .int .i64 0]) ∧ DAns W w' SV v) ∧
      Hid (∀ W, Below wE.heap.size wE W → Tab W → Calls Tryd.prog 19 #[X 0, X 2] W fun r w' => ∃ v, r = .returned (.tuple #[v, .int .i64 0]) ∧ DAns W w' SV v) ∧
      Hid (∀ W, Below wE.heap.size wE W → Tab W → Calls Tryd.prog 19 #[X 0, X 0] W fun r w' => ∃ v D, r = .returned (.tuple #[v, .int .i64 0]) ∧ DAns W w' D v ∧ 0 ≤ D ∧ Dok D) := by
  have bO : Bd 5001 VO := by rw [hVO]; exact bd_pw (by decide) (by decide)
  have o0 : ∀ W, Below wE.heap.size wE W → OutN w1.heap.size W (X 0) k f := fun W hW => (HL.out.keeps hW).own 0 (by decide)
  have o1 : ∀ W, Below wE.heap.size wE W → OutN w1.heap.size W (X 1) k (fun i => f (k - 1 - i)) := fun W hW => (HL.out.keeps hW).own 1 (by decide)
  have o2 : ∀ W, Below wE.heap.size wE W → OutN w1.heap.size W (X 2) k (fun _ => o) := fun W hW => (HL.out.keeps hW).own 2 (by decide)
  have o3 : ∀ W, Below wE.heap.size wE W → OutN w1.heap.size W vE (k + 1 + 1) (fun i => if i < k + 1 then FF f k o y 3 i else z) := fun W hW => (HL.out.keeps hW).own 3 (by decide)
  have hv : ∀ W, Below wE.heap.size wE W → ∀ i, i < k → DNum W (f i) (V i) ∧ Bd 5001 (V i) := fun W hW i hi => ⟨((HV.out i hi).1.keeps hW).num, (HV.out i hi).2.up (by omega) (by omega)⟩
  have hbW : ∀ W, Below wE.heap.size wE W → Below w1.heap.size w1 W := fun W hW => hb.trans (hW.mono hb.size)
  refine ⟨sumF V k, fun W hW hT => ?_, fun W hW hT => ?_, fun W hW hT => ?_, fun W hW hT => ?_, fun W hW hT => ?_⟩
  · exact sum_own (o0 W hW) (hv W hW) (by omega) (K := 5001) (by omega) hT
  · have := sum_own (o1 W hW) (V := fun i => V (k - 1 - i)) (fun i hi => hv W hW (k - 1 - i) (by omega)) (by omega) (K := 5001) (by omega) hT
    rwa [sumF_rev] at this
  · have := sum_own (o3 W hW) (V := fun i => if i = 0 then VY else if i < k + 1 then V (i - 1) else -VY) (fun i hi => ?_) (by omega) (K := 5001) (by omega) hT
    · rwa [sumF_around] at this
    · by_cases h0 : i = 0
      · subst h0
        exact ⟨HY.out W (hbW W hW), bY.up (by omega) (by omega)⟩
      · by_cases h1 : i < k + 1
        · have e1 : (if i < k + 1 then FF f k o y 3 i else z) = f (i - 1) := by rw [if_pos h1]; simp [FF, h0]
          have e2 : (if i = 0 then VY else if i < k + 1 then V (i - 1) else -VY) = V (i - 1) := by rw [if_neg h0, if_pos h1]
          show DNum W (if i < k + 1 then FF f k o y 3 i else z) (if i = 0 then VY else if i < k + 1 then V (i - 1) else -VY) ∧ Bd 5001 (if i = 0 then VY else if i < k + 1 then V (i - 1) else -VY)
          rw [e1, e2]
          exact hv W hW (i - 1) (by omega)
        · have e1 : (if i < k + 1 then FF f k o y 3 i else z) = z := by rw [if_neg h1]
          have e2 : (if i = 0 then VY else if i < k + 1 then V (i - 1) else -VY) = -VY := by rw [if_neg h0, if_neg h1]
          show DNum W (if i < k + 1 then FF f k o y 3 i else z) (if i = 0 then VY else if i < k + 1 then V (i - 1) else -VY) ∧ Bd 5001 (if i = 0 then VY else if i < k + 1 then V (i - 1) else -VY)
          rw [e1, e2]
          exact ⟨HZ.out W (hbW W hW), bY.neg.up (by omega) (by omega)⟩
  · refine (dot_own (o0 W hW) (hv W hW) (o2 W hW) (W := fun _ => VO) (fun i hi => ⟨HO.out W (hbW W hW), bO⟩) (by omega) (K := 5001) (by omega) hT).mono ?_
    rintro r w' ⟨v, D, rfl, hA, hD, _⟩
    have e : D = sumF V k := by
      refine scale_inj ?_
      rw [hD, sumF_mul, hVO, pw_zero]
    rw [e] at hA
    exact ⟨v, rfl, hA⟩
  · refine (dot_own (o0 W hW) (hv W hW) (o0 W hW) (hv W hW) (by omega) (K := 5001) (by omega) hT).mono ?_
    rintro r w' ⟨v, D, rfl, hA, hD, hok⟩
    refine ⟨v, D, rfl, hA, ?_, hok⟩
    have h1 := sumF_sq V k
    rw [← hD] at h1
    have h2 := two_pos 4194304
    generalize (2 : Int) ^ 4194304 = S at h1 h2
    by_cases h : 0 ≤ D
    · exact h
    · have := Int.mul_neg_of_neg_of_pos (show D < 0 by omega) h2
      omega
set_option maxRecDepth 100000 in
set_option maxHeartbeats 8000000 in
theorem walk0 (lo : Option Addr) (ln lc : Nat) (r : Nat → NumR) (x : NumR) (w : World) (hl : Nums w lo ln lc r) (he : ∀ i, i < ln → rng (r i).e) (hx : Row w x.ao x.n x.cap x.d) (ex : rng x.e) (H : Hold w) :
    Calls Tryd.prog 7 #[.slice lo ln lc, x.v] w fun e w' => e = .returned (.bool true) ∧ Below w.heap.size w w' := by
  have x_N := fun W hb => num_B x W (hx.keeps hb) ex
  have hle := hl.le
  have hma := hl.max
  unfold NumR.v at *
  obtain ⟨x_g, x_o, x_n, x_c, x_d, x_e⟩ := x
  simp only at *
  clear hx ex
  have HT : Hid (∀ W, Below w.heap.size w W → Tab W) := fun W hb => H.tab.keeps hb
  obtain ⟨VO, hVO⟩ : ∃ V, V = pw 0 := ⟨_, rfl⟩
  go_enter Tryd.func7, Tryd.ntmps7
  have hb0 : Below w.heap.size w w := bel_refl w
  have hbx : Below w.heap.size w ((w.alloc (.cells #[.bool x_g, .slice x_o x_n x_c, .int .i64 x_e] 31)).alloc (.cells #[.int .i64 1] 3)) := bel_alloc2 _ _ _
  have x_k : ((w.alloc (.cells #[.bool x_g, .slice x_o x_n x_c, .int .i64 x_e] 31)).alloc (.cells #[.int .i64 1] 3)).heap[w.heap.size]? = some (.cells #[.bool x_g, .slice x_o x_n x_c, .int .i64 x_e] 31 (0, 0)) := heap_a2 _ _ _
  have i_k : ((w.alloc (.cells #[.bool x_g, .slice x_o x_n x_c, .int .i64 x_e] 31)).alloc (.cells #[.int .i64 1] 3)).heap[w.heap.size + 1]? = some (.cells #[.int .i64 1] 3 (0, 0)) := heap_b2 _ _ _
  go_wp2_with fail
  generalize ((w.alloc (.cells #[.bool x_g, .slice x_o x_n x_c, .int .i64 x_e] 31)).alloc (.cells #[.int .i64 1] 3)) = x1 at hbx x_k i_k ⊢
  have hb1 := bel_trans hb0 hbx
  clear hbx
  refine (make_B (num_litS i_k (by decide) (by decide)) 0 (by decide) (by decide) (HT.out _ hb1)).mono ?_
  rintro _ y2 ⟨v, rfl, hA⟩
  obtain ⟨o_g, o_o, o_n, o_c, o_e, rfl⟩ := dans_shape hA
  have hw := hA.below
  have o_D := hA.num
  clear hA
  have x_k := (hw.block _ (Array.getElem?_eq_some_iff.1 x_k).1).trans x_k
  have i_k := (hw.block _ (Array.getElem?_eq_some_iff.1 i_k).1).trans i_k
  have hb2 := bel_trans hb1 hw
  clear hw
  have hbx : Below y2.heap.size y2 (y2.alloc (.cells #[.bool o_g, .slice o_o o_n o_c, .int .i64 o_e] 31)) := bel_alloc _ _
  have o_k : (y2.alloc (.cells #[.bool o_g, .slice o_o o_n o_c, .int .i64 o_e] 31)).heap[y2.heap.size]? = some (.cells #[.bool o_g, .slice o_o o_n o_c, .int .i64 o_e] 31 (0, 0)) := heap_a1 _ _
  have u_k := (hbx.block _ (Array.getElem?_eq_some_iff.1 x_k).1).trans x_k
  have f_x0 := blkC x_k 0 rfl
  have g_x0 := blkC u_k 0 rfl
  have f_x1 := blkC x_k 1 rfl
  have g_x1 := blkC u_k 1 rfl
  have f_x2 := blkC x_k 2 rfl
  have g_x2 := blkC u_k 2 rfl
  clear u_k
  go_wp2_with fail
  clear f_x0 g_x0 f_x1 g_x1 f_x2 g_x2
  generalize (y2.alloc (.cells #[.bool o_g, .slice o_o o_n o_c, .int .i64 o_e] 31)) = x3 at hbx o_k ⊢
  have o_D := o_D.keeps hbx
  have x_k := (hbx.block _ (Array.getElem?_eq_some_iff.1 x_k).1).trans x_k
  have i_k := (hbx.block _ (Array.getElem?_eq_some_iff.1 i_k).1).trans i_k
  have hb3 := bel_trans hb2 hbx
  clear hbx
  refine (x_N _ hb3).mono ?_
  rintro _ y4 ⟨v, VY, rfl, hA, bY⟩
  obtain ⟨y_g, y_o, y_n, y_c, y_e, rfl⟩ := dans_shape hA
  have hw := hA.below
  have y_D := hA.num
  clear hA
  have x_k := (hw.block _ (Array.getElem?_eq_some_iff.1 x_k).1).trans x_k
  have i_k := (hw.block _ (Array.getElem?_eq_some_iff.1 i_k).1).trans i_k
  have o_k := (hw.block _ (Array.getElem?_eq_some_iff.1 o_k).1).trans o_k
  have o_D := o_D.keeps hw
  have hb4 := bel_trans hb3 hw
  clear hw
  have hbx : Below y4.heap.size y4 (y4.alloc (.cells #[.bool y_g, .slice y_o y_n y_c, .int .i64 y_e] 31)) := bel_alloc _ _
  have y_k : (y4.alloc (.cells #[.bool y_g, .slice y_o y_n y_c, .int .i64 y_e] 31)).heap[y4.heap.size]? = some (.cells #[.bool y_g, .slice y_o y_n y_c, .int .i64 y_e] 31 (0, 0)) := heap_a1 _ _
  go_wp2_with fail
  generalize (y4.alloc (.cells #[.bool y_g, .slice y_o y_n y_c, .int .i64 y_e] 31)) = x5 at hbx y_k ⊢
  have y_D := y_D.keeps hbx
  have x_k := (hbx.block _ (Array.getElem?_eq_some_iff.1 x_k).1).trans x_k
  have i_k := (hbx.block _ (Array.getElem?_eq_some_iff.1 i_k).1).trans i_k
  have o_k := (hbx.block _ (Array.getElem?_eq_some_iff.1 o_k).1).trans o_k
  have o_D := o_D.keeps hbx
  have hb5 := bel_trans hb4 hbx
  clear hbx
  refine (neg_D y_D (bY.ok (by omega))).mono ?_
  rintro _ y6 ⟨v, rfl, hA⟩
  obtain ⟨z_g, z_o, z_n, z_c, z_e, rfl⟩ := dans_shape hA
  have hw := hA.below
  have z_D := hA.num
  clear hA
  have x_k := (hw.block _ (Array.getElem?_eq_some_iff.1 x_k).1).trans x_k
  have i_k := (hw.block _ (Array.getElem?_eq_some_iff.1 i_k).1).trans i_k
  have o_k := (hw.block _ (Array.getElem?_eq_some_iff.1 o_k).1).trans o_k
  have o_D := o_D.keeps hw
  have y_k := (hw.block _ (Array.getElem?_eq_some_iff.1 y_k).1).trans y_k
  have y_D := y_D.keeps hw
  have hb6 := bel_trans hb5 hw
  clear hw
  have hbz := bel_alloc y6 (.cells #[.bool z_g, .slice z_o z_n z_c, .int .i64 z_e] 31)
  have z_k := heap_a1 y6 (.cells #[.bool z_g, .slice z_o z_n z_c, .int .i64 z_e] 31)
  have y_k := (hbz.block _ (Array.getElem?_eq_some_iff.1 y_k).1).trans y_k
  have o_k := (hbz.block _ (Array.getElem?_eq_some_iff.1 o_k).1).trans o_k
  have x_k := (hbz.block _ (Array.getElem?_eq_some_iff.1 x_k).1).trans x_k
  have f_y0 := blkC y_k 0 rfl
  have f_y1 := blkC y_k 1 rfl
  have f_y2 := blkC y_k 2 rfl
  have y_D := y_D.keeps hbz
  have z_D := z_D.keeps hbz
  have o_D := o_D.keeps hbz
  have hb1 := bel_trans hb6 hbz
  go_wp2_with (at_builtin; refine wpList_appN rfl _ _ rfl (y6.alloc (.cells #[.bool z_g, .slice z_o z_n z_c, .int .i64 z_e] 31)).heap.size _ 0 (fun _ => (.agg #[.bool y_g, .slice y_o y_n y_c, .int .i64 y_e])) rfl (OutN.nil _ _ _) _ 1 1 (fun _ => (.agg #[.bool y_g, .slice y_o y_n y_c, .int .i64 y_e])) (fun _ _ => ⟨_, _, _, _, _, rfl⟩) rfl (lit_cells rfl (heap_b2 _ _ _)) (by omega) (by simp) ?_; intro xm wm hOm hgm hvm)
  clear f_y0 f_y1 f_y2 hbz
  have hsm : (y6.alloc (.cells #[.bool z_g, .slice z_o z_n z_c, .int .i64 z_e] 31)).heap.size = y6.heap.size + 1 := size1 _ _
  generalize y6.alloc (.cells #[.bool z_g, .slice z_o z_n z_c, .int .i64 z_e] 31) = w1 at hOm hgm hvm hb1 z_k y_k o_k x_k y_D z_D o_D hsm ⊢
  have hbm : Below w1.heap.size w1 wm := (bel_alloc w1 (.cells #[.bool y_g, .slice y_o y_n y_c, .int .i64 y_e] 31)).grown hgm (bel_alloc w1 (.cells #[.bool y_g, .slice y_o y_n y_c, .int .i64 y_e] 31)).size (fun k hk => by have h : (none : Option Nat) = some k := hk; cases h)
  have HL0 : Hid (LS w1.heap.size wm 4 (fun j => if j = 3 then xm else .slice none 0 0) (MM 0) (FF (fun _ => (.agg #[.bool y_g, .slice y_o y_n y_c, .int .i64 y_e])) 0 (.agg #[.bool o_g, .slice o_o o_n o_c, .int .i64 o_e]) (.agg #[.bool y_g, .slice y_o y_n y_c, .int .i64 y_e]))) := by
    refine ⟨fun j hj => ?_, fun i j hi hj hij g hg => ?_⟩
    · match j, hj with
      | 0, _ => exact OutN.nil _ _ _
      | 1, _ => exact OutN.nil _ _ _
      | 2, _ => exact OutN.nil _ _ _
      | 3, _ => exact OutN.congr hOm rfl ff_one
    · by_cases e : i = 3
      · subst e; rw [if_neg (fun h => hij h.symm)]; simp [Value.ownBlock]
      · rw [if_neg e] at hg; simp [Value.ownBlock] at hg
  clear hOm hgm hvm
  have HOD : Hid (∀ W, Below w1.heap.size w1 W → DNum W (.agg #[.bool o_g, .slice o_o o_n o_c, .int .i64 o_e]) VO) := fun W hb => by rw [hVO]; exact o_D.keeps hb
  have HYD : Hid (∀ W, Below w1.heap.size w1 W → DNum W (.agg #[.bool y_g, .slice y_o y_n y_c, .int .i64 y_e]) VY) := fun W hb => y_D.keeps hb
  have HZD : Hid (∀ W, Below w1.heap.size w1 W → DNum W (.agg #[.bool z_g, .slice z_o z_n z_c, .int .i64 z_e]) (-VY)) := fun W hb => z_D.keeps hb
  clear o_D y_D z_D x_k y_k i_k
  go_loopw [5, 6, 7, 8, 14] (fun av bv ov mv iv wr => ∃ (k : Nat) (X f : Nat → Value) (V : Nat → Int), k ≤ ln ∧ k ≤ 60 ∧ iv = .int .i64 k ∧ av = X 0 ∧ bv = X 1 ∧ ov = X 2 ∧ mv = X 3 ∧ Hid (LS w1.heap.size wr 4 X (MM k) (FF f k (.agg #[.bool o_g, .slice o_o o_n o_c, .int .i64 o_e]) (.agg #[.bool y_g, .slice y_o y_n y_c, .int .i64 y_e]))) ∧ Hid (∀ i, i < k → DAn w1.heap.size wr (V i) (f i) ∧ Bd 4000 (V i)) ∧ Below w1.heap.size w1 wr) (fun _ _ _ _ iv _ => ln - (intOf iv).toNat)
  case atStart => exact ⟨0, fun j => if j = 3 then xm else .slice none 0 0, fun _ => (.agg #[.bool y_g, .slice y_o y_n y_c, .int .i64 y_e]), fun _ => 0, Nat.zero_le _, Nat.zero_le _, rfl, rfl, rfl, rfl, rfl, HL0, fun i hi => by omega, hbm⟩
  case round =>
    obtain ⟨k, X, f, V, hk, hk6, rfl, rfl, rfl, rfl, rfl, HLS, HV, hbw⟩ := hrel
    clear HL0 hbm
    by_cases hlt : k < ln ∧ k < 60
    · obtain ⟨hlt, hlt6⟩ := hlt
      obtain ⟨lb, lo', rfl, hlb, hlc⟩ := hl.spot (by omega)
      obtain ⟨c0, c1, c2, rR⟩ := (hlc k hlt).keeps (hb1.trans (hbw.mono hb1.size)) hlb
      have CN := num_B (r k) wr rR (he k hlt)
      generalize r k = rk at *
      unfold NumR.v at CN
      obtain ⟨q_g, q_o, q_n, q_c, q_d, q_e⟩ := rk
      simp only at c0 c1 c2 CN
      clear rR hlc
      go_wp2_with fail
      refine CN.mono ?_
      rintro _ w2 ⟨v, Vn, rfl, hA, bN⟩
      obtain ⟨n_g, n_o, n_n, n_c, n_e, rfl⟩ := dans_shape hA
      have hw := hA.below
      have nA : DAn w1.heap.size w2 Vn (.agg #[.bool n_g, .slice n_o n_n n_c, .int .i64 n_e]) := hA.dan.lower hbw.size
      clear c0 c1 c2 CN hA
      have hbw2 : Below w1.heap.size w1 w2 := hbw.trans (hw.mono hbw.size)
      have HLS : Hid (LS w1.heap.size w2 4 X (MM k) (FF f k (.agg #[.bool o_g, .slice o_o o_n o_c, .int .i64 o_e]) (.agg #[.bool y_g, .slice y_o y_n y_c, .int .i64 y_e]))) := HLS.out.keeps hw
      have HV : Hid (∀ i, i < k + 1 → DAn w1.heap.size w2 (updV V k Vn i) (updV f k (.agg #[.bool n_g, .slice n_o n_n n_c, .int .i64 n_e]) i) ∧ Bd 4000 (updV V k Vn i)) := fun i hi => by
        by_cases e : i = k
        · subst e; rw [updV_same, updV_same]; exact ⟨nA, bN⟩
        · rw [updV_other _ _ e, updV_other _ _ e]; exact ⟨(HV.out i (by omega)).1.keeps hw, (HV.out i (by omega)).2⟩
      clear hw hbw nA bN
      have HTH : Hid (∀ i, i < k → Three (f (k - 1 - i))) := fun i hi => by
        have h := (HV.out (k - 1 - i) (by omega)).1.three
        rwa [updV_other _ _ (by omega)] at h
      have hX1 : (∃ gb xc, X 1 = .slice (some ⟨gb, 0, none⟩) k xc) ∨ (X 1 = .slice none 0 0 ∧ k = 0) := by
        rcases (HLS.out.own 1 (by decide)).2 with ⟨h, h0⟩ | ⟨g, cap, _, h, _⟩
        · exact .inr ⟨h, h0⟩
        · exact .inl ⟨g, cap, h⟩
      rcases hX1 with ⟨gb, xc, hX1⟩ | ⟨hX1, hk0⟩
      · have HX1 : Hid _ := hX1
        clear hX1
        go_wp2_with (first | (have _t := HLc; at_builtin; have L4 := HLc.out.keeps (bel_alloc wc (.cells #[.bool n_g, .slice n_o n_n n_c, .int .i64 n_e] 31)); refine wpList_appN rfl _ _ rfl w1.heap.size _ (k + 1) (FF f k (.agg #[.bool o_g, .slice o_o o_n o_c, .int .i64 o_e]) (.agg #[.bool y_g, .slice y_o y_n y_c, .int .i64 y_e]) 3) rfl (L4.own 3 (by decide)) _ 1 1 (fun _ => (.agg #[.bool n_g, .slice n_o n_n n_c, .int .i64 n_e])) (fun _ _ => ⟨_, _, _, _, _, rfl⟩) rfl (lit_cells rfl (heap_a1 _ _)) (by omega) (Nat.le_trans hbc.size (bel_alloc wc (.cells #[.bool n_g, .slice n_o n_n n_c, .int .i64 n_e] 31)).size) ?_; intro v3 wd hOd hgd hvd; have HLd : Hid _ := L4.app 3 (by decide) hgd hOd hvd; have HV : Hid (∀ i, i < k + 1 → DAn w1.heap.size wd (updV V k Vn i) (updV f k (.agg #[.bool n_g, .slice n_o n_n n_c, .int .i64 n_e]) i) ∧ Bd 4000 (updV V k Vn i)) := fun i hi => ⟨((HV.out i hi).1.keeps (bel_alloc wc (.cells #[.bool n_g, .slice n_o n_n n_c, .int .i64 n_e] 31))).of_blocks (grown_ints hgd (L4.row (j := 3) (by decide))), (HV.out i hi).2⟩; have hbd : Below w1.heap.size w1 wd := (hbc.trans ((bel_alloc wc (.cells #[.bool n_g, .slice n_o n_n n_c, .int .i64 n_e] 31)).mono hbc.size)).grown hgd (Nat.le_trans hbc.size (bel_alloc wc (.cells #[.bool n_g, .slice n_o n_n n_c, .int .i64 n_e] 31)).size) (L4.ge (j := 3) (by decide)); clear L4 hOd hgd hvd fc0 fc1 fc2) | (have _t := HLb; at_builtin; have L3 := HLb.out.keeps (bel_alloc wb (.cells #[.bool o_g, .slice o_o o_n o_c, .int .i64 o_e] 31)); refine wpList_appN rfl _ _ rfl w1.heap.size _ k (fun _ => (.agg #[.bool o_g, .slice o_o o_n o_c, .int .i64 o_e])) rfl (L3.own 2 (by decide)) _ 1 1 (fun _ => (.agg #[.bool o_g, .slice o_o o_n o_c, .int .i64 o_e])) (fun _ _ => ⟨_, _, _, _, _, rfl⟩) rfl (lit_cells rfl (heap_a1 _ _)) (by omega) (Nat.le_trans hbb.size (bel_alloc wb (.cells #[.bool o_g, .slice o_o o_n o_c, .int .i64 o_e] 31)).size) ?_; intro v2 wc hOc hgc hvc; have HLc : Hid (LS w1.heap.size wc 4 (updV (updV (updV X 0 v0) 1 v1) 2 v2) (updV (updV (updV (MM k) 0 (k + 1)) 1 (k + 1)) 2 (k + 1)) (updV (updV (updV (FF f k (.agg #[.bool o_g, .slice o_o o_n o_c, .int .i64 o_e]) (.agg #[.bool y_g, .slice y_o y_n y_c, .int .i64 y_e])) 0 (fun i => if i < k then f i else (.agg #[.bool n_g, .slice n_o n_n n_c, .int .i64 n_e]))) 1 Fb) 2 (fun i => if i < k then (.agg #[.bool o_g, .slice o_o o_n o_c, .int .i64 o_e]) else (.agg #[.bool o_g, .slice o_o o_n o_c, .int .i64 o_e])))) := L3.app 2 (by decide) hgc hOc hvc; have HV : Hid (∀ i, i < k + 1 → DAn w1.heap.size wc (updV V k Vn i) (updV f k (.agg #[.bool n_g, .slice n_o n_n n_c, .int .i64 n_e]) i) ∧ Bd 4000 (updV V k Vn i)) := fun i hi => ⟨((HV.out i hi).1.keeps (bel_alloc wb (.cells #[.bool o_g, .slice o_o o_n o_c, .int .i64 o_e] 31))).of_blocks (grown_ints hgc (L3.row (j := 2) (by decide))), (HV.out i hi).2⟩; have hbc : Below w1.heap.size w1 wc := (hbb.trans ((bel_alloc wb (.cells #[.bool o_g, .slice o_o o_n o_c, .int .i64 o_e] 31)).mono hbb.size)).grown hgc (Nat.le_trans hbb.size (bel_alloc wb (.cells #[.bool o_g, .slice o_o o_n o_c, .int .i64 o_e] 31)).size) (L3.ge (j := 2) (by decide)); have n_c' : wc.heap[w2.heap.size]? = some (.cells #[.bool n_g, .slice n_o n_n n_c, .int .i64 n_e] 31 (0, 0)) := (hgc.block w2.heap.size (by rw [size1]; have := (Array.getElem?_eq_some_iff.1 n_b).1; omega) (fun e => by have := ((HLS.out.own 2 (by decide)).typed (g := w2.heap.size) e.symm).2.1; omega)).trans (heap_past (.cells #[.bool o_g, .slice o_o o_n o_c, .int .i64 o_e] 31) n_b); have fc0 := blkC n_c' 0 rfl; have fc1 := blkC n_c' 1 rfl; have fc2 := blkC n_c' 2 rfl; clear L3 hOc hgc hvc fo0 fo1 fo2) | (have _t := HLa; at_builtin; have L2 := HLa.out.keeps (bel_alloc wa (.cells #[.bool n_g, .slice n_o n_n n_c, .int .i64 n_e] 31)); have hO1 : OutN w1.heap.size (wa.alloc (.cells #[.bool n_g, .slice n_o n_n n_c, .int .i64 n_e] 31)) (.slice (some ⟨gb, 0, none⟩) k xc) k (FF f k (.agg #[.bool o_g, .slice o_o o_n o_c, .int .i64 o_e]) (.agg #[.bool y_g, .slice y_o y_n y_c, .int .i64 y_e]) 1) := (by rw [← HX1.out]; exact L2.own 1 (by decide)); refine wpList_appN rfl _ _ rfl w1.heap.size (.slice (some ⟨wa.heap.size, 0, none⟩) 1 1) 1 (fun _ => (.agg #[.bool n_g, .slice n_o n_n n_c, .int .i64 n_e])) rfl (lit_own (heap_a1 wa (.cells #[.bool n_g, .slice n_o n_n n_c, .int .i64 n_e] 31)) hba.size) gb k xc (FF f k (.agg #[.bool o_g, .slice o_o o_n o_c, .int .i64 o_e]) (.agg #[.bool y_g, .slice y_o y_n y_c, .int .i64 y_e]) 1) HTH.out HX1.out (fun i j hi hj => hO1.cell HTH.out rfl hi hj) (by omega) (Nat.le_trans hba.size (bel_alloc wa (.cells #[.bool n_g, .slice n_o n_n n_c, .int .i64 n_e] 31)).size) ?_; intro v1 wb hOb' hgb hvb; obtain ⟨Fb, eFb⟩ : ∃ Fb : Nat → Value, Fb = fun i => if i < 1 then (.agg #[.bool n_g, .slice n_o n_n n_c, .int .i64 n_e]) else FF f k (.agg #[.bool o_g, .slice o_o o_n o_c, .int .i64 o_e]) (.agg #[.bool y_g, .slice y_o y_n y_c, .int .i64 y_e]) 1 (i - 1) := ⟨_, rfl⟩; have hOb : OutN w1.heap.size wb v1 (k + 1) Fb := (by rw [eFb, Nat.add_comm k 1]; exact hOb'); have hFb : ∀ i, i < k + 1 → Fb i = if i < 1 then (.agg #[.bool n_g, .slice n_o n_n n_c, .int .i64 n_e]) else f (k - 1 - (i - 1)) := fun i hi => (by rw [eFb]; first | done | rfl); clear hOb' eFb hO1; have HLb : Hid (LS w1.heap.size wb 4 (updV (updV X 0 v0) 1 v1) (updV (updV (MM k) 0 (k + 1)) 1 (k + 1)) (updV (updV (FF f k (.agg #[.bool o_g, .slice o_o o_n o_c, .int .i64 o_e]) (.agg #[.bool y_g, .slice y_o y_n y_c, .int .i64 y_e])) 0 (fun i => if i < k then f i else (.agg #[.bool n_g, .slice n_o n_n n_c, .int .i64 n_e]))) 1 Fb)) := L2.put 1 hgb hOb (fun j hj hne g hg e => by have h1 := ((HLa.out.own j hj).typed hg).2.1; simp only [Value.ownBlock, Option.some.injEq] at e; omega) (fun j hj hne g hg e => by have h1 := ((HLa.out.own j hj).typed hg).2.1; rcases hvb with h2 | h2 <;> rw [h2] at e <;> simp only [Value.ownBlock, Option.some.injEq, size1] at e <;> omega); have HV : Hid (∀ i, i < k + 1 → DAn w1.heap.size wb (updV V k Vn i) (updV f k (.agg #[.bool n_g, .slice n_o n_n n_c, .int .i64 n_e]) i) ∧ Bd 4000 (updV V k Vn i)) := fun i hi => ⟨((HV.out i hi).1.keeps (bel_alloc wa (.cells #[.bool n_g, .slice n_o n_n n_c, .int .i64 n_e] 31))).of_blocks (grown_ints hgb (fun g hg => by simp only [Value.ownBlock, Option.some.injEq] at hg; subst hg; exact ⟨_, _, heap_a1 wa (.cells #[.bool n_g, .slice n_o n_n n_c, .int .i64 n_e] 31)⟩)), (HV.out i hi).2⟩; have hbb : Below w1.heap.size w1 wb := (hba.trans ((bel_alloc wa (.cells #[.bool n_g, .slice n_o n_n n_c, .int .i64 n_e] 31)).mono hba.size)).grown hgb (Nat.le_trans hba.size (bel_alloc wa (.cells #[.bool n_g, .slice n_o n_n n_c, .int .i64 n_e] 31)).size) (fun g hg => by have := hba.size; simp only [Value.ownBlock, Option.some.injEq] at hg; omega); have n_b : wb.heap[w2.heap.size]? = some (.cells #[.bool n_g, .slice n_o n_n n_c, .int .i64 n_e] 31 (0, 0)) := (hgb.block w2.heap.size (by rw [size1]; have := (Array.getElem?_eq_some_iff.1 n_a).1; omega) (fun e => by have := (Array.getElem?_eq_some_iff.1 n_a).1; simp only [Value.ownBlock, Option.some.injEq] at e; omega)).trans (heap_past (.cells #[.bool n_g, .slice n_o n_n n_c, .int .i64 n_e] 31) n_a); have o_b := (hbb.block _ (Array.getElem?_eq_some_iff.1 o_k).1).trans o_k; have fo0 := blkC o_b 0 rfl; have fo1 := blkC o_b 1 rfl; have fo2 := blkC o_b 2 rfl; have HFb : Hid (∀ i, i < k + 1 → Fb i = if i < 1 then (.agg #[.bool n_g, .slice n_o n_n n_c, .int .i64 n_e]) else f (k - 1 - (i - 1))) := hFb; clear L2 hgb hOb hvb hFb fa0 fa1 fa2) | (have _t := HTH; at_builtin; refine wpList_appN rfl _ _ rfl w1.heap.size _ k f rfl ((HLS.out.keeps (bel_alloc2 w2 (.cells #[.bool n_g, .slice n_o n_n n_c, .int .i64 n_e] 31) (.cells #[.bool n_g, .slice n_o n_n n_c, .int .i64 n_e] 31))).own 0 (by decide)) _ 1 1 (fun _ => (.agg #[.bool n_g, .slice n_o n_n n_c, .int .i64 n_e])) (fun _ _ => ⟨_, _, _, _, _, rfl⟩) rfl (lit_cells rfl (heap_b2 _ _ _)) (by omega) (Nat.le_trans hbw2.size (bel_alloc2 w2 (.cells #[.bool n_g, .slice n_o n_n n_c, .int .i64 n_e] 31) (.cells #[.bool n_g, .slice n_o n_n n_c, .int .i64 n_e] 31)).size) ?_; intro v0 wa hOa hga hva; have L1 := HLS.out.keeps (bel_alloc2 w2 (.cells #[.bool n_g, .slice n_o n_n n_c, .int .i64 n_e] 31) (.cells #[.bool n_g, .slice n_o n_n n_c, .int .i64 n_e] 31)); have HLa : Hid (LS w1.heap.size wa 4 (updV X 0 v0) (updV (MM k) 0 (k + 1)) (updV (FF f k (.agg #[.bool o_g, .slice o_o o_n o_c, .int .i64 o_e]) (.agg #[.bool y_g, .slice y_o y_n y_c, .int .i64 y_e])) 0 (fun i => if i < k then f i else (.agg #[.bool n_g, .slice n_o n_n n_c, .int .i64 n_e])))) := L1.app 0 (by decide) hga hOa hva; have HV : Hid (∀ i, i < k + 1 → DAn w1.heap.size wa (updV V k Vn i) (updV f k (.agg #[.bool n_g, .slice n_o n_n n_c, .int .i64 n_e]) i) ∧ Bd 4000 (updV V k Vn i)) := fun i hi => ⟨((HV.out i hi).1.keeps (bel_alloc2 w2 (.cells #[.bool n_g, .slice n_o n_n n_c, .int .i64 n_e] 31) (.cells #[.bool n_g, .slice n_o n_n n_c, .int .i64 n_e] 31))).of_blocks (grown_ints hga (L1.row (j := 0) (by decide))), (HV.out i hi).2⟩; have hba : Below w1.heap.size w1 wa := (hbw2.trans ((bel_alloc2 w2 (.cells #[.bool n_g, .slice n_o n_n n_c, .int .i64 n_e] 31) (.cells #[.bool n_g, .slice n_o n_n n_c, .int .i64 n_e] 31)).mono hbw2.size)).grown hga (Nat.le_trans hbw2.size (bel_alloc2 w2 (.cells #[.bool n_g, .slice n_o n_n n_c, .int .i64 n_e] 31) (.cells #[.bool n_g, .slice n_o n_n n_c, .int .i64 n_e] 31)).size) (L1.ge (j := 0) (by decide)); have n_a : wa.heap[w2.heap.size]? = some (.cells #[.bool n_g, .slice n_o n_n n_c, .int .i64 n_e] 31 (0, 0)) := (hga.block w2.heap.size (by rw [size2]; omega) (fun e => by have := ((HLS.out.own 0 (by decide)).typed (g := w2.heap.size) e.symm).2.1; omega)).trans (heap_a2 _ _ _); have fa0 := blkC n_a 0 rfl; have fa1 := blkC n_a 1 rfl; have fa2 := blkC n_a 2 rfl; clear L1 hOa hga hva))
        go_roundw
        case rel => exact ⟨k + 1, updV (updV (updV (updV X 0 v0) 1 v1) 2 v2) 3 v3, _, _, by omega, by omega, by go_num, rfl, rfl, rfl, rfl, LS.congr HLd.out (mm_step k) (ff_step HFb.out), HV, hbd⟩
        case measure => simp [intOf]; omega
      · have HX1 : Hid _ := hX1
        clear hX1
        have HK0 : Hid (k = 0) := hk0
        clear hk0
        go_wp2_with (first | (have _t := HLc; at_builtin; have L4 := HLc.out.keeps (bel_alloc wc (.cells #[.bool n_g, .slice n_o n_n n_c, .int .i64 n_e] 31)); refine wpList_appN rfl _ _ rfl w1.heap.size _ (k + 1) (FF f k (.agg #[.bool o_g, .slice o_o o_n o_c, .int .i64 o_e]) (.agg #[.bool y_g, .slice y_o y_n y_c, .int .i64 y_e]) 3) rfl (L4.own 3 (by decide)) _ 1 1 (fun _ => (.agg #[.bool n_g, .slice n_o n_n n_c, .int .i64 n_e])) (fun _ _ => ⟨_, _, _, _, _, rfl⟩) rfl (lit_cells rfl (heap_a1 _ _)) (by omega) (Nat.le_trans hbc.size (bel_alloc wc (.cells #[.bool n_g, .slice n_o n_n n_c, .int .i64 n_e] 31)).size) ?_; intro v3 wd hOd hgd hvd; have HLd : Hid _ := L4.app 3 (by decide) hgd hOd hvd; have HV : Hid (∀ i, i < k + 1 → DAn w1.heap.size wd (updV V k Vn i) (updV f k (.agg #[.bool n_g, .slice n_o n_n n_c, .int .i64 n_e]) i) ∧ Bd 4000 (updV V k Vn i)) := fun i hi => ⟨((HV.out i hi).1.keeps (bel_alloc wc (.cells #[.bool n_g, .slice n_o n_n n_c, .int .i64 n_e] 31))).of_blocks (grown_ints hgd (L4.row (j := 3) (by decide))), (HV.out i hi).2⟩; have hbd : Below w1.heap.size w1 wd := (hbc.trans ((bel_alloc wc (.cells #[.bool n_g, .slice n_o n_n n_c, .int .i64 n_e] 31)).mono hbc.size)).grown hgd (Nat.le_trans hbc.size (bel_alloc wc (.cells #[.bool n_g, .slice n_o n_n n_c, .int .i64 n_e] 31)).size) (L4.ge (j := 3) (by decide)); clear L4 hOd hgd hvd fc0 fc1 fc2) | (have _t := HLb; at_builtin; have L3 := HLb.out.keeps (bel_alloc (wa.alloc (.cells #[.bool n_g, .slice n_o n_n n_c, .int .i64 n_e] 31)) (.cells #[.bool o_g, .slice o_o o_n o_c, .int .i64 o_e] 31)); refine wpList_appN rfl _ _ rfl w1.heap.size _ k (fun _ => (.agg #[.bool o_g, .slice o_o o_n o_c, .int .i64 o_e])) rfl (L3.own 2 (by decide)) _ 1 1 (fun _ => (.agg #[.bool o_g, .slice o_o o_n o_c, .int .i64 o_e])) (fun _ _ => ⟨_, _, _, _, _, rfl⟩) rfl (lit_cells rfl (heap_b2 _ _ _)) (by omega) (Nat.le_trans hbb.size (bel_alloc (wa.alloc (.cells #[.bool n_g, .slice n_o n_n n_c, .int .i64 n_e] 31)) (.cells #[.bool o_g, .slice o_o o_n o_c, .int .i64 o_e] 31)).size) ?_; intro v2 wc hOc hgc hvc; have HLc : Hid (LS w1.heap.size wc 4 (updV (updV (updV X 0 v0) 1 (.slice (some ⟨wa.heap.size, 0, none⟩) 1 1)) 2 v2) (updV (updV (updV (MM k) 0 (k + 1)) 1 (k + 1)) 2 (k + 1)) (updV (updV (updV (FF f k (.agg #[.bool o_g, .slice o_o o_n o_c, .int .i64 o_e]) (.agg #[.bool y_g, .slice y_o y_n y_c, .int .i64 y_e])) 0 (fun i => if i < k then f i else (.agg #[.bool n_g, .slice n_o n_n n_c, .int .i64 n_e]))) 1 Fb) 2 (fun i => if i < k then (.agg #[.bool o_g, .slice o_o o_n o_c, .int .i64 o_e]) else (.agg #[.bool o_g, .slice o_o o_n o_c, .int .i64 o_e])))) := L3.app 2 (by decide) hgc hOc hvc; have HV : Hid (∀ i, i < k + 1 → DAn w1.heap.size wc (updV V k Vn i) (updV f k (.agg #[.bool n_g, .slice n_o n_n n_c, .int .i64 n_e]) i) ∧ Bd 4000 (updV V k Vn i)) := fun i hi => ⟨((HV.out i hi).1.keeps (bel_alloc (wa.alloc (.cells #[.bool n_g, .slice n_o n_n n_c, .int .i64 n_e] 31)) (.cells #[.bool o_g, .slice o_o o_n o_c, .int .i64 o_e] 31))).of_blocks (grown_ints hgc (L3.row (j := 2) (by decide))), (HV.out i hi).2⟩; have hbc : Below w1.heap.size w1 wc := (hbb.trans ((bel_alloc (wa.alloc (.cells #[.bool n_g, .slice n_o n_n n_c, .int .i64 n_e] 31)) (.cells #[.bool o_g, .slice o_o o_n o_c, .int .i64 o_e] 31)).mono hbb.size)).grown hgc (Nat.le_trans hbb.size (bel_alloc (wa.alloc (.cells #[.bool n_g, .slice n_o n_n n_c, .int .i64 n_e] 31)) (.cells #[.bool o_g, .slice o_o o_n o_c, .int .i64 o_e] 31)).size) (L3.ge (j := 2) (by decide)); have n_c' : wc.heap[w2.heap.size]? = some (.cells #[.bool n_g, .slice n_o n_n n_c, .int .i64 n_e] 31 (0, 0)) := (hgc.block w2.heap.size (by rw [size1]; have := (Array.getElem?_eq_some_iff.1 n_b).1; omega) (fun e => by have := ((HLS.out.own 2 (by decide)).typed (g := w2.heap.size) e.symm).2.1; omega)).trans (heap_past (.cells #[.bool o_g, .slice o_o o_n o_c, .int .i64 o_e] 31) n_b); have fc0 := blkC n_c' 0 rfl; have fc1 := blkC n_c' 1 rfl; have fc2 := blkC n_c' 2 rfl; clear L3 hOc hgc hvc fo0 fo1 fo2) | (have _t := HLa; at_builtin; have L2 := HLa.out.keeps (bel_alloc wa (.cells #[.bool n_g, .slice n_o n_n n_c, .int .i64 n_e] 31)); refine wpList_appN0 rfl _ _ rfl w1.heap.size _ 1 (fun _ => (.agg #[.bool n_g, .slice n_o n_n n_c, .int .i64 n_e])) rfl (lit_own (heap_a1 wa (.cells #[.bool n_g, .slice n_o n_n n_c, .int .i64 n_e] 31)) hba.size) HX1.out ?_; obtain ⟨Fb, eFb⟩ : ∃ Fb : Nat → Value, Fb = fun _ => (.agg #[.bool n_g, .slice n_o n_n n_c, .int .i64 n_e]) := ⟨_, rfl⟩; have hOb : OutN w1.heap.size (wa.alloc (.cells #[.bool n_g, .slice n_o n_n n_c, .int .i64 n_e] 31)) (.slice (some ⟨wa.heap.size, 0, none⟩) 1 1) (k + 1) Fb := (by rw [eFb, HK0.out]; exact lit_own (heap_a1 wa (.cells #[.bool n_g, .slice n_o n_n n_c, .int .i64 n_e] 31)) hba.size); have hgb : (wa.alloc (.cells #[.bool n_g, .slice n_o n_n n_c, .int .i64 n_e] 31)).grownBy (wa.alloc (.cells #[.bool n_g, .slice n_o n_n n_c, .int .i64 n_e] 31)) (Value.slice (some ⟨wa.heap.size, 0, none⟩) 1 1).ownBlock := ⟨rfl, rfl, rfl, Nat.le_refl _, fun _ _ _ => rfl⟩; have hvb : (Value.slice (some ⟨wa.heap.size, 0, none⟩) 1 1).ownBlock = (Value.slice (some ⟨wa.heap.size, 0, none⟩) 1 1).ownBlock ∨ (Value.slice (some ⟨wa.heap.size, 0, none⟩) 1 1).ownBlock = some (wa.alloc (.cells #[.bool n_g, .slice n_o n_n n_c, .int .i64 n_e] 31)).heap.size := .inl rfl; have hFb : ∀ i, i < k + 1 → Fb i = if i < 1 then (.agg #[.bool n_g, .slice n_o n_n n_c, .int .i64 n_e]) else f (k - 1 - (i - 1)) := fun i hi => (by rw [eFb, if_pos (by have := HK0.out; omega)]); clear eFb; have HLb : Hid (LS w1.heap.size (wa.alloc (.cells #[.bool n_g, .slice n_o n_n n_c, .int .i64 n_e] 31)) 4 (updV (updV X 0 v0) 1 (.slice (some ⟨wa.heap.size, 0, none⟩) 1 1)) (updV (updV (MM k) 0 (k + 1)) 1 (k + 1)) (updV (updV (FF f k (.agg #[.bool o_g, .slice o_o o_n o_c, .int .i64 o_e]) (.agg #[.bool y_g, .slice y_o y_n y_c, .int .i64 y_e])) 0 (fun i => if i < k then f i else (.agg #[.bool n_g, .slice n_o n_n n_c, .int .i64 n_e]))) 1 Fb)) := L2.put 1 hgb hOb (fun j hj hne g hg e => by have h1 := ((HLa.out.own j hj).typed hg).2.1; simp only [Value.ownBlock, Option.some.injEq] at e; omega) (fun j hj hne g hg e => by have h1 := ((HLa.out.own j hj).typed hg).2.1; rcases hvb with h2 | h2 <;> rw [h2] at e <;> simp only [Value.ownBlock, Option.some.injEq, size1] at e <;> omega); have HV : Hid (∀ i, i < k + 1 → DAn w1.heap.size (wa.alloc (.cells #[.bool n_g, .slice n_o n_n n_c, .int .i64 n_e] 31)) (updV V k Vn i) (updV f k (.agg #[.bool n_g, .slice n_o n_n n_c, .int .i64 n_e]) i) ∧ Bd 4000 (updV V k Vn i)) := fun i hi => ⟨((HV.out i hi).1.keeps (bel_alloc wa (.cells #[.bool n_g, .slice n_o n_n n_c, .int .i64 n_e] 31))).of_blocks (grown_ints hgb (fun g hg => by simp only [Value.ownBlock, Option.some.injEq] at hg; subst hg; exact ⟨_, _, heap_a1 wa (.cells #[.bool n_g, .slice n_o n_n n_c, .int .i64 n_e] 31)⟩)), (HV.out i hi).2⟩; have hbb : Below w1.heap.size w1 (wa.alloc (.cells #[.bool n_g, .slice n_o n_n n_c, .int .i64 n_e] 31)) := (hba.trans ((bel_alloc wa (.cells #[.bool n_g, .slice n_o n_n n_c, .int .i64 n_e] 31)).mono hba.size)).grown hgb (Nat.le_trans hba.size (bel_alloc wa (.cells #[.bool n_g, .slice n_o n_n n_c, .int .i64 n_e] 31)).size) (fun g hg => by have := hba.size; simp only [Value.ownBlock, Option.some.injEq] at hg; omega); have n_b : (wa.alloc (.cells #[.bool n_g, .slice n_o n_n n_c, .int .i64 n_e] 31)).heap[w2.heap.size]? = some (.cells #[.bool n_g, .slice n_o n_n n_c, .int .i64 n_e] 31 (0, 0)) := (hgb.block w2.heap.size (by rw [size1]; have := (Array.getElem?_eq_some_iff.1 n_a).1; omega) (fun e => by have := (Array.getElem?_eq_some_iff.1 n_a).1; simp only [Value.ownBlock, Option.some.injEq] at e; omega)).trans (heap_past (.cells #[.bool n_g, .slice n_o n_n n_c, .int .i64 n_e] 31) n_a); have o_b := (hbb.block _ (Array.getElem?_eq_some_iff.1 o_k).1).trans o_k; have fo0 := blkC o_b 0 rfl; have fo1 := blkC o_b 1 rfl; have fo2 := blkC o_b 2 rfl; have HFb : Hid (∀ i, i < k + 1 → Fb i = if i < 1 then (.agg #[.bool n_g, .slice n_o n_n n_c, .int .i64 n_e]) else f (k - 1 - (i - 1))) := hFb; clear L2 hgb hOb hvb hFb fa0 fa1 fa2) | (have _t := HTH; at_builtin; refine wpList_appN rfl _ _ rfl w1.heap.size _ k f rfl ((HLS.out.keeps (bel_alloc2 w2 (.cells #[.bool n_g, .slice n_o n_n n_c, .int .i64 n_e] 31) (.cells #[.bool n_g, .slice n_o n_n n_c, .int .i64 n_e] 31))).own 0 (by decide)) _ 1 1 (fun _ => (.agg #[.bool n_g, .slice n_o n_n n_c, .int .i64 n_e])) (fun _ _ => ⟨_, _, _, _, _, rfl⟩) rfl (lit_cells rfl (heap_b2 _ _ _)) (by omega) (Nat.le_trans hbw2.size (bel_alloc2 w2 (.cells #[.bool n_g, .slice n_o n_n n_c, .int .i64 n_e] 31) (.cells #[.bool n_g, .slice n_o n_n n_c, .int .i64 n_e] 31)).size) ?_; intro v0 wa hOa hga hva; have L1 := HLS.out.keeps (bel_alloc2 w2 (.cells #[.bool n_g, .slice n_o n_n n_c, .int .i64 n_e] 31) (.cells #[.bool n_g, .slice n_o n_n n_c, .int .i64 n_e] 31)); have HLa : Hid (LS w1.heap.size wa 4 (updV X 0 v0) (updV (MM k) 0 (k + 1)) (updV (FF f k (.agg #[.bool o_g, .slice o_o o_n o_c, .int .i64 o_e]) (.agg #[.bool y_g, .slice y_o y_n y_c, .int .i64 y_e])) 0 (fun i => if i < k then f i else (.agg #[.bool n_g, .slice n_o n_n n_c, .int .i64 n_e])))) := L1.app 0 (by decide) hga hOa hva; have HV : Hid (∀ i, i < k + 1 → DAn w1.heap.size wa (updV V k Vn i) (updV f k (.agg #[.bool n_g, .slice n_o n_n n_c, .int .i64 n_e]) i) ∧ Bd 4000 (updV V k Vn i)) := fun i hi => ⟨((HV.out i hi).1.keeps (bel_alloc2 w2 (.cells #[.bool n_g, .slice n_o n_n n_c, .int .i64 n_e] 31) (.cells #[.bool n_g, .slice n_o n_n n_c, .int .i64 n_e] 31))).of_blocks (grown_ints hga (L1.row (j := 0) (by decide))), (HV.out i hi).2⟩; have hba : Below w1.heap.size w1 wa := (hbw2.trans ((bel_alloc2 w2 (.cells #[.bool n_g, .slice n_o n_n n_c, .int .i64 n_e] 31) (.cells #[.bool n_g, .slice n_o n_n n_c, .int .i64 n_e] 31)).mono hbw2.size)).grown hga (Nat.le_trans hbw2.size (bel_alloc2 w2 (.cells #[.bool n_g, .slice n_o n_n n_c, .int .i64 n_e] 31) (.cells #[.bool n_g, .slice n_o n_n n_c, .int .i64 n_e] 31)).size) (L1.ge (j := 0) (by decide)); have n_a : wa.heap[w2.heap.size]? = some (.cells #[.bool n_g, .slice n_o n_n n_c, .int .i64 n_e] 31 (0, 0)) := (hga.block w2.heap.size (by rw [size2]; omega) (fun e => by have := ((HLS.out.own 0 (by decide)).typed (g := w2.heap.size) e.symm).2.1; omega)).trans (heap_a2 _ _ _); have fa0 := blkC n_a 0 rfl; have fa1 := blkC n_a 1 rfl; have fa2 := blkC n_a 2 rfl; clear L1 hOa hga hva))
        go_roundw
        case rel => exact ⟨k + 1, updV (updV (updV (updV X 0 v0) 1 (.slice (some ⟨wa.heap.size, 0, none⟩) 1 1)) 2 v2) 3 v3, _, _, by omega, by omega, by go_num, rfl, rfl, rfl, rfl, LS.congr HLd.out (mm_step k) (ff_step HFb.out), HV, hbd⟩
        case measure => simp [intOf]; omega
    · have z_r := (hbw.block _ (Array.getElem?_eq_some_iff.1 z_k).1).trans z_k
      have fz0 := blkC z_r 0 rfl
      have fz1 := blkC z_r 1 rfl
      have fz2 := blkC z_r 2 rfl
      have hend : (¬ k < ln) ∨ (k < ln ∧ ¬ k < 60) := by omega
      clear hlt
      rcases hend with hend | ⟨hend, h60⟩
      · go_wp2_with (first | (at_builtin; have L5 := HLS.out.keeps (bel_alloc wr (.cells #[.bool z_g, .slice z_o z_n z_c, .int .i64 z_e] 31)); refine wpList_appN rfl _ _ rfl w1.heap.size _ (k + 1) (FF f k (.agg #[.bool o_g, .slice o_o o_n o_c, .int .i64 o_e]) (.agg #[.bool y_g, .slice y_o y_n y_c, .int .i64 y_e]) 3) rfl (L5.own 3 (by decide)) _ 1 1 (fun _ => (.agg #[.bool z_g, .slice z_o z_n z_c, .int .i64 z_e])) (fun _ _ => ⟨_, _, _, _, _, rfl⟩) rfl (lit_cells rfl (heap_a1 _ _)) (by omega) (Nat.le_trans hbw.size (bel_alloc wr (.cells #[.bool z_g, .slice z_o z_n z_c, .int .i64 z_e] 31)).size) ?_; intro vE wE hOe hge hve; have HLe : Hid (LS w1.heap.size wE 4 (updV X 3 vE) (updV (MM k) 3 (k + 1 + 1)) (updV (FF f k (.agg #[.bool o_g, .slice o_o o_n o_c, .int .i64 o_e]) (.agg #[.bool y_g, .slice y_o y_n y_c, .int .i64 y_e])) 3 (fun i => if i < k + 1 then FF f k (.agg #[.bool o_g, .slice o_o o_n o_c, .int .i64 o_e]) (.agg #[.bool y_g, .slice y_o y_n y_c, .int .i64 y_e]) 3 i else (.agg #[.bool z_g, .slice z_o z_n z_c, .int .i64 z_e])))) := L5.app 3 (by decide) hge hOe hve; have HVe : Hid (∀ i, i < k → DAn w1.heap.size wE (V i) (f i) ∧ Bd 4000 (V i)) := fun i hi => ⟨((HV.out i hi).1.keeps (bel_alloc wr (.cells #[.bool z_g, .slice z_o z_n z_c, .int .i64 z_e] 31))).of_blocks (grown_ints hge (L5.row (j := 3) (by decide))), (HV.out i hi).2⟩; have hbE : Below w1.heap.size w1 wE := (hbw.trans ((bel_alloc wr (.cells #[.bool z_g, .slice z_o z_n z_c, .int .i64 z_e] 31)).mono hbw.size)).grown hge (Nat.le_trans hbw.size (bel_alloc wr (.cells #[.bool z_g, .slice z_o z_n z_c, .int .i64 z_e] 31)).size) (L5.ge (j := 3) (by decide)); have HSS := sums_facts HLe HVe hbE HOD HYD HZD bY hVO hk6; clear L5 hOe hge hve HLe HVe fz0 fz1 fz2))
        have hbwE : Below w.heap.size w wE := hb1.trans (hbE.mono hb1.size)
        have hbR : Below wE.heap.size wE wE := bel_refl wE
        have HTE : Hid (∀ W, Below wE.heap.size wE W → Tab W) := fun W hb => HT.out W (bel_trans hbwE hb)
        have CA : Hid (∀ W, Below wE.heap.size wE W → _) := fun W hb => dalive_any W (H.lay.keeps (bel_trans hbwE hb)) (H.tab.keeps (bel_trans hbwE hb))
        obtain ⟨SV, HS1, HS2, HS3, HD1, HD2⟩ := HSS
        go_wp2_with fail
        refine (HS1.out _ hbR (HTE.out _ hbR)).mono ?_
        rintro _ y51 ⟨v, rfl, hA⟩
        obtain ⟨s_g, s_o, s_n, s_c, s_e, rfl⟩ := dans_shape hA
        have hw := hA.below
        have s_D := hA.num
        clear hA
        have hb51 := bel_trans hbR hw
        clear hw
        have hbx : Below y51.heap.size y51 (y51.alloc (.cells #[.bool s_g, .slice s_o s_n s_c, .int .i64 s_e] 31)) := bel_alloc _ _
        have s_k : (y51.alloc (.cells #[.bool s_g, .slice s_o s_n s_c, .int .i64 s_e] 31)).heap[y51.heap.size]? = some (.cells #[.bool s_g, .slice s_o s_n s_c, .int .i64 s_e] 31 (0, 0)) := heap_a1 _ _
        go_wp2_with fail
        generalize (y51.alloc (.cells #[.bool s_g, .slice s_o s_n s_c, .int .i64 s_e] 31)) = x52 at hbx s_k ⊢
        have s_D := s_D.keeps hbx
        have hb52 := bel_trans hb51 hbx
        clear hbx
        refine (HS2.out _ hb52 (HTE.out _ hb52)).mono ?_
        rintro _ y53 ⟨v, rfl, hA⟩
        obtain ⟨t_g, t_o, t_n, t_c, t_e, rfl⟩ := dans_shape hA
        have hw := hA.below
        have t_D := hA.num
        clear hA
        have s_k := (hw.block _ (Array.getElem?_eq_some_iff.1 s_k).1).trans s_k
        have s_D := s_D.keeps hw
        have hb53 := bel_trans hb52 hw
        clear hw
        have hbx : Below y53.heap.size y53 (y53.alloc (.cells #[.bool t_g, .slice t_o t_n t_c, .int .i64 t_e] 31)) := bel_alloc _ _
        have t_k : (y53.alloc (.cells #[.bool t_g, .slice t_o t_n t_c, .int .i64 t_e] 31)).heap[y53.heap.size]? = some (.cells #[.bool t_g, .slice t_o t_n t_c, .int .i64 t_e] 31 (0, 0)) := heap_a1 _ _
        go_wp2_with fail
        generalize (y53.alloc (.cells #[.bool t_g, .slice t_o t_n t_c, .int .i64 t_e] 31)) = x54 at hbx t_k ⊢
        have t_D := t_D.keeps hbx
        have s_k := (hbx.block _ (Array.getElem?_eq_some_iff.1 s_k).1).trans s_k
        have s_D := s_D.keeps hbx
        have hb54 := bel_trans hb53 hbx
        clear hbx
        refine (HS3.out _ hb54 (HTE.out _ hb54)).mono ?_
        rintro _ y55 ⟨v, rfl, hA⟩
        obtain ⟨u_g, u_o, u_n, u_c, u_e, rfl⟩ := dans_shape hA
        have hw := hA.below
        have u_D := hA.num
        clear hA
        have s_k := (hw.block _ (Array.getElem?_eq_some_iff.1 s_k).1).trans s_k
        have s_D := s_D.keeps hw
        have t_k := (hw.block _ (Array.getElem?_eq_some_iff.1 t_k).1).trans t_k
        have t_D := t_D.keeps hw
        have hb55 := bel_trans hb54 hw
        clear hw
        have hbx : Below y55.heap.size y55 (y55.alloc (.cells #[.bool u_g, .slice u_o u_n u_c, .int .i64 u_e] 31)) := bel_alloc _ _
        have u_k : (y55.alloc (.cells #[.bool u_g, .slice u_o u_n u_c, .int .i64 u_e] 31)).heap[y55.heap.size]? = some (.cells #[.bool u_g, .slice u_o u_n u_c, .int .i64 u_e] 31 (0, 0)) := heap_a1 _ _
        go_wp2_with fail
        generalize (y55.alloc (.cells #[.bool u_g, .slice u_o u_n u_c, .int .i64 u_e] 31)) = x56 at hbx u_k ⊢
        have u_D := u_D.keeps hbx
        have s_k := (hbx.block _ (Array.getElem?_eq_some_iff.1 s_k).1).trans s_k
        have s_D := s_D.keeps hbx
        have t_k := (hbx.block _ (Array.getElem?_eq_some_iff.1 t_k).1).trans t_k
        have t_D := t_D.keeps hbx
        have hb56 := bel_trans hb55 hbx
        clear hbx
        refine (HD1.out _ hb56 (HTE.out _ hb56)).mono ?_
        rintro _ y57 ⟨v, rfl, hA⟩
        obtain ⟨d_g, d_o, d_n, d_c, d_e, rfl⟩ := dans_shape hA
        have hw := hA.below
        have d_D := hA.num
        clear hA
        have s_k := (hw.block _ (Array.getElem?_eq_some_iff.1 s_k).1).trans s_k
        have s_D := s_D.keeps hw
        have t_k := (hw.block _ (Array.getElem?_eq_some_iff.1 t_k).1).trans t_k
        have t_D := t_D.keeps hw
        have u_k := (hw.block _ (Array.getElem?_eq_some_iff.1 u_k).1).trans u_k
        have u_D := u_D.keeps hw
        have hb57 := bel_trans hb56 hw
        clear hw
        have hbx : Below y57.heap.size y57 (y57.alloc (.cells #[.bool d_g, .slice d_o d_n d_c, .int .i64 d_e] 31)) := bel_alloc _ _
        have d_k : (y57.alloc (.cells #[.bool d_g, .slice d_o d_n d_c, .int .i64 d_e] 31)).heap[y57.heap.size]? = some (.cells #[.bool d_g, .slice d_o d_n d_c, .int .i64 d_e] 31 (0, 0)) := heap_a1 _ _
        go_wp2_with fail
        generalize (y57.alloc (.cells #[.bool d_g, .slice d_o d_n d_c, .int .i64 d_e] 31)) = x58 at hbx d_k ⊢
        have d_D := d_D.keeps hbx
        have s_k := (hbx.block _ (Array.getElem?_eq_some_iff.1 s_k).1).trans s_k
        have s_D := s_D.keeps hbx
        have t_k := (hbx.block _ (Array.getElem?_eq_some_iff.1 t_k).1).trans t_k
        have t_D := t_D.keeps hbx
        have u_k := (hbx.block _ (Array.getElem?_eq_some_iff.1 u_k).1).trans u_k
        have u_D := u_D.keeps hbx
        have hb58 := bel_trans hb57 hbx
        clear hbx
        refine (HD2.out _ hb58 (HTE.out _ hb58)).mono ?_
        rintro _ y59 ⟨v, DV, rfl, hA, hD0, hDok⟩
        obtain ⟨q_g, q_o, q_n, q_c, q_e, rfl⟩ := dans_shape hA
        have hw := hA.below
        have q_D := hA.num
        have ho : (0 : Int) ≤ ord DV 0 := by
          rcases Int.lt_trichotomy DV 0 with h | h | h
          · omega
          · rw [ord_eq h]; decide
          · rw [ord_gt h]; decide
        have HDK : Hid (Dok DV) := hDok
        clear hA hD0 hDok
        have s_k := (hw.block _ (Array.getElem?_eq_some_iff.1 s_k).1).trans s_k
        have s_D := s_D.keeps hw
        have t_k := (hw.block _ (Array.getElem?_eq_some_iff.1 t_k).1).trans t_k
        have t_D := t_D.keeps hw
        have u_k := (hw.block _ (Array.getElem?_eq_some_iff.1 u_k).1).trans u_k
        have u_D := u_D.keeps hw
        have d_k := (hw.block _ (Array.getElem?_eq_some_iff.1 d_k).1).trans d_k
        have d_D := d_D.keeps hw
        have hb59 := bel_trans hb58 hw
        clear hw
        have hbx : Below y59.heap.size y59 (y59.alloc (.cells #[.bool q_g, .slice q_o q_n q_c, .int .i64 q_e] 31)) := bel_alloc _ _
        have q_k : (y59.alloc (.cells #[.bool q_g, .slice q_o q_n q_c, .int .i64 q_e] 31)).heap[y59.heap.size]? = some (.cells #[.bool q_g, .slice q_o q_n q_c, .int .i64 q_e] 31 (0, 0)) := heap_a1 _ _
        go_wp2_with fail
        generalize (y59.alloc (.cells #[.bool q_g, .slice q_o q_n q_c, .int .i64 q_e] 31)) = x60 at hbx q_k ⊢
        have q_D := q_D.keeps hbx
        have s_k := (hbx.block _ (Array.getElem?_eq_some_iff.1 s_k).1).trans s_k
        have s_D := s_D.keeps hbx
        have t_k := (hbx.block _ (Array.getElem?_eq_some_iff.1 t_k).1).trans t_k
        have t_D := t_D.keeps hbx
        have u_k := (hbx.block _ (Array.getElem?_eq_some_iff.1 u_k).1).trans u_k
        have u_D := u_D.keeps hbx
        have d_k := (hbx.block _ (Array.getElem?_eq_some_iff.1 d_k).1).trans d_k
        have d_D := d_D.keeps hbx
        have hb60 := bel_trans hb59 hbx
        clear hbx
        refine (sign_D q_D HDK.out).mono ?_
        rintro _ y61 ⟨rfl, hw⟩
        have s_k := (hw.block _ (Array.getElem?_eq_some_iff.1 s_k).1).trans s_k
        have s_D := s_D.keeps hw
        have t_k := (hw.block _ (Array.getElem?_eq_some_iff.1 t_k).1).trans t_k
        have t_D := t_D.keeps hw
        have u_k := (hw.block _ (Array.getElem?_eq_some_iff.1 u_k).1).trans u_k
        have u_D := u_D.keeps hw
        have d_k := (hw.block _ (Array.getElem?_eq_some_iff.1 d_k).1).trans d_k
        have d_D := d_D.keeps hw
        have q_k := (hw.block _ (Array.getElem?_eq_some_iff.1 q_k).1).trans q_k
        have q_D := q_D.keeps hw
        have hb61 := bel_trans hb60 hw
        clear hw
        generalize ord DV 0 = og at ho ⊢
        go_wp2_with fail
        refine (CA.out _ hb61).mono ?_
        rintro _ y62 ⟨rfl, hw⟩
        have s_k := (hw.block _ (Array.getElem?_eq_some_iff.1 s_k).1).trans s_k
        have s_D := s_D.keeps hw
        have t_k := (hw.block _ (Array.getElem?_eq_some_iff.1 t_k).1).trans t_k
        have t_D := t_D.keeps hw
        have u_k := (hw.block _ (Array.getElem?_eq_some_iff.1 u_k).1).trans u_k
        have u_D := u_D.keeps hw
        have d_k := (hw.block _ (Array.getElem?_eq_some_iff.1 d_k).1).trans d_k
        have d_D := d_D.keeps hw
        have q_k := (hw.block _ (Array.getElem?_eq_some_iff.1 q_k).1).trans q_k
        have q_D := q_D.keeps hw
        have hb62 := bel_trans hb61 hw
        clear hw
        have f_s0 := blkC s_k 0 rfl
        have f_s1 := blkC s_k 1 rfl
        have f_s2 := blkC s_k 2 rfl
        have f_t0 := blkC t_k 0 rfl
        have f_t1 := blkC t_k 1 rfl
        have f_t2 := blkC t_k 2 rfl
        go_wp2_with fail
        clear f_s0 f_s1 f_s2 f_t0 f_t1 f_t2
        refine (sameD_yes s_D t_D).mono ?_
        rintro _ y63 ⟨rfl, hw⟩
        have s_k := (hw.block _ (Array.getElem?_eq_some_iff.1 s_k).1).trans s_k
        have s_D := s_D.keeps hw
        have t_k := (hw.block _ (Array.getElem?_eq_some_iff.1 t_k).1).trans t_k
        have t_D := t_D.keeps hw
        have u_k := (hw.block _ (Array.getElem?_eq_some_iff.1 u_k).1).trans u_k
        have u_D := u_D.keeps hw
        have d_k := (hw.block _ (Array.getElem?_eq_some_iff.1 d_k).1).trans d_k
        have d_D := d_D.keeps hw
        have q_k := (hw.block _ (Array.getElem?_eq_some_iff.1 q_k).1).trans q_k
        have q_D := q_D.keeps hw
        have hb63 := bel_trans hb62 hw
        clear hw
        have f_s0 := blkC s_k 0 rfl
        have f_s1 := blkC s_k 1 rfl
        have f_s2 := blkC s_k 2 rfl
        have f_u0 := blkC u_k 0 rfl
        have f_u1 := blkC u_k 1 rfl
        have f_u2 := blkC u_k 2 rfl
        go_wp2_with fail
        clear f_s0 f_s1 f_s2 f_u0 f_u1 f_u2
        refine (sameD_yes s_D u_D).mono ?_
        rintro _ y64 ⟨rfl, hw⟩
        have s_k := (hw.block _ (Array.getElem?_eq_some_iff.1 s_k).1).trans s_k
        have s_D := s_D.keeps hw
        have t_k := (hw.block _ (Array.getElem?_eq_some_iff.1 t_k).1).trans t_k
        have t_D := t_D.keeps hw
        have u_k := (hw.block _ (Array.getElem?_eq_some_iff.1 u_k).1).trans u_k
        have u_D := u_D.keeps hw
        have d_k := (hw.block _ (Array.getElem?_eq_some_iff.1 d_k).1).trans d_k
        have d_D := d_D.keeps hw
        have q_k := (hw.block _ (Array.getElem?_eq_some_iff.1 q_k).1).trans q_k
        have q_D := q_D.keeps hw
        have hb64 := bel_trans hb63 hw
        clear hw
        have f_s0 := blkC s_k 0 rfl
        have f_s1 := blkC s_k 1 rfl
        have f_s2 := blkC s_k 2 rfl
        have f_d0 := blkC d_k 0 rfl
        have f_d1 := blkC d_k 1 rfl
        have f_d2 := blkC d_k 2 rfl
        go_wp2_with fail
        clear f_s0 f_s1 f_s2 f_d0 f_d1 f_d2
        refine (sameD_yes s_D d_D).mono ?_
        rintro _ y65 ⟨rfl, hw⟩
        have s_k := (hw.block _ (Array.getElem?_eq_some_iff.1 s_k).1).trans s_k
        have s_D := s_D.keeps hw
        have t_k := (hw.block _ (Array.getElem?_eq_some_iff.1 t_k).1).trans t_k
        have t_D := t_D.keeps hw
        have u_k := (hw.block _ (Array.getElem?_eq_some_iff.1 u_k).1).trans u_k
        have u_D := u_D.keeps hw
        have d_k := (hw.block _ (Array.getElem?_eq_some_iff.1 d_k).1).trans d_k
        have d_D := d_D.keeps hw
        have q_k := (hw.block _ (Array.getElem?_eq_some_iff.1 q_k).1).trans q_k
        have q_D := q_D.keeps hw
        have hb65 := bel_trans hb64 hw
        clear hw
        go_wp2
        go_ret
        exact ⟨ret_bool (by first | (simp; done) | (simp; omega)), bel_trans hbwE hb65⟩
      · go_wp2_with (first | (at_builtin; have L5 := HLS.out.keeps (bel_alloc wr (.cells #[.bool z_g, .slice z_o z_n z_c, .int .i64 z_e] 31)); refine wpList_appN rfl _ _ rfl w1.heap.size _ (k + 1) (FF f k (.agg #[.bool o_g, .slice o_o o_n o_c, .int .i64 o_e]) (.agg #[.bool y_g, .slice y_o y_n y_c, .int .i64 y_e]) 3) rfl (L5.own 3 (by decide)) _ 1 1 (fun _ => (.agg #[.bool z_g, .slice z_o z_n z_c, .int .i64 z_e])) (fun _ _ => ⟨_, _, _, _, _, rfl⟩) rfl (lit_cells rfl (heap_a1 _ _)) (by omega) (Nat.le_trans hbw.size (bel_alloc wr (.cells #[.bool z_g, .slice z_o z_n z_c, .int .i64 z_e] 31)).size) ?_; intro vE wE hOe hge hve; have HLe : Hid (LS w1.heap.size wE 4 (updV X 3 vE) (updV (MM k) 3 (k + 1 + 1)) (updV (FF f k (.agg #[.bool o_g, .slice o_o o_n o_c, .int .i64 o_e]) (.agg #[.bool y_g, .slice y_o y_n y_c, .int .i64 y_e])) 3 (fun i => if i < k + 1 then FF f k (.agg #[.bool o_g, .slice o_o o_n o_c, .int .i64 o_e]) (.agg #[.bool y_g, .slice y_o y_n y_c, .int .i64 y_e]) 3 i else (.agg #[.bool z_g, .slice z_o z_n z_c, .int .i64 z_e])))) := L5.app 3 (by decide) hge hOe hve; have HVe : Hid (∀ i, i < k → DAn w1.heap.size wE (V i) (f i) ∧ Bd 4000 (V i)) := fun i hi => ⟨((HV.out i hi).1.keeps (bel_alloc wr (.cells #[.bool z_g, .slice z_o z_n z_c, .int .i64 z_e] 31))).of_blocks (grown_ints hge (L5.row (j := 3) (by decide))), (HV.out i hi).2⟩; have hbE : Below w1.heap.size w1 wE := (hbw.trans ((bel_alloc wr (.cells #[.bool z_g, .slice z_o z_n z_c, .int .i64 z_e] 31)).mono hbw.size)).grown hge (Nat.le_trans hbw.size (bel_alloc wr (.cells #[.bool z_g, .slice z_o z_n z_c, .int .i64 z_e] 31)).size) (L5.ge (j := 3) (by decide)); have HSS := sums_facts HLe HVe hbE HOD HYD HZD bY hVO hk6; clear L5 hOe hge hve HLe HVe fz0 fz1 fz2))
        have hbwE : Below w.heap.size w wE := hb1.trans (hbE.mono hb1.size)
        have hbR : Below wE.heap.size wE wE := bel_refl wE
        have HTE : Hid (∀ W, Below wE.heap.size wE W → Tab W) := fun W hb => HT.out W (bel_trans hbwE hb)
        have CA : Hid (∀ W, Below wE.heap.size wE W → _) := fun W hb => dalive_any W (H.lay.keeps (bel_trans hbwE hb)) (H.tab.keeps (bel_trans hbwE hb))
        obtain ⟨SV, HS1, HS2, HS3, HD1, HD2⟩ := HSS
        go_wp2_with fail
        refine (HS1.out _ hbR (HTE.out _ hbR)).mono ?_
        rintro _ y51 ⟨v, rfl, hA⟩
        obtain ⟨s_g, s_o, s_n, s_c, s_e, rfl⟩ := dans_shape hA
        have hw := hA.below
        have s_D := hA.num
        clear hA
        have hb51 := bel_trans hbR hw
        clear hw
        have hbx : Below y51.heap.size y51 (y51.alloc (.cells #[.bool s_g, .slice s_o s_n s_c, .int .i64 s_e] 31)) := bel_alloc _ _
        have s_k : (y51.alloc (.cells #[.bool s_g, .slice s_o s_n s_c, .int .i64 s_e] 31)).heap[y51.heap.size]? = some (.cells #[.bool s_g, .slice s_o s_n s_c, .int .i64 s_e] 31 (0, 0)) := heap_a1 _ _
        go_wp2_with fail
        generalize (y51.alloc (.cells #[.bool s_g, .slice s_o s_n s_c, .int .i64 s_e] 31)) = x52 at hbx s_k ⊢
        have s_D := s_D.keeps hbx
        have hb52 := bel_trans hb51 hbx
        clear hbx
        refine (HS2.out _ hb52 (HTE.out _ hb52)).mono ?_
        rintro _ y53 ⟨v, rfl, hA⟩
        obtain ⟨t_g, t_o, t_n, t_c, t_e, rfl⟩ := dans_shape hA
        have hw := hA.below
        have t_D := hA.num
        clear hA
        have s_k := (hw.block _ (Array.getElem?_eq_some_iff.1 s_k).1).trans s_k
        have s_D := s_D.keeps hw
        have hb53 := bel_trans hb52 hw
        clear hw
        have hbx : Below y53.heap.size y53 (y53.alloc (.cells #[.bool t_g, .slice t_o t_n t_c, .int .i64 t_e] 31)) := bel_alloc _ _
        have t_k : (y53.alloc (.cells #[.bool t_g, .slice t_o t_n t_c, .int .i64 t_e] 31)).heap[y53.heap.size]? = some (.cells #[.bool t_g, .slice t_o t_n t_c, .int .i64 t_e] 31 (0, 0)) := heap_a1 _ _
        go_wp2_with fail
        generalize (y53.alloc (.cells #[.bool t_g, .slice t_o t_n t_c, .int .i64 t_e] 31)) = x54 at hbx t_k ⊢
        have t_D := t_D.keeps hbx
        have s_k := (hbx.block _ (Array.getElem?_eq_some_iff.1 s_k).1).trans s_k
        have s_D := s_D.keeps hbx
        have hb54 := bel_trans hb53 hbx
        clear hbx
        refine (HS3.out _ hb54 (HTE.out _ hb54)).mono ?_
        rintro _ y55 ⟨v, rfl, hA⟩
        obtain ⟨u_g, u_o, u_n, u_c, u_e, rfl⟩ := dans_shape hA
        have hw := hA.below
        have u_D := hA.num
        clear hA
        have s_k := (hw.block _ (Array.getElem?_eq_some_iff.1 s_k).1).trans s_k
        have s_D := s_D.keeps hw
        have t_k := (hw.block _ (Array.getElem?_eq_some_iff.1 t_k).1).trans t_k
        have t_D := t_D.keeps hw
        have hb55 := bel_trans hb54 hw
        clear hw
        have hbx : Below y55.heap.size y55 (y55.alloc (.cells #[.bool u_g, .slice u_o u_n u_c, .int .i64 u_e] 31)) := bel_alloc _ _
        have u_k : (y55.alloc (.cells #[.bool u_g, .slice u_o u_n u_c, .int .i64 u_e] 31)).heap[y55.heap.size]? = some (.cells #[.bool u_g, .slice u_o u_n u_c, .int .i64 u_e] 31 (0, 0)) := heap_a1 _ _
        go_wp2_with fail
        generalize (y55.alloc (.cells #[.bool u_g, .slice u_o u_n u_c, .int .i64 u_e] 31)) = x56 at hbx u_k ⊢
        have u_D := u_D.keeps hbx
        have s_k := (hbx.block _ (Array.getElem?_eq_some_iff.1 s_k).1).trans s_k
        have s_D := s_D.keeps hbx
        have t_k := (hbx.block _ (Array.getElem?_eq_some_iff.1 t_k).1).trans t_k
        have t_D := t_D.keeps hbx
        have hb56 := bel_trans hb55 hbx
        clear hbx
        refine (HD1.out _ hb56 (HTE.out _ hb56)).mono ?_
        rintro _ y57 ⟨v, rfl, hA⟩
        obtain ⟨d_g, d_o, d_n, d_c, d_e, rfl⟩ := dans_shape hA
        have hw := hA.below
        have d_D := hA.num
        clear hA
        have s_k := (hw.block _ (Array.getElem?_eq_some_iff.1 s_k).1).trans s_k
        have s_D := s_D.keeps hw
        have t_k := (hw.block _ (Array.getElem?_eq_some_iff.1 t_k).1).trans t_k
        have t_D := t_D.keeps hw
        have u_k := (hw.block _ (Array.getElem?_eq_some_iff.1 u_k).1).trans u_k
        have u_D := u_D.keeps hw
        have hb57 := bel_trans hb56 hw
        clear hw
        have hbx : Below y57.heap.size y57 (y57.alloc (.cells #[.bool d_g, .slice d_o d_n d_c, .int .i64 d_e] 31)) := bel_alloc _ _
        have d_k : (y57.alloc (.cells #[.bool d_g, .slice d_o d_n d_c, .int .i64 d_e] 31)).heap[y57.heap.size]? = some (.cells #[.bool d_g, .slice d_o d_n d_c, .int .i64 d_e] 31 (0, 0)) := heap_a1 _ _
        go_wp2_with fail
        generalize (y57.alloc (.cells #[.bool d_g, .slice d_o d_n d_c, .int .i64 d_e] 31)) = x58 at hbx d_k ⊢
        have d_D := d_D.keeps hbx
        have s_k := (hbx.block _ (Array.getElem?_eq_some_iff.1 s_k).1).trans s_k
        have s_D := s_D.keeps hbx
        have t_k := (hbx.block _ (Array.getElem?_eq_some_iff.1 t_k).1).trans t_k
        have t_D := t_D.keeps hbx
        have u_k := (hbx.block _ (Array.getElem?_eq_some_iff.1 u_k).1).trans u_k
        have u_D := u_D.keeps hbx
        have hb58 := bel_trans hb57 hbx
        clear hbx
        refine (HD2.out _ hb58 (HTE.out _ hb58)).mono ?_
        rintro _ y59 ⟨v, DV, rfl, hA, hD0, hDok⟩
        obtain ⟨q_g, q_o, q_n, q_c, q_e, rfl⟩ := dans_shape hA
        have hw := hA.below
        have q_D := hA.num
        have ho : (0 : Int) ≤ ord DV 0 := by
          rcases Int.lt_trichotomy DV 0 with h | h | h
          · omega
          · rw [ord_eq h]; decide
          · rw [ord_gt h]; decide
        have HDK : Hid (Dok DV) := hDok
        clear hA hD0 hDok
        have s_k := (hw.block _ (Array.getElem?_eq_some_iff.1 s_k).1).trans s_k
        have s_D := s_D.keeps hw
        have t_k := (hw.block _ (Array.getElem?_eq_some_iff.1 t_k).1).trans t_k
        have t_D := t_D.keeps hw
        have u_k := (hw.block _ (Array.getElem?_eq_some_iff.1 u_k).1).trans u_k
        have u_D := u_D.keeps hw
        have d_k := (hw.block _ (Array.getElem?_eq_some_iff.1 d_k).1).trans d_k
        have d_D := d_D.keeps hw
        have hb59 := bel_trans hb58 hw
        clear hw
        have hbx : Below y59.heap.size y59 (y59.alloc (.cells #[.bool q_g, .slice q_o q_n q_c, .int .i64 q_e] 31)) := bel_alloc _ _
        have q_k : (y59.alloc (.cells #[.bool q_g, .slice q_o q_n q_c, .int .i64 q_e] 31)).heap[y59.heap.size]? = some (.cells #[.bool q_g, .slice q_o q_n q_c, .int .i64 q_e] 31 (0, 0)) := heap_a1 _ _
        go_wp2_with fail
        generalize (y59.alloc (.cells #[.bool q_g, .slice q_o q_n q_c, .int .i64 q_e] 31)) = x60 at hbx q_k ⊢
        have q_D := q_D.keeps hbx
        have s_k := (hbx.block _ (Array.getElem?_eq_some_iff.1 s_k).1).trans s_k
        have s_D := s_D.keeps hbx
        have t_k := (hbx.block _ (Array.getElem?_eq_some_iff.1 t_k).1).trans t_k
        have t_D := t_D.keeps hbx
        have u_k := (hbx.block _ (Array.getElem?_eq_some_iff.1 u_k).1).trans u_k
        have u_D := u_D.keeps hbx
        have d_k := (hbx.block _ (Array.getElem?_eq_some_iff.1 d_k).1).trans d_k
        have d_D := d_D.keeps hbx
        have hb60 := bel_trans hb59 hbx
        clear hbx
        refine (sign_D q_D HDK.out).mono ?_
        rintro _ y61 ⟨rfl, hw⟩
        have s_k := (hw.block _ (Array.getElem?_eq_some_iff.1 s_k).1).trans s_k
        have s_D := s_D.keeps hw
        have t_k := (hw.block _ (Array.getElem?_eq_some_iff.1 t_k).1).trans t_k
        have t_D := t_D.keeps hw
        have u_k := (hw.block _ (Array.getElem?_eq_some_iff.1 u_k).1).trans u_k
        have u_D := u_D.keeps hw
        have d_k := (hw.block _ (Array.getElem?_eq_some_iff.1 d_k).1).trans d_k
        have d_D := d_D.keeps hw
        have q_k := (hw.block _ (Array.getElem?_eq_some_iff.1 q_k).1).trans q_k
        have q_D := q_D.keeps hw
        have hb61 := bel_trans hb60 hw
        clear hw
        generalize ord DV 0 = og at ho ⊢
        go_wp2_with fail
        refine (CA.out _ hb61).mono ?_
        rintro _ y62 ⟨rfl, hw⟩
        have s_k := (hw.block _ (Array.getElem?_eq_some_iff.1 s_k).1).trans s_k
        have s_D := s_D.keeps hw
        have t_k := (hw.block _ (Array.getElem?_eq_some_iff.1 t_k).1).trans t_k
        have t_D := t_D.keeps hw
        have u_k := (hw.block _ (Array.getElem?_eq_some_iff.1 u_k).1).trans u_k
        have u_D := u_D.keeps hw
        have d_k := (hw.block _ (Array.getElem?_eq_some_iff.1 d_k).1).trans d_k
        have d_D := d_D.keeps hw
        have q_k := (hw.block _ (Array.getElem?_eq_some_iff.1 q_k).1).trans q_k
        have q_D := q_D.keeps hw
        have hb62 := bel_trans hb61 hw
        clear hw
        have f_s0 := blkC s_k 0 rfl
        have f_s1 := blkC s_k 1 rfl
        have f_s2 := blkC s_k 2 rfl
        have f_t0 := blkC t_k 0 rfl
        have f_t1 := blkC t_k 1 rfl
        have f_t2 := blkC t_k 2 rfl
        go_wp2_with fail
        clear f_s0 f_s1 f_s2 f_t0 f_t1 f_t2
        refine (sameD_yes s_D t_D).mono ?_
        rintro _ y63 ⟨rfl, hw⟩
        have s_k := (hw.block _ (Array.getElem?_eq_some_iff.1 s_k).1).trans s_k
        have s_D := s_D.keeps hw
        have t_k := (hw.block _ (Array.getElem?_eq_some_iff.1 t_k).1).trans t_k
        have t_D := t_D.keeps hw
        have u_k := (hw.block _ (Array.getElem?_eq_some_iff.1 u_k).1).trans u_k
        have u_D := u_D.keeps hw
        have d_k := (hw.block _ (Array.getElem?_eq_some_iff.1 d_k).1).trans d_k
        have d_D := d_D.keeps hw
        have q_k := (hw.block _ (Array.getElem?_eq_some_iff.1 q_k).1).trans q_k
        have q_D := q_D.keeps hw
        have hb63 := bel_trans hb62 hw
        clear hw
        have f_s0 := blkC s_k 0 rfl
        have f_s1 := blkC s_k 1 rfl
        have f_s2 := blkC s_k 2 rfl
        have f_u0 := blkC u_k 0 rfl
        have f_u1 := blkC u_k 1 rfl
        have f_u2 := blkC u_k 2 rfl
        go_wp2_with fail
        clear f_s0 f_s1 f_s2 f_u0 f_u1 f_u2
        refine (sameD_yes s_D u_D).mono ?_
        rintro _ y64 ⟨rfl, hw⟩
        have s_k := (hw.block _ (Array.getElem?_eq_some_iff.1 s_k).1).trans s_k
        have s_D := s_D.keeps hw
        have t_k := (hw.block _ (Array.getElem?_eq_some_iff.1 t_k).1).trans t_k
        have t_D := t_D.keeps hw
        have u_k := (hw.block _ (Array.getElem?_eq_some_iff.1 u_k).1).trans u_k
        have u_D := u_D.keeps hw
        have d_k := (hw.block _ (Array.getElem?_eq_some_iff.1 d_k).1).trans d_k
        have d_D := d_D.keeps hw
        have q_k := (hw.block _ (Array.getElem?_eq_some_iff.1 q_k).1).trans q_k
        have q_D := q_D.keeps hw
        have hb64 := bel_trans hb63 hw
        clear hw
        have f_s0 := blkC s_k 0 rfl
        have f_s1 := blkC s_k 1 rfl
        have f_s2 := blkC s_k 2 rfl
        have f_d0 := blkC d_k 0 rfl
        have f_d1 := blkC d_k 1 rfl
        have f_d2 := blkC d_k 2 rfl
        go_wp2_with fail
        clear f_s0 f_s1 f_s2 f_d0 f_d1 f_d2
        refine (sameD_yes s_D d_D).mono ?_
        rintro _ y65 ⟨rfl, hw⟩
        have s_k := (hw.block _ (Array.getElem?_eq_some_iff.1 s_k).1).trans s_k
        have s_D := s_D.keeps hw
        have t_k := (hw.block _ (Array.getElem?_eq_some_iff.1 t_k).1).trans t_k
        have t_D := t_D.keeps hw
        have u_k := (hw.block _ (Array.getElem?_eq_some_iff.1 u_k).1).trans u_k
        have u_D := u_D.keeps hw
        have d_k := (hw.block _ (Array.getElem?_eq_some_iff.1 d_k).1).trans d_k
        have d_D := d_D.keeps hw
        have q_k := (hw.block _ (Array.getElem?_eq_some_iff.1 q_k).1).trans q_k
        have q_D := q_D.keeps hw
        have hb65 := bel_trans hb64 hw
        clear hw
        go_wp2
        go_ret
        exact ⟨ret_bool (by first | (simp; done) | (simp; omega)), bel_trans hbwE hb65⟩
set_option maxRecDepth 100000 in
theorem walk (lo : Option Addr) (ln lc : Nat) (r : Nat → NumR) (x : NumR) (w : World) (hl : IsNums w lo ln lc r) (hx : Row w x.ao x.n x.cap x.d) (ex : rng x.e) (H : Hold w) :
    Calls Tryd.prog 7 #[.slice lo ln lc, x.v] w fun e w' => e = .returned (.bool true) ∧ Below w.heap.size w w' := walk0 lo ln lc r x w hl.1 hl.2 hx ex H
theorem own : ownKnob Tryd.prog.godebug = none := by kernel_rfl
theorem laidOut : laidOutB Tryd.prog = true := by kernel_rfl
theorem door_met (os : Os) (args : Array Value) : laidMetH Tryd.prog Rows.dyadicSumsRow.laid ((World.doorLaid Tryd.prog 400 os).forCall (fun _ _ => 0) ⟨#[], args, []⟩).memory :=
  laidMetH_of_parts3 (fuel := 8) (laidMet_of_run' 8 (by kernel_rfl) (by kernel_rfl)) (by kernel_rfl) (by kernel_rfl)
set_option maxRecDepth 100000 in
theorem lifted (os : Os) (started : os.Started) (H : Type) (enc : TypeId × Value → H) :
    ReturnsInHanded {} Tryd.checked os 7 .any (fun w args => (Rows.dyadicSumsSpec.pre enc Tryd.prog Tryd.f7 [] false w args ∧ laidMetH Tryd.prog Rows.dyadicSumsRow.laid w) ∧ sizedMet enc Tryd.prog Tryd.f7 (OpenSpec.ofChange Rows.dyadicSumsSpec) false w args)
      (Rows.dyadicSumsSpec.post enc Tryd.prog Tryd.f7 false true false false) := by
  refine returnsInHanded_of_change_and (C := Tryd.checked) (X := fun w _ => laidMetH Tryd.prog Rows.dyadicSumsRow.laid w) (fun _ _ _ hh h => h.of_heap hh) own started (by kernel_rfl) Tryd.func7
    (ChangeSpec.witness_shaped (enc := enc) (C := Tryd.checked) (os := os) (X := fun w _ => laidMetH Tryd.prog Rows.dyadicSumsRow.laid w) false (World.doorLaid Tryd.prog 400 os) #[.slice none 0 0, .agg #[.bool false, .slice none 0 0, .int .i64 0]] 8 rfl (World.shaped_of_RefB (by kernel_rfl) (by kernel_rfl)) (by kernel_rfl) (by kernel_rfl) (by kernel_rfl) (door_met os _)) ?_
  intro W base args ds gs before hval0 hW _ hsz hL _
  have hval : ∀ (j : Nat) t v, Tryd.f7.params[j]? = some t → args[j]? = some v → Value.okWide Tryd.prog W .any base t v := hval0
  have hW' := hW
  obtain ⟨p, q, hA0, hV, rfl, hfz, hnd⟩ := hW
  have hA : DataW.TrodAll enc Tryd.prog W 0 (fun _ => true) true Tryd.f7.params.toList args.toList ds p := hA0
  rw [Tryd.params7] at hA hval
  obtain ⟨v0, vs0, d0, ds0, p0, q0, hargs, rfl, rfl, h0, r0⟩ := trodAll_cons hA
  obtain ⟨v1, vs1, d1, ds1, p1, q1, rfl, rfl, rfl, h1, r1⟩ := trodAll_cons r0
  obtain ⟨rfl, rfl, rfl⟩ := trodAll_nil r1
  obtain rfl : args = #[v0, v1] := by cases args; simp_all
  obtain ⟨rfl, rfl⟩ := trodVars_none hV
  obtain ⟨a0, l0, c0, rfl⟩ := okWide_slice Tryd.underlying35 (hval 0 35 v0 rfl rfl)
  have k0 := h0
  have lt0 : ∀ x ∈ p0, x.block < W.heap.size := by obtain ⟨m, hm⟩ := k0; exact DataW.trod_lt m _ _ _ hm
  obtain ⟨fu0, hf0⟩ := h0
  obtain ⟨z0, w0⟩ := nums_of (by simpa [Value.cells] using hf0) (fun n hn => of_decide_eq_true (List.all_eq_true.1 hsz n (DataW.weights_mem_each (j := 0) (t := 35) (by kernel_rfl) rfl n hn)))
  have k1 := h1
  have lt1 : ∀ x ∈ p1, x.block < W.heap.size := by obtain ⟨m, hm⟩ := k1; exact DataW.trod_lt m _ _ _ hm
  obtain ⟨x1, rfl, w1, g1⟩ := num_of (hval 1 31 v1 rfl rfl) h1
  clear hA0 hval0
  refine (walk a0 l0 c0 z0 x1 W w0 w1 g1 (hold_of hL)).mono fun e W' ⟨he, bel⟩ => ?_
  subst he
  exact ⟨_, rfl, _, _, _, [], _, [], hW', trodAll_mk1 (shut_bool Tryd.underlying4 _), (trodAll_cons_mk (Below.trod laidOut (by kernel_rfl) (of_decide_eq_true (by kernel_rfl)) k0 bel lt0) (trodAll_cons_mk (Below.trod laidOut (by kernel_rfl) (of_decide_eq_true (by kernel_rfl)) k1 bel lt1) trodAll_mk0)), rfl, bel.frame _, fun h => by cases h⟩
theorem said : Rows.DyadicSumsSaid :=
  OpenClaim.holds_of_wide 7 Tryd.f7 rfl rfl rfl rfl rfl rfl rfl ⟨rfl, rfl, rfl, rfl, rfl⟩ rfl rfl rfl rfl rfl (by kernel_rfl) Tryd.func7 (by kernel_rfl)
    (of_decide_eq_true (by kernel_rfl)) (by unfold Func.isWrapper; first | (rw [if_pos (by decide +kernel)]; kernel_rfl) | (rw [if_neg (by decide +kernel)]; exact ⟨rfl, rfl⟩))
    (fun os started H enc _ => lifted os started H enc)
theorem plain (f : FuncId) (fn : Func) (hf : Tryd.pinned.checked.prog.funcNamed Tryd.f7.name = some f) (hfn : Tryd.pinned.checked.prog.funcs[f]? = some fn) :
    true = Tryd.pinned.checked.prog.looks [] ∧ ∀ (j : Nat) t, fn.params[j]? = some t → Tryd.pinned.checked.prog.wantsStandIn t = false := by
  obtain rfl : f = 7 := Option.some.inj ((show Tryd.prog.funcNamed Tryd.f7.name = some 7 by kernel_rfl).symm.trans hf) |>.symm
  obtain rfl : fn = Tryd.f7 := (Option.some.inj (Tryd.func7.symm.trans hfn)).symm
  refine ⟨by kernel_rfl, fun j t ht => ?_⟩
  rw [Tryd.params7] at ht
  have ht2 : t = 35 ∨ t = 31 := by simpa using Array.mem_of_getElem? ht
  rcases ht2 with rfl | rfl
  · exact (show Tryd.prog.wantsStandIn 35 = false by kernel_rfl)
  · exact (show Tryd.prog.wantsStandIn 31 = false by kernel_rfl)
/-- THE CARD. -/
theorem card : Rows.DyadicSumsCardSaid :=
  Claim7.holds_tied_plain_at .later [] _ _ _ _ said (fun _ h => by cases h) (by kernel_rfl) (fun _ h => by cases h) dyadicSums_row_tie rfl ⟨rfl, rfl⟩ (by kernel_rfl) rfl plain (by kernel_rfl)
end Go.Proofs.YtkieaijmjpckdaaDoor.dyadicSums
namespace Go.Proofs.YtkieaijmjpckdaaDoor
/-- DyadicSums: the statement as it is given. -/
theorem dyadicSums_holds : Rows.DyadicSumsCardSaid := dyadicSums.card
end Go.Proofs.YtkieaijmjpckdaaDoor
