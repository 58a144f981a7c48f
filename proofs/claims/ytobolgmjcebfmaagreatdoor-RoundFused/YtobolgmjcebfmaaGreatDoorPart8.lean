/-
  Parts of the proof, one behind another.
-/
import Derived.Test.YtobolgmjcebfmaaGreatDoorPart7
import Derived.Laws.MakeOwn
import Derived.Test.YtobolgmjcebfmaaGreatDoorPart5
/-
  Package dyadic: products, Dot, by contracts.
-/
namespace Go.Proofs.YtobolgmjcebfmaaGreatDoor
open Go Go.RowKit Go.Proofs.YtobolgmjcebfmaaGreatDoor.M
set_option linter.unusedSimpArgs false
set_option linter.unusedVariables false

/-- A block of N numbers that is the call's own; the first k are those of q. -/
def BlkN (w : World) (g N k : Nat) (q : Nat → NumR) : Prop :=
  ∃ cur : Array Value, w.heap[g]? = some (.cells cur 31 (0, 0)) ∧ cur.size = N * 3 ∧ ∀ i, i < k → (cur[i * 3]? = some (.bool (q i).ng) ∧ cur[i * 3 + 1]? = some (.slice (q i).ao (q i).n (q i).cap) ∧ cur[i * 3 + 2]? = some (.int .i64 (q i).e)) ∧ Row w (q i).ao (q i).n (q i).cap (q i).d
theorem info_num : ∃ i, Tryz.prog.info? 31 = some i ∧ i.zero = some (.agg #[.bool false, .slice none 0 0, .int .i64 0]) ∧ i.size = 3 ∧ i.bytes = 40 := by
  have h : (Tryz.prog.info? 31).map (fun i => (i.zero, i.size, i.bytes)) = some (some (.agg #[.bool false, .slice none 0 0, .int .i64 0]), 3, 40) := by kernel_rfl
  obtain ⟨i, hi, hzz⟩ := Option.map_eq_some_iff.1 h
  simp only [Prod.mk.injEq] at hzz
  exact ⟨i, hi, hzz⟩
theorem make_nums (n : Nat) (hn : n ≤ 100000) (w : World) :
    (Instr.makeSlice 47 (.int .i64 (n : Int)) (.int .i64 (n : Int))).run Tryz.prog w = .ok (.slice (some ⟨w.heap.size, 0, none⟩) n n) (w.alloc (.cells (madeCells #[.bool false, .slice none 0 0, .int .i64 0] (n * 3)) 31)) := by
  obtain ⟨i, hi, hz, hs, hb⟩ := info_num
  have := run_make (P := Tryz.prog) w 47 31 i _ Tryz.underlying47 hi hz .i64 .i64 n n (by omega) (Int.le_refl _) (by rw [hb]; omega) (by omega)
  simp only [Int.toNat_natCast, hs] at this
  exact this
def updN (q : Nat → NumR) (k : Nat) (x : NumR) : Nat → NumR := fun j => if j = k then x else q j
theorem updN_same (q : Nat → NumR) (k : Nat) (x : NumR) : updN q k x k = x := by simp [updN]
theorem updN_other (q : Nat → NumR) {k j : Nat} (x : NumR) (h : j ≠ k) : updN q k x j = q j := by simp [updN, h]
theorem keep3W {W w' : World} {b g o0 o1 o2 : Nat} {x y z : Value} (h : W.cell? ⟨b, o0, none⟩ = some x ∧ W.cell? ⟨b, o1, none⟩ = some y ∧ W.cell? ⟨b, o2, none⟩ = some z) (hw : Wr g W w') (hg : b ≠ g) :
    w'.cell? ⟨b, o0, none⟩ = some x ∧ w'.cell? ⟨b, o1, none⟩ = some y ∧ w'.cell? ⟨b, o2, none⟩ = some z :=
  ⟨(hw.cell (World.block_lt_of_cell? W _ h.1) hg).trans h.1, (hw.cell (World.block_lt_of_cell? W _ h.2.1) hg).trans h.2.1, (hw.cell (World.block_lt_of_cell? W _ h.2.2) hg).trans h.2.2⟩
theorem keep3B {W w' : World} {b o0 o1 o2 : Nat} {x y z : Value} (h : W.cell? ⟨b, o0, none⟩ = some x ∧ W.cell? ⟨b, o1, none⟩ = some y ∧ W.cell? ⟨b, o2, none⟩ = some z) (hb : Below W.heap.size W w') :
    w'.cell? ⟨b, o0, none⟩ = some x ∧ w'.cell? ⟨b, o1, none⟩ = some y ∧ w'.cell? ⟨b, o2, none⟩ = some z := ⟨cell_keeps h.1 hb, cell_keeps h.2.1 hb, cell_keeps h.2.2 hb⟩
theorem wr3 (W : World) (g o0 o1 o2 : Nat) (x y z : Value) : Wr g W (((W.setCell ⟨g, o0, none⟩ x).setCell ⟨g, o1, none⟩ y).setCell ⟨g, o2, none⟩ z) := (((Wr.refl g W).setCell o0 x).setCell o1 y).setCell o2 z
theorem Row.wrN {w w' : World} {g : Nat} {ao : Option Addr} {n cap : Nat} {d : Nat → Int} (h : Row w ao n cap d) (hw : Wr g w w') {cur : Array Value} {z : Nat × Nat} (hg : w.heap[g]? = some (.cells cur 31 z)) (ht : ∀ b off, ao = some ⟨b, off, none⟩ → 0 < n → b ≠ g) : Row w' ao n cap d :=
  ⟨h.le, h.max, h.nl, fun hn => by
    obtain ⟨b, off, rfl, hlt, hc⟩ := h.spot hn
    exact ⟨b, off, rfl, Nat.lt_of_lt_of_le hlt hw.size, fun i hi => (hw.cell (p := ⟨b, off + i, none⟩) hlt (ht b off rfl hn)).trans (hc i hi)⟩⟩
theorem Ans.open {w w' : World} {V : Int} {so : Option Addr} {sn sc : Nat} (h : Ans w w' V (.slice so sn sc)) : ∃ d, Row w' so sn sc d ∧ Nrm d sn ∧ val d sn = V ∧ ∀ b off, so = some ⟨b, off, none⟩ → w.heap.size ≤ b := by
  obtain ⟨t, d, hO, hN, hV, _⟩ := h
  have hge := own_ge hO
  obtain ⟨so', sc', e, hR⟩ := hO.row
  simp only [Value.slice.injEq] at e
  obtain ⟨rfl, rfl, rfl⟩ := e
  exact ⟨d, hR, hN, hV, fun b off hb => hge b (by rw [hb]; rfl)⟩
theorem bel_set3' {w0 w : World} {g o0 o1 o2 : Nat} (h : Below w0.heap.size w0 w) (hg : w0.heap.size ≤ g) (x y z : Value) : Below w0.heap.size w0 (((w.setCell ⟨g, o0, none⟩ x).setCell ⟨g, o1, none⟩ y).setCell ⟨g, o2, none⟩ z) := ((h.setCell (p := ⟨g, o0, none⟩) hg x).setCell (p := ⟨g, o1, none⟩) hg y).setCell (p := ⟨g, o2, none⟩) hg z
theorem set3_get {cur : Array Value} {k : Nat} {x y z : Value} (h : k * 3 + 2 < cur.size) (i : Nat) :
    let c := ((cur.setIfInBounds (k * 3) x).setIfInBounds (k * 3 + 1) y).setIfInBounds (k * 3 + 2) z
    (i = k → c[i * 3]? = some x ∧ c[i * 3 + 1]? = some y ∧ c[i * 3 + 2]? = some z) ∧ (i ≠ k → c[i * 3]? = cur[i * 3]? ∧ c[i * 3 + 1]? = cur[i * 3 + 1]? ∧ c[i * 3 + 2]? = cur[i * 3 + 2]?) := by
  intro c
  refine ⟨fun e => ?_, fun e => ?_⟩
  · subst e
    refine ⟨?_, ?_, ?_⟩
    · show (((cur.setIfInBounds (i * 3) x).setIfInBounds (i * 3 + 1) y).setIfInBounds (i * 3 + 2) z)[i * 3]? = some x
      rw [Array.getElem?_setIfInBounds_ne (by omega), Array.getElem?_setIfInBounds_ne (by omega), Array.getElem?_setIfInBounds_self_of_lt (by omega)]
    · show (((cur.setIfInBounds (i * 3) x).setIfInBounds (i * 3 + 1) y).setIfInBounds (i * 3 + 2) z)[i * 3 + 1]? = some y
      rw [Array.getElem?_setIfInBounds_ne (by omega), Array.getElem?_setIfInBounds_self_of_lt (by simp; omega)]
    · show (((cur.setIfInBounds (i * 3) x).setIfInBounds (i * 3 + 1) y).setIfInBounds (i * 3 + 2) z)[i * 3 + 2]? = some z
      rw [Array.getElem?_setIfInBounds_self_of_lt (by simp; omega)]
  · refine ⟨?_, ?_, ?_⟩
    all_goals
      show (((cur.setIfInBounds (k * 3) x).setIfInBounds (k * 3 + 1) y).setIfInBounds (k * 3 + 2) z)[_]? = _
      rw [Array.getElem?_setIfInBounds_ne (by omega), Array.getElem?_setIfInBounds_ne (by omega), Array.getElem?_setIfInBounds_ne (by omega)]
theorem BlkN.step {wr w3 : World} {g N k : Nat} {q : Nat → NumR} (h : BlkN wr g N k q) (hb : Below wr.heap.size wr w3) (x : NumR) (hx : Row w3 x.ao x.n x.cap x.d) (hk : k < N) (hg : ∀ i b' off, i < k → (q i).ao = some ⟨b', off, none⟩ → 0 < (q i).n → g < b') (hg2 : ∀ b' off, x.ao = some ⟨b', off, none⟩ → 0 < x.n → g < b') :
    BlkN (((w3.setCell ⟨g, k * 3, none⟩ (.bool x.ng)).setCell ⟨g, k * 3 + 1, none⟩ (.slice x.ao x.n x.cap)).setCell ⟨g, k * 3 + 2, none⟩ (.int .i64 x.e)) g N (k + 1) (updN q k x) := by
  obtain ⟨cur, hcur, hsz, hc⟩ := h
  have q0 := (hb.block g (Array.getElem?_eq_some_iff.1 hcur).1).trans hcur
  have q1 := heap_set (heap_set (heap_set q0 (k * 3) (.bool x.ng)) (k * 3 + 1) (.slice x.ao x.n x.cap)) (k * 3 + 2) (.int .i64 x.e)
  have hw := wr3 w3 g (k * 3) (k * 3 + 1) (k * 3 + 2) (.bool x.ng) (.slice x.ao x.n x.cap) (.int .i64 x.e)
  refine ⟨_, q1, by simp [hsz], fun i hi => ?_⟩
  have hs := set3_get (cur := cur) (k := k) (x := .bool x.ng) (y := .slice x.ao x.n x.cap) (z := .int .i64 x.e) (by omega) i
  by_cases e : i = k
  · subst e
    rw [updN_same]
    exact ⟨hs.1 rfl, hx.wrN hw q0 fun b' off he hn => by have := hg2 b' off he hn; omega⟩
  · rw [updN_other q x e]
    obtain ⟨s0, s1, s2⟩ := hs.2 e
    obtain ⟨⟨c0, c1, c2⟩, hR⟩ := hc i (by omega)
    refine ⟨⟨s0.trans c0, s1.trans c1, s2.trans c2⟩, (hR.keeps hb).wrN hw q0 fun b' off he hn => ?_⟩
    have := hg i b' off (by omega) he hn
    omega
theorem BlkN.nums {w : World} {g N : Nat} {q : Nat → NumR} (h : BlkN w g N N q) (hN : N ≤ 100000) : Nums w (some ⟨g, 0, none⟩) N N q := by
  obtain ⟨cur, hcur, hsz, hc⟩ := h
  refine ⟨Nat.le_refl _, by omega, fun _ => ⟨g, 0, rfl, (Array.getElem?_eq_some_iff.1 hcur).1, fun i hi => ?_⟩⟩
  obtain ⟨⟨c0, c1, c2⟩, hR⟩ := hc i hi
  rw [Nat.zero_add]
  exact ⟨blkC hcur _ c0, blkC hcur _ c1, blkC hcur _ c2, hR⟩
set_option maxRecDepth 100000 in
set_option maxHeartbeats 2000000 in
theorem products_any (ao bo : Option Addr) (n ca cb : Nat) (a b : Nat → NumR) (w : World) (ha : Nums w ao n ca a) (hb : Nums w bo n cb b) (hn : n ≤ 100000) (sa : ∀ i, i < n → Sane (a i)) (sb : ∀ i, i < n → Sane (b i)) :
    Calls Tryz.prog 50 #[.slice ao n ca, .slice bo n cb] w fun x w' => ∃ g q, x = .returned (.slice (some ⟨g, 0, none⟩) n n) ∧ w.heap.size ≤ g ∧ Nums w' (some ⟨g, 0, none⟩) n n q ∧ Below w.heap.size w w' ∧ ∀ i, i < n → Nrm (q i).d (q i).n ∧ (q i).ng = ((a i).ng != (b i).ng) ∧ val (q i).d (q i).n = val (a i).d (a i).n * val (b i).d (b i).n ∧ (q i).e = (a i).e + (b i).e := by
  have hla := ha.le
  have hma := ha.max
  have hlb := hb.le
  have hmb := hb.max
  have hmake := make_nums n hn
  go_enter Tryz.func50, Tryz.ntmps50
  go_wp2_with fail
  have hb0 := bel_alloc w (.cells (madeCells #[.bool false, .slice none 0 0, .int .i64 0] (n * 3)) 31)
  have g0 := heap_a1 w (.cells (madeCells #[.bool false, .slice none 0 0, .int .i64 0] (n * 3)) 31)
  have HB0 : Hid (BlkN (w.alloc (.cells (madeCells #[.bool false, .slice none 0 0, .int .i64 0] (n * 3)) 31)) w.heap.size n 0 a) := ⟨_, g0, by rw [size_madeCells], fun i hi => by omega⟩
  clear g0 hmake
  generalize w.alloc (.cells (madeCells #[.bool false, .slice none 0 0, .int .i64 0] (n * 3)) 31) = wx at hb0 HB0 ⊢
  go_loopw [12] (fun iv wr => ∃ (k : Nat) (q : Nat → NumR), k ≤ n ∧ iv = .int .i64 k ∧ Hid (BlkN wr w.heap.size n k q) ∧ Hid (∀ i, i < k → Nrm (q i).d (q i).n ∧ (q i).ng = ((a i).ng != (b i).ng) ∧ val (q i).d (q i).n = val (a i).d (a i).n * val (b i).d (b i).n ∧ (q i).e = (a i).e + (b i).e) ∧ Hid (∀ i b' off, i < k → (q i).ao = some ⟨b', off, none⟩ → 0 < (q i).n → w.heap.size < b') ∧ Below w.heap.size w wr) (fun iv _ => n - (intOf iv).toNat)
  case atStart => exact ⟨0, a, Nat.zero_le _, rfl, HB0, fun i hi => by omega, fun i b' off hi => by omega, hb0⟩
  case round =>
    obtain ⟨k, q, hk, rfl, HQ, HF, HG, hbw⟩ := hrel
    clear HB0 hb0
    by_cases hlt : k < n
    · obtain ⟨ba, oa, rfl, hba, hca⟩ := ha.spot (by omega)
      obtain ⟨bb, ob, rfl, hbb, hcb⟩ := hb.spot (by omega)
      obtain ⟨c0, c1, c2, ra⟩ := (hca k hlt).keeps hbw hba
      obtain ⟨d0, d1, d2, rb⟩ := (hcb k hlt).keeps hbw hbb
      have CP := fun W (h : Below wr.heap.size wr W) => dproduct_any (a k) (b k) W (ra.keeps h) (rb.keeps h) (sa k hlt) (sb k hlt)
      have hea : Hid (-1100000 ≤ (a k).e ∧ (a k).e ≤ 1100000) := (sa k hlt).2.2
      have heb : Hid (-1100000 ≤ (b k).e ∧ (b k).e ≤ 1100000) := (sb k hlt).2.2
      have HAK : Hid (∀ x, a k = x → a k = x) := fun _ h => h
      clear hca hcb ra rb
      obtain ⟨xa, hxa⟩ : ∃ x, a k = x := ⟨_, rfl⟩
      obtain ⟨xb, hxb⟩ : ∃ x, b k = x := ⟨_, rfl⟩
      rw [hxa] at c0 c1 c2 CP hea
      rw [hxb] at d0 d1 d2 CP heb
      have HXA : Hid (a k = xa) := hxa
      have HXB : Hid (b k = xb) := hxb
      clear hxa hxb HAK
      unfold NumR.v at CP
      obtain ⟨ag, aao, an, aca, ad, ae⟩ := xa
      obtain ⟨bg, bao, bn, bca, bd, be⟩ := xb
      simp only at c0 c1 c2 d0 d1 d2 CP hea heb
      obtain ⟨cur, hcur, hsz, hcells⟩ := HQ.out
      have HCL : Hid _ := hcells
      have e0 : k * 3 < cur.size := by omega
      have e1 : k * 3 + 1 < cur.size := by omega
      have e2 : k * 3 + 2 < cur.size := by omega
      obtain ⟨v0, hv0⟩ : ∃ v, cur[k * 3]? = some v := ⟨_, Array.getElem?_eq_getElem e0⟩
      obtain ⟨v1, hv1⟩ : ∃ v, cur[k * 3 + 1]? = some v := ⟨_, Array.getElem?_eq_getElem e1⟩
      obtain ⟨v2, hv2⟩ : ∃ v, cur[k * 3 + 2]? = some v := ⟨_, Array.getElem?_eq_getElem e2⟩
      have HV : Hid (cur[k * 3]? = some v0 ∧ cur[k * 3 + 1]? = some v1 ∧ cur[k * 3 + 2]? = some v2) := ⟨hv0, hv1, hv2⟩
      have HSZ : Hid (cur.size = n * 3) := hsz
      have HCUR : Hid (wr.heap[w.heap.size]? = some (.cells cur 31 (0, 0))) := hcur
      have hgs : w.heap.size < wr.heap.size := (Array.getElem?_eq_some_iff.1 hcur).1
      clear hcells hv0 hv1 hv2 hcur hsz e0 e1 e2
      have i0 : (0 : Int) ≤ (k : Int) := by omega
      have i1 : (k : Int) < (n : Int) := by omega
      have kc0 : (wr.drew.cell? ⟨ba, oa + k * 3, none⟩ = some (.bool ag) ∧ wr.drew.cell? ⟨ba, oa + k * 3 + 1, none⟩ = some (.slice aao an aca) ∧ wr.drew.cell? ⟨ba, oa + k * 3 + 2, none⟩ = some (.int .i64 ae)) ∧ wr.drew.cell? ⟨bb, ob + k * 3, none⟩ = some (.bool bg) ∧ wr.drew.cell? ⟨bb, ob + k * 3 + 1, none⟩ = some (.slice bao bn bca) ∧ wr.drew.cell? ⟨bb, ob + k * 3 + 2, none⟩ = some (.int .i64 be) := ⟨⟨c0, c1, c2⟩, d0, d1, d2⟩
      have hb1 := bel_refl wr
      go_wp2_with fail
      go_region_held3 (fun W => (W.cell? ⟨ba, oa + k * 3, none⟩ = some (.bool ag) ∧ W.cell? ⟨ba, oa + k * 3 + 1, none⟩ = some (.slice aao an aca) ∧ W.cell? ⟨ba, oa + k * 3 + 2, none⟩ = some (.int .i64 ae)) ∧ W.cell? ⟨bb, ob + k * 3, none⟩ = some (.bool bg) ∧ W.cell? ⟨bb, ob + k * 3 + 1, none⟩ = some (.slice bao bn bca) ∧ W.cell? ⟨bb, ob + k * 3 + 2, none⟩ = some (.int .i64 be))
        (first | assumption | exact ⟨keep3W kc1.1 (wr3 _ _ _ _ _ _ _ _) (by omega), keep3W kc1.2 (wr3 _ _ _ _ _ _ _ _) (by omega)⟩)
        ((go_at_call 36; refine (CP _ hb1.drew).mono ?_; rintro y w3 ⟨s, rfl, hA⟩; have hbv1 := hA.below; have kc1 := And.intro (keep3B kc0.1 hbv1) (keep3B kc0.2 hbv1); obtain ⟨so, sn, sc, rfl⟩ := hA.num.shape; have q0 := (hbv1.block w.heap.size hgs).trans HCUR.out; have x0 := blkC q0 (k * 3) HV.out.1; have x1 := blkC q0 (k * 3 + 1) HV.out.2.1; have x2 := blkC q0 (k * 3 + 2) HV.out.2.2; have z0 := blkF q0 (k * 3); have z1 := blkF q0 (k * 3 + 1); have z2 := blkF q0 (k * 3 + 2)))
      all_goals go_wp2
      all_goals
        go_roundw
        case rel =>
          obtain ⟨dd, hRd, hNd, hVd, hgd⟩ := hA.open
          have hgs2 : ∀ b' off, so = some ⟨b', off, none⟩ → 0 < sn → w.heap.size < b' := fun b' off he _ => by
            have h9 := hgd b' off he
            have h8 : w.heap.size < wr.drew.heap.size := hgs
            omega
          refine ⟨k + 1, updN q k ⟨ag != bg, so, sn, sc, dd, ae + be⟩, by omega, by go_num, BlkN.step (x := ⟨ag != bg, so, sn, sc, dd, ae + be⟩) HQ.out (bel_trans hb1.drew hbv1) hRd hlt HG.out hgs2, fun i hi => ?_, fun i b' off hi he hn' => ?_, bel_set3' (bel_trans hbw (bel_trans hb1.drew hbv1)) (Nat.le_refl _) _ _ _⟩
          · by_cases e : i = k
            · subst e
              rw [updN_same, HXA.out, HXB.out]
              exact ⟨hNd, rfl, hVd, rfl⟩
            · rw [updN_other _ _ e]
              exact HF.out i (by omega)
          · by_cases e : i = k
            · subst e
              rw [updN_same] at he hn'
              exact hgs2 b' off he hn'
            · rw [updN_other _ _ e] at he hn'
              exact HG.out i b' off (by omega) he hn'
        case measure => simp [intOf]; omega
    · obtain rfl : k = n := by omega
      go_wp2
      go_ret
      exact ⟨_, q, rfl, Nat.le_refl _, HQ.out.nums hn, hbw, HF.out⟩
/-- The sum of the products. -/
def dotV (a b : Nat → NumR) : Nat → Int | 0 => 0 | k + 1 => dotV a b k + mulV (a k) (b k)
theorem sumV_dot {a b q : Nat → NumR} : ∀ n, (∀ i, i < n → (q i).ng = ((a i).ng != (b i).ng) ∧ val (q i).d (q i).n = val (a i).d (a i).n * val (b i).d (b i).n ∧ (q i).e = (a i).e + (b i).e) → sumV q n = dotV a b n
  | 0, _ => rfl
  | k + 1, h => by
    obtain ⟨h1, h2, h3⟩ := h k (by omega)
    show sumV q k + sg (q k).ng (val (q k).d (q k).n) * pw (q k).e = dotV a b k + sg ((a k).ng != (b k).ng) (val (a k).d (a k).n * val (b k).d (b k).n) * pw ((a k).e + (b k).e)
    rw [sumV_dot k fun i hi => h i (by omega), h1, h2, h3]
/-- Numbers whose products can be summed. -/
def Half (x : NumR) : Prop := -500000 ≤ x.e ∧ x.e ≤ 500000
theorem prod_sane {x y q : NumR} (ox : okR x = true) (oy : okR y = true) (hx : Half x) (hy : Half y) (h0 : Nrm q.d q.n) (h2 : val q.d q.n = val x.d x.n * val y.d y.n) (h3 : q.e = x.e + y.e) : Sane q := by
  refine ⟨h0, ?_, ?_, ?_⟩
  · have a := (okR_dy ox).2.1
    have b := (okR_dy oy).2.1
    have a0 := val_nonneg (okR_sane ox).1.1
    have b0 := val_nonneg (okR_sane oy).1.1
    by_cases hq : q.n ≤ 5000
    · exact hq
    · exfalso
      have c := val_top h0.1 (by omega) h0.2
      have d := P_le (show 4000 ≤ q.n - 1 by omega)
      have e : val x.d x.n * val y.d y.n < P 2000 * P 2000 := by
        by_cases hz : val x.d x.n = 0
        · rw [hz, Int.zero_mul]; exact Int.mul_pos (P_pos _) (P_pos _)
        · exact Int.lt_of_lt_of_le (Int.mul_lt_mul_of_pos_left b (by omega)) (Int.mul_le_mul_of_nonneg_right (by omega) (Int.le_of_lt (P_pos _)))
      have f : P 2000 * P 2000 = P 4000 := by rw [P_two 2000, P_two 4000, ← Int.pow_add, show 30 * 2000 + 30 * 2000 = 30 * 4000 from rfl]
      rw [f] at e
      rw [h2] at c
      generalize P 4000 = Y at *
      omega
  · unfold Half at *; omega
  · unfold Half at *; omega
set_option maxRecDepth 100000 in
set_option maxHeartbeats 2000000 in
theorem dot1_any (ao bo : Option Addr) (n ca cb : Nat) (a b : Nat → NumR) (p p2 : Addr) (w : World) (c : w.cell? p = some (.slice ao n ca)) (c2 : w.cell? p2 = some (.slice bo n cb)) (ha : Nums w ao n ca a) (hb : Nums w bo n cb b) (oa : ∀ i, i < n → okR (a i) = true) (ob : ∀ i, i < n → okR (b i) = true) (la : ∀ i, i < n → Half (a i)) (lb : ∀ i, i < n → Half (b i)) (hn : n ≤ 100000) (hT : Tab w) :
    Calls Tryz.prog 49 #[.pointer (some p), .pointer (some p2)] w (DOut w (dotV a b n)) := by
  have hbe := bel_alloc w (.cells #[.bool false, .slice none 0 0, .int .i64 0] 31)
  have k0 := cell_keeps c hbe
  have k1 := cell_keeps c2 hbe
  have g0 := heap_a1 w (.cells #[.bool false, .slice none 0 0, .int .i64 0] 31)
  have CP := products_any ao bo n ca cb a b _ (ha.keeps hbe) (hb.keeps hbe) hn (fun i hi => okR_sane (oa i hi)) (fun i hi => okR_sane (ob i hi))
  have hTx := hT.keeps hbe
  have HSUM : Hid (∀ W g q, Nums W (some ⟨g, 0, none⟩) n n q → (∀ i, i < n → Nrm (q i).d (q i).n ∧ (q i).ng = ((a i).ng != (b i).ng) ∧ val (q i).d (q i).n = val (a i).d (a i).n * val (b i).d (b i).n ∧ (q i).e = (a i).e + (b i).e) → Tab W → Calls Tryz.prog 38 #[.slice (some ⟨g, 0, none⟩) n n] W (DOut W (dotV a b n))) := fun W g q hN hF hTW => by
    have := total_any (some ⟨g, 0, none⟩) n n q W hN (fun i hi => prod_sane (oa i hi) (ob i hi) (la i hi) (lb i hi) (hF i hi).1 (hF i hi).2.2.1 (hF i hi).2.2.2) hn hTW
    rwa [sumV_dot n fun i hi => (hF i hi).2] at this
  generalize dotV a b n = V at HSUM ⊢
  clear oa ob la lb ha hb
  go_enter Tryz.func49, Tryz.ntmps49
  go_wp2_with fail
  generalize w.alloc (.cells #[.bool false, .slice none 0 0, .int .i64 0] 31) = wx at *
  refine CP.mono ?_
  rintro x w1 ⟨g, q, rfl, hg, hN, hb1, hF⟩
  have HF : Hid _ := hF
  clear hF
  go_wp2_with fail
  refine (HSUM.out _ _ _ hN HF.out (hTx.keeps hb1)).mono ?_
  rintro x w7 (⟨hok, v, rfl, hD⟩ | ⟨hno, rfl, hb7⟩)
  · have hb7 := hD.below
    obtain ⟨ng', s', m', e', rfl, hyy, hA2⟩ := id hD
    obtain ⟨so', sn', sc', rfl⟩ := hA2.num.shape
    have hlt := (Array.getElem?_eq_some_iff.1 g0).1
    have q0 := ((bel_trans hb1 hb7).block w.heap.size hlt).trans g0
    have x0 := blkC q0 0 rfl
    have x1 := blkC q0 1 rfl
    have x2 := blkC q0 2 rfl
    have z0 := blkF q0 0
    have z1 := blkF q0 1
    have z2 := blkF q0 2
    go_wp2
    refine bodyPost_ret (v := .agg #[.bool ng', .slice so' sn' sc', .int .i64 e']) (by simp [results, Tryz.results49, go_sem, x0, x1, x2]) rfl ?_
    exact .inl ⟨hok, _, rfl, dans_res3 (g := w.heap.size) hD (bel_trans hbe hb1) (Nat.le_refl _) (Nat.lt_of_lt_of_le hlt hb1.size) _ _ _⟩
  · exact ⟨rfl, .inr ⟨hno, rfl, bel_trans (bel_trans hbe hb1) hb7⟩⟩
set_option maxRecDepth 100000 in
set_option maxHeartbeats 2000000 in
theorem ddot_ok (ao bo : Option Addr) (n ca cb : Nat) (a b : Nat → NumR) (w : World) (ha : Nums w ao n ca a) (hb : Nums w bo n cb b) (oa : allOk a n = true) (ob : allOk b n = true) (la : ∀ i, i < n → Half (a i)) (lb : ∀ i, i < n → Half (b i)) (hn : n ≤ 100000) (hT : Tab w) :
    Calls Tryz.prog 24 #[.slice ao n ca, .slice bo n cb] w fun x w' => ∃ v er, x = .returned (.tuple #[v, .int .i64 er]) ∧ DFit w w' (dotV a b n) v er := by
  have hmf : ∀ (fn : Fn) (first cap : Array Value) (w : World), (Instr.makeFunc fn first cap).run Tryz.prog w = .ok (.func fn first cap) w := fun _ _ _ _ => rfl
  have hE : ∀ (cap : Array Value) (w : World), (callFunc 49 cap).run Tryz.prog w = .ok (.enter 49 cap) w := by
    intro cap w
    simp [go_sem]
  have hla := ha.le
  have hma := ha.max
  have hlb := hb.le
  have hmb := hb.max
  have CA := fun W (h : Below w.heap.size w W) => dvalids_any ao n ca a W (ha.keeps h)
  have CB := fun W (h : Below w.heap.size w W) => dvalids_any bo n cb b W (hb.keeps h)
  have CD : Hid (∀ W p p2, Below w.heap.size w W → W.cell? p = some (.slice ao n ca) → W.cell? p2 = some (.slice bo n cb) → Calls Tryz.prog 49 #[.pointer (some p), .pointer (some p2)] W (DOut W (dotV a b n))) := fun W p p2 h c1 c2 => dot1_any ao bo n ca cb a b p p2 W c1 c2 (ha.keeps h) (hb.keeps h) (allOk_out oa) (allOk_out ob) la lb hn (hT.keeps h)
  generalize dotV a b n = V at CD ⊢
  rw [oa] at CA
  rw [ob] at CB
  clear ha hb oa ob la lb hT
  have hb3 := bel_a3 w (.cells #[.slice ao n ca] 47) (.cells #[.slice bo n cb] 47) (.cells #[.bool false, .slice none 0 0, .int .i64 0] 31)
  have g0 := h3_0 w (.cells #[.slice ao n ca] 47) (.cells #[.slice bo n cb] 47) (.cells #[.bool false, .slice none 0 0, .int .i64 0] 31)
  have g1 := h3_1 w (.cells #[.slice ao n ca] 47) (.cells #[.slice bo n cb] 47) (.cells #[.bool false, .slice none 0 0, .int .i64 0] 31)
  have g2 := h3_2 w (.cells #[.slice ao n ca] 47) (.cells #[.slice bo n cb] 47) (.cells #[.bool false, .slice none 0 0, .int .i64 0] 31)
  go_enter Tryz.func24, Tryz.ntmps24
  go_wp2_with fail
  generalize ((w.alloc (.cells #[.slice ao n ca] 47)).alloc (.cells #[.slice bo n cb] 47)).alloc (.cells #[.bool false, .slice none 0 0, .int .i64 0] 31) = wx at hb3 g0 g1 g2 ⊢
  refine (CA _ hb3).mono ?_
  rintro x w1 ⟨rfl, hb1⟩
  have hbw := bel_trans hb3 hb1
  replace g0 := (hb1.block _ (Array.getElem?_eq_some_iff.1 g0).1).trans g0
  replace g1 := (hb1.block _ (Array.getElem?_eq_some_iff.1 g1).1).trans g1
  replace g2 := (hb1.block _ (Array.getElem?_eq_some_iff.1 g2).1).trans g2
  have k1 := blkC g1 0 rfl
  go_wp2_with fail
  clear k1
  refine (CB _ hbw).mono ?_
  rintro x w2 ⟨rfl, hb2⟩
  have hbw2 := bel_trans hbw hb2
  replace g0 := (hb2.block _ (Array.getElem?_eq_some_iff.1 g0).1).trans g0
  replace g1 := (hb2.block _ (Array.getElem?_eq_some_iff.1 g1).1).trans g1
  replace g2 := (hb2.block _ (Array.getElem?_eq_some_iff.1 g2).1).trans g2
  have hs3 := (Array.getElem?_eq_some_iff.1 g2).1
  go_wp2_with fail
  refine (told_any (V := V) (hE _) (fun W hW => CD.out W _ _ (bel_trans hbw2 hW) (blkC ((hW.block _ (by omega)).trans g0) 0 rfl) (blkC ((hW.block _ (by omega)).trans g1) 0 rfl))).mono ?_
  rintro x w3 ⟨v, er, rfl, hF⟩
  obtain ⟨ng', so, sn, sc, e', rfl⟩ := hF.shape
  have q0 := (hF.1.block (w.heap.size + 2) hs3).trans g2
  have x0 := blkC q0 0 rfl
  have x1 := blkC q0 1 rfl
  have x2 := blkC q0 2 rfl
  have z0 := blkF q0 0
  have z1 := blkF q0 1
  have z2 := blkF q0 2
  go_wp2
  refine bodyPost_ret (v := .tuple #[.agg #[.bool ng', .slice so sn sc, .int .i64 e'], .int .i64 er]) (by simp [results, Tryz.results24, go_sem, x0, x1, x2]) rfl ⟨_, _, rfl, ?_⟩
  exact dfit_res (g := w.heap.size + 2) hF hbw2 (by omega) (by omega) _ _ _
end Go.Proofs.YtobolgmjcebfmaaGreatDoor

/-
  Package round: quotient, Quot, by their contracts.
-/
namespace Go.Proofs.YtobolgmjcebfmaaGreatDoor
open Go Go.RowKit Go.Proofs.YtobolgmjcebfmaaGreatDoor.M
set_option linter.unusedSimpArgs false
set_option linter.unusedVariables false

set_option maxRecDepth 100000 in
set_option maxHeartbeats 1000000 in
theorem scaled_high (ao : Option Addr) (n ca : Nat) (a : Nat → Int) (k : Nat) (w : World) (ha : Row w ao n ca a) (na : Nrm a n) (hn : n ≤ 5000) (hk : k ≤ 1000000) :
    Calls Tryz.prog 80 #[.slice ao n ca, .int .i64 (k : Int)] w fun e w' => ∃ v, e = .returned (.tuple #[v, .bool false]) ∧ Ans w w' (val a n * 2 ^ k) v := by
  have CR : Hid (Calls Tryz.prog 97 #[.slice ao n ca, .int .i64 (k : Int)] w fun e w' => ∃ v, e = .returned v ∧ Ans w w' (val a n * 2 ^ k) v) := raise_any ao n ca k a w ha na.1 (by omega) hk
  generalize val a n * 2 ^ k = Q at CR ⊢
  go_enter Tryz.func80, Tryz.ntmps80
  go_wp2_with fail
  refine CR.out.mono ?_
  rintro _ w2 ⟨v, rfl, hA⟩
  have HA : Hid (Ans w w2 Q v) := hA
  obtain ⟨so, sn, sc, rfl⟩ := hA.num.shape
  clear hA CR
  go_wp2
  all_goals refine bodyPost_ret (v := .tuple #[.slice so sn sc, .bool false]) (by simp [results, Tryz.results80, go_sem]) rfl ⟨_, rfl, HA.out⟩
/-- A number times 2^k, as far as it is whole. -/
def scV (A k : Int) : Int := if 0 ≤ k then A * 2 ^ k.toNat else A / 2 ^ (-k).toNat
def scC (A k : Int) : Bool := if 0 ≤ k then false else decide (A % 2 ^ (-k).toNat ≠ 0)
theorem scaled_any (ao : Option Addr) (n ca : Nat) (a : Nat → Int) (k : Int) (w : World) (ha : Row w ao n ca a) (na : Nrm a n) (hn : n ≤ 5000) (hk : -1000000 ≤ k ∧ k ≤ 1000000) (h0 : k < 0 → 0 < val a n) (hT : Tab w) :
    Calls Tryz.prog 80 #[.slice ao n ca, .int .i64 k] w fun e w' => ∃ v, e = .returned (.tuple #[v, .bool (scC (val a n) k)]) ∧ Ans w w' (scV (val a n) k) v := by
  unfold scV scC
  by_cases h : 0 ≤ k
  · rw [if_pos h, if_pos h]
    have := scaled_high ao n ca a k.toNat w ha na hn (by omega)
    rwa [Int.toNat_of_nonneg h] at this
  · rw [if_neg h, if_neg h]
    have := scaled_low ao n ca a (-k).toNat w ha na hn (by omega) (by omega) (h0 (by omega)) hT
    rwa [Int.toNat_of_nonneg (by omega), Int.neg_neg] at this
theorem num_len0 {w : World} {so : Option Addr} {sn sc : Nat} {M : Int} (h : Num w (.slice so sn sc) M) : decide (M ≠ 0) = decide ((0 : Int) < (sn : Int)) := by
  obtain ⟨ao, n, ca, d, hs, hR, hN, hV⟩ := h
  simp only [Value.slice.injEq] at hs
  obtain ⟨rfl, rfl, rfl⟩ := hs
  by_cases h0 : sn = 0
  · subst h0
    rw [← hV]
    rfl
  · have := val_pos hN (by omega)
    rw [decide_eq_true (by omega), decide_eq_true (by omega)]
/-- The bits that a quotient's dividend is brought to. -/
def qK (A B : Int) : Int := 62 + (blen B : Int) - (blen A : Int)
theorem qK_small {A B : Int} (hA : 0 ≤ A) (hB : 0 < B) : 0 ≤ scV A (qK A B) ∧ scV A (qK A B) < B * 9223372036854775808 ∧ 0 ≤ scV A (qK A B) / B ∧ scV A (qK A B) / B < 9223372036854775808 := by
  have b1 := blen_lt A
  have b2 := blen_pos hB
  have hs : 0 ≤ scV A (qK A B) ∧ scV A (qK A B) < 2 ^ (62 + blen B) := by
    unfold scV qK
    by_cases h : 0 ≤ 62 + (blen B : Int) - (blen A : Int)
    · rw [if_pos h]
      have hp := two_pos (62 + (blen B : Int) - (blen A : Int)).toNat
      refine ⟨Int.mul_nonneg hA (by omega), ?_⟩
      have e : (2 : Int) ^ (62 + blen B) = 2 ^ blen A * 2 ^ (62 + (blen B : Int) - (blen A : Int)).toNat := by rw [← Int.pow_add]; congr 1; omega
      rw [e]
      exact Int.mul_lt_mul_of_pos_right b1 hp
    · rw [if_neg h]
      have hp := two_pos (-(62 + (blen B : Int) - (blen A : Int))).toNat
      refine ⟨Int.ediv_nonneg hA (by omega), ?_⟩
      apply Int.ediv_lt_of_lt_mul hp
      rw [← Int.pow_add]
      rw [show 62 + blen B + (-(62 + (blen B : Int) - (blen A : Int))).toNat = blen A by omega]
      exact b1
  have e2 : (2 : Int) ^ (62 + blen B) = 2 ^ (blen B - 1) * 9223372036854775808 := by
    rw [show (9223372036854775808 : Int) = 2 ^ 63 by decide, ← Int.pow_add]; congr 1; omega
  have h3 : (2 : Int) ^ (blen B - 1) * 9223372036854775808 ≤ B * 9223372036854775808 := Int.mul_le_mul_of_nonneg_right b2.2 (by decide)
  refine ⟨hs.1, by omega, Int.ediv_nonneg hs.1 (by omega), ?_⟩
  apply Int.ediv_lt_of_lt_mul hB
  rw [Int.mul_comm]
  omega
theorem cells4_set {a b g o : Nat} {v : Value} {x0 x1 x2 x3 : Value} {W : World} (ha : a ≠ g) (hb : b ≠ g) (h : W.cell? ⟨a, 0, none⟩ = some x0 ∧ W.cell? ⟨a, 2, none⟩ = some x1 ∧ W.cell? ⟨b, 0, none⟩ = some x2 ∧ W.cell? ⟨b, 2, none⟩ = some x3) :
    (W.setCell ⟨g, o, none⟩ v).cell? ⟨a, 0, none⟩ = some x0 ∧ (W.setCell ⟨g, o, none⟩ v).cell? ⟨a, 2, none⟩ = some x1 ∧ (W.setCell ⟨g, o, none⟩ v).cell? ⟨b, 0, none⟩ = some x2 ∧ (W.setCell ⟨g, o, none⟩ v).cell? ⟨b, 2, none⟩ = some x3 := by
  have hw : Wr g W (W.setCell ⟨g, o, none⟩ v) := (Wr.refl g W).setCell o v
  obtain ⟨a0, a1, a2, a3⟩ := h
  exact ⟨(hw.cell (World.block_lt_of_cell? W _ a0) ha).trans a0, (hw.cell (World.block_lt_of_cell? W _ a1) ha).trans a1, (hw.cell (World.block_lt_of_cell? W _ a2) hb).trans a2, (hw.cell (World.block_lt_of_cell? W _ a3) hb).trans a3⟩
theorem cells4_drew {a b : Nat} {x0 x1 x2 x3 : Value} {W : World} (h : W.cell? ⟨a, 0, none⟩ = some x0 ∧ W.cell? ⟨a, 2, none⟩ = some x1 ∧ W.cell? ⟨b, 0, none⟩ = some x2 ∧ W.cell? ⟨b, 2, none⟩ = some x3) :
    W.drew.cell? ⟨a, 0, none⟩ = some x0 ∧ W.drew.cell? ⟨a, 2, none⟩ = some x1 ∧ W.drew.cell? ⟨b, 0, none⟩ = some x2 ∧ W.drew.cell? ⟨b, 2, none⟩ = some x3 := h
theorem cells6_alloc {p B : Nat} {x0 x1 x2 x3 x4 x5 : Value} {W : World} (o : Obj) (h : p < B ∧ B ≤ W.heap.size ∧ W.cell? ⟨p, 0, none⟩ = some x0 ∧ W.cell? ⟨p, 1, none⟩ = some x1 ∧ W.cell? ⟨p, 2, none⟩ = some x2 ∧ W.cell? ⟨p, 3, none⟩ = some x3 ∧ W.cell? ⟨p, 4, none⟩ = some x4 ∧ W.cell? ⟨p, 5, none⟩ = some x5) :
    p < B ∧ B ≤ (W.alloc o).heap.size ∧ (W.alloc o).cell? ⟨p, 0, none⟩ = some x0 ∧ (W.alloc o).cell? ⟨p, 1, none⟩ = some x1 ∧ (W.alloc o).cell? ⟨p, 2, none⟩ = some x2 ∧ (W.alloc o).cell? ⟨p, 3, none⟩ = some x3 ∧ (W.alloc o).cell? ⟨p, 4, none⟩ = some x4 ∧ (W.alloc o).cell? ⟨p, 5, none⟩ = some x5 := by
  have hb := bel_alloc W o
  obtain ⟨h1, h2, a0, a1, a2, a3, a4, a5⟩ := h
  exact ⟨h1, Nat.le_trans h2 hb.size, cell_keeps a0 hb, cell_keeps a1 hb, cell_keeps a2 hb, cell_keeps a3 hb, cell_keeps a4 hb, cell_keeps a5 hb⟩
theorem cells6_set {p B g o : Nat} {v : Value} {x0 x1 x2 x3 x4 x5 : Value} {W : World} (hg : B ≤ g) (h : p < B ∧ B ≤ W.heap.size ∧ W.cell? ⟨p, 0, none⟩ = some x0 ∧ W.cell? ⟨p, 1, none⟩ = some x1 ∧ W.cell? ⟨p, 2, none⟩ = some x2 ∧ W.cell? ⟨p, 3, none⟩ = some x3 ∧ W.cell? ⟨p, 4, none⟩ = some x4 ∧ W.cell? ⟨p, 5, none⟩ = some x5) :
    p < B ∧ B ≤ (W.setCell ⟨g, o, none⟩ v).heap.size ∧ (W.setCell ⟨g, o, none⟩ v).cell? ⟨p, 0, none⟩ = some x0 ∧ (W.setCell ⟨g, o, none⟩ v).cell? ⟨p, 1, none⟩ = some x1 ∧ (W.setCell ⟨g, o, none⟩ v).cell? ⟨p, 2, none⟩ = some x2 ∧ (W.setCell ⟨g, o, none⟩ v).cell? ⟨p, 3, none⟩ = some x3 ∧ (W.setCell ⟨g, o, none⟩ v).cell? ⟨p, 4, none⟩ = some x4 ∧ (W.setCell ⟨g, o, none⟩ v).cell? ⟨p, 5, none⟩ = some x5 := by
  have hw : Wr g W (W.setCell ⟨g, o, none⟩ v) := (Wr.refl g W).setCell o v
  obtain ⟨h1, h2, a0, a1, a2, a3, a4, a5⟩ := h
  have hp : p < W.heap.size := by omega
  have hne : p ≠ g := by omega
  exact ⟨h1, Nat.le_trans h2 hw.size, (hw.cell hp hne).trans a0, (hw.cell hp hne).trans a1, (hw.cell hp hne).trans a2, (hw.cell hp hne).trans a3, (hw.cell hp hne).trans a4, (hw.cell hp hne).trans a5⟩
end Go.Proofs.YtobolgmjcebfmaaGreatDoor
