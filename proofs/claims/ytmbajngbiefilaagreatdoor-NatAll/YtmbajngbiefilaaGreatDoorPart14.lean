/-
  Parts of the proof, one behind another.
-/
import Derived.Test.YtmbajngbiefilaaGreatDoorPart13
import Derived.Test.YtmbajngbiefilaaGreatDoorPart6
import Derived.Test.YtmbajngbiefilaaGreatDoorPart11
import Derived.Shelf.Strings.Builder1
import Derived.Shelf.Strings.BuilderF
import Derived.Shelf.Strings.BuilderK
import Derived.Shelf.LaysM
import Derived.Shelf.Strconv.Itoa3
import Derived.Shelf.Strings.Repeat
import Derived.Test.YtmbajngbiefilaaGreatDoorProg
import Derived.Lib.LaidTab
import Derived.Laws.BytesArg
/-
  Package nat's split: the groups of nine decimal digits, by its contract.
-/
namespace Go.Proofs.YtmbajngbiefilaaGreatDoor
open Go Go.RowKit Go.Proofs.YtmbajngbiefilaaGreatDoor.M
set_option linter.unusedSimpArgs false
set_option linter.unusedVariables false

/-- 'append(xs, ys...)', as wpList_app, and where the new list lies. -/
theorem wpList_appAt {w : World} {ops : Array Oper} {rest : List Oper} {o : Oper} {a : Act} {Q : Exit → Act → World → Prop} (hgd : o.guard = none) (s x : Operand)
    (ho : o.op = .call { callee := .builtin .append, args := #[s, x], argTypes := #[23, 23] }) (B : Nat) (v : Value) (n : Nat) (d : Nat → Int) (hs : a.eval s = v) (hO : Out B w v n d)
    (g : Nat) (y : Int) (hx : a.eval x = .slice (some ⟨g, 0, none⟩) 1 1) (hR : Row w (some ⟨g, 0, none⟩) 1 1 (fun _ => y)) (hlen : n + 1 ≤ 1000000) (hB : B ≤ w.heap.size)
    (h : ∀ v' w', Out B w' v' (n + 1) (upd d n y) → w.grownBy w' v.ownBlock → (v'.ownBlock = v.ownBlock ∨ v'.ownBlock = some w.heap.size) → wpList Tryz.prog ops Q rest (a.put o.dst v') w') : wpList Tryz.prog ops Q (o :: rest) a w := by
  obtain ⟨i0, hi, hz0, hz1, hz2⟩ := info_parts info_int
  refine wpList_append_own_at w hgd s x 23 ho B 3 i0 (.int .i64 0) 1 8 Tryz.underlying23 hi hz0 hz1 hz2 rfl (by decide) v n (vals d n) hs hO ⟨g, 0, none⟩ 1 1 (vals (fun _ => y) 1) hx (by rw [vals_length]) ?_ (vals_one _ 1) (by unfold maxLen; omega) (by omega) hB ?_
  · intro j u hu
    have hj : j < 1 := by have := (List.getElem?_eq_some_iff.1 hu).1; rwa [vals_length] at this
    obtain ⟨b, off, hb, _, hc⟩ := hR.spot (by omega)
    simp only [Option.some.injEq, Addr.mk.injEq, and_true] at hb
    obtain ⟨rfl, rfl⟩ := hb
    rw [vals_get _ hj] at hu
    rw [add_none, hc j hj]; exact hu
  · intro v' w' h1 h2 _ h3
    rw [vals_cat] at h1
    exact h v' w' (Out.congr h1 (cat_upd d n y)) h2 h3
set_option maxHeartbeats 1000000 in
theorem shorten_wr (B : Nat) (ao : Option Addr) (n cap : Nat) (d : Nat → Int) (D : Int) (w : World) (h : Out B w (.slice ao n cap) n d) (hd : Dig d n) (hD0 : 0 < D) (hD1 : D < 1073741824) (hn : n ≤ 100000) (hB : B ≤ w.heap.size) :
    Calls Tryz.prog 80 #[.slice ao n cap, .int .i64 D] w fun e w' => ∃ left, e = .returned (.int .i64 left) ∧ Sht B w w' (.slice ao n cap) n d D left ∧ ∀ g, (Value.slice ao n cap).ownBlock = some g → Wr g w w' := by
  obtain ⟨ao', cap', hv, hR⟩ := h.row
  simp only [Value.slice.injEq, true_and] at hv
  obtain ⟨rfl, rfl⟩ := hv
  have hla := hR.le
  have hma := hR.max
  go_enter Tryz.func80, Tryz.ntmps80
  go_wp2
  go_loopw [5, 10] (fun c i wr => ∃ (k : Nat) (left : Int) (r : Nat → Int), k ≤ n ∧ i = .int .i64 k ∧ c = .int .i64 left ∧ 0 ≤ left ∧ left < D ∧ Out B wr (.slice ao n cap) n r ∧ Dig r n ∧ Hid (∀ i, i < n - k → r i = d i) ∧ Hid (val (fun i => d (n - k + i)) k = D * val (fun i => r (n - k + i)) k + left) ∧ Below B w wr ∧ Hid (∀ g, (Value.slice ao n cap).ownBlock = some g → Wr g w wr)) (fun _ i _ => n - (intOf i).toNat)
  case atStart => exact ⟨0, 0, d, Nat.zero_le _, rfl, rfl, by omega, by omega, h, hd, fun _ _ => rfl, by show _ = _; show (0 : Int) = D * 0 + 0; omega, Below.refl _ _, fun g _ => Wr.refl _ _⟩
  case round =>
    obtain ⟨k, left, r, hk, rfl, rfl, hl0, hl1, hO, hD, HS, HV, hbw, HW⟩ := hrel
    by_cases hlt : k < n
    · obtain ⟨m, hm⟩ : ∃ m, n = m + 1 + k := ⟨n - 1 - k, by omega⟩
      have HM : Hid (n = m + 1 + k) := hm
      have hm1 : n ≤ m + 1 + k := by omega
      have hm2 : m + 1 + k ≤ n := by omega
      have hz : ((n : Int) - 1 - k).toNat = m := by omega
      have hz2 : n - 1 - k = m := by omega
      clear hm
      obtain ⟨g, rfl, hg, hgl⟩ := hO.spot (by omega)
      have c1 := hO.cell (show m < n by omega)
      have f1 := hO.frozen m
      have dm := hD m (by omega)
      have hor := or_30 dm hl0 (by omega)
      have HR : Hid (r m = d m) := HS.out m (by omega)
      have hq0 : 0 ≤ left * 1073741824 + r m := by omega
      have hmod0 := Int.emod_nonneg (left * 1073741824 + r m) (show D ≠ 0 by omega)
      have hmod1 := Int.emod_lt_of_pos (left * 1073741824 + r m) hD0
      have hdiv0 : 0 ≤ (left * 1073741824 + r m) / D := Int.ediv_nonneg hq0 (by omega)
      have hdiv1 : (left * 1073741824 + r m) / D < 1073741824 := (Int.ediv_lt_iff_lt_mul hD0).2 (by
        have : (left + 1) * 1073741824 ≤ D * 1073741824 := Int.mul_le_mul_of_nonneg_right (by omega) (by omega)
        rw [Int.mul_comm 1073741824 D]; omega)
      have HVV := HV.out
      rw [show n - k = m + 1 by omega] at HVV
      have hs := short_step HVV
      rw [← HR.out] at hs
      have HST := (show Hid (_ = _) from hs)
      clear hs HVV
      go_wp2
      go_roundw
      case rel => exact ⟨k + 1, (left * 1073741824 + r m) % D, upd r m ((left * 1073741824 + r m) / D), by omega, by go_num, rfl, hmod0, hmod1, hO.store (by omega) _, hD.upd _ ⟨hdiv0, hdiv1⟩, fun i hi => by rw [upd_other r _ (by omega)]; exact HS.out i (by omega), by show _ = _; rw [show n - (k + 1) = m by omega]; exact HST.out, hbw.setCell hg _, fun g' hg' => by
          have hw := HW.out g' hg'
          simp only [Value.ownBlock, Option.some.injEq] at hg'
          subst hg'
          exact hw.setCell _ _⟩
      case measure => simp [intOf]; omega
    · obtain rfl : k = n := by omega
      go_wp2
      go_ret
      have hv := HV.out
      rw [Nat.sub_self] at hv
      simp only [Nat.zero_add] at hv
      exact ⟨left, rfl, ⟨r, hO, hD, hv, hl0, hl1, hbw⟩, HW.out⟩
end Go.Proofs.YtmbajngbiefilaaGreatDoor

/-
  Package nat's split: the groups of nine decimal digits, by its contract.
-/
namespace Go.Proofs.YtmbajngbiefilaaGreatDoor
open Go Go.RowKit Go.Proofs.YtmbajngbiefilaaGreatDoor.M
set_option linter.unusedSimpArgs false
set_option linter.unusedVariables false

/-- The value of groups, the lowest first. -/
def gval (q : Nat → Int) : Nat → Int | 0 => 0 | k + 1 => gval q k + q k * 1000000000 ^ k
theorem gval_congr {q r : Nat → Int} : ∀ {k : Nat}, (∀ i, i < k → q i = r i) → gval q k = gval r k
  | 0, _ => rfl
  | k + 1, h => by show gval q k + q k * _ = gval r k + r k * _; rw [gval_congr fun i hi => h i (by omega), h k (by omega)]
theorem gval_upd (q : Nat → Int) (k : Nat) (x : Int) : gval (upd q k x) (k + 1) = gval q k + x * 1000000000 ^ k := by
  show gval (upd q k x) k + upd q k x k * _ = _
  rw [gval_congr fun i hi => upd_other q x (by omega), upd_same]
/-- Groups of nine decimal digits each. -/
def Grp (q : Nat → Int) (k : Nat) : Prop := ∀ i, i < k → 0 ≤ q i ∧ q i < 1000000000
theorem g_pos (k : Nat) : (0 : Int) < 1000000000 ^ k := Int.pow_pos (by decide)
theorem g_two : ∀ k : Nat, (2 : Int) ^ (29 * k) ≤ 1000000000 ^ k
  | 0 => Int.le_refl _
  | k + 1 => by
    have h := g_two k
    rw [show 29 * (k + 1) = 29 * k + 29 by omega, Int.pow_add, Int.pow_succ 1000000000 k, show (2 : Int) ^ 29 = 536870912 from rfl]
    have h3 := two_pos (29 * k)
    omega
theorem gval_nonneg {q : Nat → Int} : ∀ {k : Nat}, Grp q k → 0 ≤ gval q k
  | 0, _ => Int.le_refl _
  | k + 1, h => by
    have h1 := gval_nonneg (k := k) fun i hi => h i (by omega)
    have h2 := (h k (by omega)).1
    show 0 ≤ gval q k + q k * _
    have := Int.mul_nonneg h2 (Int.le_of_lt (g_pos k))
    omega
theorem groups_few {A V : Int} {q : Nat → Int} {k : Nat} (hA : A < P 2000) (h : A = V * 1000000000 ^ k + gval q k) (hV : 0 < V) (hq : Grp q k) : k ≤ 3000 := by
  by_cases hk : k ≤ 3000
  · exact hk
  · have h1 := g_two k
    have h2 := gval_nonneg hq
    have h3 : (1 : Int) * 1000000000 ^ k ≤ V * 1000000000 ^ k := Int.mul_le_mul_of_nonneg_right (by omega) (Int.le_of_lt (g_pos k))
    rw [P2000_two] at hA
    have h4 : (2 : Int) ^ 60000 ≤ 2 ^ (29 * k) := two_le (by omega)
    have h5 : (2 : Int) ^ 60000 ≤ A := by rw [h]; omega
    exact absurd hA (Int.not_lt.2 h5)
/-- What split answers: groups of A, the top one not 0 unless it is alone. -/
def Spl (w w' : World) (v : Value) (A : Int) : Prop := ∃ m q, Out w.heap.size w' v m q ∧ 1 ≤ m ∧ m ≤ 3001 ∧ Grp q m ∧ gval q m = A ∧ (m = 1 ∨ q (m - 1) ≠ 0) ∧ Below w.heap.size w w'
structure SplS (w wr : World) (A : Int) (gv rv : Value) (k t : Nat) (q d : Nat → Int) : Prop where
  og : Out w.heap.size wr gv k q
  od : Out w.heap.size wr rv t d
  ap : ∀ g, rv.ownBlock = some g → gv.ownBlock ≠ some g
  nd : Nrm d t
  gq : Grp q k
  eq : A = val d t * 1000000000 ^ k + gval q k
  top : 0 < k → t = 0 → q (k - 1) ≠ 0
  below : Below w.heap.size w wr
theorem SplS.step {w wr w2 w3 : World} {A left : Int} {gv gv' : Value} {g' k t rc t' : Nat} {q d r : Nat → Int} {o : Obj} (h : SplS w wr A gv (.slice (some ⟨g', 0, none⟩) t rc) k t q d) (hV : 0 < val d t) (hWr : Wr g' wr w2)
    (hO2 : Out w.heap.size w2 (.slice (some ⟨g', 0, none⟩) t rc) t r) (hD2 : Dig r t) (hV2 : val d t = 1000000000 * val r t + left) (hl0 : 0 ≤ left) (hl1 : left < 1000000000) (hb2 : Below w.heap.size wr w2)
    (hO3 : Out w.heap.size w3 gv' (k + 1) (upd q k left)) (hg3 : (w2.alloc o).grownBy w3 gv.ownBlock) (hat : gv'.ownBlock = gv.ownBlock ∨ gv'.ownBlock = some (w2.alloc o).heap.size) (ht : t' ≤ t) (htop : Top r t') (hz : ∀ i, t' ≤ i → i < t → r i = 0) :
    SplS w w3 A gv' (cutV (some ⟨g', 0, none⟩) t' rc) (k + 1) t' (upd q k left) r ∧ (val r t').toNat < (val d t).toNat := by
  obtain ⟨hN, hv⟩ := nrm_of_top hD2 ht htop hz
  have r0 := val_nonneg hN.1
  have hg2 := (hO2.ge (g := g') rfl).2
  have hsz : (w2.alloc o).heap.size = w2.heap.size + 1 := by simp
  have hne : gv.ownBlock ≠ some g' := h.ap g' rfl
  have hO2' : Out w.heap.size w3 (.slice (some ⟨g', 0, none⟩) t rc) t r := hO2.of_block fun g hg => by
    have e : g' = g := by simpa [Value.ownBlock] using hg
    subst e
    exact (hg3.block g' (by omega) (fun e => hne e.symm)).trans (Below.heap_alloc _ _ _ hg2)
  refine ⟨⟨hO3, hO2'.cutV ht, fun g hg hg' => ?_, hN, fun i hi => ?_, ?_, fun _ h0 => ?_, ?_⟩, by omega⟩
  · have e : g' = g := by
      unfold cutV at hg
      split at hg
      · simp [Value.ownBlock] at hg
      · simpa [Value.ownBlock] using hg
    subst e
    rcases hat with q | q
    · rw [q] at hg'; exact hne hg'
    · rw [q] at hg'
      simp only [Option.some.injEq] at hg'
      omega
  · by_cases e : i = k
    · rw [e, upd_same]; exact ⟨hl0, hl1⟩
    · rw [upd_other q _ e]; exact h.gq i (by omega)
  · rw [gval_upd, h.eq, hV2, hv, Int.pow_succ]; grind
  · subst h0
    have : val r 0 = 0 := rfl
    rw [Nat.add_sub_cancel, upd_same]
    omega
  · exact (h.below.trans hb2).trans ((Below.refl _ w2).alloc (h.below.trans hb2).size o |>.grown hg3 (by have := (h.below.trans hb2).size; omega) (own_ge h.og))
set_option maxRecDepth 100000 in
set_option maxHeartbeats 2000000 in
theorem split_any {w : World} {x : Value} {A : Int} (hx : Num w x A) (hA : A < P 2000) :
    Calls Tryz.prog 58 #[x] w fun e w' => ∃ v, e = .returned v ∧ Spl w w' v A := by
  obtain ⟨ao, n, ca, rfl⟩ := hx.shape
  have hn := hx.len hA
  have A0 := hx.nonneg
  obtain ⟨ao', n', ca', a, e, hR, na, rfl⟩ := hx
  simp only [Value.slice.injEq] at e
  obtain ⟨rfl, rfl, rfl⟩ := e
  have HA : Hid (val a n < P 2000 ∧ 0 ≤ val a n) := ⟨hA, A0⟩
  clear hA A0
  go_enter Tryz.func58, Tryz.ntmps58
  go_wp2_with fail
  refine (clone_any _ _ _ _ _ hR (by omega)).mono ?_
  rintro e w1 ⟨v1, rfl, hO1, hb1⟩
  have HS1 : Hid (SplS w w1 (val a n) (.slice none 0 0) v1 0 n (fun _ => 0) a) := ⟨Out.nil _ _ _, hO1, fun g _ h => by simp [Value.ownBlock] at h, na, fun i hi => by omega, by show _ = val a n * 1 + 0; omega, fun h => by omega, hb1⟩
  obtain ⟨o1, c1, rfl, _⟩ := hO1.row
  clear hO1 hb1
  go_wp2
  go_loopg [3, 4] ((val a n).toNat) (fun g gv rv wr => ∃ k t q d, Hid (SplS w wr (val a n) gv rv k t q d) ∧ Hid (g = (val d t).toNat))
  case atStart => exact ⟨0, n, _, a, HS1.out, rfl⟩
  case round =>
    clear HS1
    obtain ⟨k, t, q, d, HS, HGK⟩ := hrel
    obtain ⟨go, gc, rfl, rg⟩ := HS.out.og.row
    obtain ⟨ro, rc, rfl, rr⟩ := HS.out.od.row
    have gl := rg.le
    have gm := rg.max
    have rl := rr.le
    have rm := rr.max
    by_cases h0 : 0 < t
    · have HVP : Hid (0 < val d t) := val_pos HS.out.nd h0
      have hk3 : k ≤ 3000 := groups_few HA.out.1 HS.out.eq HVP.out HS.out.gq
      have htl : t ≤ 2000 := by
        refine (rr.num0 HS.out.nd).len (Int.lt_of_le_of_lt ?_ HA.out.1)
        have h1 := HS.out.eq
        have h2 := gval_nonneg HS.out.gq
        have h3 : val d t * 1 ≤ val d t * 1000000000 ^ k := Int.mul_le_mul_of_nonneg_left (by have := g_pos k; omega) (Int.le_of_lt HVP.out)
        omega
      obtain ⟨g', hro, hg1, hg2⟩ := HS.out.od.spot h0
      subst hro
      have HG' : Hid (w.heap.size ≤ g' ∧ g' < wr.heap.size) := ⟨hg1, hg2⟩
      clear hg1 hg2 rg rr
      go_wp2_with fail
      refine (shorten_wr w.heap.size _ _ _ d 1000000000 _ HS.out.od HS.out.nd.1 (by decide) (by decide) (by omega) HS.out.below.size).mono ?_
      rintro e w2 ⟨left, rfl, ⟨r, hO2, hD2, hV2, hl0, hl1, hb2⟩, hWr⟩
      have HWr : Hid (Wr g' wr w2) := hWr g' rfl
      have HO2 : Hid (Out w.heap.size w2 (.slice (some ⟨g', 0, none⟩) t rc) t r ∧ Dig r t ∧ val d t = 1000000000 * val r t + left ∧ Below w.heap.size wr w2) := ⟨hO2, hD2, hV2, hb2⟩
      have HG2 : Hid (Out w.heap.size w2 (.slice go k gc) k q) := HS.out.og.of_block fun g hg => HWr.out.block g (HS.out.og.ge hg).2 (fun e => HS.out.ap g' rfl (by rw [← e]; exact hg))
      have HZ2 : Hid (w.heap.size ≤ w2.heap.size) := (HS.out.below.trans hb2).size
      clear hO2 hD2 hV2 hb2 hWr
      go_wp2_with (at_builtin; refine wpList_appAt rfl _ _ rfl w.heap.size _ k q rfl (HG2.out.stays (bel_alloc _ _)) _ left rfl (row1 _ _ rfl) (by omega) (by have := HZ2.out; simp; omega) ?_; intro v3 w3 hO3 hg3 hat3)
      have HO3 : Hid (Out w.heap.size w3 v3 (k + 1) (upd q k left)) := hO3
      have HST := fun (t' : Nat) (ht : t' ≤ t) (htop : Top r t') (hz : ∀ i, t' ≤ i → i < t → r i = 0) => HS.out.step HVP.out HWr.out HO2.out.1 HO2.out.2.1 HO2.out.2.2.1 hl0 hl1 HO2.out.2.2.2 hO3 hg3 hat3 ht htop hz
      have HST' : Hid _ := HST
      obtain ⟨o3, c3, rfl, _⟩ := hO3.row
      have hsz : (w2.alloc (.cells #[.int .i64 left] 3)).heap.size = w2.heap.size + 1 := by simp
      have HR3 : Hid (Row w3 (some ⟨g', 0, none⟩) t rc r) := by
        have hg2 := (HO2.out.1.ge (g := g') rfl).2
        obtain ⟨_, _, e, hRR⟩ := (HO2.out.1.of_block (w' := w3) fun g hg => by
          have e : g' = g := by simpa [Value.ownBlock] using hg
          subst e
          exact (hg3.block g' (by omega) (fun e => HS.out.ap g' rfl e.symm)).trans (Below.heap_alloc _ _ _ hg2)).row
        simp only [Value.slice.injEq] at e
        obtain ⟨rfl, _, rfl⟩ := e
        exact hRR
      clear hO3 hg3 hat3 HST hsz
      refine (trim_any _ _ _ _ _ HR3.out).mono ?_
      rintro e w4 ⟨t', ht, htop, hz, rfl, hw⟩
      replace hw := hw.symm
      subst hw
      obtain ⟨hs4, hm4⟩ := HST'.out t' ht htop hz
      have HS4 : Hid (SplS w w3 (val a n) (.slice o3 (k + 1) c3) (cutV (some ⟨g', 0, none⟩) t' rc) (k + 1) t' (upd q k left) r) := hs4
      have HM4 : Hid ((val r t').toNat < (val d t).toNat) := hm4
      obtain ⟨o4, c4, e4, _⟩ := hs4.od.row
      clear hs4 hm4 hz htop HST'
      go_wp2
      go_roundg ((val r t').toNat)
      case measure => rw [HGK.out]; exact HM4.out
      case rel =>
        have h4 := HS4.out
        rw [e4] at h4
        exact ⟨_, _, _, _, h4, rfl⟩
    · obtain rfl : t = 0 := by omega
      have HE : Hid (gval q k = val a n) := by
        show _ = _
        rw [HS.out.eq, show val d 0 = 0 from rfl, Int.zero_mul, Int.zero_add]
      by_cases hk0 : k = 0
      · subst hk0
        have HZ : Hid (val a n = 0) := by show _ = _; rw [← HE.out]; rfl
        go_wp2
        go_ret
        exact ⟨_, rfl, 1, fun _ => 0, (Blk.new wr #[.int .i64 0] (fun _ => 0) (fun i hi => by simp at hi; subst hi; rfl)).out HS.out.below.size (Nat.le_refl _) (show 1 ≤ 9223372036854775807 by decide), by omega, by omega, fun i _ => by show (0 : Int) ≤ 0 ∧ (0 : Int) < 1000000000; omega, by rw [HZ.out]; rfl, .inl rfl, HS.out.below.alloc HS.out.below.size _⟩
      · have ek : ((k : Int) == 0) = false := beq_eq_false_iff_ne.2 (by omega)
        have hk3 : k ≤ 3001 := by
          obtain ⟨j, rfl⟩ : ∃ j, k = j + 1 := ⟨k - 1, by omega⟩
          have h1 := HS.out.top (by omega) rfl
          rw [Nat.add_sub_cancel] at h1
          have h2 := HS.out.gq j (by omega)
          have h3 := groups_few (V := q j) (q := q) (k := j) HA.out.1 (by rw [← HE.out]; show gval q j + q j * _ = _; omega) (by omega) (fun i hi => HS.out.gq i (by omega))
          omega
        go_wp2
        go_ret
        exact ⟨_, rfl, k, q, HS.out.og, by omega, hk3, HS.out.gq, HE.out, .inr (HS.out.top (by omega) rfl), HS.out.below⟩
end Go.Proofs.YtmbajngbiefilaaGreatDoor

/-
  The library's contracts that package nat's Text goes by: strconv.Itoa, strings.Repeat, strings.Builder, laid at this program (the plain text that the library's own command writes).
-/
namespace Go.Proofs
open Go.Shelf
def Tryz.lays169_ren : Go.Shelf.Ren := ⟨fun | 169 => 62 | n => n, fun | 70 => 64 | 9 => 9 | 0 => 0 | 72 => 67 | 37 => 65 | 127 => 90 | 3 => 3 | 5 => 5 | n => n, fun | n => n⟩
theorem Tryz.lays169 : Go.Proofs.Lays.n169 Tryz.prog Tryz.lays169_ren := {
  mixed := by kernel_rfl
  f169 := Tryz.func62.trans (congrArg some (by kernel_rfl))
  t0 := Tryz.underlying0
  a0 := Tryz.isAgg0
  z0 := Tryz.sizeOf0
  v0 := Tryz.zeroValue0
  t3 := Tryz.underlying3
  a3 := Tryz.isAgg3
  z3 := Tryz.sizeOf3
  v3 := Tryz.zeroValue3
  t9 := Tryz.underlying9
  a9 := Tryz.isAgg9
  z9 := Tryz.sizeOf9
  v9 := Tryz.zeroValue9
  t37 := Tryz.underlying65
  a37 := Tryz.isAgg65
  z37 := Tryz.sizeOf65
  v37 := Tryz.zeroValue65
  t70 := Tryz.underlying64
  a70 := Tryz.isAgg64
  z70 := Tryz.sizeOf64
  v70 := Tryz.zeroValue64
  t72 := Tryz.underlying67
  a72 := Tryz.isAgg67
  z72 := Tryz.sizeOf67
  v72 := Tryz.zeroValue67
  t127 := Tryz.underlying90
  a127 := Tryz.isAgg90
  z127 := Tryz.sizeOf90
  v127 := Tryz.zeroValue90 }
theorem Tryz.Builder_Extra_169 : Builder.Extra Tryz.prog Tryz.lays169_ren := {
  sizeBuilder := by kernel_rfl
  liesBuilder := by kernel_rfl
  t5 := Tryz.underlying5
  a5 := Tryz.isAgg5
  z5 := Tryz.sizeOf5
  v5 := Tryz.zeroValue5
  infoByte := by kernel_rfl
  cellsByte := by kernel_rfl
  sizeByte := by kernel_rfl
  neB5 := by decide }
open Go.RowKit in
theorem Tryz.Builder_String_any_k (B b : Nat) (l : List UInt8) (w : World) (h : Lib.IsBuilderF 67 5 B b (Lib.byteCells l) w) (hBw : B ≤ w.heap.size) :
    Calls Tryz.prog 62 #[.pointer (some ⟨b, 0, none⟩)] w fun e w' => e = .returned (.string ⟨l.toArray⟩) ∧ (Lib.IsBuilderF 67 5 B b (Lib.byteCells l) w' ∧ Below B w w' ∧ Lib.OthersKept 5 (some b) w w') := Any.Builder_String_any_k Tryz.lays169 Tryz.Builder_Extra_169 B b l w h hBw
def Tryz.laysM171_ren : Go.Shelf.Ren := ⟨fun | 171 => 59 | 243 => 81 | 246 => 99 | 283 => 110 | 284 => 111 | 285 => 112 | 286 => 113 | 129 => 98 | 317 => 115 | 318 => 116 | 319 => 117 | 320 => 87 | 337 => 105 | 338 => 106 | n => n, fun | 3 => 3 | 9 => 9 | 2 => 2 | 4 => 4 | 171 => 112 | 0 => 0 | 53 => 102 | 37 => 65 | 5 => 5 | 173 => 114 | 212 => 120 | 51 => 100 | 20 => 20 | 213 => 121 | 46 => 50 | 232 => 117 | 233 => 118 | n => n, fun | 17 => 2 | 18 => 0 | 19 => 1 | n => n⟩
theorem Tryz.laysM171 : Go.Proofs.LaysM.n171 Tryz.prog Tryz.laysM171_ren := {
  mixed := by kernel_rfl
  f129 := Tryz.func98.trans (congrArg some (by kernel_rfl))
  f171 := Tryz.func59.trans (congrArg some (by kernel_rfl))
  f243 := Tryz.func81.trans (congrArg some (by kernel_rfl))
  f246 := Tryz.func99.trans (congrArg some (by kernel_rfl))
  f283 := Tryz.func110.trans (congrArg some (by kernel_rfl))
  f284 := Tryz.func111.trans (congrArg some (by kernel_rfl))
  f285 := Tryz.func112.trans (congrArg some (by kernel_rfl))
  f286 := Tryz.func113.trans (congrArg some (by kernel_rfl))
  f317 := Tryz.func115.trans (congrArg some (by kernel_rfl))
  f318 := Tryz.func116.trans (congrArg some (by kernel_rfl))
  f319 := Tryz.func117.trans (congrArg some (by kernel_rfl))
  f320 := Tryz.func87.trans (congrArg some (by kernel_rfl))
  f337 := Tryz.func105.trans (congrArg some (by kernel_rfl))
  f338 := Tryz.func106.trans (congrArg some (by kernel_rfl))
  t0 := Tryz.underlying0
  a0 := Tryz.isAgg0
  z0 := Tryz.sizeOf0
  v0 := Tryz.zeroValue0
  t2 := Tryz.underlying2
  a2 := Tryz.isAgg2
  z2 := Tryz.sizeOf2
  v2 := Tryz.zeroValue2
  t3 := Tryz.underlying3
  a3 := Tryz.isAgg3
  z3 := Tryz.sizeOf3
  v3 := Tryz.zeroValue3
  t4 := Tryz.underlying4
  a4 := Tryz.isAgg4
  z4 := Tryz.sizeOf4
  v4 := Tryz.zeroValue4
  t5 := Tryz.underlying5
  a5 := Tryz.isAgg5
  z5 := Tryz.sizeOf5
  v5 := Tryz.zeroValue5
  t9 := Tryz.underlying9
  a9 := Tryz.isAgg9
  z9 := Tryz.sizeOf9
  v9 := Tryz.zeroValue9
  t20 := Tryz.underlying20
  a20 := Tryz.isAgg20
  z20 := Tryz.sizeOf20
  v20 := Tryz.zeroValue20
  t37 := Tryz.underlying65
  a37 := Tryz.isAgg65
  z37 := Tryz.sizeOf65
  v37 := Tryz.zeroValue65
  t46 := Tryz.underlying50
  a46 := Tryz.isAgg50
  z46 := Tryz.sizeOf50
  v46 := Tryz.zeroValue50
  t51 := Tryz.underlying100
  a51 := Tryz.isAgg100
  z51 := Tryz.sizeOf100
  v51 := Tryz.zeroValue100
  t53 := Tryz.underlying102
  a53 := Tryz.isAgg102
  z53 := Tryz.sizeOf102
  v53 := Tryz.zeroValue102
  t171 := Tryz.underlying112
  a171 := Tryz.isAgg112
  z171 := Tryz.sizeOf112
  v171 := Tryz.zeroValue112
  t173 := Tryz.underlying114
  a173 := Tryz.isAgg114
  z173 := Tryz.sizeOf114
  v173 := Tryz.zeroValue114
  t212 := Tryz.underlying120
  a212 := Tryz.isAgg120
  z212 := Tryz.sizeOf120
  v212 := Tryz.zeroValue120
  t213 := Tryz.underlying121
  a213 := Tryz.isAgg121
  z213 := Tryz.sizeOf121
  t232 := Tryz.underlying117
  a232 := Tryz.isAgg117
  z232 := Tryz.sizeOf117
  v232 := Tryz.zeroValue117
  t233 := Tryz.underlying118
  a233 := Tryz.isAgg118
  z233 := Tryz.sizeOf118
  v233 := Tryz.zeroValue118
  g17 := by kernel_rfl
  g18 := by kernel_rfl
  g19 := by kernel_rfl
  i0 := by kernel_rfl
  i2 := by kernel_rfl
  i3 := by kernel_rfl
  i4 := by kernel_rfl
  i5 := by kernel_rfl
  i9 := by kernel_rfl
  i20 := by kernel_rfl
  i37 := by kernel_rfl
  i46 := by kernel_rfl
  i51 := by kernel_rfl
  i53 := by kernel_rfl
  i171 := by kernel_rfl
  i173 := by kernel_rfl
  i212 := by kernel_rfl
  i232 := by kernel_rfl
  i233 := by kernel_rfl
  m17 := by kernel_rfl
  m18 := by kernel_rfl
  m19 := by kernel_rfl }
open Go.RowKit Go.Sort Go.Lib in
theorem Tryz.strconv_Itoa (n : Int) (h0 : -9223372036854775808 ≤ n) (h1 : n ≤ 9223372036854775807) (w : World) (htab : Lib.TabIs Tryz.prog w "internal/strconv.uint64pow10" .u64 Lib.pow10Tab) :
    Calls Tryz.prog 59 #[.int .i64 n] w fun e w' => e = .returned (.string ⟨(Lib.itoa n).toArray⟩) ∧ ∃ k os, w' = grow (w.drewN k) os := Any.strconv_Itoa Tryz.laysM171 n h0 h1 w htab
def Tryz.lays105_ren : Go.Shelf.Ren := ⟨fun | 105 => 61 | 212 => 83 | 99 => 84 | 165 => 85 | 166 => 60 | 170 => 86 | 169 => 62 | 263 => 101 | 264 => 102 | 206 => 103 | 240 => 82 | 241 => 104 | 276 => 100 | 277 => 114 | n => n, fun | 9 => 9 | 3 => 3 | 4 => 4 | 20 => 20 | 0 => 0 | 46 => 50 | 109 => 85 | 5 => 5 | 72 => 67 | 76 => 71 | 51 => 100 | 146 => 106 | 53 => 102 | 148 => 108 | 70 => 64 | 37 => 65 | 75 => 70 | 127 => 90 | 164 => 104 | 80 => 74 | n => n, fun | n => n⟩
theorem Tryz.lays105 : Go.Proofs.Lays.n105 Tryz.prog Tryz.lays105_ren := {
  mixed := by kernel_rfl
  f99 := Tryz.func84.trans (congrArg some (by kernel_rfl))
  f105 := Tryz.func61.trans (congrArg some (by kernel_rfl))
  f165 := Tryz.func85.trans (congrArg some (by kernel_rfl))
  f166 := Tryz.func60.trans (congrArg some (by kernel_rfl))
  f169 := Tryz.func62.trans (congrArg some (by kernel_rfl))
  f170 := Tryz.func86.trans (congrArg some (by kernel_rfl))
  f206 := Tryz.func103.trans (congrArg some (by kernel_rfl))
  f212 := Tryz.func83.trans (congrArg some (by kernel_rfl))
  f240 := Tryz.func82.trans (congrArg some (by kernel_rfl))
  f241 := Tryz.func104.trans (congrArg some (by kernel_rfl))
  f263 := Tryz.func101.trans (congrArg some (by kernel_rfl))
  f264 := Tryz.func102.trans (congrArg some (by kernel_rfl))
  f276 := Tryz.func100.trans (congrArg some (by kernel_rfl))
  f277 := Tryz.func114.trans (congrArg some (by kernel_rfl))
  t0 := Tryz.underlying0
  a0 := Tryz.isAgg0
  z0 := Tryz.sizeOf0
  v0 := Tryz.zeroValue0
  t3 := Tryz.underlying3
  a3 := Tryz.isAgg3
  z3 := Tryz.sizeOf3
  v3 := Tryz.zeroValue3
  t4 := Tryz.underlying4
  a4 := Tryz.isAgg4
  z4 := Tryz.sizeOf4
  v4 := Tryz.zeroValue4
  t5 := Tryz.underlying5
  a5 := Tryz.isAgg5
  z5 := Tryz.sizeOf5
  v5 := Tryz.zeroValue5
  t9 := Tryz.underlying9
  a9 := Tryz.isAgg9
  z9 := Tryz.sizeOf9
  v9 := Tryz.zeroValue9
  t20 := Tryz.underlying20
  a20 := Tryz.isAgg20
  z20 := Tryz.sizeOf20
  v20 := Tryz.zeroValue20
  t37 := Tryz.underlying65
  a37 := Tryz.isAgg65
  z37 := Tryz.sizeOf65
  v37 := Tryz.zeroValue65
  t46 := Tryz.underlying50
  a46 := Tryz.isAgg50
  z46 := Tryz.sizeOf50
  v46 := Tryz.zeroValue50
  t51 := Tryz.underlying100
  a51 := Tryz.isAgg100
  z51 := Tryz.sizeOf100
  v51 := Tryz.zeroValue100
  t53 := Tryz.underlying102
  a53 := Tryz.isAgg102
  z53 := Tryz.sizeOf102
  v53 := Tryz.zeroValue102
  t70 := Tryz.underlying64
  a70 := Tryz.isAgg64
  z70 := Tryz.sizeOf64
  v70 := Tryz.zeroValue64
  t72 := Tryz.underlying67
  a72 := Tryz.isAgg67
  z72 := Tryz.sizeOf67
  v72 := Tryz.zeroValue67
  t75 := Tryz.underlying70
  a75 := Tryz.isAgg70
  z75 := Tryz.sizeOf70
  v75 := Tryz.zeroValue70
  t76 := Tryz.underlying71
  a76 := Tryz.isAgg71
  z76 := Tryz.sizeOf71
  v76 := Tryz.zeroValue71
  t109 := Tryz.underlying85
  a109 := Tryz.isAgg85
  z109 := Tryz.sizeOf85
  v109 := Tryz.zeroValue85
  t127 := Tryz.underlying90
  a127 := Tryz.isAgg90
  z127 := Tryz.sizeOf90
  v127 := Tryz.zeroValue90
  t146 := Tryz.underlying106
  a146 := Tryz.isAgg106
  z146 := Tryz.sizeOf106
  v146 := Tryz.zeroValue106
  t148 := Tryz.underlying108
  a148 := Tryz.isAgg108
  z148 := Tryz.sizeOf108
  v148 := Tryz.zeroValue108
  t164 := Tryz.underlying104
  a164 := Tryz.isAgg104
  z164 := Tryz.sizeOf104
  v164 := Tryz.zeroValue104 }
theorem Tryz.Builder_Extra_105 : Builder.Extra Tryz.prog Tryz.lays105_ren := {
  sizeBuilder := by kernel_rfl
  liesBuilder := by kernel_rfl
  t5 := Tryz.underlying5
  a5 := Tryz.isAgg5
  z5 := Tryz.sizeOf5
  v5 := Tryz.zeroValue5
  infoByte := by kernel_rfl
  cellsByte := by kernel_rfl
  sizeByte := by kernel_rfl
  neB5 := by decide }
open Go.RowKit Go.Lib in
theorem Tryz.strings_Repeat (s : ByteArray) (c : Nat) (w : World) (hc : c ≤ 9223372036854775807) (hlen : s.size * c ≤ 140737488355328) :
    Calls Tryz.prog 61 #[.string s, .int .i64 c] w fun e w' => e = .returned (.string ⟨(Lib.repeatL s.data.toList c).toArray⟩) ∧ Below w.heap.size w w' := Any.strings_Repeat Tryz.lays105 Tryz.Builder_Extra_105 s c w hc hlen

open Go.RowKit in
theorem Tryz.Builder_WriteString_k (B b : Nat) (bs : List Value) (s : ByteArray) (w : World) (h : Lib.IsBuilderF 67 5 B b bs w) (hlen : bs.length + s.size ≤ 140737488355328) (hBw : B ≤ w.heap.size) :
    Calls Tryz.prog 60 #[.pointer (some ⟨b, 0, none⟩), .string s] w fun e w' => e = .returned (.tuple #[.int .i64 s.size, .nilIface]) ∧ (Lib.BuilderAtF 67 5 B b (.pointer (some ⟨b, 0, none⟩)) (bs ++ Lib.strCells s) w' ∧ Below B w w' ∧ Lib.OthersKept 5 (some b) w w') :=
  Any.Builder_WriteString_k { Tryz.lays105 with } Tryz.Builder_Extra_105 B b bs s w h hlen hBw
end Go.Proofs

/-
  Package nat's Text: the decimal numeral, by its contract.
-/
namespace Go.Proofs.YtmbajngbiefilaaGreatDoor
open Go Go.RowKit Go.Proofs.YtmbajngbiefilaaGreatDoor.M
set_option linter.unusedSimpArgs false
set_option linter.unusedVariables false

/-- The library's table of powers of ten. -/
def Pow10 (w : World) : Prop := Lib.TabIs Tryz.prog w "internal/strconv.uint64pow10" .u64 Lib.pow10Tab
theorem Pow10.keeps {w w' : World} (h : Pow10 w) (hb : Below w.heap.size w w') : Pow10 w' := by
  unfold Pow10 Lib.TabIs World.var? at h ⊢
  cases hg : Tryz.prog.globalNamed "internal/strconv.uint64pow10" with
  | none => rw [hg] at h; simp at h
  | some g =>
    rw [hg] at h
    simp only [Option.bind_some] at h ⊢
    have hlt : g < w.heap.size := by
      by_cases q : g < w.heap.size
      · exact q
      · rw [Array.getElem?_eq_none (by omega)] at h; simp at h
    rw [hb.block g hlt]
    exact h
theorem Out.others {B b : Nat} {w w' : World} {v : Value} {n : Nat} {d : Nat → Int} (h : Out B w v n d) (hk : Lib.OthersKept 5 (some b) w w') (hb : b < B) : Out B w' v n d :=
  h.of_block fun g hg => by
    obtain ⟨cur, z, hc⟩ := h.typed hg
    have hge := (h.ge hg).1
    rw [hc]
    exact hk g _ hc (fun e => by simp only [Option.some.injEq] at e; omega) (fun c fz e => by simp at e)
theorem builderAt_keeps {T e : TypeId} {B b : Nat} {p : Value} {bs : List Value} {w w' : World} (h : Lib.BuilderAtF T e B b p bs w) (hb : Below w.heap.size w w') : Lib.BuilderAtF T e B b p bs w' := by
  have hlt := h.lt
  obtain ⟨hB, v, hbk, hown, hne⟩ := h
  refine ⟨hB, v, (hb.block b hlt).trans hbk, ⟨hown.1, ?_⟩, hne⟩
  rcases hown.2 with q | ⟨g, cap, cur, fz, h1, h2, h3, h4⟩
  · exact .inl q
  · exact .inr ⟨g, cap, cur, fz, h1, h2, (hb.block g (Array.getElem?_eq_some_iff.1 h3).1).trans h3, h4⟩
theorem builder_keeps {T e : TypeId} {B b : Nat} {bs : List Value} {w w' : World} (h : Lib.IsBuilderF T e B b bs w) (hb : Below w.heap.size w w') : Lib.IsBuilderF T e B b bs w' := by
  rcases h with h | h
  · exact .inl (builderAt_keeps h hb)
  · exact .inr (builderAt_keeps h hb)
theorem dec_len {u : Nat} (h : u < 1000000000) : (Lib.decDigits u).length ≤ 9 := by
  obtain ⟨h1, h2, h3, h4⟩ := dec_ok u
  by_cases q : (Lib.decDigits u).length ≤ 9
  · exact q
  · have h0 : 0 < u := by
      rcases Nat.eq_zero_or_pos u with e | e
      · subst e; rw [Lib.decDigits] at q; simp at q
      · exact e
    have a := okL_big ⟨h1, h2, .inr (h4 h0)⟩ (by omega)
    have b := ten_mono (show 9 ≤ (Lib.decDigits u).length - 1 by omega)
    have c : (10 : Int) ^ 9 = 1000000000 := rfl
    omega
theorem zeros_num (c : Nat) : DecL (Lib.repeatL [48] c) ∧ numL (Lib.repeatL [48] c) = 0 ∧ (Lib.repeatL [48] c).length = c := by
  refine ⟨?_, ?_, by rw [Lib.repeatL_length]; simp⟩
  · induction c with
    | zero => intro b hb; simp [Lib.repeatL] at hb
    | succ c ih =>
      intro b hb
      simp only [Lib.repeatL, List.cons_append, List.nil_append, List.mem_cons] at hb
      rcases hb with rfl | hb
      · decide
      · exact ih b hb
  · induction c with
    | zero => rfl
    | succ c ih =>
      show numL ([48] ++ Lib.repeatL [48] c) = 0
      rw [numL_append, ih]
      show (10 * 0 + ((48 : Int) - 48)) * _ + 0 = 0
      simp
/-- What the text holds behind i groups of m. -/
structure TxS (m i : Nat) (q : Nat → Int) (A : Int) (L : List UInt8) : Prop where
  eq : numL L * 1000000000 ^ (m - i) + gval q (m - i) = A
  len : L.length ≤ 9 * i
  nil : i = 0 → L = []
  ok : 0 < i → OkL L ∧ (m = 1 ∨ 0 < numL L)
theorem TxS.start {m : Nat} {q : Nat → Int} {A : Int} (h : gval q m = A) : TxS m 0 q A [] := ⟨by rw [Nat.sub_zero, h]; show (0 : Int) * _ + A = A; omega, by simp, fun _ => rfl, fun h => by omega⟩
theorem TxS.first {m : Nat} {q : Nat → Int} {A : Int} {L : List UInt8} (h : TxS m 0 q A L) (hm : 1 ≤ m) (hq : 0 ≤ q (m - 1) ∧ q (m - 1) < 1000000000) (ht : m = 1 ∨ q (m - 1) ≠ 0) : TxS m 1 q A (Lib.decDigits (q (m - 1)).toNat) := by
  obtain ⟨h1, h2, h3, h4⟩ := dec_ok (q (m - 1)).toNat
  have hn : numL (Lib.decDigits (q (m - 1)).toNat) = q (m - 1) := by rw [h3]; omega
  refine ⟨?_, ?_, fun e => by omega, fun _ => ⟨⟨h1, h2, ?_⟩, ?_⟩⟩
  · have e := h.eq
    rw [h.nil rfl] at e
    obtain ⟨j, rfl⟩ : ∃ j, m = j + 1 := ⟨m - 1, by omega⟩
    rw [Nat.sub_zero, show numL [] = 0 from rfl] at e
    rw [hn, Nat.add_sub_cancel, ← e]
    show _ = 0 * _ + (gval q j + q j * _)
    omega
  · exact dec_len (by omega)
  · by_cases e : q (m - 1) = 0
    · left; rw [e]; rw [show ((0 : Int)).toNat = 0 from rfl, Lib.decDigits]; simp
    · right; exact h4 (by omega)
  · rcases ht with e | e
    · exact .inl e
    · right; rw [hn]; omega
theorem TxS.next {m i : Nat} {q : Nat → Int} {A : Int} {L : List UInt8} (h : TxS m i q A L) (hi : 0 < i) (him : i < m) (hq : 0 ≤ q (m - 1 - i) ∧ q (m - 1 - i) < 1000000000) : TxS m (i + 1) q A (L ++ Lib.repeatL [48] (9 - (Lib.decDigits (q (m - 1 - i)).toNat).length) ++ Lib.decDigits (q (m - 1 - i)).toNat) := by
  obtain ⟨h1, h2, h3, h4⟩ := dec_ok (q (m - 1 - i)).toNat
  have hn : numL (Lib.decDigits (q (m - 1 - i)).toNat) = q (m - 1 - i) := by rw [h3]; omega
  have hl := dec_len (u := (q (m - 1 - i)).toNat) (by omega)
  generalize Lib.decDigits (q (m - 1 - i)).toNat = D at *
  obtain ⟨z1, z2, z3⟩ := zeros_num (9 - D.length)
  generalize Lib.repeatL [48] (9 - D.length) = Z at *
  obtain ⟨hok, hp⟩ := h.ok hi
  have hp' : 0 < numL L := by rcases hp with e | e; (· omega); (· exact e)
  have hnum : numL (L ++ Z ++ D) = numL L * 1000000000 + q (m - 1 - i) := by
    rw [numL_append, numL_append, z2, hn, z3, Int.add_zero, Int.mul_assoc, ← Int.pow_add, show 9 - D.length + D.length = 9 by omega]
    rfl
  refine ⟨?_, by simp only [List.length_append, z3]; have := h.len; omega, fun e => by omega, fun _ => ⟨⟨(hok.1.append z1).append h1, by simp [h2], .inr ?_⟩, .inr (by rw [hnum]; omega)⟩⟩
  · have e := h.eq
    obtain ⟨j, hj⟩ : ∃ j, m - i = j + 1 := ⟨m - i - 1, by omega⟩
    rw [hj] at e
    rw [hnum, show m - (i + 1) = j by omega, show m - 1 - i = j by omega, ← e]
    show _ = _ + (gval q j + q j * _)
    rw [Int.pow_succ]
    grind
  · obtain ⟨x, xs, hx⟩ := List.exists_cons_of_ne_nil hok.2.1
    rw [hx]
    simp only [List.cons_append, List.head?_cons, ne_eq, Option.some.injEq]
    intro e
    subst e
    rcases hok.2.2 with q' | q'
    · rw [hx] at q' hp'
      simp at q'
      subst q'
      have : numL [48] = 0 := by decide
      omega
    · rw [hx] at q'; simp at q'
set_option maxRecDepth 100000 in
set_option maxHeartbeats 2000000 in
theorem text_any {w : World} {x : Value} {A : Int} (hx : Num w x A) (hA : A < P 2000) (hT : Pow10 w) :
    Calls Tryz.prog 23 #[x] w fun e w' => e = .returned (.tuple #[.string ⟨(Lib.decDigits A.toNat).toArray⟩, .int .i64 0]) ∧ Below w.heap.size w w' := by
  obtain ⟨ao, n, ca, rfl⟩ := hx.shape
  have HX : Hid (Num w (.slice ao n ca) A) := hx
  have HA : Hid (A < P 2000 ∧ 0 ≤ A) := ⟨hA, hx.nonneg⟩
  have HV : Hid (∀ W : World, Num W (.slice ao n ca) A → Calls Tryz.prog 12 #[.slice ao n ca] W fun e w' => e = .returned (.bool true) ∧ w' = W) := fun W h => valid_num h HA.out.1
  have HT : Hid (Pow10 w) := hT
  clear hx hA hT
  go_enter Tryz.func23, Tryz.ntmps23
  go_wp2_with fail
  refine (HV.out _ HX.out).mono ?_
  rintro e w' ⟨rfl, hw⟩
  replace hw := hw.symm
  subst hw
  go_wp2_with fail
  refine (split_any (HX.out.alloc _) HA.out.1).mono ?_
  rintro e w2 ⟨gv, rfl, m, q, hO, hm1, hm3, hq, hgv, htop, hb2⟩
  have HB2 : Hid (Below w.heap.size w w2) := bel_trans (bel_alloc _ _) hb2
  have HBU : Hid (Lib.IsBuilderF 67 5 w.heap.size w.heap.size (Lib.byteCells []) w2) := by
    exact builder_keeps (Lib.IsBuilderF.of (Lib.fresh_isBuilder 67 5 w)) hb2
  have HG : Hid (Out (w.heap.size + 1) w2 gv m q) := hO.lower (by simp)
  have HQ : Hid (Grp q m ∧ gval q m = A ∧ (m = 1 ∨ q (m - 1) ≠ 0)) := ⟨hq, hgv, htop⟩
  obtain ⟨go, gc, rfl, hRg⟩ := hO.row
  have hgl := hRg.le
  have hgm := hRg.max
  clear hO hq hgv htop hb2 hRg
  go_wp2
  go_loopw [15] (fun c wr => ∃ (i : Nat) (L : List UInt8), c = .int .i64 i ∧ i ≤ m ∧ Hid (TxS m i q A L) ∧ Hid (Lib.IsBuilderF 67 5 w.heap.size w.heap.size (Lib.byteCells L) wr) ∧ Hid (Out (w.heap.size + 1) wr (.slice go m gc) m q) ∧ Hid (Below w.heap.size w wr)) (fun c _ => m - (intOf c).toNat)
  case atStart => exact ⟨0, [], rfl, Nat.zero_le _, TxS.start HQ.out.2.1, HBU.out, HG.out, HB2.out⟩
  case round =>
    obtain ⟨i, L, rfl, hi, HX', HBU', HG', HB⟩ := hrel
    clear HBU HG HB2
    have HBL : Hid ((Lib.byteCells L).length ≤ 9 * i) := by show _ ≤ _; rw [Lib.byteCells_length]; exact HX'.out.len
    by_cases hlt : i < m
    · have hqb := HQ.out.1 (m - 1 - i) (by omega)
      obtain ⟨D, hD⟩ : ∃ D, D = Lib.decDigits (q (m - 1 - i)).toNat := ⟨_, rfl⟩
      have HDE : Hid (D = Lib.decDigits (q (m - 1 - i)).toNat) := hD
      have hD9 : D.length ≤ 9 := by rw [hD]; exact dec_len (by omega)
      have HIT : Hid (∀ W : World, Pow10 W → Calls Tryz.prog 59 #[.int .i64 (q (m - 1 - i))] W fun e w' => e = .returned (.string ⟨D.toArray⟩) ∧ Below W.heap.size W w') := fun W hW => by
        refine (Tryz.strconv_Itoa (q (m - 1 - i)) (by omega) (by omega) W hW).mono ?_
        rintro e w' ⟨rfl, k, os, rfl⟩
        rw [HDE.out]
        refine ⟨?_, rfl, rfl, rfl, by show W.heap.size ≤ (W.heap ++ os).size; rw [Array.size_append]; omega, fun j hj => by show (W.heap ++ os)[j]? = W.heap[j]?; rw [Array.getElem?_append_left hj]⟩
        unfold Lib.itoa
        rw [if_neg (by omega)]
      have hsz : (⟨D.toArray⟩ : ByteArray).size = D.length := List.size_toArray
      obtain ⟨g', hgo, hg1, hg2⟩ := HG'.out.spot (by omega)
      subst hgo
      have c1 := HG'.out.cell (show m - 1 - i < m by omega)
      obtain ⟨j, hj⟩ : ∃ j, j = m - 1 - i := ⟨_, rfl⟩
      have ej : (m : Int) - 1 - i = j := by omega
      have hjm : j < m := by omega
      rw [← hj] at HIT c1 hqb
      have HJ : Hid (j = m - 1 - i) := hj
      clear hj hD hg1 hg2
      go_wp2_with fail
      refine (HIT.out _ (HT.out.keeps HB.out)).mono ?_
      rintro e w3 ⟨rfl, hb3⟩
      have HB3 : Hid (Below w.heap.size w w3) := HB.out.trans (hb3.mono HB.out.size)
      have HBU3 : Hid (Lib.IsBuilderF 67 5 w.heap.size w.heap.size (Lib.byteCells L) w3) := builder_keeps HBU'.out hb3
      have HG3 : Hid (Out (w.heap.size + 1) w3 (.slice (some ⟨g', 0, none⟩) m gc) m q) := HG'.out.stays hb3
      clear hb3 c1
      by_cases hi0 : i = 0
      · subst hi0
        have HL0 : Hid (L = []) := HX'.out.nil rfl
        have HN : Hid (TxS m 1 q A D) := by
          have h := HX'.out.first hm1 (HQ.out.1 (m - 1) (by omega)) HQ.out.2.2
          have e := HDE.out
          rw [Nat.sub_zero] at e
          rw [e]; exact h
        go_wp2_with fail
        refine (Tryz.Builder_WriteString_k _ _ _ ⟨D.toArray⟩ _ HBU3.out (by have := HBL.out; omega) HB3.out.size).mono ?_
        rintro e w4 ⟨rfl, hB4, hb4, hk4⟩
        have HBU4 : Hid (Lib.IsBuilderF 67 5 w.heap.size w.heap.size (Lib.byteCells D) w4) := .inr (by
          rw [HL0.out] at hB4
          exact hB4)
        have HG4 : Hid (Out (w.heap.size + 1) w4 (.slice (some ⟨g', 0, none⟩) m gc) m q) := HG3.out.others hk4 (by omega)
        have HB4 : Hid (Below w.heap.size w w4) := HB3.out.trans hb4
        clear hB4 hb4 hk4
        go_wp2
        go_roundw
        case rel => exact ⟨1, D, by go_num, by omega, HN.out, HBU4.out, HG4.out, HB4.out⟩
        case measure => simp [intOf]; omega
      · have hi0' : (0 : Int) < (i : Int) := by omega
        obtain ⟨c, hc⟩ : ∃ c, c = 9 - D.length := ⟨_, rfl⟩
        have ec : (9 : Int) - (D.length : Int) = c := by omega
        have hcc : c ≤ 9 := by omega
        have HN : Hid (TxS m (i + 1) q A (L ++ Lib.repeatL [48] c ++ D)) := by
          rw [hc, HDE.out]
          exact HX'.out.next (by omega) hlt (HQ.out.1 (m - 1 - i) (by omega))
        have HRp : Hid (Calls Tryz.prog 61 #[.string ⟨#[48]⟩, .int .i64 c] w3 fun e w' => e = .returned (.string ⟨(Lib.repeatL [48] c).toArray⟩) ∧ Below w3.heap.size w3 w') := Tryz.strings_Repeat ⟨#[48]⟩ c w3 (by omega) (by show 1 * c ≤ _; omega)
        have hzl : (⟨(Lib.repeatL [48] c).toArray⟩ : ByteArray).size = c := by
          show (Lib.repeatL [48] c).toArray.size = c
          rw [List.size_toArray]; exact (zeros_num c).2.2
        clear hc
        go_wp2_with fail
        refine HRp.out.mono ?_
        rintro e w4 ⟨rfl, hb4⟩
        have HB4 : Hid (Below w.heap.size w w4) := HB3.out.trans (hb4.mono HB3.out.size)
        have HBU4 : Hid (Lib.IsBuilderF 67 5 w.heap.size w.heap.size (Lib.byteCells L) w4) := builder_keeps HBU3.out hb4
        have HG4 : Hid (Out (w.heap.size + 1) w4 (.slice (some ⟨g', 0, none⟩) m gc) m q) := HG3.out.stays hb4
        clear hb4
        go_wp2_with fail
        refine (Tryz.Builder_WriteString_k _ _ _ ⟨(Lib.repeatL [48] c).toArray⟩ _ HBU4.out (by have := HBL.out; omega) HB4.out.size).mono ?_
        rintro e w5 ⟨rfl, hB5, hb5, hk5⟩
        have HBU5 : Hid (Lib.IsBuilderF 67 5 w.heap.size w.heap.size (Lib.byteCells (L ++ Lib.repeatL [48] c)) w5) := .inr (by
          rw [Lib.byteCells_append]
          exact hB5)
        have HG5 : Hid (Out (w.heap.size + 1) w5 (.slice (some ⟨g', 0, none⟩) m gc) m q) := HG4.out.others hk5 (by omega)
        have HB5 : Hid (Below w.heap.size w w5) := HB4.out.trans hb5
        have HBL5 : Hid ((Lib.byteCells (L ++ Lib.repeatL [48] c)).length ≤ 9 * i + 9) := by
          show _ ≤ _
          rw [Lib.byteCells_length, List.length_append, (zeros_num c).2.2]
          have := HX'.out.len
          omega
        clear hB5 hb5 hk5
        go_wp2_with fail
        refine (Tryz.Builder_WriteString_k _ _ _ ⟨D.toArray⟩ _ HBU5.out (by have := HBL5.out; omega) HB5.out.size).mono ?_
        rintro e w6 ⟨rfl, hB6, hb6, hk6⟩
        have HBU6 : Hid (Lib.IsBuilderF 67 5 w.heap.size w.heap.size (Lib.byteCells (L ++ Lib.repeatL [48] c ++ D)) w6) := .inr (by
          rw [Lib.byteCells_append]
          exact hB6)
        have HG6 : Hid (Out (w.heap.size + 1) w6 (.slice (some ⟨g', 0, none⟩) m gc) m q) := HG5.out.others hk6 (by omega)
        have HB6 : Hid (Below w.heap.size w w6) := HB5.out.trans hb6
        clear hB6 hb6 hk6
        go_wp2
        go_roundw
        case rel => exact ⟨i + 1, _, by go_num, by omega, HN.out, HBU6.out, HG6.out, HB6.out⟩
        case measure => simp [intOf]; omega
    · obtain rfl : i = m := by omega
      have HEQ : Hid (L = Lib.decDigits A.toNat) := by
        show _ = _
        obtain ⟨hok, _⟩ := HX'.out.ok (by omega)
        have e := HX'.out.eq
        rw [Nat.sub_self, show gval q 0 = 0 from rfl, Int.pow_zero, Int.mul_one, Int.add_zero] at e
        obtain ⟨h1, h2, h3, h4⟩ := dec_ok A.toNat
        refine okL_unique hok ⟨h1, h2, ?_⟩ (by rw [e, h3]; have := HA.out.2; omega)
        by_cases hz : 0 < A.toNat
        · exact .inr (h4 hz)
        · left; rw [show A.toNat = 0 by omega, Lib.decDigits]; simp
      go_wp2_with fail
      refine (Tryz.Builder_String_any_k _ _ L _ HBU'.out HB.out.size).mono ?_
      rintro e w4 ⟨rfl, _, hb4, _⟩
      go_wp2
      go_ret2
      exact ⟨by rw [HEQ.out]; rfl, HB.out.trans hb4⟩
end Go.Proofs.YtmbajngbiefilaaGreatDoor

/-
  The document's own Text: the decimal numeral, by its contract.
-/
namespace Go.Proofs.YtmbajngbiefilaaGreatDoor
open Go Go.RowKit Go.Proofs.YtmbajngbiefilaaGreatDoor.M
set_option linter.unusedSimpArgs false
set_option linter.unusedVariables false

/-- n bytes. -/
def valsU (f : Nat → Int) (n : Nat) : List Value := (List.range n).map fun i => .int .u8 (f i)
theorem valsU_length (f : Nat → Int) (n : Nat) : (valsU f n).length = n := by simp [valsU]
theorem valsU_get (f : Nat → Int) {n i : Nat} (h : i < n) : (valsU f n)[i]? = some (.int .u8 (f i)) := by simp [valsU, h]
theorem valsU_ext {xs : List Value} {f : Nat → Int} {n : Nat} (hl : xs.length = n) (h : ∀ i, i < n → xs[i]? = some (.int .u8 (f i))) : xs = valsU f n := by
  apply List.ext_getElem?
  intro i
  by_cases hi : i < n
  · rw [h i hi, valsU_get f hi]
  · rw [List.getElem?_eq_none (by omega), List.getElem?_eq_none (by rw [valsU_length]; omega)]
/-- A list of bytes that is the call's own. -/
def OutU (B : Nat) (w : World) (v : Value) (n : Nat) (f : Nat → Int) : Prop := w.ownsRow B 5 1 v n (valsU f n)
theorem OutU.of_block {B : Nat} {w w' : World} {x : Value} {n : Nat} {d : Nat → Int} (h : OutU B w x n d) (hb : ∀ g, x.ownBlock = some g → w'.heap[g]? = w.heap[g]?) : OutU B w' x n d := by
  refine ⟨h.1, ?_⟩
  rcases h.2 with hn | ⟨g, cap, cur, rfl, hbb, hg, rest⟩
  · exact .inl hn
  · exact .inr ⟨g, cap, cur, rfl, hbb, (hb g rfl).trans hg, rest⟩
theorem OutU.ge {B : Nat} {w : World} {x : Value} {n : Nat} {v : Nat → Int} (h : OutU B w x n v) {g : Nat} (hg : x.ownBlock = some g) : B ≤ g ∧ g < w.heap.size := World.ownsRow.lt h g hg
theorem OutU.stays {B : Nat} {w w' : World} {v : Value} {n : Nat} {d : Nat → Int} (h : OutU B w v n d) (hb : Below w.heap.size w w') : OutU B w' v n d := h.of_block fun g hg => hb.block g (h.ge hg).2
theorem OutU.shape {B : Nat} {w : World} {v : Value} {n : Nat} {d : Nat → Int} (h : OutU B w v n d) : ∃ ao cap, v = .slice ao n cap ∧ n ≤ cap ∧ cap ≤ 9223372036854775807 ∧ (0 < n → ∃ g, ao = some ⟨g, 0, none⟩) := by
  rcases h.2 with ⟨rfl, rfl⟩ | ⟨g, cap, cur, rfl, hb, hg, hn, hm, hs, ht⟩
  · exact ⟨none, 0, rfl, Nat.le_refl _, by decide, fun h => by omega⟩
  · exact ⟨_, cap, rfl, hn, by unfold maxLen at hm; exact hm, fun _ => ⟨g, rfl⟩⟩
theorem OutU.cell {B : Nat} {w : World} {g n cap : Nat} {d : Nat → Int} (h : OutU B w (.slice (some ⟨g, 0, none⟩) n cap) n d) {i : Nat} (hi : i < n) : w.cell? ⟨g, i, none⟩ = some (.int .u8 (d i)) := by
  rw [World.ownsRow.cellAt h i (by omega), valsU_get d hi]
theorem OutU.frozen {B : Nat} {w : World} {g n cap : Nat} {d : Nat → Int} (h : OutU B w (.slice (some ⟨g, 0, none⟩) n cap) n d) (i : Nat) : w.frozen? ⟨g, i, none⟩ = false := World.ownsRow.frozenAt h i
theorem OutU.store {B : Nat} {w : World} {g n cap : Nat} {d : Nat → Int} (h : OutU B w (.slice (some ⟨g, 0, none⟩) n cap) n d) {i : Nat} (hi : i < n) (x : Int) :
    OutU B (w.setCell ⟨g, i, none⟩ (.int .u8 x)) (.slice (some ⟨g, 0, none⟩) n cap) n (upd d i x) := by
  have h1 := (World.ownsRow.stored h i (.int .u8 x)).1
  unfold OutU
  have e : valsU (upd d i x) n = (valsU d n).set i (.int .u8 x) := by
    refine (valsU_ext (by simp [valsU_length]) fun j hj => ?_).symm
    by_cases hji : j = i
    · subst hji; rw [upd_same, List.getElem?_set_self (by rw [valsU_length]; exact hj)]
    · rw [upd_other d x hji, List.getElem?_set_ne (by omega), valsU_get d hj]
  rw [e]; exact h1
theorem info_byte : (Tryz.prog.info? 5).map (fun i => (i.zero, i.size, i.bytes)) = some (some (.int .u8 0), 1, 1) := by kernel_rfl
/-- 'append(xs, x)' of bytes. -/
theorem wpList_appU {w : World} {ops : Array Oper} {rest : List Oper} {o : Oper} {a : Act} {Q : Exit → Act → World → Prop} (hgd : o.guard = none) (s x : Operand)
    (ho : o.op = .call { callee := .builtin .append, args := #[s, x], argTypes := #[65, 65] }) (B : Nat) (v : Value) (n : Nat) (d : Nat → Int) (hs : a.eval s = v) (hO : OutU B w v n d)
    (g : Nat) (y : Int) (hx : a.eval x = .slice (some ⟨g, 0, none⟩) 1 1) (hy : w.cell? ⟨g, 0, none⟩ = some (.int .u8 y)) (hlen : n + 1 ≤ 1000000) (hB : B ≤ w.heap.size)
    (h : ∀ v' w', OutU B w' v' (n + 1) (upd d n y) → w.grownBy w' v.ownBlock → (v'.ownBlock = v.ownBlock ∨ v'.ownBlock = some w.heap.size) → wpList Tryz.prog ops Q rest (a.put o.dst v') w') : wpList Tryz.prog ops Q (o :: rest) a w := by
  obtain ⟨i0, hi, hz0, hz1, hz2⟩ := info_parts info_byte
  refine wpList_append_own_at w hgd s x 65 ho B 5 i0 (.int .u8 0) 1 1 Tryz.underlying65 hi hz0 hz1 hz2 rfl (by decide) v n (valsU d n) hs hO ⟨g, 0, none⟩ 1 1 [.int .u8 y] hx rfl ?_ (by simp [Value.oneCell']) (by unfold maxLen; omega) (by omega) hB ?_
  · intro j u hu
    have hj : j = 0 := by have := (List.getElem?_eq_some_iff.1 hu).1; simp at this; exact this
    subst hj
    simp at hu
    subst hu
    rw [add_none]; exact hy
  · intro v' w' h1 h2 _ h3
    have e : valsU d n ++ [.int .u8 y] = valsU (upd d n y) (n + 1) := by
      apply valsU_ext (by simp [valsU_length])
      intro i hi
      by_cases q : i < n
      · rw [List.getElem?_append_left (by rw [valsU_length]; exact q), valsU_get d q, upd_other d y (by omega)]
      · obtain rfl : i = n := by omega
        rw [List.getElem?_append_right (by rw [valsU_length]; omega), valsU_length, upd_same]; simp
    rw [e] at h1
    exact h v' w' h1 h2 h3
/-- The number of n digits as bytes, the lowest first. -/
def rv (f : Nat → Int) : Nat → Int | 0 => 0 | k + 1 => rv f k + (f k - 48) * 10 ^ k
theorem rv_congr {f g : Nat → Int} : ∀ {k : Nat}, (∀ i, i < k → f i = g i) → rv f k = rv g k
  | 0, _ => rfl
  | k + 1, h => by show rv f k + (f k - 48) * _ = rv g k + (g k - 48) * _; rw [rv_congr fun i hi => h i (by omega), h k (by omega)]
/-- Decimal digits as bytes. -/
def DecF (f : Nat → Int) (n : Nat) : Prop := ∀ i, i < n → 48 ≤ f i ∧ f i ≤ 57
/-- The bytes, the highest first. -/
def revL (f : Nat → Int) : Nat → List UInt8 | 0 => [] | k + 1 => UInt8.ofNat (f k).toNat :: revL f k
theorem revL_length (f : Nat → Int) : ∀ n, (revL f n).length = n | 0 => rfl | n + 1 => by simp [revL, revL_length f n]
theorem byte_of {x : Int} (h : 48 ≤ x ∧ x ≤ 57) : (UInt8.ofNat x.toNat).toNat = x.toNat := by rw [UInt8.toNat_ofNat']; omega
theorem revL_num {f : Nat → Int} : ∀ {n : Nat}, DecF f n → DecL (revL f n) ∧ numL (revL f n) = rv f n
  | 0, _ => ⟨fun b hb => by simp [revL] at hb, rfl⟩
  | n + 1, h => by
    obtain ⟨h1, h2⟩ := revL_num (n := n) fun i hi => h i (by omega)
    have hb := byte_of (h n (by omega))
    have hn := h n (by omega)
    refine ⟨fun b hb' => ?_, ?_⟩
    · simp only [revL, List.mem_cons] at hb'
      rcases hb' with rfl | q
      · omega
      · exact h1 b q
    · show numL ([UInt8.ofNat (f n).toNat] ++ revL f n) = rv f n + (f n - 48) * 10 ^ n
      rw [numL_append, h2, revL_length]
      have : numL [UInt8.ofNat (f n).toNat] = f n - 48 := by
        show 10 * 0 + (((UInt8.ofNat (f n).toNat).toNat : Int) - 48) = _
        rw [hb]; omega
      rw [this]; omega
theorem revL_ok {f : Nat → Int} {n : Nat} (h : DecF f (n + 1)) (ht : f n ≠ 48) : OkL (revL f (n + 1)) := by
  refine ⟨(revL_num h).1, by simp [revL], .inr ?_⟩
  simp only [revL, List.head?_cons, ne_eq, Option.some.injEq]
  intro e
  have := congrArg UInt8.toNat e
  rw [byte_of (h n (by omega))] at this
  have h2 : (48 : UInt8).toNat = 48 := rfl
  have := h n (by omega)
  omega
theorem revL_list (f g : Nat → Int) : ∀ n, (∀ i, i < n → g i = f (n - 1 - i)) → ((List.range n).map g).map (fun x => UInt8.ofNat x.toNat) = revL f n
  | 0, _ => rfl
  | n + 1, h => by
    rw [List.range_succ_eq_map]
    simp only [List.map_cons, List.map_map, revL]
    have h0 := h 0 (by omega)
    simp only [Nat.add_sub_cancel, Nat.sub_zero] at h0
    rw [h0]
    congr 1
    have := revL_list f (fun i => g (i + 1)) n fun i hi => by
      rw [h (i + 1) (by omega)]
      congr 1
      omega
    rw [← this]
    simp [Function.comp_def]
end Go.Proofs.YtmbajngbiefilaaGreatDoor
