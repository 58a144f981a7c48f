/-
  Parts of the proof, one behind another.
-/
import Derived.Test.YtkihodaaofceeaaDoorPart9
import Derived.Test.YtkihodaaofceeaaDoorPart5
import Derived.Test.YtkihodaaofceeaaDoorPart8
import Derived.Test.YtkihodaaofceeaaDoorPart6
import Derived.Lib.AppendZerosOnto
/-
  The document's own Text: the decimal numeral, by its contract.
-/
namespace Go.Proofs.YtkihodaaofceeaaDoor
open Go Go.RowKit Go.Proofs.YtkihodaaofceeaaDoor.M
set_option linter.unusedSimpArgs false
set_option linter.unusedVariables false

theorem ten_two : ∀ k : Nat, (2 : Int) ^ (3 * k) ≤ 10 ^ k
  | 0 => Int.le_refl _
  | k + 1 => by
    have h := ten_two k
    rw [show 3 * (k + 1) = 3 * k + 3 by omega, Int.pow_add, Int.pow_succ 10 k, show (2 : Int) ^ 3 = 8 from rfl]
    have h3 := two_pos (3 * k)
    omega
theorem rv_nonneg {f : Nat → Int} : ∀ {k : Nat}, DecF f k → 0 ≤ rv f k
  | 0, _ => Int.le_refl _
  | k + 1, h => by
    have h1 := rv_nonneg (k := k) fun i hi => h i (by omega)
    have h2 := h k (by omega)
    show 0 ≤ rv f k + (f k - 48) * _
    have := Int.mul_nonneg (show 0 ≤ f k - 48 by omega) (Int.le_of_lt (ten_pos k))
    omega
/-- The state of the document's Text. -/
structure TxR (w wr : World) (A : Int) (nv lv : Value) (t k : Nat) (d f : Nat → Int) : Prop where
  on : Out w.heap.size wr nv t d
  ol : OutU w.heap.size wr lv k f
  ap : ∀ g, nv.ownBlock = some g → lv.ownBlock ≠ some g
  nd : Nrm d t
  df : DecF f k
  eq : A = val d t * 10 ^ k + rv f k
  top : 0 < k → t = 0 → f (k - 1) ≠ 48
  below : Below w.heap.size w wr
theorem TxR.few {w wr : World} {A : Int} {nv lv : Value} {t k : Nat} {d f : Nat → Int} (h : TxR w wr A nv lv t k d f) (hA : A < P 2000) (hV : 0 < val d t) : k ≤ 20000 ∧ val d t ≤ A := by
  have h2 := rv_nonneg h.df
  have h0 := ten_pos k
  have h3 : (1 : Int) * 10 ^ k ≤ val d t * 10 ^ k := Int.mul_le_mul_of_nonneg_right (by omega) (by omega)
  have h6 : val d t * 1 ≤ val d t * 10 ^ k := Int.mul_le_mul_of_nonneg_left (by omega) (by omega)
  have e := h.eq
  refine ⟨?_, by omega⟩
  by_cases hk : k ≤ 20000
  · exact hk
  · have h1 := ten_two k
    rw [P2000_two] at hA
    have h4 : (2 : Int) ^ 60000 ≤ 2 ^ (3 * k) := two_le (by omega)
    have h5 : (2 : Int) ^ 60000 ≤ A := by rw [e]; omega
    exact absurd hA (Int.not_lt.2 h5)
theorem TxR.step {w wr w2 w3 : World} {A left : Int} {lv lv' : Value} {g' k t rc t' : Nat} {d r f : Nat → Int} {o : Obj} (h : TxR w wr A (.slice (some ⟨g', 0, none⟩) t rc) lv t k d f) (hV : 0 < val d t) (hWr : Wr g' wr w2)
    (hO2 : Out w.heap.size w2 (.slice (some ⟨g', 0, none⟩) t rc) t r) (hD2 : Dig r t) (hV2 : val d t = 10 * val r t + left) (hl0 : 0 ≤ left) (hl1 : left < 10) (hb2 : Below w.heap.size wr w2)
    (hO3 : OutU w.heap.size w3 lv' (k + 1) (upd f k (48 + left))) (hg3 : (w2.alloc o).grownBy w3 lv.ownBlock) (hat : lv'.ownBlock = lv.ownBlock ∨ lv'.ownBlock = some (w2.alloc o).heap.size) (ht : t' ≤ t) (htop : Top r t') (hz : ∀ i, t' ≤ i → i < t → r i = 0) :
    TxR w w3 A (.slice (some ⟨g', 0, none⟩) t' rc) lv' t' (k + 1) r (upd f k (48 + left)) ∧ (val r t').toNat < (val d t).toNat := by
  obtain ⟨hN, hv⟩ := nrm_of_top hD2 ht htop hz
  have r0 := val_nonneg hN.1
  have hg2 := (hO2.ge (g := g') rfl).2
  have hsz : (w2.alloc o).heap.size = w2.heap.size + 1 := by simp
  have hne : lv.ownBlock ≠ some g' := h.ap g' rfl
  have hO2' : Out w.heap.size w3 (.slice (some ⟨g', 0, none⟩) t rc) t r := hO2.of_block fun g hg => by
    have e : g' = g := by simpa [Value.ownBlock] using hg
    subst e
    exact (hg3.block g' (by omega) (fun e => hne e.symm)).trans (Below.heap_alloc _ _ _ hg2)
  refine ⟨⟨hO2'.cut ht, hO3, fun g hg hg' => ?_, hN, fun i hi => ?_, ?_, fun _ h0 => ?_, ?_⟩, by omega⟩
  · have e : g' = g := by simpa [Value.ownBlock] using hg
    subst e
    rcases hat with q | q
    · rw [q] at hg'; exact hne hg'
    · rw [q] at hg'
      simp only [Option.some.injEq] at hg'
      omega
  · by_cases e : i = k
    · rw [e, upd_same]; omega
    · rw [upd_other f _ e]; exact h.df i (by omega)
  · show A = _ * _ + (rv (upd f k (48 + left)) k + (upd f k (48 + left) k - 48) * 10 ^ k)
    rw [rv_congr fun i hi => upd_other f _ (show i ≠ k by omega), upd_same, h.eq, hV2, hv, Int.pow_succ]
    grind
  · subst h0
    have : val r 0 = 0 := rfl
    rw [Nat.add_sub_cancel, upd_same]
    omega
  · exact (h.below.trans hb2).trans ((Below.refl _ w2).alloc (h.below.trans hb2).size o |>.grown hg3 (by have := (h.below.trans hb2).size; omega) (fun g hg => (h.ol.ge hg).1))
/-- Half reversed: i from either end. -/
def halfR (f : Nat → Int) (n i : Nat) : Nat → Int := fun j => if j < i ∨ n - i ≤ j then f (n - 1 - j) else f j
theorem OutU.congr {B : Nat} {w : World} {v : Value} {n : Nat} {d e : Nat → Int} (h : OutU B w v n d) (he : ∀ i, i < n → d i = e i) : OutU B w v n e := by
  unfold OutU at h ⊢
  rwa [show valsU e n = valsU d n from (valsU_ext (valsU_length d n) fun i hi => by rw [valsU_get d hi, he i hi]).symm]
theorem halfR_step {f : Nat → Int} {n i : Nat} (hi : i < n / 2) : ∀ j, j < n → upd (upd (halfR f n i) i (halfR f n i (n - 1 - i))) (n - 1 - i) (halfR f n i i) j = halfR f n (i + 1) j := fun j hj => by
  by_cases h1 : j = n - 1 - i
  · subst h1
    rw [upd_same]
    unfold halfR
    rw [if_neg (by omega), if_pos (by omega)]
    congr 1
    omega
  · rw [upd_other _ _ h1]
    by_cases h2 : j = i
    · subst h2
      rw [upd_same]
      unfold halfR
      rw [if_neg (by omega), if_pos (by omega)]
    · rw [upd_other _ _ h2]
      unfold halfR
      by_cases h3 : j < i ∨ n - i ≤ j
      · rw [if_pos h3, if_pos (by omega)]
      · rw [if_neg h3, if_neg (by omega)]
theorem halfR_end {f : Nat → Int} {n : Nat} : ∀ j, j < n → halfR f n (n / 2) j = f (n - 1 - j) := fun j hj => by
  unfold halfR
  split
  · rfl
  · congr 1
    omega
set_option maxRecDepth 100000 in
set_option maxHeartbeats 4000000 in
theorem rtext_any {w : World} {x : Value} {A : Int} (hx : Num w x A) (hA : A < P 2000) :
    Calls Tryd.prog 56 #[x] w fun e w' => e = .returned (.string ⟨(Lib.decDigits A.toNat).toArray⟩) ∧ Below w.heap.size w w' := by
  obtain ⟨ao, n, ca, rfl⟩ := hx.shape
  have hn := hx.len hA
  have A0 := hx.nonneg
  obtain ⟨ao', n', ca', a, e, hR, na, rfl⟩ := hx
  simp only [Value.slice.injEq] at e
  obtain ⟨rfl, rfl, rfl⟩ := e
  have HA : Hid (val a n < P 2000 ∧ 0 ≤ val a n) := ⟨hA, A0⟩
  clear hA A0
  go_enter Tryd.func56, Tryd.ntmps56
  go_wp2_with (at_builtin; refine wpList_app rfl _ _ rfl w.heap.size _ 0 a rfl (Out.nil _ _ _) _ n ca a rfl hR (by omega) (Nat.le_refl _) ?_; intro v1 w1 hO0 hg1)
  have HS1 : Hid (TxR w w1 (val a n) v1 (.slice none 0 0) n 0 a (fun _ => 48)) := by
    rw [Nat.zero_add] at hO0
    exact ⟨hO0.congr fun i hi => by simp [cat], World.ownsRow_nil _ _ _ _, fun g _ h => by simp [Value.ownBlock] at h, na, fun i hi => by omega, by show _ = val a n * 1 + 0; omega, fun h => by omega, grown_below hg1⟩
  obtain ⟨o1, c1, rfl, _⟩ := HS1.out.on.row
  clear hO0 hg1
  go_loopg [0, 3] ((val a n).toNat) (fun g nv lv wr => ∃ t k d f, Hid (TxR w wr (val a n) nv lv t k d f) ∧ Hid (g = (val d t).toNat))
  case atStart => exact ⟨n, 0, a, _, HS1.out, rfl⟩
  case round =>
    clear HS1
    obtain ⟨t, k, d, f, HS, HGK⟩ := hrel
    obtain ⟨ro, rc, rfl, rr⟩ := HS.out.on.row
    obtain ⟨lo, lc, rfl, ll, lm, lsp⟩ := HS.out.ol.shape
    have rl := rr.le
    have rm := rr.max
    by_cases h0 : 0 < t
    · have HVP : Hid (0 < val d t) := val_pos HS.out.nd h0
      have hk3 : k ≤ 20000 := (HS.out.few HA.out.1 HVP.out).1
      have htl : t ≤ 2000 := (rr.num0 HS.out.nd).len (Int.lt_of_le_of_lt (HS.out.few HA.out.1 HVP.out).2 HA.out.1)
      obtain ⟨g', hro, hg1, hg2⟩ := HS.out.on.spot h0
      subst hro
      have HG' : Hid (w.heap.size ≤ g' ∧ g' < wr.heap.size) := ⟨hg1, hg2⟩
      clear hg1 hg2 rr lsp
      obtain ⟨wo, hwo⟩ : ∃ wo, wo = wr := ⟨_, rfl⟩
      subst hwo
      go_wp2
      go_loopw [4, 5] (fun c i wi => ∃ (j : Nat) (left : Int) (r : Nat → Int), j ≤ t ∧ i = .int .i64 ((t : Int) - j - 1) ∧ c = .int .i64 left ∧ 0 ≤ left ∧ left < 10 ∧ Hid (Out w.heap.size wi (.slice (some ⟨g', 0, none⟩) t rc) t r ∧ Dig r t ∧ (∀ i, i < t - j → r i = d i) ∧ val (fun i => d (t - j + i)) j = 10 * val (fun i => r (t - j + i)) j + left ∧ Below w.heap.size wo wi ∧ Wr g' wo wi)) (fun _ i _ => (intOf i + 1).toNat)
      case atStart => exact ⟨0, 0, d, Nat.zero_le _, by go_num, rfl, by omega, by omega, ⟨HS.out.on, HS.out.nd.1, fun _ _ => rfl, by show (0 : Int) = 10 * 0 + 0; omega, Below.refl _ _, Wr.refl _ _⟩⟩
      case round =>
        obtain ⟨j, left, r, hj, rfl, rfl, hl0, hl1, HIN⟩ := hrel
        by_cases hlt : j < t
        · obtain ⟨m, hm⟩ : ∃ m, t = m + 1 + j := ⟨t - 1 - j, by omega⟩
          have HM : Hid (t = m + 1 + j) := hm
          have em : (t : Int) - j - 1 = m := by omega
          have hmt : m < t := by omega
          rw [em]
          have hO := HIN.out.1
          have c1 := hO.cell hmt
          have f1 := hO.frozen m
          have dm := HIN.out.2.1 m hmt
          have HRm : Hid (r m = d m) := HIN.out.2.2.1 m (by omega)
          have hst := HIN.out.2.2.2.1
          rw [show t - j = m + 1 by omega] at hst
          have hs := short_step hst
          rw [← HRm.out] at hs
          have HST : Hid _ := hs
          clear hs hst hm hO
          go_wp2
          go_roundw
          case rel => exact ⟨j + 1, (left * 1073741824 + r m) % 10, upd r m ((left * 1073741824 + r m) / 10), by omega, by have := HM.out; simp; omega, rfl, by omega, by omega, ⟨HIN.out.1.store hmt _, HIN.out.2.1.upd _ ⟨by omega, by omega⟩, fun i hi => by rw [upd_other r _ (by omega)]; exact HIN.out.2.2.1 i (by omega), by rw [show t - (j + 1) = m by have := HM.out; omega]; exact HST.out, HIN.out.2.2.2.2.1.setCell HG'.out.1 _, HIN.out.2.2.2.2.2.setCell _ _⟩⟩
          case measure => simp [intOf]; try omega
        · obtain rfl : j = t := by omega
          have HV2 : Hid (val d j = 10 * val r j + left) := by
            have h := HIN.out.2.2.2.1
            rw [Nat.sub_self] at h
            simp only [Nat.zero_add] at h
            exact h
          have HR2 : Hid (Row wr (some ⟨g', 0, none⟩) j rc r) := by
            obtain ⟨_, _, e, hRR⟩ := HIN.out.1.row
            simp only [Value.slice.injEq] at e
            obtain ⟨rfl, _, rfl⟩ := e
            exact hRR
          have HL2 : Hid (OutU w.heap.size wr (.slice lo k lc) k f) := HS.out.ol.of_block fun g hg => HIN.out.2.2.2.2.2.block g (HS.out.ol.ge hg).2 (fun e => HS.out.ap g' rfl (by rw [← e]; exact hg))
          have HZ2 : Hid (w.heap.size ≤ wr.heap.size) := (HS.out.below.trans HIN.out.2.2.2.2.1).size
          go_wp2_with fail
          refine (rtrim_any g' j rc r _ HR2.out).mono ?_
          rintro e w4 ⟨t', ht, htop, hz, rfl, hw⟩
          replace hw := hw.symm
          subst hw
          have HTZ : Hid (Top r t' ∧ ∀ i, t' ≤ i → i < j → r i = 0) := ⟨htop, hz⟩
          clear htop hz
          go_wp2_with (at_builtin; refine wpList_appU rfl _ _ rfl w.heap.size _ k f rfl (HL2.out.stays (bel_alloc _ _)) _ (48 + left) rfl (cell_one _ _ _ rfl) (by omega) (by have := HZ2.out; simp; omega) ?_; intro v3 w3 hO3 hg3 hat3)
          obtain ⟨hs4, hm4⟩ := HS.out.step HVP.out HIN.out.2.2.2.2.2 HIN.out.1 HIN.out.2.1 HV2.out hl0 hl1 HIN.out.2.2.2.2.1 hO3 hg3 hat3 ht HTZ.out.1 HTZ.out.2
          obtain ⟨o3, c3, rfl, _⟩ := hO3.shape
          have HS4 : Hid (TxR w w3 (val a n) (.slice (some ⟨g', 0, none⟩) t' rc) (.slice o3 (k + 1) c3) t' (k + 1) r (upd f k (48 + left))) := hs4
          have HM4 : Hid ((val r t').toNat < (val d j).toNat) := hm4
          clear hs4 hm4 hO3 hg3 hat3
          go_roundg ((val r t').toNat)
          case measure => rw [HGK.out]; exact HM4.out
          case rel => exact ⟨_, _, _, _, HS4.out, rfl⟩
    · obtain rfl : t = 0 := by omega
      have HE : Hid (rv f k = val a n) := by
        show _ = _
        rw [HS.out.eq, show val d 0 = 0 from rfl, Int.zero_mul, Int.zero_add]
      by_cases hk0 : k = 0
      · subst hk0
        have HZ : Hid (Lib.decDigits (val a n).toNat = [48]) := by
          show _ = _
          rw [← HE.out, show (rv f 0).toNat = 0 from rfl, Lib.decDigits]; simp
        go_wp2
        go_ret
        exact ⟨by rw [HZ.out]; simp, HS.out.below⟩
      · have ek : ((k : Int) == 0) = false := beq_eq_false_iff_ne.2 (by omega)
        obtain ⟨g, hlo⟩ := lsp (by omega)
        subst hlo
        have HG : Hid (w.heap.size ≤ g) := (HS.out.ol.ge (g := g) rfl).1
        have HL : Hid (revL f k = Lib.decDigits (val a n).toNat) := by
          show _ = _
          obtain ⟨j, rfl⟩ : ∃ j, k = j + 1 := ⟨k - 1, by omega⟩
          have htop := HS.out.top (by omega) rfl
          rw [Nat.add_sub_cancel] at htop
          obtain ⟨h1, h2, h3, h4⟩ := dec_ok (val a n).toNat
          refine okL_unique (revL_ok HS.out.df htop) ⟨h1, h2, ?_⟩ (by rw [(revL_num HS.out.df).2, HE.out, h3]; have := HA.out.2; omega)
          by_cases hz : 0 < (val a n).toNat
          · exact .inr (h4 hz)
          · left; rw [show (val a n).toNat = 0 by omega, Lib.decDigits]; simp
        have e2 : (k : Int) / 2 = ((k / 2 : Nat) : Int) := by omega
        obtain ⟨K2, hK2⟩ : ∃ K2, K2 = k / 2 := ⟨_, rfl⟩
        have eK : (k : Int) / 2 = K2 := by omega
        have HK2 : Hid (K2 = k / 2) := hK2
        have hK3 : 2 * K2 ≤ k := by omega
        clear e2 hK2 lsp rr
        have hkk : k ≤ 9223372036854775807 := by omega
        go_wp2
        go_loopw [7] (fun c wi => ∃ i : Nat, c = .int .i64 i ∧ i ≤ K2 ∧ Hid (OutU w.heap.size wi (.slice (some ⟨g, 0, none⟩) k lc) k (halfR f k i)) ∧ Hid (Below w.heap.size w wi)) (fun c _ => K2 - (intOf c).toNat)
        case atStart => exact ⟨0, rfl, Nat.zero_le _, HS.out.ol.congr fun i hi => by unfold halfR; rw [if_neg (by omega)], HS.out.below⟩
        case round =>
          obtain ⟨i, rfl, hi, HO, HB⟩ := hrel
          by_cases hlt : i < K2
          · obtain ⟨m, hm⟩ : ∃ m, m = k - 1 - i := ⟨_, rfl⟩
            have em : (k : Int) - 1 - i = m := by omega
            have hmk : m < k := by omega
            have hik : i < k := by omega
            have c0 := HO.out.cell hik
            have c1 := HO.out.cell hmk
            have f0 := HO.out.frozen i
            have f1 := HO.out.frozen m
            have HN : Hid (OutU w.heap.size ((wr.setCell ⟨g, i, none⟩ (.int .u8 (halfR f k i m))).setCell ⟨g, m, none⟩ (.int .u8 (halfR f k i i))) (.slice (some ⟨g, 0, none⟩) k lc) k (halfR f k (i + 1))) :=
              (((HO.out.store hik (halfR f k i m)).store hmk (halfR f k i i)).congr fun j hj => by
                rw [hm]; exact halfR_step (by have := HK2.out; omega) j hj)
            clear hm
            go_wp2
            go_roundw
            case rel => exact ⟨i + 1, by go_num, by omega, HN.out, (HB.out.setCell HG.out _).setCell HG.out _⟩
            case measure => simp [intOf]; omega
          · obtain rfl : i = K2 := by omega
            have hback : (convert 51 9 (.slice (some ⟨g, 0, none⟩) k lc)).run Tryd.prog wr = .ok (.string ⟨(Lib.decDigits (val a n).toNat).toArray⟩) wr := by
              have h := run_convert_bytes_arg (P := Tryd.prog) wr 51 5 Tryd.underlying51 Tryd.underlying5 g 0 k lc ((List.range k).map (halfR f k i)) (by simp) (fun j hj => by
                rw [Nat.zero_add, HO.out.cell hj]
                simp [List.getD, hj]) 9 Tryd.underlying9
              rw [h]
              unfold strOfNums
              rw [revL_list f (halfR f k i) k (fun j hj => by rw [HK2.out]; exact halfR_end j hj), HL.out]
            go_wp2
            go_ret
            exact ⟨rfl, HB.out⟩
end Go.Proofs.YtkihodaaofceeaaDoor

/-
  plumblaw2's texts: there and back: by its contract.
-/
namespace Go.Proofs.YtkihodaaofceeaaDoor
open Go Go.RowKit Go.Proofs.YtkihodaaofceeaaDoor.M
set_option linter.unusedSimpArgs false
set_option linter.unusedVariables false

theorem big_nat : (2 : Nat) ^ 60000 ≤ 10 ^ 18062 := by decide +kernel
theorem pow_cast_le {a b m n : Nat} {x y : Int} (hx : x = (a : Int)) (hy : y = (b : Int)) (h : a ^ m ≤ b ^ n) : x ^ m ≤ y ^ n := by
  rw [hx, hy, ← Int.natCast_pow, ← Int.natCast_pow]
  exact Int.ofNat_le.2 h
theorem big_int : (2 : Int) ^ 60000 ≤ 10 ^ 18062 := pow_cast_le (a := 2) (b := 10) rfl rfl big_nat
theorem okL_short {l : List UInt8} (h : OkL l) (hA : numL l < P 2000) : l.length ≤ 18062 := by
  by_cases h2 : 2 ≤ l.length
  · have h1 := okL_big h h2
    by_cases q : l.length ≤ 18062
    · exact q
    · have h3 := ten_mono (show 18062 ≤ l.length - 1 by omega)
      rw [P2000_two] at hA
      exact absurd hA (Int.not_lt.2 (Int.le_trans big_int (Int.le_trans h3 h1)))
  · omega
theorem byt_list {l : List UInt8} {i : Nat} (h : i < l.length) : byt ⟨l.toArray⟩ i = (l[i].toNat : Int) := by
  rw [byt_at (show i < (⟨l.toArray⟩ : ByteArray).size from h)]
  rfl
theorem num_list {l : List UInt8} : ∀ {k : Nat}, k ≤ l.length → num ⟨l.toArray⟩ k = numL (l.take k)
  | 0, _ => by simp [num, numL]
  | k + 1, h => by
    rw [List.take_succ_eq_append_getElem (show k < l.length by omega), numL_snoc, ← num_list (show k ≤ l.length by omega), ← byt_list (show k < l.length by omega)]
    rfl
theorem okT_list {l : List UInt8} (h : OkL l) : okT ⟨l.toArray⟩ = true := by
  obtain ⟨hd, hne, hh⟩ := h
  have hl : 0 < l.length := List.length_pos_iff.2 hne
  refine okT_yes ⟨fun i hi => ?_, hl, ?_⟩
  · have hi' : i < l.length := hi
    rw [byt_list hi']
    have := hd l[i] (List.getElem_mem hi')
    omega
  · rcases hh with e | e
    · exact .inl e
    · right
      rw [byt_list hl]
      intro e2
      refine e ?_
      obtain ⟨x, xs, rfl⟩ := List.exists_cons_of_ne_nil hne
      simp only [List.head?_cons, Option.some.injEq]
      have e3 : x.toNat = 48 := by
        have : ((x :: xs)[0].toNat : Int) = 48 := e2
        simp at this
        omega
      exact UInt8.toNat_inj.1 (by rw [show (48 : UInt8).toNat = 48 from rfl]; exact e3)
theorem read_back {A : Int} (h0 : 0 ≤ A) (hA : A < P 2000) (w : World) :
    Calls Tryd.prog 57 #[.string ⟨(Lib.decDigits A.toNat).toArray⟩] w fun e w' => ∃ v, e = .returned (.tuple #[v, .int .i64 0]) ∧ Ans w w' A v := by
  obtain ⟨h1, h2, h3, h4⟩ := dec_ok A.toNat
  have hok : OkL (Lib.decDigits A.toNat) := ⟨h1, h2, by
    by_cases hz : 0 < A.toNat
    · exact .inr (h4 hz)
    · left; rw [show A.toNat = 0 by omega, Lib.decDigits]; simp⟩
  have hn : numL (Lib.decDigits A.toNat) = A := by rw [h3]; omega
  generalize Lib.decDigits A.toNat = l at *
  have hsz : (⟨l.toArray⟩ : ByteArray).size = l.length := List.size_toArray
  have hnum : num ⟨l.toArray⟩ (⟨l.toArray⟩ : ByteArray).size = A := by rw [hsz, num_list (Nat.le_refl _), List.take_length, hn]
  have h := read_big ⟨l.toArray⟩ w (by rw [hsz]; exact okL_short hok (by rw [hn]; exact hA)) (okT_list hok) (by rw [hnum]; exact hA)
  rw [hnum] at h
  exact h
set_option maxRecDepth 100000 in
set_option maxHeartbeats 1000000 in
theorem texts_any {w : World} {x y : Value} {A : Int} (hx : Num w x A) (hy : Num w y A) (hA : A < P 2000) (hT : Pow10 w) :
    Calls Tryd.prog 29 #[x, y] w fun e w' => e = .returned (.bool true) ∧ Below w.heap.size w w' := by
  have HA : Hid (A < P 2000 ∧ 0 ≤ A) := ⟨hA, hx.nonneg⟩
  have HX : Hid (Num w x A ∧ Num w y A ∧ Pow10 w) := ⟨hx, hy, hT⟩
  obtain ⟨xo, xn, xc, rfl⟩ := hx.shape
  obtain ⟨yo, yn, yc, rfl⟩ := hy.shape
  have HRB : Hid (∀ W : World, Calls Tryd.prog 57 #[.string ⟨(Lib.decDigits A.toNat).toArray⟩] W fun e w' => ∃ v, e = .returned (.tuple #[v, .int .i64 0]) ∧ Ans W w' A v) := fun W => read_back HA.out.2 HA.out.1 W
  have HT1 : Hid (Calls Tryd.prog 21 #[.slice xo xn xc] w fun e w' => e = .returned (.tuple #[.string ⟨(Lib.decDigits A.toNat).toArray⟩, .int .i64 0]) ∧ Below w.heap.size w w') := text_any hx hA hT
  have HT2 : Hid (∀ W : World, Num W (.slice yo yn yc) A → Calls Tryd.prog 56 #[.slice yo yn yc] W fun e w' => e = .returned (.string ⟨(Lib.decDigits A.toNat).toArray⟩) ∧ Below W.heap.size W w') := fun W hW => rtext_any hW HA.out.1
  generalize (⟨(Lib.decDigits A.toNat).toArray⟩ : ByteArray) = s at HRB HT1 HT2
  clear hx hy hA hT
  go_enter Tryd.func29, Tryd.ntmps29
  go_wp2_with fail
  refine HT1.out.mono ?_
  rintro e w2 ⟨rfl, hb2⟩
  have HB2 : Hid (Below w.heap.size w w2) := hb2
  clear hb2
  go_wp2_with fail
  refine (HT2.out _ (HX.out.2.1.keeps HB2.out)).mono ?_
  rintro e w3 ⟨rfl, hb3⟩
  have HB3 : Hid (Below w.heap.size w w3) := bel_trans HB2.out hb3
  clear hb3
  go_wp2_with fail
  refine (HRB.out _).mono ?_
  rintro e w4 ⟨v4, rfl, hA4⟩
  have HB4 : Hid (Below w.heap.size w w4) := bel_trans HB3.out hA4.below
  have HN4 : Hid (Num w4 v4 A) := hA4.num
  obtain ⟨o4, n4, c4, rfl⟩ := hA4.num.shape
  clear hA4
  go_wp2_with fail
  refine (same_num HN4.out (HX.out.2.1.keeps HB4.out)).mono ?_
  rintro e w5 ⟨rfl, hb5⟩
  go_wp2
  go_ret
  exact ⟨rfl, bel_trans HB4.out hb5⟩
end Go.Proofs.YtkihodaaofceeaaDoor

/-
  plumblaw2.one: for every list and every number it answers true, what it keeps is kept, and it turns nothing that was there ahead of the law.
-/
namespace Go.Proofs.YtkihodaaofceeaaDoor
open Go Go.RowKit Go.Proofs.YtkihodaaofceeaaDoor.M
set_option linter.unusedSimpArgs false
set_option linter.unusedVariables false

set_option maxRecDepth 100000 in
set_option maxHeartbeats 4000000 in
theorem one_bad {w0 : World} {ao : Option Addr} {n ca : Nat} {a : Nat → Int} (ra : Row w0 ao n ca a) (hn : n ≤ 2100) (i : Int) (w : World) (hb0 : Below w0.heap.size w0 w) {k : Nat} {S : Nat → Prop} (hk : Kept w0.heap.size w k S) (hbad : okB a n = false) :
    Calls Tryd.prog 6 #[.pointer (some ⟨k, 0, none⟩), .slice ao n ca, .int .i64 i] w fun e w' => e = .returned (.bool true) ∧ Below w0.heap.size w0 w' ∧ ∃ S', Kept w0.heap.size w' k S' := by
  have HS0 : Hid (w0.heap.size ≤ w.heap.size) := hb0.size
  have HRA : Hid (Row w0 ao n ca a) := ra
  have HB : Hid (Below w0.heap.size w0 w) := hb0
  have HK : Hid (Kept w0.heap.size w k (fun g => g < w.heap.size)) := hk.old
  have hla := ra.le
  have hma := ra.max
  clear hb0 hk ra
  go_enter Tryd.func6, Tryd.ntmps6
  go_wp2_with fail
  refine (lent_any _ _ _ _ _ (HRA.out.stays HB.out (Nat.le_refl _)) (by omega)).mono ?_
  rintro e w1 ⟨vc, rfl, hLc⟩
  have HB1 : Hid (Below w.heap.size w w1) := hLc.below
  obtain ⟨gc, cc, rfl, HLc0⟩ := hLc.parts
  have HC : Hid (Out w.heap.size w1 (.slice (some ⟨gc, 0, none⟩) (n + 3) cc) (n + 3) (lentD a n)) := HLc0
  have LC : Hid (w.heap.size ≤ gc ∧ gc < w1.heap.size) := HC.out.ge rfl
  have hcm := lent_cap HC.out
  have HB01 : Hid (Below w0.heap.size w0 w1) := HB.out.trans (HB1.out.mono HB.out.size)
  have HR1 : Hid (Row w1 ao n ca a) := HRA.out.stays HB01.out (Nat.le_refl _)
  have HX1 : Hid (Row w1 (some ⟨gc, 0, none⟩) n cc a) := lent_row HC.out
  clear hLc HLc0
  go_wp2_with fail
  refine (rvalid_any _ _ _ _ _ HR1.out).mono ?_
  rintro e w' ⟨rfl, hw⟩
  replace hw := hw.symm
  subst hw
  go_wp2_with fail
  refine (int_bad _ _ _ _ _ HX1.out hbad).mono ?_
  rintro e w' ⟨rfl, hw⟩
  replace hw := hw.symm
  subst hw
  go_wp2_with fail
  refine (valid_any _ _ _ _ _ HX1.out).mono ?_
  rintro e w' ⟨rfl, hw⟩
  replace hw := hw.symm
  subst hw
  go_wp2_with fail
  refine (bit_bad _ _ _ _ i _ HX1.out hbad).mono ?_
  rintro e w' ⟨rfl, hw⟩
  replace hw := hw.symm
  subst hw
  go_wp2_with fail
  refine (shl_bad _ _ _ _ i _ HX1.out hbad).mono ?_
  rintro e w' ⟨rfl, hw⟩
  replace hw := hw.symm
  subst hw
  go_wp2_with fail
  refine (shr_bad _ _ _ _ i _ HX1.out hbad).mono ?_
  rintro e w' ⟨rfl, hw⟩
  replace hw := hw.symm
  subst hw
  go_wp2_with fail
  refine (pow_bad _ _ _ _ i _ HX1.out hbad).mono ?_
  rintro e w' ⟨rfl, hw⟩
  replace hw := hw.symm
  subst hw
  go_wp2_with fail
  refine (root_bad _ _ _ _ _ HX1.out hbad).mono ?_
  rintro e w' ⟨rfl, hw⟩
  replace hw := hw.symm
  subst hw
  go_wp2_with fail
  refine (text_bad _ _ _ _ _ HX1.out hbad).mono ?_
  rintro e w' ⟨rfl, hw⟩
  replace hw := hw.symm
  subst hw
  go_wp2_with fail
  refine (bits_bad _ _ _ _ _ HX1.out hbad).mono ?_
  rintro e w' ⟨rfl, hw⟩
  replace hw := hw.symm
  subst hw
  go_wp2_with fail
  refine (low_bad _ _ _ _ _ HX1.out hbad).mono ?_
  rintro e w' ⟨rfl, hw⟩
  replace hw := hw.symm
  subst hw
  have HRX : Hid (RowX gc w1 ao n ca a) := RowX.of0 HRA.out HB01.out (by have h1 := LC.out; have h0 := HS0.out; omega)
  go_wp2_with fail
  refine (back_any HC.out HRX.out HR1.out (by omega)).mono ?_
  rintro e wa ⟨rfl, hwr⟩
  have HWa : Hid (Wr gc w1 wa) := hwr
  clear hwr
  go_wp2
  go_ret
  refine ⟨rfl, HWa.out.below HB01.out HB01.out.size (by have h1 := LC.out; have h0 := HS0.out; omega), fun g => g < w.heap.size, ?_⟩
  obtain ⟨cur, z, ht⟩ := HC.out.typed (g := gc) rfl
  exact (HK.out.keeps HB1.out).wr HWa.out (by have := LC.out; omega) ht
/-- The end of 'one', of a number: Back, and ahead of it texts, powers, rooted, shifts. -/
def TBack (w0 : World) (k gc n cc : Nat) (ao : Option Addr) (ca : Nat) (w5 : World) : Prop :=
  Calls Tryd.prog 23 #[.slice (some ⟨gc, 0, none⟩) (n + 3) cc, .slice ao n ca] w5 fun e w' => e = .returned (.bool true) ∧ Below w0.heap.size w0 w' ∧ ∃ S', Kept w0.heap.size w' k S'
def TText (w0 : World) (k gc n cc : Nat) (ao : Option Addr) (ca : Nat) (w4 : World) : Prop :=
  Calls Tryd.prog 29 #[.slice (some ⟨gc, 0, none⟩) n cc, .slice ao n ca] w4 fun e w5 => e = .returned (.bool true) ∧ TBack w0 k gc n cc ao ca w5
def TPow (w0 : World) (k gc n cc : Nat) (ao : Option Addr) (ca : Nat) (i : Int) (w3 : World) : Prop :=
  Calls Tryd.prog 28 #[.pointer (some ⟨k, 0, none⟩), .slice (some ⟨gc, 0, none⟩) n cc, .slice ao n ca, .int .i64 i] w3 fun e w4 => e = .returned (.bool true) ∧ TText w0 k gc n cc ao ca w4
def TRoot (w0 : World) (k gc n cc : Nat) (ao : Option Addr) (ca : Nat) (i : Int) (w2 : World) : Prop :=
  Calls Tryd.prog 27 #[.pointer (some ⟨k, 0, none⟩), .slice (some ⟨gc, 0, none⟩) n cc, .slice ao n ca] w2 fun e w3 => e = .returned (.bool true) ∧ TPow w0 k gc n cc ao ca i w3
def TShift (w0 : World) (k gc n cc : Nat) (ao : Option Addr) (ca : Nat) (i : Int) (w1 : World) : Prop :=
  Calls Tryd.prog 26 #[.pointer (some ⟨k, 0, none⟩), .slice (some ⟨gc, 0, none⟩) n cc, .slice ao n ca, .int .i64 i] w1 fun e w2 => e = .returned (.bool true) ∧ TRoot w0 k gc n cc ao ca i w2
set_option maxRecDepth 100000 in
set_option maxHeartbeats 4000000 in
theorem one_tail {w0 w w1 : World} {ao : Option Addr} {n ca gc cc k : Nat} {a : Nat → Int} (HRA : Hid (Row w0 ao n ca a)) (HK : Hid (Kept w0.heap.size w k (fun g => g < w.heap.size))) (HB : Hid (Below w0.heap.size w0 w)) (HB1 : Hid (Below w.heap.size w w1))
    (HC : Hid (Out w.heap.size w1 (.slice (some ⟨gc, 0, none⟩) (n + 3) cc) (n + 3) (lentD a n))) (ok : okB a n = true) (HP : Hid (Pow10 w0)) (i : Int) (HI : Hid (rng i)) : TShift w0 k gc n cc ao ca i w1 := by
  have b01 : Below w0.heap.size w0 w1 := HB.out.trans (HB1.out.mono HB.out.size)
  have hN := (okB_out ok).2
  have hA : val a n < P 2000 := Int.lt_of_lt_of_le (val_lt hN.1) (P_le (okB_out ok).1)
  have LC := HC.out.ge (g := gc) rfl
  have z0 := HB.out.size
  unfold TShift TRoot TPow TText TBack
  refine (shifts_any (w0 := w0) (S := fun g => g < w.heap.size) ⟨lent_row HC.out, HRA.out, ok, b01, HK.out.keeps HB1.out⟩ i HI.out).mono ?_
  rintro e w2 ⟨rfl, hi2, S2', hk2, hs2⟩
  have b02 := b01.trans hi2.below
  have c2 := HC.out.ik hi2
  refine ⟨rfl, (rooted_any (w0 := w0) ⟨lent_row c2, HRA.out, ok, b02, hk2⟩).mono ?_⟩
  rintro e w3 ⟨rfl, hi3, S3', hk3, hs3⟩
  have b03 := b02.trans hi3.below
  have c3 := c2.ik hi3
  refine ⟨rfl, (powers_any (w0 := w0) ⟨lent_row c3, HRA.out, ok, b03, hk3⟩ i HI.out).mono ?_⟩
  rintro e w4 ⟨rfl, hi4, S4', hk4, hs4⟩
  have b04 := b03.trans hi4.below
  have c4 := c3.ik hi4
  refine ⟨rfl, (texts_any (lent_numA c4 hN) ((HRA.out.stays b04 (Nat.le_refl _)).num0 hN) hA (HP.out.keeps b04)).mono ?_⟩
  rintro e w5 ⟨rfl, hb5⟩
  have b05 := b04.trans (hb5.mono b04.size)
  have c5 := c4.stays hb5
  refine ⟨rfl, (back_any c5 (RowX.of0 HRA.out b05 (by omega)) (HRA.out.stays b05 (Nat.le_refl _)) (by have := (okB_out ok).1; omega)).mono ?_⟩
  rintro e w' ⟨rfl, hwr⟩
  refine ⟨rfl, hwr.below b05 b05.size (by omega), S4', ?_⟩
  obtain ⟨cur, z, ht⟩ := c5.typed (g := gc) rfl
  refine (hk4.keeps hb5).wr hwr (fun h => ?_) ht
  have z2 := hi2.below.size
  have z3 := hi3.below.size
  rcases hs4 gc h with q | q
  · rcases hs3 gc q with q | q
    · rcases hs2 gc q with q | q
      · omega
      · omega
    · omega
  · omega
end Go.Proofs.YtkihodaaofceeaaDoor

/-
  plumblaw2.one, of a number: it answers true, what it keeps is kept, and it turns nothing that was there ahead of the law.
-/
namespace Go.Proofs.YtkihodaaofceeaaDoor
open Go Go.RowKit Go.Proofs.YtkihodaaofceeaaDoor.M
set_option linter.unusedSimpArgs false
set_option linter.unusedVariables false

theorem int_small {A W x : Int} {a : Nat → Int} {m : Nat} (hd : Dig a (m + 1)) (h : W * P (m + 1) + val a (m + 1) = A) (h0 : 0 ≤ W) (hA : A < 9223372036854775808) : W * 1073741824 + a m ≤ 9223372036854775807 ∧ (W * 1073741824 + a m) * P m + val a m = A := by
  have e : (W * 1073741824 + a m) * P m + val a m = A := by
    rw [← h, P_succ, val_succ]; grind
  refine ⟨?_, e⟩
  have h1 := val_nonneg (hd.le (Nat.le_succ m))
  have h2 := P_pos m
  have h3 := (hd m (by omega)).1
  have h4 : (W * 1073741824 + a m) * 1 ≤ (W * 1073741824 + a m) * P m := Int.mul_le_mul_of_nonneg_left (by omega) (by omega)
  omega
set_option maxRecDepth 100000 in
set_option maxHeartbeats 4000000 in
theorem one_small {w0 : World} {ao : Option Addr} {n ca : Nat} {a : Nat → Int} (ra : Row w0 ao n ca a) (i : Int) (hi : rng i) (w : World) (hb0 : Below w0.heap.size w0 w) {k : Nat} {S : Nat → Prop} (hk : Kept w0.heap.size w k S) (ok : okB a n = true) (hT : Tab w0) (hP : Pow10 w0) (hL : blen (val a n) ≤ 63) :
    Calls Tryd.prog 6 #[.pointer (some ⟨k, 0, none⟩), .slice ao n ca, .int .i64 i] w fun e w' => e = .returned (.bool true) ∧ Below w0.heap.size w0 w' ∧ ∃ S', Kept w0.heap.size w' k S' := by
  have HRA : Hid (Row w0 ao n ca a) := ra
  have HB : Hid (Below w0.heap.size w0 w) := hb0
  have HK : Hid (Kept w0.heap.size w k (fun g => g < w.heap.size)) := hk.old
  have HTP : Hid (Tab w0 ∧ Pow10 w0) := ⟨hT, hP⟩
  have HI : Hid (rng i) := hi
  have hla := ra.le
  have hma := ra.max
  have hn := (okB_out ok).1
  have HN : Hid (Nrm a n) := (okB_out ok).2
  have HA : Hid (val a n < P 2000 ∧ 0 ≤ val a n) := ⟨Int.lt_of_lt_of_le (val_lt HN.out.1) (P_le hn), val_nonneg HN.out.1⟩
  obtain ⟨L, hLe⟩ : ∃ L, L = blen (val a n) := ⟨_, rfl⟩
  have HLe : Hid (L = blen (val a n)) := hLe
  rw [← hLe] at hL
  have hL6 : L ≤ 60000 := by rw [hLe]; exact blen60 HA.out.1
  have hLi : (L : Int) < 64 := by omega
  have HA63 : Hid (val a n < 9223372036854775808) := by
    show _ < _
    refine Int.lt_of_lt_of_le (blen_lt _) ?_
    rw [← hLe]
    exact Int.le_trans (two_le hL) (by decide)
  clear hb0 hk ra hT hP hi hLe
  go_enter Tryd.func6, Tryd.ntmps6
  go_wp2_with fail
  refine (lent_any _ _ _ _ _ (HRA.out.stays HB.out (Nat.le_refl _)) (by omega)).mono ?_
  rintro e w1 ⟨vc, rfl, hLc⟩
  have HB1 : Hid (Below w.heap.size w w1) := hLc.below
  obtain ⟨gc, cc, rfl, HLc0⟩ := hLc.parts
  have HC : Hid (Out w.heap.size w1 (.slice (some ⟨gc, 0, none⟩) (n + 3) cc) (n + 3) (lentD a n)) := HLc0
  have hcm := lent_cap HC.out
  have HB01 : Hid (Below w0.heap.size w0 w1) := HB.out.trans (HB1.out.mono HB.out.size)
  have HR1 : Hid (Row w1 ao n ca a) := HRA.out.stays HB01.out (Nat.le_refl _)
  have HX1 : Hid (Row w1 (some ⟨gc, 0, none⟩) n cc a) := lent_row HC.out
  have HNX : Hid (Num w1 (.slice (some ⟨gc, 0, none⟩) n cc) (val a n)) := lent_numA HC.out HN.out
  have HNA : Hid (Num w1 (.slice ao n ca) (val a n)) := HR1.out.num0 HN.out
  have HTAIL := one_tail HRA HK HB HB1 HC ok (show Hid (Pow10 w0) from HTP.out.2) i HI
  have HTAIL' : Hid (TShift w0 k gc n cc ao ca i w1) := HTAIL
  have HINT : Hid (Calls Tryd.prog 14 #[.slice (some ⟨gc, 0, none⟩) n cc] w1 fun e w' => e = .returned (.tuple #[.int .i64 (val a n), .bool true]) ∧ w' = w1) := by
    have h := int_num HNX.out HA.out.1
    rw [← HLe.out, show intV (val a n) = val a n by unfold intV; rw [← HLe.out, if_pos hL], decide_eq_true hL] at h
    exact h
  have HBIT : Hid (Calls Tryd.prog 15 #[.slice (some ⟨gc, 0, none⟩) n cc, .int .i64 i] w1 fun e w' => e = .returned (.bool (bitI (val a n) i)) ∧ w' = w1) := bit_all HNX.out HA.out.1 i HI.out
  have HRBIT : Hid (Calls Tryd.prog 16 #[.slice ao n ca, .int .i64 i] w1 fun e w' => e = .returned (.bool (bitI (val a n) i)) ∧ w' = w1) := rbit_all HNA.out HA.out.1 i HI.out
  have HBITS : Hid (Calls Tryd.prog 11 #[.slice (some ⟨gc, 0, none⟩) n cc] w1 fun e w' => e = .returned (.int .i64 L) ∧ w' = w1) := by
    have h := bits_num HNX.out HA.out.1
    rw [← HLe.out] at h
    exact h
  have HRBITS : Hid (Calls Tryd.prog 24 #[.slice ao n ca] w1 fun e w' => e = .returned (.int .i64 L) ∧ w' = w1) := by
    have h := rbits_any _ _ _ _ _ HR1.out HN.out (by omega)
    rw [← HLe.out] at h
    exact h
  have HLOW : Hid (Calls Tryd.prog 22 #[.slice (some ⟨gc, 0, none⟩) n cc] w1 fun e w' => ∃ l, e = .returned (.int .i64 l) ∧ LowA (val a n) l ∧ w' = w1) := low_num HNX.out HA.out.1 (HTP.out.1.keeps HB01.out)
  have HRLOW : Hid (Calls Tryd.prog 25 #[.slice ao n ca] w1 fun e w' => ∃ l, e = .returned (.int .i64 l) ∧ LowA (val a n) l ∧ w' = w1) := rlow_any _ _ _ _ _ HR1.out HN.out.1 (by omega)
  generalize bitI (val a n) i = bt at HBIT HRBIT
  have hbt : (bt != bt) = false := by cases bt <;> rfl
  clear hLc HLc0 HTAIL
  go_wp2_with fail
  refine (rvalid_any _ _ _ _ _ HR1.out).mono ?_
  rintro e w' ⟨rfl, hw⟩
  replace hw := hw.symm
  subst hw
  go_wp2_with fail
  refine (HINT.out).mono ?_
  rintro e w' ⟨rfl, hw⟩
  replace hw := hw.symm
  subst hw
  go_wp2_with fail
  refine (valid_any _ _ _ _ _ HX1.out).mono ?_
  rintro e w' ⟨rfl, hw⟩
  replace hw := hw.symm
  subst hw
  go_wp2_with fail
  refine (HBIT.out).mono ?_
  rintro e w' ⟨rfl, hw⟩
  replace hw := hw.symm
  subst hw
  go_wp2_with fail
  refine (HRBIT.out).mono ?_
  rintro e w' ⟨rfl, hw⟩
  replace hw := hw.symm
  subst hw
  go_wp2_with fail
  refine (HRBITS.out).mono ?_
  rintro e w' ⟨rfl, hw⟩
  replace hw := hw.symm
  subst hw
  go_wp2
  go_loop [23, 25] (fun wv iv => ∃ (j : Nat) (W : Int), j ≤ n ∧ iv = .int .i64 ((j : Int) - 1) ∧ wv = .int .i64 W ∧ 0 ≤ W ∧ Hid (W * P j + val a j = val a n)) (fun _ iv => (intOf iv + 1).toNat)
  case atStart => exact ⟨n, 0, Nat.le_refl _, rfl, rfl, by omega, by show _ = _; omega⟩
  case round =>
    obtain ⟨j, W, hj, rfl, rfl, hW0, HW⟩ := hrel
    by_cases hj0 : 0 < j
    · obtain ⟨m, rfl⟩ : ∃ m, j = m + 1 := ⟨j - 1, by omega⟩
      have em : ((m + 1 : Nat) : Int) - 1 = m := by omega
      obtain ⟨hb1, hb2⟩ := int_small (x := 0) (HN.out.1.le hj) HW.out hW0 HA63.out
      have HB2' : Hid ((W * 1073741824 + a m) * P m + val a m = val a n) := hb2
      obtain ⟨ba, fa, hba, hblt, hca⟩ := HR1.out.spot (by omega)
      subst hba
      have c1 := hca m (by omega)
      have dm := HN.out.1 m (by omega)
      rw [em]
      clear hb2 hca
      go_wp2
      go_round
      case rel => exact ⟨m, W * 1073741824 + a m, by omega, rfl, rfl, by omega, HB2'.out⟩
      case measure => simp [intOf]; try omega
    · obtain rfl : j = 0 := by omega
      obtain rfl : W = val a n := by
        have h := HW.out
        rw [show P 0 = 1 from rfl, show val a 0 = 0 from rfl] at h
        omega
      have haa : (val a n != val a n) = false := by simp
      have hll : ((L : Int) != (L : Int)) = false := by simp
      go_wp2_with fail
      refine (HBITS.out).mono ?_
      rintro e w' ⟨rfl, hw⟩
      replace hw := hw.symm
      subst hw
      go_wp2_with fail
      refine (HRBITS.out).mono ?_
      rintro e w' ⟨rfl, hw⟩
      replace hw := hw.symm
      subst hw
      go_wp2_with fail
      refine (HLOW.out).mono ?_
      rintro e w' ⟨l, rfl, hl1, hw⟩
      replace hw := hw.symm
      subst hw
      go_wp2_with fail
      refine (HRLOW.out).mono ?_
      rintro e w' ⟨l2, rfl, hl2, hw⟩
      replace hw := hw.symm
      subst hw
      obtain rfl := lowA_unique hl1 hl2
      have hlow : (l != l) = false := by simp
      clear hl1 hl2
      go_wp2_with fail
      have t1 := HTAIL'.out
      unfold TShift at t1
      refine t1.mono ?_
      rintro e w2 ⟨rfl, h2⟩
      have H2 : Hid (TRoot w0 k gc n cc ao ca i w2) := h2
      clear h2 t1
      go_wp2_with fail
      have t2 := H2.out
      unfold TRoot at t2
      refine t2.mono ?_
      rintro e w3 ⟨rfl, h3⟩
      have H3 : Hid (TPow w0 k gc n cc ao ca i w3) := h3
      clear h3 t2
      go_wp2_with fail
      have t3 := H3.out
      unfold TPow at t3
      refine t3.mono ?_
      rintro e w4 ⟨rfl, h4⟩
      have H4 : Hid (TText w0 k gc n cc ao ca w4) := h4
      clear h4 t3
      go_wp2_with fail
      have t4 := H4.out
      unfold TText at t4
      refine t4.mono ?_
      rintro e w5 ⟨rfl, h5⟩
      have H5 : Hid (TBack w0 k gc n cc ao ca w5) := h5
      clear h5 t4
      go_wp2_with fail
      have t5 := H5.out
      unfold TBack at t5
      refine t5.mono ?_
      rintro e w6 ⟨rfl, h6⟩
      go_wp2
      go_ret
      exact ⟨rfl, h6⟩
set_option maxRecDepth 100000 in
set_option maxHeartbeats 4000000 in
theorem one_great {w0 : World} {ao : Option Addr} {n ca : Nat} {a : Nat → Int} (ra : Row w0 ao n ca a) (i : Int) (hi : rng i) (w : World) (hb0 : Below w0.heap.size w0 w) {k : Nat} {S : Nat → Prop} (hk : Kept w0.heap.size w k S) (ok : okB a n = true) (hT : Tab w0) (hP : Pow10 w0) (hL : ¬ blen (val a n) ≤ 63) :
    Calls Tryd.prog 6 #[.pointer (some ⟨k, 0, none⟩), .slice ao n ca, .int .i64 i] w fun e w' => e = .returned (.bool true) ∧ Below w0.heap.size w0 w' ∧ ∃ S', Kept w0.heap.size w' k S' := by
  have HRA : Hid (Row w0 ao n ca a) := ra
  have HB : Hid (Below w0.heap.size w0 w) := hb0
  have HK : Hid (Kept w0.heap.size w k (fun g => g < w.heap.size)) := hk.old
  have HTP : Hid (Tab w0 ∧ Pow10 w0) := ⟨hT, hP⟩
  have HI : Hid (rng i) := hi
  have hla := ra.le
  have hma := ra.max
  have hn := (okB_out ok).1
  have HN : Hid (Nrm a n) := (okB_out ok).2
  have HA : Hid (val a n < P 2000 ∧ 0 ≤ val a n) := ⟨Int.lt_of_lt_of_le (val_lt HN.out.1) (P_le hn), val_nonneg HN.out.1⟩
  obtain ⟨L, hLe⟩ : ∃ L, L = blen (val a n) := ⟨_, rfl⟩
  have HLe : Hid (L = blen (val a n)) := hLe
  rw [← hLe] at hL
  have hL6 : L ≤ 60000 := by rw [hLe]; exact blen60 HA.out.1
  have hLi : (64 : Int) ≤ (L : Int) := by omega
  clear hb0 hk ra hT hP hi hLe
  go_enter Tryd.func6, Tryd.ntmps6
  go_wp2_with fail
  refine (lent_any _ _ _ _ _ (HRA.out.stays HB.out (Nat.le_refl _)) (by omega)).mono ?_
  rintro e w1 ⟨vc, rfl, hLc⟩
  have HB1 : Hid (Below w.heap.size w w1) := hLc.below
  obtain ⟨gc, cc, rfl, HLc0⟩ := hLc.parts
  have HC : Hid (Out w.heap.size w1 (.slice (some ⟨gc, 0, none⟩) (n + 3) cc) (n + 3) (lentD a n)) := HLc0
  have hcm := lent_cap HC.out
  have HB01 : Hid (Below w0.heap.size w0 w1) := HB.out.trans (HB1.out.mono HB.out.size)
  have HR1 : Hid (Row w1 ao n ca a) := HRA.out.stays HB01.out (Nat.le_refl _)
  have HX1 : Hid (Row w1 (some ⟨gc, 0, none⟩) n cc a) := lent_row HC.out
  have HNX : Hid (Num w1 (.slice (some ⟨gc, 0, none⟩) n cc) (val a n)) := lent_numA HC.out HN.out
  have HNA : Hid (Num w1 (.slice ao n ca) (val a n)) := HR1.out.num0 HN.out
  have HTAIL := one_tail HRA HK HB HB1 HC ok (show Hid (Pow10 w0) from HTP.out.2) i HI
  have HTAIL' : Hid (TShift w0 k gc n cc ao ca i w1) := HTAIL
  have HINT : Hid (Calls Tryd.prog 14 #[.slice (some ⟨gc, 0, none⟩) n cc] w1 fun e w' => e = .returned (.tuple #[.int .i64 (0), .bool false]) ∧ w' = w1) := by
    have h := int_num HNX.out HA.out.1
    rw [← HLe.out, show intV (val a n) = 0 by unfold intV; rw [← HLe.out, if_neg hL], decide_eq_false hL] at h
    exact h
  have HBIT : Hid (Calls Tryd.prog 15 #[.slice (some ⟨gc, 0, none⟩) n cc, .int .i64 i] w1 fun e w' => e = .returned (.bool (bitI (val a n) i)) ∧ w' = w1) := bit_all HNX.out HA.out.1 i HI.out
  have HRBIT : Hid (Calls Tryd.prog 16 #[.slice ao n ca, .int .i64 i] w1 fun e w' => e = .returned (.bool (bitI (val a n) i)) ∧ w' = w1) := rbit_all HNA.out HA.out.1 i HI.out
  have HBITS : Hid (Calls Tryd.prog 11 #[.slice (some ⟨gc, 0, none⟩) n cc] w1 fun e w' => e = .returned (.int .i64 L) ∧ w' = w1) := by
    have h := bits_num HNX.out HA.out.1
    rw [← HLe.out] at h
    exact h
  have HRBITS : Hid (Calls Tryd.prog 24 #[.slice ao n ca] w1 fun e w' => e = .returned (.int .i64 L) ∧ w' = w1) := by
    have h := rbits_any _ _ _ _ _ HR1.out HN.out (by omega)
    rw [← HLe.out] at h
    exact h
  have HLOW : Hid (Calls Tryd.prog 22 #[.slice (some ⟨gc, 0, none⟩) n cc] w1 fun e w' => ∃ l, e = .returned (.int .i64 l) ∧ LowA (val a n) l ∧ w' = w1) := low_num HNX.out HA.out.1 (HTP.out.1.keeps HB01.out)
  have HRLOW : Hid (Calls Tryd.prog 25 #[.slice ao n ca] w1 fun e w' => ∃ l, e = .returned (.int .i64 l) ∧ LowA (val a n) l ∧ w' = w1) := rlow_any _ _ _ _ _ HR1.out HN.out.1 (by omega)
  generalize bitI (val a n) i = bt at HBIT HRBIT
  have hbt : (bt != bt) = false := by cases bt <;> rfl
  clear hLc HLc0 HTAIL
  go_wp2_with fail
  refine (rvalid_any _ _ _ _ _ HR1.out).mono ?_
  rintro e w' ⟨rfl, hw⟩
  replace hw := hw.symm
  subst hw
  go_wp2_with fail
  refine (HINT.out).mono ?_
  rintro e w' ⟨rfl, hw⟩
  replace hw := hw.symm
  subst hw
  go_wp2_with fail
  refine (valid_any _ _ _ _ _ HX1.out).mono ?_
  rintro e w' ⟨rfl, hw⟩
  replace hw := hw.symm
  subst hw
  go_wp2_with fail
  refine (HBIT.out).mono ?_
  rintro e w' ⟨rfl, hw⟩
  replace hw := hw.symm
  subst hw
  go_wp2_with fail
  refine (HRBIT.out).mono ?_
  rintro e w' ⟨rfl, hw⟩
  replace hw := hw.symm
  subst hw
  go_wp2_with fail
  refine (HRBITS.out).mono ?_
  rintro e w' ⟨rfl, hw⟩
  replace hw := hw.symm
  subst hw
  go_wp2
  go_loop [23, 25] (fun wv iv => wv = .int .i64 0 ∧ iv = .int .i64 ((n : Int) - 1)) (fun _ _ => 0)
  case atStart => exact ⟨rfl, rfl⟩
  case round =>
    obtain ⟨rfl, rfl⟩ := hrel
    by_cases hn0 : n = 0
    · exact absurd hLi (by
        have h := HLe.out
        rw [hn0, show val a 0 = 0 from rfl, blen_zero] at h
        omega)
    · have hn1 : (0 : Int) ≤ (n : Int) - 1 := by omega
      have haa : (0 != 0) = false := by simp
      have hll : ((L : Int) != (L : Int)) = false := by simp
      go_wp2_with fail
      refine (HBITS.out).mono ?_
      rintro e w' ⟨rfl, hw⟩
      replace hw := hw.symm
      subst hw
      go_wp2_with fail
      refine (HRBITS.out).mono ?_
      rintro e w' ⟨rfl, hw⟩
      replace hw := hw.symm
      subst hw
      go_wp2_with fail
      refine (HLOW.out).mono ?_
      rintro e w' ⟨l, rfl, hl1, hw⟩
      replace hw := hw.symm
      subst hw
      go_wp2_with fail
      refine (HRLOW.out).mono ?_
      rintro e w' ⟨l2, rfl, hl2, hw⟩
      replace hw := hw.symm
      subst hw
      obtain rfl := lowA_unique hl1 hl2
      have hlow : (l != l) = false := by simp
      clear hl1 hl2
      go_wp2_with fail
      have t1 := HTAIL'.out
      unfold TShift at t1
      refine t1.mono ?_
      rintro e w2 ⟨rfl, h2⟩
      have H2 : Hid (TRoot w0 k gc n cc ao ca i w2) := h2
      clear h2 t1
      go_wp2_with fail
      have t2 := H2.out
      unfold TRoot at t2
      refine t2.mono ?_
      rintro e w3 ⟨rfl, h3⟩
      have H3 : Hid (TPow w0 k gc n cc ao ca i w3) := h3
      clear h3 t2
      go_wp2_with fail
      have t3 := H3.out
      unfold TPow at t3
      refine t3.mono ?_
      rintro e w4 ⟨rfl, h4⟩
      have H4 : Hid (TText w0 k gc n cc ao ca w4) := h4
      clear h4 t3
      go_wp2_with fail
      have t4 := H4.out
      unfold TText at t4
      refine t4.mono ?_
      rintro e w5 ⟨rfl, h5⟩
      have H5 : Hid (TBack w0 k gc n cc ao ca w5) := h5
      clear h5 t4
      go_wp2_with fail
      have t5 := H5.out
      unfold TBack at t5
      refine t5.mono ?_
      rintro e w6 ⟨rfl, h6⟩
      go_wp2
      go_ret
      exact ⟨rfl, h6⟩
theorem one_any {w0 : World} {ao : Option Addr} {n ca : Nat} {a : Nat → Int} (ra : Row w0 ao n ca a) (hn : n ≤ 2100) (i : Int) (hi : rng i) (w : World) (hb0 : Below w0.heap.size w0 w) {k : Nat} {S : Nat → Prop} (hk : Kept w0.heap.size w k S) (hT : Tab w0) (hP : Pow10 w0) :
    Calls Tryd.prog 6 #[.pointer (some ⟨k, 0, none⟩), .slice ao n ca, .int .i64 i] w fun e w' => e = .returned (.bool true) ∧ Below w0.heap.size w0 w' ∧ ∃ S', Kept w0.heap.size w' k S' := by
  cases ok : okB a n with
  | false => exact one_bad ra hn i w hb0 hk ok
  | true =>
    by_cases h : blen (val a n) ≤ 63
    · exact one_small ra i hi w hb0 hk ok hT hP h
    · exact one_great ra i hi w hb0 hk ok hT hP h
end Go.Proofs.YtkihodaaofceeaaDoor

/-
  plumblaw2's Keep: Apart, by its contract: what is kept lies apart, each answer in memory of its own.
-/
namespace Go.Proofs.YtkihodaaofceeaaDoor
open Go Go.RowKit Go.Proofs.YtkihodaaofceeaaDoor.M
set_option linter.unusedSimpArgs false
set_option linter.unusedVariables false

theorem zero_cells (L : Nat) : (Builtin.zeroCells (Value.int .i64 0).cells L).toList = vals (fun _ => 0) L := by
  apply vals_ext
  · rw [Array.length_toList, size_zeroCells]; show L * 1 = L; omega
  · intro i hi
    rw [Array.getElem?_toList]
    show ((Array.range (L * 1)).map fun i => (#[Value.int .i64 0] : Array Value)[i % 1]!)[i]? = _
    simp [Nat.mod_one, hi]
theorem run_append_room_zeros {P : Program} (w : World) (t tn ty e : TypeId) (i : TypeInfo) (z : Value) (kq kn : IntKind) (ht : P.underlying t = some (.slice e)) (htn : P.underlying tn = some (.int kn)) (hi : P.info? e = some i) (hz : i.zero = some z)
    (g sLen sCap : Nat) (cur : Array Value) (hg : w.heap[g]? = some (.cells cur e (0, 0))) (k : Nat) (h0 : 0 < k) (hs : 0 < i.size) (h1 : ∀ u ∈ (Builtin.zeroCells z.cells k).toList, u.oneCell' = true) (h63 : (k : Int) ≤ 9223372036854775807) (h48 : k * i.bytes ≤ 281474976710656)
    (hroom : sLen + k ≤ sCap) (hfit : sLen * i.size + (Builtin.zeroCells z.cells k).toList.length ≤ cur.size) :
    (Builtin.append_ #[t, tn] ty #[.slice (some ⟨g, 0, none⟩) sLen sCap, .int kq k]).run P w =
      .ok (.slice (some ⟨g, 0, none⟩) (sLen + k) sCap) (w.setRow g (cur.toList.take (sLen * i.size) ++ (Builtin.zeroCells z.cells k).toList ++ cur.toList.drop (sLen * i.size + (Builtin.zeroCells z.cells k).toList.length)).toArray) := by
  have hst := run_storeCells_at P g (sLen * i.size) e (Builtin.zeroCells z.cells k).toList 0 cur w hg (by simpa using hfit) h1
  simp only [Nat.add_zero] at hst
  have hk : k ≠ 0 := by omega
  have hw : IntKind.i64.wrap (k : Int) = k := by rw [IntKind.wrap_i64]; omega
  have h48i : ¬ (281474976710656 < (k : Int) * (i.bytes : Int)) := by
    rw [← Int.natCast_mul]
    omega
  have hneg : ¬ ((k : Int) < 0) := by omega
  have hns : ¬ (k * i.size = 0) := Nat.mul_ne_zero hk (by omega)
  simp [Builtin.append_, run_underlying ht, run_underlying htn, sizeOf, typeInfo, zeroValue, hi, hz, asInt, asIntOf, hw, hneg, hns, hroom, h48i, Addr.add_lit, hst]
/-- 'append(xs, make([]int, L)...)', L at least 1: the old slice reads as it did. -/
theorem run_zeros_keep {w : World} (ty : TypeId) (B : Nat) (v : Value) (n : Nat) (d : Nat → Int) (hO : Out B w v n d) (L : Nat) (hL : 0 < L) (hlen : n + L ≤ 1000000) (hB : B ≤ w.heap.size) :
    ∃ g cap w', (Builtin.append_ #[22, 3] ty #[v, .int .i64 L]).run Tryd.prog w = .ok (.slice (some ⟨g, 0, none⟩) (n + L) cap) w' ∧ Out B w' (.slice (some ⟨g, 0, none⟩) (n + L) cap) (n + L) (cat d n fun _ => 0) ∧ Out B w' v n d ∧ w.grownBy w' v.ownBlock ∧ (v.ownBlock = some g ∨ g = w.heap.size) := by
  obtain ⟨i0, hi, hz0, hz1, hz2⟩ := info_parts info_int
  have hone : ∀ u ∈ (Builtin.zeroCells (Value.int .i64 0).cells L).toList, u.oneCell' = true := by rw [zero_cells]; exact vals_one _ _
  have hzl : (Builtin.zeroCells (Value.int .i64 0).cells L).toList.length = L := by rw [zero_cells, vals_length]
  have fresh : ∀ (bo : Option Addr) (cap0 : Nat) (_ : v = .slice bo n cap0) (_ : cap0 < n + L) (_ : (Builtin.firstCells i0.size n (.slice bo n cap0)).run Tryd.prog w.drew = .ok (vals d n).toArray w.drew),
      ∃ g cap w', (Builtin.append_ #[22, 3] ty #[v, .int .i64 L]).run Tryd.prog w = .ok (.slice (some ⟨g, 0, none⟩) (n + L) cap) w' ∧ Out B w' (.slice (some ⟨g, 0, none⟩) (n + L) cap) (n + L) (cat d n fun _ => 0) ∧ Out B w' v n d ∧ w.grownBy w' v.ownBlock ∧ (v.ownBlock = some g ∨ g = w.heap.size) := by
    intro bo cap0 hv hcap hfc
    have hr := Lib.run_append_grow_zeros (P := Tryd.prog) w 22 3 ty 3 i0 (.int .i64 0) .i64 .i64 Tryd.underlying22 Tryd.underlying3 hi hz0 bo n cap0 (vals d n) hfc L hL (by rw [hz1]; decide) hcap (by omega) (by rw [hz2]; omega) (growslice_fits hcap (by rw [hz2]; omega))
    have hge := grownCap_ge w (n + L) cap0 3
    have hcm := grownCap_le_maxLen w (n + L) cap0 3 (by unfold maxLen; omega)
    refine ⟨_, _, _, by rw [hv]; exact hr, ⟨by rw [vals_length]; omega, .inr ⟨w.heap.size, _, _, rfl, hB, heap_alloc_new w.drew _, hge, hcm, ?_, ?_⟩⟩, ?_, ?_, .inr rfl⟩
    · simp only [Array.size_append, List.size_toArray, size_zeroCells, vals_length]
      show n + L * 1 + _ * 1 = _
      omega
    · simp only [Array.toList_append, zero_cells]
      rw [vals_cat, Nat.mul_one]
      exact List.take_left' (vals_length _ _)
    · exact Out.of_block hO fun g hg => Below.heap_alloc w.drew _ g (hO.ge hg).2
    · exact ⟨rfl, rfl, rfl, by simp, fun k hk _ => Below.heap_alloc w.drew _ k hk⟩
  rcases hO.2 with ⟨rfl, rfl⟩ | ⟨g0, cap0, cur, rfl, hbb, hg0, hn, hcm, hcs, htake⟩
  · exact fresh none 0 rfl (by omega) (by simp [run_firstCells_none, vals])
  · by_cases hroom : n + L ≤ cap0
    · have hr2 := run_append_room_zeros (P := Tryd.prog) w 22 3 ty 3 i0 (.int .i64 0) .i64 .i64 Tryd.underlying22 Tryd.underlying3 hi hz0 g0 n cap0 cur hg0 L hL (by rw [hz1]; decide) hone (by omega) (by rw [hz2]; omega) hroom (by rw [hzl, hz1]; omega)
      rw [hzl, hz1, zero_cells, Nat.mul_one] at hr2
      simp only [Nat.mul_one] at htake
      rw [htake] at hr2
      refine ⟨g0, cap0, _, hr2, ⟨by rw [vals_length]; omega, .inr ⟨g0, cap0, _, rfl, hbb, setRow_heap w g0 cur _ _ _ hg0, hroom, hcm, ?_, ?_⟩⟩, ⟨hO.1, .inr ⟨g0, cap0, _, rfl, hbb, setRow_heap w g0 cur _ _ _ hg0, hn, hcm, ?_, ?_⟩⟩, ⟨rfl, rfl, rfl, by simp, fun k _ hk => setRow_other w g0 k _ (fun e => hk (by simp [Value.ownBlock, e]))⟩, .inl rfl⟩
      · simp only [List.size_toArray, List.length_append, List.length_drop, Array.length_toList, vals_length]
        omega
      · rw [vals_cat, Nat.mul_one]
        exact List.take_left' (vals_length _ _)
      · simp only [List.size_toArray, List.length_append, List.length_drop, Array.length_toList, vals_length]
        omega
      · rw [List.append_assoc, Nat.mul_one]
        exact List.take_left' (vals_length _ _)
    · refine fresh _ cap0 rfl (by omega) ?_
      exact run_firstCells_some (P := Tryd.prog) w.drew i0.size n ⟨g0, 0, none⟩ n cap0 (vals d n) (by rw [vals_length, hz1]; omega) (hO.cells (g := g0) rfl)
theorem wpList_zeros_keep {w : World} {ops : Array Oper} {rest : List Oper} {o : Oper} {a : Act} {Q : Exit → Act → World → Prop} (hgd : o.guard = none) (s x : Operand) (ho : o.op = .call { callee := .builtin .append, args := #[s, x], argTypes := #[22, 3] })
    (B : Nat) (v : Value) (n : Nat) (d : Nat → Int) (hs : a.eval s = v) (hO : Out B w v n d) (L : Nat) (X : Int) (hx : a.eval x = .int .i64 X) (hX : X = L) (hL : 0 < L) (hlen : n + L ≤ 1000000) (hB : B ≤ w.heap.size)
    (h : ∀ g cap w', Out B w' (.slice (some ⟨g, 0, none⟩) (n + L) cap) (n + L) (cat d n fun _ => 0) → Out B w' v n d → w.grownBy w' v.ownBlock → (v.ownBlock = some g ∨ g = w.heap.size) → wpList Tryd.prog ops Q rest (a.put o.dst (.slice (some ⟨g, 0, none⟩) (n + L) cap)) w') : wpList Tryd.prog ops Q (o :: rest) a w := by
  subst hX
  obtain ⟨g, cap, w', hr, h2, h3, h4, h5⟩ := run_zeros_keep o.type B v n d hO L hL hlen hB
  exact Lib.wpList_append_run w hgd s x _ _ ho v (.int .i64 L) hs hx _ w' hr (h g cap w' h2 h3 h4 h5)
/-- A store elsewhere, or behind its end. -/
theorem Out.far {B : Nat} {w : World} {v : Value} {n : Nat} {d : Nat → Int} (h : Out B w v n d) (g j : Nat) (x : Int) (hj : v.ownBlock = some g → n ≤ j) : Out B (w.setCell ⟨g, j, none⟩ (.int .i64 x)) v n d := by
  rcases h.2 with ⟨rfl, rfl⟩ | ⟨g0, cap0, cur, rfl, hbb, hg0, hn, hcm, hcs, htake⟩
  · exact Out.nil _ _ _
  · by_cases e : g0 = g
    · subst e
      refine ⟨h.1, .inr ⟨g0, cap0, _, rfl, hbb, heap_setCell_same w g0 j cur _ _ hg0, hn, hcm, by simpa using hcs, ?_⟩⟩
      have hj := hj rfl
      rw [← htake]
      apply List.ext_getElem?
      intro i
      rw [List.getElem?_take, List.getElem?_take]
      split
      · rw [Array.getElem?_toList, Array.getElem?_toList, Array.getElem?_setIfInBounds_ne (by omega)]
      · rfl
    · exact h.of_block fun k hk => by
        simp only [Value.ownBlock, Option.some.injEq] at hk
        subst hk
        exact Below.heap_setCell _ _ _ _ e
/-- What is kept, as Apart turns it: m answers v of n digits d. -/
structure Ka (B : Nat) (w : World) (k m : Nat) (x y : Value) (v : Nat → Value) (n : Nat → Nat) (d : Nat → Nat → Int) : Prop where
  blk : w.heap[k]? = some (Obj.cells #[x, y] 26 (0, 0))
  ox : OutV B w x m v
  ge : B ≤ k
  ans : ∀ i, i < m → Out B w (v i) (n i) (d i)
  len : ∀ i, i < m → n i ≤ 100000
  apart : ∀ i j, i < m → j < m → i ≠ j → ∀ g, (v i).ownBlock = some g → (v j).ownBlock ≠ some g
theorem Ka.keeps {B : Nat} {w w' : World} {k m : Nat} {x y : Value} {v : Nat → Value} {n : Nat → Nat} {d : Nat → Nat → Int} (h : Ka B w k m x y v n d) (hb : Below w.heap.size w w') : Ka B w' k m x y v n d :=
  ⟨(hb.block k (Array.getElem?_eq_some_iff.1 h.blk).1).trans h.blk, h.ox.of_block fun g hg => hb.block g (h.ox.ge hg).2, h.ge, fun i hi => (h.ans i hi).stays hb, h.len, h.apart⟩
theorem Ka.step {B : Nat} {w w' : World} {k m : Nat} {x y : Value} {v : Nat → Value} {n : Nat → Nat} {d : Nat → Nat → Int} (h : Ka B w k m x y v n d) {i : Nat} (hi : i < m) {e : Nat → Int} (hg : w.grownBy w' (v i).ownBlock) (hO : Out B w' (v i) (n i) e) : Ka B w' k m x y v n (updV d i e) := by
  refine ⟨(hg.block k (Array.getElem?_eq_some_iff.1 h.blk).1 fun q => ?_).trans h.blk, h.ox.of_block fun g hgx => hg.block g (h.ox.ge hgx).2 fun q => ?_, h.ge, fun j hj => ?_, h.len, h.apart⟩
  · obtain ⟨cur, z, hc⟩ := (h.ans i hi).typed q.symm
    rw [h.blk] at hc
    simp at hc
  · obtain ⟨cur, z, hc⟩ := (h.ans i hi).typed q.symm
    obtain ⟨cur', z', hc'⟩ := h.ox.typed hgx
    rw [hc'] at hc
    simp at hc
  · by_cases q : j = i
    · subst q; rw [updV_same]; exact hO
    · rw [updV_other _ _ q]
      exact (h.ans j hj).of_block fun g hgj => hg.block g ((h.ans j hj).ge hgj).2 fun p => h.apart j i hj hi q g hgj p.symm
theorem grown_set (w : World) (g j : Nat) (x : Value) : w.grownBy (w.setCell ⟨g, j, none⟩ x) (some g) :=
  ⟨rfl, rfl, rfl, by simp [World.setCell], fun k hk hne => Below.heap_setCell _ _ _ _ fun e => hne (by change k = g at e; rw [e])⟩
theorem grown_trans {a b c : World} {r : Option Nat} (h : a.grownBy b r) (k : b.grownBy c r) : a.grownBy c r :=
  ⟨k.os.trans h.os, k.tape.trans h.tape, k.output.trans h.output, Nat.le_trans h.size k.size, fun i hi hne => (k.block i (Nat.lt_of_lt_of_le hi h.size) hne).trans (h.block i hi hne)⟩
theorem grown_more {w w' : World} {r : Option Nat} {g : Nat} (h : w.grownBy w' r) (hat : r = some g ∨ g = w.heap.size) (j : Nat) (x : Value) : w.grownBy (w'.setCell ⟨g, j, none⟩ x) r :=
  ⟨h.os, h.tape, h.output, by simp [World.setCell]; exact h.size, fun k hk hne => (Below.heap_setCell _ _ _ _ fun e => by
    change k = g at e
    rcases hat with q | q
    · exact hne (by rw [q, e])
    · omega).trans (h.block k hk hne)⟩
theorem World.ownsRow.capLe {w : World} {B : Nat} {e : TypeId} {ao : Option Addr} {n cap : Nat} {xs : List Value} (h : w.ownsRow B e 1 (.slice ao n cap) n xs) : n ≤ cap ∧ cap ≤ 9223372036854775807 := by
  rcases h.2 with ⟨q, _⟩ | ⟨g, cap', cur, q, _, _, hn, hm, _⟩
  · simp only [Value.slice.injEq] at q; omega
  · simp only [Value.slice.injEq] at q; unfold maxLen at hm; omega
theorem updV_self {α : Type} (v : Nat → α) (i : Nat) : updV v i (v i) = v := by
  funext j
  by_cases h : j = i
  · subst h; rw [updV_same]
  · rw [updV_other _ _ h]
theorem Ka.at {B : Nat} {w : World} {k m gx xc : Nat} {y : Value} {v : Nat → Value} {n : Nat → Nat} {d : Nat → Nat → Int} (h : Ka B w k m (.slice (some ⟨gx, 0, none⟩) m xc) y v n d) {p : Nat} (hp : p < m) :
    ∃ vo vc, v p = .slice vo (n p) vc ∧ n p ≤ vc ∧ vc ≤ 9223372036854775807 ∧ w.cell? ⟨gx, p, none⟩ = some (.slice vo (n p) vc) ∧ w.cell? ⟨k, 0, none⟩ = some (.slice (some ⟨gx, 0, none⟩) m xc) ∧ (0 < n p → ∃ g, vo = some ⟨g, 0, none⟩) := by
  obtain ⟨vo, vc, hv, rv⟩ := (h.ans p hp).row
  refine ⟨vo, vc, hv, rv.le, rv.max, ?_, (keep_at h.blk).1, fun hn => ?_⟩
  · rw [World.ownsRow.cellAt h.ox p (by omega), valsV_get v hp, hv]
  · have := h.ans p hp
    rw [hv] at this
    obtain ⟨g, e, _⟩ := this.spot hn
    exact ⟨g, e⟩
theorem Ka.cellAt {B : Nat} {w : World} {k m : Nat} {x y : Value} {v : Nat → Value} {n : Nat → Nat} {d : Nat → Nat → Int} (h : Ka B w k m x y v n d) {p s g vc : Nat} (hp : p < m) (hs : s < n p) (hv : v p = .slice (some ⟨g, 0, none⟩) (n p) vc) :
    w.cell? ⟨g, s, none⟩ = some (.int .i64 (d p s)) ∧ w.frozen? ⟨g, s, none⟩ = false := by
  have := h.ans p hp
  rw [hv] at this
  exact ⟨this.cell hs, this.frozen s⟩
theorem Ka.put {B : Nat} {w : World} {k m : Nat} {x y : Value} {v : Nat → Value} {n : Nat → Nat} {d : Nat → Nat → Int} (h : Ka B w k m x y v n d) {p s g vc : Nat} (hp : p < m) (hs : s < n p) (hv : v p = .slice (some ⟨g, 0, none⟩) (n p) vc) (z : Int) :
    Ka B (w.setCell ⟨g, s, none⟩ (.int .i64 z)) k m x y v n (updV d p (upd (d p) s z)) ∧ B ≤ g := by
  have h0 := h.ans p hp
  have h1 := h0
  rw [hv] at h0
  refine ⟨h.step hp (by rw [hv]; exact grown_set w g s _) (by rw [hv]; exact h0.store hs z), (h1.ge (g := g) (by rw [hv]; rfl)).1⟩
theorem same_self (ao bo : Option Addr) (n ca cb : Nat) (a : Nat → Int) (w : World) (ha : Row w ao n ca a) (hb : Row w bo n cb a) :
    Calls Tryd.prog 10 #[.slice ao n ca, .slice bo n cb] w fun e w' => e = .returned (.bool true) ∧ Below w.heap.size w w' := by
  refine (same_any ao bo n n ca cb a a w ha hb).mono ?_
  rintro e w' ⟨rfl, h⟩
  exact ⟨ret_bool (decide_eq_true ⟨rfl, fun _ _ => rfl⟩), h⟩
end Go.Proofs.YtkihodaaofceeaaDoor
