/-
  Parts of the proof, one behind another.
-/
import Derived.Test.YtmbajngbiefilaaGreatDoorPart14
import Derived.Test.YtmbajngbiefilaaGreatDoorPart11
import Derived.Test.YtmbajngbiefilaaGreatDoorPart13
import Derived.Deep.RegionWith
/-
  The document's own Text: the decimal numeral, by its contract.
-/
namespace Go.Proofs.YtmbajngbiefilaaGreatDoor
open Go Go.RowKit Go.Proofs.YtmbajngbiefilaaGreatDoor.M
set_option linter.unusedSimpArgs false
set_option linter.unusedVariables false

theorem ten_two : ∀ k : Nat, (2 : Int) ^ (3 * k) ≤ 10 ^ k
  | 0 => Int.le_refl _
  | k + 1 => by
    have h := ten_two k
    rw [show 3 * (k + 1) = 3 * k + 3 by omega, Int.pow_add, Int.pow_succ 10 k, show (2 : Int) ^ 3 = 8 from rfl]
    have h3 := two_pos (3 * k)
    omega
theorem rv_nonneg {f : Nat → Int} : ∀ {k : Nat}, DecF f k → 0 ≤ rv f k
  | 0, _ => Int.le_refl _
  | k + 1, h => by
    have h1 := rv_nonneg (k := k) fun i hi => h i (by omega)
    have h2 := h k (by omega)
    show 0 ≤ rv f k + (f k - 48) * _
    have := Int.mul_nonneg (show 0 ≤ f k - 48 by omega) (Int.le_of_lt (ten_pos k))
    omega
/-- The state of the document's Text. -/
structure TxR (w wr : World) (A : Int) (nv lv : Value) (t k : Nat) (d f : Nat → Int) : Prop where
  on : Out w.heap.size wr nv t d
  ol : OutU w.heap.size wr lv k f
  ap : ∀ g, nv.ownBlock = some g → lv.ownBlock ≠ some g
  nd : Nrm d t
  df : DecF f k
  eq : A = val d t * 10 ^ k + rv f k
  top : 0 < k → t = 0 → f (k - 1) ≠ 48
  below : Below w.heap.size w wr
theorem TxR.few {w wr : World} {A : Int} {nv lv : Value} {t k : Nat} {d f : Nat → Int} (h : TxR w wr A nv lv t k d f) (hA : A < P 2000) (hV : 0 < val d t) : k ≤ 20000 ∧ val d t ≤ A := by
  have h2 := rv_nonneg h.df
  have h0 := ten_pos k
  have h3 : (1 : Int) * 10 ^ k ≤ val d t * 10 ^ k := Int.mul_le_mul_of_nonneg_right (by omega) (by omega)
  have h6 : val d t * 1 ≤ val d t * 10 ^ k := Int.mul_le_mul_of_nonneg_left (by omega) (by omega)
  have e := h.eq
  refine ⟨?_, by omega⟩
  by_cases hk : k ≤ 20000
  · exact hk
  · have h1 := ten_two k
    rw [P2000_two] at hA
    have h4 : (2 : Int) ^ 60000 ≤ 2 ^ (3 * k) := two_le (by omega)
    have h5 : (2 : Int) ^ 60000 ≤ A := by rw [e]; omega
    exact absurd hA (Int.not_lt.2 h5)
theorem TxR.step {w wr w2 w3 : World} {A left : Int} {lv lv' : Value} {g' k t rc t' : Nat} {d r f : Nat → Int} {o : Obj} (h : TxR w wr A (.slice (some ⟨g', 0, none⟩) t rc) lv t k d f) (hV : 0 < val d t) (hWr : Wr g' wr w2)
    (hO2 : Out w.heap.size w2 (.slice (some ⟨g', 0, none⟩) t rc) t r) (hD2 : Dig r t) (hV2 : val d t = 10 * val r t + left) (hl0 : 0 ≤ left) (hl1 : left < 10) (hb2 : Below w.heap.size wr w2)
    (hO3 : OutU w.heap.size w3 lv' (k + 1) (upd f k (48 + left))) (hg3 : (w2.alloc o).grownBy w3 lv.ownBlock) (hat : lv'.ownBlock = lv.ownBlock ∨ lv'.ownBlock = some (w2.alloc o).heap.size) (ht : t' ≤ t) (htop : Top r t') (hz : ∀ i, t' ≤ i → i < t → r i = 0) :
    TxR w w3 A (.slice (some ⟨g', 0, none⟩) t' rc) lv' t' (k + 1) r (upd f k (48 + left)) ∧ (val r t').toNat < (val d t).toNat := by
  obtain ⟨hN, hv⟩ := nrm_of_top hD2 ht htop hz
  have r0 := val_nonneg hN.1
  have hg2 := (hO2.ge (g := g') rfl).2
  have hsz : (w2.alloc o).heap.size = w2.heap.size + 1 := by simp
  have hne : lv.ownBlock ≠ some g' := h.ap g' rfl
  have hO2' : Out w.heap.size w3 (.slice (some ⟨g', 0, none⟩) t rc) t r := hO2.of_block fun g hg => by
    have e : g' = g := by simpa [Value.ownBlock] using hg
    subst e
    exact (hg3.block g' (by omega) (fun e => hne e.symm)).trans (Below.heap_alloc _ _ _ hg2)
  refine ⟨⟨hO2'.cut ht, hO3, fun g hg hg' => ?_, hN, fun i hi => ?_, ?_, fun _ h0 => ?_, ?_⟩, by omega⟩
  · have e : g' = g := by simpa [Value.ownBlock] using hg
    subst e
    rcases hat with q | q
    · rw [q] at hg'; exact hne hg'
    · rw [q] at hg'
      simp only [Option.some.injEq] at hg'
      omega
  · by_cases e : i = k
    · rw [e, upd_same]; omega
    · rw [upd_other f _ e]; exact h.df i (by omega)
  · show A = _ * _ + (rv (upd f k (48 + left)) k + (upd f k (48 + left) k - 48) * 10 ^ k)
    rw [rv_congr fun i hi => upd_other f _ (show i ≠ k by omega), upd_same, h.eq, hV2, hv, Int.pow_succ]
    grind
  · subst h0
    have : val r 0 = 0 := rfl
    rw [Nat.add_sub_cancel, upd_same]
    omega
  · exact (h.below.trans hb2).trans ((Below.refl _ w2).alloc (h.below.trans hb2).size o |>.grown hg3 (by have := (h.below.trans hb2).size; omega) (fun g hg => (h.ol.ge hg).1))
/-- Half reversed: i from either end. -/
def halfR (f : Nat → Int) (n i : Nat) : Nat → Int := fun j => if j < i ∨ n - i ≤ j then f (n - 1 - j) else f j
theorem OutU.congr {B : Nat} {w : World} {v : Value} {n : Nat} {d e : Nat → Int} (h : OutU B w v n d) (he : ∀ i, i < n → d i = e i) : OutU B w v n e := by
  unfold OutU at h ⊢
  rwa [show valsU e n = valsU d n from (valsU_ext (valsU_length d n) fun i hi => by rw [valsU_get d hi, he i hi]).symm]
theorem halfR_step {f : Nat → Int} {n i : Nat} (hi : i < n / 2) : ∀ j, j < n → upd (upd (halfR f n i) i (halfR f n i (n - 1 - i))) (n - 1 - i) (halfR f n i i) j = halfR f n (i + 1) j := fun j hj => by
  by_cases h1 : j = n - 1 - i
  · subst h1
    rw [upd_same]
    unfold halfR
    rw [if_neg (by omega), if_pos (by omega)]
    congr 1
    omega
  · rw [upd_other _ _ h1]
    by_cases h2 : j = i
    · subst h2
      rw [upd_same]
      unfold halfR
      rw [if_neg (by omega), if_pos (by omega)]
    · rw [upd_other _ _ h2]
      unfold halfR
      by_cases h3 : j < i ∨ n - i ≤ j
      · rw [if_pos h3, if_pos (by omega)]
      · rw [if_neg h3, if_neg (by omega)]
theorem halfR_end {f : Nat → Int} {n : Nat} : ∀ j, j < n → halfR f n (n / 2) j = f (n - 1 - j) := fun j hj => by
  unfold halfR
  split
  · rfl
  · congr 1
    omega
set_option maxRecDepth 100000 in
set_option maxHeartbeats 4000000 in
theorem rtext_any {w : World} {x : Value} {A : Int} (hx : Num w x A) (hA : A < P 2000) :
    Calls Tryz.prog 68 #[x] w fun e w' => e = .returned (.string ⟨(Lib.decDigits A.toNat).toArray⟩) ∧ Below w.heap.size w w' := by
  obtain ⟨ao, n, ca, rfl⟩ := hx.shape
  have hn := hx.len hA
  have A0 := hx.nonneg
  obtain ⟨ao', n', ca', a, e, hR, na, rfl⟩ := hx
  simp only [Value.slice.injEq] at e
  obtain ⟨rfl, rfl, rfl⟩ := e
  have HA : Hid (val a n < P 2000 ∧ 0 ≤ val a n) := ⟨hA, A0⟩
  clear hA A0
  go_enter Tryz.func68, Tryz.ntmps68
  go_wp2_with (at_builtin; refine wpList_app rfl _ _ rfl w.heap.size _ 0 a rfl (Out.nil _ _ _) _ n ca a rfl hR (by omega) (Nat.le_refl _) ?_; intro v1 w1 hO0 hg1)
  have HS1 : Hid (TxR w w1 (val a n) v1 (.slice none 0 0) n 0 a (fun _ => 48)) := by
    rw [Nat.zero_add] at hO0
    exact ⟨hO0.congr fun i hi => by simp [cat], World.ownsRow_nil _ _ _ _, fun g _ h => by simp [Value.ownBlock] at h, na, fun i hi => by omega, by show _ = val a n * 1 + 0; omega, fun h => by omega, grown_below hg1⟩
  obtain ⟨o1, c1, rfl, _⟩ := HS1.out.on.row
  clear hO0 hg1
  go_loopg [0, 3] ((val a n).toNat) (fun g nv lv wr => ∃ t k d f, Hid (TxR w wr (val a n) nv lv t k d f) ∧ Hid (g = (val d t).toNat))
  case atStart => exact ⟨n, 0, a, _, HS1.out, rfl⟩
  case round =>
    clear HS1
    obtain ⟨t, k, d, f, HS, HGK⟩ := hrel
    obtain ⟨ro, rc, rfl, rr⟩ := HS.out.on.row
    obtain ⟨lo, lc, rfl, ll, lm, lsp⟩ := HS.out.ol.shape
    have rl := rr.le
    have rm := rr.max
    by_cases h0 : 0 < t
    · have HVP : Hid (0 < val d t) := val_pos HS.out.nd h0
      have hk3 : k ≤ 20000 := (HS.out.few HA.out.1 HVP.out).1
      have htl : t ≤ 2000 := (rr.num0 HS.out.nd).len (Int.lt_of_le_of_lt (HS.out.few HA.out.1 HVP.out).2 HA.out.1)
      obtain ⟨g', hro, hg1, hg2⟩ := HS.out.on.spot h0
      subst hro
      have HG' : Hid (w.heap.size ≤ g' ∧ g' < wr.heap.size) := ⟨hg1, hg2⟩
      clear hg1 hg2 rr lsp
      obtain ⟨wo, hwo⟩ : ∃ wo, wo = wr := ⟨_, rfl⟩
      subst hwo
      go_wp2
      go_loopw [4, 5] (fun c i wi => ∃ (j : Nat) (left : Int) (r : Nat → Int), j ≤ t ∧ i = .int .i64 ((t : Int) - j - 1) ∧ c = .int .i64 left ∧ 0 ≤ left ∧ left < 10 ∧ Hid (Out w.heap.size wi (.slice (some ⟨g', 0, none⟩) t rc) t r ∧ Dig r t ∧ (∀ i, i < t - j → r i = d i) ∧ val (fun i => d (t - j + i)) j = 10 * val (fun i => r (t - j + i)) j + left ∧ Below w.heap.size wo wi ∧ Wr g' wo wi)) (fun _ i _ => (intOf i + 1).toNat)
      case atStart => exact ⟨0, 0, d, Nat.zero_le _, by go_num, rfl, by omega, by omega, ⟨HS.out.on, HS.out.nd.1, fun _ _ => rfl, by show (0 : Int) = 10 * 0 + 0; omega, Below.refl _ _, Wr.refl _ _⟩⟩
      case round =>
        obtain ⟨j, left, r, hj, rfl, rfl, hl0, hl1, HIN⟩ := hrel
        by_cases hlt : j < t
        · obtain ⟨m, hm⟩ : ∃ m, t = m + 1 + j := ⟨t - 1 - j, by omega⟩
          have HM : Hid (t = m + 1 + j) := hm
          have em : (t : Int) - j - 1 = m := by omega
          have hmt : m < t := by omega
          rw [em]
          have hO := HIN.out.1
          have c1 := hO.cell hmt
          have f1 := hO.frozen m
          have dm := HIN.out.2.1 m hmt
          have HRm : Hid (r m = d m) := HIN.out.2.2.1 m (by omega)
          have hst := HIN.out.2.2.2.1
          rw [show t - j = m + 1 by omega] at hst
          have hs := short_step hst
          rw [← HRm.out] at hs
          have HST : Hid _ := hs
          clear hs hst hm hO
          go_wp2
          go_roundw
          case rel => exact ⟨j + 1, (left * 1073741824 + r m) % 10, upd r m ((left * 1073741824 + r m) / 10), by omega, by have := HM.out; simp; omega, rfl, by omega, by omega, ⟨HIN.out.1.store hmt _, HIN.out.2.1.upd _ ⟨by omega, by omega⟩, fun i hi => by rw [upd_other r _ (by omega)]; exact HIN.out.2.2.1 i (by omega), by rw [show t - (j + 1) = m by have := HM.out; omega]; exact HST.out, HIN.out.2.2.2.2.1.setCell HG'.out.1 _, HIN.out.2.2.2.2.2.setCell _ _⟩⟩
          case measure => simp [intOf]; try omega
        · obtain rfl : j = t := by omega
          have HV2 : Hid (val d j = 10 * val r j + left) := by
            have h := HIN.out.2.2.2.1
            rw [Nat.sub_self] at h
            simp only [Nat.zero_add] at h
            exact h
          have HR2 : Hid (Row wr (some ⟨g', 0, none⟩) j rc r) := by
            obtain ⟨_, _, e, hRR⟩ := HIN.out.1.row
            simp only [Value.slice.injEq] at e
            obtain ⟨rfl, _, rfl⟩ := e
            exact hRR
          have HL2 : Hid (OutU w.heap.size wr (.slice lo k lc) k f) := HS.out.ol.of_block fun g hg => HIN.out.2.2.2.2.2.block g (HS.out.ol.ge hg).2 (fun e => HS.out.ap g' rfl (by rw [← e]; exact hg))
          have HZ2 : Hid (w.heap.size ≤ wr.heap.size) := (HS.out.below.trans HIN.out.2.2.2.2.1).size
          go_wp2_with fail
          refine (rtrim_any g' j rc r _ HR2.out).mono ?_
          rintro e w4 ⟨t', ht, htop, hz, rfl, hw⟩
          replace hw := hw.symm
          subst hw
          have HTZ : Hid (Top r t' ∧ ∀ i, t' ≤ i → i < j → r i = 0) := ⟨htop, hz⟩
          clear htop hz
          go_wp2_with (at_builtin; refine wpList_appU rfl _ _ rfl w.heap.size _ k f rfl (HL2.out.stays (bel_alloc _ _)) _ (48 + left) rfl (cell_one _ _ _ rfl) (by omega) (by have := HZ2.out; simp; omega) ?_; intro v3 w3 hO3 hg3 hat3)
          obtain ⟨hs4, hm4⟩ := HS.out.step HVP.out HIN.out.2.2.2.2.2 HIN.out.1 HIN.out.2.1 HV2.out hl0 hl1 HIN.out.2.2.2.2.1 hO3 hg3 hat3 ht HTZ.out.1 HTZ.out.2
          obtain ⟨o3, c3, rfl, _⟩ := hO3.shape
          have HS4 : Hid (TxR w w3 (val a n) (.slice (some ⟨g', 0, none⟩) t' rc) (.slice o3 (k + 1) c3) t' (k + 1) r (upd f k (48 + left))) := hs4
          have HM4 : Hid ((val r t').toNat < (val d j).toNat) := hm4
          clear hs4 hm4 hO3 hg3 hat3
          go_roundg ((val r t').toNat)
          case measure => rw [HGK.out]; exact HM4.out
          case rel => exact ⟨_, _, _, _, HS4.out, rfl⟩
    · obtain rfl : t = 0 := by omega
      have HE : Hid (rv f k = val a n) := by
        show _ = _
        rw [HS.out.eq, show val d 0 = 0 from rfl, Int.zero_mul, Int.zero_add]
      by_cases hk0 : k = 0
      · subst hk0
        have HZ : Hid (Lib.decDigits (val a n).toNat = [48]) := by
          show _ = _
          rw [← HE.out, show (rv f 0).toNat = 0 from rfl, Lib.decDigits]; simp
        go_wp2
        go_ret
        exact ⟨by rw [HZ.out]; simp, HS.out.below⟩
      · have ek : ((k : Int) == 0) = false := beq_eq_false_iff_ne.2 (by omega)
        obtain ⟨g, hlo⟩ := lsp (by omega)
        subst hlo
        have HG : Hid (w.heap.size ≤ g) := (HS.out.ol.ge (g := g) rfl).1
        have HL : Hid (revL f k = Lib.decDigits (val a n).toNat) := by
          show _ = _
          obtain ⟨j, rfl⟩ : ∃ j, k = j + 1 := ⟨k - 1, by omega⟩
          have htop := HS.out.top (by omega) rfl
          rw [Nat.add_sub_cancel] at htop
          obtain ⟨h1, h2, h3, h4⟩ := dec_ok (val a n).toNat
          refine okL_unique (revL_ok HS.out.df htop) ⟨h1, h2, ?_⟩ (by rw [(revL_num HS.out.df).2, HE.out, h3]; have := HA.out.2; omega)
          by_cases hz : 0 < (val a n).toNat
          · exact .inr (h4 hz)
          · left; rw [show (val a n).toNat = 0 by omega, Lib.decDigits]; simp
        have e2 : (k : Int) / 2 = ((k / 2 : Nat) : Int) := by omega
        obtain ⟨K2, hK2⟩ : ∃ K2, K2 = k / 2 := ⟨_, rfl⟩
        have eK : (k : Int) / 2 = K2 := by omega
        have HK2 : Hid (K2 = k / 2) := hK2
        have hK3 : 2 * K2 ≤ k := by omega
        clear e2 hK2 lsp rr
        have hkk : k ≤ 9223372036854775807 := by omega
        go_wp2
        go_loopw [7] (fun c wi => ∃ i : Nat, c = .int .i64 i ∧ i ≤ K2 ∧ Hid (OutU w.heap.size wi (.slice (some ⟨g, 0, none⟩) k lc) k (halfR f k i)) ∧ Hid (Below w.heap.size w wi)) (fun c _ => K2 - (intOf c).toNat)
        case atStart => exact ⟨0, rfl, Nat.zero_le _, HS.out.ol.congr fun i hi => by unfold halfR; rw [if_neg (by omega)], HS.out.below⟩
        case round =>
          obtain ⟨i, rfl, hi, HO, HB⟩ := hrel
          by_cases hlt : i < K2
          · obtain ⟨m, hm⟩ : ∃ m, m = k - 1 - i := ⟨_, rfl⟩
            have em : (k : Int) - 1 - i = m := by omega
            have hmk : m < k := by omega
            have hik : i < k := by omega
            have c0 := HO.out.cell hik
            have c1 := HO.out.cell hmk
            have f0 := HO.out.frozen i
            have f1 := HO.out.frozen m
            have HN : Hid (OutU w.heap.size ((wr.setCell ⟨g, i, none⟩ (.int .u8 (halfR f k i m))).setCell ⟨g, m, none⟩ (.int .u8 (halfR f k i i))) (.slice (some ⟨g, 0, none⟩) k lc) k (halfR f k (i + 1))) :=
              (((HO.out.store hik (halfR f k i m)).store hmk (halfR f k i i)).congr fun j hj => by
                rw [hm]; exact halfR_step (by have := HK2.out; omega) j hj)
            clear hm
            go_wp2
            go_roundw
            case rel => exact ⟨i + 1, by go_num, by omega, HN.out, (HB.out.setCell HG.out _).setCell HG.out _⟩
            case measure => simp [intOf]; omega
          · obtain rfl : i = K2 := by omega
            have hback : (convert 65 9 (.slice (some ⟨g, 0, none⟩) k lc)).run Tryz.prog wr = .ok (.string ⟨(Lib.decDigits (val a n).toNat).toArray⟩) wr := by
              have h := run_convert_bytes_arg (P := Tryz.prog) wr 65 5 Tryz.underlying65 Tryz.underlying5 g 0 k lc ((List.range k).map (halfR f k i)) (by simp) (fun j hj => by
                rw [Nat.zero_add, HO.out.cell hj]
                simp [List.getD, hj]) 9 Tryz.underlying9
              rw [h]
              unfold strOfNums
              rw [revL_list f (halfR f k i) k (fun j hj => by rw [HK2.out]; exact halfR_end j hj), HL.out]
            go_wp2
            go_ret
            exact ⟨rfl, HB.out⟩
end Go.Proofs.YtmbajngbiefilaaGreatDoor

/-
  plumblaw2's texts: there and back: by its contract.
-/
namespace Go.Proofs.YtmbajngbiefilaaGreatDoor
open Go Go.RowKit Go.Proofs.YtmbajngbiefilaaGreatDoor.M
set_option linter.unusedSimpArgs false
set_option linter.unusedVariables false

theorem big_nat : (2 : Nat) ^ 60000 ≤ 10 ^ 18062 := by decide +kernel
theorem pow_cast_le {a b m n : Nat} {x y : Int} (hx : x = (a : Int)) (hy : y = (b : Int)) (h : a ^ m ≤ b ^ n) : x ^ m ≤ y ^ n := by
  rw [hx, hy, ← Int.natCast_pow, ← Int.natCast_pow]
  exact Int.ofNat_le.2 h
theorem big_int : (2 : Int) ^ 60000 ≤ 10 ^ 18062 := pow_cast_le (a := 2) (b := 10) rfl rfl big_nat
theorem okL_short {l : List UInt8} (h : OkL l) (hA : numL l < P 2000) : l.length ≤ 18062 := by
  by_cases h2 : 2 ≤ l.length
  · have h1 := okL_big h h2
    by_cases q : l.length ≤ 18062
    · exact q
    · have h3 := ten_mono (show 18062 ≤ l.length - 1 by omega)
      rw [P2000_two] at hA
      exact absurd hA (Int.not_lt.2 (Int.le_trans big_int (Int.le_trans h3 h1)))
  · omega
theorem byt_list {l : List UInt8} {i : Nat} (h : i < l.length) : byt ⟨l.toArray⟩ i = (l[i].toNat : Int) := by
  rw [byt_at (show i < (⟨l.toArray⟩ : ByteArray).size from h)]
  rfl
theorem num_list {l : List UInt8} : ∀ {k : Nat}, k ≤ l.length → num ⟨l.toArray⟩ k = numL (l.take k)
  | 0, _ => by simp [num, numL]
  | k + 1, h => by
    rw [List.take_succ_eq_append_getElem (show k < l.length by omega), numL_snoc, ← num_list (show k ≤ l.length by omega), ← byt_list (show k < l.length by omega)]
    rfl
theorem okT_list {l : List UInt8} (h : OkL l) : okT ⟨l.toArray⟩ = true := by
  obtain ⟨hd, hne, hh⟩ := h
  have hl : 0 < l.length := List.length_pos_iff.2 hne
  refine okT_yes ⟨fun i hi => ?_, hl, ?_⟩
  · have hi' : i < l.length := hi
    rw [byt_list hi']
    have := hd l[i] (List.getElem_mem hi')
    omega
  · rcases hh with e | e
    · exact .inl e
    · right
      rw [byt_list hl]
      intro e2
      refine e ?_
      obtain ⟨x, xs, rfl⟩ := List.exists_cons_of_ne_nil hne
      simp only [List.head?_cons, Option.some.injEq]
      have e3 : x.toNat = 48 := by
        have : ((x :: xs)[0].toNat : Int) = 48 := e2
        simp at this
        omega
      exact UInt8.toNat_inj.1 (by rw [show (48 : UInt8).toNat = 48 from rfl]; exact e3)
theorem read_back {A : Int} (h0 : 0 ≤ A) (hA : A < P 2000) (w : World) :
    Calls Tryz.prog 69 #[.string ⟨(Lib.decDigits A.toNat).toArray⟩] w fun e w' => ∃ v, e = .returned (.tuple #[v, .int .i64 0]) ∧ Ans w w' A v := by
  obtain ⟨h1, h2, h3, h4⟩ := dec_ok A.toNat
  have hok : OkL (Lib.decDigits A.toNat) := ⟨h1, h2, by
    by_cases hz : 0 < A.toNat
    · exact .inr (h4 hz)
    · left; rw [show A.toNat = 0 by omega, Lib.decDigits]; simp⟩
  have hn : numL (Lib.decDigits A.toNat) = A := by rw [h3]; omega
  generalize Lib.decDigits A.toNat = l at *
  have hsz : (⟨l.toArray⟩ : ByteArray).size = l.length := List.size_toArray
  have hnum : num ⟨l.toArray⟩ (⟨l.toArray⟩ : ByteArray).size = A := by rw [hsz, num_list (Nat.le_refl _), List.take_length, hn]
  have h := read_big ⟨l.toArray⟩ w (by rw [hsz]; exact okL_short hok (by rw [hn]; exact hA)) (okT_list hok) (by rw [hnum]; exact hA)
  rw [hnum] at h
  exact h
set_option maxRecDepth 100000 in
set_option maxHeartbeats 1000000 in
theorem texts_any {w : World} {x y : Value} {A : Int} (hx : Num w x A) (hy : Num w y A) (hA : A < P 2000) (hT : Pow10 w) :
    Calls Tryz.prog 31 #[x, y] w fun e w' => e = .returned (.bool true) ∧ Below w.heap.size w w' := by
  have HA : Hid (A < P 2000 ∧ 0 ≤ A) := ⟨hA, hx.nonneg⟩
  have HX : Hid (Num w x A ∧ Num w y A ∧ Pow10 w) := ⟨hx, hy, hT⟩
  obtain ⟨xo, xn, xc, rfl⟩ := hx.shape
  obtain ⟨yo, yn, yc, rfl⟩ := hy.shape
  have HRB : Hid (∀ W : World, Calls Tryz.prog 69 #[.string ⟨(Lib.decDigits A.toNat).toArray⟩] W fun e w' => ∃ v, e = .returned (.tuple #[v, .int .i64 0]) ∧ Ans W w' A v) := fun W => read_back HA.out.2 HA.out.1 W
  have HT1 : Hid (Calls Tryz.prog 23 #[.slice xo xn xc] w fun e w' => e = .returned (.tuple #[.string ⟨(Lib.decDigits A.toNat).toArray⟩, .int .i64 0]) ∧ Below w.heap.size w w') := text_any hx hA hT
  have HT2 : Hid (∀ W : World, Num W (.slice yo yn yc) A → Calls Tryz.prog 68 #[.slice yo yn yc] W fun e w' => e = .returned (.string ⟨(Lib.decDigits A.toNat).toArray⟩) ∧ Below W.heap.size W w') := fun W hW => rtext_any hW HA.out.1
  generalize (⟨(Lib.decDigits A.toNat).toArray⟩ : ByteArray) = s at HRB HT1 HT2
  clear hx hy hA hT
  go_enter Tryz.func31, Tryz.ntmps31
  go_wp2_with fail
  refine HT1.out.mono ?_
  rintro e w2 ⟨rfl, hb2⟩
  have HB2 : Hid (Below w.heap.size w w2) := hb2
  clear hb2
  go_wp2_with fail
  refine (HT2.out _ (HX.out.2.1.keeps HB2.out)).mono ?_
  rintro e w3 ⟨rfl, hb3⟩
  have HB3 : Hid (Below w.heap.size w w3) := bel_trans HB2.out hb3
  clear hb3
  go_wp2_with fail
  refine (HRB.out _).mono ?_
  rintro e w4 ⟨v4, rfl, hA4⟩
  have HB4 : Hid (Below w.heap.size w w4) := bel_trans HB3.out hA4.below
  have HN4 : Hid (Num w4 v4 A) := hA4.num
  obtain ⟨o4, n4, c4, rfl⟩ := hA4.num.shape
  clear hA4
  go_wp2_with fail
  refine (same_num HN4.out (HX.out.2.1.keeps HB4.out)).mono ?_
  rintro e w5 ⟨rfl, hb5⟩
  go_wp2
  go_ret
  exact ⟨rfl, bel_trans HB4.out hb5⟩
end Go.Proofs.YtmbajngbiefilaaGreatDoor

/-
  plumblaw2.one: for every list and every number it answers true, what it keeps is kept, and it turns nothing that was there ahead of the law.
-/
namespace Go.Proofs.YtmbajngbiefilaaGreatDoor
open Go Go.RowKit Go.Proofs.YtmbajngbiefilaaGreatDoor.M
set_option linter.unusedSimpArgs false
set_option linter.unusedVariables false

set_option maxRecDepth 100000 in
set_option maxHeartbeats 4000000 in
theorem one_bad {w0 : World} {ao : Option Addr} {n ca : Nat} {a : Nat → Int} (ra : Row w0 ao n ca a) (hn : n ≤ 2100) (i : Int) (w : World) (hb0 : Below w0.heap.size w0 w) {k : Nat} {S : Nat → Prop} (hk : Kept w0.heap.size w k S) (hbad : okB a n = false) :
    Calls Tryz.prog 5 #[.pointer (some ⟨k, 0, none⟩), .slice ao n ca, .int .i64 i] w fun e w' => e = .returned (.bool true) ∧ Below w0.heap.size w0 w' ∧ ∃ S', Kept w0.heap.size w' k S' ∧ Fr w w' := by
  have HS0 : Hid (w0.heap.size ≤ w.heap.size) := hb0.size
  have HRA : Hid (Row w0 ao n ca a) := ra
  have HB : Hid (Below w0.heap.size w0 w) := hb0
  have HK : Hid (Kept w0.heap.size w k (fun g => g < w.heap.size)) := hk.old
  have hla := ra.le
  have hma := ra.max
  clear hb0 hk ra
  go_enter Tryz.func5, Tryz.ntmps5
  go_wp2_with fail
  refine (lent_any _ _ _ _ _ (HRA.out.stays HB.out (Nat.le_refl _)) (by omega)).mono ?_
  rintro e w1 ⟨vc, rfl, hLc⟩
  have HB1 : Hid (Below w.heap.size w w1) := hLc.below
  obtain ⟨gc, cc, rfl, HLc0⟩ := hLc.parts
  have HC : Hid (Out w.heap.size w1 (.slice (some ⟨gc, 0, none⟩) (n + 3) cc) (n + 3) (lentD a n)) := HLc0
  have LC : Hid (w.heap.size ≤ gc ∧ gc < w1.heap.size) := HC.out.ge rfl
  have hcm := lent_cap HC.out
  have HB01 : Hid (Below w0.heap.size w0 w1) := HB.out.trans (HB1.out.mono HB.out.size)
  have HR1 : Hid (Row w1 ao n ca a) := HRA.out.stays HB01.out (Nat.le_refl _)
  have HX1 : Hid (Row w1 (some ⟨gc, 0, none⟩) n cc a) := lent_row HC.out
  clear hLc HLc0
  go_wp2_with fail
  refine (rvalid_any _ _ _ _ _ HR1.out).mono ?_
  rintro e w' ⟨rfl, hw⟩
  replace hw := hw.symm
  subst hw
  go_wp2_with fail
  refine (int_bad _ _ _ _ _ HX1.out hbad).mono ?_
  rintro e w' ⟨rfl, hw⟩
  replace hw := hw.symm
  subst hw
  go_wp2_with fail
  refine (valid_any _ _ _ _ _ HX1.out).mono ?_
  rintro e w' ⟨rfl, hw⟩
  replace hw := hw.symm
  subst hw
  go_wp2_with fail
  refine (bit_bad _ _ _ _ i _ HX1.out hbad).mono ?_
  rintro e w' ⟨rfl, hw⟩
  replace hw := hw.symm
  subst hw
  go_wp2_with fail
  refine (shl_bad _ _ _ _ i _ HX1.out hbad).mono ?_
  rintro e w' ⟨rfl, hw⟩
  replace hw := hw.symm
  subst hw
  go_wp2_with fail
  refine (shr_bad _ _ _ _ i _ HX1.out hbad).mono ?_
  rintro e w' ⟨rfl, hw⟩
  replace hw := hw.symm
  subst hw
  go_wp2_with fail
  refine (pow_bad _ _ _ _ i _ HX1.out hbad).mono ?_
  rintro e w' ⟨rfl, hw⟩
  replace hw := hw.symm
  subst hw
  go_wp2_with fail
  refine (root_bad _ _ _ _ _ HX1.out hbad).mono ?_
  rintro e w' ⟨rfl, hw⟩
  replace hw := hw.symm
  subst hw
  go_wp2_with fail
  refine (text_bad _ _ _ _ _ HX1.out hbad).mono ?_
  rintro e w' ⟨rfl, hw⟩
  replace hw := hw.symm
  subst hw
  go_wp2_with fail
  refine (bits_bad _ _ _ _ _ HX1.out hbad).mono ?_
  rintro e w' ⟨rfl, hw⟩
  replace hw := hw.symm
  subst hw
  go_wp2_with fail
  refine (low_bad _ _ _ _ _ HX1.out hbad).mono ?_
  rintro e w' ⟨rfl, hw⟩
  replace hw := hw.symm
  subst hw
  have HRX : Hid (RowX gc w1 ao n ca a) := RowX.of0 HRA.out HB01.out (by have h1 := LC.out; have h0 := HS0.out; omega)
  go_wp2_with fail
  refine (back_any HC.out HRX.out HR1.out (by omega)).mono ?_
  rintro e wa ⟨rfl, hwr⟩
  have HWa : Hid (Wr gc w1 wa) := hwr
  clear hwr
  go_wp2
  go_ret
  refine ⟨rfl, HWa.out.below HB01.out HB01.out.size (by have h1 := LC.out; have h0 := HS0.out; omega), fun g => g < w.heap.size, ?_, (Fr.of HB1.out).wr HWa.out LC.out.1 HB1.out.size⟩
  obtain ⟨cur, z, ht⟩ := HC.out.typed (g := gc) rfl
  exact (HK.out.keeps HB1.out).wr HWa.out (by have := LC.out; omega) ht
/-- The end of 'one', of a number: Back, and ahead of it texts, powers, rooted, shifts. -/
def TBack (w0 ws : World) (k gc n cc : Nat) (ao : Option Addr) (ca : Nat) (w5 : World) : Prop :=
  Calls Tryz.prog 25 #[.slice (some ⟨gc, 0, none⟩) (n + 3) cc, .slice ao n ca] w5 fun e w' => e = .returned (.bool true) ∧ Below w0.heap.size w0 w' ∧ ∃ S', Kept w0.heap.size w' k S' ∧ Fr ws w'
def TText (w0 ws : World) (k gc n cc : Nat) (ao : Option Addr) (ca : Nat) (w4 : World) : Prop :=
  Calls Tryz.prog 31 #[.slice (some ⟨gc, 0, none⟩) n cc, .slice ao n ca] w4 fun e w5 => e = .returned (.bool true) ∧ TBack w0 ws k gc n cc ao ca w5
def TPow (w0 ws : World) (k gc n cc : Nat) (ao : Option Addr) (ca : Nat) (i : Int) (w3 : World) : Prop :=
  Calls Tryz.prog 30 #[.pointer (some ⟨k, 0, none⟩), .slice (some ⟨gc, 0, none⟩) n cc, .slice ao n ca, .int .i64 i] w3 fun e w4 => e = .returned (.bool true) ∧ TText w0 ws k gc n cc ao ca w4
def TRoot (w0 ws : World) (k gc n cc : Nat) (ao : Option Addr) (ca : Nat) (i : Int) (w2 : World) : Prop :=
  Calls Tryz.prog 29 #[.pointer (some ⟨k, 0, none⟩), .slice (some ⟨gc, 0, none⟩) n cc, .slice ao n ca] w2 fun e w3 => e = .returned (.bool true) ∧ TPow w0 ws k gc n cc ao ca i w3
def TShift (w0 ws : World) (k gc n cc : Nat) (ao : Option Addr) (ca : Nat) (i : Int) (w1 : World) : Prop :=
  Calls Tryz.prog 28 #[.pointer (some ⟨k, 0, none⟩), .slice (some ⟨gc, 0, none⟩) n cc, .slice ao n ca, .int .i64 i] w1 fun e w2 => e = .returned (.bool true) ∧ TRoot w0 ws k gc n cc ao ca i w2
set_option maxRecDepth 100000 in
set_option maxHeartbeats 4000000 in
theorem one_tail {w0 w w1 : World} {ao : Option Addr} {n ca gc cc k : Nat} {a : Nat → Int} (HRA : Hid (Row w0 ao n ca a)) (HK : Hid (Kept w0.heap.size w k (fun g => g < w.heap.size))) (HB : Hid (Below w0.heap.size w0 w)) (HB1 : Hid (Below w.heap.size w w1))
    (HC : Hid (Out w.heap.size w1 (.slice (some ⟨gc, 0, none⟩) (n + 3) cc) (n + 3) (lentD a n))) (ok : okB a n = true) (HP : Hid (Pow10 w0)) (i : Int) (HI : Hid (rng i)) : TShift w0 w k gc n cc ao ca i w1 := by
  have b01 : Below w0.heap.size w0 w1 := HB.out.trans (HB1.out.mono HB.out.size)
  have hN := (okB_out ok).2
  have hA : val a n < P 2000 := Int.lt_of_lt_of_le (val_lt hN.1) (P_le (okB_out ok).1)
  have LC := HC.out.ge (g := gc) rfl
  have z0 := HB.out.size
  unfold TShift TRoot TPow TText TBack
  refine (shifts_any (w0 := w0) (S := fun g => g < w.heap.size) ⟨lent_row HC.out, HRA.out, ok, b01, HK.out.keeps HB1.out⟩ i HI.out).mono ?_
  rintro e w2 ⟨rfl, hi2, S2', hk2, hs2⟩
  have b02 := b01.trans hi2.below
  have c2 := HC.out.ik hi2
  refine ⟨rfl, (rooted_any (w0 := w0) ⟨lent_row c2, HRA.out, ok, b02, hk2⟩).mono ?_⟩
  rintro e w3 ⟨rfl, hi3, S3', hk3, hs3⟩
  have b03 := b02.trans hi3.below
  have c3 := c2.ik hi3
  refine ⟨rfl, (powers_any (w0 := w0) ⟨lent_row c3, HRA.out, ok, b03, hk3⟩ i HI.out).mono ?_⟩
  rintro e w4 ⟨rfl, hi4, S4', hk4, hs4⟩
  have b04 := b03.trans hi4.below
  have c4 := c3.ik hi4
  refine ⟨rfl, (texts_any (lent_numA c4 hN) ((HRA.out.stays b04 (Nat.le_refl _)).num0 hN) hA (HP.out.keeps b04)).mono ?_⟩
  rintro e w5 ⟨rfl, hb5⟩
  have b05 := b04.trans (hb5.mono b04.size)
  have c5 := c4.stays hb5
  refine ⟨rfl, (back_any c5 (RowX.of0 HRA.out b05 (by omega)) (HRA.out.stays b05 (Nat.le_refl _)) (by have := (okB_out ok).1; omega)).mono ?_⟩
  rintro e w' ⟨rfl, hwr⟩
  refine ⟨rfl, hwr.below b05 b05.size (by omega), S4', ?_, (((((Fr.of HB1.out).trans hi2.fr).trans hi3.fr).trans hi4.fr).trans (Fr.of hb5)).wr hwr LC.1 (Nat.le_trans HB1.out.size (Nat.le_trans hi2.below.size (Nat.le_trans hi3.below.size (Nat.le_trans hi4.below.size hb5.size))))⟩
  obtain ⟨cur, z, ht⟩ := c5.typed (g := gc) rfl
  refine (hk4.keeps hb5).wr hwr (fun h => ?_) ht
  have z2 := hi2.below.size
  have z3 := hi3.below.size
  rcases hs4 gc h with q | q
  · rcases hs3 gc q with q | q
    · rcases hs2 gc q with q | q
      · omega
      · omega
    · omega
  · omega
end Go.Proofs.YtmbajngbiefilaaGreatDoor

/-
  plumblaw2.one, of a number: it answers true, what it keeps is kept, and it turns nothing that was there ahead of the law.
-/
namespace Go.Proofs.YtmbajngbiefilaaGreatDoor
open Go Go.RowKit Go.Proofs.YtmbajngbiefilaaGreatDoor.M
set_option linter.unusedSimpArgs false
set_option linter.unusedVariables false

theorem int_small {A W x : Int} {a : Nat → Int} {m : Nat} (hd : Dig a (m + 1)) (h : W * P (m + 1) + val a (m + 1) = A) (h0 : 0 ≤ W) (hA : A < 9223372036854775808) : W * 1073741824 + a m ≤ 9223372036854775807 ∧ (W * 1073741824 + a m) * P m + val a m = A := by
  have e : (W * 1073741824 + a m) * P m + val a m = A := by
    rw [← h, P_succ, val_succ]; grind
  refine ⟨?_, e⟩
  have h1 := val_nonneg (hd.le (Nat.le_succ m))
  have h2 := P_pos m
  have h3 := (hd m (by omega)).1
  have h4 : (W * 1073741824 + a m) * 1 ≤ (W * 1073741824 + a m) * P m := Int.mul_le_mul_of_nonneg_left (by omega) (by omega)
  omega
set_option maxRecDepth 100000 in
set_option maxHeartbeats 4000000 in
theorem one_small {w0 : World} {ao : Option Addr} {n ca : Nat} {a : Nat → Int} (ra : Row w0 ao n ca a) (i : Int) (hi : rng i) (w : World) (hb0 : Below w0.heap.size w0 w) {k : Nat} {S : Nat → Prop} (hk : Kept w0.heap.size w k S) (ok : okB a n = true) (hT : Tab w0) (hP : Pow10 w0) (hL : blen (val a n) ≤ 63) :
    Calls Tryz.prog 5 #[.pointer (some ⟨k, 0, none⟩), .slice ao n ca, .int .i64 i] w fun e w' => e = .returned (.bool true) ∧ Below w0.heap.size w0 w' ∧ ∃ S', Kept w0.heap.size w' k S' ∧ Fr w w' := by
  have HRA : Hid (Row w0 ao n ca a) := ra
  have HB : Hid (Below w0.heap.size w0 w) := hb0
  have HK : Hid (Kept w0.heap.size w k (fun g => g < w.heap.size)) := hk.old
  have HTP : Hid (Tab w0 ∧ Pow10 w0) := ⟨hT, hP⟩
  have HI : Hid (rng i) := hi
  have hla := ra.le
  have hma := ra.max
  have hn := (okB_out ok).1
  have HN : Hid (Nrm a n) := (okB_out ok).2
  have HA : Hid (val a n < P 2000 ∧ 0 ≤ val a n) := ⟨Int.lt_of_lt_of_le (val_lt HN.out.1) (P_le hn), val_nonneg HN.out.1⟩
  obtain ⟨L, hLe⟩ : ∃ L, L = blen (val a n) := ⟨_, rfl⟩
  have HLe : Hid (L = blen (val a n)) := hLe
  rw [← hLe] at hL
  have hL6 : L ≤ 60000 := by rw [hLe]; exact blen60 HA.out.1
  have hLi : (L : Int) < 64 := by omega
  have HA63 : Hid (val a n < 9223372036854775808) := by
    show _ < _
    refine Int.lt_of_lt_of_le (blen_lt _) ?_
    rw [← hLe]
    exact Int.le_trans (two_le hL) (by decide)
  clear hb0 hk ra hT hP hi hLe
  go_enter Tryz.func5, Tryz.ntmps5
  go_wp2_with fail
  refine (lent_any _ _ _ _ _ (HRA.out.stays HB.out (Nat.le_refl _)) (by omega)).mono ?_
  rintro e w1 ⟨vc, rfl, hLc⟩
  have HB1 : Hid (Below w.heap.size w w1) := hLc.below
  obtain ⟨gc, cc, rfl, HLc0⟩ := hLc.parts
  have HC : Hid (Out w.heap.size w1 (.slice (some ⟨gc, 0, none⟩) (n + 3) cc) (n + 3) (lentD a n)) := HLc0
  have hcm := lent_cap HC.out
  have HB01 : Hid (Below w0.heap.size w0 w1) := HB.out.trans (HB1.out.mono HB.out.size)
  have HR1 : Hid (Row w1 ao n ca a) := HRA.out.stays HB01.out (Nat.le_refl _)
  have HX1 : Hid (Row w1 (some ⟨gc, 0, none⟩) n cc a) := lent_row HC.out
  have HNX : Hid (Num w1 (.slice (some ⟨gc, 0, none⟩) n cc) (val a n)) := lent_numA HC.out HN.out
  have HNA : Hid (Num w1 (.slice ao n ca) (val a n)) := HR1.out.num0 HN.out
  have HTAIL := one_tail HRA HK HB HB1 HC ok (show Hid (Pow10 w0) from HTP.out.2) i HI
  have HTAIL' : Hid (TShift w0 w k gc n cc ao ca i w1) := HTAIL
  have HINT : Hid (Calls Tryz.prog 16 #[.slice (some ⟨gc, 0, none⟩) n cc] w1 fun e w' => e = .returned (.tuple #[.int .i64 (val a n), .bool true]) ∧ w' = w1) := by
    have h := int_num HNX.out HA.out.1
    rw [← HLe.out, show intV (val a n) = val a n by unfold intV; rw [← HLe.out, if_pos hL], decide_eq_true hL] at h
    exact h
  have HBIT : Hid (Calls Tryz.prog 17 #[.slice (some ⟨gc, 0, none⟩) n cc, .int .i64 i] w1 fun e w' => e = .returned (.bool (bitI (val a n) i)) ∧ w' = w1) := bit_all HNX.out HA.out.1 i HI.out
  have HRBIT : Hid (Calls Tryz.prog 18 #[.slice ao n ca, .int .i64 i] w1 fun e w' => e = .returned (.bool (bitI (val a n) i)) ∧ w' = w1) := rbit_all HNA.out HA.out.1 i HI.out
  have HBITS : Hid (Calls Tryz.prog 13 #[.slice (some ⟨gc, 0, none⟩) n cc] w1 fun e w' => e = .returned (.int .i64 L) ∧ w' = w1) := by
    have h := bits_num HNX.out HA.out.1
    rw [← HLe.out] at h
    exact h
  have HRBITS : Hid (Calls Tryz.prog 26 #[.slice ao n ca] w1 fun e w' => e = .returned (.int .i64 L) ∧ w' = w1) := by
    have h := rbits_any _ _ _ _ _ HR1.out HN.out (by omega)
    rw [← HLe.out] at h
    exact h
  have HLOW : Hid (Calls Tryz.prog 24 #[.slice (some ⟨gc, 0, none⟩) n cc] w1 fun e w' => ∃ l, e = .returned (.int .i64 l) ∧ LowA (val a n) l ∧ w' = w1) := low_num HNX.out HA.out.1 (HTP.out.1.keeps HB01.out)
  have HRLOW : Hid (Calls Tryz.prog 27 #[.slice ao n ca] w1 fun e w' => ∃ l, e = .returned (.int .i64 l) ∧ LowA (val a n) l ∧ w' = w1) := rlow_any _ _ _ _ _ HR1.out HN.out.1 (by omega)
  generalize bitI (val a n) i = bt at HBIT HRBIT
  have hbt : (bt != bt) = false := by cases bt <;> rfl
  clear hLc HLc0 HTAIL
  go_wp2_with fail
  refine (rvalid_any _ _ _ _ _ HR1.out).mono ?_
  rintro e w' ⟨rfl, hw⟩
  replace hw := hw.symm
  subst hw
  go_wp2_with fail
  refine (HINT.out).mono ?_
  rintro e w' ⟨rfl, hw⟩
  replace hw := hw.symm
  subst hw
  go_wp2_with fail
  refine (valid_any _ _ _ _ _ HX1.out).mono ?_
  rintro e w' ⟨rfl, hw⟩
  replace hw := hw.symm
  subst hw
  go_wp2_with fail
  refine (HBIT.out).mono ?_
  rintro e w' ⟨rfl, hw⟩
  replace hw := hw.symm
  subst hw
  go_wp2_with fail
  refine (HRBIT.out).mono ?_
  rintro e w' ⟨rfl, hw⟩
  replace hw := hw.symm
  subst hw
  go_wp2_with fail
  refine (HRBITS.out).mono ?_
  rintro e w' ⟨rfl, hw⟩
  replace hw := hw.symm
  subst hw
  go_wp2
  go_loop [23, 25] (fun wv iv => ∃ (j : Nat) (W : Int), j ≤ n ∧ iv = .int .i64 ((j : Int) - 1) ∧ wv = .int .i64 W ∧ 0 ≤ W ∧ Hid (W * P j + val a j = val a n)) (fun _ iv => (intOf iv + 1).toNat)
  case atStart => exact ⟨n, 0, Nat.le_refl _, rfl, rfl, by omega, by show _ = _; omega⟩
  case round =>
    obtain ⟨j, W, hj, rfl, rfl, hW0, HW⟩ := hrel
    by_cases hj0 : 0 < j
    · obtain ⟨m, rfl⟩ : ∃ m, j = m + 1 := ⟨j - 1, by omega⟩
      have em : ((m + 1 : Nat) : Int) - 1 = m := by omega
      obtain ⟨hb1, hb2⟩ := int_small (x := 0) (HN.out.1.le hj) HW.out hW0 HA63.out
      have HB2' : Hid ((W * 1073741824 + a m) * P m + val a m = val a n) := hb2
      obtain ⟨ba, fa, hba, hblt, hca⟩ := HR1.out.spot (by omega)
      subst hba
      have c1 := hca m (by omega)
      have dm := HN.out.1 m (by omega)
      rw [em]
      clear hb2 hca
      go_wp2
      go_round
      case rel => exact ⟨m, W * 1073741824 + a m, by omega, rfl, rfl, by omega, HB2'.out⟩
      case measure => simp [intOf]; try omega
    · obtain rfl : j = 0 := by omega
      obtain rfl : W = val a n := by
        have h := HW.out
        rw [show P 0 = 1 from rfl, show val a 0 = 0 from rfl] at h
        omega
      have haa : (val a n != val a n) = false := by simp
      have hll : ((L : Int) != (L : Int)) = false := by simp
      go_wp2_with fail
      refine (HBITS.out).mono ?_
      rintro e w' ⟨rfl, hw⟩
      replace hw := hw.symm
      subst hw
      go_wp2_with fail
      refine (HRBITS.out).mono ?_
      rintro e w' ⟨rfl, hw⟩
      replace hw := hw.symm
      subst hw
      go_wp2_with fail
      refine (HLOW.out).mono ?_
      rintro e w' ⟨l, rfl, hl1, hw⟩
      replace hw := hw.symm
      subst hw
      go_wp2_with fail
      refine (HRLOW.out).mono ?_
      rintro e w' ⟨l2, rfl, hl2, hw⟩
      replace hw := hw.symm
      subst hw
      obtain rfl := lowA_unique hl1 hl2
      have hlow : (l != l) = false := by simp
      clear hl1 hl2
      go_wp2_with fail
      have t1 := HTAIL'.out
      unfold TShift at t1
      refine t1.mono ?_
      rintro e w2 ⟨rfl, h2⟩
      have H2 : Hid (TRoot w0 w k gc n cc ao ca i w2) := h2
      clear h2 t1
      go_wp2_with fail
      have t2 := H2.out
      unfold TRoot at t2
      refine t2.mono ?_
      rintro e w3 ⟨rfl, h3⟩
      have H3 : Hid (TPow w0 w k gc n cc ao ca i w3) := h3
      clear h3 t2
      go_wp2_with fail
      have t3 := H3.out
      unfold TPow at t3
      refine t3.mono ?_
      rintro e w4 ⟨rfl, h4⟩
      have H4 : Hid (TText w0 w k gc n cc ao ca w4) := h4
      clear h4 t3
      go_wp2_with fail
      have t4 := H4.out
      unfold TText at t4
      refine t4.mono ?_
      rintro e w5 ⟨rfl, h5⟩
      have H5 : Hid (TBack w0 w k gc n cc ao ca w5) := h5
      clear h5 t4
      go_wp2_with fail
      have t5 := H5.out
      unfold TBack at t5
      refine t5.mono ?_
      rintro e w6 ⟨rfl, h6⟩
      go_wp2
      go_ret
      exact ⟨rfl, h6⟩
set_option maxRecDepth 100000 in
set_option maxHeartbeats 4000000 in
theorem one_great {w0 : World} {ao : Option Addr} {n ca : Nat} {a : Nat → Int} (ra : Row w0 ao n ca a) (i : Int) (hi : rng i) (w : World) (hb0 : Below w0.heap.size w0 w) {k : Nat} {S : Nat → Prop} (hk : Kept w0.heap.size w k S) (ok : okB a n = true) (hT : Tab w0) (hP : Pow10 w0) (hL : ¬ blen (val a n) ≤ 63) :
    Calls Tryz.prog 5 #[.pointer (some ⟨k, 0, none⟩), .slice ao n ca, .int .i64 i] w fun e w' => e = .returned (.bool true) ∧ Below w0.heap.size w0 w' ∧ ∃ S', Kept w0.heap.size w' k S' ∧ Fr w w' := by
  have HRA : Hid (Row w0 ao n ca a) := ra
  have HB : Hid (Below w0.heap.size w0 w) := hb0
  have HK : Hid (Kept w0.heap.size w k (fun g => g < w.heap.size)) := hk.old
  have HTP : Hid (Tab w0 ∧ Pow10 w0) := ⟨hT, hP⟩
  have HI : Hid (rng i) := hi
  have hla := ra.le
  have hma := ra.max
  have hn := (okB_out ok).1
  have HN : Hid (Nrm a n) := (okB_out ok).2
  have HA : Hid (val a n < P 2000 ∧ 0 ≤ val a n) := ⟨Int.lt_of_lt_of_le (val_lt HN.out.1) (P_le hn), val_nonneg HN.out.1⟩
  obtain ⟨L, hLe⟩ : ∃ L, L = blen (val a n) := ⟨_, rfl⟩
  have HLe : Hid (L = blen (val a n)) := hLe
  rw [← hLe] at hL
  have hL6 : L ≤ 60000 := by rw [hLe]; exact blen60 HA.out.1
  have hLi : (64 : Int) ≤ (L : Int) := by omega
  clear hb0 hk ra hT hP hi hLe
  go_enter Tryz.func5, Tryz.ntmps5
  go_wp2_with fail
  refine (lent_any _ _ _ _ _ (HRA.out.stays HB.out (Nat.le_refl _)) (by omega)).mono ?_
  rintro e w1 ⟨vc, rfl, hLc⟩
  have HB1 : Hid (Below w.heap.size w w1) := hLc.below
  obtain ⟨gc, cc, rfl, HLc0⟩ := hLc.parts
  have HC : Hid (Out w.heap.size w1 (.slice (some ⟨gc, 0, none⟩) (n + 3) cc) (n + 3) (lentD a n)) := HLc0
  have hcm := lent_cap HC.out
  have HB01 : Hid (Below w0.heap.size w0 w1) := HB.out.trans (HB1.out.mono HB.out.size)
  have HR1 : Hid (Row w1 ao n ca a) := HRA.out.stays HB01.out (Nat.le_refl _)
  have HX1 : Hid (Row w1 (some ⟨gc, 0, none⟩) n cc a) := lent_row HC.out
  have HNX : Hid (Num w1 (.slice (some ⟨gc, 0, none⟩) n cc) (val a n)) := lent_numA HC.out HN.out
  have HNA : Hid (Num w1 (.slice ao n ca) (val a n)) := HR1.out.num0 HN.out
  have HTAIL := one_tail HRA HK HB HB1 HC ok (show Hid (Pow10 w0) from HTP.out.2) i HI
  have HTAIL' : Hid (TShift w0 w k gc n cc ao ca i w1) := HTAIL
  have HINT : Hid (Calls Tryz.prog 16 #[.slice (some ⟨gc, 0, none⟩) n cc] w1 fun e w' => e = .returned (.tuple #[.int .i64 (0), .bool false]) ∧ w' = w1) := by
    have h := int_num HNX.out HA.out.1
    rw [← HLe.out, show intV (val a n) = 0 by unfold intV; rw [← HLe.out, if_neg hL], decide_eq_false hL] at h
    exact h
  have HBIT : Hid (Calls Tryz.prog 17 #[.slice (some ⟨gc, 0, none⟩) n cc, .int .i64 i] w1 fun e w' => e = .returned (.bool (bitI (val a n) i)) ∧ w' = w1) := bit_all HNX.out HA.out.1 i HI.out
  have HRBIT : Hid (Calls Tryz.prog 18 #[.slice ao n ca, .int .i64 i] w1 fun e w' => e = .returned (.bool (bitI (val a n) i)) ∧ w' = w1) := rbit_all HNA.out HA.out.1 i HI.out
  have HBITS : Hid (Calls Tryz.prog 13 #[.slice (some ⟨gc, 0, none⟩) n cc] w1 fun e w' => e = .returned (.int .i64 L) ∧ w' = w1) := by
    have h := bits_num HNX.out HA.out.1
    rw [← HLe.out] at h
    exact h
  have HRBITS : Hid (Calls Tryz.prog 26 #[.slice ao n ca] w1 fun e w' => e = .returned (.int .i64 L) ∧ w' = w1) := by
    have h := rbits_any _ _ _ _ _ HR1.out HN.out (by omega)
    rw [← HLe.out] at h
    exact h
  have HLOW : Hid (Calls Tryz.prog 24 #[.slice (some ⟨gc, 0, none⟩) n cc] w1 fun e w' => ∃ l, e = .returned (.int .i64 l) ∧ LowA (val a n) l ∧ w' = w1) := low_num HNX.out HA.out.1 (HTP.out.1.keeps HB01.out)
  have HRLOW : Hid (Calls Tryz.prog 27 #[.slice ao n ca] w1 fun e w' => ∃ l, e = .returned (.int .i64 l) ∧ LowA (val a n) l ∧ w' = w1) := rlow_any _ _ _ _ _ HR1.out HN.out.1 (by omega)
  generalize bitI (val a n) i = bt at HBIT HRBIT
  have hbt : (bt != bt) = false := by cases bt <;> rfl
  clear hLc HLc0 HTAIL
  go_wp2_with fail
  refine (rvalid_any _ _ _ _ _ HR1.out).mono ?_
  rintro e w' ⟨rfl, hw⟩
  replace hw := hw.symm
  subst hw
  go_wp2_with fail
  refine (HINT.out).mono ?_
  rintro e w' ⟨rfl, hw⟩
  replace hw := hw.symm
  subst hw
  go_wp2_with fail
  refine (valid_any _ _ _ _ _ HX1.out).mono ?_
  rintro e w' ⟨rfl, hw⟩
  replace hw := hw.symm
  subst hw
  go_wp2_with fail
  refine (HBIT.out).mono ?_
  rintro e w' ⟨rfl, hw⟩
  replace hw := hw.symm
  subst hw
  go_wp2_with fail
  refine (HRBIT.out).mono ?_
  rintro e w' ⟨rfl, hw⟩
  replace hw := hw.symm
  subst hw
  go_wp2_with fail
  refine (HRBITS.out).mono ?_
  rintro e w' ⟨rfl, hw⟩
  replace hw := hw.symm
  subst hw
  go_wp2
  go_loop [23, 25] (fun wv iv => wv = .int .i64 0 ∧ iv = .int .i64 ((n : Int) - 1)) (fun _ _ => 0)
  case atStart => exact ⟨rfl, rfl⟩
  case round =>
    obtain ⟨rfl, rfl⟩ := hrel
    by_cases hn0 : n = 0
    · exact absurd hLi (by
        have h := HLe.out
        rw [hn0, show val a 0 = 0 from rfl, blen_zero] at h
        omega)
    · have hn1 : (0 : Int) ≤ (n : Int) - 1 := by omega
      have haa : (0 != 0) = false := by simp
      have hll : ((L : Int) != (L : Int)) = false := by simp
      go_wp2_with fail
      refine (HBITS.out).mono ?_
      rintro e w' ⟨rfl, hw⟩
      replace hw := hw.symm
      subst hw
      go_wp2_with fail
      refine (HRBITS.out).mono ?_
      rintro e w' ⟨rfl, hw⟩
      replace hw := hw.symm
      subst hw
      go_wp2_with fail
      refine (HLOW.out).mono ?_
      rintro e w' ⟨l, rfl, hl1, hw⟩
      replace hw := hw.symm
      subst hw
      go_wp2_with fail
      refine (HRLOW.out).mono ?_
      rintro e w' ⟨l2, rfl, hl2, hw⟩
      replace hw := hw.symm
      subst hw
      obtain rfl := lowA_unique hl1 hl2
      have hlow : (l != l) = false := by simp
      clear hl1 hl2
      go_wp2_with fail
      have t1 := HTAIL'.out
      unfold TShift at t1
      refine t1.mono ?_
      rintro e w2 ⟨rfl, h2⟩
      have H2 : Hid (TRoot w0 w k gc n cc ao ca i w2) := h2
      clear h2 t1
      go_wp2_with fail
      have t2 := H2.out
      unfold TRoot at t2
      refine t2.mono ?_
      rintro e w3 ⟨rfl, h3⟩
      have H3 : Hid (TPow w0 w k gc n cc ao ca i w3) := h3
      clear h3 t2
      go_wp2_with fail
      have t3 := H3.out
      unfold TPow at t3
      refine t3.mono ?_
      rintro e w4 ⟨rfl, h4⟩
      have H4 : Hid (TText w0 w k gc n cc ao ca w4) := h4
      clear h4 t3
      go_wp2_with fail
      have t4 := H4.out
      unfold TText at t4
      refine t4.mono ?_
      rintro e w5 ⟨rfl, h5⟩
      have H5 : Hid (TBack w0 w k gc n cc ao ca w5) := h5
      clear h5 t4
      go_wp2_with fail
      have t5 := H5.out
      unfold TBack at t5
      refine t5.mono ?_
      rintro e w6 ⟨rfl, h6⟩
      go_wp2
      go_ret
      exact ⟨rfl, h6⟩
theorem one_any {w0 : World} {ao : Option Addr} {n ca : Nat} {a : Nat → Int} (ra : Row w0 ao n ca a) (hn : n ≤ 2100) (i : Int) (hi : rng i) (w : World) (hb0 : Below w0.heap.size w0 w) {k : Nat} {S : Nat → Prop} (hk : Kept w0.heap.size w k S) (hT : Tab w0) (hP : Pow10 w0) :
    Calls Tryz.prog 5 #[.pointer (some ⟨k, 0, none⟩), .slice ao n ca, .int .i64 i] w fun e w' => e = .returned (.bool true) ∧ Below w0.heap.size w0 w' ∧ ∃ S', Kept w0.heap.size w' k S' ∧ Fr w w' := by
  cases ok : okB a n with
  | false => exact one_bad ra hn i w hb0 hk ok
  | true =>
    by_cases h : blen (val a n) ≤ 63
    · exact one_small ra i hi w hb0 hk ok hT hP h
    · exact one_great ra i hi w hb0 hk ok hT hP h
end Go.Proofs.YtmbajngbiefilaaGreatDoor

/-
  The document's own Digits and Read; Of and From; plumblaw2.of: by contracts.
-/
namespace Go.Proofs.YtmbajngbiefilaaGreatDoor
open Go Go.RowKit Go.Proofs.YtmbajngbiefilaaGreatDoor.M
set_option linter.unusedSimpArgs false
set_option linter.unusedVariables false

theorem one_nrm {x : Int} (h0 : 0 < x) (h1 : x < 1073741824) : Nrm (fun _ => x) 1 ∧ val (fun _ => x) 1 = x := ⟨⟨fun i _ => ⟨by show 0 ≤ x; omega, h1⟩, .inr (by show x ≠ 0; omega)⟩, by show 0 + x * 1 = x; omega⟩
theorem wrap_small {x : Int} (h0 : 0 ≤ x) (h1 : x < 256) : IntKind.i64.wrap (IntKind.u8.wrap x) = x := by
  have e : IntKind.u8.wrap x = x := by simp [IntKind.wrap, IntKind.signed, IntKind.bits]; omega
  rw [e]
  simp [IntKind.wrap, IntKind.signed, IntKind.bits]; omega
theorem of_yes (x : Int) (w : World) (h0 : 0 ≤ x) (h1 : x < 9223372036854775808) :
    Calls Tryz.prog 45 #[.int .i64 x] w fun e w' => ∃ v, e = .returned (.tuple #[v, .int .i64 0]) ∧ Ans w w' x v := by
  have HX := digits_nat x w h0 h1
  have HX' : Hid (Calls Tryz.prog 75 #[.int .i64 x] w fun e w' => ∃ v, e = .returned v ∧ Ans w w' x v) := HX
  clear HX h1
  go_enter Tryz.func45, Tryz.ntmps45
  go_wp2_with fail
  refine HX'.out.mono ?_
  rintro e w2 ⟨v, rfl, hA⟩
  go_wp2
  go_ret2
  exact ⟨_, rfl, hA⟩
theorem of_no (x : Int) (w : World) (h0 : x < 0) :
    Calls Tryz.prog 45 #[.int .i64 x] w fun e w' => e = .returned (.tuple #[.slice none 0 0, .int .i64 1]) ∧ w' = w := by
  go_enter Tryz.func45, Tryz.ntmps45
  go_wp2
  go_ret2
  exact ⟨rfl, rfl⟩
set_option maxRecDepth 100000 in
theorem lawOf_any {B k : Nat} {w : World} {S : Nat → Prop} (h : Kept B w k S) (hB : B ≤ w.heap.size) (x : Int) (hx : rng x) :
    Calls Tryz.prog 7 #[.pointer (some ⟨k, 0, none⟩), .int .i64 x] w fun e w' => e = .returned (.bool true) ∧ Ik B w w' ∧ ∃ S', Kept B w' k S' ∧ ∀ g, S' g → S g ∨ w.heap.size ≤ g := by
  have HK : Hid (Kept B w k S) := h
  clear h
  by_cases h0 : x < 0
  · go_enter Tryz.func7, Tryz.ntmps7
    go_wp2_with fail
    refine (of_no x _ h0).mono ?_
    rintro e w' ⟨rfl, hw⟩
    replace hw := hw.symm
    subst hw
    go_wp2
    go_ret
    exact ⟨rfl, Ik.refl _ _, S, HK.out, fun g h => .inl h⟩
  · have hx1 : x < 9223372036854775808 := by unfold rng at hx; omega
    have HO := of_yes x w (by omega) hx1
    have HO' : Hid (Calls Tryz.prog 45 #[.int .i64 x] w fun e w' => ∃ v, e = .returned (.tuple #[v, .int .i64 0]) ∧ Ans w w' x v) := HO
    have HF : Hid (∀ W : World, Calls Tryz.prog 46 #[.int .i64 x] W fun e w' => ∃ v, e = .returned v ∧ Ans W w' x v) := fun W => rfrom_any x W (by omega) hx1
    have HV : Hid (x < P 2000) := Int.lt_trans (show x < 9223372036854775808 * 1 by omega) (Int.lt_of_lt_of_le (show (9223372036854775808 : Int) * 1 < P 3 by decide) (P_le (by decide)))
    clear HO hx1 hx
    go_enter Tryz.func7, Tryz.ntmps7
    go_wp2_with fail
    refine HO'.out.mono ?_
    rintro e w2 ⟨v2, rfl, hA2⟩
    have HB2 : Hid (Below w.heap.size w w2) := hA2.below
    have HA2 : Hid (An w.heap.size w2 v2 x) := hA2.an
    obtain ⟨o2, n2, c2, rfl⟩ := hA2.num.shape
    clear hA2
    go_wp2_with fail
    refine (HF.out _).mono ?_
    rintro e w3 ⟨v3, rfl, hA3⟩
    have HB3 : Hid (Below w2.heap.size w2 w3) := hA3.below
    have HA3 : Hid (An w2.heap.size w3 v3 x) := hA3.an
    obtain ⟨o3, n3, c3, rfl⟩ := hA3.num.shape
    clear hA3
    have HK3 : Hid (Kept B w3 k (fun g => S g ∧ g < w.heap.size)) := by
      obtain ⟨m, v, u, n, d, hm, hk, h1, h2⟩ := HK.out
      have hq : Kept B w k (fun g => S g ∧ g < w.heap.size) := ⟨m, v, u, n, d, hm, hk, fun i hi g hg => ⟨h1 i hi g hg, ((hk.ans i hi).ge hg).2⟩, fun i hi g hg => ⟨h2 i hi g hg, ((hk.was i hi).ge hg).2⟩⟩
      exact (hq.keeps HB2.out).keeps HB3.out
    go_wp2_with fail
    refine (keep_an HK3.out ((HA2.out.keeps HB3.out).lower hB) (HA3.out.lower (Nat.le_trans hB HB2.out.size)) 2000 (by decide) HV.out (Nat.le_trans hB (Nat.le_trans HB2.out.size HB3.out.size)) (fun g hg hs => by have := (HA2.out.ge hg).1; have := hs.2; omega)).mono ?_
    rintro e w4 ⟨rfl, hi, hk4⟩
    go_wp2
    go_ret
    refine ⟨rfl, ((Ik.of HB2.out hB).trans (Ik.of HB3.out (Nat.le_trans hB HB2.out.size))).trans hi, _, hk4, fun g hg => ?_⟩
    rcases hg with hg | hg | hg
    · exact .inl hg.1
    · exact .inr (HA2.out.ge hg).1
    · exact .inr (Nat.le_trans (Nat.le_trans HB2.out.size HB3.out.size) hg)
end Go.Proofs.YtmbajngbiefilaaGreatDoor
