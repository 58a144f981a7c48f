/-
  Package nat: divide, by its contract.
-/
import Derived.Test.YtmbajngbiefilabDoorND0
namespace Go.Proofs.YtmbajngbiefilabDoor
open Go Go.RowKit Go.Proofs.YtmbajngbiefilabDoor.M
set_option linter.unusedSimpArgs false
set_option linter.unusedVariables false

set_option maxHeartbeats 4000000 in
theorem divide_gen (ao bo : Option Addr) (n m ca cb : Nat) (a b : Nat → Int) (w : World) (ha : Row w ao n ca a) (hb : Row w bo m cb b) (na : Nrm a n) (nb : Nrm b m) (hn : n ≤ 5000) (hm : m ≤ n) (h2 : 2 ≤ m) (hle : val b m ≤ val a n) :
    Calls Tryd.prog 23 #[.slice ao n ca, .slice bo m cb] w fun e w' => ∃ v1 v2, e = .returned (.tuple #[v1, v2]) ∧ Ans2 w w' (val a n / val b m) v1 (val a n % val b m) v2 := by
  have hla := ha.le
  have hma := ha.max
  have hlb := hb.le
  have hmb := hb.max
  have ho : decide (ord (val a n) (val b m) < 0) = false := decide_eq_false (ord_ge hle)
  have HL : Hid (val b m ≤ val a n) := hle
  clear hle
  obtain ⟨bb, fb, rfl, hbb, hcb⟩ := hb.spot (by omega)
  have dk := nb.1 (m - 1) (by omega)
  have hbl : blen (b (m - 1)) ≤ 30 := blen_le (by show b (m - 1) < 1073741824; exact dk.2)
  obtain ⟨s, hs⟩ : ∃ s : Nat, (30 : Int) - (blen (b (m - 1)) : Int) = s := ⟨30 - blen (b (m - 1)), by omega⟩
  have hs30 : s ≤ 30 := by omega
  have hwr : IntKind.i64.wrap ((n : Int) + 1) = (n : Int) + 1 := by rw [wrap_i64_eq]; omega
  have hmk : ∀ w' : World, (Instr.makeSlice 22 (.int .i64 ((n : Int) + 1)) (.int .i64 ((n : Int) + 1))).run Tryd.prog w' = .ok (.slice (some ⟨w'.heap.size, 0, none⟩) (n + 1) (n + 1)) (w'.alloc (.cells (madeCells #[.int .i64 0] (n + 1)) 3)) := by
    intro w'
    exact Go.run_make_row' 22 3 (.int .i64 0) 8 Tryd.underlying22 info_int rfl .i64 .i64 (n + 1) (by omega) (by omega) w'
  go_enter Tryd.func23, Tryd.ntmps23
  go_wp2_with fail
  refine (compare_any _ _ _ _ _ _ _ _ _ ha hb na nb).mono ?_
  rintro e w1 ⟨rfl, b1⟩
  have c1 := (b1.cell (p := ⟨bb, fb + (m - 1), none⟩) hbb).trans (hcb (m - 1) (by omega))
  go_wp2_with fail
  refine (width_any _ _ dk.1 (by omega)).mono ?_
  rintro e w2 ⟨rfl, rfl⟩
  have hbr := hb.keeps b1
  go_upto_region 8 with (fail)
  go_cut [8, 9] from 40 to 46 (fun sr sb wx => Cut8 w n (val b m * 2 ^ s) sr sb wx)
  case first =>
    go_region_with (go_at_call 20; refine (raise_any _ _ _ s b _ (by first | exact hbr.drew | exact (hbr.alloc _).drew) nb.1 (by omega) (by omega)).mono ?_; rintro e w3 ⟨v, rfl, hv⟩)
    all_goals (go_wp2_with fail; go_meet; first | exact cut8_a b1 (by assumption) | exact cut8_b b1 (by assumption) rfl)
  case rest =>
    have hbx : blen (b (m - 1)) + s = 30 := by omega
    clear hmk hwr ho hs c1 hbl
    obtain ⟨g, rfl, hgw, hB0, hbc, byo, bcap, t, v, rfl, hX, hNv, hVv⟩ := hcut
    obtain ⟨rfl, htop⟩ := norm_div nb (by omega) (by omega) hNv hVv
    have HVv : Hid (val v t = val b t * 2 ^ s) := hVv
    clear hVv
    go_wp2_with fail
    refine (raise_any _ _ _ s a _ (ha.keeps hbc) na.1 (by omega) (by omega)).mono ?_
    rintro e w4 ⟨ra, rfl, t2, d2, hO2, hN2, hV2, hb4⟩
    obtain ⟨ro, rc, rfl, hR2⟩ := hO2.row
    have hB4 := hB0.keeps hb4
    have hX4 := hX.keeps (wr_of hb4)
    have hbw4 := bel_trans hbc hb4
    have ps := two_pos s
    have hs29 : s ≤ 29 := by
      have hx0 : 0 < b (t - 1) := by
        rcases nb.2 with e | e
        · omega
        · have := nb.1 (t - 1) (by omega); omega
      have := (blen_pos hx0).1
      omega
    have hA2 : Hid (val d2 t2 = val a n * 2 ^ s) := hV2
    have hA2lt : Hid (val a n * 2 ^ s < 536870912 * P n) := by
      show _ < _
      have h1 := val_lt na.1
      have h2 : (2 : Int) ^ s ≤ 2 ^ 29 := two_le hs29
      have h3 : (val a n + 1) * 2 ^ s ≤ P n * 2 ^ s := mul_le_r (by omega) (by omega)
      have h4 : P n * 2 ^ s ≤ P n * 2 ^ 29 := mul_le_l h2 (Int.le_of_lt (P_pos n))
      rw [Int.add_mul] at h3
      have : P n * 2 ^ 29 = 536870912 * P n := by rw [Int.mul_comm]; rfl
      omega
    have hA0 : 0 < val a n := by
      have := val_pos nb (by omega)
      have := HL.out
      omega
    have ht2 : t2 ≤ n + 1 := by
      by_cases h : t2 ≤ n + 1
      · exact h
      · have a1 := val_top hN2.1 (by omega) hN2.2
        have b1 := P_le (show n + 1 ≤ t2 - 1 by omega)
        have c1 := hA2lt.out
        rw [P_succ] at b1
        have := P_pos n
        omega
    have ht0 : 0 < t2 := by
      by_cases h : 0 < t2
      · exact h
      · obtain rfl : t2 = 0 := by omega
        have a1 : (0 : Int) = val a n * 2 ^ s := hV2
        have := Int.mul_pos hA0 ps
        omega
    clear hV2
    obtain ⟨K, hK⟩ : ∃ K, K + t = n + 1 := ⟨n + 1 - t, by omega⟩
    have hK1 : K + t ≤ n + 1 := by omega
    have hK2 : n + 1 ≤ K + t := by omega
    clear hK
    go_wp2_with (first | (at_make; refine wpList_mk rfl _ _ rfl _ _ K rfl rfl (by omega) (by omega) (by omega) ?_; intro w6 hBq hb6) | (refine wpList_cp rfl (.tmp 47) (.tmp 50) rfl g (n + 1) _ rfl hB4 ro t2 rc d2 rfl hR2 ht0 ht2 ?_; intro w5 hB5 hw5))
    have hB6 := hB5.keeps hb6
    have hX6 := (hX4.keeps hw5).keeps (wr_of hb6)
    have hbw6 : Below w.heap.size w w6 := bel_trans (hw5.below hbw4 hbw4.size hgw) hb6
    have hgl : g < w4.heap.size := hB4.lt
    have hw45 := hw5.size
    obtain ⟨V, hVe⟩ : ∃ V, V = val v t := ⟨_, rfl⟩
    have HVe : Hid (V = val v t) := hVe
    have HVt : Hid (V < P t) := by show _ < _; rw [hVe]; exact val_lt hNv.1
    have HVlo : Hid (536870912 * P (t - 1) ≤ V) := by
      show _ ≤ _
      obtain ⟨c, rfl⟩ : ∃ c, t = c + 1 := ⟨t - 1, by omega⟩
      rw [hVe, val_succ, Nat.add_sub_cancel]
      have a1 := val_nonneg (hNv.1.le (Nat.le_succ c))
      rw [Nat.add_sub_cancel] at htop
      have a2 : 536870912 * P c ≤ v c * P c := mul_le_r htop (Int.le_of_lt (P_pos c))
      omega
    clear hVe
    have hby : 0 < t → ∀ x off, byo = some ⟨x, off, none⟩ → x ≠ w5.heap.size := fun ht x off e => by
      obtain ⟨x', off', e', hlt, _⟩ := (hX4.keeps hw5).spot ht
      rw [e] at e'
      simp only [Option.some.injEq, Addr.mk.injEq] at e'
      omega
    obtain ⟨L, hL⟩ : ∃ L, t = L + 2 := ⟨t - 2, by omega⟩
    have HLt : Hid (t = L + 2) := hL
    clear hL
    have hD0 : DivR w g w5.heap.size n t K v byo bcap (val a n * 2 ^ s) V 0 w6 := by
      refine ⟨_, _, hB6, ov_dig hN2.1, hBq, zero_dig _, fun _ _ => rfl, ?_, ?_, hX6, hbw6⟩
      · rw [ov_val ht2, hA2.out, val_zeros (Nat.zero_le K) (fun _ _ _ => rfl)]; show _ = 0 * V + _; omega
      · rw [ov_val ht2, hA2.out, Nat.sub_zero]
        have a1 : 536870912 * P (t - 1) * P K ≤ V * P K := mul_le_r HVlo.out (Int.le_of_lt (P_pos K))
        rw [Int.mul_assoc, ← P_add, show t - 1 + K = n by omega] at a1
        have := hA2lt.out
        omega
    clear hB6 hX6 hbw6 hBq hB5 hw5 hb6 hX4 hbw4 hB4 hR2 hO2 hN2 hX hB0 hbr hb b1
    go_loopw [61] (fun i wr => ∃ k : Nat, k ≤ K ∧ i = .int .i64 k ∧ DivR w g w5.heap.size n t K v byo bcap (val a n * 2 ^ s) V k wr) (fun i _ => K - (intOf i).toNat)
    case atStart => exact ⟨0, Nat.zero_le _, rfl, hD0⟩
    case round =>
      clear hD0
      obtain ⟨k, hk, rfl, hDR⟩ := hrel
      by_cases hlt : k < K
      · obtain ⟨at_, hat⟩ : ∃ at_, K = at_ + 1 + k := ⟨K - 1 - k, by omega⟩
        have HAT : Hid (K = at_ + 1 + k) := hat
        have hat1 : K ≤ at_ + 1 + k := by omega
        have hat2 : at_ + 1 + k ≤ K := by omega
        have hz : ((K : Int) - 1 - k).toNat = at_ := by omega
        have hz2 : K - 1 - k = at_ := by omega
        clear hat
        obtain ⟨r, qf, h1, h2', h3, h4, h5, h6, h7, h8, h9⟩ := hDR
        have hst := stp_of HAT.out HLt.out hK1 h2' h7 HVe.out hNv htop
        have H5 : Hid (∀ i, i < K - k → qf i = 0) := h5
        have H6 : Hid (val a n * 2 ^ s = val qf K * V + val r (n + 1)) := h6
        have H7 : Hid (val r (n + 1) < V * P (K - k)) := h7
        clear h5 h6 h7
        have hlen : at_ + t + 1 - at_ = t + 1 := by omega
        go_wp2_with fail
        refine (takeOut_any g at_ (n + 1) (n + 1 - at_) byo bcap L t HLt.out r v _ V wr h1 h8 (by omega) (by omega) (by omega) hst).mono ?_
        rintro e w7 ⟨q, rfl, hT⟩
        have hne : w5.heap.size ≠ g := by omega
        have hw7 : Wr g wr w7 := by obtain ⟨_, _, _, _, _, _, _, _, q⟩ := hT; exact q
        have hq7 : Blk w7 w5.heap.size K qf := h3.of_block (hw7.block _ h3.lt hne)
        have cq := hq7.cell (show at_ < K by omega)
        have fq := hq7.frozen at_
        have HR := DivR.step HAT.out hK1 h1 h2' h3 h4 H5.out H6.out H7.out h8 h9 HVt.out hne hgw (by omega) hby hT
        clear hT hw7 hq7 h1 h2' h3 h4 h8 h9 hst
        go_wp2
        go_roundw
        case rel => exact ⟨k + 1, by omega, by go_num, HR⟩
        case measure => simp [intOf]; omega
      · obtain rfl : k = K := by omega
        obtain ⟨r, qf, h1, h2', h3, h4, h6, h7, h9⟩ := hDR.done
        have H6 : Hid (val a n * 2 ^ s = val qf k * V + val r (n + 1)) := h6
        clear h6 hDR
        go_wp2_with fail
        refine (trim_any _ _ _ _ _ (h3.row0 (Nat.le_refl _) (by omega))).mono ?_
        rintro e w7 ⟨tq, htq, htopq, hzq, rfl, rfl⟩
        go_wp2_with fail
        refine (trim_any _ _ _ _ _ (h1.row0 (Nat.le_refl _) (by omega))).mono ?_
        rintro e w8 ⟨tr, htr, htopr, hzr, rfl, rfl⟩
        obtain ⟨oo, cc, ecut, hRr⟩ := Num.cut_row (h1.row0 (Nat.le_refl _) (by omega)) htr
        rw [ecut]
        clear ecut
        go_wp2_with fail
        refine (lower_any _ _ _ s r _ hRr (h2'.le htr) (by omega) (by omega)).mono ?_
        rintro e w9 ⟨v2, rfl, hA⟩
        go_wp2
        go_ret2
        have hb9 := hA.below
        obtain ⟨hNq, hvq⟩ := nrm_of_top h4 htq htopq hzq
        obtain ⟨hNr, hvr⟩ := nrm_of_top h2' htr htopr hzr
        have hX0 := val_nonneg h2'
        have h7' : val r (n + 1) < val b t * 2 ^ s := by rw [← HVv.out, ← HVe.out]; exact h7
        obtain ⟨eq, er⟩ := div_back (A := val a n) (B := val b t) (Q := val qf k) (X := val r (n + 1)) (s := s) (by rw [← HVv.out, ← HVe.out]; exact H6.out) hX0 h7'
        refine ⟨_, _, rfl, ⟨tq, qf, (h3.cut (by omega) htq (by omega)).stays hb9, hNq, by rw [hvq, eq], bel_trans h9 hb9⟩, ?_, ?_⟩
        · rw [← er, ← hvr]; exact hA.from h9
        · intro c hc hc2
          have e1 := cut_block hc
          obtain ⟨t3, d3, hO3, _⟩ := hA
          have e2 := own_ge hO3 c hc2
          have := h3.lt
          omega

theorem Out.cutV {B : Nat} {w : World} {ao : Option Addr} {n cap t : Nat} {d : Nat → Int} (h : Out B w (.slice ao n cap) n d) (ht : t ≤ n) : Out B w (cutV ao t cap) t d := by
  unfold Go.Proofs.YtmbajngbiefilabDoor.cutV
  split
  · rename_i e; subst e; exact Out.nil _ _ _
  · exact h.cut ht
set_option maxHeartbeats 1000000 in
theorem divide_one (ao bo : Option Addr) (n ca cb : Nat) (a b : Nat → Int) (w : World) (ha : Row w ao n ca a) (hb : Row w bo 1 cb b) (na : Nrm a n) (nb : Nrm b 1) (hn : n ≤ 5000) (hle : val b 1 ≤ val a n) :
    Calls Tryd.prog 23 #[.slice ao n ca, .slice bo 1 cb] w fun e w' => ∃ v1 v2, e = .returned (.tuple #[v1, v2]) ∧ Ans2 w w' (val a n / val b 1) v1 (val a n % val b 1) v2 := by
  have hla := ha.le
  have hma := ha.max
  have hlb := hb.le
  have hmb := hb.max
  have ho : decide (ord (val a n) (val b 1) < 0) = false := decide_eq_false (ord_ge hle)
  clear hle
  obtain ⟨bb, fb, rfl, hbb, hcb⟩ := hb.spot (by omega)
  have dk := nb.1 0 (by omega)
  have hb0 : 0 < b 0 := by
    rcases nb.2 with e | e
    · omega
    · have : b 0 ≠ 0 := e
      omega
  have HV : Hid (val b 1 = b 0) := by show 0 + b 0 * 1 = b 0; omega
  go_enter Tryd.func23, Tryd.ntmps23
  go_wp2_with fail
  refine (compare_any _ _ _ _ _ _ _ _ _ ha hb na nb).mono ?_
  rintro e w1 ⟨rfl, b1⟩
  go_wp2_with fail
  refine (clone_any _ _ _ _ _ (ha.keeps b1) (by omega)).mono ?_
  rintro e w2 ⟨q, rfl, hO, b2⟩
  obtain ⟨qo, qc, rfl, hR⟩ := hO.row
  have c1 := ((bel_trans b1 b2).cell (p := ⟨bb, fb, none⟩) hbb).trans (hcb 0 (by omega))
  go_wp2_with fail
  refine (shorten_any w1.heap.size _ _ _ a (b 0) _ hO na.1 hb0 dk.2 (by omega) b2.size).mono ?_
  rintro e w3 ⟨left, rfl, r, hO3, hD3, hV3, hl0, hl1, b3⟩
  obtain ⟨qo', qc', hqe, hR3⟩ := hO3.row
  simp only [Value.slice.injEq, true_and] at hqe
  obtain ⟨rfl, rfl⟩ := hqe
  go_wp2_with fail
  refine (trim_any _ _ _ _ _ hR3).mono ?_
  rintro e w4 ⟨t, ht, htop, hz, rfl, rfl⟩
  go_wp2_with fail
  refine (digits_nat left _ hl0 (by omega)).mono ?_
  rintro e w5 ⟨v2, rfl, hA⟩
  go_wp2
  go_ret2
  obtain ⟨hN, hv⟩ := nrm_of_top hD3 ht htop hz
  have hb5 := hA.below
  have hw : Below w.heap.size w w4 := (bel_trans b1 b2).trans (b3.mono b1.size)
  obtain ⟨eq, er⟩ := div_of (a := val a n) (b := val b 1) (q := val r n) (r := left) (by rw [HV.out, hV3, Int.mul_comm]) hl0 (by rw [HV.out]; exact hl1)
  refine ⟨_, _, rfl, ⟨t, r, ((hO3.cutV ht).lower b1.size).stays hb5, hN, by rw [hv, eq], bel_trans hw hb5⟩, ?_, ?_⟩
  · rw [← er]; exact hA.from hw
  · intro c hc hc2
    obtain ⟨t3, d3, hO5, _⟩ := hA
    have e2 := own_ge hO5 c hc2
    have e1 := (World.ownsRow.lt (hO3.cutV ht) c hc).2
    omega
theorem divide_less (ao bo : Option Addr) (n m ca cb : Nat) (a b : Nat → Int) (w : World) (ha : Row w ao n ca a) (hb : Row w bo m cb b) (na : Nrm a n) (nb : Nrm b m) (hn : n ≤ 5000) (hlt : val a n < val b m) :
    Calls Tryd.prog 23 #[.slice ao n ca, .slice bo m cb] w fun e w' => ∃ v1 v2, e = .returned (.tuple #[v1, v2]) ∧ Ans2 w w' (val a n / val b m) v1 (val a n % val b m) v2 := by
  have ho : decide (ord (val a n) (val b m) < 0) = true := by rw [ord_lt hlt]; decide
  have HD : Hid (val a n / val b m = 0 ∧ val a n % val b m = val a n) := ⟨Int.ediv_eq_zero_of_lt (val_nonneg na.1) hlt, Int.emod_eq_of_lt (val_nonneg na.1) hlt⟩
  clear hlt
  go_enter Tryd.func23, Tryd.ntmps23
  go_wp2_with fail
  refine (compare_any _ _ _ _ _ _ _ _ _ ha hb na nb).mono ?_
  rintro e w1 ⟨rfl, b1⟩
  go_wp2_with fail
  refine (clone_any _ _ _ _ _ (ha.keeps b1) (by omega)).mono ?_
  rintro e w2 ⟨q, rfl, hO, b2⟩
  go_wp2
  go_ret2
  have hb2 := bel_trans b1 b2
  refine ⟨_, _, rfl, ?_, ?_, ?_⟩
  · rw [HD.out.1]; exact Ans.nil hb2
  · rw [HD.out.2]; exact ⟨n, a, hO.lower b1.size, na, rfl, hb2⟩
  · intro c hc; simp [Value.ownBlock] at hc
theorem divide_any (ao bo : Option Addr) (n m ca cb : Nat) (a b : Nat → Int) (w : World) (ha : Row w ao n ca a) (hb : Row w bo m cb b) (na : Nrm a n) (nb : Nrm b m) (hn : n ≤ 5000) (hm : 0 < m) :
    Calls Tryd.prog 23 #[.slice ao n ca, .slice bo m cb] w fun e w' => ∃ v1 v2, e = .returned (.tuple #[v1, v2]) ∧ Ans2 w w' (val a n / val b m) v1 (val a n % val b m) v2 := by
  by_cases h1 : val a n < val b m
  · exact divide_less ao bo n m ca cb a b w ha hb na nb hn h1
  · by_cases h2 : m = 1
    · subst h2; exact divide_one ao bo n ca cb a b w ha hb na nb hn (by omega)
    · exact divide_gen ao bo n m ca cb a b w ha hb na nb hn (nrm_le_len nb na.1 (by omega)) (by omega) (by omega)
end Go.Proofs.YtmbajngbiefilabDoor
