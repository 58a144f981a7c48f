/-
  Parts of the proof, one behind another.
-/
import Derived.Test.YtjlmpgbadgkgmaaGreatDoorPart17
import Derived.Test.YtjlmpgbadgkgmaaGreatDoorPart14
import Derived.Test.YtjlmpgbadgkgmaaGreatDoorPart18
import Derived.Test.YtjlmpgbadgkgmaaGreatDoorPart7
import Derived.Test.YtjlmpgbadgkgmaaGreatDoorPart16
/-
  Two floats that overlap, stand the wrong way round, or of which one is a nought or none: no expansion.
-/
namespace Go.Proofs.YtjlmpgbadgkgmaaGreatDoor
open Go Go.RowKit Go.Proofs.YtjlmpgbadgkgmaaGreatDoor.M
set_option linter.unusedSimpArgs false
set_option linter.unusedVariables false

theorem cls_some {b : Int} (h : pok b = true) (hm : pmag b ≠ 0) : cls b = 1 ∨ cls b = 2 := by
  have hf : fld b ≠ 2047 := by simpa [pok] using h
  unfold pmag at hm
  unfold cls
  rw [if_neg hf] at hm ⊢
  by_cases h0 : fld b = 0
  · rw [if_pos h0] at hm ⊢
    rw [if_neg hm]
    exact .inl rfl
  · rw [if_neg h0]
    exact .inr rfl
theorem xabs_rg {b : Int} (hb : rng b) (h : pok b = true) : abs b = rg b := by
  unfold abs
  rw [if_neg (fin_cls hb h).1]
  rfl
theorem xabs_rng {a : Int} (ha : rng a) : rng (abs a) := by
  unfold rng at *
  unfold abs
  split
  · omega
  · split <;> omega
theorem xpair_less {a b : Int} (ha : rng a) (hb : rng b) (pa : pok a = true) (pb : pok b = true) (mb : pmag b ≠ 0) (h : pexp a + blen (pmag a) ≤ pexp b + jz (pmag b)) : less (abs a) (abs b) = true := by
  obtain ⟨i0, i1, i2, i3⟩ := pmag_in pa
  obtain ⟨j0, j1, j2, j3⟩ := pmag_in pb
  obtain ⟨m, hm, _, _⟩ := jz_spec (show 0 < pmag b by omega) (by omega)
  have o := abs_order ha hb pa pb
  have l := less_order (q_rg ha).1 (q_rg hb).1
  have o' : (FloatKind.f64.format.order (wd (rg a)) (wd (rg b)) == some .lt) = decide ((iV a).natAbs < (iV b).natAbs) := o
  rw [xabs_rg ha pa, xabs_rg hb pb, ← l, o']
  refine decide_eq_true ?_
  have e1 := iV_form ha pa
  have e2 := iV_form hb pb
  have hl := blen_lt (pmag a)
  have p1 := two_pos (pexp a + 1074).toNat
  have p2 := two_pos (pexp b + 1074).toNat
  have s1 : pmag a * 2 ^ (pexp a + 1074).toNat < 2 ^ blen (pmag a) * 2 ^ (pexp a + 1074).toNat := Int.mul_lt_mul_of_pos_right hl p1
  rw [← Int.pow_add] at s1
  have s2 : (2 : Int) ^ (blen (pmag a) + (pexp a + 1074).toNat) ≤ 2 ^ (jz (pmag b) + (pexp b + 1074).toNat) := two_le (by omega)
  have s3 : (2 : Int) ^ jz (pmag b) ≤ pmag b := by
    have p3 := two_pos (jz (pmag b))
    have h1 : (2 : Int) ^ jz (pmag b) * 1 ≤ 2 ^ jz (pmag b) * (2 * m + 1) := Int.mul_le_mul_of_nonneg_left (by omega) (by omega)
    rw [← hm] at h1
    omega
  have s4 : (2 : Int) ^ jz (pmag b) * 2 ^ (pexp b + 1074).toNat ≤ pmag b * 2 ^ (pexp b + 1074).toNat := Int.mul_le_mul_of_nonneg_right s3 (by omega)
  rw [← Int.pow_add] at s4
  omega
theorem xpair_ok {a b : Int} (ha : rng a) (hb : rng b) (h : xval (d2 a b) 2 = true) : (cls a = 1 ∨ cls a = 2) ∧ (cls b = 1 ∨ cls b = 2) ∧ less (abs a) (abs b) = true := by
  have f0 := xval_fin h 0 (by decide)
  have f1 := xval_fin h 1 (by decide)
  have e0 : d2 a b 0 = a := rfl
  have e1 : d2 a b 1 = b := rfl
  rw [e0] at f0
  rw [e1] at f1
  rw [xval_succ, xval_succ, Bool.and_eq_true, Bool.and_eq_true] at h
  obtain ⟨⟨_, h1⟩, h2⟩ := h
  unfold xok at h1 h2
  rw [e0] at h1
  rw [e1] at h2
  have e2 : xab (d2 a b) 1 = pexp a + blen (pmag a) := rfl
  rw [e2] at h2
  simp only [Bool.and_eq_true, Bool.not_eq_true', decide_eq_false_iff_not] at h1 h2
  exact ⟨cls_some f0 h1.1, cls_some f1 h2.1, xpair_less ha hb f0 f1 h2.1 (by omega)⟩
end Go.Proofs.YtjlmpgbadgkgmaaGreatDoor

/-
  Package plumbref7: ends, Valid, by their contracts.
-/
namespace Go.Proofs.YtjlmpgbadgkgmaaGreatDoor
open Go Go.RowKit Go.Proofs.YtjlmpgbadgkgmaaGreatDoor.M
set_option linter.unusedSimpArgs false
set_option linter.unusedVariables false

theorem ends_wrap {e : Int} {t bt : Nat} (he : -2000 ≤ e ∧ e ≤ 2064) (ht : t ≤ 10) (hb : bt ≤ 30) : IntKind.i64.wrap (IntKind.i64.wrap (e + IntKind.i64.wrap (30 * IntKind.i64.wrap (t : Int))) + (bt : Int)) = e + 30 * (t : Int) + (bt : Int) := by
  simp only [IntKind.wrap_i64]
  omega
set_option maxRecDepth 100000 in
set_option maxHeartbeats 1000000 in
theorem r7ends_any (b : Int) (w : World) (hb : rng b) (hp : pok b = true) (h0 : pmag b ≠ 0) :
    Calls Tryz.prog 34 #[.int .i64 b] w fun r w' => r = .returned (.tuple #[.int .i64 (pexp b + jz (pmag b)), .int .i64 (pexp b + blen (pmag b))]) ∧ Below w.heap.size w w' := by
  have CO := fun W => rof_any b W hb hp
  have HE := fun {m e : Int} {ng : Bool} (h : Dy (sg (pneg b) (pmag b) * pw (pexp b)) ng m e) => ends_eq hp h0 h
  have hx := xmag_in b
  have hjz := jz_small b h0
  generalize sg (pneg b) (pmag b) * pw (pexp b) = V at *
  go_enter Tryz.func34, Tryz.ntmps34
  go_wp2_with fail
  refine (CO _).mono ?_
  rintro _ w1 ⟨v, rfl, ng, s, m, e, rfl, hD, t, d, hO, hN, hv, hb1⟩
  obtain ⟨e1, e2, m0, m1⟩ := HE hD
  obtain ⟨so, sc, rfl, hR⟩ := hO.row
  obtain ⟨t', rfl⟩ : ∃ t', t = t' + 1 := by
    cases t with
    | zero => have : val d 0 = 0 := rfl; omega
    | succ t' => exact ⟨t', rfl⟩
  have hbl := blen_val hN
  rw [hv] at hbl
  have hdig : ∀ i, i < t' + 1 → 0 ≤ d i ∧ d i < 1073741824 := hN.1
  have hlen : t' ≤ 10 := by
    have h1 : blen m ≤ 53 := blen_le (by show m < 9007199254740992; exact m1)
    omega
  have hmx := hR.max
  have hle := hR.le
  have HD : Hid (∀ i, i < t' + 1 → 0 ≤ d i ∧ d i < 1073741824) := hdig
  have E1 : Hid (e = pexp b + jz (pmag b)) := e1
  have E2 : Hid (e + blen m = pexp b + blen (pmag b)) := e2
  have hee : -2000 ≤ e ∧ e ≤ 2064 := by omega
  clear hdig HE CO hD hN hO hb hp e1 e2
  have hbw := bel_trans hb1 (bel_alloc w1 (.cells #[.bool ng, .slice so (t' + 1) sc, .int .i64 e] 74))
  have HR2 : Hid (Row (w1.alloc (.cells #[.bool ng, .slice so (t' + 1) sc, .int .i64 e] 74)) so (t' + 1) sc d) := hR.alloc _
  have hq := heap_a1 w1 (.cells #[.bool ng, .slice so (t' + 1) sc, .int .i64 e] 74)
  clear hR
  go_wp2_with fail
  generalize w1.alloc (.cells #[.bool ng, .slice so (t' + 1) sc, .int .i64 e] 74) = W at *
  go_loopw [5, 6] (fun nv iv wr => ∃ j c : Int, iv = .int .i64 j ∧ nv = .int .i64 c ∧ -1 ≤ j ∧ j ≤ t' ∧ Below W.heap.size W wr ∧ ((j = t' ∧ c = 0) ∨ (j < t' ∧ c = blen (d t')))) (fun _ iv _ => (intOf iv + 1).toNat)
  case atStart => exact ⟨t', 0, by go_num, rfl, by omega, by omega, bel_refl _, .inl ⟨rfl, rfl⟩⟩
  case round =>
    obtain ⟨j, c, rfl, rfl, hj0, hj1, hwr, hc⟩ := hrel
    have hqr := (hwr.block _ (Array.getElem?_eq_some_iff.1 hq).1).trans hq
    have x1 := blkC hqr 1 rfl
    have x2 := blkC hqr 2 rfl
    by_cases hj : j = -1
    · subst hj
      obtain ⟨_, rfl⟩ : True ∧ c = blen (d t') := by rcases hc with ⟨h1, _⟩ | ⟨_, h1⟩ <;> first | omega | exact ⟨trivial, h1⟩
      have hbd : blen (d t') ≤ 30 := blen_le (by have := (HD.out t' (by omega)).2; show d t' < 1073741824; exact this)
      have E3 : Hid (e + 30 * (t' : Int) + blen (d t') = pexp b + blen (pmag b)) := by
        have := E2.out
        show _ = _
        omega
      generalize blen (d t') = bt at *
      go_wp2
      go_region_held3 (fun W' => W'.cell? ⟨w1.heap.size, 1, none⟩ = some (.slice so (t' + 1) sc) ∧ W'.cell? ⟨w1.heap.size, 2, none⟩ = some (.int .i64 e)) (first | go_keep | exact ⟨x1, x2⟩ | fail) (fail)
      all_goals go_wp2
      all_goals refine bodyPost_ret (v := .tuple #[.int .i64 e, .int .i64 (e + 30 * (t' : Int) + bt)]) (by simp [results, Tryz.results34, go_sem]; exact ends_wrap hee hlen hbd) rfl ⟨by rw [E3.out, E1.out], by first | exact bel_trans hbw hwr | exact (bel_trans hbw hwr).drew⟩
    · obtain ⟨jn, rfl⟩ : ∃ jn : Nat, j = jn := ⟨j.toNat, by omega⟩
      obtain ⟨bb, off, rfl, hbb, hcs⟩ := (HR2.out.keeps hwr).spot (by omega)
      have cj := hcs jn (by omega)
      have hdj := HD.out jn (by omega)
      clear hcs
      rcases hc with ⟨h1, rfl⟩ | ⟨h1, rfl⟩
      · obtain rfl : jn = t' := by omega
        generalize hdd : d jn = D at *
        go_wp2_with fail
        go_loopw [5, 7] (fun nv vv wr2 => ∃ (c u : Int), nv = .int .i64 c ∧ vv = .int .i64 u ∧ 0 ≤ u ∧ u < 1073741824 ∧ 0 ≤ c ∧ c + blen u = blen D ∧ Below W.heap.size W wr2) (fun _ vv _ => (intOf vv).toNat)
        case atStart => exact ⟨0, D, rfl, rfl, hdj.1, hdj.2, by omega, by omega, hwr⟩
        case round =>
          obtain ⟨c, u, rfl, rfl, hu0, hu1, hc0, hcu, hw2⟩ := hrel
          have hbd : blen D ≤ 30 := blen_le (by show D < 1073741824; exact hdj.2)
          have hqr := (hw2.block _ (Array.getElem?_eq_some_iff.1 hq).1).trans hq
          have y1 := blkC hqr 1 rfl
          by_cases hu : u = 0
          · subst hu
            have hz : blen 0 = 0 := blen_zero
            go_wp2
            go_roundw
            case rel => exact ⟨(jn : Int) - 1, c, by go_num, rfl, by omega, by omega, hw2, .inr ⟨by omega, by omega⟩⟩
            case measure => simp [intOf] <;> omega
          · have hh := blen_half (show 0 < u by omega)
            have hd2 : u.tdiv 2 = u / 2 := Int.tdiv_eq_ediv_of_nonneg hu0
            generalize hu2 : u / 2 = u2 at *
            go_wp2
            go_roundw
            case rel => exact ⟨c + 1, u2, by go_num, by first | rfl | (rw [hd2]), by omega, by omega, by omega, by omega, hw2⟩
            case measure => simp [intOf]; omega
      · have hne : ((jn : Int) == (t' : Int) + 1 - 1) = false := by simp; omega
        go_wp2_with fail
        go_loopw [5, 7] (fun nv vv wr2 => nv = .int .i64 (blen (d t')) ∧ vv = .int .i64 (d jn) ∧ Below W.heap.size W wr2) (fun _ vv _ => 0)
        case atStart => exact ⟨rfl, rfl, hwr⟩
        case round =>
          obtain ⟨rfl, rfl, hw2⟩ := hrel
          have hqr := (hw2.block _ (Array.getElem?_eq_some_iff.1 hq).1).trans hq
          have y1 := blkC hqr 1 rfl
          generalize hbt : blen (d t') = bt at *
          go_wp2
          all_goals
            go_roundw
            case rel => exact ⟨(jn : Int) - 1, bt, by go_num, rfl, by omega, by omega, by first | exact hw2 | exact hw2.drew, .inr ⟨by omega, by first | rfl | rw [hbt]⟩⟩
            case measure => simp [intOf] <;> omega
theorem cls_mag {b : Int} (h : cls b = 1 ∨ cls b = 2) : pok b = true ∧ pmag b ≠ 0 := by
  unfold cls at h
  unfold pok pmag
  by_cases h1 : fld b = 2047
  · rw [if_pos h1] at h
    split at h <;> omega
  · rw [if_neg h1] at h ⊢
    by_cases h2 : fld b = 0
    · rw [if_pos h2] at h ⊢
      refine ⟨by simp [h1], fun e => ?_⟩
      rw [if_pos e] at h
      omega
    · rw [if_neg h2]
      have := (frc_le b).1
      exact ⟨by simp [h1], by omega⟩
theorem xok_iff {d : Nat → Int} {k : Nat} : xok d k = true ↔ (cls (d k) = 1 ∨ cls (d k) = 2) ∧ (k = 0 ∨ pexp (d (k - 1)) + blen (pmag (d (k - 1))) ≤ pexp (d k) + jz (pmag (d k))) := by
  have hx := xmag_in (d k)
  have hc : (cls (d k) = 1 ∨ cls (d k) = 2) ↔ pmag (d k) ≠ 0 := by
    constructor
    · intro h; exact (cls_mag h).2
    · intro h
      refine cls_some ?_ h
      cases hp : pok (d k)
      · exfalso
        have hf : fld (d k) = 2047 := by simpa [pok] using hp
        exact h (by unfold pmag; rw [if_pos hf])
      · rfl
  unfold xok
  rw [hc]
  cases k with
  | zero =>
    have : xab d 0 = -9223372036854775808 := rfl
    rw [this]
    simp
    intro _
    omega
  | succ j =>
    have : xab d (j + 1) = pexp (d j) + blen (pmag (d j)) := rfl
    rw [this, Nat.add_sub_cancel]
    simp
set_option maxRecDepth 100000 in
set_option maxHeartbeats 1000000 in
theorem r7valid_any {eo : Option Addr} {n ec : Nat} {d : Nat → Int} (w : World) (h : Row w eo n ec d) (hr : ∀ i, i < n → rng (d i)) (hn : n ≤ 4096) :
    Calls Tryz.prog 14 #[.slice eo n ec] w fun e w' => e = .returned (.bool (xval d n)) ∧ Below w.heap.size w w' := by
  have hle := h.le
  have hmx := h.max
  have HR : Hid (Row w eo n ec d) := h
  have HRN : Hid (∀ i, i < n → rng (d i)) := hr
  clear h hr
  go_enter Tryz.func14, Tryz.ntmps14
  go_wp2_with fail
  go_loopw [3] (fun iv wr => ∃ k : Nat, k ≤ n ∧ iv = .int .i64 k ∧ Hid (xval d k = true) ∧ Below w.heap.size w wr) (fun iv _ => n - (intOf iv).toNat)
  case atStart => exact ⟨0, Nat.zero_le _, rfl, rfl, bel_refl _⟩
  case round =>
    obtain ⟨k, hk, rfl, HX, hbw⟩ := hrel
    by_cases hlt : k < n
    · obtain ⟨bb, off, rfl, hbb, hc⟩ := (HR.out.keeps hbw).spot (by omega)
      have c0 := hc k hlt
      have rk := HRN.out k hlt
      have i0 : (0 : Int) ≤ (k : Int) := by omega
      have i1 : (k : Int) < (n : Int) := by omega
      have HNO : Hid (xok d k = false → xval d n = false) := fun hno => by
        cases hx : xval d n
        · rfl
        · have := xval_mono (show k + 1 ≤ n by omega) hx
          rw [xval_succ, hno, Bool.and_false] at this
          cases this
      have HYS : Hid (xok d k = true → xval d (k + 1) = true) := fun hy => by rw [xval_succ, HX.out, hy]; rfl
      have HI : Hid (xok d k = true ↔ (cls (d k) = 1 ∨ cls (d k) = 2) ∧ (k = 0 ∨ pexp (d (k - 1)) + blen (pmag (d (k - 1))) ≤ pexp (d k) + jz (pmag (d k)))) := xok_iff
      have CC := fun W => refClass (d k) W rk
      by_cases hcl : cls (d k) = 1 ∨ cls (d k) = 2
      · obtain ⟨pk, mk⟩ := cls_mag hcl
        have CE := fun W => r7ends_any (d k) W rk pk mk
        by_cases hk0 : k = 0
        · have hy : Hid (xval d (k + 1) = true) := HYS.out (HI.out.2 ⟨hcl, .inl hk0⟩)
          have hgt : ¬ (0 : Int) < (k : Int) := by omega
          clear hk0 hc
          rcases hcl with hcl | hcl
          all_goals
            rw [hcl] at CC
            go_wp2_with (go_at_call 20; refine (CC _).mono ?_; rintro _ wz ⟨rfl, hw⟩; replace hw := hw.symm; subst hw)
            go_roundw
            case rel => exact ⟨k + 1, by omega, by go_num, hy, by first | exact hbw | exact hbw.drew⟩
            case measure => simp [intOf] <;> omega
        · obtain ⟨j, rfl⟩ : ∃ j, k = j + 1 := ⟨k - 1, by omega⟩
          have cj := hc j (by omega)
          have rj := HRN.out j (by omega)
          have pj := xval_fin HX.out j (by omega)
          have mj : pmag (d j) ≠ 0 := by
            have h1 := HX.out
            rw [xval_succ, Bool.and_eq_true] at h1
            exact (cls_mag (xok_iff.1 h1.2).1).2
          have CJ := fun W => r7ends_any (d j) W rj pj mj
          rw [Nat.add_sub_cancel] at HI
          have hxk := xmag_in (d (j + 1))
          have hxj := xmag_in (d j)
          have hzk := jz_small (d (j + 1)) mk
          have hbj : blen (pmag (d j)) ≤ 63 := blen_le (show pmag (d j) < 9223372036854775808 by omega)
          clear hc mk mj pk pj rk rj
          have hle' : (pexp (d j) + blen (pmag (d j)) ≤ pexp (d (j + 1)) + jz (pmag (d (j + 1)))) ∨ pexp (d (j + 1)) + jz (pmag (d (j + 1))) < pexp (d j) + blen (pmag (d j)) := by omega
          rcases hle' with hl | hl
          · have hy : Hid (xval d (j + 1 + 1) = true) := HYS.out (HI.out.2 ⟨hcl, .inr hl⟩)
            generalize pexp (d j) + ((blen (pmag (d j)) : Nat) : Int) = T at *
            generalize pexp (d (j + 1)) + ((jz (pmag (d (j + 1))) : Nat) : Int) = L at *
            generalize pexp (d j) + ((jz (pmag (d j)) : Nat) : Int) = L' at *
            generalize pexp (d (j + 1)) + ((blen (pmag (d (j + 1))) : Nat) : Int) = T' at *
            have hl' : ¬ L < T := by omega
            rcases hcl with hcl | hcl
            all_goals
              rw [hcl] at CC
              go_wp2_with (go_at_call 20; refine (CC _).mono ?_; rintro _ wz ⟨rfl, hw⟩; replace hw := hw.symm; subst hw)
              refine (CE _).mono ?_
              rintro _ w1 ⟨rfl, hb1⟩
              have cj := (hb1.cell (p := ⟨bb, off + j, none⟩) hbb).trans cj
              have hbw1 := bel_trans hbw hb1
              go_wp2_with fail
              refine (CJ _).mono ?_
              rintro _ w2 ⟨rfl, hb2⟩
              have hbw2 := bel_trans hbw1 hb2
              go_wp2
              go_roundw
              case rel => exact ⟨j + 1 + 1, by omega, by go_num, hy, by first | exact hbw2 | exact hbw2.drew⟩
              case measure => simp [intOf] <;> omega
          · have hno : Hid (false = xval d n) := (HNO.out (by
              cases hx : xok d (j + 1)
              · rfl
              · rcases (HI.out.1 hx).2 with h | h
                · cases h
                · omega)).symm
            generalize pexp (d j) + ((blen (pmag (d j)) : Nat) : Int) = T at *
            generalize pexp (d (j + 1)) + ((jz (pmag (d (j + 1))) : Nat) : Int) = L at *
            generalize pexp (d j) + ((jz (pmag (d j)) : Nat) : Int) = L' at *
            generalize pexp (d (j + 1)) + ((blen (pmag (d (j + 1))) : Nat) : Int) = T' at *
            rcases hcl with hcl | hcl
            all_goals
              rw [hcl] at CC
              go_wp2_with (go_at_call 20; refine (CC _).mono ?_; rintro _ wz ⟨rfl, hw⟩; replace hw := hw.symm; subst hw)
              refine (CE _).mono ?_
              rintro _ w1 ⟨rfl, hb1⟩
              have cj := (hb1.cell (p := ⟨bb, off + j, none⟩) hbb).trans cj
              have hbw1 := bel_trans hbw hb1
              go_wp2_with fail
              refine (CJ _).mono ?_
              rintro _ w2 ⟨rfl, hb2⟩
              have hbw2 := bel_trans hbw1 hb2
              go_wp2
              all_goals go_ret
              all_goals exact ⟨ret_bool hno.out, by first | exact hbw2 | exact hbw2.drew⟩
      · have hno : Hid (false = xval d n) := (HNO.out (by
          cases hx : xok d k
          · rfl
          · exact absurd (HI.out.1 hx).1 hcl)).symm
        have h1 : (cls (d k) != 1) = true := by simp; omega
        have h2 : (cls (d k) != 2) = true := by simp; omega
        generalize cls (d k) = cc at *
        clear hc
        go_wp2_with (go_at_call 20; refine (CC _).mono ?_; rintro _ wz ⟨rfl, hw⟩; replace hw := hw.symm; subst hw)
        all_goals go_ret
        all_goals exact ⟨ret_bool hno.out, by first | exact hbw | exact hbw.drew⟩
    · obtain rfl : k = n := by omega
      go_wp2
      go_ret
      exact ⟨ret_bool HX.out.symm, hbw⟩
end Go.Proofs.YtjlmpgbadgkgmaaGreatDoor

/-
  Package expansion: Of, Grow, Scale where they refuse, by their contracts.
-/
namespace Go.Proofs.YtjlmpgbadgkgmaaGreatDoor
open Go Go.RowKit Go.Proofs.YtjlmpgbadgkgmaaGreatDoor.M
set_option linter.unusedSimpArgs false
set_option linter.unusedVariables false

set_option maxRecDepth 100000 in
set_option maxHeartbeats 1000000 in
theorem xwf_inf (G : Nat) {eo : Option Addr} {n ec : Nat} {d : Nat → Int} {b : Int} (w : World) (h : Row w eo n ec d) (hv : xval d n = true) (pb : pok b = false) (H : Hold4 w) :
    Calls Tryz.prog 28 #[.slice eo n ec, .int .i64 b, .func (.func G) #[] #[]] w fun r w' => r = .returned (.tuple #[.slice none 0 0, .int .i64 10]) ∧ Below w.heap.size w w' := by
  have hmf : ∀ (fn : Fn) (first cap : Array Value) (w : World), (Instr.makeFunc fn first cap).run Tryz.prog w = .ok (.func fn first cap) w := fun _ _ _ _ => rfl
  have hst : ∀ p F m w, (store p (.func (.func F) #[] #[]) m).run Tryz.prog w = stored Tryz.prog w p (.func (.func F) #[] #[]) m := fun p F m w => run_store _ w p _ m rfl
  have k0 := h3_0 w (.cells #[.slice eo n ec] 22) (.cells #[.int .i64 b] 3) (.cells #[.func (.func G) #[] #[]] 46)
  have k1 := h3_1 w (.cells #[.slice eo n ec] 22) (.cells #[.int .i64 b] 3) (.cells #[.func (.func G) #[] #[]] 46)
  have hb0 := bel_a3 w (.cells #[.slice eo n ec] 22) (.cells #[.int .i64 b] 3) (.cells #[.func (.func G) #[] #[]] 46)
  have CV := fun W hW => xvalid_any W (h.keeps hW) (H.keeps hW)
  rw [hv] at CV
  have CP := fun W hW => bitsPartsA b W (H.keeps hW).lay
  rw [pb] at CP
  go_enter Tryz.func28, Tryz.ntmps28
  go_wp2_with fail
  generalize ((w.alloc (.cells #[.slice eo n ec] 22)).alloc (.cells #[.int .i64 b] 3)).alloc (.cells #[.func (.func G) #[] #[]] 46) = x0 at k0 k1 hb0 ⊢
  refine (CV _ hb0).mono ?_
  rintro _ y1 ⟨rfl, hw1⟩
  have k1 := (hw1.block _ (Array.getElem?_eq_some_iff.1 k1).1).trans k1
  have hbA := bel_trans hb0 hw1
  have c1 := blkC k1 0 rfl
  go_wp2_with fail
  refine (CP _ hbA).mono ?_
  rintro _ y2 ⟨rfl, hw2⟩
  have hbB := bel_trans hbA hw2
  go_wp2
  refine bodyPost_ret (v := .tuple #[.slice none 0 0, .int .i64 10]) (by simp [results, Tryz.results28, go_sem]) rfl ⟨rfl, hbB⟩
set_option maxRecDepth 100000 in
theorem xGrow_bad {eo : Option Addr} {n ec : Nat} {d : Nat → Int} {b : Int} (w : World) (h : Row w eo n ec d) (hv : xval d n = false) (H : Hold4 w) :
    Calls Tryz.prog 9 #[.slice eo n ec, .int .i64 b] w fun r w' => r = .returned (.tuple #[.slice none 0 0, .int .i64 1]) ∧ Below w.heap.size w w' := by
  have CW := xwf_bad (b := b) 29 w h hv H
  go_enter Tryz.func9, Tryz.ntmps9
  go_wp2_with fail
  refine CW.mono ?_
  rintro _ w1 ⟨rfl, hb⟩
  go_wp2
  refine bodyPost_ret (v := .tuple #[.slice none 0 0, .int .i64 1]) (by simp [results, Tryz.results9, go_sem]) rfl ⟨rfl, hb⟩
set_option maxRecDepth 100000 in
theorem xGrow_inf {eo : Option Addr} {n ec : Nat} {d : Nat → Int} {b : Int} (w : World) (h : Row w eo n ec d) (hv : xval d n = true) (pb : pok b = false) (H : Hold4 w) :
    Calls Tryz.prog 9 #[.slice eo n ec, .int .i64 b] w fun r w' => r = .returned (.tuple #[.slice none 0 0, .int .i64 10]) ∧ Below w.heap.size w w' := by
  have CW := xwf_inf (b := b) 29 w h hv pb H
  go_enter Tryz.func9, Tryz.ntmps9
  go_wp2_with fail
  refine CW.mono ?_
  rintro _ w1 ⟨rfl, hb⟩
  go_wp2
  refine bodyPost_ret (v := .tuple #[.slice none 0 0, .int .i64 10]) (by simp [results, Tryz.results9, go_sem]) rfl ⟨rfl, hb⟩
set_option maxRecDepth 100000 in
theorem xScale_bad {eo : Option Addr} {n ec : Nat} {d : Nat → Int} {b : Int} (w : World) (h : Row w eo n ec d) (hv : xval d n = false) (H : Hold4 w) :
    Calls Tryz.prog 10 #[.slice eo n ec, .int .i64 b] w fun r w' => r = .returned (.tuple #[.slice none 0 0, .int .i64 1]) ∧ Below w.heap.size w w' := by
  have CW := xwf_bad (b := b) 30 w h hv H
  go_enter Tryz.func10, Tryz.ntmps10
  go_wp2_with fail
  refine CW.mono ?_
  rintro _ w1 ⟨rfl, hb⟩
  go_wp2
  refine bodyPost_ret (v := .tuple #[.slice none 0 0, .int .i64 1]) (by simp [results, Tryz.results10, go_sem]) rfl ⟨rfl, hb⟩
set_option maxRecDepth 100000 in
theorem xScale_inf {eo : Option Addr} {n ec : Nat} {d : Nat → Int} {b : Int} (w : World) (h : Row w eo n ec d) (hv : xval d n = true) (pb : pok b = false) (H : Hold4 w) :
    Calls Tryz.prog 10 #[.slice eo n ec, .int .i64 b] w fun r w' => r = .returned (.tuple #[.slice none 0 0, .int .i64 10]) ∧ Below w.heap.size w w' := by
  have CW := xwf_inf (b := b) 30 w h hv pb H
  go_enter Tryz.func10, Tryz.ntmps10
  go_wp2_with fail
  refine CW.mono ?_
  rintro _ w1 ⟨rfl, hb⟩
  go_wp2
  refine bodyPost_ret (v := .tuple #[.slice none 0 0, .int .i64 10]) (by simp [results, Tryz.results10, go_sem]) rfl ⟨rfl, hb⟩
set_option maxRecDepth 100000 in
theorem xOf_ok {b : Int} (w : World) (hb : rng b) (pb : pok b = true) (H : Hold4 w) :
    Calls Tryz.prog 16 #[.int .i64 b] w fun r w' => XA w true ((⟨0, fun _ => 0⟩ : Ls).add b) r w' := by
  have CW := xGrow (d := fun _ => 0) w (Row.nil _ _) (fun i hi => by omega) rfl hb pb (by omega) H
  have CW : Calls Tryz.prog 9 #[.slice none 0 0, .int .i64 b] w fun r w' => XA w true ((⟨0, fun _ => 0⟩ : Ls).add b) r w' := CW
  generalize (⟨0, fun _ => 0⟩ : Ls).add b = S at *
  go_enter Tryz.func16, Tryz.ntmps16
  go_wp2_with fail
  refine CW.mono ?_
  rintro _ w1 ⟨(⟨h1, v, rfl, h2⟩ | ⟨h1, rfl⟩), hb⟩
  · obtain ⟨ao, cc, rfl⟩ := h2.shape
    go_wp2
    refine bodyPost_ret (v := .tuple #[.slice ao S.n cc, .int .i64 0]) (by simp [results, Tryz.results16, go_sem]) rfl ⟨.inl ⟨rfl, _, rfl, h2⟩, hb⟩
  · cases h1
set_option maxRecDepth 100000 in
theorem xOf_inf {b : Int} (w : World) (pb : pok b = false) (H : Hold4 w) :
    Calls Tryz.prog 16 #[.int .i64 b] w fun r w' => r = .returned (.tuple #[.slice none 0 0, .int .i64 10]) ∧ Below w.heap.size w w' := by
  have CW := xGrow_inf (d := fun _ => 0) w (Row.nil _ _) rfl pb H
  go_enter Tryz.func16, Tryz.ntmps16
  go_wp2_with fail
  refine CW.mono ?_
  rintro _ w1 ⟨rfl, hb⟩
  go_wp2
  refine bodyPost_ret (v := .tuple #[.slice none 0 0, .int .i64 10]) (by simp [results, Tryz.results16, go_sem]) rfl ⟨rfl, hb⟩
end Go.Proofs.YtjlmpgbadgkgmaaGreatDoor
