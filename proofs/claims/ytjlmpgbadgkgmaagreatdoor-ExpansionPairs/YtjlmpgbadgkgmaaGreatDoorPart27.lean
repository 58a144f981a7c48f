/-
  Parts of the proof, one behind another.
-/
import Derived.Test.YtjlmpgbadgkgmaaGreatDoorPart13
import Derived.Test.YtjlmpgbadgkgmaaGreatDoorPart26
import Derived.Test.YtjlmpgbadgkgmaaGreatDoorPart14
import Derived.Test.YtjlmpgbadgkgmaaGreatDoorPart6
import Derived.Test.YtjlmpgbadgkgmaaGreatDoorPart12
import Derived.Test.YtjlmpgbadgkgmaaGreatDoorPart7
import Derived.Test.YtjlmpgbadgkgmaaGreatDoorPart24
import Derived.Test.YtjlmpgbadgkgmaaGreatDoorPart11
import Derived.Test.YtjlmpgbadgkgmaaGreatDoorPart2
import Derived.Lib.AppendZerosOnto
/-
  Package plumbref7: ends, Valid, by their contracts.
-/
namespace Go.Proofs.YtjlmpgbadgkgmaaGreatDoor
open Go Go.RowKit Go.Proofs.YtjlmpgbadgkgmaaGreatDoor.M
set_option linter.unusedSimpArgs false
set_option linter.unusedVariables false

theorem ends_wrap {e : Int} {t bt : Nat} (he : -2000 ≤ e ∧ e ≤ 2064) (ht : t ≤ 10) (hb : bt ≤ 30) : IntKind.i64.wrap (IntKind.i64.wrap (e + IntKind.i64.wrap (30 * IntKind.i64.wrap (t : Int))) + (bt : Int)) = e + 30 * (t : Int) + (bt : Int) := by
  simp only [IntKind.wrap_i64]
  omega
set_option maxRecDepth 100000 in
set_option maxHeartbeats 1000000 in
theorem r7ends_any (b : Int) (w : World) (hb : rng b) (hp : pok b = true) (h0 : pmag b ≠ 0) :
    Calls Tryz.prog 34 #[.int .i64 b] w fun r w' => r = .returned (.tuple #[.int .i64 (pexp b + jz (pmag b)), .int .i64 (pexp b + blen (pmag b))]) ∧ Below w.heap.size w w' := by
  have CO := fun W => rof_any b W hb hp
  have HE := fun {m e : Int} {ng : Bool} (h : Dy (sg (pneg b) (pmag b) * pw (pexp b)) ng m e) => ends_eq hp h0 h
  have hx := xmag_in b
  have hjz := jz_small b h0
  generalize sg (pneg b) (pmag b) * pw (pexp b) = V at *
  go_enter Tryz.func34, Tryz.ntmps34
  go_wp2_with fail
  refine (CO _).mono ?_
  rintro _ w1 ⟨v, rfl, ng, s, m, e, rfl, hD, t, d, hO, hN, hv, hb1⟩
  obtain ⟨e1, e2, m0, m1⟩ := HE hD
  obtain ⟨so, sc, rfl, hR⟩ := hO.row
  obtain ⟨t', rfl⟩ : ∃ t', t = t' + 1 := by
    cases t with
    | zero => have : val d 0 = 0 := rfl; omega
    | succ t' => exact ⟨t', rfl⟩
  have hbl := blen_val hN
  rw [hv] at hbl
  have hdig : ∀ i, i < t' + 1 → 0 ≤ d i ∧ d i < 1073741824 := hN.1
  have hlen : t' ≤ 10 := by
    have h1 : blen m ≤ 53 := blen_le (by show m < 9007199254740992; exact m1)
    omega
  have hmx := hR.max
  have hle := hR.le
  have HD : Hid (∀ i, i < t' + 1 → 0 ≤ d i ∧ d i < 1073741824) := hdig
  have E1 : Hid (e = pexp b + jz (pmag b)) := e1
  have E2 : Hid (e + blen m = pexp b + blen (pmag b)) := e2
  have hee : -2000 ≤ e ∧ e ≤ 2064 := by omega
  clear hdig HE CO hD hN hO hb hp e1 e2
  have hbw := bel_trans hb1 (bel_alloc w1 (.cells #[.bool ng, .slice so (t' + 1) sc, .int .i64 e] 74))
  have HR2 : Hid (Row (w1.alloc (.cells #[.bool ng, .slice so (t' + 1) sc, .int .i64 e] 74)) so (t' + 1) sc d) := hR.alloc _
  have hq := heap_a1 w1 (.cells #[.bool ng, .slice so (t' + 1) sc, .int .i64 e] 74)
  clear hR
  go_wp2_with fail
  generalize w1.alloc (.cells #[.bool ng, .slice so (t' + 1) sc, .int .i64 e] 74) = W at *
  go_loopw [5, 6] (fun nv iv wr => ∃ j c : Int, iv = .int .i64 j ∧ nv = .int .i64 c ∧ -1 ≤ j ∧ j ≤ t' ∧ Below W.heap.size W wr ∧ ((j = t' ∧ c = 0) ∨ (j < t' ∧ c = blen (d t')))) (fun _ iv _ => (intOf iv + 1).toNat)
  case atStart => exact ⟨t', 0, by go_num, rfl, by omega, by omega, bel_refl _, .inl ⟨rfl, rfl⟩⟩
  case round =>
    obtain ⟨j, c, rfl, rfl, hj0, hj1, hwr, hc⟩ := hrel
    have hqr := (hwr.block _ (Array.getElem?_eq_some_iff.1 hq).1).trans hq
    have x1 := blkC hqr 1 rfl
    have x2 := blkC hqr 2 rfl
    by_cases hj : j = -1
    · subst hj
      obtain ⟨_, rfl⟩ : True ∧ c = blen (d t') := by rcases hc with ⟨h1, _⟩ | ⟨_, h1⟩ <;> first | omega | exact ⟨trivial, h1⟩
      have hbd : blen (d t') ≤ 30 := blen_le (by have := (HD.out t' (by omega)).2; show d t' < 1073741824; exact this)
      have E3 : Hid (e + 30 * (t' : Int) + blen (d t') = pexp b + blen (pmag b)) := by
        have := E2.out
        show _ = _
        omega
      generalize blen (d t') = bt at *
      go_wp2
      go_region_held3 (fun W' => W'.cell? ⟨w1.heap.size, 1, none⟩ = some (.slice so (t' + 1) sc) ∧ W'.cell? ⟨w1.heap.size, 2, none⟩ = some (.int .i64 e)) (first | go_keep | exact ⟨x1, x2⟩ | fail) (fail)
      all_goals go_wp2
      all_goals refine bodyPost_ret (v := .tuple #[.int .i64 e, .int .i64 (e + 30 * (t' : Int) + bt)]) (by simp [results, Tryz.results34, go_sem]; exact ends_wrap hee hlen hbd) rfl ⟨by rw [E3.out, E1.out], by first | exact bel_trans hbw hwr | exact (bel_trans hbw hwr).drew⟩
    · obtain ⟨jn, rfl⟩ : ∃ jn : Nat, j = jn := ⟨j.toNat, by omega⟩
      obtain ⟨bb, off, rfl, hbb, hcs⟩ := (HR2.out.keeps hwr).spot (by omega)
      have cj := hcs jn (by omega)
      have hdj := HD.out jn (by omega)
      clear hcs
      rcases hc with ⟨h1, rfl⟩ | ⟨h1, rfl⟩
      · obtain rfl : jn = t' := by omega
        generalize hdd : d jn = D at *
        go_wp2_with fail
        go_loopw [5, 7] (fun nv vv wr2 => ∃ (c u : Int), nv = .int .i64 c ∧ vv = .int .i64 u ∧ 0 ≤ u ∧ u < 1073741824 ∧ 0 ≤ c ∧ c + blen u = blen D ∧ Below W.heap.size W wr2) (fun _ vv _ => (intOf vv).toNat)
        case atStart => exact ⟨0, D, rfl, rfl, hdj.1, hdj.2, by omega, by omega, hwr⟩
        case round =>
          obtain ⟨c, u, rfl, rfl, hu0, hu1, hc0, hcu, hw2⟩ := hrel
          have hbd : blen D ≤ 30 := blen_le (by show D < 1073741824; exact hdj.2)
          have hqr := (hw2.block _ (Array.getElem?_eq_some_iff.1 hq).1).trans hq
          have y1 := blkC hqr 1 rfl
          by_cases hu : u = 0
          · subst hu
            have hz : blen 0 = 0 := blen_zero
            go_wp2
            go_roundw
            case rel => exact ⟨(jn : Int) - 1, c, by go_num, rfl, by omega, by omega, hw2, .inr ⟨by omega, by omega⟩⟩
            case measure => simp [intOf] <;> omega
          · have hh := blen_half (show 0 < u by omega)
            have hd2 : u.tdiv 2 = u / 2 := Int.tdiv_eq_ediv_of_nonneg hu0
            generalize hu2 : u / 2 = u2 at *
            go_wp2
            go_roundw
            case rel => exact ⟨c + 1, u2, by go_num, by first | rfl | (rw [hd2]), by omega, by omega, by omega, by omega, hw2⟩
            case measure => simp [intOf]; omega
      · have hne : ((jn : Int) == (t' : Int) + 1 - 1) = false := by simp; omega
        go_wp2_with fail
        go_loopw [5, 7] (fun nv vv wr2 => nv = .int .i64 (blen (d t')) ∧ vv = .int .i64 (d jn) ∧ Below W.heap.size W wr2) (fun _ vv _ => 0)
        case atStart => exact ⟨rfl, rfl, hwr⟩
        case round =>
          obtain ⟨rfl, rfl, hw2⟩ := hrel
          have hqr := (hw2.block _ (Array.getElem?_eq_some_iff.1 hq).1).trans hq
          have y1 := blkC hqr 1 rfl
          generalize hbt : blen (d t') = bt at *
          go_wp2
          all_goals
            go_roundw
            case rel => exact ⟨(jn : Int) - 1, bt, by go_num, rfl, by omega, by omega, by first | exact hw2 | exact hw2.drew, .inr ⟨by omega, by first | rfl | rw [hbt]⟩⟩
            case measure => simp [intOf] <;> omega
theorem cls_mag {b : Int} (h : cls b = 1 ∨ cls b = 2) : pok b = true ∧ pmag b ≠ 0 := by
  unfold cls at h
  unfold pok pmag
  by_cases h1 : fld b = 2047
  · rw [if_pos h1] at h
    split at h <;> omega
  · rw [if_neg h1] at h ⊢
    by_cases h2 : fld b = 0
    · rw [if_pos h2] at h ⊢
      refine ⟨by simp [h1], fun e => ?_⟩
      rw [if_pos e] at h
      omega
    · rw [if_neg h2]
      have := (frc_le b).1
      exact ⟨by simp [h1], by omega⟩
theorem xok_iff {d : Nat → Int} {k : Nat} : xok d k = true ↔ (cls (d k) = 1 ∨ cls (d k) = 2) ∧ (k = 0 ∨ pexp (d (k - 1)) + blen (pmag (d (k - 1))) ≤ pexp (d k) + jz (pmag (d k))) := by
  have hx := xmag_in (d k)
  have hc : (cls (d k) = 1 ∨ cls (d k) = 2) ↔ pmag (d k) ≠ 0 := by
    constructor
    · intro h; exact (cls_mag h).2
    · intro h
      refine cls_some ?_ h
      cases hp : pok (d k)
      · exfalso
        have hf : fld (d k) = 2047 := by simpa [pok] using hp
        exact h (by unfold pmag; rw [if_pos hf])
      · rfl
  unfold xok
  rw [hc]
  cases k with
  | zero =>
    have : xab d 0 = -9223372036854775808 := rfl
    rw [this]
    simp
    intro _
    omega
  | succ j =>
    have : xab d (j + 1) = pexp (d j) + blen (pmag (d j)) := rfl
    rw [this, Nat.add_sub_cancel]
    simp
set_option maxRecDepth 100000 in
set_option maxHeartbeats 1000000 in
theorem r7valid_any {eo : Option Addr} {n ec : Nat} {d : Nat → Int} (w : World) (h : Row w eo n ec d) (hr : ∀ i, i < n → rng (d i)) (hn : n ≤ 4096) :
    Calls Tryz.prog 14 #[.slice eo n ec] w fun e w' => e = .returned (.bool (xval d n)) ∧ Below w.heap.size w w' := by
  have hle := h.le
  have hmx := h.max
  have HR : Hid (Row w eo n ec d) := h
  have HRN : Hid (∀ i, i < n → rng (d i)) := hr
  clear h hr
  go_enter Tryz.func14, Tryz.ntmps14
  go_wp2_with fail
  go_loopw [3] (fun iv wr => ∃ k : Nat, k ≤ n ∧ iv = .int .i64 k ∧ Hid (xval d k = true) ∧ Below w.heap.size w wr) (fun iv _ => n - (intOf iv).toNat)
  case atStart => exact ⟨0, Nat.zero_le _, rfl, rfl, bel_refl _⟩
  case round =>
    obtain ⟨k, hk, rfl, HX, hbw⟩ := hrel
    by_cases hlt : k < n
    · obtain ⟨bb, off, rfl, hbb, hc⟩ := (HR.out.keeps hbw).spot (by omega)
      have c0 := hc k hlt
      have rk := HRN.out k hlt
      have i0 : (0 : Int) ≤ (k : Int) := by omega
      have i1 : (k : Int) < (n : Int) := by omega
      have HNO : Hid (xok d k = false → xval d n = false) := fun hno => by
        cases hx : xval d n
        · rfl
        · have := xval_mono (show k + 1 ≤ n by omega) hx
          rw [xval_succ, hno, Bool.and_false] at this
          cases this
      have HYS : Hid (xok d k = true → xval d (k + 1) = true) := fun hy => by rw [xval_succ, HX.out, hy]; rfl
      have HI : Hid (xok d k = true ↔ (cls (d k) = 1 ∨ cls (d k) = 2) ∧ (k = 0 ∨ pexp (d (k - 1)) + blen (pmag (d (k - 1))) ≤ pexp (d k) + jz (pmag (d k)))) := xok_iff
      have CC := fun W => refClass (d k) W rk
      by_cases hcl : cls (d k) = 1 ∨ cls (d k) = 2
      · obtain ⟨pk, mk⟩ := cls_mag hcl
        have CE := fun W => r7ends_any (d k) W rk pk mk
        by_cases hk0 : k = 0
        · have hy : Hid (xval d (k + 1) = true) := HYS.out (HI.out.2 ⟨hcl, .inl hk0⟩)
          have hgt : ¬ (0 : Int) < (k : Int) := by omega
          clear hk0 hc
          rcases hcl with hcl | hcl
          all_goals
            rw [hcl] at CC
            go_wp2_with (go_at_call 20; refine (CC _).mono ?_; rintro _ wz ⟨rfl, hw⟩; replace hw := hw.symm; subst hw)
            go_roundw
            case rel => exact ⟨k + 1, by omega, by go_num, hy, by first | exact hbw | exact hbw.drew⟩
            case measure => simp [intOf] <;> omega
        · obtain ⟨j, rfl⟩ : ∃ j, k = j + 1 := ⟨k - 1, by omega⟩
          have cj := hc j (by omega)
          have rj := HRN.out j (by omega)
          have pj := xval_fin HX.out j (by omega)
          have mj : pmag (d j) ≠ 0 := by
            have h1 := HX.out
            rw [xval_succ, Bool.and_eq_true] at h1
            exact (cls_mag (xok_iff.1 h1.2).1).2
          have CJ := fun W => r7ends_any (d j) W rj pj mj
          rw [Nat.add_sub_cancel] at HI
          have hxk := xmag_in (d (j + 1))
          have hxj := xmag_in (d j)
          have hzk := jz_small (d (j + 1)) mk
          have hbj : blen (pmag (d j)) ≤ 63 := blen_le (show pmag (d j) < 9223372036854775808 by omega)
          clear hc mk mj pk pj rk rj
          have hle' : (pexp (d j) + blen (pmag (d j)) ≤ pexp (d (j + 1)) + jz (pmag (d (j + 1)))) ∨ pexp (d (j + 1)) + jz (pmag (d (j + 1))) < pexp (d j) + blen (pmag (d j)) := by omega
          rcases hle' with hl | hl
          · have hy : Hid (xval d (j + 1 + 1) = true) := HYS.out (HI.out.2 ⟨hcl, .inr hl⟩)
            generalize pexp (d j) + ((blen (pmag (d j)) : Nat) : Int) = T at *
            generalize pexp (d (j + 1)) + ((jz (pmag (d (j + 1))) : Nat) : Int) = L at *
            generalize pexp (d j) + ((jz (pmag (d j)) : Nat) : Int) = L' at *
            generalize pexp (d (j + 1)) + ((blen (pmag (d (j + 1))) : Nat) : Int) = T' at *
            have hl' : ¬ L < T := by omega
            rcases hcl with hcl | hcl
            all_goals
              rw [hcl] at CC
              go_wp2_with (go_at_call 20; refine (CC _).mono ?_; rintro _ wz ⟨rfl, hw⟩; replace hw := hw.symm; subst hw)
              refine (CE _).mono ?_
              rintro _ w1 ⟨rfl, hb1⟩
              have cj := (hb1.cell (p := ⟨bb, off + j, none⟩) hbb).trans cj
              have hbw1 := bel_trans hbw hb1
              go_wp2_with fail
              refine (CJ _).mono ?_
              rintro _ w2 ⟨rfl, hb2⟩
              have hbw2 := bel_trans hbw1 hb2
              go_wp2
              go_roundw
              case rel => exact ⟨j + 1 + 1, by omega, by go_num, hy, by first | exact hbw2 | exact hbw2.drew⟩
              case measure => simp [intOf] <;> omega
          · have hno : Hid (false = xval d n) := (HNO.out (by
              cases hx : xok d (j + 1)
              · rfl
              · rcases (HI.out.1 hx).2 with h | h
                · cases h
                · omega)).symm
            generalize pexp (d j) + ((blen (pmag (d j)) : Nat) : Int) = T at *
            generalize pexp (d (j + 1)) + ((jz (pmag (d (j + 1))) : Nat) : Int) = L at *
            generalize pexp (d j) + ((jz (pmag (d j)) : Nat) : Int) = L' at *
            generalize pexp (d (j + 1)) + ((blen (pmag (d (j + 1))) : Nat) : Int) = T' at *
            rcases hcl with hcl | hcl
            all_goals
              rw [hcl] at CC
              go_wp2_with (go_at_call 20; refine (CC _).mono ?_; rintro _ wz ⟨rfl, hw⟩; replace hw := hw.symm; subst hw)
              refine (CE _).mono ?_
              rintro _ w1 ⟨rfl, hb1⟩
              have cj := (hb1.cell (p := ⟨bb, off + j, none⟩) hbb).trans cj
              have hbw1 := bel_trans hbw hb1
              go_wp2_with fail
              refine (CJ _).mono ?_
              rintro _ w2 ⟨rfl, hb2⟩
              have hbw2 := bel_trans hbw1 hb2
              go_wp2
              all_goals go_ret
              all_goals exact ⟨ret_bool hno.out, by first | exact hbw2 | exact hbw2.drew⟩
      · have hno : Hid (false = xval d n) := (HNO.out (by
          cases hx : xok d k
          · rfl
          · exact absurd (HI.out.1 hx).1 hcl)).symm
        have h1 : (cls (d k) != 1) = true := by simp; omega
        have h2 : (cls (d k) != 2) = true := by simp; omega
        generalize cls (d k) = cc at *
        clear hc
        go_wp2_with (go_at_call 20; refine (CC _).mono ?_; rintro _ wz ⟨rfl, hw⟩; replace hw := hw.symm; subst hw)
        all_goals go_ret
        all_goals exact ⟨ret_bool hno.out, by first | exact hbw | exact hbw.drew⟩
    · obtain rfl : k = n := by omega
      go_wp2
      go_ret
      exact ⟨ret_bool HX.out.symm, hbw⟩
end Go.Proofs.YtjlmpgbadgkgmaaGreatDoor

/-
  Package expansion: Of, Grow, Scale where they refuse, by their contracts.
-/
namespace Go.Proofs.YtjlmpgbadgkgmaaGreatDoor
open Go Go.RowKit Go.Proofs.YtjlmpgbadgkgmaaGreatDoor.M
set_option linter.unusedSimpArgs false
set_option linter.unusedVariables false

end Go.Proofs.YtjlmpgbadgkgmaaGreatDoor

/-
  Small laws for plumblaw7.floats and pairs.
-/
namespace Go.Proofs.YtjlmpgbadgkgmaaGreatDoor
open Go Go.RowKit Go.Proofs.YtjlmpgbadgkgmaaGreatDoor.M
set_option linter.unusedSimpArgs false
set_option linter.unusedVariables false

theorem OutE.wr {B gc : Nat} {w w' : World} {v : Value} {n : Nat} {d : Nat → Int} (h : OutE B w v n d) (hw : Wr gc w w') (hg : gc < B) : OutE B w' v n d :=
  h.of_block fun g hg' => hw.block g (h.ge hg').2 (by have := (h.ge hg').1; omega)
/-- What is told of an expansion that was reckoned, in one form. -/
theorem XA.uni {w w' : World} {ok : Bool} {s : Ls} {r : Ending} (h : XA w ok s r w') : ∃ lo lc, r = .returned (.tuple #[.slice lo (lsX ok s).n lc, .int .i64 (erX ok)]) ∧ OutE w.heap.size w' (.slice lo (lsX ok s).n lc) (lsX ok s).n (lsX ok s).d ∧ Below w.heap.size w w' := by
  obtain ⟨(⟨rfl, v, h1, h2⟩ | ⟨rfl, h1⟩), hb⟩ := h
  · have hE := h2.outE
    obtain ⟨lo, lc, rfl, _⟩ := hE.row
    exact ⟨lo, lc, h1, hE, hb⟩
  · exact ⟨none, 0, h1, OutE.nil _ _ _, hb⟩
theorem OutE.at_ {B : Nat} {w : World} {v : Value} {n m : Nat} {d : Nat → Int} (h : OutE B w v n d) (e : n = m) : OutE B w v m d := e ▸ h
theorem Rd.nil (B : Nat) (w : World) (d : Nat → Int) : Rd B w none 0 0 d := fun w' _ => Row.nil w' d
theorem S2E.not {S : Nat → Prop} {l : Value} {s g : Nat} (h1 : ¬ S g) (h2 : ownE l ≠ some g) (h3 : g < s) : ¬ S2E S l s g := by
  rintro (h | h | h)
  · exact h1 h
  · exact h2 h
  · omega
end Go.Proofs.YtjlmpgbadgkgmaaGreatDoor

/-
  Package expansion: add, grow, with blocks that stay, by their contracts.
-/
namespace Go.Proofs.YtjlmpgbadgkgmaaGreatDoor
open Go Go.RowKit Go.Proofs.YtjlmpgbadgkgmaaGreatDoor.M
set_option linter.unusedSimpArgs false
set_option linter.unusedVariables false

/-- The blocks P are there; they stay. -/
def PB (P : Nat → Prop) (w : World) : Prop := ∀ k, P k → k < w.heap.size
structure BelP (P : Nat → Prop) (w w' : World) : Prop where
  os : w'.os = w.os
  tape : w'.tape = w.tape
  output : w'.output = w.output
  size : w.heap.size ≤ w'.heap.size
  block : ∀ k, P k → w'.heap[k]? = w.heap[k]?
theorem BelP.refl (P : Nat → Prop) (w : World) : BelP P w w := ⟨rfl, rfl, rfl, Nat.le_refl _, fun _ _ => rfl⟩
theorem BelP.trans {P : Nat → Prop} {a b c : World} (h : BelP P a b) (k : BelP P b c) : BelP P a c :=
  ⟨k.os.trans h.os, k.tape.trans h.tape, k.output.trans h.output, Nat.le_trans h.size k.size, fun i hi => (k.block i hi).trans (h.block i hi)⟩
theorem BelP.of {P : Nat → Prop} {w w' : World} (h : Below w.heap.size w w') (hP : PB P w) : BelP P w w' := ⟨h.os, h.tape, h.output, h.size, fun k hk => h.block k (hP k hk)⟩
theorem PB.le {P : Nat → Prop} {w w' : World} (h : PB P w) (hs : w.heap.size ≤ w'.heap.size) : PB P w' := fun k hk => Nat.lt_of_lt_of_le (h k hk) hs
/-- A list of the call's own, of none of the blocks P. -/
def OutP (P : Nat → Prop) (w : World) (v : Value) (s : Ls) : Prop := Out 0 w v s.n s.d ∧ ∀ k, v.ownBlock = some k → ¬ P k
theorem OutP.shape {P : Nat → Prop} {w : World} {v : Value} {s : Ls} (h : OutP P w v s) : ∃ ao cap, v = .slice ao s.n cap := by
  obtain ⟨ao, cap, e, _⟩ := h.1.row
  exact ⟨ao, cap, e⟩
theorem OutP.stays {P : Nat → Prop} {w w' : World} {v : Value} {s : Ls} (h : OutP P w v s) (hb : Below w.heap.size w w') : OutP P w' v s := ⟨h.1.stays hb, h.2⟩
theorem OutP.gr {P : Nat → Prop} {w w' : World} {v : Value} {s : Ls} (h : OutP P w v s) (hP : PB P w) (g : w.grownBy w' v.ownBlock) : BelP P w w' :=
  ⟨g.os, g.tape, g.output, g.size, fun k hk => g.block k (hP k hk) fun e => h.2 k e.symm hk⟩
theorem wpList_appT {w : World} {ops : Array Oper} {rest : List Oper} {o : Oper} {a : Act} {Q : Exit → Act → World → Prop} (hgd : o.guard = none) (s x : Operand) (ho : o.op = .call { callee := .builtin .append, args := #[s, x], argTypes := #[22, 22] })
    (B : Nat) (v : Value) (n : Nat) (d : Nat → Int) (hs : a.eval s = v) (hO : Out B w v n d) (bo : Option Addr) (m cb : Nat) (e : Nat → Int) (hx : a.eval x = .slice bo m cb) (hR : Row w bo m cb e) (hlen : n + m ≤ 1000000) (hB : B ≤ w.heap.size)
    (h : ∀ v' w', Out B w' v' (n + m) (cat d n e) → w.grownBy w' v.ownBlock → (v'.ownBlock = v.ownBlock ∨ v'.ownBlock = some w.heap.size) → wpList Tryz.prog ops Q rest (a.put o.dst v') w') : wpList Tryz.prog ops Q (o :: rest) a w := by
  obtain ⟨v', w', hr, h2, h3, h4⟩ := run_app o.type B v n d hO bo m cb e hR hlen hB
  exact Lib.wpList_append_run w hgd s x _ _ ho v (.slice bo m cb) hs hx _ w' hr (h v' w' h2 h3 h4)
set_option maxRecDepth 100000 in
theorem xaddP {P : Nat → Prop} {v : Value} {s : Ls} {b : Int} (w : World) (h : OutP P w v s) (hb : rng b) (hn : s.n ≤ 900000) (hP : PB P w) :
    Calls Tryz.prog 68 #[v, .int .i64 b] w fun e w' => ∃ v', e = .returned v' ∧ OutP P w' v' (s.add b) ∧ BelP P w w' := by
  have hz := fun W => xnought hb W
  by_cases h0 : rg b = 0
  · have e : s.add b = s := by unfold Ls.add; rw [if_pos h0]
    rw [decide_eq_true h0] at hz
    rw [e]
    go_enter Tryz.func68, Tryz.ntmps68
    go_wp2_with (go_at_call 69; refine (hz _).mono ?_; rintro _ _ ⟨rfl, rfl⟩)
    go_ret
    exact ⟨v, rfl, h, BelP.refl _ _⟩
  · have e : s.add b = ⟨s.n + 1, upd s.d s.n b⟩ := by unfold Ls.add; rw [if_neg h0]
    rw [decide_eq_false h0] at hz
    rw [e]
    go_enter Tryz.func68, Tryz.ntmps68
    go_wp2_with (first
      | (go_at_call 69; refine (hz _).mono ?_; rintro _ _ ⟨rfl, rfl⟩)
      | (at_builtin; refine wpList_appT rfl _ _ rfl 0 _ s.n s.d rfl (h.1.stays (bel_alloc _ _)) _ 1 1 (fun _ => b) rfl (row1 _ _ rfl) (by omega) (Nat.zero_le _) ?_; intro v' w1 hO1 hg1 hat1))
    go_ret
    refine ⟨v', rfl, ⟨hO1.congr fun i hi => ?_, fun k hk => ?_⟩, h.gr hP (grown_past hg1)⟩
    · by_cases e : i < s.n
      · simp [cat, e, upd_other s.d _ (show i ≠ s.n by omega)]
      · obtain rfl : i = s.n := by omega
        simp [cat, upd_same]
    · rcases hat1 with q | q
      · exact h.2 k (q.symm.trans hk)
      · rw [hk] at q
        intro hPk
        have := hP k hPk
        simp at q
        omega
set_option maxRecDepth 100000 in
set_option maxHeartbeats 2000000 in
theorem xgrowP_some {P : Nat → Prop} {g n cap : Nat} {d : Nat → Int} {q : Int} (w : World) (h0 : OutP P w (.slice (some ⟨g, 0, none⟩) n cap) ⟨n, d⟩) (hd : ∀ i, i < n → rng (d i) ∧ pok (d i) = true) (hq : rng q) (pq : pok q = true) (hn : n ≤ 800000) (hP : PB P w) :
    Calls Tryz.prog 49 #[.slice (some ⟨g, 0, none⟩) n cap, .int .i64 q] w fun e w' => (gx d q n = true ∧ ∃ v', e = .returned v' ∧ OutP P w' v' (grw n d q) ∧ BelP P w w') ∨ (gx d q n = false ∧ e = gaveX ∧ BelP P w w') := by
  have h : Out 0 w (.slice (some ⟨g, 0, none⟩) n cap) n d := h0.1
  have HNP : Hid (¬ P g) := h0.2 g rfl
  have HPB : Hid (PB P w) := hP
  have HGP : Hid (∀ W, w.grownBy W (some g) → BelP P w W) := fun W hW => h0.gr hP hW
  clear h0 hP
  obtain ⟨hI, hnc, hcm, hBg⟩ := h.inB
  have HQ : Hid (∀ k, k ≤ n → gx d q k = true → rng (gq d q k) ∧ pok (gq d q k) = true) := gq_fin hd hq pq
  have HDD : Hid (∀ i, i < n → rng (d i) ∧ pok (d i) = true) := hd
  have hgl : g < w.heap.size := by obtain ⟨cur, h1, _⟩ := hI; exact (Array.getElem?_eq_some_iff.1 h1).1
  clear hd h hq pq
  go_enter Tryz.func49, Tryz.ntmps49
  go_wp2_with fail
  go_loopw [1, 5, 13] (fun qv gv iv wr => ∃ k : Nat, k ≤ n ∧ iv = .int .i64 k ∧ qv = .int .i64 (gq d q k) ∧ gv = .slice (some ⟨g, 0, none⟩) (gs d q k).n cap ∧ Hid (gx d q k = true) ∧ Hid (InB wr g cap n (gs d q k)) ∧ Hid (w.grownBy wr (some g))) (fun _ _ iv _ => n - (intOf iv).toNat)
  case atStart => exact ⟨0, Nat.zero_le _, rfl, rfl, rfl, rfl, hI, World.grownBy.refl _ _⟩
  case round =>
    obtain ⟨k, hk, rfl, rfl, rfl, HX, HI, HG⟩ := hrel
    clear hI
    have hsn := gs_le d q k
    by_cases hlt : k < n
    · obtain ⟨r1, r2⟩ := HQ.out k hk HX.out
      obtain ⟨d1, d2⟩ := HDD.out k hlt
      have c0 : wr.cell? ⟨g, k, none⟩ = some (.int .i64 (d k)) := by
        obtain ⟨cur, h1, h2, h3⟩ := HI.out
        rw [cell_of_row wr g k cur _ _ h1, h3 k hlt, gs_tail d q k k (Nat.le_refl _)]
      have CT : Hid (∀ W, Calls Tryz.prog 67 #[.int .i64 (gq d q k), .int .i64 (d k)] W fun e w' => e = .returned (.tuple #[.int .i64 (gq d q (k + 1)), .int .i64 (gl d q k), .bool (pok (gl d q k))]) ∧ Below W.heap.size W w') := fun W => xtwoSum r1 d1 r2 d2 W
      have rl : rng (gl d q k) := sL_rng r1 d1
      have i0 : (0 : Int) ≤ (k : Int) := by omega
      have i1 : (k : Int) < (n : Int) := by omega
      have HS : Hid (gs d q (k + 1) = (gs d q k).add (gl d q k)) := rfl
      have HXS : Hid (gx d q (k + 1) = (gx d q k && pok (gl d q k))) := rfl
      have HNO : Hid (pok (gl d q k) = false → gx d q n = false) := fun hno => by
        cases hx : gx d q n
        · rfl
        · have := gx_mono (show k + 1 ≤ n by omega) hx
          rw [HXS.out, hno, Bool.and_false] at this
          cases this
      obtain ⟨q', hq'⟩ : ∃ q', gq d q (k + 1) = q' := ⟨_, rfl⟩
      rw [hq'] at CT
      have HQ' : Hid (gq d q (k + 1) = q') := hq'
      clear hq'
      generalize gl d q k = l at *
      generalize gq d q k = q0 at *
      generalize hd0 : d k = dk at *
      have HD0 : Hid (d k = dk) := hd0
      clear hd0 r1 r2 d1 d2
      have CA := fun W h => xadd_in (g := g) (cap := cap) (N := n) (s := gs d q k) (b := l) W h rl (by omega)
      generalize hs0 : gs d q k = s0 at *
      have HS0 : Hid (gs d q k = s0) := hs0
      clear hs0
      cases hl : pok l
      · rw [hl] at CT
        go_wp2_with fail
        refine (CT.out _).mono ?_
        rintro _ w1 ⟨rfl, hb1⟩
        go_wp2_with fail
        refine (xsure_no _ _ _).mono ?_
        rintro _ _ ⟨rfl, rfl⟩
        unfold gaveX
        go_wp2
        exact ⟨rfl, .inr ⟨HNO.out hl, rfl, HGP.out _ (grown_bel2 HG.out hb1)⟩⟩
      · rw [hl] at CT
        go_wp2_with fail
        refine (CT.out _).mono ?_
        rintro _ w1 ⟨rfl, hb1⟩
        go_wp2_with fail
        refine (xsure_yes _ _ _).mono ?_
        rintro _ _ ⟨rfl, rfl⟩
        rename_i w1
        go_wp2_with fail
        refine (CA _ (HI.out.keeps hb1)).mono ?_
        rintro _ w2 ⟨rfl, hI2, hg2⟩
        go_wp2
        go_roundw
        case rel => exact ⟨k + 1, by omega, by go_num, by rw [HQ'.out], by rw [HS.out], by show _ = _; rw [HXS.out, HX.out, hl]; rfl, by show InB _ _ _ _ _; rw [HS.out]; exact hI2, xgr_trans (grown_bel2 HG.out hb1) hg2⟩
        case measure => simp [intOf]; omega
    · obtain rfl : k = n := by omega
      have hO : OutP P wr (.slice (some ⟨g, 0, none⟩) (gs d q k).n cap) (gs d q k) := ⟨HI.out.out (B := 0) hsn hnc (Nat.zero_le _) hcm, fun j hj => by cases hj; exact HNP.out⟩
      have HQ2 : Hid (rng (gq d q k) ∧ pok (gq d q k) = true) := HQ.out k hk HX.out
      have CA : Hid (∀ W, W = wr → Calls Tryz.prog 68 #[.slice (some ⟨g, 0, none⟩) (gs d q k).n cap, .int .i64 (gq d q k)] W fun e w' => ∃ v', e = .returned v' ∧ OutP P w' v' (grw k d q) ∧ BelP P W w') := fun W hW => by
        subst hW
        exact xaddP W hO HQ2.out.1 (by omega) (HPB.out.le HG.out.size)
      generalize gq d q k = q0 at *
      generalize gs d q k = s0 at *
      clear hO
      go_wp2_with fail
      refine (CA.out _ rfl).mono ?_
      rintro _ w2 ⟨v', rfl, hO2, hg2⟩
      go_wp2
      go_ret
      exact .inl ⟨HX.out, v', rfl, hO2, (HGP.out _ HG.out).trans hg2⟩
/-- grow of a list of the call's own. -/
theorem xgrowP {P : Nat → Prop} {v : Value} {s : Ls} {q : Int} (w : World) (h : OutP P w v s) (hd : s.fin) (hq : rng q) (pq : pok q = true) (hn : s.n ≤ 800000) (hP : PB P w) :
    Calls Tryz.prog 49 #[v, .int .i64 q] w fun e w' => (gx s.d q s.n = true ∧ ∃ v', e = .returned v' ∧ OutP P w' v' (grw s.n s.d q) ∧ BelP P w w') ∨ (gx s.d q s.n = false ∧ e = gaveX ∧ BelP P w w') := by
  obtain ⟨n, d⟩ := s
  rcases id h.1.2 with ⟨rfl, h0⟩ | ⟨g, cap, cur, rfl, _⟩
  · have h0' : n = 0 := h0
    subst h0'
    have CA : Hid (∀ W, W = w → Calls Tryz.prog 68 #[.slice none 0 0, .int .i64 q] W fun e w' => ∃ v', e = .returned v' ∧ OutP P w' v' (grw 0 d q) ∧ BelP P W w') := fun W hW => by
      subst hW
      exact xaddP (s := ⟨0, d⟩) W h hq (Nat.zero_le _) hP
    clear h hd hq pq
    go_enter Tryz.func49, Tryz.ntmps49
    go_wp2_with fail
    go_loopw [1, 5, 13] (fun qv gv iv wr => iv = .int .i64 0 ∧ qv = .int .i64 q ∧ gv = .slice none 0 0 ∧ wr = w) (fun _ _ iv _ => 0)
    case atStart => exact ⟨rfl, rfl, rfl, rfl⟩
    case round =>
      obtain ⟨rfl, rfl, rfl, rfl⟩ := hrel
      go_wp2_with fail
      refine (CA.out _ rfl).mono ?_
      rintro _ w2 ⟨v', rfl, hO2, hg2⟩
      go_wp2
      go_ret
      exact .inl ⟨rfl, v', rfl, hO2, hg2⟩
  · exact xgrowP_some w h hd hq pq hn hP
end Go.Proofs.YtjlmpgbadgkgmaaGreatDoor

/-
  Package expansion: gather, with blocks that stay, by their contracts.
-/
namespace Go.Proofs.YtjlmpgbadgkgmaaGreatDoor
open Go Go.RowKit Go.Proofs.YtjlmpgbadgkgmaaGreatDoor.M
set_option linter.unusedSimpArgs false
set_option linter.unusedVariables false

set_option maxRecDepth 100000 in
set_option maxHeartbeats 400000 in
/-- gather, of a list f that lies below B. -/
theorem xgatherP {P : Nat → Prop} {v : Value} {s : Ls} {fo : Option Addr} {m fc : Nat} {f : Nat → Int} (w : World) (h : OutP P w v s) (hs : s.fin) (hf : ∀ W, BelP P w W → Row W fo m fc f) (hff : ∀ i, i < m → rng (f i) ∧ pok (f i) = true) (hn : s.n + m ≤ 700000) (hB : PB P w) :
    Calls Tryz.prog 63 #[v, .slice fo m fc] w fun e w' => (gaX s f m = true ∧ ∃ v', e = .returned v' ∧ OutP P w' v' (gaS s f m) ∧ BelP P w w') ∨ (gaX s f m = false ∧ e = gaveX ∧ BelP P w w') := by
  have hR := hf w (BelP.refl _ _)
  have hle := hR.le
  have hmx := hR.max
  have HF : Hid (∀ W, BelP P w W → Row W fo m fc f) := hf
  have HFF : Hid (∀ i, i < m → rng (f i) ∧ pok (f i) = true) := hff
  have HFI : Hid (∀ k, k ≤ m → gaX s f k = true → (gaS s f k).fin) := gaS_fin hs hff
  have hL := gaS_le s f
  obtain ⟨ao0, cap0, rfl⟩ := h.shape
  clear hf hff hR hs
  go_enter Tryz.func63, Tryz.ntmps63
  go_wp2_with fail
  go_loopw [0, 9] (fun hv iv wr => ∃ (k : Nat) (v0 : Value), k ≤ m ∧ iv = .int .i64 k ∧ hv = v0 ∧ Hid (gaX s f k = true) ∧ Hid (OutP P wr v0 (gaS s f k)) ∧ Hid (BelP P w wr)) (fun _ iv _ => m - (intOf iv).toNat)
  case atStart => exact ⟨0, _, Nat.zero_le _, rfl, rfl, rfl, h, BelP.refl _ _⟩
  case round =>
    obtain ⟨k, hv, hk, rfl, hve, HX, HL, HBW⟩ := hrel
    replace hve := hve.symm
    subst hve
    clear h
    have hLk := hL k
    by_cases hlt : k < m
    · obtain ⟨b, off, rfl, hbb, hc⟩ := (HF.out _ HBW.out).spot (by omega)
      have c0 := hc k hlt
      clear hc
      obtain ⟨d1, d2⟩ := HFF.out k hlt
      have hwr : PB P wr := PB.le hB HBW.out.size
      have CG : Hid (∀ W, W = wr → Calls Tryz.prog 49 #[hv, .int .i64 (f k)] W fun e w' => (gaX s f (k + 1) = true ∧ ∃ v', e = .returned v' ∧ OutP P w' v' (gaS s f (k + 1)) ∧ BelP P W w') ∨ (gaX s f m = false ∧ e = gaveX ∧ BelP P W w')) := fun W hW => by
        subst hW
        rw [gaS_succ, gaX_succ]
        refine (xgrowP W HL.out (HFI.out k hk HX.out) d1 d2 (by omega) hwr).mono ?_
        rintro e w' (⟨h1, v', h2, h3, h4⟩ | ⟨h1, h2, h3⟩)
        · exact .inl ⟨by rw [HX.out, h1]; rfl, v', h2, h3, h4⟩
        · refine .inr ⟨?_, h2, h3⟩
          cases hx : gaX s f m
          · rfl
          · have := gaX_mono (show k + 1 ≤ m by omega) hx
            rw [gaX_succ, h1, Bool.and_false] at this
            cases this
      generalize f k = fk at *
      have i0 : (0 : Int) ≤ (k : Int) := by omega
      have i1 : (k : Int) < (m : Int) := by omega
      go_wp2_with fail
      refine (CG.out _ rfl).mono ?_
      rintro _ w1 (⟨h1, v', rfl, h3, h4⟩ | ⟨h1, rfl, h3⟩)
      · go_wp2
        go_roundw
        case rel => exact ⟨k + 1, _, by omega, by go_num, rfl, h1, h3, HBW.out.trans h4⟩
        case measure => simp [intOf]; omega
      · unfold gaveX
        go_wp2
        exact ⟨rfl, .inr ⟨h1, rfl, HBW.out.trans h3⟩⟩
    · obtain rfl : k = m := by omega
      go_wp2
      go_ret
      exact .inl ⟨HX.out, _, rfl, HL.out, HBW.out⟩
end Go.Proofs.YtjlmpgbadgkgmaaGreatDoor

/-
  Package expansion: scale, with blocks that stay, by their contracts.
-/
namespace Go.Proofs.YtjlmpgbadgkgmaaGreatDoor
open Go Go.RowKit Go.Proofs.YtjlmpgbadgkgmaaGreatDoor.M
set_option linter.unusedSimpArgs false
set_option linter.unusedVariables false

set_option maxRecDepth 100000 in
set_option maxHeartbeats 1000000 in
theorem xscaleP {P : Nat → Prop} {v : Value} {s : Ls} {eo : Option Addr} {N ec : Nat} {d : Nat → Int} {b : Int} (w : World) (h : OutP P w v s) (hE : ∀ W, BelP P w W → Row W eo (N + 1) ec d) (hd : ∀ i, i ≤ N → rng (d i) ∧ pok (d i) = true) (hb : rng b) (pb : pok b = true) (h0 : ¬ rg b = 0) (hn : s.n + 2 * N ≤ 700000) (hB : PB P w) (H : ∀ W, BelP P w W → Hold4 W) :
    Calls Tryz.prog 51 #[v, .slice eo (N + 1) ec, .int .i64 b] w fun e w' => (sx d b N = true ∧ ∃ v', e = .returned v' ∧ OutP P w' v' (scl s d b N) ∧ BelP P w w') ∨ (sx d b N = false ∧ e = gaveX ∧ BelP P w w') := by
  have hz := fun W => xnought hb W
  rw [decide_eq_false h0] at hz
  have hR := hE w (BelP.refl _ _)
  have hle := hR.le
  have hmx := hR.max
  obtain ⟨bb, off, rfl, hbb, hc⟩ := hR.spot (by omega)
  have c0 := hc 0 (by omega)
  rw [Nat.add_zero] at c0
  have HE : Hid (∀ W, BelP P w W → Row W (some ⟨bb, off, none⟩) (N + 1) ec d) := hE
  have HH : Hid (∀ W, BelP P w W → Hold4 W) := H
  have HD : Hid (∀ i, i ≤ N → rng (d i) ∧ pok (d i) = true) := hd
  have HSQ : Hid (∀ k, k ≤ N → sx d b k = true → rng (sq d b k) ∧ pok (sq d b k) = true) := sq_fin hd hb
  have HSL := ss_le s d b
  have HB : Hid (rng b ∧ pok b = true) := ⟨hb, pb⟩
  have CP : Hid (∀ W, Hold4 W → Calls Tryz.prog 70 #[.int .i64 (d 0), .int .i64 b] W fun e w' => e = .returned (.tuple #[.int .i64 (sq d b 0), .int .i64 (prL (d 0) b), .bool (sx d b 0)]) ∧ Below W.heap.size W w') := fun W hW => xtwoProd (hd 0 (by omega)).1 hb (hd 0 (by omega)).2 pb W hW
  have HS0 : Hid (ss s d b 0 = s.add (prL (d 0) b)) := rfl
  have rl0 : rng (prL (d 0) b) := prL_rng (hd 0 (by omega)).1 hb
  have HNO : Hid (sx d b 0 = false → sx d b N = false) := fun hno => by
    cases hx : sx d b N
    · rfl
    · have := sx_mono (Nat.zero_le N) hx
      rw [hno] at this
      cases this
  clear hE H hd hc hR hb pb
  have hN1 : ((N : Int) + 1 == 0) = false := by simp; omega
  obtain ⟨ao0, cap0, rfl⟩ := h.shape
  cases hx0 : sx d b 0
  · rw [hx0] at CP
    generalize sq d b 0 = q0 at *
    generalize prL (d 0) b = l0 at *
    generalize d 0 = d0 at *
    go_enter Tryz.func51, Tryz.ntmps51
    go_wp2_with (go_at_call 69; refine (hz _).mono ?_; rintro _ wz ⟨rfl, hw⟩; replace hw := hw.symm; subst hw)
    refine (CP.out _ (HH.out _ (BelP.refl _ _))).mono ?_
    rintro _ w1 ⟨rfl, hb1⟩
    have hB1 : BelP P w w1 := BelP.of hb1 hB
    go_wp2_with fail
    refine (xsure_no _ _ _).mono ?_
    rintro _ wz ⟨rfl, hw⟩
    replace hw := hw.symm
    subst hw
    unfold gaveX
    go_wp2
    exact ⟨rfl, .inr ⟨HNO.out hx0, rfl, hB1⟩⟩
  · rw [hx0] at CP
    have CA : Hid (∀ W, BelP P w W → OutP P W (.slice ao0 s.n cap0) s → Calls Tryz.prog 68 #[.slice ao0 s.n cap0, .int .i64 (prL (d 0) b)] W fun e w' => ∃ v', e = .returned v' ∧ OutP P w' v' (ss s d b 0) ∧ BelP P W w') := fun W hW hL => by
      rw [HS0.out]
      exact xaddP W hL rl0 (by omega) (PB.le hB hW.size)
    have HK : Hid (∀ W, Below w.heap.size w W → OutP P W (.slice ao0 s.n cap0) s) := fun W hW => h.stays hW
    clear h
    obtain ⟨q0, hq0⟩ : ∃ q0, sq d b 0 = q0 := ⟨_, rfl⟩
    obtain ⟨l0, hl0⟩ : ∃ l0, prL (d 0) b = l0 := ⟨_, rfl⟩
    rw [hq0, hl0] at CP
    rw [hl0] at CA
    have HQ0 : Hid (sq d b 0 = q0) := hq0
    clear hq0 hl0 rl0 HS0 HNO
    generalize hd0 : d 0 = d0 at c0 CP
    clear hd0
    go_enter Tryz.func51, Tryz.ntmps51
    go_wp2_with (go_at_call 69; refine (hz _).mono ?_; rintro _ wz ⟨rfl, hw⟩; replace hw := hw.symm; subst hw)
    refine (CP.out _ (HH.out _ (BelP.refl _ _))).mono ?_
    rintro _ w1 ⟨rfl, hb1⟩
    have hB1 : BelP P w w1 := BelP.of hb1 hB
    go_wp2_with fail
    refine (xsure_yes _ _ _).mono ?_
    rintro _ wz ⟨rfl, hw⟩
    replace hw := hw.symm
    subst hw
    go_wp2_with fail
    refine (CA.out _ hB1 (HK.out _ hb1)).mono ?_
    rintro _ w2 ⟨v2, rfl, hL2, hb2⟩
    have hB2 := hB1.trans hb2
    clear CP CA HK hz
    go_wp2_with fail
    · have hN0 : N = 0 := by omega
      go_loopw [0, 7, 39] (fun hv qv iv wr => ∃ (k : Nat) (v0 : Value), k ≤ N ∧ iv = .int .i64 k ∧ hv = v0 ∧ qv = .int .i64 (sq d b k) ∧ Hid (sx d b k = true) ∧ Hid (OutP P wr v0 (ss s d b k)) ∧ Hid (BelP P w wr)) (fun _ _ iv _ => N - (intOf iv).toNat)
      case atStart => exact ⟨0, _, Nat.zero_le _, rfl, rfl, by rw [HQ0.out], hx0, hL2, hB2⟩
      case round =>
        obtain ⟨k, hv, hk, rfl, hve, rfl, HX, HL, HBW⟩ := hrel
        replace hve := hve.symm
        subst hve
        clear hL2 hB2 HQ0
        have hLk := HSL k
        obtain rfl : k = N := by omega
        obtain ⟨r1, r2⟩ := HSQ.out k hk HX.out
        have hwr : PB P wr := PB.le hB HBW.out.size
        have CA : Hid (∀ W, W = wr → Calls Tryz.prog 68 #[hv, .int .i64 (sq d b k)] W fun e w' => ∃ v', e = .returned v' ∧ OutP P w' v' (scl s d b k) ∧ BelP P W w') := fun W hW => by
          subst hW
          exact xaddP W HL.out r1 (by omega) hwr
        clear r1 r2
        generalize sq d b k = qk at *
        go_wp2_with fail
        refine (CA.out _ rfl).mono ?_
        rintro _ w3 ⟨v3, rfl, hL3, hb3⟩
        go_wp2
        go_ret
        exact .inl ⟨HX.out, v3, rfl, hL3, HBW.out.trans hb3⟩
    · go_loopw [0, 7, 39] (fun hv qv iv wr => ∃ (k : Nat) (v0 : Value), k ≤ N ∧ iv = .int .i64 k ∧ hv = v0 ∧ qv = .int .i64 (sq d b k) ∧ Hid (sx d b k = true) ∧ Hid (OutP P wr v0 (ss s d b k)) ∧ Hid (BelP P w wr)) (fun _ _ iv _ => N - (intOf iv).toNat)
      case atStart => exact ⟨0, _, Nat.zero_le _, rfl, rfl, by rw [HQ0.out], hx0, hL2, hB2⟩
      case round =>
        obtain ⟨k, hv, hk, rfl, hve, rfl, HX, HL, HBW⟩ := hrel
        replace hve := hve.symm
        subst hve
        clear hL2 hB2 HQ0
        have hLk := HSL k
        by_cases hlt : k < N
        · obtain ⟨bb', off', e1, hbb', hc⟩ := (HE.out _ HBW.out).spot (by omega)
          simp only [Option.some.injEq, Addr.mk.injEq, and_true] at e1
          obtain ⟨rfl, rfl⟩ := e1
          have c1 := hc (k + 1) (by omega)
          rw [show off + (k + 1) = off + 1 + k by omega] at c1
          clear hc
          obtain ⟨d1, d2⟩ := HD.out (k + 1) (by omega)
          obtain ⟨r1, r2⟩ := HSQ.out k hk HX.out
          obtain ⟨b1, b2⟩ := HB.out
          have hwr : PB P wr := PB.le hB HBW.out.size
          have C1 : Hid (∀ W, Hold4 W → Calls Tryz.prog 70 #[.int .i64 (d (k + 1)), .int .i64 b] W fun e w' => e = .returned (.tuple #[.int .i64 (fprod (d (k + 1)) b), .int .i64 (prL (d (k + 1)) b), .bool (pX (d (k + 1)) b)]) ∧ Below W.heap.size W w') := fun W hW => xtwoProd d1 b1 d2 b2 W hW
          have rt : rng (fprod (d (k + 1)) b) := fprod_rng d1 b1
          have ru : rng (prL (d (k + 1)) b) := prL_rng d1 b1
          have HP : Hid (pX (d (k + 1)) b = true → pok (fprod (d (k + 1)) b) = true ∧ pok (prL (d (k + 1)) b) = true) := pX_fin d1 b1
          have HXS : Hid (sx d b (k + 1) = (sx d b k && (pX (d (k + 1)) b && (pok (sL (sq d b k) (prL (d (k + 1)) b)) && fX (fprod (d (k + 1)) b) (fsum (sq d b k) (prL (d (k + 1)) b)))))) := sx_succ d b k
          have HQS : Hid (sq d b (k + 1) = fsum (fprod (d (k + 1)) b) (fsum (sq d b k) (prL (d (k + 1)) b))) := sq_succ d b k
          have HSS : Hid (ss s d b (k + 1) = ((ss s d b k).add (sL (sq d b k) (prL (d (k + 1)) b))).add (fL (fprod (d (k + 1)) b) (fsum (sq d b k) (prL (d (k + 1)) b)))) := ss_succ s d b k
          have HNO : Hid (sx d b (k + 1) = false → sx d b N = false) := fun hno => by
            cases hx : sx d b N
            · rfl
            · have := sx_mono (show k + 1 ≤ N by omega) hx
              rw [hno] at this
              cases this
          generalize fprod (d (k + 1)) b = t at *
          generalize prL (d (k + 1)) b = u at *
          generalize pX (d (k + 1)) b = x1 at *
          generalize d (k + 1) = dk at *
          obtain ⟨qk, hqk⟩ : ∃ qk, sq d b k = qk := ⟨_, rfl⟩
          rw [hqk] at HXS HQS HSS r1 r2 ⊢
          obtain ⟨sk, hsk⟩ : ∃ sk, ss s d b k = sk := ⟨_, rfl⟩
          rw [hsk] at HL HSS hLk
          clear hqk hsk d1 d2 HSQ HD HSL
          have i0 : (0 : Int) ≤ (k : Int) := by omega
          have i1 : (k : Int) < (N : Int) := by omega
          cases hx1 : x1
          · rw [hx1] at C1
            have hno : sx d b N = false := HNO.out (by rw [HXS.out, hx1]; simp)
            go_wp2_with fail
            refine (C1.out _ (HH.out _ HBW.out)).mono ?_
            rintro _ w3 ⟨rfl, hb3⟩
            go_wp2_with fail
            refine (xsure_no _ _ _).mono ?_
            rintro _ wz ⟨rfl, hw⟩
            replace hw := hw.symm
            subst hw
            unfold gaveX
            go_wp2
            exact ⟨rfl, .inr ⟨hno, rfl, HBW.out.trans (BelP.of hb3 hwr)⟩⟩
          · rw [hx1] at C1
            obtain ⟨pt, pu⟩ := HP.out hx1
            have C2 : Hid (∀ W, Calls Tryz.prog 67 #[.int .i64 qk, .int .i64 u] W fun e w' => e = .returned (.tuple #[.int .i64 (fsum qk u), .int .i64 (sL qk u), .bool (pok (sL qk u))]) ∧ Below W.heap.size W w') := fun W => xtwoSum r1 ru r2 pu W
            have rl1 : rng (sL qk u) := sL_rng r1 ru
            have rq1 : rng (fsum qk u) := fsum_rng r1 ru
            have HP2 : Hid (pok (sL qk u) = true → pok (fsum qk u) = true) := fun hh => (sL_exact r1 ru hh).2.1
            clear HP r1 r2 ru pu
            generalize sL qk u = l1 at *
            generalize fsum qk u = q1 at *
            cases hx2 : pok l1
            · rw [hx2] at C2
              have hno : sx d b N = false := HNO.out (by rw [HXS.out, hx2]; simp)
              go_wp2_with fail
              refine (C1.out _ (HH.out _ HBW.out)).mono ?_
              rintro _ w3 ⟨rfl, hb3⟩
              go_wp2_with fail
              refine (xsure_yes _ _ _).mono ?_
              rintro _ wz ⟨rfl, hw⟩
              replace hw := hw.symm
              subst hw
              go_wp2_with fail
              refine (C2.out _).mono ?_
              rintro _ w4 ⟨rfl, hb4⟩
              go_wp2_with fail
              refine (xsure_no _ _ _).mono ?_
              rintro _ wz ⟨rfl, hw⟩
              replace hw := hw.symm
              subst hw
              unfold gaveX
              go_wp2
              exact ⟨rfl, .inr ⟨hno, rfl, HBW.out.trans (BelP.of (bel_trans hb3 hb4) hwr)⟩⟩
            · rw [hx2] at C2
              have pq1 := HP2.out hx2
              have C3 : Hid (∀ W, Calls Tryz.prog 71 #[.int .i64 t, .int .i64 q1] W fun e w' => e = .returned (.tuple #[.int .i64 (fsum t q1), .int .i64 (fL t q1), .bool (fX t q1)]) ∧ Below W.heap.size W w') := fun W => xfast rt rq1 pt pq1 W
              have rl2 : rng (fL t q1) := fL_rng rt rq1
              have hA1 := (sk.add_le l1).2
              have CA1 : Hid (∀ W, BelP P wr W → OutP P W hv sk → Calls Tryz.prog 68 #[hv, .int .i64 l1] W fun e w' => ∃ v', e = .returned v' ∧ OutP P w' v' (sk.add l1) ∧ BelP P W w') := fun W hW hL => xaddP W hL rl1 (by omega) (PB.le hwr hW.size)
              have CA2 : Hid (∀ W v', BelP P wr W → OutP P W v' (sk.add l1) → Calls Tryz.prog 68 #[v', .int .i64 (fL t q1)] W fun e w' => ∃ v'', e = .returned v'' ∧ OutP P w' v'' ((sk.add l1).add (fL t q1)) ∧ BelP P W w') := fun W v' hW hL => xaddP W hL rl2 (by omega) (PB.le hwr hW.size)
              have HKP : Hid (∀ {W W' v' s'}, OutP P W v' s' → Below W.heap.size W W' → OutP P W' v' s') := fun {W W' v' s'} hL hW => hL.stays hW
              clear HP2 rl1 rl2 rq1 rt pt pq1 b1 b2
              generalize fL t q1 = l2 at *
              generalize fsum t q1 = q2 at *
              cases hx3 : fX t q1
              · rw [hx3] at C3
                have hno : sx d b N = false := HNO.out (by rw [HXS.out, hx3]; simp)
                go_wp2_with fail
                refine (C1.out _ (HH.out _ HBW.out)).mono ?_
                rintro _ w3 ⟨rfl, hb3⟩
                go_wp2_with fail
                refine (xsure_yes _ _ _).mono ?_
                rintro _ wz ⟨rfl, hw⟩
                replace hw := hw.symm
                subst hw
                go_wp2_with fail
                refine (C2.out _).mono ?_
                rintro _ w4 ⟨rfl, hb4⟩
                go_wp2_with fail
                refine (xsure_yes _ _ _).mono ?_
                rintro _ wz ⟨rfl, hw⟩
                replace hw := hw.symm
                subst hw
                have hb34 := bel_trans hb3 hb4
                go_wp2_with fail
                refine (CA1.out _ (BelP.of hb34 hwr) (HKP.out HL.out hb34)).mono ?_
                rintro _ w5 ⟨v5, rfl, hL5, hb5⟩
                go_wp2_with fail
                refine (C3.out _).mono ?_
                rintro _ w6 ⟨rfl, hb6⟩
                go_wp2_with fail
                refine (xsure_no _ _ _).mono ?_
                rintro _ wz ⟨rfl, hw⟩
                replace hw := hw.symm
                subst hw
                have hb56 := ((BelP.of hb34 hwr).trans hb5).trans (BelP.of hb6 (PB.le hwr ((BelP.of hb34 hwr).trans hb5).size))
                unfold gaveX
                go_wp2
                exact ⟨rfl, .inr ⟨hno, rfl, HBW.out.trans hb56⟩⟩
              · rw [hx3] at C3
                have hyes : sx d b (k + 1) = true := by rw [HXS.out, HX.out, hx1, hx2, hx3]; rfl
                go_wp2_with fail
                refine (C1.out _ (HH.out _ HBW.out)).mono ?_
                rintro _ w3 ⟨rfl, hb3⟩
                go_wp2_with fail
                refine (xsure_yes _ _ _).mono ?_
                rintro _ wz ⟨rfl, hw⟩
                replace hw := hw.symm
                subst hw
                go_wp2_with fail
                refine (C2.out _).mono ?_
                rintro _ w4 ⟨rfl, hb4⟩
                go_wp2_with fail
                refine (xsure_yes _ _ _).mono ?_
                rintro _ wz ⟨rfl, hw⟩
                replace hw := hw.symm
                subst hw
                have hb34 := bel_trans hb3 hb4
                go_wp2_with fail
                refine (CA1.out _ (BelP.of hb34 hwr) (HKP.out HL.out hb34)).mono ?_
                rintro _ w5 ⟨v5, rfl, hL5, hb5⟩
                go_wp2_with fail
                refine (C3.out _).mono ?_
                rintro _ w6 ⟨rfl, hb6⟩
                go_wp2_with fail
                refine (xsure_yes _ _ _).mono ?_
                rintro _ wz ⟨rfl, hw⟩
                replace hw := hw.symm
                subst hw
                have hb56 := ((BelP.of hb34 hwr).trans hb5).trans (BelP.of hb6 (PB.le hwr ((BelP.of hb34 hwr).trans hb5).size))
                go_wp2_with fail
                refine (CA2.out _ _ hb56 (HKP.out hL5 hb6)).mono ?_
                rintro _ w7 ⟨v7, rfl, hL7, hb7⟩
                go_wp2
                go_roundw
                case rel => exact ⟨k + 1, _, by omega, by go_num, rfl, by rw [HQS.out], hyes, by show OutP _ _ _ _; rw [HSS.out]; exact hL7, HBW.out.trans (hb56.trans hb7)⟩
                case measure => simp [intOf]; omega
        · obtain rfl : k = N := by omega
          obtain ⟨r1, r2⟩ := HSQ.out k hk HX.out
          have hwr : PB P wr := PB.le hB HBW.out.size
          have CA : Hid (∀ W, W = wr → Calls Tryz.prog 68 #[hv, .int .i64 (sq d b k)] W fun e w' => ∃ v', e = .returned v' ∧ OutP P w' v' (scl s d b k) ∧ BelP P W w') := fun W hW => by
            subst hW
            exact xaddP W HL.out r1 (by omega) hwr
          clear r1 r2
          generalize sq d b k = qk at *
          go_wp2_with fail
          refine (CA.out _ rfl).mono ?_
          rintro _ w3 ⟨v3, rfl, hL3, hb3⟩
          go_wp2
          go_ret
          exact .inl ⟨HX.out, v3, rfl, hL3, HBW.out.trans hb3⟩
end Go.Proofs.YtjlmpgbadgkgmaaGreatDoor
