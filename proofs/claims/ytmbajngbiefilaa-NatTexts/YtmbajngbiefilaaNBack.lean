/-
  Lent lists: what is read of them, and Back.
-/
import Derived.Test.YtmbajngbiefilaaNKept
namespace Go.Proofs.Ytmbajngbiefilaa
open Go Go.RowKit Go.Proofs.Ytmbajngbiefilaa.M
set_option linter.unusedSimpArgs false
set_option linter.unusedVariables false

theorem LentA.below {w w' : World} {v : Value} {n : Nat} {a : Nat → Int} (h : LentA w w' v n a) : Below w.heap.size w w' := by
  obtain ⟨g, cap, _, _, hb⟩ := h
  exact hb
theorem LentA.parts {w w' : World} {v : Value} {n : Nat} {a : Nat → Int} (h : LentA w w' v n a) : ∃ g cap, v = .slice (some ⟨g, 0, none⟩) (n + 3) cap ∧ Out w.heap.size w' (.slice (some ⟨g, 0, none⟩) (n + 3) cap) (n + 3) (lentD a n) := by
  obtain ⟨g, cap, rfl, h, _⟩ := h
  exact ⟨g, cap, rfl, h⟩
theorem lent_cap {B : Nat} {w : World} {g n cap : Nat} {d : Nat → Int} (h : Out B w (.slice (some ⟨g, 0, none⟩) (n + 3) cap) (n + 3) d) : n + 3 ≤ cap ∧ cap ≤ 9223372036854775807 := by
  obtain ⟨_, _, e, hR⟩ := h.row
  simp only [Value.slice.injEq] at e
  obtain ⟨rfl, _, rfl⟩ := e
  exact ⟨hR.le, hR.max⟩
theorem lent_row {B : Nat} {w : World} {g n cap : Nat} {a : Nat → Int} (h : Out B w (.slice (some ⟨g, 0, none⟩) (n + 3) cap) (n + 3) (lentD a n)) : Row w (some ⟨g, 0, none⟩) n cap a := by
  obtain ⟨_, _, e, hR⟩ := (h.cut (show n ≤ n + 3 by omega)).row
  simp only [Value.slice.injEq] at e
  obtain ⟨rfl, _, rfl⟩ := e
  exact hR.congr fun i hi => lentD_lt a hi
theorem lent_two {B B' : Nat} {w : World} {g n cap g' m cap' : Nat} {a b : Nat → Int} (h : Out B w (.slice (some ⟨g, 0, none⟩) (n + 3) cap) (n + 3) (lentD a n)) (h' : Out B' w (.slice (some ⟨g', 0, none⟩) (m + 3) cap') (m + 3) (lentD b m)) :
    Two w (some ⟨g, 0, none⟩) (some ⟨g', 0, none⟩) n m cap cap' a b := ⟨lent_row h, lent_row h'⟩
theorem lent_numA {B : Nat} {w : World} {g n cap : Nat} {a : Nat → Int} (h : Out B w (.slice (some ⟨g, 0, none⟩) (n + 3) cap) (n + 3) (lentD a n)) (hN : Nrm a n) : Num w (.slice (some ⟨g, 0, none⟩) n cap) (val a n) :=
  ⟨_, _, _, _, rfl, lent_row h, hN, rfl⟩
theorem Row.num0 {w : World} {ao : Option Addr} {n cap : Nat} {a : Nat → Int} (h : Row w ao n cap a) (hN : Nrm a n) : Num w (.slice ao n cap) (val a n) := ⟨_, _, _, _, rfl, h, hN, rfl⟩
theorem RowX.of0 {g : Nat} {w0 w : World} {ao : Option Addr} {n cap : Nat} {d : Nat → Int} (h : Row w0 ao n cap d) (hb : Below w0.heap.size w0 w) (hg : w0.heap.size ≤ g) : RowX g w ao n cap d :=
  ⟨h.le, h.max, fun hn => by
    obtain ⟨b, off, rfl, hlt, hc⟩ := h.spot hn
    exact ⟨b, off, rfl, Nat.lt_of_lt_of_le hlt hb.size, by omega, fun i hi => (hb.cell (p := ⟨b, off + i, none⟩) hlt).trans (hc i hi)⟩⟩
set_option maxRecDepth 100000 in
set_option maxHeartbeats 1000000 in
theorem back_any {B g n cap : Nat} {a : Nat → Int} {w : World} (hc : Out B w (.slice (some ⟨g, 0, none⟩) (n + 3) cap) (n + 3) (lentD a n)) {ao : Option Addr} {ca : Nat} (hr : RowX g w ao n ca a) (hnl : Row w ao n ca a) (hn : n ≤ 100000) :
    Calls Try.prog 26 #[.slice (some ⟨g, 0, none⟩) (n + 3) cap, .slice ao n ca] w fun e w' => e = .returned (.bool true) ∧ Wr g w w' := by
  obtain ⟨hcl, hcm⟩ := lent_cap hc
  have hla := hr.le
  have hma := hr.max
  have hR := lent_row hc
  have HC : Hid (Out B w (.slice (some ⟨g, 0, none⟩) (n + 3) cap) (n + 3) (lentD a n)) := hc
  obtain ⟨m0, m1, m2⟩ := lentD_marks a n
  have HM0 : Hid (lentD a n n = -71) := m0
  have HM1 : Hid (lentD a n (n + 1) = -72) := m1
  have HM2 : Hid (lentD a n (n + 2) = -73) := m2
  clear hc m0 m1 m2
  go_enter Try.func26, Try.ntmps26
  go_wp2_with fail
  refine (same_any _ _ n n _ _ a a _ hR hnl).mono ?_
  rintro e w1 ⟨rfl, hb1⟩
  have hsb : sameB a a n n = true := decide_eq_true ⟨rfl, fun _ _ => rfl⟩
  have HC1 : Hid (Out B w1 (.slice (some ⟨g, 0, none⟩) (n + 3) cap) (n + 3) (lentD a n)) := HC.out.stays hb1
  have c0 := HC1.out.cell (i := n) (by omega)
  have c1 := HC1.out.cell (i := n + 1) (by omega)
  have c2 := HC1.out.cell (i := n + 2) (by omega)
  rw [HM0.out] at c0
  rw [HM1.out] at c1
  rw [HM2.out] at c2
  have HW1 : Hid (Wr g w w1) := wr_of hb1
  clear hb1 HC
  go_wp2
  go_loopw [7] (fun i wr => ∃ (k : Nat) (r : Nat → Int), k ≤ n + 3 ∧ i = .int .i64 k ∧ Out B wr (.slice (some ⟨g, 0, none⟩) (n + 3) cap) (n + 3) r ∧ Wr g w wr) (fun i _ => n + 3 - (intOf i).toNat)
  case atStart => exact ⟨0, lentD a n, Nat.zero_le _, rfl, HC1.out, HW1.out⟩
  case round =>
    obtain ⟨k, r, hk, rfl, hO, hw⟩ := hrel
    clear c0 c1 c2
    by_cases hlt : k < n + 3
    · have c := hO.cell hlt
      have f := hO.frozen k
      go_wp2
      go_roundw
      case rel => exact ⟨k + 1, upd r k (-9), by omega, by go_num, hO.store hlt _, hw.setCell _ _⟩
      case measure => simp [intOf]; omega
    · obtain rfl : k = n + 3 := by omega
      go_wp2
      go_ret
      exact ⟨rfl, hw⟩
end Go.Proofs.Ytmbajngbiefilaa
