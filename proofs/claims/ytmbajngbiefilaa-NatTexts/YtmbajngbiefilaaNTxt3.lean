/-
  Package nat's Read, by its contract.
-/
import Derived.Test.YtmbajngbiefilaaNTxt2
namespace Go.Proofs.Ytmbajngbiefilaa
open Go Go.RowKit Go.Proofs.Ytmbajngbiefilaa.M
set_option linter.unusedSimpArgs false
set_option linter.unusedVariables false

theorem num_congr {s t : ByteArray} : ∀ {k : Nat}, (∀ i, i < k → byt s i = byt t i) → num s k = num t k
  | 0, _ => rfl
  | k + 1, h => by
    show 10 * num s k + (byt s k - 48) = 10 * num t k + (byt t k - 48)
    rw [num_congr fun i hi => h i (by omega), h k (by omega)]
theorem value_part {u : ByteArray} {L : Nat} (w : World) (hL : L ≤ u.size) (h9 : L ≤ 9) (hd : Dec u L) :
    Calls Try.prog 36 #[.string (u.extract 0 L)] w fun e w' => e = .returned (.int .i64 (num u L)) ∧ w' = w := by
  have hz : (u.extract 0 L).size = L := by rw [ByteArray.size_extract]; omega
  have hb : ∀ i, i < L → byt (u.extract 0 L) i = byt u i := fun i hi => by rw [dec_extract (by omega) hL, Nat.zero_add]
  have h := value_any (u.extract 0 L) w (by omega) (by rw [hz]; exact fun i hi => by rw [hb i hi]; exact hd i hi)
  rw [hz, num_congr hb] at h
  exact h
/-- The length of a text. -/
def lenOf' : Value → Nat | .string u => u.size | _ => 0
theorem P400 : (2 : Int) ^ 12000 = P 400 := by rw [P_two]
theorem num_small {s : ByteArray} {k : Nat} (h : Dec s k) (hk : k ≤ 3000) : num s k < P 400 := by
  rw [← P400]
  exact Int.lt_of_lt_of_le (num_range h).2 (two_le (by omega))
theorem num_mono {s : ByteArray} {j k : Nat} (h : Dec s k) (hj : j ≤ k) : num s j ≤ num s k := by
  induction k with
  | zero => obtain rfl : j = 0 := by omega
            exact Int.le_refl _
  | succ k ih =>
    by_cases e : j = k + 1
    · subst e; exact Int.le_refl _
    · have h1 := ih (fun i hi => h i (by omega)) (by omega)
      have h2 := h k (by omega)
      have h3 := (num_range (s := s) (k := k) fun i hi => h i (by omega)).1
      show num s j ≤ 10 * num s k + (byt s k - 48)
      omega
theorem read_no (s : ByteArray) (w : World) (hs : s.size ≤ 3000) (ok : okT s = false) :
    Calls Try.prog 10 #[.string s] w fun e w' => e = .returned (.tuple #[.slice none 0 0, .int .i64 50]) ∧ w' = w := by
  go_enter Try.func10, Try.ntmps10
  go_wp2_with fail
  refine (plain_any s _ (by omega)).mono ?_
  rintro e w' ⟨rfl, rfl⟩
  go_wp2
  go_ret2
  exact ⟨rfl, rfl⟩
set_option maxRecDepth 100000 in
set_option maxHeartbeats 1000000 in
theorem read_big (s : ByteArray) (w : World) (hs : s.size ≤ 18062) (ok : okT s = true) (hVV : num s s.size < P 2000) :
    Calls Try.prog 10 #[.string s] w fun e w' => ∃ v, e = .returned (.tuple #[v, .int .i64 0]) ∧ Ans w w' (num s s.size) v := by
  have HD : Hid (Dec s s.size) := (okT_out ok).1
  have HVV : Hid (num s s.size < P 2000) := hVV
  clear hVV
  have hbig : decide ((18062 : Int) < (s.size : Int)) = false := decide_eq_false (by omega)
  go_enter Try.func10, Try.ntmps10
  go_wp2_with fail
  refine (plain_any s _ (by omega)).mono ?_
  rintro e w' ⟨rfl, hw⟩
  replace hw := hw.symm
  subst hw
  go_wp2
  go_loopw [0, 4] (fun x l wr => ∃ (u : ByteArray) (j t : Nat) (d : Nat → Int), x = .string u ∧ j + u.size = s.size ∧ Hid (∀ i, i < u.size → byt u i = byt s (j + i)) ∧ (j = 0 ∨ u.size % 9 = 0) ∧ Hid (Out w.heap.size wr l t d ∧ Nrm d t ∧ val d t = num s j) ∧ Below w.heap.size w wr) (fun x _ _ => lenOf' x)
  case atStart => exact ⟨s, 0, 0, fun _ => 0, rfl, by omega, fun i hi => by rw [Nat.zero_add], .inl rfl, ⟨Out.nil _ _ _, ⟨fun i hi => by omega, .inl rfl⟩, rfl⟩, bel_refl _⟩
  case round =>
    obtain ⟨u, j, t, d, rfl, hj, HE, h9, HO, hbw⟩ := hrel
    have hus : u.size ≤ 18062 := by omega
    have HDj : Hid (Dec s j) := fun i hi => HD.out i (by omega)
    obtain ⟨lo, lc, rfl, hR⟩ := HO.out.1.row
    have htl : t ≤ 2000 := by
      have h1 := hR.num0 HO.out.2.1
      rw [HO.out.2.2] at h1
      exact h1.len (Int.lt_of_le_of_lt (num_mono HD.out (show j ≤ s.size by omega)) HVV.out)
    have hrl := hR.le
    have hrm := hR.max
    clear hR
    have HJ : Hid (j + u.size = s.size) := hj
    have HB : Hid (Below w.heap.size w wr) := hbw
    by_cases h0 : 0 < u.size
    · obtain ⟨L, hL⟩ : ∃ L : Nat, L = (u.size - 1) % 9 + 1 := ⟨_, rfl⟩
      have eL : ((u.size : Int) - 1) % 9 + 1 = L := by omega
      have hL1 : 1 ≤ L := by omega
      have hL9 : L ≤ 9 := by omega
      have hLu : L ≤ u.size := by omega
      have HL : Hid (j = 0 ∨ L = 9) := by show _ ∨ _; omega
      have HL' : Hid ((u.size - L) % 9 = 0) := by show _ = _; omega
      have HDu : Hid (Dec u L) := fun i hi => by rw [HE.out i (by omega)]; exact HD.out _ (by omega)
      have HN : Hid (0 ≤ num u L ∧ num u L < 1000000000) := ⟨(num_ten HDu.out).1, Int.lt_of_lt_of_le (num_ten HDu.out).2 (ten9 L (by omega))⟩
      have HV : Hid (num s j * 1000000000 + num u L = num s (j + L)) := by
        show _ = _
        rw [num_cat s u j L fun i hi => HE.out i (by omega)]
        rcases HL.out with e | e
        · subst e; show 0 * 1000000000 + _ = 0 * _ + _; omega
        · subst e; rfl
      have hz : (u.extract L u.size).size = u.size - L := by rw [ByteArray.size_extract]; omega
      have HZ : Hid ((u.extract L u.size).size = u.size - L) := hz
      clear hz hL h9 hj hbw
      go_wp2_with fail
      refine (value_part _ hLu hL9 HDu.out).mono ?_
      rintro e w2 ⟨rfl, hw⟩
      replace hw := hw.symm
      subst hw
      go_wp2_with fail
      refine (extend_any HO.out.1 HO.out.2.1 (by omega) HB.out.size _ HN.out.1 HN.out.2).mono ?_
      rintro e w2 ⟨v2, rfl, t2, d2, hO2, hN2, hv2, hb2⟩
      have HO2 : Hid (Out w.heap.size w2 v2 t2 d2 ∧ Nrm d2 t2 ∧ val d2 t2 = num s (j + L)) := ⟨hO2, hN2, by rw [hv2, HO.out.2.2]; exact HV.out⟩
      have HB2 : Hid (Below w.heap.size w w2) := HB.out.trans hb2
      obtain ⟨o2, c2, rfl, _⟩ := hO2.row
      clear hO2 hN2 hv2 hb2
      go_wp2
      go_roundw
      case rel => exact ⟨u.extract L u.size, j + L, t2, d2, rfl, by rw [HZ.out]; have := HJ.out; omega, fun i hi => by
          rw [HZ.out] at hi
          rw [dec_extract (by omega) (Nat.le_refl _), HE.out _ (by omega), Nat.add_assoc], .inr (by rw [HZ.out]; exact HL'.out), HO2.out, HB2.out⟩
      case measure => simp [lenOf']; omega
    · have hu0 : u.size = 0 := by omega
      have HU : Hid (j = s.size) := by show _ = _; omega
      have e1 : fitV lo t lc = .slice lo t lc := by simp [fitV]; omega
      have e2 : fitE t = 0 := by simp [fitE]; omega
      have HF : Hid (Calls Try.prog 37 #[.slice lo t lc] wr fun e w' => e = .returned (.tuple #[.slice lo t lc, .int .i64 0]) ∧ w' = wr) := by
        have := fit_any lo t lc wr
        rw [e1, e2] at this
        exact this
      clear hu0 e1 e2
      go_wp2_with fail
      refine HF.out.mono ?_
      rintro e w2 ⟨rfl, hw⟩
      replace hw := hw.symm
      subst hw
      go_wp2
      go_ret2
      exact ⟨_, rfl, t, d, HO.out.1, HO.out.2.1, by rw [HO.out.2.2, HU.out], HB.out⟩
theorem read_yes (s : ByteArray) (w : World) (hs : s.size ≤ 3000) (ok : okT s = true) :
    Calls Try.prog 10 #[.string s] w fun e w' => ∃ v, e = .returned (.tuple #[v, .int .i64 0]) ∧ Ans w w' (num s s.size) v :=
  read_big s w (by omega) ok (Int.lt_of_lt_of_le (num_small (okT_out ok).1 hs) (P_le (by decide)))
end Go.Proofs.Ytmbajngbiefilaa
