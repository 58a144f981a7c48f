/-
  Texts of decimal digits: plain, value, by contracts.
-/
import Derived.Test.YtmbajngbiefilaaNBack
import Derived.Test.YtmbajngbiefilaaNRef3
namespace Go.Proofs.Ytmbajngbiefilaa
open Go Go.RowKit Go.Proofs.Ytmbajngbiefilaa.M
set_option linter.unusedSimpArgs false
set_option linter.unusedVariables false

/-- The byte at a place. -/
def byt (s : ByteArray) (i : Nat) : Int := if h : i < s.size then (s[i].toNat : Int) else 0
theorem byt_at {s : ByteArray} {i : Nat} (h : i < s.size) : byt s i = (s[i].toNat : Int) := by simp [byt, h]
/-- The first k are decimal digits. -/
def Dec (s : ByteArray) (k : Nat) : Prop := ∀ i, i < k → 48 ≤ byt s i ∧ byt s i ≤ 57
/-- The number of the first k. -/
def num (s : ByteArray) : Nat → Int | 0 => 0 | k + 1 => 10 * num s k + (byt s k - 48)
theorem num_range {s : ByteArray} {k : Nat} (h : Dec s k) : 0 ≤ num s k ∧ num s k < 2 ^ (4 * k) := by
  induction k with
  | zero => exact ⟨Int.le_refl _, show (0 : Int) < 1 by decide⟩
  | succ k ih =>
    obtain ⟨h0, h1⟩ := ih fun i hi => h i (by omega)
    have h2 := h k (by omega)
    rw [show 4 * (k + 1) = 4 * k + 4 by omega, Int.pow_add]
    show 0 ≤ 10 * num s k + (byt s k - 48) ∧ 10 * num s k + (byt s k - 48) < _
    omega
/-- Decimal digits without zeros ahead. -/
def OkT (s : ByteArray) : Prop := Dec s s.size ∧ 0 < s.size ∧ (s.size = 1 ∨ byt s 0 ≠ 48)
noncomputable def okT (s : ByteArray) : Bool := @decide (OkT s) (Classical.propDecidable _)
theorem okT_yes {s : ByteArray} (h : OkT s) : okT s = true := @decide_eq_true _ (Classical.propDecidable _) h
theorem okT_no {s : ByteArray} (h : ¬ OkT s) : okT s = false := @decide_eq_false _ (Classical.propDecidable _) h
theorem okT_out {s : ByteArray} (h : okT s = true) : OkT s := @of_decide_eq_true _ (Classical.propDecidable _) h
theorem okT_not {s : ByteArray} (h : okT s = false) : ¬ OkT s := @of_decide_eq_false _ (Classical.propDecidable _) h
theorem size_list (s : ByteArray) : s.toList.length = s.size := by rw [ByteArray.toList_eq]; exact Array.length_toList
theorem zero_list {s : ByteArray} (h : s.size = 1) (h0 : byt s 0 = 48) : s.toList = [48] := by
  rw [byt_at (by omega)] at h0
  rw [ByteArray.toList_eq]
  obtain ⟨⟨l⟩⟩ := s
  match l, h with
  | [x], _ =>
    have e : (x.toNat : Int) = 48 := h0
    have e2 : x = 48 := UInt8.toNat_inj.1 (by rw [show (48 : UInt8).toNat = 48 from rfl]; omega)
    subst e2
    rfl
set_option maxHeartbeats 400000 in
theorem plain_any (s : ByteArray) (w : World) (hs : s.size ≤ 9223372036854775807) :
    Calls Try.prog 34 #[.string s] w fun e w' => e = .returned (.bool (okT s)) ∧ w' = w := by
  go_enter Try.func34, Try.ntmps34
  go_wp2
  go_loop [6] (fun i => ∃ k : Nat, k ≤ s.size ∧ i = .int .i64 k ∧ Hid (Dec s k)) (fun i => s.size - (intOf i).toNat)
  case atStart => exact ⟨0, Nat.zero_le _, rfl, fun i hi => by omega⟩
  case round =>
    obtain ⟨k, hk, rfl, HD⟩ := hrel
    by_cases hlt : k < s.size
    · have HB := byt_at hlt
      have HB' : Hid (byt s k = (s[k].toNat : Int)) := HB
      clear HB
      by_cases h0 : ((s[k].toNat : Nat) : Int) < 48
      · go_wp2
        go_ret
        exact ⟨ret_bool (okT_no fun q => by have := q.1 k hlt; rw [HB'.out] at this; omega).symm, rfl⟩
      · by_cases h1 : 57 < ((s[k].toNat : Nat) : Int)
        · go_wp2
          go_ret
          exact ⟨ret_bool (okT_no fun q => by have := q.1 k hlt; rw [HB'.out] at this; omega).symm, rfl⟩
        · go_wp2
          go_round
          case rel => exact ⟨k + 1, by omega, by go_num, fun i hi => by
              by_cases e : i = k
              · rw [e, HB'.out]; omega
              · exact HD.out i (by omega)⟩
          case measure => simp [intOf]; omega
    · obtain rfl : k = s.size := by omega
      by_cases hn : s.toList = []
      · have hz : s.size = 0 := by rw [← size_list, hn]; rfl
        have he : ¬ s.toList = [48] := by rw [hn]; decide
        have HZ : Hid (s.size = 0) := hz
        clear hz
        go_wp2
        go_ret
        exact ⟨ret_bool (okT_no fun q => by have := HZ.out; have := q.2.1; omega).symm, rfl⟩
      · have hz : 0 < s.size := by
          rw [← size_list]; exact List.length_pos_iff.2 hn
        have HB' : Hid (byt s 0 = (s[0].toNat : Int)) := byt_at hz
        by_cases he : s.toList = [48]
        · have HZ : Hid (s.size = 1) := by show _ = _; rw [← size_list, he]; rfl
          go_wp2
          go_ret
          exact ⟨ret_bool (okT_yes ⟨HD.out, hz, .inl HZ.out⟩).symm, rfl⟩
        · have HZ : Hid (byt s 0 = 48 → s.size ≠ 1) := fun h0 h1 => he (zero_list h1 h0)
          by_cases h0 : ((s[0].toNat : Nat) : Int) = 48
          · go_wp2
            go_ret
            refine ⟨ret_bool ?_, rfl⟩
            rw [okT_no fun q => by
              rcases q.2.2 with e | e
              · exact HZ.out (HB'.out.trans h0) e
              · exact e (HB'.out.trans h0)]
            simpa using he
          · have h1 : (((s[0].toNat : Nat) : Int) == 48) = false := by simp; omega
            go_wp2
            go_ret
            refine ⟨ret_bool ?_, rfl⟩
            rw [okT_yes ⟨HD.out, hz, .inr (by rw [HB'.out]; exact h0)⟩]
            have e1 : s.toList.isEmpty = false := by simpa using hn
            have e2 : (((s[0].toNat : Nat) : Int) != 48) = true := by simp only [bne, h1]; rfl
            rw [e1, e2]; simp
theorem num_cat (s t : ByteArray) (j : Nat) : ∀ L, (∀ i, i < L → byt t i = byt s (j + i)) → num s (j + L) = num s j * 10 ^ L + num t L
  | 0, _ => by simp [num]
  | L + 1, h => by
    have ih := num_cat s t j L fun i hi => h i (by omega)
    show 10 * num s (j + L) + (byt s (j + L) - 48) = _ + (10 * num t L + (byt t L - 48))
    rw [ih, h L (by omega), Int.pow_succ]
    grind
theorem num_ten {s : ByteArray} : ∀ {k : Nat}, Dec s k → 0 ≤ num s k ∧ num s k < 10 ^ k
  | 0, _ => ⟨Int.le_refl _, show (0 : Int) < 1 by decide⟩
  | k + 1, h => by
    obtain ⟨h0, h1⟩ := num_ten (k := k) fun i hi => h i (by omega)
    have h2 := h k (by omega)
    rw [Int.pow_succ]
    show 0 ≤ 10 * num s k + (byt s k - 48) ∧ 10 * num s k + (byt s k - 48) < _
    omega
theorem ten9 : ∀ j, j < 10 → (10 : Int) ^ j ≤ 1000000000 := by decide
set_option maxHeartbeats 400000 in
theorem value_any (s : ByteArray) (w : World) (hs : s.size ≤ 9) (hd : Dec s s.size) :
    Calls Try.prog 36 #[.string s] w fun e w' => e = .returned (.int .i64 (num s s.size)) ∧ w' = w := by
  have HD : Hid (Dec s s.size) := hd
  clear hd
  go_enter Try.func36, Try.ntmps36
  go_wp2
  go_loop [3, 7] (fun v i => ∃ (k : Nat) (x : Int), k ≤ s.size ∧ i = .int .i64 k ∧ v = .int .i64 x ∧ Hid (x = num s k) ∧ 0 ≤ x ∧ x < 1000000000) (fun _ i => s.size - (intOf i).toNat)
  case atStart => exact ⟨0, 0, Nat.zero_le _, rfl, rfl, rfl, by omega, by omega⟩
  case round =>
    obtain ⟨k, x, hk, rfl, rfl, HX, hx0, hx1⟩ := hrel
    by_cases hlt : k < s.size
    · have HB : Hid (byt s k = (s[k].toNat : Int)) := byt_at hlt
      obtain ⟨b0, b1⟩ : 48 ≤ ((s[k].toNat : Nat) : Int) ∧ ((s[k].toNat : Nat) : Int) ≤ 57 := by rw [← HB.out]; exact HD.out k hlt
      have HN : Hid (10 * x + (((s[k].toNat : Nat) : Int) - 48) = num s (k + 1)) := by show _ = 10 * num s k + (byt s k - 48); rw [HX.out, HB.out]
      have HM : Hid (10 * x + (((s[k].toNat : Nat) : Int) - 48) < 1000000000) := by
        show _ < _
        rw [HN.out]
        refine Int.lt_of_lt_of_le (num_ten fun i hi => HD.out i (by omega)).2 ?_
        have h9 : k + 1 ≤ 9 := by omega
        exact ten9 (k + 1) (by omega)
      go_wp2
      go_round
      case rel => exact ⟨k + 1, _, by omega, by go_num, rfl, HN.out, by omega, HM.out⟩
      case measure => simp [intOf]; omega
    · obtain rfl : k = s.size := by omega
      go_wp2
      go_ret
      exact ⟨ret_int HX.out, rfl⟩
end Go.Proofs.Ytmbajngbiefilaa
