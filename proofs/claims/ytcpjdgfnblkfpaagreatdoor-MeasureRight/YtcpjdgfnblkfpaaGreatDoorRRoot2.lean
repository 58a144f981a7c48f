/-
  Package round: Root, by its contract; and on numbers told by their worth.
-/
import Derived.Test.YtcpjdgfnblkfpaaGreatDoorRRoot
import Derived.Test.YtcpjdgfnblkfpaaGreatDoorRRt3
namespace Go.Proofs.YtcpjdgfnblkfpaaGreatDoor
open Go Go.RowKit Go.Proofs.YtcpjdgfnblkfpaaGreatDoor.M
set_option linter.unusedSimpArgs false
set_option linter.unusedVariables false

theorem pw_le {a b : Int} (h0 : -4194304 ≤ a) (h : a ≤ b) : pw a ≤ pw b := by
  rw [pw_sub h0 h]
  have := Int.mul_le_mul_of_nonneg_right (show (1 : Int) ≤ 2 ^ (b - a).toNat from two_pos _) (Int.le_of_lt (pw_pos a))
  rwa [Int.one_mul] at this
theorem sg_bd {a q : Int} (ha : 0 ≤ a) (hq : 0 < q) (g h : Bool) : sg g (sg h a * q) ≤ a * q := by
  have h0 : 0 ≤ a * q := Int.mul_nonneg ha (Int.le_of_lt hq)
  rw [sg_prod]
  generalize a * q = t at *
  unfold sg
  cases g <;> cases h
  · exact Int.le_refl _
  · show -t ≤ t; omega
  · show -t ≤ t; omega
  · show - -t ≤ t; omega
theorem P_pw (n : Nat) {e : Int} (he : -4194304 ≤ e) : P n * pw e = pw (e + ((30 * n : Nat) : Int)) := by
  rw [pw_add he, Int.mul_comm]
  congr 1
  induction n with
  | zero => rfl
  | succ n ih =>
    show P n * 1073741824 = _
    rw [ih, Nat.mul_succ, Int.pow_add]
    rfl
theorem isRoot_exI {A : Int} (h : 0 ≤ A) : ∃ s, IsRoot A s := by
  obtain ⟨n, rfl⟩ := Int.eq_ofNat_of_zero_le h
  exact isRoot_ex n
theorem root_X {B : Int} (h : B < pw 1900) : B * pw 0 < pw 1024 * pw 1024 := by
  have h1 : B * pw 0 < pw 1900 * pw 0 := Int.mul_lt_mul_of_pos_right h (pw_pos 0)
  have h2 : pw 1900 * pw 0 = 2 ^ 0 * (pw 950 * pw 950) := pw_cross (by decide) (by decide) (by decide) (by decide) (by decide)
  rw [Int.pow_zero, Int.one_mul] at h2
  rw [h2] at h1
  exact Int.lt_of_lt_of_le h1 (sq_le (Int.le_of_lt (pw_pos _)) (pw_le (by decide) (by decide)))
theorem scV_nonneg {M k : Int} (hM : 0 ≤ M) : 0 ≤ scV M k := by
  unfold scV
  split
  · exact Int.mul_nonneg hM (Int.le_of_lt (two_pos _))
  · exact Int.ediv_nonneg hM (Int.le_of_lt (two_pos _))
theorem sq_nonneg' (a : Int) : 0 ≤ a * a := by
  rcases Int.le_total 0 a with h | h
  · exact Int.mul_nonneg h h
  · exact Int.mul_nonneg_of_nonpos_of_nonpos h h
theorem abs_D {w : World} {g : Bool} {o : Option Addr} {n c : Nat} {e V : Int} (h : DNum w (.agg #[.bool g, .slice o n c, .int .i64 e]) V) (ok : Dok V) : DNum w (.agg #[.bool false, .slice o n c, .int .i64 e]) (sg g V) := by
  obtain ⟨d, hR, hok, rfl⟩ := h.open2 ok
  have ob' := okR_abs hok
  have hBe : sg g (NumR.V ⟨g, o, n, c, d, e⟩) = (⟨false, o, n, c, d, e⟩ : NumR).V := sg_sg g _ _
  rw [hBe]
  exact ⟨false, .slice o n c, _, e, rfl, (okR_dy ob').1, o, n, c, d, rfl, hR, (okR_sane ob').1, rfl⟩
theorem canon_B {b : Int} {w : World} (H : Hold4 w) : Calls Tryz.prog 120 #[.int .i64 b] w fun e w' => e = .returned (.int .i64 (canon b)) ∧ Below w.heap.size w w' := by
  refine (bitsCanon b w H.env.lays).mono ?_
  rintro e w' ⟨h, g⟩
  exact ⟨h, g.be⟩
end Go.Proofs.YtcpjdgfnblkfpaaGreatDoor
