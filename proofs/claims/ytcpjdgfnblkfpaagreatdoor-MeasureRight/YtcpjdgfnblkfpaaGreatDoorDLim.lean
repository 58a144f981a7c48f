/-
  Numbers at the ends of what is valid: which have a valid form, which have none; calls that are known to tell a number or ErrLong.
-/
import Derived.Test.YtcpjdgfnblkfpaaGreatDoorDLaw
import Derived.Test.YtcpjdgfnblkfpaaGreatDoorDSum
namespace Go.Proofs.YtcpjdgfnblkfpaaGreatDoor
open Go Go.RowKit Go.Proofs.YtcpjdgfnblkfpaaGreatDoor.M
set_option linter.unusedSimpArgs false
set_option linter.unusedVariables false

theorem P_one : (1 : Int) < P 2000 := by
  have := P2000_big2
  omega
theorem mk_one {ng : Bool} {e : Int} (h : -4194304 ≤ e) : mkV ng 1 e = sg ng 1 * pw e := by
  unfold mkV
  rw [if_neg (by decide), if_neg (by omega)]
theorem dy_one {ng : Bool} {e : Int} (h : -4194304 ≤ e) : Dy (mkV ng 1 e) ng 1 e := ⟨mk_one h, h, .inr ⟨by decide, by decide⟩⟩
theorem dok_one {ng : Bool} {e : Int} (h0 : -1048576 ≤ e) (h1 : e ≤ 1048576) : Dok (mkV ng 1 e) := (dy_one (by omega)).ok.2 ⟨P_one, h0, h1⟩
theorem nok_one {ng : Bool} {e : Int} (h : 1048576 < e ∨ e < -1048576) : ¬ Dok (mkV ng 1 e) := by
  by_cases h0 : e < -4194304
  · unfold mkV
    rw [if_neg (by decide), if_pos h0]
    exact not_dok_one
  · intro hk
    have := (dy_one (ng := ng) (e := e) (by omega)).ok.1 hk
    omega
theorem nok_two {e : Int} (h0 : -4194304 ≤ e) (h : 1048576 ≤ e) : ¬ Dok (mkV false 2 e) := by
  have e1 : mkV false 2 e = mkV false 1 (e + 1) := by
    rw [mk_one (by omega)]
    unfold mkV
    rw [if_neg (by decide), if_neg (by omega)]
    have := pw_add h0 1
    rw [show e + ((1 : Nat) : Int) = e + 1 from rfl] at this
    rw [this]
    simp only [sg]
    grind
  rw [e1]
  exact nok_one (.inl (by omega))
theorem one_sum {a b : Int} (h : b ≤ a) (h0 : -4194304 ≤ b) : mkV false 1 a + mkV false 1 b = (2 ^ (a - b).toNat + 1) * pw b := by
  rw [mk_one (by omega), mk_one (by omega), pw_sub h0 h]
  simp only [sg]
  generalize pw b = Q
  generalize (2 : Int) ^ (a - b).toNat = R
  grind
theorem nok_sum {a b : Int} (h : b + 60000 ≤ a) (h0 : -4194304 ≤ b) : ¬ Dok (mkV false 1 a + mkV false 1 b) := by
  rw [one_sum (by omega) h0]
  have hp := two_pos (a - b).toNat
  have ho : ((2 : Int) ^ (a - b).toNat + 1) % 2 = 1 := by
    obtain ⟨k, hk⟩ : ∃ k, (a - b).toNat = k + 1 := ⟨(a - b).toNat - 1, by omega⟩
    rw [hk, Int.pow_succ]
    omega
  have hd : Dy (((2 : Int) ^ (a - b).toNat + 1) * pw b) false (2 ^ (a - b).toNat + 1) b := ⟨rfl, h0, .inr ⟨by omega, ho⟩⟩
  intro hk
  have h1 := (hd.ok.1 hk).1
  have h2 : (2 : Int) ^ (30 * 2000) ≤ 2 ^ (a - b).toNat := two_le (by omega)
  rw [← P_two] at h2
  omega
theorem twice_one {ng : Bool} {e : Int} (h : -4194304 ≤ e) : mkV ng 1 e + mkV ng 1 e = mkV ng 1 (e + 1) := by
  rw [mk_one h, mk_one (by omega)]
  have := pw_add h 1
  rw [show e + ((1 : Nat) : Int) = e + 1 from rfl] at this
  rw [this]
  generalize pw e = Q
  cases ng <;> simp only [sg] <;> grind
theorem one_lt {a b : Int} (h : b < a) (h0 : -4194304 ≤ b) : mkV false 1 b < mkV false 1 a := by
  have h1 := one_sum (a := a) (b := b) (by omega) h0
  rw [mk_one (by omega), mk_one (by omega)] at *
  rw [pw_sub h0 (show b ≤ a by omega)]
  simp only [sg]
  have hp := pw_pos b
  have h2 : (2 : Int) ≤ 2 ^ (a - b).toNat := by
    have := two_le (show 1 ≤ (a - b).toNat by omega)
    rwa [show (2 : Int) ^ 1 = 2 from rfl] at this
  have h3 : 2 * pw b ≤ 2 ^ (a - b).toNat * pw b := Int.mul_le_mul_of_nonneg_right h2 (by omega)
  simp
  omega
theorem nok_prod {C : Int} (h : C * 2 ^ 4194304 = mkV true 1 (-1048576) * mkV true 1 (-1048576)) : ¬ Dok C := by
  have e : C = mkV false 1 (-2097152) := by
    refine scale_inj ?_
    rw [h, mk_one (by omega), mk_one (by omega)]
    have := pw_mul (a := -1048576) (b := -1048576) (by omega) (by omega)
    rw [show (-1048576 : Int) + -1048576 = -2097152 from rfl] at this
    generalize pw (-1048576) = Q at *
    generalize pw (-2097152) = R at *
    rw [show sg true 1 = -1 from rfl, show sg false 1 = 1 from rfl, Int.one_mul, ← this, show (-1 : Int) * Q = -Q by omega, Int.neg_mul_neg]
  rw [e]
  exact nok_one (.inr (by omega))
theorem dok_low2 : Dok (mkV true 1 (-1048576) + mkV true 1 (-1048576)) := by
  rw [twice_one (by omega)]
  exact dok_one (by omega) (by omega)
theorem nok_high2 : ¬ Dok (mkV false 1 1048576 + mkV false 1 1048576) := by
  rw [twice_one (by omega)]
  exact nok_one (.inl (by omega))
theorem dok_minus {V : Int} (h : Dok V) : Dok (-V) := by
  obtain ⟨ng, m, e, hy, h1⟩ := h
  rcases hy.form with ⟨h2, _, _⟩ | ⟨h2, _⟩
  · rw [hy.eq_zero.2 h2]; exact dok_zero
  · exact (hy.neg h2).ok.2 h1
theorem DFit.no {w w' : World} {V er : Int} {v : Value} (h : DFit w w' V v er) (no : ¬ Dok V) : er = 2 ∧ v = zeroV ∧ Below w.heap.size w w' := by
  rcases h.2 with ⟨ok, _⟩ | ⟨_, h1, h2⟩
  · exact absurd ok no
  · exact ⟨h1, h2, h.1⟩
theorem addD_yes {w : World} {x y : Value} {A B : Int} (hx : DNum w x A) (hy : DNum w y B) (oA : Dok A) (oB : Dok B) (hT : Tab w) (ok : Dok (A + B)) :
    Calls Tryz.prog 42 #[x, y] w fun r w' => ∃ v, r = .returned (.tuple #[v, .int .i64 0]) ∧ DAns w w' (A + B) v := by
  refine (add_D hx hy oA oB hT).mono ?_
  rintro r w' ⟨v, er, rfl, h⟩
  obtain ⟨rfl, h2⟩ := h.yes ok
  exact ⟨v, rfl, h2⟩
theorem addD_no {w : World} {x y : Value} {A B : Int} (hx : DNum w x A) (hy : DNum w y B) (oA : Dok A) (oB : Dok B) (hT : Tab w) (no : ¬ Dok (A + B)) :
    Calls Tryz.prog 42 #[x, y] w fun r w' => r = .returned (.tuple #[zeroV, .int .i64 2]) ∧ Below w.heap.size w w' := by
  refine (add_D hx hy oA oB hT).mono ?_
  rintro r w' ⟨v, er, rfl, h⟩
  obtain ⟨rfl, rfl, h2⟩ := h.no no
  exact ⟨rfl, h2⟩
theorem sub_zero {w : World} {x : Value} {A : Int} (hx : DNum w x A) (oA : Dok A) (hT : Tab w) :
    Calls Tryz.prog 43 #[x, x] w fun r w' => ∃ v, r = .returned (.tuple #[v, .int .i64 0]) ∧ DAns w w' 0 v := by
  refine (sub_D hx hx oA oA hT).mono ?_
  rintro r w' ⟨v, er, rfl, h⟩
  rw [Int.sub_self] at h
  obtain ⟨rfl, h2⟩ := h.yes dok_zero
  exact ⟨v, rfl, h2⟩
theorem mul_no {w : World} {x : Value} {A : Int} (hx : DNum w x A) (oA : Dok A) (hT : Tab w) (no : ∀ C, C * 2 ^ 4194304 = A * A → ¬ Dok C) :
    Calls Tryz.prog 44 #[x, x] w fun r w' => r = .returned (.tuple #[zeroV, .int .i64 2]) ∧ Below w.heap.size w w' := by
  refine (mul_D hx hx oA oA hT).mono ?_
  rintro r w' ⟨v, er, C, rfl, hC, h⟩
  obtain ⟨rfl, rfl, h2⟩ := h.no (no C hC)
  exact ⟨rfl, h2⟩
def trip3 (x y z : NumR) : Nat → NumR := fun i => if i = 0 then x else if i = 1 then y else z
theorem nums3 {w : World} {g : Nat} {x y z : NumR} {t : TypeId} (h : w.heap[g]? = some (.cells #[.bool x.ng, .slice x.ao x.n x.cap, .int .i64 x.e, .bool y.ng, .slice y.ao y.n y.cap, .int .i64 y.e, .bool z.ng, .slice z.ao z.n z.cap, .int .i64 z.e] t (0, 0))) (hx : Row w x.ao x.n x.cap x.d) (hy : Row w y.ao y.n y.cap y.d) (hz : Row w z.ao z.n z.cap z.d) :
    Nums w (some ⟨g, 0, none⟩) 3 3 (trip3 x y z) :=
  ⟨Nat.le_refl _, by decide, fun _ => ⟨g, 0, rfl, (Array.getElem?_eq_some_iff.1 h).1, fun i hi => by
    match i, hi with
    | 0, _ => exact ⟨blkC h 0 rfl, blkC h 1 rfl, blkC h 2 rfl, hx⟩
    | 1, _ => exact ⟨blkC h 3 rfl, blkC h 4 rfl, blkC h 5 rfl, hy⟩
    | 2, _ => exact ⟨blkC h 6 rfl, blkC h 7 rfl, blkC h 8 rfl, hz⟩⟩⟩
theorem DNum.open2 {w : World} {ng : Bool} {so : Option Addr} {sn sc : Nat} {e V : Int} (h : DNum w (.agg #[.bool ng, .slice so sn sc, .int .i64 e]) V) (ok : Dok V) : ∃ d, Row w so sn sc d ∧ okR ⟨ng, so, sn, sc, d, e⟩ = true ∧ (⟨ng, so, sn, sc, d, e⟩ : NumR).V = V := by
  obtain ⟨x, h1, h2, h3, h4⟩ := h.open ok
  obtain ⟨xg, xo, xn, xc, xd, xe⟩ := x
  simp only [NumR.v, Value.agg.injEq, Array.mk.injEq, List.cons.injEq, Value.bool.injEq, Value.int.injEq, Value.slice.injEq, and_true, true_and] at h1
  obtain ⟨rfl, ⟨rfl, rfl, rfl⟩, rfl⟩ := h1
  exact ⟨xd, h2, h3, h4⟩
end Go.Proofs.YtcpjdgfnblkfpaaGreatDoor
