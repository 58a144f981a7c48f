/-
  EftHonest: what the steps tell as exact, as the law asks for it.
-/
import Derived.Test.YtcpjdgfnblkfpaaGreatDoorEAlive
namespace Go.Proofs.YtcpjdgfnblkfpaaGreatDoor
open Go Go.RowKit Go.Proofs.YtcpjdgfnblkfpaaGreatDoor.M Ieee
set_option linter.unusedSimpArgs false
set_option linter.unusedVariables false

theorem class6 {b : Int} (w : World) (H : Hold4 w) : Calls Tryz.prog 113 #[.int .i64 b] w fun e w' => e = .returned (.int .i64 (cls b)) ∧ Below w.heap.size w w' := by
  refine (bitsClass b w H.env.lays).mono ?_
  rintro e w' ⟨h, g⟩
  exact ⟨h, g.be⟩
theorem cls_big {b : Int} (h : pok b = false) : 2 < cls b := by
  unfold pok at h; unfold cls; rw [if_pos (by simpa using h)]; split <;> decide
theorem cls_few {b : Int} (h : pok b = true) : ¬ 2 < cls b := by
  unfold pok at h; unfold cls; rw [if_neg (by simpa using h)]
  split
  · split <;> decide
  · decide
theorem told_rng {a : Int} (h : M.rng a) : M.rng (told a) := by
  unfold told; split
  · exact nan_rng
  · exact h
theorem told_ok {a : Int} (h : pok a = true) (ha : M.rng a) : told a = a := by
  unfold told; rw [if_neg (fin_cls ha h).1]
theorem told_pok {a : Int} (h : pok (told a) = true) : pok a = true := by
  rw [told_fin h] at h; exact h
/-- The answer of together. -/
def tgB (h l V : Int) : Bool := pok h && (pok l && decide (patV h + patV l = V))
theorem no_sum {a b : Int} (ha : M.rng a) (hb : M.rng b) (h : pok a = false ∨ pok b = false) : pok (sL (told a) (told b)) = false ∧ fX (told a) (told b) = false ∧ pX (told a) (told b) = false := by
  have key : pok (told a) = true ∧ pok (told b) = true → False := fun ⟨x, y⟩ => by
    have x := told_pok x
    have y := told_pok y
    rcases h with c | c
    · rw [x] at c; cases c
    · rw [y] at c; cases c
  have ra := told_rng ha
  have rb := told_rng hb
  refine ⟨?_, ?_, ?_⟩
  · cases g : pok (sL (told a) (told b))
    · rfl
    · exact (key (sL_exact ra rb g).1).elim
  · unfold fX
    cases g : pok (fL (told a) (told b))
    · rfl
    · exact (key (fL_args ra rb g).1).elim
  · unfold pX
    cases g : pok (prL (told a) (told b))
    · rfl
    · obtain ⟨⟨pQ, pS⟩, _⟩ := prL_args ra rb g
      exact (key ⟨(spL_exact ra pQ).1, (spL_exact rb pS).1⟩).elim
theorem k_eqS {a b c d q : Int} (hq : 0 < q) : decide (a * q + b * q = c * q + d * q) = decide (a + b = c + d) := by
  congr 1
  apply propext
  rw [← Int.add_mul, ← Int.add_mul]
  exact ⟨fun h => Int.eq_of_mul_eq_mul_right (Int.ne_of_gt hq) h, fun h => by rw [h]⟩
theorem sL_rng {p q : Int} (hp : M.rng p) (hq : M.rng q) : M.rng (sL p q) := by
  have rh := fsum_rng hp hq
  have rv : M.rng (sV p q) := fsum_rng rh (neg_rng hp)
  exact fsum_rng (fsum_rng hp (neg_rng (fsum_rng rh (neg_rng rv)))) (fsum_rng hq (neg_rng rv))
theorem fL_rng {p q : Int} (hp : M.rng p) (hq : M.rng q) : M.rng (fL p q) := fsum_rng hq (neg_rng (fsum_rng (fsum_rng hp hq) (neg_rng hp)))
theorem sp_rng {p : Int} (hp : M.rng p) : M.rng (spH p) ∧ M.rng (spL p) := by
  have rc : M.rng (cC p) := fprod_rng spl_rng hp
  have rd := fsum_rng rc (neg_rng hp)
  have rH : M.rng (spH p) := fsum_rng rc (neg_rng rd)
  exact ⟨rH, fsum_rng hp (neg_rng rH)⟩
theorem prL_rng {p q : Int} (hp : M.rng p) (hq : M.rng q) : M.rng (prL p q) := by
  obtain ⟨rP, rQ⟩ := sp_rng hp
  obtain ⟨rR, rS⟩ := sp_rng hq
  have rT1 : M.rng (pT1 p q) := fsum_rng (fprod_rng hp hq) (neg_rng (fprod_rng rP rR))
  have rT2 : M.rng (pT2 p q) := fsum_rng rT1 (neg_rng (fprod_rng rQ rR))
  have rT3 : M.rng (pT3 p q) := fsum_rng rT2 (neg_rng (fprod_rng rP rS))
  exact fsum_rng (fprod_rng rQ rS) (neg_rng rT3)
theorem hon_sum {a b : Int} (ha : M.rng a) (hb : M.rng b) (pa : pok a = true) (pb : pok b = true) : pok (sL a b) = tgB (fsum a b) (sL a b) (patV a + patV b) := by
  unfold tgB
  cases g : pok (sL a b)
  · simp
  · obtain ⟨_, ph, e⟩ := sL_exact ha hb g
    rw [ph, patV_iV (fsum_rng ha hb) ph, patV_iV (sL_rng ha hb) g, patV_iV ha pa, patV_iV hb pb, k_eqS (pw_pos _), decide_eq_true e]
    rfl
theorem hon_fast {a b : Int} (ha : M.rng a) (hb : M.rng b) (pa : pok a = true) (pb : pok b = true) : fX a b = tgB (fsum a b) (fL a b) (patV a + patV b) := by
  unfold tgB
  cases g : pok (fL a b)
  · unfold fX; rw [g]; simp
  · obtain ⟨_, ph⟩ := fL_args ha hb g
    rw [fX_iff ha hb g, ph, patV_iV (fsum_rng ha hb) ph, patV_iV (fL_rng ha hb) g, patV_iV ha pa, patV_iV hb pb, k_eqS (pw_pos _)]
    rfl
theorem k_prodE {x y m l C u Z k w : Int} (hZ : 0 < Z) (hu : 0 < u) (e2 : w * w = u * Z) (e3 : w = u * k) (hC : C * Z = x * w * (y * w)) : (m * w + l * w = C) ↔ (k * (m + l) = x * y) := by
  have h1 : C = x * y * u := by
    have : x * w * (y * w) = x * y * u * Z := by
      rw [show x * w * (y * w) = x * y * (w * w) by ac_rfl, e2]; ac_rfl
    rw [this] at hC
    exact Int.eq_of_mul_eq_mul_right (Int.ne_of_gt hZ) hC
  rw [h1, e3, ← Int.add_mul, show (m + l) * (u * k) = k * (m + l) * u by ac_rfl]
  exact ⟨fun h => Int.eq_of_mul_eq_mul_right (Int.ne_of_gt hu) h, fun h => by rw [h]⟩
theorem hon_prod {a b C : Int} (ha : M.rng a) (hb : M.rng b) (pa : pok a = true) (pb : pok b = true) (hC : C * 2 ^ 4194304 = patV a * patV b) : pX a b = tgB (fprod a b) (prL a b) C := by
  unfold tgB pX
  cases g : pok (prL a b)
  · simp
  · have ph := (prL_args ha hb g).2.1
    have e2 := pw_mul (a := -1074) (b := -1074) (by decide) (by decide)
    rw [show (-1074 + -1074 : Int) = -2148 by decide] at e2
    have e3 := pw_add (e := -2148) (by decide) 1074
    rw [show (-2148 + ((1074 : Nat) : Int)) = -1074 by decide] at e3
    rw [patV_iV ha pa, patV_iV hb pb] at hC
    rw [ph, patV_iV (fprod_rng ha hb) ph, patV_iV (prL_rng ha hb) g, Bool.true_and, Bool.true_and, Bool.true_and]
    have hk := k_prodE (m := iV (fprod a b)) (l := iV (prL a b)) (two_pos 4194304) (pw_pos (-2148)) e2 e3 hC
    have hr := reach_iff ha hb pa pb
    cases r : reach a b
    · refine (decide_eq_false fun c => ?_).symm
      rw [hr.2 ⟨_, hk.1 c⟩] at r
      cases r
    · refine (decide_eq_true (hk.2 ?_)).symm
      obtain ⟨T, hT⟩ := hr.1 r
      rw [(prL_exact ha hb g hT).2.2]
      exact hT
end Go.Proofs.YtcpjdgfnblkfpaaGreatDoor
