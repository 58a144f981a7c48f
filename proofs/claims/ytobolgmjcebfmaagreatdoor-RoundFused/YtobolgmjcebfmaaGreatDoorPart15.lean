/-
  Parts of the proof, one behind another.
-/
import Derived.Test.YtobolgmjcebfmaaGreatDoorPart14
import Derived.Test.YtobolgmjcebfmaaGreatDoorPart10
import Derived.Test.YtobolgmjcebfmaaGreatDoorPart6
import Derived.Test.YtobolgmjcebfmaaGreatDoorPart7
import Derived.Test.YtobolgmjcebfmaaGreatDoorPart13
import Derived.Test.YtobolgmjcebfmaaGreatDoorPart12
import Derived.Laws.Externs
/-
  Sums and products of patterns, as whole numbers of the least float: the nearest ones; finite where the exact one is not too great; finite only where both operands are.
-/
namespace Go.Proofs.YtobolgmjcebfmaaGreatDoor
open Go Go.RowKit Go.Proofs.YtobolgmjcebfmaaGreatDoor.M Ieee
set_option linter.unusedSimpArgs false
set_option linter.unusedVariables false

theorem nan_rng : rng 9221120237041090561 := by unfold rng; decide
theorem nan_no : pok 9221120237041090561 = false := by decide
theorem fin_cls {p : Int} (hp : rng p) (h : pok p = true) : ¬ cls p = 4 ∧ ¬ rg p = 9218868437227405312 := by
  have h1 := (pok_rg hp).1 h
  exact ⟨fun c => by have := (cls_rg hp).1.1 c; omega, by omega⟩
theorem neg_facts {q : Int} (hq : rng q) (h : pok q = true) : rng (neg q) ∧ pok (neg q) = true ∧ iV (neg q) = -iV q := by
  obtain ⟨b1, b2⟩ := fin_cls hq h
  have h1 := (pok_rg hq).1 h
  have e : neg q = patS (!decide (q < 0)) (rg q) := by
    unfold neg patS rg
    rw [if_neg b1]
    by_cases c : q < 0
    · rw [if_pos c, if_pos c, decide_eq_true c]; rfl
    · rw [if_neg c, if_neg c, decide_eq_false c]; rfl
  have h0 : 0 ≤ rg q := by unfold rg; unfold rng at hq; split <;> omega
  obtain ⟨c1, c2, c3⟩ := patS_parts (ng := !decide (q < 0)) h0 (by omega)
  refine ⟨by rw [e]; exact c1, by rw [e, patS_fin h0 (by omega)]; exact decide_eq_true h1, ?_⟩
  rw [e, iV_patS h0 (by omega)]
  unfold iV
  rw [sg_not]
theorem neg_rng {q : Int} (hq : rng q) : rng (neg q) := by
  unfold neg rng at *
  split
  · omega
  · split <;> omega
end Go.Proofs.YtobolgmjcebfmaaGreatDoor

/-
  Package eft: the steps on floats, by their contracts: what they tell is told by patterns.
-/
namespace Go.Proofs.YtobolgmjcebfmaaGreatDoor
open Go Go.RowKit Go.Proofs.YtobolgmjcebfmaaGreatDoor.M Ieee
set_option linter.unusedSimpArgs false
set_option linter.unusedVariables false

/-- The patterns of TwoSum's, FastTwoSum's, Split's, TwoProd's second answers. -/
def sV (p q : Int) : Int := fsum (fsum p q) (neg p)
def cC (p : Int) : Int := fprod 4728779608772575232 p
def spH (p : Int) : Int := fsum (cC p) (neg (fsum (cC p) (neg p)))
def spL (p : Int) : Int := fsum p (neg (spH p))
def pT1 (a b : Int) : Int := fsum (fprod a b) (neg (fprod (spH a) (spH b)))
def pT2 (a b : Int) : Int := fsum (pT1 a b) (neg (fprod (spL a) (spH b)))
def pT3 (a b : Int) : Int := fsum (pT2 a b) (neg (fprod (spH a) (spL b)))
def prL (a b : Int) : Int := fsum (fprod (spL a) (spL b)) (neg (pT3 a b))
theorem cv64 (x : Nat) (w : World) : (convert 43 43 (.float .f64 x)).run Tryz.prog w = .ok (.float .f64 x) w := run_convert_float_float w _ _ _ _ _ _ (by rw [Tryz.underlying43]; rfl) Tryz.underlying43 rfl
end Go.Proofs.YtobolgmjcebfmaaGreatDoor

/-
  Package round: Add, Mul in all ways, by their contracts.
-/
namespace Go.Proofs.YtobolgmjcebfmaaGreatDoor
open Go Go.RowKit Go.Proofs.YtobolgmjcebfmaaGreatDoor.M
set_option linter.unusedSimpArgs false
set_option linter.unusedVariables false

set_option maxRecDepth 100000 in
set_option maxHeartbeats 1000000 in
theorem kadd_any (way : Int) (hw : 1 ≤ way ∧ way ≤ 3) (near a b : Int) (w : World) (H : Hold4 w) :
    Calls Tryz.prog 18 #[.agg #[.func (.func 11) #[] #[], .func (.func 42) #[] #[]], .int .i64 near, .int .i64 a, .int .i64 b, .int .i64 way] w fun e w' => e = .returned (.tuple #[.int .i64 (if (pok a && pok b) = true then addF way near a b else near), .int .i64 0]) ∧ Below w.heap.size w w' := by
  have CO : Hid (∀ W gn ga gb go, W.heap[gn]? = some (.cells #[.int .i64 way] 3 (0, 0)) → W.heap[ga]? = some (.cells #[.int .i64 a] 3 (0, 0)) → W.heap[gb]? = some (.cells #[.int .i64 b] 3 (0, 0)) → W.heap[go]? = some (.cells #[.int .i64 a, .int .i64 b] 3 (0, 0)) → Hold4 W →
      Calls Tryz.prog 21 #[.agg #[.func (.func 11) #[] #[], .func (.func 42) #[] #[]], .int .i64 near, .int .i64 way, .func (.func 43) #[] #[.pointer (some ⟨gn, 0, none⟩), .pointer (some ⟨ga, 0, none⟩), .pointer (some ⟨gb, 0, none⟩)], .slice (some ⟨go, 0, none⟩) 2 2] W fun e w' => e = .returned (.tuple #[.int .i64 (if (pok a && pok b) = true then addF way near a b else near), .int .i64 0]) ∧ Below W.heap.size W w') := fun W gn ga gb go kn ka kb ko H => by
    cases hp : (pok a && pok b)
    · exact opAdd_inf way hw near a b _ _ hp W go ko H
    · simp only [Bool.and_eq_true] at hp
      exact opAdd way hw near a b hp.1 hp.2 W gn ga gb go kn ka kb ko H
  generalize (if (pok a && pok b) = true then addF way near a b else near) = R at CO ⊢
  have hmf : ∀ (fn : Fn) (first cap : Array Value) (w : World), (Instr.makeFunc fn first cap).run Tryz.prog w = .ok (.func fn first cap) w := fun _ _ _ _ => rfl
  have hb4 := bel_a4 w (.cells #[.func (.func 11) #[] #[], .func (.func 42) #[] #[]] 40) (.cells #[.int .i64 a] 3) (.cells #[.int .i64 b] 3) (.cells #[.int .i64 way] 3)
  have a_k := h4_1 w (.cells #[.func (.func 11) #[] #[], .func (.func 42) #[] #[]] 40) (.cells #[.int .i64 a] 3) (.cells #[.int .i64 b] 3) (.cells #[.int .i64 way] 3)
  have b_k := h4_2 w (.cells #[.func (.func 11) #[] #[], .func (.func 42) #[] #[]] 40) (.cells #[.int .i64 a] 3) (.cells #[.int .i64 b] 3) (.cells #[.int .i64 way] 3)
  have n_k := h4_3 w (.cells #[.func (.func 11) #[] #[], .func (.func 42) #[] #[]] 40) (.cells #[.int .i64 a] 3) (.cells #[.int .i64 b] 3) (.cells #[.int .i64 way] 3)
  go_enter Tryz.func18, Tryz.ntmps18
  go_wp2_with fail
  have o_k : (((((w.alloc (.cells #[.func (.func 11) #[] #[], .func (.func 42) #[] #[]] 40)).alloc (.cells #[.int .i64 a] 3)).alloc (.cells #[.int .i64 b] 3)).alloc (.cells #[.int .i64 way] 3)).alloc (.cells #[.int .i64 a, .int .i64 b] 3)).heap[w.heap.size + 1 + 1 + 1 + 1]? = some (.cells #[.int .i64 a, .int .i64 b] 3 (0, 0)) := by
    have := heap_a1 ((((w.alloc (.cells #[.func (.func 11) #[] #[], .func (.func 42) #[] #[]] 40)).alloc (.cells #[.int .i64 a] 3)).alloc (.cells #[.int .i64 b] 3)).alloc (.cells #[.int .i64 way] 3)) (.cells #[.int .i64 a, .int .i64 b] 3)
    rwa [show ((((w.alloc (.cells #[.func (.func 11) #[] #[], .func (.func 42) #[] #[]] 40)).alloc (.cells #[.int .i64 a] 3)).alloc (.cells #[.int .i64 b] 3)).alloc (.cells #[.int .i64 way] 3)).heap.size = w.heap.size + 1 + 1 + 1 + 1 by simp] at this
  have hb5 := bel_trans hb4 (bel_alloc _ (.cells #[.int .i64 a, .int .i64 b] 3))
  refine (CO.out _ _ _ _ _ (heap_past (.cells #[.int .i64 a, .int .i64 b] 3) n_k) (heap_past (.cells #[.int .i64 a, .int .i64 b] 3) a_k) (heap_past (.cells #[.int .i64 a, .int .i64 b] 3) b_k) o_k (H.keeps hb5)).mono ?_
  rintro _ w2 ⟨rfl, hb2⟩
  go_wp2
  all_goals refine bodyPost_ret (v := .tuple #[.int .i64 R, .int .i64 0]) (by simp [results, Tryz.results18, go_sem]) rfl ⟨rfl, bel_trans hb5 hb2⟩
set_option maxRecDepth 100000 in
set_option maxHeartbeats 1000000 in
theorem opMul (way : Int) (hw : 1 ≤ way ∧ way ≤ 3) (near a b : Int) (ra : rng a) (rb : rng b) (w : World) (go : Nat) (ko : w.heap[go]? = some (.cells #[.int .i64 a, .int .i64 b] 3 (0, 0))) (H : Hold4 w) :
    Calls Tryz.prog 21 #[.agg #[.func (.func 11) #[] #[], .func (.func 42) #[] #[]], .int .i64 near, .int .i64 way, .func (.func 26) #[] #[], .slice (some ⟨go, 0, none⟩) 2 2] w fun e w' => e = .returned (.tuple #[.int .i64 (if (pok a && pok b) = true ∧ prV a b ≠ 0 then rdP way (prV a b) else near), .int .i64 0]) ∧ Below w.heap.size w w' := by
  have hER : ∀ (cap : Array Value) (w : World), (callFunc 26 cap).run Tryz.prog w = .ok (.enter 26 cap) w := by
    intro cap w
    simp [go_sem]
  cases hpp : (pok a && pok b)
  · have n1 : ¬ (false = true ∧ prV a b ≠ 0) := fun q => by cases q.1
    rw [if_neg n1]
    exact opAdd_inf way hw near a b _ _ hpp w go ko H
  · simp only [Bool.and_eq_true] at hpp
    obtain ⟨pa, pb⟩ := hpp
    obtain ⟨_, _, _, _, hC⟩ := prV_parts ra rb pa pb
    have ok : Dok (prV a b) := ((patV_bd pa).mul (patV_bd pb) hC (by omega)).ok (by omega)
    obtain ⟨ng, m, e, hy, hm⟩ := id ok
    clear hm
    have hp : ∀ i, i < 2 → pok (if i = 0 then a else b) = true := fun i hi => by split <;> assumption
    have := operate_fin way hw near _ #[] go 2 (by decide) (fun i => if i = 0 then a else b) w (rowT ko) hp H ng _ _ _ false (mag_lt hy.nonneg) (exp_in hy ok) hER (fun W g q hb hN hf => product_D g W q (patV a) (patV b) (prV a b) ng m e hN (nums_D hN hf 0 (by decide)) (nums_D hN hf 1 (by decide)) (patV_dok pa) (patV_dok pb) hC ok hy (H.keeps hb).tab)
    have hA : (if true = true ∧ prV a b ≠ 0 then rdP way (prV a b) else near) = opT 0 (m / 2 ^ vK m).toNat false (r64 way ng true (m / 2 ^ vK m).toNat (e + vK m) (decide (m % 2 ^ vK m ≠ 0))).1 near := by
      unfold opT
      by_cases h0 : prV a b = 0
      · have hm0 := hy.eq_zero.1 h0
        have n1 : ¬ (true = true ∧ prV a b ≠ 0) := fun q => q.2 h0
        have n3 : (0 : Int) ≠ 0 ∨ ((m / 2 ^ vK m).toNat = 0 ∧ false = false) := .inr ⟨by rw [hm0, Int.zero_ediv]; rfl, rfl⟩
        rw [if_neg n1, if_pos n3]
      · have hm0 : 0 < m := by
          have := hy.nonneg
          have : m ≠ 0 := fun q => h0 (hy.eq_zero.2 q)
          omega
        have n1 : true = true ∧ prV a b ≠ 0 := ⟨rfl, h0⟩
        have n3 : ¬ ((0 : Int) ≠ 0 ∨ ((m / 2 ^ vK m).toNat = 0 ∧ false = false)) := fun q => by
          rcases q with q | q
          · exact q rfl
          · exact mag_pos hm0 q.1
        rw [if_pos n1, if_neg n3, r64_dy hy h0 (by have := (hy.ok.1 ok).2.1; omega)]
    rw [hA]
    exact this
set_option maxRecDepth 100000 in
set_option maxHeartbeats 1000000 in
theorem add_A {a b way : Int} {w : World} (ra : rng a) (rb : rng b) (hw : 0 ≤ way ∧ way ≤ 3) (H : Hold4 w) :
    Calls Tryz.prog 4 #[.int .i64 a, .int .i64 b, .int .i64 way] w fun e w' => e = .returned (.tuple #[.int .i64 (addP way a b), .int .i64 0]) ∧ Below w.heap.size w w' := by
  have CK : Hid (∀ W, Hold4 W → Calls Tryz.prog 18 #[.agg #[.func (.func 11) #[] #[], .func (.func 42) #[] #[]], .int .i64 (fsum (told a) (told b)), .int .i64 a, .int .i64 b, .int .i64 way] W fun e w' => e = .returned (.tuple #[.int .i64 (addP way a b), .int .i64 0]) ∧ Below W.heap.size W w') := fun W H => by
    by_cases h0 : way = 0
    · have e : addP way a b = fsum (told a) (told b) := by unfold addP; rw [if_pos (.inl h0)]
      rw [e, h0]
      exact kadd_near _ _ ⟨_, rfl⟩ ⟨_, rfl⟩ _ a b W
    · have e : addP way a b = if (pok a && pok b) = true then addF way (fsum (told a) (told b)) a b else fsum (told a) (told b) := by
        unfold addP addF
        cases hp : (pok a && pok b)
        · have n1 : way = 0 ∨ false = false := .inr rfl
          have n2 : ¬ (false = true) := by decide
          rw [if_pos n1, if_neg n2]
        · have n1 : ¬ (way = 0 ∨ true = false) := fun q => by rcases q with q | q; exact h0 q; cases q
          rw [if_neg n1, if_pos rfl]
      rw [e]
      exact kadd_any way (by omega) _ a b W H
  generalize addP way a b = R at CK ⊢
  have CF : Hid (∀ W, Calls Tryz.prog 20 #[.int .i64 a] W fun e w' => e = .returned (.float .f64 (wd a)) ∧ w' = W) := fun W => bitsFloat a W
  have CG : Hid (∀ W, Calls Tryz.prog 20 #[.int .i64 b] W fun e w' => e = .returned (.float .f64 (wd b)) ∧ w' = W) := fun W => bitsFloat b W
  have RS : Hid (∀ W, _) := fun W => run_fsum (P := Tryz.prog) 43 (wd_told ra) (wd_told rb) W
  go_enter Tryz.func4, Tryz.ntmps4
  go_wp2_with fail
  refine (double_any _).mono ?_
  rintro _ w1 ⟨rfl, hb1⟩
  obtain ⟨z, w2, hrun, hz, hw2⟩ := RS.out w1
  clear RS
  generalize wd a = x at *
  generalize wd b = y at *
  generalize fsum (told a) (told b) = near at *
  go_wp2_with fail
  refine (CF.out _).mono ?_
  rintro _ _ ⟨rfl, rfl⟩
  go_wp2_with fail
  refine (CG.out _).mono ?_
  rintro _ _ ⟨rfl, rfl⟩
  go_wp2_with fail
  have hb2 : Below w.heap.size w w2 := by rcases hw2 with rfl | rfl; exact hb1; exact hb1.drew
  refine (of_FW hz _).mono ?_
  rintro _ _ ⟨rfl, rfl⟩
  go_wp2_with fail
  refine (CK.out _ (H.keeps hb2)).mono ?_
  rintro _ w5 ⟨rfl, hb5⟩
  go_wp2
  all_goals refine bodyPost_ret (v := .tuple #[.int .i64 R, .int .i64 0]) (by simp [results, Tryz.results4, go_sem]) rfl ⟨rfl, bel_trans hb2 hb5⟩
set_option maxRecDepth 100000 in
set_option maxHeartbeats 1000000 in
theorem mul_A {a b way : Int} {w : World} (ra : rng a) (rb : rng b) (hw : 0 ≤ way ∧ way ≤ 3) (H : Hold4 w) :
    Calls Tryz.prog 6 #[.int .i64 a, .int .i64 b, .int .i64 way] w fun e w' => e = .returned (.tuple #[.int .i64 (mulP way a b), .int .i64 0]) ∧ Below w.heap.size w w' := by
  have CK : Hid (∀ W go, W.heap[go]? = some (.cells #[.int .i64 a, .int .i64 b] 3 (0, 0)) → Hold4 W → Calls Tryz.prog 21 #[.agg #[.func (.func 11) #[] #[], .func (.func 42) #[] #[]], .int .i64 (fprod (told a) (told b)), .int .i64 way, .func (.func 26) #[] #[], .slice (some ⟨go, 0, none⟩) 2 2] W fun e w' => e = .returned (.tuple #[.int .i64 (mulP way a b), .int .i64 0]) ∧ Below W.heap.size W w') := fun W go ko H => by
    by_cases h0 : way = 0
    · have e : mulP way a b = fprod (told a) (told b) := by unfold mulP; rw [if_pos (.inl h0)]
      rw [e, h0]
      exact operate_near _ _ ⟨_, rfl⟩ ⟨_, rfl⟩ _ _ _ _ _ W
    · have e : mulP way a b = if (pok a && pok b) = true ∧ prV a b ≠ 0 then rdP way (prV a b) else fprod (told a) (told b) := by
        unfold mulP
        cases hp : (pok a && pok b)
        · have n1 : way = 0 ∨ false = false := .inr rfl
          have n2 : ¬ (false = true ∧ prV a b ≠ 0) := fun q => by cases q.1
          rw [if_pos n1, if_neg n2]
        · have n1 : ¬ (way = 0 ∨ true = false) := fun q => by rcases q with q | q; exact h0 q; cases q
          rw [if_neg n1]
          by_cases h : prV a b ≠ 0
          · have n2 : true = true ∧ prV a b ≠ 0 := ⟨rfl, h⟩
            rw [if_pos h, if_pos n2]
          · have n2 : ¬ (true = true ∧ prV a b ≠ 0) := fun q => h q.2
            rw [if_neg h, if_neg n2]
      rw [e]
      exact opMul way (by omega) _ a b ra rb W go ko H
  generalize mulP way a b = R at CK ⊢
  have hcv := cv64
  have hmf : ∀ (fn : Fn) (first cap : Array Value) (w : World), (Instr.makeFunc fn first cap).run Tryz.prog w = .ok (.func fn first cap) w := fun _ _ _ _ => rfl
  have CF : Hid (∀ W, Calls Tryz.prog 20 #[.int .i64 a] W fun e w' => e = .returned (.float .f64 (wd a)) ∧ w' = W) := fun W => bitsFloat a W
  have CG : Hid (∀ W, Calls Tryz.prog 20 #[.int .i64 b] W fun e w' => e = .returned (.float .f64 (wd b)) ∧ w' = W) := fun W => bitsFloat b W
  have RS : Hid (∀ W, _) := fun W => run_fprod (P := Tryz.prog) 43 (wd_told ra) (wd_told rb) W
  go_enter Tryz.func6, Tryz.ntmps6
  go_wp2_with fail
  refine (double_any _).mono ?_
  rintro _ w1 ⟨rfl, hb1⟩
  obtain ⟨z, w2, hrun, hz, hw2⟩ := RS.out w1
  clear RS
  generalize wd a = x at *
  generalize wd b = y at *
  generalize fprod (told a) (told b) = near at *
  go_wp2_with fail
  refine (CF.out _).mono ?_
  rintro _ _ ⟨rfl, rfl⟩
  go_wp2_with fail
  refine (CG.out _).mono ?_
  rintro _ _ ⟨rfl, rfl⟩
  go_wp2_with fail
  have hb2 : Below w.heap.size w w2 := by rcases hw2 with rfl | rfl; exact hb1; exact hb1.drew
  refine (of_FW hz _).mono ?_
  rintro _ _ ⟨rfl, rfl⟩
  have hb3 := bel_trans hb2 (bel_alloc _ (.cells #[.int .i64 a, .int .i64 b] 3))
  go_wp2_with fail
  refine (CK.out _ _ (heap_a1 _ (.cells #[.int .i64 a, .int .i64 b] 3)) (H.keeps hb3)).mono ?_
  rintro _ w5 ⟨rfl, hb5⟩
  go_wp2
  all_goals refine bodyPost_ret (v := .tuple #[.int .i64 R, .int .i64 0]) (by simp [results, Tryz.results6, go_sem]) rfl ⟨rfl, bel_trans hb3 hb5⟩
end Go.Proofs.YtobolgmjcebfmaaGreatDoor

/-
  Package plumbref3: Valid, Neg, Sign, by contracts.
-/
namespace Go.Proofs.YtobolgmjcebfmaaGreatDoor
open Go Go.RowKit Go.Proofs.YtobolgmjcebfmaaGreatDoor.M
set_option linter.unusedSimpArgs false
set_option linter.unusedVariables false

end Go.Proofs.YtobolgmjcebfmaaGreatDoor

/-
  Package plumbref3: Neg, Answer, Make, Scale, by contracts.
-/
namespace Go.Proofs.YtobolgmjcebfmaaGreatDoor
open Go Go.RowKit Go.Proofs.YtobolgmjcebfmaaGreatDoor.M
set_option linter.unusedSimpArgs false
set_option linter.unusedVariables false

end Go.Proofs.YtobolgmjcebfmaaGreatDoor

/-
  Package plumbref3: Make, Scale, by contracts.
-/
namespace Go.Proofs.YtobolgmjcebfmaaGreatDoor
open Go Go.RowKit Go.Proofs.YtobolgmjcebfmaaGreatDoor.M
set_option linter.unusedSimpArgs false
set_option linter.unusedVariables false

/-- The document's own answer: a number, or ErrLong. -/
def RFit (w w' : World) (V : Int) (v : Value) (er : Int) : Prop := DFit w w' V v er
theorem RFit.shape {w w' : World} {V er : Int} {v : Value} (h : RFit w w' V v er) : ∃ ng so sn sc e, v = .agg #[.bool ng, .slice so sn sc, .int .i64 e] := by
  exact DFit.shape h
end Go.Proofs.YtobolgmjcebfmaaGreatDoor

/-
  Package plumbref3: Mul, by its contract.
-/
namespace Go.Proofs.YtobolgmjcebfmaaGreatDoor
open Go Go.RowKit Go.Proofs.YtobolgmjcebfmaaGreatDoor.M
set_option linter.unusedSimpArgs false
set_option linter.unusedVariables false

end Go.Proofs.YtobolgmjcebfmaaGreatDoor

/-
  Package plumbref3: Add, by its contract: a sum of numbers within bounds.
-/
namespace Go.Proofs.YtobolgmjcebfmaaGreatDoor
open Go Go.RowKit Go.Proofs.YtobolgmjcebfmaaGreatDoor.M
set_option linter.unusedSimpArgs false
set_option linter.unusedVariables false

/-- The form of a number within bounds. -/
theorem bd_form {K : Nat} {A : Int} {ng : Bool} {m e : Int} (h : Bd K A) (hy : Dy A ng m e) (hK : K ≤ 4194304) (h0 : 0 < m) : -(K : Int) ≤ e ∧ e ≤ K ∧ m * 2 ^ (e + K).toNat < 2 ^ (2 * K) := by
  obtain ⟨c, hc, c1, c2⟩ := h
  have key : ∀ (b : Bool) (C : Int), 0 < C → C < 2 ^ (2 * K) → A = sg b C * pw (-(K : Int)) → -(K : Int) ≤ e ∧ e ≤ K ∧ m * 2 ^ (e + K).toNat < 2 ^ (2 * K) := fun b C hC hlt hA => by
    obtain ⟨l, hl⟩ := isLow_ex hC
    have hy2 := Dy.of b hl hC (show -4194304 ≤ -(K : Int) by omega)
    rw [← hA] at hy2
    obtain ⟨_, rfl, rfl⟩ := hy.unique hy2
    obtain ⟨d1, d2, d3⟩ := isLow_odd hl hC
    have hl2 : l < 2 * K := by
      have h3 : (1 : Int) * 2 ^ l ≤ C / 2 ^ l * 2 ^ l := Int.mul_le_mul_of_nonneg_right (by omega) (Int.le_of_lt (two_pos l))
      rw [d3] at h3
      exact two_lt_iff (by omega)
    refine ⟨by omega, by omega, ?_⟩
    rw [show (-(K : Int) + l + K).toNat = l by omega, d3]
    exact hlt
  by_cases hz : c = 0
  · exfalso
    rw [hz, Int.zero_mul] at hc
    have := hy.eq_zero.1 hc
    omega
  · by_cases hp : 0 < c
    · exact key false c hp c2 (by simpa [sg] using hc)
    · exact key true (-c) (by omega) (by omega) (by simpa [sg] using hc)
/-- A sum: its own, or one of the two where the other is 0. -/
def RSum (w w' : World) (A B : Int) (x y v : Value) : Prop := Below w.heap.size w w' ∧ (DAns w w' (A + B) v ∨ (A = 0 ∧ v = y) ∨ (B = 0 ∧ v = x))
theorem RSum.num {w w' : World} {A B : Int} {x y v : Value} (h : RSum w w' A B x y v) (hx : DNum w x A) (hy : DNum w y B) : DNum w' v (A + B) := by
  rcases h.2 with h1 | ⟨rfl, rfl⟩ | ⟨rfl, rfl⟩
  · exact h1.num
  · rw [Int.zero_add]; exact hy.keeps h.1
  · rw [Int.add_zero]; exact hx.keeps h.1
theorem Num.digits {w : World} {so : Option Addr} {sn sc : Nat} {M : Int} (h : Num w (.slice so sn sc) M) {K : Nat} (hK : K ≤ 560000) (hM : M < 2 ^ (2 * K) + 2 ^ (2 * K)) : ∃ d, Row w so sn sc d ∧ Nrm d sn ∧ val d sn = M ∧ sn ≤ 37500 := by
  obtain ⟨ao, n, ca, d, e, hR, hN, hv⟩ := h
  simp only [Value.slice.injEq] at e
  obtain ⟨rfl, rfl, rfl⟩ := e
  refine ⟨d, hR, hN, hv, ?_⟩
  by_cases h1 : sn ≤ 37500
  · exact h1
  · exfalso
    have a := val_top hN.1 (by omega) hN.2
    have b := P_le (show 37500 ≤ sn - 1 by omega)
    have c : (2 : Int) ^ (2 * K) ≤ 2 ^ (30 * 37400) := two_le (by omega)
    have c2 : (2 : Int) ^ (30 * 37400) * 2 ≤ 2 ^ (30 * 37500) := by
      rw [← Int.pow_succ]
      exact two_le (by omega)
    rw [← P_two 37500] at c2
    generalize P 37500 = Y at *
    generalize (2 : Int) ^ (30 * 37400) = Z at *
    omega
end Go.Proofs.YtobolgmjcebfmaaGreatDoor

/-
  Package round: the closure of Fma, by its contract.
-/
namespace Go.Proofs.YtobolgmjcebfmaaGreatDoor
open Go Go.RowKit Go.Proofs.YtobolgmjcebfmaaGreatDoor.M
set_option linter.unusedSimpArgs false
set_option linter.unusedVariables false

theorem al1 {w W : World} (h : Below w.heap.size w W) (o : Obj) : Below w.heap.size w (W.alloc o) := h.alloc h.size o
theorem size_drew (w : World) : w.drew.heap.size = w.heap.size := rfl
theorem sz1 (w : World) (a : Obj) : w.heap.size + 1 = (w.alloc a).heap.size := (size_alloc _ _).symm
theorem sz2 (w : World) (a b : Obj) : w.heap.size + 1 + 1 = ((w.alloc a).alloc b).heap.size := by rw [size_alloc, size_alloc]
theorem sz2d (w : World) (a b : Obj) : w.heap.size + 1 + 1 = ((w.alloc a).drew.alloc b).heap.size := by rw [size_alloc, size_drew, size_alloc]
theorem blk_up {w W : World} (h : Below w.heap.size w W) {g : Nat} {X : Obj} (k : w.heap[g]? = some X) : W.heap[g]? = some X := (h.block _ (Array.getElem?_eq_some_iff.1 k).1).trans k
set_option maxRecDepth 100000 in
set_option maxHeartbeats 4000000 in
theorem fma1_D (g : Nat) (w : World) (q : Nat → NumR) (S way c fp : Int) (x y : Nat) (ng : Bool) (Q : Nat) (E : Int) (R sd : Bool) (p0 p1 p2 p3 : Addr) (k0 : w.cell? p0 = some (.float .f64 x)) (k1 : w.cell? p1 = some (.float .f64 y)) (k2 : w.cell? p2 = some (.int .i64 c)) (k3 : w.cell? p3 = some (.int .i64 way)) (hN : Nums w (some ⟨g, 0, none⟩) 3 3 q)
    (CD : ∀ W g1 g2 o, Below w.heap.size w W → W.heap[o]? = some (.cells #[.int .i64 1] 3 (0, 0)) → W.heap[g1]? = some (.cells #[.bool (q 0).ng, .slice (q 0).ao (q 0).n (q 0).cap, .int .i64 (q 0).e, .bool (q 2).ng, .slice (q 2).ao (q 2).n (q 2).cap, .int .i64 (q 2).e] 31 (0, 0)) → W.heap[g2]? = some (.cells #[.bool (q 1).ng, .slice (q 1).ao (q 1).n (q 1).cap, .int .i64 (q 1).e, .bool false, .slice (some ⟨o, 0, none⟩) 1 1, .int .i64 0] 31 (0, 0)) →
      Calls Tryz.prog 24 #[.slice (some ⟨g1, 0, none⟩) 2 2, .slice (some ⟨g2, 0, none⟩) 2 2] W fun r w' => ∃ v, r = .returned (.tuple #[v, .int .i64 0]) ∧ DAns W w' S v)
    (RS : ∀ W, ∃ z w', (binOp .mul 43 (.float .f64 x) (.float .f64 y)).run Tryz.prog W = .ok (.float .f64 z) w' ∧ FW fp z ∧ (w' = W ∨ w' = W.drew))
    (CV : ∀ W v, Below w.heap.size w W → DNum W v S → Calls Tryz.prog 25 #[v, .int .i64 way, .bool (decide (fp = 0) && decide (c = 0))] W fun r w' => r = .returned (valV ng Q E R sd) ∧ Below W.heap.size W w') :
    Calls Tryz.prog 23 #[.slice (some ⟨g, 0, none⟩) 3 3, .pointer (some p0), .pointer (some p1), .pointer (some p2), .pointer (some p3)] w fun r w' => r = .returned (.tuple #[valV ng Q E R sd, .int .i64 0]) ∧ Below w.heap.size w w' := by
  obtain ⟨c0, c1, c2, _⟩ := hN.at 0 (by decide)
  obtain ⟨c3, c4, c5, _⟩ := hN.at 1 (by decide)
  obtain ⟨c6, c7, c8, _⟩ := hN.at 2 (by decide)
  unfold valV at *
  clear hN
  generalize q 0 = a at *
  generalize q 1 = b at *
  generalize q 2 = d at *
  obtain ⟨a_g, a_o, a_n, a_c, a_d, a_e⟩ := a
  obtain ⟨b_g, b_o, b_n, b_c, b_d, b_e⟩ := b
  obtain ⟨d_g, d_o, d_n, d_c, d_d, d_e⟩ := d
  simp only [Nat.zero_mul, Nat.zero_add, Nat.one_mul] at c0 c1 c2 c3 c4 c5 c6 c7 c8 CD
  generalize hnt : (decide (fp = 0) && decide (c = 0)) = nt at CV
  have HV : Hid _ := CV
  have HD : Hid _ := CD
  have HS : Hid _ := RS
  clear CV CD RS
  have hcv := cv64
  have q0 := heap_alloc_new w (.cells #[.bool false, .int .u64 0, .int .i64 0, .bool false, .bool false] 50)
  have hb1 := bel_alloc w (.cells #[.bool false, .int .u64 0, .int .i64 0, .bool false, .bool false] 50)
  have v_k := h3_0 w (.cells #[.bool false, .int .u64 0, .int .i64 0, .bool false, .bool false] 50) (.cells #[.int .i64 1] 3) (.cells #[.bool false, .slice (some ⟨w.heap.size + 1, 0, none⟩) 1 1, .int .i64 0] 31)
  have o_k := h3_1 w (.cells #[.bool false, .int .u64 0, .int .i64 0, .bool false, .bool false] 50) (.cells #[.int .i64 1] 3) (.cells #[.bool false, .slice (some ⟨w.heap.size + 1, 0, none⟩) 1 1, .int .i64 0] 31)
  have s_k := h3_2 w (.cells #[.bool false, .int .u64 0, .int .i64 0, .bool false, .bool false] 50) (.cells #[.int .i64 1] 3) (.cells #[.bool false, .slice (some ⟨w.heap.size + 1, 0, none⟩) 1 1, .int .i64 0] 31)
  have hb3 := bel_a3 w (.cells #[.bool false, .int .u64 0, .int .i64 0, .bool false, .bool false] 50) (.cells #[.int .i64 1] 3) (.cells #[.bool false, .slice (some ⟨w.heap.size + 1, 0, none⟩) 1 1, .int .i64 0] 31)
  go_enter Tryz.func23, Tryz.ntmps23
  go_wp2_with fail
  generalize (((w.alloc (.cells #[.bool false, .int .u64 0, .int .i64 0, .bool false, .bool false] 50)).alloc (.cells #[.int .i64 1] 3)).alloc (.cells #[.bool false, .slice (some ⟨w.heap.size + 1, 0, none⟩) 1 1, .int .i64 0] 31)) = x3 at v_k o_k s_k hb3 ⊢
  clear q0 hb1
  have KK : ∀ W, Below x3.heap.size x3 W → W.cell? ⟨g, 0, none⟩ = some (.bool a_g) ∧ W.cell? ⟨g, 1, none⟩ = some (.slice a_o a_n a_c) ∧ W.cell? ⟨g, 2, none⟩ = some (.int .i64 a_e) ∧ W.cell? ⟨g, 3, none⟩ = some (.bool b_g) ∧ W.cell? ⟨g, 4, none⟩ = some (.slice b_o b_n b_c) ∧ W.cell? ⟨g, 5, none⟩ = some (.int .i64 b_e) ∧ W.cell? ⟨g, 6, none⟩ = some (.bool d_g) ∧ W.cell? ⟨g, 7, none⟩ = some (.slice d_o d_n d_c) ∧ W.cell? ⟨g, 8, none⟩ = some (.int .i64 d_e) ∧ W.cell? ⟨(w.heap.size + 1 + 1), 0, none⟩ = some (.bool false) ∧ W.cell? ⟨(w.heap.size + 1 + 1), 1, none⟩ = some (.slice (some ⟨w.heap.size + 1, 0, none⟩) 1 1) ∧ W.cell? ⟨(w.heap.size + 1 + 1), 2, none⟩ = some (.int .i64 0) := fun W hb => ⟨cell_keeps (cell_keeps c0 hb3) hb, cell_keeps (cell_keeps c1 hb3) hb, cell_keeps (cell_keeps c2 hb3) hb, cell_keeps (cell_keeps c3 hb3) hb, cell_keeps (cell_keeps c4 hb3) hb, cell_keeps (cell_keeps c5 hb3) hb, cell_keeps (cell_keeps c6 hb3) hb, cell_keeps (cell_keeps c7 hb3) hb, cell_keeps (cell_keeps c8 hb3) hb, cell_keeps (blkC s_k 0 rfl) hb, cell_keeps (blkC s_k 1 rfl) hb, cell_keeps (blkC s_k 2 rfl) hb⟩
  have k0 := cell_keeps k0 hb3
  have k1 := cell_keeps k1 hb3
  have k2 := cell_keeps k2 hb3
  have k3 := cell_keeps k3 hb3
  clear c0 c1 c2 c3 c4 c5 c6 c7 c8 s_k
  rename_i Q0 K1 hK1
  have HN : ∀ (gs : Nat) (X : World) (t : Array Value) (n_g : Bool) (n_o : Option Addr) (n_n n_c : Nat) (n_e : Int), #[t.getD 0 undef, .pointer (some p0), .pointer (some p1), .pointer (some p2), .pointer (some p3), t.getD 5 undef, .pointer (some ⟨w.heap.size, 0, none⟩), .int .i64 0, t.getD 8 undef, .pointer (some ⟨gs, 0, none⟩), .int .i64 0, t.getD 11 undef, t.getD 12 undef, t.getD 13 undef, t.getD 14 undef, t.getD 15 undef, t.getD 16 undef, t.getD 17 undef, t.getD 18 undef, t.getD 19 undef, t.getD 20 undef, t.getD 21 undef, t.getD 22 undef, t.getD 23 undef, t.getD 24 undef, t.getD 25 undef, t.getD 26 undef, t.getD 27 undef, t.getD 28 undef, t.getD 29 undef, t.getD 30 undef, t.getD 31 undef, t.getD 32 undef, t.getD 33 undef, t.getD 34 undef, t.getD 35 undef, t.getD 36 undef, t.getD 37 undef, t.getD 38 undef, t.getD 39 undef, t.getD 40 undef, t.getD 41 undef, t.getD 42 undef, t.getD 43 undef] = t → X.heap[gs]? = some (.cells #[.bool n_g, .slice n_o n_n n_c, .int .i64 n_e] 31 (0, 0)) → Below x3.heap.size x3 X → DNum X (.agg #[.bool n_g, .slice n_o n_n n_c, .int .i64 n_e]) S → Exit.then K1 Q0 Exit.normal { tmps := t, defers := [] } X := by
    intro gs X t n_g n_o n_n n_c n_e ht n_k hX n_D
    obtain ⟨u, hu⟩ : ∃ u : Nat → Value, t = #[u 0, .pointer (some p0), .pointer (some p1), .pointer (some p2), .pointer (some p3), u 5, .pointer (some ⟨w.heap.size, 0, none⟩), .int .i64 0, u 8, .pointer (some ⟨gs, 0, none⟩), .int .i64 0, u 11, u 12, u 13, u 14, u 15, u 16, u 17, u 18, u 19, u 20, u 21, u 22, u 23, u 24, u 25, u 26, u 27, u 28, u 29, u 30, u 31, u 32, u 33, u 34, u 35, u 36, u 37, u 38, u 39, u 40, u 41, u 42, u 43] := ⟨fun k => t.getD k undef, ht.symm⟩
    clear ht
    subst hu
    have v_k := blk_up hX v_k
    have k0 := cell_keeps k0 hX
    have k1 := cell_keeps k1 hX
    have k2 := cell_keeps k2 hX
    have k3 := cell_keeps k3 hX
    have hbX := bel_trans hb3 hX
    clear KK HD
    obtain ⟨z, w4, hrun, hz, hw4⟩ := HS.out X
    have hY : Below X.heap.size X w4 := by rcases hw4 with rfl | rfl; exact bel_refl _; exact (bel_refl _).drew
    have hbY := bel_trans hbX hY
    have v_k := blk_up hY v_k
    have k2 := cell_keeps k2 hY
    have k3 := cell_keeps k3 hY
    have n_D := n_D.keeps hY
    have n_k' := blk_up hY n_k
    have c0 := blkC n_k' 0 rfl
    have c1 := blkC n_k' 1 rfl
    have c2 := blkC n_k' 2 rfl
    go_wp2_with fail
    refine (of_FW hz _).mono ?_
    rintro _ wz ⟨rfl, hwz⟩
    replace hwz := hwz.symm
    subst hwz
    by_cases hf : fp = 0
    · by_cases hc : c = 0
      · obtain rfl : nt = true := by rw [← hnt, hf, hc]; rfl
        subst hf hc
        go_wp2_with fail
        refine (HV.out _ _ hbY n_D).mono ?_
        rintro _ w6 ⟨rfl, hb6⟩
        have p1' := blk_up hb6 v_k
        have hbw := bel_trans hbY hb6
        have x0 := blkC p1' 0 rfl
        have x1' := blkC p1' 1 rfl
        have x2 := blkC p1' 2 rfl
        have x3' := blkC p1' 3 rfl
        have x4 := blkC p1' 4 rfl
        have z0 := blkF p1' 0
        have z1 := blkF p1' 1
        have z2 := blkF p1' 2
        have z3 := blkF p1' 3
        have z4 := blkF p1' 4
        go_wp2
        all_goals refine bodyPost_ret (v := .tuple #[.agg #[.bool ng, .int .u64 Q, .int .i64 E, .bool R, .bool sd], .int .i64 0]) (by simp [results, Tryz.results23, go_sem, x0, x1', x2, x3', x4]) rfl ⟨rfl, ?_⟩
        all_goals exact (wr5 w6 w.heap.size _ _ _ _ _).below hbw hbw.size (Nat.le_refl _)
      · obtain rfl : nt = false := by rw [← hnt]; simp [hc]
        subst hf
        have hc' : (c == 0) = false := by simpa using hc
        go_wp2_with fail
        refine (HV.out _ _ hbY n_D).mono ?_
        rintro _ w6 ⟨rfl, hb6⟩
        have p1' := blk_up hb6 v_k
        have hbw := bel_trans hbY hb6
        have x0 := blkC p1' 0 rfl
        have x1' := blkC p1' 1 rfl
        have x2 := blkC p1' 2 rfl
        have x3' := blkC p1' 3 rfl
        have x4 := blkC p1' 4 rfl
        have z0 := blkF p1' 0
        have z1 := blkF p1' 1
        have z2 := blkF p1' 2
        have z3 := blkF p1' 3
        have z4 := blkF p1' 4
        go_wp2
        all_goals refine bodyPost_ret (v := .tuple #[.agg #[.bool ng, .int .u64 Q, .int .i64 E, .bool R, .bool sd], .int .i64 0]) (by simp [results, Tryz.results23, go_sem, x0, x1', x2, x3', x4]) rfl ⟨rfl, ?_⟩
        all_goals exact (wr5 w6 w.heap.size _ _ _ _ _).below hbw hbw.size (Nat.le_refl _)
    · obtain rfl : nt = false := by rw [← hnt]; simp [hf]
      have hf' : (fp == 0) = false := by simpa using hf
      go_wp2_with fail
      refine (HV.out _ _ hbY n_D).mono ?_
      rintro _ w6 ⟨rfl, hb6⟩
      have p1' := blk_up hb6 v_k
      have hbw := bel_trans hbY hb6
      have x0 := blkC p1' 0 rfl
      have x1' := blkC p1' 1 rfl
      have x2 := blkC p1' 2 rfl
      have x3' := blkC p1' 3 rfl
      have x4 := blkC p1' 4 rfl
      have z0 := blkF p1' 0
      have z1 := blkF p1' 1
      have z2 := blkF p1' 2
      have z3 := blkF p1' 3
      have z4 := blkF p1' 4
      go_wp2
      all_goals refine bodyPost_ret (v := .tuple #[.agg #[.bool ng, .int .u64 Q, .int .i64 E, .bool R, .bool sd], .int .i64 0]) (by simp [results, Tryz.results23, go_sem, x0, x1', x2, x3', x4]) rfl ⟨rfl, ?_⟩
      all_goals exact (wr5 w6 w.heap.size _ _ _ _ _).below hbw hbw.size (Nat.le_refl _)
  have hxr := bel_refl x3
  have hx0 := (bel_refl x3).drew
  have i0 : (0 : Int) < 3 := by decide
  have i1 : (1 : Int) < 3 := by decide
  have i2 : (2 : Int) < 3 := by decide
  go_region_held3 (fun W => W.cell? ⟨g, 0, none⟩ = some (.bool a_g) ∧ W.cell? ⟨g, 1, none⟩ = some (.slice a_o a_n a_c) ∧ W.cell? ⟨g, 2, none⟩ = some (.int .i64 a_e) ∧ W.cell? ⟨g, 3, none⟩ = some (.bool b_g) ∧ W.cell? ⟨g, 4, none⟩ = some (.slice b_o b_n b_c) ∧ W.cell? ⟨g, 5, none⟩ = some (.int .i64 b_e) ∧ W.cell? ⟨g, 6, none⟩ = some (.bool d_g) ∧ W.cell? ⟨g, 7, none⟩ = some (.slice d_o d_n d_c) ∧ W.cell? ⟨g, 8, none⟩ = some (.int .i64 d_e) ∧ W.cell? ⟨(w.heap.size + 1 + 1), 0, none⟩ = some (.bool false) ∧ W.cell? ⟨(w.heap.size + 1 + 1), 1, none⟩ = some (.slice (some ⟨w.heap.size + 1, 0, none⟩) 1 1) ∧ W.cell? ⟨(w.heap.size + 1 + 1), 2, none⟩ = some (.int .i64 0))
    (first | assumption | exact KK _ (hx0) | exact KK _ ((al1 hxr _).drew) | exact KK _ (al1 hx0 _) | exact KK _ (al1 (al1 hxr _).drew _) | exact KK _ (al1 (al1 hx0 _) _) | exact KK _ (al1 (al1 (al1 hxr _).drew _) _) | exact KK _ (al1 (al1 (al1 hx0 _) _) _) | exact KK _ hw3 | exact KK _ (al1 hw3 _) | exact KK _ (bel_set3' hw3 (by first | exact Nat.le_refl _ | exact Nat.le_succ _ | omega) _ _ _) | fail)
    ((go_at_call 24; refine (HD.out _ _ _ (w.heap.size + 1) (bel_trans hb3 (by first | exact hx0 | exact (al1 hxr _).drew | exact al1 hx0 _ | exact al1 (al1 hxr _).drew _ | exact al1 (al1 hx0 _) _ | exact al1 (al1 (al1 hxr _).drew _) _ | exact al1 (al1 (al1 hx0 _) _) _)) (blk_up (by first | exact hx0 | exact (al1 hxr _).drew | exact al1 hx0 _ | exact al1 (al1 hxr _).drew _ | exact al1 (al1 hx0 _) _ | exact al1 (al1 (al1 hxr _).drew _) _ | exact al1 (al1 (al1 hx0 _) _) _) o_k) (by first | exact heap_new _ rfl | exact heap_new _ (sz1 _ _) | exact heap_new _ (sz2 _ _ _) | exact heap_new _ (sz2d _ _ _) | exact heap_past _ (heap_new _ rfl) | exact heap_past _ (heap_new _ (sz1 _ _)) | exact heap_past _ (heap_new _ (sz2 _ _ _)) | exact heap_past _ (heap_new _ (sz2d _ _ _)) | exact heap_past _ (heap_past _ (heap_new _ rfl)) | exact heap_past _ (heap_past _ (heap_new _ (sz1 _ _))) | exact heap_past _ (heap_past _ (heap_new _ (sz2 _ _ _))) | exact heap_past _ (heap_past _ (heap_new _ (sz2d _ _ _)))) (by first | exact heap_new _ rfl | exact heap_new _ (sz1 _ _) | exact heap_new _ (sz2 _ _ _) | exact heap_new _ (sz2d _ _ _) | exact heap_past _ (heap_new _ rfl) | exact heap_past _ (heap_new _ (sz1 _ _)) | exact heap_past _ (heap_new _ (sz2 _ _ _)) | exact heap_past _ (heap_new _ (sz2d _ _ _)) | exact heap_past _ (heap_past _ (heap_new _ rfl)) | exact heap_past _ (heap_past _ (heap_new _ (sz1 _ _))) | exact heap_past _ (heap_past _ (heap_new _ (sz2 _ _ _))) | exact heap_past _ (heap_past _ (heap_new _ (sz2d _ _ _))))).mono ?_; rintro _ w3 ⟨v, rfl, hD⟩; obtain ⟨n_g, n_o, n_n, n_c, n_e, rfl⟩ := dans_shape hD; have hw3 : Below x3.heap.size x3 w3 := bel_trans (by first | exact hx0 | exact (al1 hxr _).drew | exact al1 hx0 _ | exact al1 (al1 hxr _).drew _ | exact al1 (al1 hx0 _) _ | exact al1 (al1 (al1 hxr _).drew _) _ | exact al1 (al1 (al1 hx0 _) _) _) hD.below; first | (have qz : w3.heap[x3.heap.size]? = some (.cells #[.bool false, .slice none 0 0, .int .i64 0] 31 (0, 0)) := blk_up hD.below (by first | exact heap_new _ rfl | exact heap_new _ (sz1 _ _) | exact heap_new _ (sz2 _ _ _) | exact heap_new _ (sz2d _ _ _) | exact heap_past _ (heap_new _ rfl) | exact heap_past _ (heap_new _ (sz1 _ _)) | exact heap_past _ (heap_new _ (sz2 _ _ _)) | exact heap_past _ (heap_new _ (sz2d _ _ _)) | exact heap_past _ (heap_past _ (heap_new _ rfl)) | exact heap_past _ (heap_past _ (heap_new _ (sz1 _ _))) | exact heap_past _ (heap_past _ (heap_new _ (sz2 _ _ _))) | exact heap_past _ (heap_past _ (heap_new _ (sz2d _ _ _)))); have cz0 := blkC qz 0 rfl; have cz1 := blkC qz 1 rfl; have cz2 := blkC qz 2 rfl; have zz0 := blkF qz 0; have zz1 := blkF qz 1; have zz2 := blkF qz 2; have hDS := fun a b c => (dans_res3 (w := x3) (g := x3.heap.size) hD (by first | exact hx0 | exact (al1 hxr _).drew | exact al1 hx0 _ | exact al1 (al1 hxr _).drew _ | exact al1 (al1 hx0 _) _ | exact al1 (al1 (al1 hxr _).drew _) _ | exact al1 (al1 (al1 hx0 _) _) _) (by omega) (by simp only [size_alloc, size_drew]; omega) a b c).num) | (have qz : w3.heap[x3.heap.size + 1]? = some (.cells #[.bool false, .slice none 0 0, .int .i64 0] 31 (0, 0)) := blk_up hD.below (by first | exact heap_new _ rfl | exact heap_new _ (sz1 _ _) | exact heap_new _ (sz2 _ _ _) | exact heap_new _ (sz2d _ _ _) | exact heap_past _ (heap_new _ rfl) | exact heap_past _ (heap_new _ (sz1 _ _)) | exact heap_past _ (heap_new _ (sz2 _ _ _)) | exact heap_past _ (heap_new _ (sz2d _ _ _)) | exact heap_past _ (heap_past _ (heap_new _ rfl)) | exact heap_past _ (heap_past _ (heap_new _ (sz1 _ _))) | exact heap_past _ (heap_past _ (heap_new _ (sz2 _ _ _))) | exact heap_past _ (heap_past _ (heap_new _ (sz2d _ _ _)))); have cz0 := blkC qz 0 rfl; have cz1 := blkC qz 1 rfl; have cz2 := blkC qz 2 rfl; have zz0 := blkF qz 0; have zz1 := blkF qz 1; have zz2 := blkF qz 2; have hDS := fun a b c => (dans_res3 (w := x3) (g := x3.heap.size + 1) hD (by first | exact hx0 | exact (al1 hxr _).drew | exact al1 hx0 _ | exact al1 (al1 hxr _).drew _ | exact al1 (al1 hx0 _) _ | exact al1 (al1 (al1 hxr _).drew _) _ | exact al1 (al1 (al1 hx0 _) _) _) (by omega) (by simp only [size_alloc, size_drew]; omega) a b c).num) | (have qz : w3.heap[x3.heap.size + 1 + 1]? = some (.cells #[.bool false, .slice none 0 0, .int .i64 0] 31 (0, 0)) := blk_up hD.below (by first | exact heap_new _ rfl | exact heap_new _ (sz1 _ _) | exact heap_new _ (sz2 _ _ _) | exact heap_new _ (sz2d _ _ _) | exact heap_past _ (heap_new _ rfl) | exact heap_past _ (heap_new _ (sz1 _ _)) | exact heap_past _ (heap_new _ (sz2 _ _ _)) | exact heap_past _ (heap_new _ (sz2d _ _ _)) | exact heap_past _ (heap_past _ (heap_new _ rfl)) | exact heap_past _ (heap_past _ (heap_new _ (sz1 _ _))) | exact heap_past _ (heap_past _ (heap_new _ (sz2 _ _ _))) | exact heap_past _ (heap_past _ (heap_new _ (sz2d _ _ _)))); have cz0 := blkC qz 0 rfl; have cz1 := blkC qz 1 rfl; have cz2 := blkC qz 2 rfl; have zz0 := blkF qz 0; have zz1 := blkF qz 1; have zz2 := blkF qz 2; have hDS := fun a b c => (dans_res3 (w := x3) (g := x3.heap.size + 1 + 1) hD (by first | exact hx0 | exact (al1 hxr _).drew | exact al1 hx0 _ | exact al1 (al1 hxr _).drew _ | exact al1 (al1 hx0 _) _ | exact al1 (al1 (al1 hxr _).drew _) _ | exact al1 (al1 (al1 hx0 _) _) _) (by omega) (by simp only [size_alloc, size_drew]; omega) a b c).num) | skip))
  · exact HN w3.heap.size _ _ _ _ _ _ _ (by kernel_rfl) (heap_a1 _ _) (al1 hw3 _) (hD.num.keeps (bel_alloc _ _))
  · exact HN (x3.heap.size + 1 + 1) _ _ _ _ _ _ _ (by kernel_rfl) (heap_set (heap_set (heap_set qz 0 _) 1 _) 2 _) (bel_set3' hw3 (by omega) _ _ _) (hDS _ _ _)
  · exact HN (x3.heap.size + 1) _ _ _ _ _ _ _ (by kernel_rfl) (heap_set (heap_set (heap_set qz 0 _) 1 _) 2 _) (bel_set3' hw3 (by omega) _ _ _) (hDS _ _ _)
  · exact HN w3.heap.size _ _ _ _ _ _ _ (by kernel_rfl) (heap_a1 _ _) (al1 hw3 _) (hD.num.keeps (bel_alloc _ _))
  · exact HN (x3.heap.size + 1 + 1) _ _ _ _ _ _ _ (by kernel_rfl) (heap_set (heap_set (heap_set qz 0 _) 1 _) 2 _) (bel_set3' hw3 (by omega) _ _ _) (hDS _ _ _)
  · exact HN (x3.heap.size + 1) _ _ _ _ _ _ _ (by kernel_rfl) (heap_set (heap_set (heap_set qz 0 _) 1 _) 2 _) (bel_set3' hw3 (by omega) _ _ _) (hDS _ _ _)
  · exact HN (x3.heap.size) _ _ _ _ _ _ _ (by kernel_rfl) (heap_set (heap_set (heap_set qz 0 _) 1 _) 2 _) (bel_set3' hw3 (by omega) _ _ _) (hDS _ _ _)
  · exact HN (x3.heap.size) _ _ _ _ _ _ _ (by kernel_rfl) (heap_set (heap_set (heap_set qz 0 _) 1 _) 2 _) (bel_set3' hw3 (by omega) _ _ _) (hDS _ _ _)
end Go.Proofs.YtobolgmjcebfmaaGreatDoor

/-
  Package round: Fma in all ways, by its contract.
-/
namespace Go.Proofs.YtobolgmjcebfmaaGreatDoor
open Go Go.RowKit Go.Proofs.YtobolgmjcebfmaaGreatDoor.M
set_option linter.unusedSimpArgs false
set_option linter.unusedVariables false

theorem okR_row {w : World} {x : NumR} {V : Int} (hR : Row w x.ao x.n x.cap x.d) (hN : Nrm x.d x.n) (hy : Dy V x.ng (val x.d x.n) x.e) (ok : Dok V) : okR x = true := by
  obtain ⟨ng, ao, n, cap, d, e⟩ := x
  simp only at *
  obtain ⟨o1, o2, o3⟩ := hy.ok.1 ok
  refine decide_eq_true ?_
  by_cases h0 : n = 0
  · left
    have hz : val d n = 0 := by rw [h0]; rfl
    rcases hy.form with ⟨_, f2, f3⟩ | ⟨f1, _⟩
    · exact ⟨h0, f2, f3⟩
    · omega
  · right
    have hp := val_pos hN (show 0 < n by omega)
    rcases hy.form with ⟨f1, _⟩ | ⟨_, f2⟩
    · omega
    · refine ⟨by show 0 < n; omega, ⟨?_, hN⟩, ?_, o2, o3⟩
      · exact Num.len (w := w) (ao := ao) (cap := cap) ⟨_, _, _, _, rfl, hR, hN, rfl⟩ o1
      · obtain ⟨k, hk⟩ : ∃ k, n = 1 + k := ⟨n - 1, by omega⟩
        have := val_split d 1 k
        rw [← hk] at this
        rw [this, show val d 1 = d 0 by show 0 + d 0 * 1 = _; omega, show P 1 = 1073741824 from rfl] at f2
        show d 0 % 2 = 1
        omega
theorem half_of {x : NumR} {V : Int} (hy : Dy V x.ng (val x.d x.n) x.e) (hb : Bd 4000 V) : Half x := by
  unfold Half
  by_cases h0 : 0 < val x.d x.n
  · have := bd_form hb hy (by omega) h0
    omega
  · rcases hy.form with ⟨_, _, f3⟩ | ⟨f1, _⟩
    · omega
    · omega
theorem rowL {w : World} {g : Nat} {x : Int} (h : w.heap[g]? = some (.cells #[.int .i64 x] 3 (0, 0))) : Row w (some ⟨g, 0, none⟩) 1 1 (fun _ => x) :=
  ⟨Nat.le_refl _, by decide, (fun h => nomatch h), fun _ => ⟨g, 0, rfl, (Array.getElem?_eq_some_iff.1 h).1, fun i hi => by
    obtain rfl : i = 0 := by omega
    exact blkC h 0 rfl⟩⟩
theorem litR_V (g : Nat) : (litR g 1).V = 2 ^ 4194304 := by
  rw [← pw_0s]
  unfold NumR.V litR
  show sg false (val (fun _ => 1) 1) * pw 0 = pw 0
  rw [show val (fun _ => 1) 1 = 1 from rfl]
  show 1 * pw 0 = pw 0
  rw [Int.one_mul]
/-- The exact sum of a product and a number. -/
theorem dot_D {W : World} {q : Nat → NumR} {a b c : Int} (ra : rng a) (rb : rng b) (pa : pok a = true) (pb : pok b = true) (pc : pok c = true) (hT : Tab W) (r0 : Row W (q 0).ao (q 0).n (q 0).cap (q 0).d) (r1 : Row W (q 1).ao (q 1).n (q 1).cap (q 1).d) (r2 : Row W (q 2).ao (q 2).n (q 2).cap (q 2).d)
    (n0 : Nrm (q 0).d (q 0).n) (n1 : Nrm (q 1).d (q 1).n) (n2 : Nrm (q 2).d (q 2).n) (y0 : Dy (patV a) (q 0).ng (val (q 0).d (q 0).n) (q 0).e) (y1 : Dy (patV b) (q 1).ng (val (q 1).d (q 1).n) (q 1).e) (y2 : Dy (patV c) (q 2).ng (val (q 2).d (q 2).n) (q 2).e)
    {g1 g2 o : Nat} (ko : W.heap[o]? = some (.cells #[.int .i64 1] 3 (0, 0))) (k1 : W.heap[g1]? = some (.cells #[.bool (q 0).ng, .slice (q 0).ao (q 0).n (q 0).cap, .int .i64 (q 0).e, .bool (q 2).ng, .slice (q 2).ao (q 2).n (q 2).cap, .int .i64 (q 2).e] 31 (0, 0))) (k2 : W.heap[g2]? = some (.cells #[.bool (q 1).ng, .slice (q 1).ao (q 1).n (q 1).cap, .int .i64 (q 1).e, .bool false, .slice (some ⟨o, 0, none⟩) 1 1, .int .i64 0] 31 (0, 0))) :
    Calls Tryz.prog 24 #[.slice (some ⟨g1, 0, none⟩) 2 2, .slice (some ⟨g2, 0, none⟩) 2 2] W fun r w' => ∃ v, r = .returned (.tuple #[v, .int .i64 0]) ∧ DAns W w' (fmaS a b c) v := by
  have o0 := okR_row r0 n0 y0 (patV_dok pa)
  have o1 := okR_row r1 n1 y1 (patV_dok pb)
  have o2 := okR_row r2 n2 y2 (patV_dok pc)
  have o3 : okR (litR o 1) = true := litR_ok o (by decide) (by decide) (by decide)
  have h0 := half_of y0 (patV_bd pa)
  have h1 := half_of y1 (patV_bd pb)
  have h2 := half_of y2 (patV_bd pc)
  have h3 : Half (litR o 1) := by exact ⟨show (-500000 : Int) ≤ 0 by decide, show (0 : Int) ≤ 500000 by decide⟩
  obtain ⟨_, _, _, _, hC⟩ := prV_parts ra rb pa pb
  have bC := (patV_bd pa).mul (patV_bd pb) hC (by omega)
  have ok : Dok (fmaS a b c) := by
    rw [fmaS_pr]
    exact (bC.add ((patV_bd pc).up (by omega) (by omega)) (by omega)).ok (by omega)
  have hV : dotV (pair2 (q 0) (q 2)) (pair2 (q 1) (litR o 1)) 2 = fmaS a b c := by
    show 0 + mulV (q 0) (q 1) + mulV (q 2) (litR o 1) = _
    unfold Half at h0 h1 h2 h3
    have m1 := mulV_eq (x := q 0) (y := q 1) (by omega) (by omega)
    have m2 := mulV_eq (x := q 2) (y := litR o 1) (by omega) (by omega)
    have v0 : (q 0).V = patV a := y0.val.symm
    have v1 : (q 1).V = patV b := y1.val.symm
    have v2 : (q 2).V = patV c := y2.val.symm
    rw [v0, v1] at m1
    rw [v2, litR_V] at m2
    rw [scale_injF m1 hC, Int.eq_of_mul_eq_mul_right (Int.ne_of_gt (two_pos 4194304)) m2, fmaS_pr, Int.zero_add]
  refine (ddot_ok _ _ 2 2 2 (pair2 (q 0) (q 2)) (pair2 (q 1) (litR o 1)) W (nums2 k1 r0 r2) (nums2 k2 r1 (rowL ko)) (by rw [allOk2, o0, o2]; rfl) (by rw [allOk2, o1, o3]; rfl) (fun i hi => by unfold pair2; split <;> assumption) (fun i hi => by unfold pair2; split <;> assumption) (by decide) hT).mono ?_
  rintro r w' ⟨v, er, rfl, hF⟩
  rw [hV] at hF
  obtain ⟨rfl, hD⟩ := hF.yes ok
  exact ⟨v, rfl, hD⟩
def fmaF (way near a b c : Int) : Int := if fmaS a b c ≠ 0 then rdP way (fmaS a b c) else if way = 1 ∧ ¬ (fprod (told a) (told b) = 0 ∧ c = 0) then -9223372036854775808 else near
theorem rowT3 {w : World} {g : Nat} {a b c : Int} (h : w.heap[g]? = some (.cells #[.int .i64 a, .int .i64 b, .int .i64 c] 3 (0, 0))) : Row w (some ⟨g, 0, none⟩) 3 3 (fun i => if i = 0 then a else if i = 1 then b else c) :=
  ⟨Nat.le_refl _, by decide, (fun h => nomatch h), fun _ => ⟨g, 0, rfl, (Array.getElem?_eq_some_iff.1 h).1, fun i hi => by
    match i, hi with
    | 0, _ => exact blkC h 0 rfl
    | 1, _ => exact blkC h 1 rfl
    | 2, _ => exact blkC h 2 rfl⟩⟩
set_option maxRecDepth 100000 in
theorem opFma (way : Int) (hw : 1 ≤ way ∧ way ≤ 3) (near a b c : Int) (ra : rng a) (rb : rng b) (pa : pok a = true) (pb : pok b = true) (pc : pok c = true) (w : World) (gx gy gc gn go : Nat) (kx : w.heap[gx]? = some (.cells #[.float .f64 (wd a)] 43 (0, 0))) (ky : w.heap[gy]? = some (.cells #[.float .f64 (wd b)] 43 (0, 0))) (kc : w.heap[gc]? = some (.cells #[.int .i64 c] 3 (0, 0))) (kn : w.heap[gn]? = some (.cells #[.int .i64 way] 3 (0, 0))) (ko : w.heap[go]? = some (.cells #[.int .i64 a, .int .i64 b, .int .i64 c] 3 (0, 0))) (H : Hold4 w) :
    Calls Tryz.prog 21 #[.agg #[.func (.func 11) #[] #[], .func (.func 42) #[] #[]], .int .i64 near, .int .i64 way, .func (.func 23) #[] #[.pointer (some ⟨gx, 0, none⟩), .pointer (some ⟨gy, 0, none⟩), .pointer (some ⟨gc, 0, none⟩), .pointer (some ⟨gn, 0, none⟩)], .slice (some ⟨go, 0, none⟩) 3 3] w fun e w' => e = .returned (.tuple #[.int .i64 (fmaF way near a b c), .int .i64 0]) ∧ Below w.heap.size w w' := by
  have hER : ∀ (cap : Array Value) (w : World), (callFunc 23 cap).run Tryz.prog w = .ok (.enter 23 cap) w := by
    intro cap w
    simp [go_sem]
  obtain ⟨_, _, _, _, hC⟩ := prV_parts ra rb pa pb
  have bC := (patV_bd pa).mul (patV_bd pb) hC (by omega)
  have ok : Dok (fmaS a b c) := by
    rw [fmaS_pr]
    exact (bC.add ((patV_bd pc).up (by omega) (by omega)) (by omega)).ok (by omega)
  clear bC hC
  obtain ⟨ng, m, e, hy, hm⟩ := id ok
  clear hm
  have hp : ∀ i, i < 3 → pok (if i = 0 then a else if i = 1 then b else c) = true := fun i hi => by
    split
    · assumption
    · split <;> assumption
  have CR : ∀ (ng : Bool) (Q : Nat) (E : Int) (R sd : Bool), (∀ W v, Below w.heap.size w W → DNum W v (fmaS a b c) → Calls Tryz.prog 25 #[v, .int .i64 way, .bool (decide (fprod (told a) (told b) = 0) && decide (c = 0))] W fun r w' => r = .returned (valV ng Q E R sd) ∧ Below W.heap.size W w') →
      ∀ W g q, Below w.heap.size w W → Nums W (some ⟨g, 0, none⟩) 3 3 q → (∀ i, i < 3 → Nrm (q i).d (q i).n ∧ Dy (patV (if i = 0 then a else if i = 1 then b else c)) (q i).ng (val (q i).d (q i).n) (q i).e) → Calls Tryz.prog 23 (#[.slice (some ⟨g, 0, none⟩) 3 3] ++ #[.pointer (some ⟨gx, 0, none⟩), .pointer (some ⟨gy, 0, none⟩), .pointer (some ⟨gc, 0, none⟩), .pointer (some ⟨gn, 0, none⟩)]) W fun e w' => e = .returned (.tuple #[valV ng Q E R sd, .int .i64 0]) ∧ Below W.heap.size W w' :=
    fun ng Q E R sd CV W g q hb hN hf => fma1_D g W q (fmaS a b c) way c (fprod (told a) (told b)) (wd a) (wd b) ng Q E R sd ⟨gx, 0, none⟩ ⟨gy, 0, none⟩ ⟨gc, 0, none⟩ ⟨gn, 0, none⟩ (cell_keeps (blkC kx 0 rfl) hb) (cell_keeps (blkC ky 0 rfl) hb) (cell_keeps (blkC kc 0 rfl) hb) (cell_keeps (blkC kn 0 rfl) hb) hN
      (fun W' g1 g2 o hb' ko' k1 k2 => dot_D ra rb pa pb pc ((H.keeps hb).keeps hb').tab ((hN.at 0 (by decide)).row.keeps hb') ((hN.at 1 (by decide)).row.keeps hb') ((hN.at 2 (by decide)).row.keeps hb') (hf 0 (by decide)).1 (hf 1 (by decide)).1 (hf 2 (by decide)).1 (hf 0 (by decide)).2 (hf 1 (by decide)).2 (hf 2 (by decide)).2 ko' k1 k2)
      (fun W' => run_fprod _ (wd_told ra) (wd_told rb) W')
      (fun W' v hb' hv => CV W' v (bel_trans hb hb') hv)
  by_cases hz : fmaS a b c = 0 ∧ way = 1 ∧ (decide (fprod (told a) (told b) = 0) && decide (c = 0)) = false
  · obtain ⟨h0, h1, h2⟩ := hz
    have hA : fmaF way near a b c = -9223372036854775808 := by
      unfold fmaF
      have n1 : ¬ fmaS a b c ≠ 0 := fun q => q h0
      have n2 : way = 1 ∧ ¬ (fprod (told a) (told b) = 0 ∧ c = 0) := ⟨h1, fun q => by rw [q.1, q.2] at h2; cases h2⟩
      rw [if_neg n1, if_pos n2]
    have := operate_fin way hw near _ _ go 3 (by decide) (fun i => if i = 0 then a else if i = 1 then b else c) w (rowT3 ko) hp H true 0 0 false true (by decide) (by omega) hER (CR true 0 0 false true (fun W v hb hv => by
      rw [h0] at hv
      rw [h1, h2]
      exact total_neg hv))
    rw [hA]
    rw [h1, show opT 0 0 true (r64 1 true true 0 0 false).1 near = -9223372036854775808 by unfold opT; rw [r64_m0]; simp] at this
    rw [h1]
    exact this
  · have := operate_fin way hw near _ _ go 3 (by decide) (fun i => if i = 0 then a else if i = 1 then b else c) w (rowT3 ko) hp H ng _ _ _ false (mag_lt hy.nonneg) (exp_in hy ok) hER (CR ng _ _ _ false (fun W v hb hv => total_val hv ok hy (H.keeps hb).tab hz))
    have hA : fmaF way near a b c = opT 0 (m / 2 ^ vK m).toNat false (r64 way ng true (m / 2 ^ vK m).toNat (e + vK m) (decide (m % 2 ^ vK m ≠ 0))).1 near := by
      unfold fmaF opT
      by_cases h0 : fmaS a b c = 0
      · have hm0 := hy.eq_zero.1 h0
        have n1 : ¬ fmaS a b c ≠ 0 := fun q => q h0
        have n2 : ¬ (way = 1 ∧ ¬ (fprod (told a) (told b) = 0 ∧ c = 0)) := fun q => hz ⟨h0, q.1, by
          by_cases ha : fprod (told a) (told b) = 0
          · by_cases hb : c = 0
            · exact absurd ⟨ha, hb⟩ q.2
            · simp [hb]
          · simp [ha]⟩
        have n3 : (0 : Int) ≠ 0 ∨ ((m / 2 ^ vK m).toNat = 0 ∧ false = false) := .inr ⟨by rw [hm0, Int.zero_ediv]; rfl, rfl⟩
        rw [if_neg n1, if_neg n2, if_pos n3]
      · have hm0 : 0 < m := by
          have := hy.nonneg
          have : m ≠ 0 := fun q => h0 (hy.eq_zero.2 q)
          omega
        have n1 : fmaS a b c ≠ 0 := h0
        have n3 : ¬ ((0 : Int) ≠ 0 ∨ ((m / 2 ^ vK m).toNat = 0 ∧ false = false)) := fun q => by
          rcases q with q | q
          · exact q rfl
          · exact mag_pos hm0 q.1
        rw [if_pos n1, if_neg n3, r64_dy hy h0 (by have := (hy.ok.1 ok).2.1; omega)]
    rw [hA]
    exact this
theorem opFma_inf (way : Int) (hw : 1 ≤ way ∧ way ≤ 3) (near a b c : Int) (Rf : Nat) (rc : Array Value) (hp : (pok a && pok b && pok c) = false) (w : World) (go : Nat) (ko : w.heap[go]? = some (.cells #[.int .i64 a, .int .i64 b, .int .i64 c] 3 (0, 0))) (H : Hold4 w) :
    Calls Tryz.prog 21 #[.agg #[.func (.func 11) #[] #[], .func (.func 42) #[] #[]], .int .i64 near, .int .i64 way, .func (.func Rf) #[] rc, .slice (some ⟨go, 0, none⟩) 3 3] w fun e w' => e = .returned (.tuple #[.int .i64 near, .int .i64 0]) ∧ Below w.heap.size w w' := by
  cases h1 : pok a
  · exact operate_inf way hw near Rf rc go 3 (by decide) (fun i => if i = 0 then a else if i = 1 then b else c) w (rowT3 ko) 0 (by decide) (fun i hi => by omega) h1 H
  · cases h2 : pok b
    · exact operate_inf way hw near Rf rc go 3 (by decide) (fun i => if i = 0 then a else if i = 1 then b else c) w (rowT3 ko) 1 (by decide) (fun i hi => by
        obtain rfl : i = 0 := by omega
        exact h1) h2 H
    · rw [h1, h2] at hp
      exact operate_inf way hw near Rf rc go 3 (by decide) (fun i => if i = 0 then a else if i = 1 then b else c) w (rowT3 ko) 2 (by decide) (fun i hi => by
        match i, hi with
        | 0, _ => exact h1
        | 1, _ => exact h2) hp H
end Go.Proofs.YtobolgmjcebfmaaGreatDoor

/-
  The model's product and sum, rounded once (math.FMA), on patterns.
-/
namespace Go.Proofs.YtobolgmjcebfmaaGreatDoor
open Go Go.RowKit Go.Proofs.YtobolgmjcebfmaaGreatDoor.M Ieee
set_option linter.unusedSimpArgs false
set_option linter.unusedVariables false

theorem ext_fma (x y z : Nat) : ∃ a b, Extern.MathFMA.fma #[.float .f64 x, .float .f64 y, .float .f64 z] = Option.casesOn (motive := fun _ => Sem Value) (FloatKind.f64.format.fma x y z) (do pure (.float .f64 (← choose (.nanBits .f64 a b)))) (fun r => pure (.float .f64 r)) := by
  cases h1 : Extern.MathFMA.isNaN x with
  | true => exact ⟨x, y, by
      have : Extern.MathFMA.fma #[.float .f64 x, .float .f64 y, .float .f64 z] = Option.casesOn (motive := fun _ => Sem Value) (FloatKind.f64.format.fma x y z) (match (if Extern.MathFMA.isNaN x then (x, y) else if Extern.MathFMA.isNaN y then (y, z) else (z, z)) with | (a, b) => do pure (.float .f64 (← choose (.nanBits .f64 a b)))) (fun r => pure (.float .f64 r)) := by kernel_rfl
      rw [this, h1]; rfl⟩
  | false =>
    cases h2 : Extern.MathFMA.isNaN y with
    | true => exact ⟨y, z, by
        have : Extern.MathFMA.fma #[.float .f64 x, .float .f64 y, .float .f64 z] = Option.casesOn (motive := fun _ => Sem Value) (FloatKind.f64.format.fma x y z) (match (if Extern.MathFMA.isNaN x then (x, y) else if Extern.MathFMA.isNaN y then (y, z) else (z, z)) with | (a, b) => do pure (.float .f64 (← choose (.nanBits .f64 a b)))) (fun r => pure (.float .f64 r)) := by kernel_rfl
        rw [this, h1, h2]; rfl⟩
    | false => exact ⟨z, z, by
        have : Extern.MathFMA.fma #[.float .f64 x, .float .f64 y, .float .f64 z] = Option.casesOn (motive := fun _ => Sem Value) (FloatKind.f64.format.fma x y z) (match (if Extern.MathFMA.isNaN x then (x, y) else if Extern.MathFMA.isNaN y then (y, z) else (z, z)) with | (a, b) => do pure (.float .f64 (← choose (.nanBits .f64 a b)))) (fun r => pure (.float .f64 r)) := by kernel_rfl
        rw [this, h1, h2]; rfl⟩
theorem run_ffma {p q r : Int} {x y z : Nat} (hx : FW p x) (hy : FW q y) (hz : FW r z) (w : World) :
    ∃ t w', (callFunc 22 #[.float .f64 x, .float .f64 y, .float .f64 z]).run Tryz.prog w = .ok (.value (.float .f64 t)) w' ∧ FW (ffma p q r) t ∧ (w' = w ∨ w' = w.drew) := by
  rw [run_callFunc_extern Tryz.func22 (by kernel_rfl) (by kernel_rfl) (by kernel_rfl) (e := Extern.MathFMA.fma) (by kernel_rfl)]
  obtain ⟨a, b, hab⟩ := ext_fma x y z
  rw [hab]
  rcases fma_FW hx hy hz with ⟨t, e1, e2⟩ | ⟨e1, e2⟩
  · refine ⟨t, w, ?_, e2, .inl rfl⟩
    have e1' : FloatKind.f64.format.fma x y z = some t := e1
    rw [e1']
    simp
  · have e1' : FloatKind.f64.format.fma x y z = none := e1
    rw [e1']
    refine ⟨(Question.nanBits .f64 a b).cut (w.tape w.drawn (.nanBits .f64 a b)), w.drew, ?_, ?_, .inr rfl⟩
    · simp
      exact fun hf => absurd (show false = true from hf) (by decide)
    · rw [e2]
      exact FW.nan (nan_cut a b (w.tape w.drawn (.nanBits .f64 a b)))
end Go.Proofs.YtobolgmjcebfmaaGreatDoor
