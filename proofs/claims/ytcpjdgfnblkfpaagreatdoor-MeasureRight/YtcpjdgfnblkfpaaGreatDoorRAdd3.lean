/-
  Package round: Add, Mul in all ways, by their contracts.
-/
import Derived.Test.YtcpjdgfnblkfpaaGreatDoorRAdd2
import Derived.Test.YtcpjdgfnblkfpaaGreatDoorESteps
namespace Go.Proofs.YtcpjdgfnblkfpaaGreatDoor
open Go Go.RowKit Go.Proofs.YtcpjdgfnblkfpaaGreatDoor.M
set_option linter.unusedSimpArgs false
set_option linter.unusedVariables false

set_option maxRecDepth 100000 in
set_option maxHeartbeats 1000000 in
theorem opMul (way : Int) (hw : 1 ≤ way ∧ way ≤ 3) (near a b : Int) (ra : rng a) (rb : rng b) (w : World) (go : Nat) (ko : w.heap[go]? = some (.cells #[.int .i64 a, .int .i64 b] 3 (0, 0))) (H : Hold4 w) :
    Calls Tryz.prog 152 #[.agg #[.func (.func 62) #[] #[], .func (.func 154) #[] #[]], .int .i64 near, .int .i64 way, .func (.func 153) #[] #[], .slice (some ⟨go, 0, none⟩) 2 2] w fun e w' => e = .returned (.tuple #[.int .i64 (if (pok a && pok b) = true ∧ prV a b ≠ 0 then rdP way (prV a b) else near), .int .i64 0]) ∧ Below w.heap.size w w' := by
  have hER : ∀ (cap : Array Value) (w : World), (callFunc 153 cap).run Tryz.prog w = .ok (.enter 153 cap) w := by
    intro cap w
    simp [go_sem]
  cases hpp : (pok a && pok b)
  · have n1 : ¬ (false = true ∧ prV a b ≠ 0) := fun q => by cases q.1
    rw [if_neg n1]
    exact opAdd_inf way hw near a b _ _ hpp w go ko H
  · simp only [Bool.and_eq_true] at hpp
    obtain ⟨pa, pb⟩ := hpp
    obtain ⟨_, _, _, _, hC⟩ := prV_parts ra rb pa pb
    have ok : Dok (prV a b) := ((patV_bd pa).mul (patV_bd pb) hC (by omega)).ok (by omega)
    obtain ⟨ng, m, e, hy, hm⟩ := id ok
    clear hm
    have hp : ∀ i, i < 2 → pok (if i = 0 then a else b) = true := fun i hi => by split <;> assumption
    have := operate_fin way hw near _ #[] go 2 (by decide) (fun i => if i = 0 then a else b) w (rowT ko) hp H ng _ _ _ false (mag_lt hy.nonneg) (exp_in hy ok) hER (fun W g q hb hN hf => product_D g W q (patV a) (patV b) (prV a b) ng m e hN (nums_D hN hf 0 (by decide)) (nums_D hN hf 1 (by decide)) (patV_dok pa) (patV_dok pb) hC ok hy (H.keeps hb).tab)
    have hA : (if true = true ∧ prV a b ≠ 0 then rdP way (prV a b) else near) = opT 0 (m / 2 ^ vK m).toNat false (r64 way ng true (m / 2 ^ vK m).toNat (e + vK m) (decide (m % 2 ^ vK m ≠ 0))).1 near := by
      unfold opT
      by_cases h0 : prV a b = 0
      · have hm0 := hy.eq_zero.1 h0
        have n1 : ¬ (true = true ∧ prV a b ≠ 0) := fun q => q.2 h0
        have n3 : (0 : Int) ≠ 0 ∨ ((m / 2 ^ vK m).toNat = 0 ∧ false = false) := .inr ⟨by rw [hm0, Int.zero_ediv]; rfl, rfl⟩
        rw [if_neg n1, if_pos n3]
      · have hm0 : 0 < m := by
          have := hy.nonneg
          have : m ≠ 0 := fun q => h0 (hy.eq_zero.2 q)
          omega
        have n1 : true = true ∧ prV a b ≠ 0 := ⟨rfl, h0⟩
        have n3 : ¬ ((0 : Int) ≠ 0 ∨ ((m / 2 ^ vK m).toNat = 0 ∧ false = false)) := fun q => by
          rcases q with q | q
          · exact q rfl
          · exact mag_pos hm0 q.1
        rw [if_pos n1, if_neg n3, r64_dy hy h0 (by have := (hy.ok.1 ok).2.1; omega)]
    rw [hA]
    exact this
set_option maxRecDepth 100000 in
set_option maxHeartbeats 1000000 in
theorem mul_A {a b way : Int} {w : World} (ra : rng a) (rb : rng b) (hw : 0 ≤ way ∧ way ≤ 3) (H : Hold4 w) :
    Calls Tryz.prog 144 #[.int .i64 a, .int .i64 b, .int .i64 way] w fun e w' => e = .returned (.tuple #[.int .i64 (mulP way a b), .int .i64 0]) ∧ Below w.heap.size w w' := by
  have CK : Hid (∀ W go, W.heap[go]? = some (.cells #[.int .i64 a, .int .i64 b] 3 (0, 0)) → Hold4 W → Calls Tryz.prog 152 #[.agg #[.func (.func 62) #[] #[], .func (.func 154) #[] #[]], .int .i64 (fprod (told a) (told b)), .int .i64 way, .func (.func 153) #[] #[], .slice (some ⟨go, 0, none⟩) 2 2] W fun e w' => e = .returned (.tuple #[.int .i64 (mulP way a b), .int .i64 0]) ∧ Below W.heap.size W w') := fun W go ko H => by
    by_cases h0 : way = 0
    · have e : mulP way a b = fprod (told a) (told b) := by unfold mulP; rw [if_pos (.inl h0)]
      rw [e, h0]
      exact operate_near _ _ ⟨_, rfl⟩ ⟨_, rfl⟩ _ _ _ _ _ W
    · have e : mulP way a b = if (pok a && pok b) = true ∧ prV a b ≠ 0 then rdP way (prV a b) else fprod (told a) (told b) := by
        unfold mulP
        cases hp : (pok a && pok b)
        · have n1 : way = 0 ∨ false = false := .inr rfl
          have n2 : ¬ (false = true ∧ prV a b ≠ 0) := fun q => by cases q.1
          rw [if_pos n1, if_neg n2]
        · have n1 : ¬ (way = 0 ∨ true = false) := fun q => by rcases q with q | q; exact h0 q; cases q
          rw [if_neg n1]
          by_cases h : prV a b ≠ 0
          · have n2 : true = true ∧ prV a b ≠ 0 := ⟨rfl, h⟩
            rw [if_pos h, if_pos n2]
          · have n2 : ¬ (true = true ∧ prV a b ≠ 0) := fun q => h q.2
            rw [if_neg h, if_neg n2]
      rw [e]
      exact opMul way (by omega) _ a b ra rb W go ko H
  generalize mulP way a b = R at CK ⊢
  have hcv := cv64
  have hmf : ∀ (fn : Fn) (first cap : Array Value) (w : World), (Instr.makeFunc fn first cap).run Tryz.prog w = .ok (.func fn first cap) w := fun _ _ _ _ => rfl
  have CF : Hid (∀ W, Calls Tryz.prog 50 #[.int .i64 a] W fun e w' => e = .returned (.float .f64 (wd a)) ∧ w' = W) := fun W => bitsFloat a W
  have CG : Hid (∀ W, Calls Tryz.prog 50 #[.int .i64 b] W fun e w' => e = .returned (.float .f64 (wd b)) ∧ w' = W) := fun W => bitsFloat b W
  have RS : Hid (∀ W, _) := fun W => run_fprod (P := Tryz.prog) 42 (wd_told ra) (wd_told rb) W
  go_enter Tryz.func144, Tryz.ntmps144
  go_wp2_with fail
  refine (double_any _).mono ?_
  rintro _ w1 ⟨rfl, hb1⟩
  obtain ⟨z, w2, hrun, hz, hw2⟩ := RS.out w1
  clear RS
  generalize wd a = x at *
  generalize wd b = y at *
  generalize fprod (told a) (told b) = near at *
  go_wp2_with fail
  refine (CF.out _).mono ?_
  rintro _ _ ⟨rfl, rfl⟩
  go_wp2_with fail
  refine (CG.out _).mono ?_
  rintro _ _ ⟨rfl, rfl⟩
  go_wp2_with fail
  have hb2 : Below w.heap.size w w2 := by rcases hw2 with rfl | rfl; exact hb1; exact hb1.drew
  refine (of_FW hz _).mono ?_
  rintro _ _ ⟨rfl, rfl⟩
  have hb3 := bel_trans hb2 (bel_alloc _ (.cells #[.int .i64 a, .int .i64 b] 3))
  go_wp2_with fail
  refine (CK.out _ _ (heap_a1 _ (.cells #[.int .i64 a, .int .i64 b] 3)) (H.keeps hb3)).mono ?_
  rintro _ w5 ⟨rfl, hb5⟩
  go_wp2
  all_goals refine bodyPost_ret (v := .tuple #[.int .i64 R, .int .i64 0]) (by simp [results, Tryz.results144, go_sem]) rfl ⟨rfl, bel_trans hb3 hb5⟩
end Go.Proofs.YtcpjdgfnblkfpaaGreatDoor
