/-
  Parts of the proof, one behind another.
-/
import Derived.Test.YtmpioejllfedoaaGreatDoorPart14
import Derived.Test.YtmpioejllfedoaaGreatDoorPart11
import Derived.Test.YtmpioejllfedoaaGreatDoorPart12
/-
  Package round: operations on binary64 in the ways other than Near, by their contracts.
-/
namespace Go.Proofs.YtmpioejllfedoaaGreatDoor
open Go Go.RowKit Go.Proofs.YtmpioejllfedoaaGreatDoor.M
set_option linter.unusedSimpArgs false
set_option linter.unusedVariables false

theorem operate_fin (way : Int) (hw : 1 ≤ way ∧ way ≤ 3) (near : Int) (Rf : Nat) (rc : Array Value) (g n : Nat) (hn : n ≤ 100) (d : Nat → Int) (w : World) (hR : Row w (some ⟨g, 0, none⟩) n n d) (hp : ∀ i, i < n → pok (d i) = true) (H : Hold4 w) (ng : Bool) (mag : Nat) (exp : Int) (cut sd : Bool) (hm : mag < 18446744073709551616) (he : -4500000 ≤ exp ∧ exp ≤ 4500000)
    (hER : ∀ (cap : Array Value) (w : World), (callFunc Rf cap).run Tryz.prog w = .ok (.enter Rf cap) w)
    (CR : ∀ W g q, Below w.heap.size w W → Nums W (some ⟨g, 0, none⟩) n n q → (∀ i, i < n → Nrm (q i).d (q i).n ∧ Dy (patV (d i)) (q i).ng (val (q i).d (q i).n) (q i).e) → Calls Tryz.prog Rf (#[.slice (some ⟨g, 0, none⟩) n n] ++ rc) W fun e w' => e = .returned (.tuple #[valV ng mag exp cut sd, .int .i64 0]) ∧ Below W.heap.size W w') :
    Calls Tryz.prog 110 #[.agg #[.func (.func 21) #[] #[], .func (.func 87) #[] #[]], .int .i64 near, .int .i64 way, .func (.func Rf) #[] rc, .slice (some ⟨g, 0, none⟩) n n] w fun e w' => e = .returned (.tuple #[.int .i64 (opT 0 mag sd (r64 way ng true mag exp cut).1 near), .int .i64 0]) ∧ Below w.heap.size w w' := by
  have hEF : ∀ (cap : Array Value) (w : World), (callFunc 21 cap).run Tryz.prog w = .ok (.enter 21 cap) w := by
    intro cap w
    simp [go_sem]
  have hEG : ∀ (cap : Array Value) (w : World), (callFunc 87 cap).run Tryz.prog w = .ok (.enter 87 cap) w := by
    intro cap w
    simp [go_sem]
  exact operate_go way hw near _ _ Rf rc _ n n w (fun i => patV (d i)) ng mag exp cut sd 0 _ _ hEG hER
    (fun W hb => (values_ok _ _ _ n n d _ W (hR.keeps hb) (by omega) hEF (fun i hi W' hb' => of_ok (hp i hi) ((H.keeps hb).keeps hb'))).mono fun r w' h => by
      obtain ⟨g, q, e1, e2, e3, e4, e5⟩ := h
      exact ⟨g, q, e1, e2, e3, e4, e5⟩)
    CR (fun W hb => binary64_any way (by omega) ng true mag exp cut W (H.keeps hb).env hm he)
theorem operate_inf (way : Int) (hw : 1 ≤ way ∧ way ≤ 3) (near : Int) (Rf : Nat) (rc : Array Value) (g n : Nat) (hn : n ≤ 100) (d : Nat → Int) (w : World) (hR : Row w (some ⟨g, 0, none⟩) n n d) (K : Nat) (hK : K < n) (hp : ∀ i, i < K → pok (d i) = true) (hq : pok (d K) = false) (H : Hold4 w) :
    Calls Tryz.prog 110 #[.agg #[.func (.func 21) #[] #[], .func (.func 87) #[] #[]], .int .i64 near, .int .i64 way, .func (.func Rf) #[] rc, .slice (some ⟨g, 0, none⟩) n n] w fun e w' => e = .returned (.tuple #[.int .i64 near, .int .i64 0]) ∧ Below w.heap.size w w' := by
  have hEF : ∀ (cap : Array Value) (w : World), (callFunc 21 cap).run Tryz.prog w = .ok (.enter 21 cap) w := by
    intro cap w
    simp [go_sem]
  exact operate_not way hw near _ _ Rf rc _ n n w (fun W hb => values_no _ _ _ n n d (fun i => patV (d i)) W (hR.keeps hb) (by omega) K hK hEF (fun i hi W' hb' => of_ok (hp i hi) ((H.keeps hb).keeps hb')) (fun W' hb' => of_no hq ((H.keeps hb).keeps hb')))
end Go.Proofs.YtmpioejllfedoaaGreatDoor

/-
  Package round: the closure of a sum, by its contract.
-/
namespace Go.Proofs.YtmpioejllfedoaaGreatDoor
open Go Go.RowKit Go.Proofs.YtmpioejllfedoaaGreatDoor.M
set_option linter.unusedSimpArgs false
set_option linter.unusedVariables false

end Go.Proofs.YtmpioejllfedoaaGreatDoor

/-
  Package round: sums in all ways, by their contract.
-/
namespace Go.Proofs.YtmpioejllfedoaaGreatDoor
open Go Go.RowKit Go.Proofs.YtmpioejllfedoaaGreatDoor.M
set_option linter.unusedSimpArgs false
set_option linter.unusedVariables false

theorem rowT {w : World} {g : Nat} {a b : Int} (h : w.heap[g]? = some (.cells #[.int .i64 a, .int .i64 b] 3 (0, 0))) : Row w (some ⟨g, 0, none⟩) 2 2 (fun i => if i = 0 then a else b) :=
  ⟨Nat.le_refl _, by decide, (fun h => nomatch h), fun _ => ⟨g, 0, rfl, (Array.getElem?_eq_some_iff.1 h).1, fun i hi => by
    match i, hi with
    | 0, _ => exact blkC h 0 rfl
    | 1, _ => exact blkC h 1 rfl⟩⟩
theorem mag_pos {m : Int} (h : 0 < m) : (m / 2 ^ vK m).toNat ≠ 0 := by
  have hb := blen_pos h
  have hp := two_pos (vK m)
  have h1 : 2 ^ vK m ≤ m := Int.le_trans (two_le (by unfold vK; omega)) hb.2
  have h2 : 1 ≤ m / 2 ^ vK m := by rw [Int.le_ediv_iff_mul_le hp, Int.one_mul]; exact h1
  omega
theorem mag_lt {m : Int} (h : 0 ≤ m) : (m / 2 ^ vK m).toNat < 18446744073709551616 := by
  have := vK_small h
  omega
theorem exp_in {V : Int} {ng : Bool} {m e : Int} (hy : Dy V ng m e) (ok : Dok V) : -4500000 ≤ e + vK m ∧ e + vK m ≤ 4500000 := by
  obtain ⟨h1, h2, h3⟩ := hy.ok.1 ok
  have h4 : blen m ≤ 30 * 2000 := blen_le (by rw [← P_two]; exact h1)
  unfold vK
  omega
theorem opAdd_inf (way : Int) (hw : 1 ≤ way ∧ way ≤ 3) (near a b : Int) (Rf : Nat) (rc : Array Value) (hp : (pok a && pok b) = false) (w : World) (go : Nat) (ko : w.heap[go]? = some (.cells #[.int .i64 a, .int .i64 b] 3 (0, 0))) (H : Hold4 w) :
    Calls Tryz.prog 110 #[.agg #[.func (.func 21) #[] #[], .func (.func 87) #[] #[]], .int .i64 near, .int .i64 way, .func (.func Rf) #[] rc, .slice (some ⟨go, 0, none⟩) 2 2] w fun e w' => e = .returned (.tuple #[.int .i64 near, .int .i64 0]) ∧ Below w.heap.size w w' := by
  cases h1 : pok a
  · exact operate_inf way hw near Rf rc go 2 (by decide) (fun i => if i = 0 then a else b) w (rowT ko) 0 (by decide) (fun i hi => by omega) h1 H
  · rw [h1] at hp
    exact operate_inf way hw near Rf rc go 2 (by decide) (fun i => if i = 0 then a else b) w (rowT ko) 1 (by decide) (fun i hi => by
      obtain rfl : i = 0 := by omega
      exact h1) hp H
end Go.Proofs.YtmpioejllfedoaaGreatDoor

/-
  Package round: Add, Mul in all ways, by their contracts.
-/
namespace Go.Proofs.YtmpioejllfedoaaGreatDoor
open Go Go.RowKit Go.Proofs.YtmpioejllfedoaaGreatDoor.M
set_option linter.unusedSimpArgs false
set_option linter.unusedVariables false

set_option maxRecDepth 100000 in
set_option maxHeartbeats 1000000 in
theorem opMul (way : Int) (hw : 1 ≤ way ∧ way ≤ 3) (near a b : Int) (ra : rng a) (rb : rng b) (w : World) (go : Nat) (ko : w.heap[go]? = some (.cells #[.int .i64 a, .int .i64 b] 3 (0, 0))) (H : Hold4 w) :
    Calls Tryz.prog 110 #[.agg #[.func (.func 21) #[] #[], .func (.func 87) #[] #[]], .int .i64 near, .int .i64 way, .func (.func 111) #[] #[], .slice (some ⟨go, 0, none⟩) 2 2] w fun e w' => e = .returned (.tuple #[.int .i64 (if (pok a && pok b) = true ∧ prV a b ≠ 0 then rdP way (prV a b) else near), .int .i64 0]) ∧ Below w.heap.size w w' := by
  have hER : ∀ (cap : Array Value) (w : World), (callFunc 111 cap).run Tryz.prog w = .ok (.enter 111 cap) w := by
    intro cap w
    simp [go_sem]
  cases hpp : (pok a && pok b)
  · have n1 : ¬ (false = true ∧ prV a b ≠ 0) := fun q => by cases q.1
    rw [if_neg n1]
    exact opAdd_inf way hw near a b _ _ hpp w go ko H
  · simp only [Bool.and_eq_true] at hpp
    obtain ⟨pa, pb⟩ := hpp
    obtain ⟨_, _, _, _, hC⟩ := prV_parts ra rb pa pb
    have ok : Dok (prV a b) := ((patV_bd pa).mul (patV_bd pb) hC (by omega)).ok (by omega)
    obtain ⟨ng, m, e, hy, hm⟩ := id ok
    clear hm
    have hp : ∀ i, i < 2 → pok (if i = 0 then a else b) = true := fun i hi => by split <;> assumption
    have := operate_fin way hw near _ #[] go 2 (by decide) (fun i => if i = 0 then a else b) w (rowT ko) hp H ng _ _ _ false (mag_lt hy.nonneg) (exp_in hy ok) hER (fun W g q hb hN hf => product_D g W q (patV a) (patV b) (prV a b) ng m e hN (nums_D hN hf 0 (by decide)) (nums_D hN hf 1 (by decide)) (patV_dok pa) (patV_dok pb) hC ok hy (H.keeps hb).tab)
    have hA : (if true = true ∧ prV a b ≠ 0 then rdP way (prV a b) else near) = opT 0 (m / 2 ^ vK m).toNat false (r64 way ng true (m / 2 ^ vK m).toNat (e + vK m) (decide (m % 2 ^ vK m ≠ 0))).1 near := by
      unfold opT
      by_cases h0 : prV a b = 0
      · have hm0 := hy.eq_zero.1 h0
        have n1 : ¬ (true = true ∧ prV a b ≠ 0) := fun q => q.2 h0
        have n3 : (0 : Int) ≠ 0 ∨ ((m / 2 ^ vK m).toNat = 0 ∧ false = false) := .inr ⟨by rw [hm0, Int.zero_ediv]; rfl, rfl⟩
        rw [if_neg n1, if_pos n3]
      · have hm0 : 0 < m := by
          have := hy.nonneg
          have : m ≠ 0 := fun q => h0 (hy.eq_zero.2 q)
          omega
        have n1 : true = true ∧ prV a b ≠ 0 := ⟨rfl, h0⟩
        have n3 : ¬ ((0 : Int) ≠ 0 ∨ ((m / 2 ^ vK m).toNat = 0 ∧ false = false)) := fun q => by
          rcases q with q | q
          · exact q rfl
          · exact mag_pos hm0 q.1
        rw [if_pos n1, if_neg n3, r64_dy hy h0 (by have := (hy.ok.1 ok).2.1; omega)]
    rw [hA]
    exact this
set_option maxRecDepth 100000 in
set_option maxHeartbeats 1000000 in
theorem mul_A {a b way : Int} {w : World} (ra : rng a) (rb : rng b) (hw : 0 ≤ way ∧ way ≤ 3) (H : Hold4 w) :
    Calls Tryz.prog 98 #[.int .i64 a, .int .i64 b, .int .i64 way] w fun e w' => e = .returned (.tuple #[.int .i64 (mulP way a b), .int .i64 0]) ∧ Below w.heap.size w w' := by
  have CK : Hid (∀ W go, W.heap[go]? = some (.cells #[.int .i64 a, .int .i64 b] 3 (0, 0)) → Hold4 W → Calls Tryz.prog 110 #[.agg #[.func (.func 21) #[] #[], .func (.func 87) #[] #[]], .int .i64 (fprod (told a) (told b)), .int .i64 way, .func (.func 111) #[] #[], .slice (some ⟨go, 0, none⟩) 2 2] W fun e w' => e = .returned (.tuple #[.int .i64 (mulP way a b), .int .i64 0]) ∧ Below W.heap.size W w') := fun W go ko H => by
    by_cases h0 : way = 0
    · have e : mulP way a b = fprod (told a) (told b) := by unfold mulP; rw [if_pos (.inl h0)]
      rw [e, h0]
      exact operate_near _ _ ⟨_, rfl⟩ ⟨_, rfl⟩ _ _ _ _ _ W
    · have e : mulP way a b = if (pok a && pok b) = true ∧ prV a b ≠ 0 then rdP way (prV a b) else fprod (told a) (told b) := by
        unfold mulP
        cases hp : (pok a && pok b)
        · have n1 : way = 0 ∨ false = false := .inr rfl
          have n2 : ¬ (false = true ∧ prV a b ≠ 0) := fun q => by cases q.1
          rw [if_pos n1, if_neg n2]
        · have n1 : ¬ (way = 0 ∨ true = false) := fun q => by rcases q with q | q; exact h0 q; cases q
          rw [if_neg n1]
          by_cases h : prV a b ≠ 0
          · have n2 : true = true ∧ prV a b ≠ 0 := ⟨rfl, h⟩
            rw [if_pos h, if_pos n2]
          · have n2 : ¬ (true = true ∧ prV a b ≠ 0) := fun q => h q.2
            rw [if_neg h, if_neg n2]
      rw [e]
      exact opMul way (by omega) _ a b ra rb W go ko H
  generalize mulP way a b = R at CK ⊢
  have hcv := cv64
  have hmf : ∀ (fn : Fn) (first cap : Array Value) (w : World), (Instr.makeFunc fn first cap).run Tryz.prog w = .ok (.func fn first cap) w := fun _ _ _ _ => rfl
  have CF : Hid (∀ W, Calls Tryz.prog 67 #[.int .i64 a] W fun e w' => e = .returned (.float .f64 (wd a)) ∧ w' = W) := fun W => bitsFloat a W
  have CG : Hid (∀ W, Calls Tryz.prog 67 #[.int .i64 b] W fun e w' => e = .returned (.float .f64 (wd b)) ∧ w' = W) := fun W => bitsFloat b W
  have RS : Hid (∀ W, _) := fun W => run_fprod (P := Tryz.prog) 59 (wd_told ra) (wd_told rb) W
  go_enter Tryz.func98, Tryz.ntmps98
  go_wp2_with fail
  refine (double_any _).mono ?_
  rintro _ w1 ⟨rfl, hb1⟩
  obtain ⟨z, w2, hrun, hz, hw2⟩ := RS.out w1
  clear RS
  generalize wd a = x at *
  generalize wd b = y at *
  generalize fprod (told a) (told b) = near at *
  go_wp2_with fail
  refine (CF.out _).mono ?_
  rintro _ _ ⟨rfl, rfl⟩
  go_wp2_with fail
  refine (CG.out _).mono ?_
  rintro _ _ ⟨rfl, rfl⟩
  go_wp2_with fail
  have hb2 : Below w.heap.size w w2 := by rcases hw2 with rfl | rfl; exact hb1; exact hb1.drew
  refine (of_FW hz _).mono ?_
  rintro _ _ ⟨rfl, rfl⟩
  have hb3 := bel_trans hb2 (bel_alloc _ (.cells #[.int .i64 a, .int .i64 b] 3))
  go_wp2_with fail
  refine (CK.out _ _ (heap_a1 _ (.cells #[.int .i64 a, .int .i64 b] 3)) (H.keeps hb3)).mono ?_
  rintro _ w5 ⟨rfl, hb5⟩
  go_wp2
  all_goals refine bodyPost_ret (v := .tuple #[.int .i64 R, .int .i64 0]) (by simp [results, Tryz.results98, go_sem]) rfl ⟨rfl, bel_trans hb3 hb5⟩
end Go.Proofs.YtmpioejllfedoaaGreatDoor

/-
  Package span: deepProduct, product, by their contracts.
-/
namespace Go.Proofs.YtmpioejllfedoaaGreatDoor
open Go Go.RowKit Go.Proofs.YtmpioejllfedoaaGreatDoor.M
set_option linter.unusedSimpArgs false
set_option linter.unusedVariables false

/-- Two floats are stored into a result's block. -/
theorem fin2 {w w3 : World} (h3 : Below (w.alloc (.cells #[.float .f64 0, .float .f64 0] 61)).heap.size (w.alloc (.cells #[.float .f64 0, .float .f64 0] 61)) w3) (U V : Nat) :
    (store ⟨w.heap.size, 0, none⟩ (.float .f64 U)).run Tryz.prog w3 = .ok () (w3.setCell ⟨w.heap.size, 0, none⟩ (.float .f64 U)) ∧ (store ⟨w.heap.size, 1, none⟩ (.float .f64 V)).run Tryz.prog (w3.setCell ⟨w.heap.size, 0, none⟩ (.float .f64 U)) = .ok () ((w3.setCell ⟨w.heap.size, 0, none⟩ (.float .f64 U)).setCell ⟨w.heap.size, 1, none⟩ (.float .f64 V)) ∧ ((w3.setCell ⟨w.heap.size, 0, none⟩ (.float .f64 U)).setCell ⟨w.heap.size, 1, none⟩ (.float .f64 V)).cell? ⟨w.heap.size, 0, none⟩ = some (.float .f64 U) ∧ ((w3.setCell ⟨w.heap.size, 0, none⟩ (.float .f64 U)).setCell ⟨w.heap.size, 1, none⟩ (.float .f64 V)).cell? ⟨w.heap.size, 1, none⟩ = some (.float .f64 V) ∧ Below w.heap.size w ((w3.setCell ⟨w.heap.size, 0, none⟩ (.float .f64 U)).setCell ⟨w.heap.size, 1, none⟩ (.float .f64 V)) := by
  have hg := q_heap_last w (.cells #[.float .f64 0, .float .f64 0] 61)
  have hba := bel_alloc w (.cells #[.float .f64 0, .float .f64 0] 61)
  have d2 := (h3.block _ (Array.getElem?_eq_some_iff.1 hg).1).trans hg
  have d3 := q_heap_set d2 0 (.float .f64 U)
  have d4 := q_heap_set d3 1 (.float .f64 V)
  have f0 := blkC d2 0 rfl
  have z0 := blkF d2 0
  have f1 := blkC d3 1 rfl
  have z1 := blkF d3 1
  refine ⟨?_, ?_, blkC d4 0 rfl, blkC d4 1 rfl, ?_⟩
  · rw [run_store _ _ _ _ _ rfl, f0]; simp only [z0]; rfl
  · rw [run_store _ _ _ _ _ rfl, f1]; simp only [z1]; rfl
  · exact ((bel_trans hba h3).setCell (p := ⟨w.heap.size, 0, none⟩) (Nat.le_refl _) _).setCell (p := ⟨w.heap.size, 1, none⟩) (Nat.le_refl _) _
set_option maxRecDepth 100000 in
set_option maxHeartbeats 1000000 in
theorem deepProd_any {a b : Int} (ra : rng a) (rb : rng b) (w : World) (H : Hold4 w) :
    Calls Tryz.prog 82 #[.int .i64 a, .int .i64 b] w fun e w' => e = .returned (ivl (mulP 1 a b) (mulP 2 a b)) ∧ Below w.heap.size w w' := by
  have C1 : Hid (∀ W, Hold4 W → Calls Tryz.prog 98 #[.int .i64 a, .int .i64 b, .int .i64 1] W fun e w' => e = .returned (.tuple #[.int .i64 (mulP 1 a b), .int .i64 0]) ∧ Below W.heap.size W w') := fun W h => mul_A ra rb (by omega) h
  have C2 : Hid (∀ W, Hold4 W → Calls Tryz.prog 98 #[.int .i64 a, .int .i64 b, .int .i64 2] W fun e w' => e = .returned (.tuple #[.int .i64 (mulP 2 a b), .int .i64 0]) ∧ Below W.heap.size W w') := fun W h => mul_A ra rb (by omega) h
  unfold ivl
  generalize mulP 1 a b = l at *
  generalize mulP 2 a b = h at *
  have hba := bel_alloc w (.cells #[.float .f64 0, .float .f64 0] 61)
  go_enter Tryz.func82, Tryz.ntmps82
  go_wp2_with fail
  refine (C1.out _ (H.keeps hba)).mono ?_
  rintro _ w1 ⟨rfl, hb1⟩
  have hw1 := bel_trans hba hb1
  go_wp2_with fail
  refine (C2.out _ (H.keeps hw1)).mono ?_
  rintro _ w2 ⟨rfl, hb2⟩
  have hb3 := bel_trans hb1 hb2
  obtain ⟨s0, s1, e0, e1, hbe⟩ := fin2 hb3 (wd l) (wd h)
  have CF : Hid (∀ W, Calls Tryz.prog 67 #[.int .i64 l] W fun e w' => e = .returned (.float .f64 (wd l)) ∧ w' = W) := fun W => bitsFloat l W
  have CG : Hid (∀ W, Calls Tryz.prog 67 #[.int .i64 h] W fun e w' => e = .returned (.float .f64 (wd h)) ∧ w' = W) := fun W => bitsFloat h W
  go_wp2_with fail
  refine (CF.out _).mono ?_
  rintro _ wz ⟨rfl, hwz⟩
  replace hwz := hwz.symm
  subst hwz
  go_wp2_with fail
  refine (CG.out _).mono ?_
  rintro _ wz ⟨rfl, hwz⟩
  replace hwz := hwz.symm
  subst hwz
  go_wp2
  refine bodyPost_ret (v := .agg #[.float .f64 (wd l), .float .f64 (wd h)]) (by simp [results, Tryz.results82, go_sem, e0, e1]) rfl ⟨rfl, hbe⟩
/-- The model's product where it is a number. -/
theorem run_prodN {P : Program} (t : TypeId) {p q : Int} {x y : Nat} (hx : FW p x) (hy : FW q y) (h : cls (fprod p q) ≠ 4) (w : World) : (binOp .mul t (.float .f64 x) (.float .f64 y)).run P w = .ok (.float .f64 (wd (fprod p q))) w := by
  obtain ⟨z, w', hrun, hz⟩ := run_farith (P := P) .mul (.inr (.inr (.inl rfl))) t x y w
  have hf : floatBits .mul .f64 x y = Ieee.double.mul x y := rfl
  rw [hf] at hz
  rcases mul_FW hx hy with ⟨z', e1, e2⟩ | ⟨_, e2⟩
  · rcases hz with ⟨h1, h2⟩ | ⟨h1, _⟩
    · rw [e1] at h1
      cases h1
      rw [hrun, h2, (e2.of h).2.1]
    · rw [e1] at h1; cases h1
  · exact absurd (by rw [e2]; decide) h
theorem key_pos0 {p : Int} (h : nn p) (h0 : rg p ≠ 0) : FloatKind.f64.format.order (wd p) 0 = some .lt ∨ FloatKind.f64.format.order (wd p) 0 = some .gt := by
  have n0 := nn0.1
  have w0 : wd 0 = 0 := by decide
  have k0 : key 0 = 0 := by decide
  have hk : key p ≠ 0 := by
    have := nn_rg h
    unfold key
    unfold rg at h0 this
    split at h0 <;> simp_all <;> omega
  rcases Int.lt_or_gt_of_ne hk with q | q
  · left
    have := q_lt h.1 n0.1 h.2 n0.2 (by rw [k0]; exact q)
    rwa [w0] at this
  · right
    have := q_gt h.1 n0.1 h.2 n0.2 (by rw [k0]; exact q)
    rwa [w0] at this
theorem key_zero0 {p : Int} (h : nn p) (h0 : rg p = 0) : FloatKind.f64.format.order (wd p) 0 = some .eq := by
  have n0 := nn0.1
  have w0 : wd 0 = 0 := by decide
  have k0 : key 0 = 0 := by decide
  have hk : key p = 0 := by
    unfold key
    unfold rg at h0
    split at h0 <;> simp_all
  have := q_eq h.1 n0.1 h.2 n0.2 (by rw [k0]; exact hk)
  rwa [w0] at this
set_option maxRecDepth 100000 in
set_option maxHeartbeats 1000000 in
theorem product_zero {p q : Int} (hp : nn p) (hq : nn q) (h0 : rg p = 0 ∨ rg q = 0) (w : World) :
    Calls Tryz.prog 66 #[.float .f64 (wd p), .float .f64 (wd q)] w fun e w' => e = .returned (ivl 0 0) ∧ Below w.heap.size w w' := by
  have hcv := cv64
  have w0 : wd 0 = 0 := by decide
  unfold ivl
  rw [w0]
  have hba := bel_alloc w (.cells #[.float .f64 0, .float .f64 0] 61)
  obtain ⟨z, w1, hrun, hz, hw1⟩ := run_fprod (P := Tryz.prog) 59 (FW.pat hp.2 hp.1) (FW.pat hq.2 hq.1) (w.alloc (.cells #[.float .f64 0, .float .f64 0] 61))
  have hb1 : Below (w.alloc (.cells #[.float .f64 0, .float .f64 0] 61)).heap.size (w.alloc (.cells #[.float .f64 0, .float .f64 0] 61)) w1 := by
    rcases hw1 with rfl | rfl
    · exact bel_refl _
    · exact (bel_refl _).drew
  obtain ⟨s0, s1, e0, e1, hbe⟩ := fin2 hb1 0 0
  by_cases hp0 : rg p = 0
  · have o := key_zero0 hp hp0
    generalize wd p = x at *
    generalize wd q = y at *
    clear hw1
    go_enter Tryz.func66, Tryz.ntmps66
    go_wp2
    refine bodyPost_ret (v := .agg #[.float .f64 0, .float .f64 0]) (by simp [results, Tryz.results66, go_sem, e0, e1]) rfl ⟨rfl, hbe⟩
  · have hq0 : rg q = 0 := by omega
    have o2 := key_zero0 hq hq0
    rcases key_pos0 hp hp0 with o | o
    all_goals
      generalize wd p = x at *
      generalize wd q = y at *
      clear hw1
      go_enter Tryz.func66, Tryz.ntmps66
      go_wp2
      refine bodyPost_ret (v := .agg #[.float .f64 0, .float .f64 0]) (by simp [results, Tryz.results66, go_sem, e0, e1]) rfl ⟨rfl, hbe⟩
set_option maxRecDepth 100000 in
set_option maxHeartbeats 1000000 in
theorem product_deep {p q : Int} (hp : nn p) (hq : nn q) (p0 : rg p ≠ 0) (q0 : rg q ≠ 0) (hn : nn (fprod p q)) (hd : rg (fprod p q) < 283726776524341248) (w : World) (H : Hold4 w) :
    Calls Tryz.prog 66 #[.float .f64 (wd p), .float .f64 (wd q)] w fun e w' => e = .returned (ivl (mulP 1 p q) (mulP 2 p q)) ∧ Below w.heap.size w w' := by
  have hcv := cv64
  have hba := bel_alloc w (.cells #[.float .f64 0, .float .f64 0] 61)
  have CD : Hid (∀ W, Hold4 W → Calls Tryz.prog 82 #[.int .i64 p, .int .i64 q] W fun e w' => e = .returned (.agg #[.float .f64 (wd (mulP 1 p q)), .float .f64 (wd (mulP 2 p q))]) ∧ Below W.heap.size W w') := fun W h => deepProd_any hp.1 hq.1 W h
  have CP : Hid (∀ W, Calls Tryz.prog 69 #[.float .f64 (wd p)] W fun e w' => e = .returned (.int .i64 p) ∧ w' = W) := fun W => of_FW (FW.pat hp.2 hp.1) W
  have CQ : Hid (∀ W, Calls Tryz.prog 69 #[.float .f64 (wd q)] W fun e w' => e = .returned (.int .i64 q) ∧ w' = W) := fun W => of_FW (FW.pat hq.2 hq.1) W
  have CA : Hid (∀ W, Calls Tryz.prog 80 #[.float .f64 (wd (fprod p q))] W fun e w' => e = .returned (.float .f64 (wd (rg (fprod p q)))) ∧ w' = W) := fun W => mathAbs hn.1 W
  have hrun : ∀ W, (binOp .mul 59 (.float .f64 (wd p)) (.float .f64 (wd q))).run Tryz.prog W = .ok (.float .f64 (wd (fprod p q))) W := fun W => run_prodN _ (FW.pat hp.2 hp.1) (FW.pat hq.2 hq.1) hn.2 W
  have od : FloatKind.f64.format.order (wd (rg (fprod p q))) 283726776524341248 = some .lt := by
    obtain ⟨a1, a2⟩ := q_rg hn.1
    have ca : ¬ cls (rg (fprod p q)) = 4 := by rw [q_cls hn.1]; exact hn.2
    have := q_lt a1 (show rng 283726776524341248 by unfold rng; omega) ca (by decide) (by rw [q_key a2, show key 283726776524341248 = 283726776524341248 by decide]; exact hd)
    rwa [show wd 283726776524341248 = 283726776524341248 by decide] at this
  have o1 := key_pos0 hp p0
  have o2 := key_pos0 hq q0
  unfold ivl
  generalize wd (mulP 1 p q) = U at *
  generalize wd (mulP 2 p q) = V at *
  generalize wd (rg (fprod p q)) = A at *
  generalize wd (fprod p q) = N at *
  generalize wd p = x at *
  generalize wd q = y at *
  rcases o1 with o1 | o1 <;> rcases o2 with o2 | o2
  all_goals
    go_enter Tryz.func66, Tryz.ntmps66
    go_wp2_with fail
    refine (CA.out _).mono ?_
    rintro _ wz ⟨rfl, hwz⟩
    replace hwz := hwz.symm
    subst hwz
    go_wp2_with fail
    refine (CP.out _).mono ?_
    rintro _ wz ⟨rfl, hwz⟩
    replace hwz := hwz.symm
    subst hwz
    go_wp2_with fail
    refine (CQ.out _).mono ?_
    rintro _ wz ⟨rfl, hwz⟩
    replace hwz := hwz.symm
    subst hwz
    go_wp2_with fail
    refine (CD.out _ (H.keeps hba)).mono ?_
    rintro _ w3 ⟨rfl, hb3⟩
    obtain ⟨s0, s1, e0, e1, hbe⟩ := fin2 hb3 U V
    go_wp2
    refine bodyPost_ret (v := .agg #[.float .f64 U, .float .f64 V]) (by simp [results, Tryz.results66, go_sem, e0, e1]) rfl ⟨rfl, hbe⟩
set_option maxRecDepth 100000 in
set_option maxHeartbeats 1000000 in
theorem product_be {p q : Int} (hp : nn p) (hq : nn q) (p0 : rg p ≠ 0) (q0 : rg q ≠ 0) (hn : nn (fprod p q)) (hd : 283726776524341248 ≤ rg (fprod p q)) (w : World) :
    Calls Tryz.prog 66 #[.float .f64 (wd p), .float .f64 (wd q)] w fun e w' => e = .returned (ivl (beLo (fprod p q) (ffma p q (neg (fprod p q)))) (beHi (fprod p q) (ffma p q (neg (fprod p q))))) ∧ Below w.heap.size w w' := by
  have hcv := cv64
  have hba := bel_alloc w (.cells #[.float .f64 0, .float .f64 0] 61)
  have CA : Hid (∀ W, Calls Tryz.prog 80 #[.float .f64 (wd (fprod p q))] W fun e w' => e = .returned (.float .f64 (wd (rg (fprod p q)))) ∧ w' = W) := fun W => mathAbs hn.1 W
  have hrun : ∀ W, (binOp .mul 59 (.float .f64 (wd p)) (.float .f64 (wd q))).run Tryz.prog W = .ok (.float .f64 (wd (fprod p q))) W := fun W => run_prodN _ (FW.pat hp.2 hp.1) (FW.pat hq.2 hq.1) hn.2 W
  have hneg : ∀ W, (Op.unary UnOp.neg (.float .f64 (wd (fprod p q)))).run Tryz.prog W = .ok (.float .f64 (wd (neg (fprod p q)))) W := fun W => run_negF hn W
  have nm := (nn_neg hn).1
  obtain ⟨L, w1, rF, hL, hw1⟩ := run_ffma (FW.pat hp.2 hp.1) (FW.pat hq.2 hq.1) (FW.pat nm.2 nm.1) (w.alloc (.cells #[.float .f64 0, .float .f64 0] 61))
  have hb1 : Below (w.alloc (.cells #[.float .f64 0, .float .f64 0] 61)).heap.size (w.alloc (.cells #[.float .f64 0, .float .f64 0] 61)) w1 := by
    rcases hw1 with rfl | rfl
    · exact bel_refl _
    · exact (bel_refl _).drew
  have CB : Hid (∀ W, Calls Tryz.prog 81 #[.float .f64 (wd (fprod p q)), .float .f64 L] W fun e w' => e = .returned (.agg #[.float .f64 (wd (beLo (fprod p q) (ffma p q (neg (fprod p q))))), .float .f64 (wd (beHi (fprod p q) (ffma p q (neg (fprod p q)))))]) ∧ Below W.heap.size W w') := fun W => beside_any hn hL W
  have od : FloatKind.f64.format.order (wd (rg (fprod p q))) 283726776524341248 = some .gt ∨ FloatKind.f64.format.order (wd (rg (fprod p q))) 283726776524341248 = some .eq := by
    obtain ⟨a1, a2⟩ := q_rg hn.1
    have ca : ¬ cls (rg (fprod p q)) = 4 := by rw [q_cls hn.1]; exact hn.2
    have w9 : wd 283726776524341248 = 283726776524341248 := by decide
    have k9 : key 283726776524341248 = 283726776524341248 := by decide
    by_cases e : rg (fprod p q) = 283726776524341248
    · right
      have := q_eq a1 (show rng 283726776524341248 by unfold rng; omega) ca (by decide) (by rw [q_key a2, k9]; exact e)
      rwa [w9] at this
    · left
      have := q_gt a1 (show rng 283726776524341248 by unfold rng; omega) ca (by decide) (by rw [q_key a2, k9]; omega)
      rwa [w9] at this
  have o1 := key_pos0 hp p0
  have o2 := key_pos0 hq q0
  unfold ivl
  generalize wd (beLo (fprod p q) (ffma p q (neg (fprod p q)))) = U at *
  generalize wd (beHi (fprod p q) (ffma p q (neg (fprod p q)))) = V at *
  generalize wd (rg (fprod p q)) = A at *
  generalize wd (neg (fprod p q)) = M at *
  generalize wd (fprod p q) = N at *
  generalize wd p = x at *
  generalize wd q = y at *
  clear hw1 hL hd
  rcases o1 with o1 | o1 <;> rcases o2 with o2 | o2 <;> rcases od with od | od
  all_goals
    go_enter Tryz.func66, Tryz.ntmps66
    go_wp2_with fail
    refine (CA.out _).mono ?_
    rintro _ wz ⟨rfl, hwz⟩
    replace hwz := hwz.symm
    subst hwz
    go_wp2_with fail
    refine (CB.out _).mono ?_
    rintro _ w3 ⟨rfl, hb3⟩
    obtain ⟨s0, s1, e0, e1, hbe⟩ := fin2 (bel_trans hb1 hb3) U V
    go_wp2
    refine bodyPost_ret (v := .agg #[.float .f64 U, .float .f64 V]) (by simp [results, Tryz.results66, go_sem, e0, e1]) rfl ⟨rfl, hbe⟩
end Go.Proofs.YtmpioejllfedoaaGreatDoor

/-
  Package span: product of any two ends, by its contract.
-/
namespace Go.Proofs.YtmpioejllfedoaaGreatDoor
open Go Go.RowKit Go.Proofs.YtmpioejllfedoaaGreatDoor.M
set_option linter.unusedSimpArgs false
set_option linter.unusedVariables false

theorem mulP_dir {p q way : Int} (rp : rng p) (rq : rng q) (hp : pok p = true) (hq : pok q = true) (h : prV p q ≠ 0) (hw : way ≠ 0) : mulP way p q = rdP way (prV p q) := by
  unfold mulP
  have n1 : ¬ (way = 0 ∨ (pok p && pok q) = false) := fun k => by
    rcases k with k | k
    · exact hw k
    · rw [hp, hq] at k; cases k
  rw [if_neg n1, if_pos h]
theorem prLo_nn {p q : Int} (hp : nn p) (hq : nn q) : nn (prLo p q) ∧ nn (prHi p q) := by
  unfold prLo prHi
  by_cases h0 : rg p = 0 ∨ rg q = 0
  · rw [if_pos h0, if_pos h0]; exact ⟨nn0.1, nn0.1⟩
  · rw [if_neg h0, if_neg h0]
    by_cases hi : rg p = 9218868437227405312 ∨ rg q = 9218868437227405312
    · rw [if_pos hi, if_pos hi]; exact ⟨patS_nn (by decide) (by decide), patS_nn (by decide) (by decide)⟩
    · rw [if_neg hi, if_neg hi]
      have pp := rg_pat0 hp (fun k => hi (.inl k))
      have pq := rg_pat0 hq (fun k => hi (.inr k))
      have hz := prV_nz hp.1 hq.1 pp pq (fun k => h0 (.inl k)) (fun k => h0 (.inr k))
      exact ⟨⟨(rdP_pat 1 hz).1, (rdP_pat 1 hz).2⟩, ⟨(rdP_pat 2 hz).1, (rdP_pat 2 hz).2⟩⟩
theorem spProduct {p q : Int} (hp : nn p) (hq : nn q) (w : World) (H : Hold4 w) :
    Calls Tryz.prog 66 #[.float .f64 (wd p), .float .f64 (wd q)] w fun e w' => e = .returned (ivl (prLo p q) (prHi p q)) ∧ Below w.heap.size w w' := by
  by_cases h0 : rg p = 0 ∨ rg q = 0
  · have e1 : prLo p q = 0 := by unfold prLo; rw [if_pos h0]
    have e2 : prHi p q = 0 := by unfold prHi; rw [if_pos h0]
    rw [e1, e2]
    exact product_zero hp hq h0 w
  · have p0 : rg p ≠ 0 := fun k => h0 (.inl k)
    have q0 : rg q ≠ 0 := fun k => h0 (.inr k)
    by_cases hi : rg p = 9218868437227405312 ∨ rg q = 9218868437227405312
    · obtain ⟨f1, f2⟩ := pr_infE hp hq p0 q0 hi
      have hn : nn (fprod p q) := by rw [f1]; exact patS_nn (by decide) (by decide)
      have hd : 283726776524341248 ≤ rg (fprod p q) := by rw [f1, (patS_parts (by decide) (by decide)).2.1]; decide
      have := product_be hp hq p0 q0 hn hd w
      rw [f2, f1] at this
      have e1 : prLo p q = patS (xsg p q) 9218868437227405312 := by unfold prLo; rw [if_neg h0, if_pos hi]
      have e2 : prHi p q = patS (xsg p q) 9218868437227405312 := by unfold prHi; rw [if_neg h0, if_pos hi]
      have b1 : beLo (patS (xsg p q) 9218868437227405312) 9221120237041090561 = patS (xsg p q) 9218868437227405312 := by unfold beLo; rw [show less 9221120237041090561 0 = false by decide]; rfl
      have b2 : beHi (patS (xsg p q) 9218868437227405312) 9221120237041090561 = patS (xsg p q) 9218868437227405312 := by unfold beHi; rw [show less 9221120237041090561 0 = false by decide, show less 0 9221120237041090561 = false by decide]; rfl
      rw [b1, b2] at this
      rw [e1, e2]
      exact this
    · have pp := rg_pat0 hp (fun k => hi (.inl k))
      have pq := rg_pat0 hq (fun k => hi (.inr k))
      have hz := prV_nz hp.1 hq.1 pp pq p0 q0
      have e1 : prLo p q = rdP 1 (prV p q) := by unfold prLo; rw [if_neg h0, if_neg hi]
      have e2 : prHi p q = rdP 2 (prV p q) := by unfold prHi; rw [if_neg h0, if_neg hi]
      have hN := fprod_fin hp.1 hq.1 pp pq hz
      have hn : nn (fprod p q) := by rw [hN]; exact ⟨(nearP_pat hz).1, (nearP_pat hz).2⟩
      rw [e1, e2]
      by_cases hd : rg (fprod p q) < 283726776524341248
      · have := product_deep hp hq p0 q0 hn hd w H
        rwa [mulP_dir hp.1 hq.1 pp pq hz (by decide), mulP_dir hp.1 hq.1 pp pq hz (by decide)] at this
      · have := product_be hp hq p0 q0 hn (by omega) w
        obtain ⟨b1, b2⟩ := pr_fin hp.1 hq.1 pp pq p0 q0 (by omega)
        rwa [b1, b2] at this
end Go.Proofs.YtmpioejllfedoaaGreatDoor
