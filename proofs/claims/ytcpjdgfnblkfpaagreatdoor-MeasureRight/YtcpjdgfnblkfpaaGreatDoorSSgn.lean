/-
  Package span: Sign on any interval, by its contract.
-/
import Derived.Test.YtcpjdgfnblkfpaaGreatDoorSEnd3
import Derived.Test.YtcpjdgfnblkfpaaGreatDoorSAl2
namespace Go.Proofs.YtcpjdgfnblkfpaaGreatDoor
open Go Go.RowKit Go.Proofs.YtcpjdgfnblkfpaaGreatDoor.M
set_option linter.unusedSimpArgs false
set_option linter.unusedVariables false

def sgV (a b : Int) : Int := if vld a b then (if 0 < key a then 1 else if key b < 0 then -1 else 0) else 0
def sgK (a b : Int) : Bool := vld a b && (decide (0 < key a) || (decide (key b < 0) || (decide (key a = 0) && decide (key b = 0))))
theorem ord0 {a : Int} (ha : nn a) : (0 < key a → FloatKind.f64.format.order (wd a) 0 = some .gt) ∧ (key a = 0 → FloatKind.f64.format.order (wd a) 0 = some .eq) ∧ (key a < 0 → FloatKind.f64.format.order (wd a) 0 = some .lt) := by
  have w0 : wd 0 = 0 := by decide
  have k0 : key 0 = 0 := by decide
  refine ⟨fun g => ?_, fun g => ?_, fun g => ?_⟩
  · have := q_gt ha.1 nn0.1.1 ha.2 nn0.1.2 (by rw [k0]; exact g); rw [w0] at this; exact this
  · have := q_eq ha.1 nn0.1.1 ha.2 nn0.1.2 (by rw [k0]; exact g); rw [w0] at this; exact this
  · have := q_lt ha.1 nn0.1.1 ha.2 nn0.1.2 (by rw [k0]; exact g); rw [w0] at this; exact this
set_option maxRecDepth 100000 in
set_option maxHeartbeats 2000000 in
theorem sign_core {a b : Int} (A B : Nat) (v kn : Bool) (n : Int) (er : Int) (w : World)
    (R1 : Hid (∀ W, Calls Tryz.prog 88 #[.agg #[.int .i64 a, .int .i64 b]] W fun e w' => e = .returned (.agg #[.float .f64 A, .float .f64 B]) ∧ Below W.heap.size W w'))
    (V1 : Hid (∀ W, Calls Tryz.prog 89 #[.agg #[.float .f64 A, .float .f64 B]] W fun e w' => e = .returned (.bool v) ∧ Below W.heap.size W w'))
    (O : (v = false ∧ n = 0 ∧ kn = false ∧ er = 1) ∨ (v = true ∧ er = 0 ∧ ((FloatKind.f64.format.order A 0 = some .gt ∧ n = 1 ∧ kn = true) ∨ ((FloatKind.f64.format.order A 0 = some .lt ∨ FloatKind.f64.format.order A 0 = some .eq) ∧ FloatKind.f64.format.order B 0 = some .lt ∧ n = -1 ∧ kn = true) ∨ (FloatKind.f64.format.order A 0 = some .lt ∧ (FloatKind.f64.format.order B 0 = some .gt ∨ FloatKind.f64.format.order B 0 = some .eq) ∧ n = 0 ∧ kn = false) ∨ (FloatKind.f64.format.order A 0 = some .eq ∧ FloatKind.f64.format.order B 0 = some .gt ∧ n = 0 ∧ kn = false) ∨ (FloatKind.f64.format.order A 0 = some .eq ∧ FloatKind.f64.format.order B 0 = some .eq ∧ n = 0 ∧ kn = true)))) :
    Calls Tryz.prog 75 #[.agg #[.int .i64 a, .int .i64 b]] w fun e w' => e = .returned (.tuple #[.int .i64 n, .bool kn, .int .i64 er]) ∧ Below w.heap.size w w' := by
  have hst : ∀ (p : Addr) (n : Nat) (m : Mode) (w : World), (store p (.float .f64 n) m).run Tryz.prog w = stored Tryz.prog w p (.float .f64 n) m := fun p n m w => run_store _ w p _ m rfl
  have QX : ∀ (x : Nat) W, (Op.equalIn 9999 42 (.float .f64 x) (.float .f64 0)).run Tryz.prog W = .ok (FloatKind.f64.format.order x 0 == some .eq) W := fun x W => by rw [run_eqF W 9998 42 _ x 0 Tryz.underlying42]
  have hb := bel_alloc w (.cells #[.int .i64 a, .int .i64 b] 55)
  rcases O with ⟨rfl, rfl, rfl, rfl⟩ | ⟨rfl, rfl, O⟩
  · go_enter Tryz.func75, Tryz.ntmps75
    go_wp2_with fail
    generalize w.alloc (.cells #[.int .i64 a, .int .i64 b] 55) = wx at *
    refine (R1.out _).mono ?_
    rintro _ w1 ⟨rfl, hb1⟩
    have hba := bel_alloc w1 (.cells #[.float .f64 A, .float .f64 B] 98)
    have hg := hl_last w1 (.cells #[.float .f64 A, .float .f64 B] 98) rfl
    go_wp2_with fail
    generalize w1.alloc (.cells #[.float .f64 A, .float .f64 B] 98) = w2 at *
    refine (V1.out _).mono ?_
    rintro _ w3 ⟨rfl, hb2⟩
    go_wp2
    refine bodyPost_ret (v := .tuple #[.int .i64 0, .bool false, .int .i64 1]) (by simp [results, Tryz.results75, go_sem]) rfl ⟨rfl, bel_trans hb (bel_trans hb1 (bel_trans hba hb2))⟩
  · rcases O with ⟨o1, rfl, rfl⟩ | ⟨o1 | o1, o2, rfl, rfl⟩ | ⟨o1, o2 | o2, rfl, rfl⟩ | ⟨o1, o2, rfl, rfl⟩ | ⟨o1, o2, rfl, rfl⟩
    all_goals
      go_enter Tryz.func75, Tryz.ntmps75
      go_wp2_with fail
      generalize w.alloc (.cells #[.int .i64 a, .int .i64 b] 55) = wx at *
      refine (R1.out _).mono ?_
      rintro _ w1 ⟨rfl, hb1⟩
      have hba := bel_alloc w1 (.cells #[.float .f64 A, .float .f64 B] 98)
      have hg := hl_last w1 (.cells #[.float .f64 A, .float .f64 B] 98) rfl
      go_wp2_with fail
      generalize w1.alloc (.cells #[.float .f64 A, .float .f64 B] 98) = w2 at *
      refine (V1.out _).mono ?_
      rintro _ w3 ⟨rfl, hb2⟩
      have hg3 := (hb2.block _ (Array.getElem?_eq_some_iff.1 hg).1).trans hg
      have c0 : w3.cell? ⟨w1.heap.size, 0, none⟩ = some (.float .f64 A) := blkC hg3 0 rfl
      have c1 : w3.cell? ⟨w1.heap.size, 1, none⟩ = some (.float .f64 B) := blkC hg3 1 rfl
      have kd : w3.drew.cell? ⟨w1.heap.size, 0, none⟩ = some (.float .f64 A) ∧ w3.drew.cell? ⟨w1.heap.size, 1, none⟩ = some (.float .f64 B) := ⟨c0, c1⟩
    · go_wp2
      refine bodyPost_ret (v := .tuple #[.int .i64 1, .bool true, .int .i64 0]) (by simp [results, Tryz.results75, go_sem]) rfl ⟨rfl, bel_trans hb (bel_trans hb1 (bel_trans hba hb2))⟩
    iterate 2
      · go_wp2
        refine bodyPost_ret (v := .tuple #[.int .i64 (-1), .bool true, .int .i64 0]) (by simp [results, Tryz.results75, go_sem]) rfl ⟨rfl, bel_trans hb (bel_trans hb1 (bel_trans hba hb2))⟩
    all_goals
      have QA := fun W => QX A W
      have QB := fun W => QX B W
      rw [o1] at QA
      rw [o2] at QB
      clear QX
      go_wp2_with fail
      go_region_held3 (fun W => W.cell? ⟨w1.heap.size, 0, none⟩ = some (.float .f64 A) ∧ W.cell? ⟨w1.heap.size, 1, none⟩ = some (.float .f64 B)) (first | assumption | exact kd) (fail)
      go_wp2
    iterate 3
      · exact bodyPost_ret (v := .tuple #[.int .i64 0, .bool false, .int .i64 0]) (by simp [results, Tryz.results75, go_sem]) rfl ⟨rfl, (bel_trans hb (bel_trans hb1 (bel_trans hba hb2))).drew⟩
    · exact bodyPost_ret (v := .tuple #[.int .i64 0, .bool true, .int .i64 0]) (by simp [results, Tryz.results75, go_sem]) rfl ⟨rfl, (bel_trans hb (bel_trans hb1 (bel_trans hba hb2))).drew⟩
theorem spanSignE {a b : Int} (ha : rng a) (hb : rng b) (w : World) :
    Calls Tryz.prog 75 #[spn a b] w fun e w' => e = .returned (.tuple #[.int .i64 (sgV a b), .bool (sgK a b), .int .i64 (errA (vld a b))]) ∧ Below w.heap.size w w' := by
  refine sign_core (wd a) (wd b) (vld a b) (sgK a b) (sgV a b) (errA (vld a b)) w (fun W => spanRead a b W) (fun W => ivlValid ha hb W) ?_
  cases hv : vld a b
  · left
    unfold sgV sgK errA
    rw [hv]
    simp
  · right
    obtain ⟨va, vb, h1, h2, h3⟩ := vld_iff.1 hv
    obtain ⟨a1, a2, a3⟩ := ord0 ⟨ha, va⟩
    obtain ⟨b1, b2, b3⟩ := ord0 ⟨hb, vb⟩
    refine ⟨rfl, rfl, ?_⟩
    unfold sgV sgK
    rw [hv]
    simp only [if_true, Bool.true_and]
    by_cases p1 : 0 < key a
    · left
      exact ⟨a1 p1, if_pos p1, by simp [p1]⟩
    · right
      have p1' : key a < 0 ∨ key a = 0 := by omega
      by_cases p2 : key b < 0
      · left
        exact ⟨p1'.imp a3 a2, b3 p2, by rw [if_neg p1, if_pos p2], by simp [p2]⟩
      · right
        have q0 : decide (0 < key a) = false := decide_eq_false p1
        have q1 : decide (key b < 0) = false := decide_eq_false p2
        rw [if_neg p1, if_neg p2, q0, q1]
        simp only [Bool.false_or]
        rcases p1' with p3 | p3
        · left
          refine ⟨a3 p3, ?_, by first | rfl | trivial, by rw [decide_eq_false (by omega)]; rfl⟩
          rcases (show 0 < key b ∨ key b = 0 by omega) with q | q
          · exact .inl (b1 q)
          · exact .inr (b2 q)
        · right
          rcases (show 0 < key b ∨ key b = 0 by omega) with q | q
          · left
            exact ⟨a2 p3, b1 q, by first | rfl | trivial, by rw [decide_eq_false (show ¬ key b = 0 by omega)]; simp⟩
          · right
            exact ⟨a2 p3, b2 q, by first | rfl | trivial, by rw [decide_eq_true p3, decide_eq_true q]; rfl⟩
end Go.Proofs.YtcpjdgfnblkfpaaGreatDoor
