/-
  What the laws SpanHolds and SpanLess want of span's calls: each answer holds the number; plumblaw8's has, by its contract (tools/s_lw.py).
-/
import Derived.Test.YtcpjdgfnblkfpaaGreatDoorSSgn
import Derived.Test.YtcpjdgfnblkfpaaGreatDoorSOps5
import Derived.Test.YtcpjdgfnblkfpaaGreatDoorSTg
import Derived.Test.YtcpjdgfnblkfpaaGreatDoorSAl
namespace Go.Proofs.YtcpjdgfnblkfpaaGreatDoor
open Go Go.RowKit Go.Proofs.YtcpjdgfnblkfpaaGreatDoor.M
set_option linter.unusedSimpArgs false
set_option linter.unusedVariables false

/-- An interval in its own form that holds a number. -/
structure Okk (c d V : Int) : Prop where
  lo : nn c
  hi : nn d
  cl : canon c = c
  ch : canon d = d
  ok : vld c d = true
  kl : key c ≤ key (cLo V)
  kh : key (cHi V) ≤ key d
theorem Holds.okk {e f : En} {V : Int} (h : Holds e f V) : Okk (eLo e) (eHi f) V :=
  ⟨(e_nn e).1, (e_nn f).2, (e_canon e).1, (e_canon f).2, h.vld, h.keys.1, h.keys.2⟩
theorem mulS_of {A B C : Int} (h : C * 2 ^ 4194304 = A * B) : C = mulS A B := by
  unfold mulS
  rw [← h]
  exact (Int.mul_ediv_cancel _ (Int.ne_of_gt (two_pos _))).symm
/-- Two ends that hold a number. -/
structure Pin2 (s t x : Int) : Prop where
  lo : nn s
  hi : nn t
  h : Holds (eOf s) (eOf t) x
theorem Pin2.v {s t x : Int} (h : Pin2 s t x) : vld s t = true := h.h.vldP h.lo h.hi
theorem Pin2.of {lo hi b : Int} (rb : rng b) (pb : pok b = true) (h1 : nn lo ∧ key lo ≤ key b) (h2 : nn hi ∧ key b ≤ key hi) : Pin2 lo hi (patV b) :=
  ⟨h1.1, h2.1, Holds.of h1.1 h2.1 ⟨rb, pok_clsF rb pb⟩ pb h1.2 h2.2⟩
theorem add_has {a b c d x y : Int} (s : Pin2 a b x) (t : Pin2 c d y) : ∃ p q : Int, Hid (∀ W, Hold4 W → Calls Tryz.prog 37 #[.agg #[.int .i64 a, .int .i64 b], .agg #[.int .i64 c, .int .i64 d]] W fun e w' => e = .returned (.tuple #[.agg #[.int .i64 p, .int .i64 q], .int .i64 0]) ∧ Below W.heap.size W w') ∧ Okk p q (x + y) := by
  refine ⟨_, _, fun W h => ?_, (s.h.plus t.h).okk⟩
  have := spanAddE s.lo.1 s.hi.1 t.lo.1 t.hi.1 W h
  rw [s.v, t.v] at this
  exact this
theorem sub_has {a b c d x y : Int} (s : Pin2 a b x) (t : Pin2 c d y) : ∃ p q : Int, Hid (∀ W, Hold4 W → Calls Tryz.prog 38 #[.agg #[.int .i64 a, .int .i64 b], .agg #[.int .i64 c, .int .i64 d]] W fun e w' => e = .returned (.tuple #[.agg #[.int .i64 p, .int .i64 q], .int .i64 0]) ∧ Below W.heap.size W w') ∧ Okk p q (x - y) := by
  refine ⟨_, _, fun W h => ?_, ((show x + -y = x - y from rfl) ▸ s.h.plus t.h.neg).okk⟩
  have := spanSubE s.lo.1 s.hi.1 t.lo.1 t.hi.1 W h
  rw [s.v, t.v] at this
  exact this
theorem mul_has {a b c d x y : Int} (s : Pin2 a b x) (t : Pin2 c d y) : ∃ p q : Int, Hid (∀ W, Hold4 W → Calls Tryz.prog 39 #[.agg #[.int .i64 a, .int .i64 b], .agg #[.int .i64 c, .int .i64 d]] W fun e w' => e = .returned (.tuple #[.agg #[.int .i64 p, .int .i64 q], .int .i64 0]) ∧ Below W.heap.size W w') ∧ Okk p q (mulS x y) := by
  refine ⟨_, _, fun W h => ?_, (s.h.times (eOf_ok _) (eOf_ok _) (eOf_ok _) (eOf_ok _) t.h).okk⟩
  have := spanMulE s.lo.1 s.hi.1 t.lo.1 t.hi.1 W h
  rw [s.v, t.v] at this
  exact this
theorem sgn_has {c d V : Int} (h : Okk c d V) : sgK c d = true → sgV c d = ord V 0 := by
  intro hk
  obtain ⟨c1, c2, c3⟩ := c_sign V
  have hl := h.kl
  have hh := h.kh
  have hle := c_le V
  unfold sgK at hk
  unfold sgV
  rw [h.ok] at hk ⊢
  simp only [Bool.true_and, if_true, Bool.or_eq_true, Bool.and_eq_true, decide_eq_true_eq] at hk ⊢
  by_cases p1 : 0 < key c
  · rw [if_pos p1]
    exact (ord_gt (c1 (by omega))).symm
  · rw [if_neg p1]
    by_cases p2 : key d < 0
    · rw [if_pos p2]
      exact (ord_lt (c2 (by omega))).symm
    · rw [if_neg p2]
      have hz : key c = 0 ∧ key d = 0 := by omega
      exact (ord_eq (c3 (by omega) (by omega) (by omega) (by omega))).symm
/-- Single floats' intervals. -/
theorem at_two {b : Int} (rb : rng b) (pb : pok b = true) : Pin2 (cLo (patV b)) (cHi (patV b)) (patV b) := by
  refine ⟨(c_nn _).1, (c_nn _).2, ?_⟩
  rw [(of_c rb pb).1, (of_c rb pb).2]
  exact ⟨En.le_refl _, En.le_refl _⟩
theorem e_fin (V : Int) : eLo ⟨0, V⟩ = cLo V ∧ eHi ⟨0, V⟩ = cHi V := ⟨rfl, rfl⟩
theorem add_at {a b : Int} (ra : rng a) (rb : rng b) (pa : pok a = true) (pb : pok b = true) : Hid (∀ W, Hold4 W → Calls Tryz.prog 37 #[.agg #[.int .i64 (cLo (patV a)), .int .i64 (cHi (patV a))], .agg #[.int .i64 (cLo (patV b)), .int .i64 (cHi (patV b))]] W fun e w' => e = .returned (.tuple #[.agg #[.int .i64 (cLo (patV a + patV b)), .int .i64 (cHi (patV a + patV b))], .int .i64 0]) ∧ Below W.heap.size W w') := fun W h => by
  have s := at_two ra pa
  have t := at_two rb pb
  have := spanAddE s.lo.1 s.hi.1 t.lo.1 t.hi.1 W h
  rw [s.v, t.v, (of_c ra pa).1, (of_c ra pa).2, (of_c rb pb).1, (of_c rb pb).2, plus_fin rfl rfl, (e_fin _).1, (e_fin _).2] at this
  exact this
theorem mul_at {a b : Int} (ra : rng a) (rb : rng b) (pa : pok a = true) (pb : pok b = true) : Hid (∀ W, Hold4 W → Calls Tryz.prog 39 #[.agg #[.int .i64 (cLo (patV a)), .int .i64 (cHi (patV a))], .agg #[.int .i64 (cLo (patV b)), .int .i64 (cHi (patV b))]] W fun e w' => e = .returned (.tuple #[.agg #[.int .i64 (cLo (mulS (patV a) (patV b))), .int .i64 (cHi (mulS (patV a) (patV b)))], .int .i64 0]) ∧ Below W.heap.size W w') := fun W h => by
  have s := at_two ra pa
  have t := at_two rb pb
  have := spanMulE s.lo.1 s.hi.1 t.lo.1 t.hi.1 W h
  rw [s.v, t.v, (of_c ra pa).1, (of_c ra pa).2, (of_c rb pb).1, (of_c rb pb).2, (tm_self _ _).1, (tm_self _ _).2, times_fin rfl rfl, (e_fin _).1, (e_fin _).2] at this
  exact this
theorem at_okk (V : Int) : Okk (cLo V) (cHi V) V := (Holds.mk (En.le_refl _) (En.le_refl _) : Holds ⟨0, V⟩ ⟨0, V⟩ V).okk
end Go.Proofs.YtcpjdgfnblkfpaaGreatDoor
