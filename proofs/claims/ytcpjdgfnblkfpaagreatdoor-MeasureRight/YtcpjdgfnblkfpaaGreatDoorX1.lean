/-
  Package expansion: nought, sure, add, own, by their contracts.
-/
import Derived.Test.YtcpjdgfnblkfpaaGreatDoorXM
import Derived.Test.YtcpjdgfnblkfpaaGreatDoorNW6
import Derived.Test.YtcpjdgfnblkfpaaGreatDoorQPt
namespace Go.Proofs.YtcpjdgfnblkfpaaGreatDoor
open Go Go.RowKit Go.Proofs.YtcpjdgfnblkfpaaGreatDoor.M
set_option linter.unusedSimpArgs false
set_option linter.unusedVariables false

/-- A step was not exact. -/
def gaveX : Ending := .panicked [{ v := .iface 29 (.int .i64 14), recovered := false }]
theorem xnought {b : Int} (hb : rng b) (w : World) :
    Calls Tryz.prog 114 #[.int .i64 b] w fun e w' => e = .returned (.bool (decide (rg b = 0))) ∧ w' = w := by
  have ho := nought_order hb
  generalize decide (rg b = 0) = Z at *
  go_enter Tryz.func114, Tryz.ntmps114
  go_wp2_with (go_at_call 50; refine (bitsFloat _ _).mono ?_; rintro _ _ ⟨rfl, rfl⟩)
  go_ret
  exact ⟨b_ret_bool (by first | rfl | simp [ho]), rfl⟩
theorem xsure_yes (h l : Int) (w : World) :
    Calls Tryz.prog 115 #[.int .i64 h, .int .i64 l, .bool true] w fun e w' => e = .returned (.tuple #[.int .i64 h, .int .i64 l]) ∧ w' = w := by
  go_enter Tryz.func115, Tryz.ntmps115
  go_wp2
  refine bodyPost_ret (v := .tuple #[.int .i64 h, .int .i64 l]) (by simp [results, Tryz.results115, go_sem]) rfl ⟨rfl, rfl⟩
theorem xsure_no (h l : Int) (w : World) :
    Calls Tryz.prog 115 #[.int .i64 h, .int .i64 l, .bool false] w fun e w' => e = gaveX ∧ w' = w := by
  go_enter Tryz.func115, Tryz.ntmps115
  go_wp2
  exact ⟨rfl, rfl, rfl⟩
/-- A list of the call's own that has become another one: its block alone was written, or it lies in new memory. -/
structure Own (B : Nat) (w : World) (v : Value) (w' : World) (v' : Value) (s : Ls) : Prop where
  out : Out B w' v' s.n s.d
  gr : w.grownBy w' v.ownBlock
  at' : v'.ownBlock = v.ownBlock ∨ ∀ k, v'.ownBlock = some k → w.heap.size ≤ k
theorem Own.refl {B : Nat} {w : World} {v : Value} {s : Ls} (h : Out B w v s.n s.d) : Own B w v w v s := ⟨h, World.grownBy.refl _ _, .inl rfl⟩
theorem Own.below {B : Nat} {w w' : World} {v v' : Value} {s : Ls} (h : Own B w v w' v' s) (hO : ∀ k, v.ownBlock = some k → B ≤ k) (hB : B ≤ w.heap.size) : Below B w w' :=
  (Below.refl B w).grown h.gr hB hO
theorem grown_past {w w1 : World} {o : Obj} {k : Option Nat} (h : (w.alloc o).grownBy w1 k) : w.grownBy w1 k := by
  have ha := bel_alloc w o
  exact ⟨h.os.trans ha.os, h.tape.trans ha.tape, h.output.trans ha.output, Nat.le_trans ha.size h.size, fun k hk hne => (h.block k (Nat.lt_of_lt_of_le hk ha.size) hne).trans (ha.block k hk)⟩
set_option maxRecDepth 100000 in
theorem xadd_any {B : Nat} {v : Value} {s : Ls} {b : Int} (w : World) (h : Out B w v s.n s.d) (hb : rng b) (hn : s.n ≤ 900000) (hB : B ≤ w.heap.size) :
    Calls Tryz.prog 117 #[v, .int .i64 b] w fun e w' => ∃ v', e = .returned v' ∧ Out B w' v' (s.add b).n (s.add b).d ∧ w.grownBy w' v.ownBlock := by
  have hz := fun W => xnought hb W
  by_cases h0 : rg b = 0
  · have e : s.add b = s := by unfold Ls.add; rw [if_pos h0]
    rw [decide_eq_true h0] at hz
    rw [e]
    go_enter Tryz.func117, Tryz.ntmps117
    go_wp2_with (go_at_call 114; refine (hz _).mono ?_; rintro _ _ ⟨rfl, rfl⟩)
    go_ret
    exact ⟨v, rfl, h, World.grownBy.refl _ _⟩
  · have e : s.add b = ⟨s.n + 1, upd s.d s.n b⟩ := by unfold Ls.add; rw [if_neg h0]
    rw [decide_eq_false h0] at hz
    rw [e]
    go_enter Tryz.func117, Tryz.ntmps117
    go_wp2_with (first
      | (go_at_call 114; refine (hz _).mono ?_; rintro _ _ ⟨rfl, rfl⟩)
      | (at_builtin; refine wpList_app rfl _ _ rfl B _ s.n s.d rfl (h.stays (bel_alloc _ _)) _ 1 1 (fun _ => b) rfl (row1 _ _ rfl) (by omega) (by simp; omega) ?_; intro v' w1 hO1 hg1))
    go_ret
    refine ⟨v', rfl, hO1.congr fun i hi => ?_, ?_⟩
    · by_cases e : i < s.n
      · simp [cat, e, upd_other s.d _ (show i ≠ s.n by omega)]
      · obtain rfl : i = s.n := by omega
        simp [cat, upd_same]
    · exact grown_past hg1
end Go.Proofs.YtcpjdgfnblkfpaaGreatDoor
