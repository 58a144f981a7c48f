/-
  Package expansion: own, gather, grown, sum, by their contracts.
-/
import Derived.Test.YtcpjdgfnblkfpaaGreatDoorX3
import Derived.ArgAppend
namespace Go.Proofs.YtcpjdgfnblkfpaaGreatDoor
open Go Go.RowKit Go.Proofs.YtcpjdgfnblkfpaaGreatDoor.M
set_option linter.unusedSimpArgs false
set_option linter.unusedVariables false

/-- A list of the call's own, or an empty one without room. -/
def LsO (B : Nat) (w : World) (v : Value) (s : Ls) : Prop := Out B w v s.n s.d ∨ (s.n = 0 ∧ ∃ ad, v = .slice (some ad) 0 0)
/-- What was written: nothing that was there, or the list's own block. -/
def XGr (B : Nat) (w : World) (v : Value) (w' : World) : Prop := w.grownBy w' none ∨ ∃ k, v.ownBlock = some k ∧ B ≤ k ∧ w.grownBy w' (some k)
theorem XGr.of_out {B : Nat} {w w' : World} {v : Value} {n : Nat} {d : Nat → Int} (h : Out B w v n d) (g : w.grownBy w' v.ownBlock) : XGr B w v w' := by
  cases e : v.ownBlock with
  | none => rw [e] at g; exact .inl g
  | some k => rw [e] at g; exact .inr ⟨k, e, own_ge h k e, g⟩
theorem XGr.below {B : Nat} {w w' : World} {v : Value} (h : XGr B w v w') (hB : B ≤ w.heap.size) : Below B w w' := by
  rcases h with h | ⟨k, _, hk, h⟩
  · exact (Below.refl B w).grown h hB (fun k hk => by cases hk)
  · exact grown_bel h hk hB
theorem XGr.size {B : Nat} {w w' : World} {v : Value} (h : XGr B w v w') : w.heap.size ≤ w'.heap.size := by
  rcases h with h | ⟨k, _, _, h⟩ <;> exact h.size
theorem grown_none_any {w w' : World} {o : Option Nat} (h : w.grownBy w' none) : w.grownBy w' o := ⟨h.os, h.tape, h.output, h.size, fun k hk _ => h.block k hk (by simp)⟩
/-- A list handed on: its own block, or memory that is new since w. -/
def At' (w : World) (v v' : Value) : Prop := v'.ownBlock = v.ownBlock ∨ ∀ k, v'.ownBlock = some k → w.heap.size ≤ k
set_option maxRecDepth 100000 in
theorem xadd_E {ad : Addr} {d : Nat → Int} {b : Int} (w : World) (hb : rng b) :
    Calls Tryz.prog 117 #[.slice (some ad) 0 0, .int .i64 b] w fun e w' => ∃ v', e = .returned v' ∧ LsO w.heap.size w' v' ((⟨0, d⟩ : Ls).add b) ∧ w.grownBy w' none := by
  have hz := fun W => xnought hb W
  by_cases h0 : rg b = 0
  · have e : (⟨0, d⟩ : Ls).add b = ⟨0, d⟩ := by unfold Ls.add; rw [if_pos h0]
    rw [decide_eq_true h0] at hz
    rw [e]
    go_enter Tryz.func117, Tryz.ntmps117
    go_wp2_with (go_at_call 114; refine (hz _).mono ?_; rintro _ _ ⟨rfl, rfl⟩)
    go_ret
    exact ⟨_, rfl, .inr ⟨rfl, ad, rfl⟩, World.grownBy.refl _ _⟩
  · have e : (⟨0, d⟩ : Ls).add b = ⟨1, upd d 0 b⟩ := by unfold Ls.add; rw [if_neg h0]
    rw [decide_eq_false h0] at hz
    rw [e]
    obtain ⟨i0, hi, hz0, hz1, hz2⟩ := info_parts info_int
    have hr := fun W : World => row1 W b rfl
    go_enter Tryz.func117, Tryz.ntmps117
    go_wp2_with (first
      | (go_at_call 114; refine (hz _).mono ?_; rintro _ _ ⟨rfl, rfl⟩)
      | (at_builtin; refine wpList_append_grows _ rfl _ _ 35 rfl 3 i0 (.int .i64 0) 1 8 Tryz.underlying35 hi hz0 hz1 hz2 rfl (by decide) (some ad) 0 0 [] rfl (fun q => by cases q) rfl (fun _ _ j u hu => by simp at hu) _ 1 1 [.int .i64 b] rfl rfl (by intro j u hu; match j, hu with | 0, hu => (simp at hu; subst hu; obtain ⟨bb, off, e1, _, hc⟩ := (hr _).spot (by omega); simp only [Option.some.injEq] at e1; have := hc 0 (by omega); rw [Nat.add_zero] at this; rw [← e1] at this; rw [add_none]; exact this)) (by simp [Value.oneCell']) (by omega) (by unfold maxLen; omega) (by omega) ?_; intro v' w1 hO1 hg1))
    go_ret
    refine ⟨v', rfl, .inl ?_, grown_past hg1⟩
    have hO2 := hO1
    rw [show ([] ++ [Value.int .i64 b] : List Value) = vals (upd d 0 b) (0 + 1) from (vals_ext rfl fun i hi => by
      match i, hi with
      | 0, _ => simp [upd_same])] at hO2
    have hO3 : Out _ w1 v' (0 + 1) (upd d 0 b) := hO2
    exact hO3.lower (by simp)
set_option maxRecDepth 100000 in
theorem xgrow_E {ad : Addr} {d : Nat → Int} {q : Int} (w : World) (hq : rng q) :
    Calls Tryz.prog 112 #[.slice (some ad) 0 0, .int .i64 q] w fun e w' => ∃ v', e = .returned v' ∧ LsO w.heap.size w' v' (grw 0 d q) ∧ w.grownBy w' none := by
  have CA : Hid (∀ W, W = w → Calls Tryz.prog 117 #[.slice (some ad) 0 0, .int .i64 q] W fun e w' => ∃ v', e = .returned v' ∧ LsO W.heap.size w' v' (grw 0 d q) ∧ W.grownBy w' none) := fun W hW => by
    subst hW
    exact xadd_E W hq
  clear hq
  go_enter Tryz.func112, Tryz.ntmps112
  go_wp2_with fail
  go_loopw [1, 5, 13] (fun qv gv iv wr => iv = .int .i64 0 ∧ qv = .int .i64 q ∧ gv = .slice (some ad) 0 0 ∧ wr = w) (fun _ _ iv _ => 0)
  case atStart => exact ⟨rfl, rfl, rfl, rfl⟩
  case round =>
    obtain ⟨rfl, rfl, rfl, rfl⟩ := hrel
    go_wp2_with fail
    refine (CA.out _ rfl).mono ?_
    rintro _ w2 ⟨v', rfl, hO2, hg2⟩
    go_wp2
    go_ret
    exact ⟨v', rfl, hO2, hg2⟩
theorem LsO.lower {B B' : Nat} {w : World} {v : Value} {s : Ls} (h : LsO B w v s) (hB : B' ≤ B) : LsO B' w v s := by
  rcases h with h | h
  · exact .inl (h.lower hB)
  · exact .inr h
/-- grow, of any list that a call of this package has made. -/
theorem xgrow_L {B : Nat} {v : Value} {s : Ls} {q : Int} (w : World) (h : LsO B w v s) (hd : ∀ i, i < s.n → rng (s.d i) ∧ pok (s.d i) = true) (hq : rng q) (pq : pok q = true) (hn : s.n ≤ 800000) (hB : B ≤ w.heap.size) :
    Calls Tryz.prog 112 #[v, .int .i64 q] w fun e w' => (gx s.d q s.n = true ∧ ∃ v', e = .returned v' ∧ LsO B w' v' (grw s.n s.d q) ∧ XGr B w v w') ∨ (gx s.d q s.n = false ∧ e = gaveX ∧ XGr B w v w') := by
  rcases h with h | ⟨h0, ad, rfl⟩
  · refine (xgrow_any w h hd hq pq hn hB).mono ?_
    rintro e w' (⟨h1, v', h2, h3, h4⟩ | ⟨h1, h2, h3⟩)
    · exact .inl ⟨h1, v', h2, .inl h3, XGr.of_out h h4⟩
    · exact .inr ⟨h1, h2, XGr.of_out h h3⟩
  · obtain ⟨sn, sd⟩ := s
    simp only at h0
    subst h0
    refine (xgrow_E (d := sd) w hq).mono ?_
    rintro e w' ⟨v', h1, h2, h3⟩
    exact .inl ⟨rfl, v', h1, h2.lower hB, .inl h3⟩
end Go.Proofs.YtcpjdgfnblkfpaaGreatDoor
