/-
  Package expansion: add within a list's own memory, grow, by their contracts.
-/
import Derived.Test.YtcpjdgfnblkfpaaGreatDoorX1
import Derived.Test.YtcpjdgfnblkfpaaGreatDoorEStep2
namespace Go.Proofs.YtcpjdgfnblkfpaaGreatDoor
open Go Go.RowKit Go.Proofs.YtcpjdgfnblkfpaaGreatDoor.M
set_option linter.unusedSimpArgs false
set_option linter.unusedVariables false

/-- A block of the call's own with cap ints: the first N of them are s's, of which s.n are told. -/
def InB (w : World) (g cap N : Nat) (s : Ls) : Prop := ∃ cur, w.heap[g]? = some (.cells cur 3 (0, 0)) ∧ cur.size = cap ∧ ∀ i, i < N → cur[i]? = some (.int .i64 (s.d i))
theorem InB.keeps {w w' : World} {g cap N : Nat} {s : Ls} (h : InB w g cap N s) (hb : Below w.heap.size w w') : InB w' g cap N s := by
  obtain ⟨cur, h1, h2⟩ := h
  exact ⟨cur, (hb.block _ (Array.getElem?_eq_some_iff.1 h1).1).trans h1, h2⟩
theorem InB.out {w : World} {B g cap N : Nat} {s : Ls} (h : InB w g cap N s) (hn : s.n ≤ N) (hN : N ≤ cap) (hB : B ≤ g) (hm : cap ≤ 9223372036854775807) : Out B w (.slice (some ⟨g, 0, none⟩) s.n cap) s.n s.d := by
  obtain ⟨cur, h1, h2, h3⟩ := h
  refine ⟨by rw [vals_length]; omega, .inr ⟨g, cap, cur, rfl, hB, h1, by omega, by unfold maxLen; omega, by omega, ?_⟩⟩
  apply vals_ext (by simp; omega)
  intro i hi
  rw [List.getElem?_take, if_pos (by omega), Array.getElem?_toList]
  exact h3 i (by omega)
theorem Out.inB {B : Nat} {w : World} {g n cap : Nat} {d : Nat → Int} (h : Out B w (.slice (some ⟨g, 0, none⟩) n cap) n d) : InB w g cap n ⟨0, d⟩ ∧ n ≤ cap ∧ cap ≤ 9223372036854775807 ∧ B ≤ g := by
  rcases h.2 with ⟨e, _⟩ | ⟨g', cap', cur, e, hb, hg, hn, hm, hs, ht⟩
  · simp at e
  · simp only [Value.slice.injEq, Option.some.injEq, Addr.mk.injEq, and_true, true_and] at e
    obtain ⟨rfl, rfl⟩ := e
    refine ⟨⟨cur, hg, by omega, fun i hi => ?_⟩, hn, by unfold maxLen at hm; exact hm, hb⟩
    have e : (cur.toList.take (n * 1))[i]? = (vals d n)[i]? := by rw [ht]
    rw [List.getElem?_take, if_pos (by omega), vals_get d hi, Array.getElem?_toList] at e
    exact e
set_option maxRecDepth 100000 in
/-- 'append(h, b)' with room: in place. -/
theorem wpList_appIn {w : World} {ops : Array Oper} {rest : List Oper} {o : Oper} {a : Act} {Q : Exit → Act → World → Prop} (hgd : o.guard = none) (s x : Operand)
    (ho : o.op = .call { callee := .builtin .append, args := #[s, x], argTypes := #[35, 35] }) (g m cap N : Nat) (r : Ls) (hs : a.eval s = .slice (some ⟨g, 0, none⟩) m cap) (hI : InB w g cap N r) (hm : m < cap)
    (ad : Addr) (b : Int) (hx : a.eval x = .slice (some ad) 1 1) (hc : w.cell? ad = some (.int .i64 b))
    (h : ∀ w', InB w' g cap N ⟨m + 1, upd r.d m b⟩ → w.grownBy w' (some g) → wpList Tryz.prog ops Q rest (a.put o.dst (.slice (some ⟨g, 0, none⟩) (m + 1) cap)) w') : wpList Tryz.prog ops Q (o :: rest) a w := by
  obtain ⟨i0, hi, hz0, hz1, hz2⟩ := info_parts info_int
  obtain ⟨cur, hg, hs2, hr⟩ := hI
  refine wpList_plain hgd fun K hK' => ?_
  have hr2 := run_append_room (P := Tryz.prog) w 35 o.type 3 i0 Tryz.underlying35 hi g m cap cur hg ad 1 1 [.int .i64 b] (by rw [hz1]; rfl) (by
    intro j u hu
    match j, hu with
    | 0, hu =>
      simp at hu
      subst hu
      rw [show ad.add 0 = ad by unfold Addr.add; split <;> simp_all]
      exact hc) (by simp [Value.oneCell']) (by omega) (by rw [hz1]; simp; omega)
  unfold Oper.wp
  simp [execOp, ho, resolve, invoke, builtin, hs, hx, hr2, Result.andThen]
  refine hK' _ _ (h _ ?_ ?_)
  · refine ⟨_, setRow_heap w g cur _ _ _ hg, ?_, fun i hi => ?_⟩
    · simp [hz1]; omega
    · rw [hz1]
      show (cur.toList.take (m * 1) ++ Value.int .i64 b :: cur.toList.drop (m * 1 + 1)).toArray[i]? = some (.int .i64 (upd r.d m b i))
      rw [Nat.mul_one]
      have hl : (cur.toList.take m).length = m := by simp; omega
      rw [List.getElem?_toArray]
      by_cases e : i = m
      · subst e
        rw [upd_same, List.getElem?_append_right (by omega), hl]
        simp
      · rw [upd_other _ _ e, ← hr i hi]
        by_cases e2 : i < m
        · rw [List.getElem?_append_left (by omega), List.getElem?_take, if_pos e2, Array.getElem?_toList]
        · rw [List.getElem?_append_right (by omega), hl]
          obtain ⟨j, hj⟩ : ∃ j, i - m = j + 1 := ⟨i - m - 1, by omega⟩
          rw [hj, List.getElem?_cons_succ, List.getElem?_drop, Array.getElem?_toList]
          rw [show m + 1 + j = i by omega]
  · exact ⟨rfl, rfl, rfl, by simp, fun k _ hk => setRow_other w g k _ (fun e => hk (by simp [e]))⟩
set_option maxRecDepth 100000 in
theorem xadd_in {g cap N : Nat} {s : Ls} {b : Int} (w : World) (h : InB w g cap N s) (hb : rng b) (hn : s.n < cap) :
    Calls Tryz.prog 117 #[.slice (some ⟨g, 0, none⟩) s.n cap, .int .i64 b] w fun e w' => e = .returned (.slice (some ⟨g, 0, none⟩) (s.add b).n cap) ∧ InB w' g cap N (s.add b) ∧ w.grownBy w' (some g) := by
  have hz := fun W => xnought hb W
  by_cases h0 : rg b = 0
  · have e : s.add b = s := by unfold Ls.add; rw [if_pos h0]
    rw [decide_eq_true h0] at hz
    rw [e]
    go_enter Tryz.func117, Tryz.ntmps117
    go_wp2_with (go_at_call 114; refine (hz _).mono ?_; rintro _ _ ⟨rfl, rfl⟩)
    go_ret
    exact ⟨rfl, h, World.grownBy.refl _ _⟩
  · have e : s.add b = ⟨s.n + 1, upd s.d s.n b⟩ := by unfold Ls.add; rw [if_neg h0]
    rw [decide_eq_false h0] at hz
    rw [e]
    have hr := fun W : World => row1 W b rfl
    go_enter Tryz.func117, Tryz.ntmps117
    go_wp2_with (first
      | (go_at_call 114; refine (hz _).mono ?_; rintro _ _ ⟨rfl, rfl⟩)
      | (at_builtin; refine wpList_appIn rfl _ _ rfl g s.n cap N s rfl (h.keeps (bel_alloc _ _)) hn _ b rfl (by obtain ⟨bb, off, e1, _, hc⟩ := (hr _).spot (by omega); simp only [Option.some.injEq] at e1; have := hc 0 (by omega); rw [Nat.add_zero] at this; rw [← e1] at this; exact this) ?_; intro w1 hI1 hg1))
    go_ret
    refine ⟨rfl, hI1, ?_⟩
    exact grown_past hg1
end Go.Proofs.YtcpjdgfnblkfpaaGreatDoor
