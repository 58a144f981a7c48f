/-
  Package span: the lesser and the greater of two ends; joined, told, by their contracts.
-/
import Derived.Test.YtcpjdgfnblkfpaaGreatDoorSPt
namespace Go.Proofs.YtcpjdgfnblkfpaaGreatDoor
open Go Go.RowKit Go.Proofs.YtcpjdgfnblkfpaaGreatDoor.M
set_option linter.unusedSimpArgs false
set_option linter.unusedVariables false

theorem eq_neg {a b : Int} (ha : nn a) (hb : nn b) (h : key a = key b) : (if (FloatKind.f64.decode (wd a)).neg then wd a else wd b) = wd (if a = b then a else -9223372036854775808) := by
  by_cases e : a = b
  · subst e; rw [if_pos rfl]; split <;> rfl
  · rw [if_neg e]
    rcases key_zeros ha.1 hb.1 h e with ⟨rfl, rfl⟩ | ⟨rfl, rfl⟩
    · rfl
    · rfl
theorem eq_pos {a b : Int} (ha : nn a) (hb : nn b) (h : key a = key b) : (if (FloatKind.f64.decode (wd a)).neg then wd b else wd a) = wd (if a = b then a else 0) := by
  by_cases e : a = b
  · subst e; rw [if_pos rfl]; split <;> rfl
  · rw [if_neg e]
    rcases key_zeros ha.1 hb.1 h e with ⟨rfl, rfl⟩ | ⟨rfl, rfl⟩
    · rfl
    · rfl
theorem run_minF {P : Program} {a b : Int} (ha : nn a) (hb : nn b) (ts : Array TypeId) (t : TypeId) (w : World) : (Builtin.min_ ts t #[.float .f64 (wd a), .float .f64 (wd b)]).run P w = .ok (.float .f64 (wd (minP a b))) w := by
  have hf : (Builtin.min_ ts t #[.float .f64 (wd a), .float .f64 (wd b)]) = (Builtin.min2 (.float .f64 (wd a)) (.float .f64 (wd b))) := by simp [Builtin.min_]
  rw [hf]
  unfold Builtin.min2 minP
  rcases Int.lt_trichotomy (key a) (key b) with h | h | h
  · rw [if_pos h]
    simp only [q_lt ha.1 hb.1 ha.2 hb.2 h]
    rfl
  · rw [if_neg (by omega), if_neg (by omega)]
    simp only [q_eq ha.1 hb.1 ha.2 hb.2 h]
    rw [eq_neg ha hb h]
    rfl
  · rw [if_neg (by omega), if_pos h]
    simp only [q_gt ha.1 hb.1 ha.2 hb.2 h]
    rfl
theorem run_maxF {P : Program} {a b : Int} (ha : nn a) (hb : nn b) (ts : Array TypeId) (t : TypeId) (w : World) : (Builtin.max_ ts t #[.float .f64 (wd a), .float .f64 (wd b)]).run P w = .ok (.float .f64 (wd (maxP a b))) w := by
  have hf : (Builtin.max_ ts t #[.float .f64 (wd a), .float .f64 (wd b)]) = (Builtin.max2 (.float .f64 (wd a)) (.float .f64 (wd b))) := by simp [Builtin.max_]
  rw [hf]
  unfold Builtin.max2 maxP
  rcases Int.lt_trichotomy (key a) (key b) with h | h | h
  · rw [if_pos h]
    simp only [q_lt ha.1 hb.1 ha.2 hb.2 h]
    rfl
  · rw [if_neg (by omega), if_neg (by omega)]
    simp only [q_eq ha.1 hb.1 ha.2 hb.2 h]
    rw [eq_pos ha hb h]
    rfl
  · rw [if_neg (by omega), if_pos h]
    simp only [q_gt ha.1 hb.1 ha.2 hb.2 h]
    rfl
theorem s4_set {a b B g o : Nat} {v x0 x1 x2 x3 : Value} {W : World} (hg : B ≤ g) (h : (a < B ∧ b < B ∧ B ≤ W.heap.size) ∧ W.cell? ⟨a, 0, none⟩ = some x0 ∧ W.cell? ⟨a, 1, none⟩ = some x1 ∧ W.cell? ⟨b, 0, none⟩ = some x2 ∧ W.cell? ⟨b, 1, none⟩ = some x3) :
    (a < B ∧ b < B ∧ B ≤ (W.setCell ⟨g, o, none⟩ v).heap.size) ∧ (W.setCell ⟨g, o, none⟩ v).cell? ⟨a, 0, none⟩ = some x0 ∧ (W.setCell ⟨g, o, none⟩ v).cell? ⟨a, 1, none⟩ = some x1 ∧ (W.setCell ⟨g, o, none⟩ v).cell? ⟨b, 0, none⟩ = some x2 ∧ (W.setCell ⟨g, o, none⟩ v).cell? ⟨b, 1, none⟩ = some x3 := by
  have hw : Wr g W (W.setCell ⟨g, o, none⟩ v) := (Wr.refl g W).setCell o v
  obtain ⟨⟨h1, h2, h3⟩, a0, a1, a2, a3⟩ := h
  exact ⟨⟨h1, h2, Nat.le_trans h3 hw.size⟩, (hw.cell (show a < W.heap.size by omega) (show a ≠ g by omega)).trans a0, (hw.cell (show a < W.heap.size by omega) (show a ≠ g by omega)).trans a1, (hw.cell (show b < W.heap.size by omega) (show b ≠ g by omega)).trans a2, (hw.cell (show b < W.heap.size by omega) (show b ≠ g by omega)).trans a3⟩
theorem heap3 (w : World) (a b c : Obj) : (((w.alloc a).alloc b).alloc c).heap[w.heap.size]? = some a ∧ (((w.alloc a).alloc b).alloc c).heap[w.heap.size + 1]? = some b ∧ (((w.alloc a).alloc b).alloc c).heap[w.heap.size + 2]? = some c ∧ (((w.alloc a).alloc b).alloc c).heap.size = w.heap.size + 3 ∧ Below w.heap.size w (((w.alloc a).alloc b).alloc c) := by
  have h : (((w.alloc a).alloc b).alloc c).heap = ((w.heap.push a).push b).push c := rfl
  rw [h]
  refine ⟨?_, ?_, ?_, by simp, bel_trans (bel_alloc2 w a b) (bel_alloc _ _)⟩
  · simp [Array.getElem?_push]
    omega
  · rw [Array.getElem?_push, if_neg (by simp), Array.getElem?_push, if_pos (by simp)]
  · rw [Array.getElem?_push, if_pos (by simp)]
set_option maxRecDepth 100000 in
theorem ivlJoined {a b c d : Int} (ha : nn a) (hb : nn b) (hc : nn c) (hd : nn d) (w : World) :
    Calls Tryz.prog 93 #[ivl a b, ivl c d] w fun e w' => e = .returned (ivl (minP a c) (maxP b d)) ∧ Below w.heap.size w w' := by
  unfold ivl
  have RM := fun ts t W => run_minF (P := Tryz.prog) ha hc ts t W
  have RX := fun ts t W => run_maxF (P := Tryz.prog) hb hd ts t W
  generalize wd (minP a c) = X at *
  generalize wd (maxP b d) = Y at *
  generalize wd a = A at *
  generalize wd b = B at *
  generalize wd c = C at *
  generalize wd d = D at *
  obtain ⟨q0, q1, q2, hs, hb3⟩ := heap3 w (.cells #[.float .f64 A, .float .f64 B] 98) (.cells #[.float .f64 C, .float .f64 D] 98) (.cells #[.float .f64 0, .float .f64 0] 98)
  have k0 := blkC q0 0 rfl
  have k1 := blkC q0 1 rfl
  have k2 := blkC q1 0 rfl
  have k3 := blkC q1 1 rfl
  replace q2 : (((w.alloc (.cells #[.float .f64 A, .float .f64 B] 98)).alloc (.cells #[.float .f64 C, .float .f64 D] 98)).alloc (.cells #[.float .f64 0, .float .f64 0] 98)).heap[w.heap.size + 1 + 1]? = some (.cells #[.float .f64 0, .float .f64 0] 98 (0, 0)) := q2
  go_enter Tryz.func93, Tryz.ntmps93
  go_wp2_with fail
  clear q0 q1 k0 k1 k2 k3 hs RM RX
  generalize ((w.alloc (.cells #[.float .f64 A, .float .f64 B] 98)).alloc (.cells #[.float .f64 C, .float .f64 D] 98)).alloc (.cells #[.float .f64 0, .float .f64 0] 98) = wx at *
  obtain ⟨g, hg⟩ : ∃ g, w.heap.size + 1 + 1 = g := ⟨_, rfl⟩
  have hwg : w.heap.size ≤ g := by omega
  rw [hg] at q2
  simp only [hg]
  clear hg
  have d2 := q_heap_set q2 0 (.float .f64 X)
  have d3 := q_heap_set d2 1 (.float .f64 Y)
  have f0 := blkC q2 0 rfl
  have z0 := blkF q2 0
  have f1 := blkC d2 1 rfl
  have z1 := blkF d2 1
  have hbe := (hb3.setCell (p := ⟨g, 0, none⟩) hwg (.float .f64 X)).setCell (p := ⟨g, 1, none⟩) hwg (.float .f64 Y)
  have s0 : (store ⟨g, 0, none⟩ (.float .f64 X)).run Tryz.prog wx = .ok () (wx.setCell ⟨g, 0, none⟩ (.float .f64 X)) := by rw [run_store _ _ _ _ _ rfl, f0]; simp only [z0]; rfl
  have s1 : (store ⟨g, 1, none⟩ (.float .f64 Y)).run Tryz.prog (wx.setCell ⟨g, 0, none⟩ (.float .f64 X)) = .ok () ((wx.setCell ⟨g, 0, none⟩ (.float .f64 X)).setCell ⟨g, 1, none⟩ (.float .f64 Y)) := by rw [run_store _ _ _ _ _ rfl, f1]; simp only [z1]; rfl
  have e0 := blkC d3 0 rfl
  have e1 := blkC d3 1 rfl
  clear f0 z0 f1 z1 d2 d3 q2
  simp only [s0, s1, Result.andThen]
  go_wp2
  refine bodyPost_ret (v := .agg #[.float .f64 X, .float .f64 Y]) (by simp [results, Tryz.results93, go_sem, e0, e1]) rfl ⟨rfl, hbe⟩
end Go.Proofs.YtcpjdgfnblkfpaaGreatDoor
