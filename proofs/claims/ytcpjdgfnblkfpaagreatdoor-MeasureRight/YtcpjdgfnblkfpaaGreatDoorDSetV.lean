/-
  Package dyadic: settle by the number that it is about; Make.
-/
import Derived.Test.YtcpjdgfnblkfpaaGreatDoorDSet
namespace Go.Proofs.YtcpjdgfnblkfpaaGreatDoor
open Go Go.RowKit Go.Proofs.YtcpjdgfnblkfpaaGreatDoor.M
set_option linter.unusedSimpArgs false
set_option linter.unusedVariables false

theorem low_ex : ∀ (n : Nat) (M : Int), M.natAbs ≤ n → 0 < M → ∃ l, IsLow M l := by
  intro n
  induction n with
  | zero => intro M h h0; omega
  | succ n ih =>
    intro M h h0
    by_cases hp : M % 2 = 1
    · exact ⟨0, M / 2, by rw [Int.pow_zero]; omega⟩
    · obtain ⟨l, m, hm⟩ := ih (M / 2) (by omega) (by omega)
      refine ⟨l + 1, m, ?_⟩
      rw [Int.pow_succ, ← Int.mul_assoc, ← hm]; omega
theorem isLow_ex {M : Int} (h : 0 < M) : ∃ l, IsLow M l := low_ex M.natAbs M (Nat.le_refl _) h
/-- The panic of a number too long. -/
def gaveUp : Ending := .panicked [{ v := .iface 29 (.int .i64 2), recovered := false }]
theorem settle_ok {ng : Bool} {ao : Option Addr} {n cap : Nat} {d : Nat → Int} {e : Int} {w : World} (h : Row w ao n cap d) (hd : Dig d n) (hn : n ≤ 100000) (hT : Tab w) (he : -4194304 ≤ e) {V : Int} (hV : V = sg ng (val d n) * pw e) (hok : Dok V) :
    Calls Tryz.prog 69 #[.agg #[.bool ng, .slice ao n cap, .int .i64 e]] w fun r w' => ∃ v, r = .returned v ∧ DAns w w' V v := by
  by_cases h0 : val d n = 0
  · refine (settle_zero ng ao n cap d e w h hd h0).mono ?_
    rintro r w' ⟨rfl, hb⟩
    exact ⟨_, rfl, by rw [hV, h0, sg_zero, Int.zero_mul]; exact DAns.zero hb⟩
  · have hp : 0 < val d n := by have := val_nonneg hd; omega
    obtain ⟨l, hl⟩ := isLow_ex hp
    have hy := Dy.of ng hl hp he
    rw [← hV] at hy
    obtain ⟨o1, o2, o3⟩ := hy.ok.1 hok
    refine (settle_yes ng ao n cap d e w h hd hn hT hp l hl o2 o3 o1).mono ?_
    rintro r w' ⟨s, rfl, hA⟩
    exact ⟨_, rfl, _, _, _, _, rfl, hy, hA⟩
theorem settle_long {ng : Bool} {ao : Option Addr} {n cap : Nat} {d : Nat → Int} {e : Int} {w : World} (h : Row w ao n cap d) (hd : Dig d n) (hn : n ≤ 100000) (hT : Tab w) (he : -4194304 ≤ e) {V : Int} (hV : V = sg ng (val d n) * pw e) (hok : ¬ Dok V) :
    Calls Tryz.prog 69 #[.agg #[.bool ng, .slice ao n cap, .int .i64 e]] w fun r w' => r = gaveUp ∧ Below w.heap.size w w' := by
  by_cases h0 : val d n = 0
  · exact absurd (by rw [hV, h0, sg_zero, Int.zero_mul]; exact dok_zero) hok
  · have hp : 0 < val d n := by have := val_nonneg hd; omega
    obtain ⟨l, hl⟩ := isLow_ex hp
    have hy := Dy.of ng hl hp he
    rw [← hV] at hy
    have hno := fun x => hok (hy.ok.2 x)
    refine settle_no ng ao n cap d e w h hd hn hT hp l hl ?_
    by_cases c1 : e + l < -1048576
    · exact .inl c1
    · by_cases c2 : 1048576 < e + l
      · exact .inr (.inl c2)
      · exact .inr (.inr (by
          by_cases c3 : P 2000 ≤ val d n / 2 ^ l
          · exact c3
          · exact absurd ⟨by omega, by omega, by omega⟩ hno))
/-- Far below: whatever the list (of at most 100,000 digits), it gives up. -/
theorem settle_deep {ng : Bool} {ao : Option Addr} {n cap : Nat} {d : Nat → Int} {e : Int} {w : World} (h : Row w ao n cap d) (hd : Dig d n) (hn : n ≤ 100000) (hT : Tab w) (he : e < -4194304) (h0 : 0 < val d n) :
    Calls Tryz.prog 69 #[.agg #[.bool ng, .slice ao n cap, .int .i64 e]] w fun r w' => r = gaveUp ∧ Below w.heap.size w w' := by
  obtain ⟨l, hl⟩ := isLow_ex h0
  have := isLow_lt hd h0 hl
  exact settle_no ng ao n cap d e w h hd hn hT h0 l hl (.inl (by omega))
theorem DFit.shape {w w' : World} {V er : Int} {v : Value} (h : DFit w w' V v er) : ∃ ng so sn sc e, v = .agg #[.bool ng, .slice so sn sc, .int .i64 e] := by
  rcases h.2 with ⟨_, _, ng, s, m, e, h1, _, hA⟩ | ⟨_, _, h1⟩
  · obtain ⟨so, sn, sc, rfl⟩ := hA.num.shape
    exact ⟨_, _, _, _, _, h1⟩
  · exact ⟨_, _, _, _, _, h1⟩
theorem dans_res3 {w W w3 : World} {V : Int} {v : Value} (hv : DAns W w3 V v) (hb : Below w.heap.size w W) {g : Nat} (h0 : w.heap.size ≤ g) (h1 : g < W.heap.size) (a b c : Value) :
    DAns w (((w3.setCell ⟨g, 0, none⟩ a).setCell ⟨g, 1, none⟩ b).setCell ⟨g, 2, none⟩ c) V v := by
  obtain ⟨ng, s, m, e, h2, h3, hA⟩ := hv
  exact ⟨ng, s, m, e, h2, h3, ans_res hA hb h0 h1 a b c⟩
theorem dfit_res {w W w3 : World} {V er : Int} {v : Value} (hv : DFit W w3 V v er) (hb : Below w.heap.size w W) {g : Nat} (h0 : w.heap.size ≤ g) (h1 : g < W.heap.size) (a b c : Value) :
    DFit w (((w3.setCell ⟨g, 0, none⟩ a).setCell ⟨g, 1, none⟩ b).setCell ⟨g, 2, none⟩ c) V v er := by
  refine ⟨(((hb.trans (hv.1.mono hb.size)).setCell (p := ⟨g, 0, none⟩) h0 a).setCell (p := ⟨g, 1, none⟩) h0 b).setCell (p := ⟨g, 2, none⟩) h0 c, ?_⟩
  rcases hv.2 with ⟨o1, o2, o3⟩ | o
  · exact .inl ⟨o1, o2, dans_res3 o3 hb h0 h1 a b c⟩
  · exact .inr o
/-- What a call tells. -/
theorem told_fit {F : Nat} {cap : Array Value} {w : World} {V : Int} (hE : ∀ w, (callFunc F cap).run Tryz.prog w = .ok (.enter F cap) w)
    (hy : Dok V → ∀ W, Below w.heap.size w W → Calls Tryz.prog F cap W fun r W' => ∃ v, r = .returned v ∧ DAns W W' V v)
    (hn : ¬ Dok V → ∀ W, Below w.heap.size w W → Calls Tryz.prog F cap W fun r W' => r = gaveUp ∧ Below W.heap.size W W') :
    Calls Tryz.prog 64 #[.func (.func F) #[] cap] w fun r w' => ∃ v er, r = .returned (.tuple #[v, .int .i64 er]) ∧ DFit w w' V v er := by
  by_cases h : Dok V
  · refine (told_yes F cap w V hE (hy h)).mono ?_
    rintro r w' ⟨v, rfl, hD⟩
    exact ⟨v, 0, rfl, hD.below, .inl ⟨h, rfl, hD⟩⟩
  · refine (told_no F cap w hE (hn h)).mono ?_
    rintro r w' ⟨rfl, hb⟩
    exact ⟨_, 2, rfl, hb, .inr ⟨h, rfl, rfl⟩⟩
theorem heap_a1 (w : World) (a : Obj) : (w.alloc a).heap[w.heap.size]? = some a := by
  show (w.heap.push a)[w.heap.size]? = some a
  simp
theorem size1 (w : World) (a : Obj) : (w.alloc a).heap.size = w.heap.size + 1 := by
  show (w.heap.push a).size = _
  simp
theorem cell_keeps {w w' : World} {p : Addr} {v : Value} (h : w.cell? p = some v) (hb : Below w.heap.size w w') : w'.cell? p = some v :=
  (hb.cell (World.block_lt_of_cell? w _ h)).trans h
theorem size_alloc (w : World) (a : Obj) : (w.alloc a).heap.size = w.heap.size + 1 := size1 w a
theorem heap_past {w : World} {k : Nat} {x : Obj} (o : Obj) (h : w.heap[k]? = some x) : (w.alloc o).heap[k]? = some x :=
  (Below.heap_alloc w o k (Array.getElem?_eq_some_iff.1 h).1).trans h
theorem heap_new {w : World} {k : Nat} (o : Obj) (h : k = w.heap.size) : (w.alloc o).heap[k]? = some o := by rw [h]; exact heap_a1 w o
theorem h4_0 (w : World) (a b c d : Obj) : ((((w.alloc a).alloc b).alloc c).alloc d).heap[w.heap.size]? = some a := heap_past _ (heap_past _ (heap_past _ (heap_a1 w a)))
theorem h4_1 (w : World) (a b c d : Obj) : ((((w.alloc a).alloc b).alloc c).alloc d).heap[w.heap.size + 1]? = some b := heap_past _ (heap_past _ (heap_new _ (by rw [size_alloc])))
theorem h4_2 (w : World) (a b c d : Obj) : ((((w.alloc a).alloc b).alloc c).alloc d).heap[w.heap.size + 2]? = some c := heap_past _ (heap_new _ (by rw [size_alloc, size_alloc]))
theorem h4_3 (w : World) (a b c d : Obj) : ((((w.alloc a).alloc b).alloc c).alloc d).heap[w.heap.size + 3]? = some d := heap_new _ (by rw [size_alloc, size_alloc, size_alloc])
theorem h3_0 (w : World) (a b c : Obj) : (((w.alloc a).alloc b).alloc c).heap[w.heap.size]? = some a := heap_past _ (heap_past _ (heap_a1 w a))
theorem h3_1 (w : World) (a b c : Obj) : (((w.alloc a).alloc b).alloc c).heap[w.heap.size + 1]? = some b := heap_past _ (heap_new _ (by rw [size_alloc]))
theorem h3_2 (w : World) (a b c : Obj) : (((w.alloc a).alloc b).alloc c).heap[w.heap.size + 2]? = some c := heap_new _ (by rw [size_alloc, size_alloc])
theorem bel_a3 (w : World) (a b c : Obj) : Below w.heap.size w (((w.alloc a).alloc b).alloc c) := (bel_alloc2 w a b).alloc (by rw [size2]; omega) _
theorem size3 (w : World) (a b c : Obj) : (((w.alloc a).alloc b).alloc c).heap.size = w.heap.size + 3 := by rw [size_alloc, size2]
theorem bel_a4 (w : World) (a b c d : Obj) : Below w.heap.size w ((((w.alloc a).alloc b).alloc c).alloc d) := (bel_a3 w a b c).alloc (by rw [size3]; omega) _
theorem size4 (w : World) (a b c d : Obj) : ((((w.alloc a).alloc b).alloc c).alloc d).heap.size = w.heap.size + 4 := by rw [size_alloc, size3]
end Go.Proofs.YtcpjdgfnblkfpaaGreatDoor
