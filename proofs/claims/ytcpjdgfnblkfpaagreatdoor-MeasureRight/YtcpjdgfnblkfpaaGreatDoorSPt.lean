/-
  Package span: read, valid, told, joined, by their contracts.
-/
import Derived.Test.YtcpjdgfnblkfpaaGreatDoorSM
import Derived.Test.YtcpjdgfnblkfpaaGreatDoorQTop
namespace Go.Proofs.YtcpjdgfnblkfpaaGreatDoor
open Go Go.RowKit Go.Proofs.YtcpjdgfnblkfpaaGreatDoor.M
set_option linter.unusedSimpArgs false
set_option linter.unusedVariables false

/-- an interval by its ends' patterns -/
def ivl (lo hi : Int) : Value := .agg #[.float .f64 (wd lo), .float .f64 (wd hi)]
def spn (lo hi : Int) : Value := .agg #[.int .i64 lo, .int .i64 hi]
set_option maxRecDepth 100000 in
theorem spanReadX (x y : Int) (w : World) :
    Calls Tryz.prog 88 #[spn x y] w fun e w' => e = .returned (ivl x y) ∧ w' = ((w.alloc (.cells #[.int .i64 x, .int .i64 y] 55)).alloc (.cells #[.float .f64 (wd x), .float .f64 (wd y)] 98)).drew := by
  unfold spn ivl
  have hx : Hid ((((w.alloc (.cells #[.int .i64 x, .int .i64 y] 55)).alloc (.cells #[.float .f64 0, .float .f64 0] 98)).setCell ⟨w.heap.size + 1, 0, none⟩ (.float .f64 (wd x))).setCell ⟨w.heap.size + 1, 1, none⟩ (.float .f64 (wd y)) = (w.alloc (.cells #[.int .i64 x, .int .i64 y] 55)).alloc (.cells #[.float .f64 (wd x), .float .f64 (wd y)] 98)) := by
    unfold Hid
    rw [World.setCell_alloc_at _ _ _ _ _ (by simp), World.setCell_alloc_at _ _ _ _ _ (by simp)]
    rfl
  have hb2 := bel_alloc2 w (.cells #[.int .i64 x, .int .i64 y] 55) (.cells #[.float .f64 0, .float .f64 0] 98)
  have q0 := heap_a2 w (.cells #[.int .i64 x, .int .i64 y] 55) (.cells #[.float .f64 0, .float .f64 0] 98)
  have q1 := heap_b2 w (.cells #[.int .i64 x, .int .i64 y] 55) (.cells #[.float .f64 0, .float .f64 0] 98)
  have hs := size2 w (.cells #[.int .i64 x, .int .i64 y] 55) (.cells #[.float .f64 0, .float .f64 0] 98)
  have k0 := blkC q0 0 rfl
  have k1 := blkC q0 1 rfl
  go_enter Tryz.func88, Tryz.ntmps88
  go_wp2_with fail
  generalize hwx : (w.alloc (.cells #[.int .i64 x, .int .i64 y] 55)).alloc (.cells #[.float .f64 0, .float .f64 0] 98) = wx at hb2 q0 q1 hs k0 k1 hx ⊢
  clear hwx
  have hc : w.heap.size < w.heap.size + 1 ∧ w.heap.size + 1 ≤ wx.drew.heap.size ∧ wx.drew.cell? ⟨w.heap.size, 0, none⟩ = some (.int .i64 x) ∧ wx.drew.cell? ⟨w.heap.size, 1, none⟩ = some (.int .i64 y) := ⟨by omega, by show _ ≤ wx.heap.size; omega, k0, k1⟩
  have d1 : wx.drew.heap[w.heap.size + 1]? = some (.cells #[.float .f64 0, .float .f64 0] 98 (0, 0)) := q1
  have d2 : ((wx.setCell ⟨w.heap.size + 1, 0, none⟩ (.float .f64 (wd x))).drew).heap[w.heap.size + 1]? = some (.cells #[.float .f64 (wd x), .float .f64 0] 98 (0, 0)) := q_heap_set d1 0 (.float .f64 (wd x))
  have d3 : (((wx.setCell ⟨w.heap.size + 1, 0, none⟩ (.float .f64 (wd x))).setCell ⟨w.heap.size + 1, 1, none⟩ (.float .f64 (wd y))).drew).heap[w.heap.size + 1]? = some (.cells #[.float .f64 (wd x), .float .f64 (wd y)] 98 (0, 0)) := q_heap_set d2 1 (.float .f64 (wd y))
  have f0 := blkC d1 0 rfl
  have z0 := blkF d1 0
  have f1 := blkC d2 1 rfl
  have z1 := blkF d2 1
  have s0 : (store ⟨w.heap.size + 1, 0, none⟩ (.float .f64 (wd x))).run Tryz.prog wx.drew = .ok () ((wx.setCell ⟨w.heap.size + 1, 0, none⟩ (.float .f64 (wd x))).drew) := by rw [run_store _ _ _ _ _ rfl, f0]; simp only [z0]; rfl
  have s1 : (store ⟨w.heap.size + 1, 1, none⟩ (.float .f64 (wd y))).run Tryz.prog ((wx.setCell ⟨w.heap.size + 1, 0, none⟩ (.float .f64 (wd x))).drew) = .ok () (((wx.setCell ⟨w.heap.size + 1, 0, none⟩ (.float .f64 (wd x))).setCell ⟨w.heap.size + 1, 1, none⟩ (.float .f64 (wd y))).drew) := by rw [run_store _ _ _ _ _ rfl, f1]; simp only [z1]; rfl
  go_region_held3 (fun W => w.heap.size < w.heap.size + 1 ∧ w.heap.size + 1 ≤ W.heap.size ∧ W.cell? ⟨w.heap.size, 0, none⟩ = some (.int .i64 x) ∧ W.cell? ⟨w.heap.size, 1, none⟩ = some (.int .i64 y))
    (first | assumption | (repeat (first | exact hc | refine q_two_set (by omega) ?_)))
    ((go_at_call 50; refine (bitsFloat _ _).mono ?_; rintro _ _ ⟨rfl, rfl⟩))
  have e0 := blkC d3 0 rfl
  have e1 := blkC d3 1 rfl
  clear s0 s1 f0 f1 z0 z1 d1 d2 d3
  generalize (wx.setCell ⟨w.heap.size + 1, 0, none⟩ (.float .f64 (wd x))).setCell ⟨w.heap.size + 1, 1, none⟩ (.float .f64 (wd y)) = wy at *
  go_wp2
  refine bodyPost_ret (v := .agg #[.float .f64 (wd x), .float .f64 (wd y)]) (by simp [results, Tryz.results88, go_sem, e0, e1]) rfl ⟨rfl, by rw [hx.out]⟩
theorem spanRead (x y : Int) (w : World) :
    Calls Tryz.prog 88 #[spn x y] w fun e w' => e = .returned (ivl x y) ∧ Below w.heap.size w w' :=
  (spanReadX x y w).mono fun _ _ ⟨h1, h2⟩ => ⟨h1, by rw [h2]; exact (bel_alloc2 w _ _).drew⟩
theorem isInf_up {p : Int} (h : nn p) (w : World) :
    Calls Tryz.prog 121 #[.float .f64 (wd p), .int .i64 1] w fun e w' => e = .returned (.bool (decide (9218868437227405312 ≤ key p))) ∧ w' = w := by
  have r : rng 9218868437227405311 := by unfold rng; omega
  have c : ¬ cls 9218868437227405311 = 4 := by decide
  have k : key 9218868437227405311 = 9218868437227405311 := by decide
  have e : wd 9218868437227405311 = 9218868437227405311 := by decide
  rcases Int.lt_trichotomy (key p) 9218868437227405311 with g | g | g
  · have o := q_lt h.1 r h.2 c (by rw [k]; exact g)
    rw [e] at o
    rw [decide_eq_false (by omega)]
    go_enter Tryz.func121, Tryz.ntmps121
    go_wp2
    go_ret
    exact ⟨rfl, rfl⟩
  · have o := q_eq h.1 r h.2 c (by rw [k]; exact g)
    rw [e] at o
    rw [decide_eq_false (by omega)]
    go_enter Tryz.func121, Tryz.ntmps121
    go_wp2
    go_ret
    exact ⟨rfl, rfl⟩
  · have o := q_gt h.1 r h.2 c (by rw [k]; exact g)
    rw [e] at o
    rw [decide_eq_true (by omega)]
    go_enter Tryz.func121, Tryz.ntmps121
    go_wp2
    go_ret
    exact ⟨rfl, rfl⟩
theorem neg_wd {p : Int} (h : nn p) : Op.negFloat .f64 (wd p) = wd (neg p) := by
  have hr := h.1
  unfold Op.negFloat
  show wd p ^^^ 2 ^ 63 = _
  unfold neg
  rw [if_neg h.2]
  unfold rng at hr
  by_cases h0 : p < 0
  · rw [if_pos h0]
    have e : wd p = 2 ^ 63 + wd (p + 9223372036854775808) := by unfold wd; omega
    rw [e, xor_top' 63 _ (by unfold wd; omega)]
  · rw [if_neg h0, Nat.xor_comm, xor_top 63 _ (by unfold wd; omega)]
    unfold wd; omega
theorem run_negF {P : Program} {p : Int} (h : nn p) (w : World) : (Op.unary UnOp.neg (.float .f64 (wd p))).run P w = .ok (.float .f64 (wd (neg p))) w := by
  show (pure (Value.float .f64 (Op.negFloat .f64 (wd p))) : Sem Value).run P w = _
  rw [neg_wd h]
  rfl
theorem nn_neg {p : Int} (h : nn p) : nn (neg p) ∧ key (neg p) = - key p := by
  obtain ⟨a, b⟩ := key_neg h.1 h.2
  exact ⟨⟨rng_neg h.1, b⟩, a⟩
theorem isInf_down {p : Int} (h : nn p) (w : World) :
    Calls Tryz.prog 121 #[.float .f64 (wd p), .int .i64 (-1)] w fun e w' => e = .returned (.bool (decide (key p ≤ -9218868437227405312))) ∧ w' = w := by
  have r : rng 9218868437227405311 := by unfold rng; omega
  have c : ¬ cls 9218868437227405311 = 4 := by decide
  have k : key 9218868437227405311 = 9218868437227405311 := by decide
  have e : wd 9218868437227405311 = 9218868437227405311 := by decide
  have hN := fun W => run_negF (P := Tryz.prog) h W
  obtain ⟨g0, g1⟩ := nn_neg h
  rcases Int.lt_trichotomy (key (neg p)) 9218868437227405311 with g | g | g
  · have o := q_lt g0.1 r g0.2 c (by rw [k]; exact g)
    rw [e] at o
    rw [decide_eq_false (by omega)]
    clear g1 g
    go_enter Tryz.func121, Tryz.ntmps121
    go_wp2
    go_ret
    exact ⟨rfl, rfl⟩
  · have o := q_eq g0.1 r g0.2 c (by rw [k]; exact g)
    rw [e] at o
    rw [decide_eq_false (by omega)]
    clear g1 g
    go_enter Tryz.func121, Tryz.ntmps121
    go_wp2
    go_ret
    exact ⟨rfl, rfl⟩
  · have o := q_gt g0.1 r g0.2 c (by rw [k]; exact g)
    rw [e] at o
    rw [decide_eq_true (by omega)]
    clear g1 g
    go_enter Tryz.func121, Tryz.ntmps121
    go_wp2
    go_ret
    exact ⟨rfl, rfl⟩
set_option maxRecDepth 100000 in
theorem ivlValid {lo hi : Int} (hl : rng lo) (hh : rng hi) (w : World) :
    Calls Tryz.prog 89 #[ivl lo hi] w fun e w' => e = .returned (.bool (vld lo hi)) ∧ Below w.heap.size w w' := by
  unfold ivl
  by_cases h4 : cls lo = 4 ∨ cls hi = 4
  · have o := order64_nan hl hh h4
    rw [show vld lo hi = false from decide_eq_false (fun h => by rcases h4 with g | g; exact h.1 g; exact h.2.1 g)]
    go_enter Tryz.func89, Tryz.ntmps89
    go_wp2
    go_ret
    exact ⟨rfl, bel_alloc _ _⟩
  have h1 : ¬ cls lo = 4 := fun h => h4 (.inl h)
  have h2 : ¬ cls hi = 4 := fun h => h4 (.inr h)
  have CU : Hid (∀ W, Calls Tryz.prog 121 #[.float .f64 (wd lo), .int .i64 1] W fun e w' => e = .returned (.bool (decide (9218868437227405312 ≤ key lo))) ∧ w' = W) := fun W => isInf_up ⟨hl, h1⟩ W
  have CD : Hid (∀ W, Calls Tryz.prog 121 #[.float .f64 (wd hi), .int .i64 (-1)] W fun e w' => e = .returned (.bool (decide (key hi ≤ -9218868437227405312))) ∧ w' = W) := fun W => isInf_down ⟨hh, h2⟩ W
  have q0 : (w.alloc (.cells #[.float .f64 (wd lo), .float .f64 (wd hi)] 98)).heap[w.heap.size]? = some (.cells #[.float .f64 (wd lo), .float .f64 (wd hi)] 98 (0, 0)) := by show (w.heap.push _)[w.heap.size]? = _; simp
  have k0 := blkC q0 0 rfl
  have k1 := blkC q0 1 rfl
  have hb := bel_alloc w (.cells #[.float .f64 (wd lo), .float .f64 (wd hi)] 98)
  by_cases g : key hi < key lo
  · have o := q_gt hl hh h1 h2 g
    rw [show vld lo hi = false from decide_eq_false (fun h => by omega)]
    clear CU CD
    go_enter Tryz.func89, Tryz.ntmps89
    go_wp2
    go_ret
    exact ⟨rfl, bel_alloc _ _⟩
  have o : FloatKind.f64.format.order (wd lo) (wd hi) = some .lt ∨ FloatKind.f64.format.order (wd lo) (wd hi) = some .eq := by
    by_cases e : key lo = key hi
    · exact .inr (q_eq hl hh h1 h2 e)
    · exact .inl (q_lt hl hh h1 h2 (by omega))
  by_cases a : 9218868437227405312 ≤ key lo
  · rw [show vld lo hi = false from decide_eq_false (fun h => by omega)]
    rw [decide_eq_true a] at CU
    clear h4 g a CD q0 k0 k1
    rcases o with o | o
    all_goals
      go_enter Tryz.func89, Tryz.ntmps89
      go_wp2_with (go_at_call 121; refine (CU.out _).mono ?_; rintro _ _ ⟨rfl, rfl⟩)
      go_ret
      exact ⟨rfl, hb⟩
  rw [decide_eq_false a] at CU
  by_cases b : key hi ≤ -9218868437227405312
  · rw [show vld lo hi = false from decide_eq_false (fun h => by omega)]
    rw [decide_eq_true b] at CD
    clear h4 g a b q0 k0 k1
    rcases o with o | o
    all_goals
      go_enter Tryz.func89, Tryz.ntmps89
      go_wp2_with fail
      refine (CU.out _).mono ?_
      rintro _ _ ⟨rfl, rfl⟩
      go_wp2_with fail
      refine (CD.out _).mono ?_
      rintro _ _ ⟨rfl, rfl⟩
      go_wp2
      go_ret
      exact ⟨rfl, hb⟩
  · rw [show vld lo hi = true from decide_eq_true ⟨h1, h2, by omega, by omega, by omega⟩]
    rw [decide_eq_false b] at CD
    clear h4 g a b q0 k0 k1
    rcases o with o | o
    all_goals
      go_enter Tryz.func89, Tryz.ntmps89
      go_wp2_with fail
      refine (CU.out _).mono ?_
      rintro _ _ ⟨rfl, rfl⟩
      go_wp2_with fail
      refine (CD.out _).mono ?_
      rintro _ _ ⟨rfl, rfl⟩
      go_wp2
      go_ret
      exact ⟨rfl, hb⟩
end Go.Proofs.YtcpjdgfnblkfpaaGreatDoor
