/-
  plumblaw15.row, sites.From, sites.From32 by contracts.
-/
import Derived.Test.YtbljcodhcodmkaaDoorTGat
namespace Go.Proofs.YtbljcodhcodmkaaDoor
open Go Go.RowKit Go.Proofs.YtbljcodhcodmkaaDoor.M
set_option linter.unusedSimpArgs false
set_option linter.unusedVariables false

def cellsP (px py : Nat → Int) : Nat → List Value
  | 0 => []
  | m + 1 => cellsP px py m ++ [.int .i64 (px m), .int .i64 (py m)]
theorem cellsP_len (px py : Nat → Int) : ∀ m, (cellsP px py m).length = m * 2
  | 0 => rfl
  | m + 1 => by
    rw [cellsP, List.length_append, cellsP_len px py m]
    show m * 2 + 2 = (m + 1) * 2
    omega
theorem cellsP_at (px py : Nat → Int) : ∀ m i, i < m → (cellsP px py m)[i * 2]? = some (.int .i64 (px i)) ∧ (cellsP px py m)[i * 2 + 1]? = some (.int .i64 (py i))
  | 0, i, hi => by omega
  | m + 1, i, hi => by
    have hl := cellsP_len px py m
    rw [cellsP]
    by_cases e : i = m
    · subst e
      rw [List.getElem?_append_right (by omega), List.getElem?_append_right (by omega), hl, show i * 2 - i * 2 = 0 by omega, show i * 2 + 1 - i * 2 = 1 by omega]
      exact ⟨rfl, rfl⟩
    · rw [List.getElem?_append_left (by omega), List.getElem?_append_left (by omega)]
      exact cellsP_at px py m i (by omega)
/-- A list of points, the call's own. -/
def OutQ (B : Nat) (w : World) (v : Value) (n : Nat) (px py : Nat → Int) : Prop := w.ownsRow B 31 2 v n (cellsP px py n)
theorem OutQ.nil (B : Nat) (w : World) (px py : Nat → Int) : OutQ B w (.slice none 0 0) 0 px py := ⟨rfl, .inl ⟨rfl, rfl⟩⟩
theorem OutQ.of_block {B : Nat} {w w' : World} {x : Value} {m : Nat} {px py : Nat → Int} (h : OutQ B w x m px py) (hb : ∀ g, x.ownBlock = some g → w'.heap[g]? = w.heap[g]?) : OutQ B w' x m px py := by
  refine ⟨h.1, ?_⟩
  rcases h.2 with hn | ⟨g, cap, cur, rfl, hbb, hg, rest⟩
  · exact .inl hn
  · exact .inr ⟨g, cap, cur, rfl, hbb, (hb g rfl).trans hg, rest⟩
theorem OutQ.lt {B : Nat} {w : World} {x : Value} {m : Nat} {px py : Nat → Int} (h : OutQ B w x m px py) {g : Nat} (hg : x.ownBlock = some g) : B ≤ g ∧ g < w.heap.size := by
  rcases h.2 with ⟨rfl, _⟩ | ⟨g', cap, cur, rfl, hbb, hg', rest⟩
  · simp [Value.ownBlock] at hg
  · simp only [Value.ownBlock, Option.some.injEq] at hg; subst hg; exact ⟨hbb, (Array.getElem?_eq_some_iff.1 hg').1⟩
theorem OutQ.keeps {B : Nat} {w w' : World} {x : Value} {m : Nat} {px py : Nat → Int} (h : OutQ B w x m px py) (hb : Below w.heap.size w w') : OutQ B w' x m px py := h.of_block fun g hg => hb.block g (h.lt hg).2
theorem OutQ.pts {B : Nat} {w : World} {x : Value} {m : Nat} {px py : Nat → Int} (h : OutQ B w x m px py) : ∃ xo xc, x = .slice xo m xc ∧ PtS w xo m xc px py ∧ (0 < m → ∃ g, xo = some ⟨g, 0, none⟩) := by
  rcases h.2 with ⟨rfl, rfl⟩ | ⟨g, cap, cur, rfl, hb, hg, hn, hm, hs, ht⟩
  · exact ⟨none, 0, rfl, ⟨Nat.le_refl _, by decide, fun h => by omega⟩, fun h => by omega⟩
  · refine ⟨_, cap, rfl, ⟨hn, by unfold maxLen at hm; omega, fun _ => ⟨g, 0, rfl, (Array.getElem?_eq_some_iff.1 hg).1, fun i hi => ?_⟩⟩, fun _ => ⟨g, rfl⟩⟩
    obtain ⟨h0, h1⟩ := cellsP_at px py m i hi
    rw [← ht, List.getElem?_take_of_lt (by omega)] at h0 h1
    rw [Nat.zero_add, cell_of_row w g _ cur _ _ hg, cell_of_row w g _ cur _ _ hg]
    exact ⟨by simpa using h0, by simpa using h1⟩
theorem wpList_appQ {w : World} {ops : Array Oper} {rest : List Oper} {o : Oper} {a : Act} {Q : Exit → Act → World → Prop} (hgd : o.guard = none) (s x : Operand)
    (ho : o.op = .call { callee := .builtin .append, args := #[s, x], argTypes := #[22, 22] }) (B : Nat) (v : Value) (n : Nat) (px py : Nat → Int) (hs : a.eval s = v) (hO : OutQ B w v n px py)
    (g : Nat) (X Y : Int) (hx : a.eval x = .slice (some ⟨g, 0, none⟩) 1 1) (hg : w.heap[g]? = some (.cells #[.int .i64 X, .int .i64 Y] 31 (0, 0))) (hX : X = px n) (hY : Y = py n) (hlen : n ≤ 1000000) (hB : B ≤ w.heap.size)
    (h : ∀ v' w', OutQ B w' v' (n + 1) px py → w.grownBy w' v.ownBlock → (v'.ownBlock = v.ownBlock ∨ v'.ownBlock = some w.heap.size) → wpList Tryd.prog ops Q rest (a.put o.dst v') w') : wpList Tryd.prog ops Q (o :: rest) a w := by
  obtain ⟨i0, hi, hz0, hz1, hz2⟩ := info_parts t_infoP
  refine wpList_append_own_at w hgd s x 22 ho B 31 i0 (.agg #[.int .i64 0, .int .i64 0]) 2 16 Tryd.underlying22 hi hz0 hz1 hz2 rfl (by decide) v n (cellsP px py n) hs hO ⟨g, 0, none⟩ 1 1 [.int .i64 X, .int .i64 Y] hx rfl
    (fun j u hu => by
      rw [add_none, Nat.zero_add]
      match j, hu with
      | 0, hu => rw [cell_of_row w g 0 _ _ _ hg]; simpa using hu
      | 1, hu => rw [cell_of_row w g 1 _ _ _ hg]; simpa using hu
      | j + 2, hu => simp at hu) (by intro u hu; simp at hu; rcases hu with rfl | rfl <;> rfl) (by unfold maxLen; omega) (by omega) hB ?_
  intro v' w' h1 h2 _ h4
  refine h v' w' ?_ h2 h4
  subst hX hY
  exact h1
def ApQ (a b : Value) : Prop := ∀ g, a.ownBlock = some g → b.ownBlock ≠ some g
theorem ApQ.comm {a b : Value} (h : ApQ a b) : ApQ b a := fun g hb ha => h g ha hb
theorem ApQ.app {w : World} {a a' b : Value} {B n : Nat} {px py : Nat → Int} (h : ApQ a b) (hb : OutQ B w b n px py) (e : a'.ownBlock = a.ownBlock ∨ a'.ownBlock = some w.heap.size) : ApQ a' b := fun g ha hg => by
  rcases e with e | e
  · exact h g (e ▸ ha) hg
  · have := (hb.lt hg).2
    rw [e] at ha
    cases ha
    omega
theorem OutQ.grown {B : Nat} {w w' : World} {row : Option Nat} {x : Value} {m : Nat} {px py : Nat → Int} (h : OutQ B w x m px py) (hg : w.grownBy w' row) (hne : ∀ g, x.ownBlock = some g → row ≠ some g) : OutQ B w' x m px py :=
  h.of_block fun g hgx => hg.block g (h.lt hgx).2 fun e => hne g hgx e.symm
theorem ownQ_ge {B : Nat} {w : World} {v : Value} {n : Nat} {px py : Nat → Int} (h : OutQ B w v n px py) : ∀ k, v.ownBlock = some k → B ≤ k := fun k hk => (h.lt hk).1
set_option maxRecDepth 100000 in
set_option maxHeartbeats 2000000 in
theorem tRow (many : Nat) (hm : many ≤ 65540) (w : World) :
    Calls Tryd.prog 14 #[.int .i64 many] w fun r w' => ∃ a b, r = .returned (.tuple #[a, b]) ∧ OutQ w.heap.size w' a many cW (fun _ => 0) ∧ OutQ w.heap.size w' b many xN (fun _ => 0) ∧ Below w.heap.size w w' := by
  go_enter Tryd.func14, Tryd.ntmps14
  go_wp2
  go_loopw [4, 5, 6] (fun av bv iv wr => ∃ k : Nat, k ≤ many ∧ iv = .int .i64 k ∧ Hid (OutQ w.heap.size wr av k cW (fun _ => 0)) ∧ Hid (OutQ w.heap.size wr bv k xN (fun _ => 0)) ∧ Hid (ApQ av bv) ∧ Below w.heap.size w wr) (fun _ _ iv _ => many - (intOf iv).toNat)
  case atStart => exact ⟨0, Nat.zero_le _, rfl, OutQ.nil _ _ _ _, OutQ.nil _ _ _ _, (fun g h => by cases h), bel_refl _⟩
  case round =>
    obtain ⟨k, hk, rfl, HA, HB, HP, hbw⟩ := hrel
    by_cases hlt : k < many
    · have i1 : (k : Int) < (many : Int) := by omega
      have hA0 := HA.out.keeps (bel_alloc wr (.cells #[.int .i64 (4607182418800017408 + (k : Int)), .int .i64 0] 31))
      have hB0 := HB.out.keeps (bel_alloc wr (.cells #[.int .i64 (4607182418800017408 + (k : Int)), .int .i64 0] 31))
      have e1 : (4607182418800017408 + (k : Int)) = cW k := rfl
      have e2 : (1065353216 + (k : Int)) = xN k := rfl
      have HE1 := hideIt e1
      have HE2 := hideIt e2
      clear e1 e2
      go_wp2_with (first
        | (at_builtin; have _t := hv1; refine wpList_appQ rfl _ _ rfl w.heap.size _ k xN (fun _ => 0) rfl hB2 w1.heap.size (1065353216 + (k : Int)) 0 rfl (t_new w1 _) rfl rfl (by omega) (by have := hb1.size; simp; omega) ?_; intro v3 w3 hB3 hg3 hv3)
        | (at_builtin; refine wpList_appQ rfl _ _ rfl w.heap.size _ k cW (fun _ => 0) rfl hA0 wr.heap.size (4607182418800017408 + (k : Int)) 0 rfl (t_new wr _) rfl rfl (by omega) (by have := hbw.size; simp; omega) ?_; intro v1 w1 hA1 hg1 hv1; have hB1 := hB0.grown hg1 HP.out.comm; have hP1 := ApQ.app HP.out hB0 hv1; have hb1 : Below w.heap.size w w1 := (hbw.alloc hbw.size _).grown hg1 (by have := hbw.size; simp; omega) (ownQ_ge hA0); have hA2 := hA1.keeps (bel_alloc w1 (.cells #[.int .i64 (1065353216 + (k : Int)), .int .i64 0] 31)); have hB2 := hB1.keeps (bel_alloc w1 (.cells #[.int .i64 (1065353216 + (k : Int)), .int .i64 0] 31))))
      have hA3 := hA2.grown hg3 hP1
      have hP3 := (ApQ.app hP1.comm hA2 hv3).comm
      have hb3 : Below w.heap.size w w3 := (hb1.alloc hb1.size _).grown hg3 (by have := hb1.size; simp; omega) (ownQ_ge hB2)
      go_roundw
      case rel => exact ⟨k + 1, by omega, by go_num, hA3, hB3, hP3, hb3⟩
      case measure => simp [intOf]; omega
    · obtain rfl : k = many := by omega
      have i1 : ¬ (k : Int) < (k : Int) := by omega
      obtain ⟨ao, ac, rfl, _⟩ := HA.out.pts
      obtain ⟨bo, bc, rfl, _⟩ := HB.out.pts
      go_wp2
      exact bodyPost_ret (v := .tuple #[.slice ao k ac, .slice bo k bc]) (by simp [results, Tryd.results14, go_sem]) rfl ⟨_, _, rfl, HA.out, HB.out, hbw⟩
theorem PtS.take {w : World} {ao : Option Addr} {n m cap : Nat} {px py : Nat → Int} (h : PtS w ao n cap px py) (hm : m ≤ n) : PtS w ao m cap px py :=
  ⟨Nat.le_trans hm h.le, h.max, fun h0 => by
    obtain ⟨b, off, e, hb, hc⟩ := h.spot (by omega)
    exact ⟨b, off, e, hb, fun i hi => hc i (by omega)⟩⟩
theorem PtS.keeps {w w' : World} {ao : Option Addr} {n cap : Nat} {px py : Nat → Int} (h : PtS w ao n cap px py) (hb : Below w.heap.size w w') : PtS w' ao n cap px py := h.stays (Nat.le_refl _) hb
set_option maxRecDepth 100000 in
theorem tFrom {ao : Option Addr} {m cap : Nat} (w : World) (hm : m ≤ 65540) (R : PtS w ao m cap cW (fun _ => 0)) (L : Lays w) :
    Calls Tryd.prog 15 #[.slice ao m cap] w fun r w' => GaR w m r w' := by
  have CG : Hid (Calls Tryd.prog 23 #[.slice ao m cap, .func (.func 18) #[] #[]] w fun r w' => GaR w m r w') := tGath okW w hm R L (by intro cp w; simp [go_sem]) fun j hj W hb => by
    have N := okW.nr j (by omega)
    have := pointNormal N.rx N.ry W (L.below' hb)
    rw [N.ox, N.oy, N.zx, N.zy] at this
    exact this
  clear R L
  go_enter Tryd.func15, Tryd.ntmps15
  go_wp2_with fail
  refine CG.out.mono ?_
  rintro _ y1 ⟨⟨hm6, g, px, py, al, f, rfl, S⟩ | ⟨hm6, rfl⟩, hb⟩
  · go_wp2
    exact bodyPost_ret (v := .tuple #[.pointer (some ⟨g, 0, none⟩), .int .i64 0, .int .i64 0]) (by simp [results, Tryd.results15, go_sem]) rfl ⟨.inl ⟨hm6, g, px, py, al, f, rfl, S⟩, hb⟩
  · go_wp2
    exact bodyPost_ret (v := .tuple #[.pointer none, .int .i64 65536, .int .i64 22]) (by simp [results, Tryd.results15, go_sem]) rfl ⟨.inr ⟨hm6, rfl⟩, hb⟩
set_option maxRecDepth 100000 in
theorem tFrom32 {ao : Option Addr} {m cap : Nat} (w : World) (hm : m ≤ 65540) (R : PtS w ao m cap xN (fun _ => 0)) (L : Lays w) :
    Calls Tryd.prog 16 #[.slice ao m cap] w fun r w' => GaR w m r w' := by
  have CG : Hid (Calls Tryd.prog 23 #[.slice ao m cap, .func (.func 24) #[] #[]] w fun r w' => GaR w m r w') := tGath okN w hm R L (by intro cp w; simp [go_sem]) fun j hj W hb => by
    exact tWidened (by omega) W (L.below' hb)
  clear R L
  go_enter Tryd.func16, Tryd.ntmps16
  go_wp2_with fail
  refine CG.out.mono ?_
  rintro _ y1 ⟨⟨hm6, g, px, py, al, f, rfl, S⟩ | ⟨hm6, rfl⟩, hb⟩
  · go_wp2
    exact bodyPost_ret (v := .tuple #[.pointer (some ⟨g, 0, none⟩), .int .i64 0, .int .i64 0]) (by simp [results, Tryd.results16, go_sem]) rfl ⟨.inl ⟨hm6, g, px, py, al, f, rfl, S⟩, hb⟩
  · go_wp2
    exact bodyPost_ret (v := .tuple #[.pointer none, .int .i64 65536, .int .i64 22]) (by simp [results, Tryd.results16, go_sem]) rfl ⟨.inr ⟨hm6, rfl⟩, hb⟩
end Go.Proofs.YtbljcodhcodmkaaDoor
