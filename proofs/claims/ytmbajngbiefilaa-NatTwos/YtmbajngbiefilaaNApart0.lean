/-
  plumblaw2's Keep: Apart, by its contract: what is kept lies apart, each answer in memory of its own.
-/
import Derived.Test.YtmbajngbiefilaaNKeep
import Derived.Lib.AppendZerosOnto
namespace Go.Proofs.Ytmbajngbiefilaa
open Go Go.RowKit Go.Proofs.Ytmbajngbiefilaa.M
set_option linter.unusedSimpArgs false
set_option linter.unusedVariables false

theorem zero_cells (L : Nat) : (Builtin.zeroCells (Value.int .i64 0).cells L).toList = vals (fun _ => 0) L := by
  apply vals_ext
  · rw [Array.length_toList, size_zeroCells]; show L * 1 = L; omega
  · intro i hi
    rw [Array.getElem?_toList]
    show ((Array.range (L * 1)).map fun i => (#[Value.int .i64 0] : Array Value)[i % 1]!)[i]? = _
    simp [Nat.mod_one, hi]
theorem run_append_room_zeros {P : Program} (w : World) (t tn ty e : TypeId) (i : TypeInfo) (z : Value) (kq kn : IntKind) (ht : P.underlying t = some (.slice e)) (htn : P.underlying tn = some (.int kn)) (hi : P.info? e = some i) (hz : i.zero = some z)
    (g sLen sCap : Nat) (cur : Array Value) (hg : w.heap[g]? = some (.cells cur e (0, 0))) (k : Nat) (h0 : 0 < k) (hs : 0 < i.size) (h1 : ∀ u ∈ (Builtin.zeroCells z.cells k).toList, u.oneCell' = true) (h63 : (k : Int) ≤ 9223372036854775807) (h48 : k * i.bytes ≤ 281474976710656)
    (hroom : sLen + k ≤ sCap) (hfit : sLen * i.size + (Builtin.zeroCells z.cells k).toList.length ≤ cur.size) :
    (Builtin.append_ #[t, tn] ty #[.slice (some ⟨g, 0, none⟩) sLen sCap, .int kq k]).run P w =
      .ok (.slice (some ⟨g, 0, none⟩) (sLen + k) sCap) (w.setRow g (cur.toList.take (sLen * i.size) ++ (Builtin.zeroCells z.cells k).toList ++ cur.toList.drop (sLen * i.size + (Builtin.zeroCells z.cells k).toList.length)).toArray) := by
  have hst := run_storeCells_at P g (sLen * i.size) e (Builtin.zeroCells z.cells k).toList 0 cur w hg (by simpa using hfit) h1
  simp only [Nat.add_zero] at hst
  have hk : k ≠ 0 := by omega
  have hw : IntKind.i64.wrap (k : Int) = k := by rw [IntKind.wrap_i64]; omega
  have h48i : ¬ (281474976710656 < (k : Int) * (i.bytes : Int)) := by
    rw [← Int.natCast_mul]
    omega
  have hneg : ¬ ((k : Int) < 0) := by omega
  have hns : ¬ (k * i.size = 0) := Nat.mul_ne_zero hk (by omega)
  simp [Builtin.append_, run_underlying ht, run_underlying htn, sizeOf, typeInfo, zeroValue, hi, hz, asInt, asIntOf, hw, hneg, hns, hroom, h48i, Addr.add_lit, hst]
/-- 'append(xs, make([]int, L)...)', L at least 1: the old slice reads as it did. -/
theorem run_zeros_keep {w : World} (ty : TypeId) (B : Nat) (v : Value) (n : Nat) (d : Nat → Int) (hO : Out B w v n d) (L : Nat) (hL : 0 < L) (hlen : n + L ≤ 1000000) (hB : B ≤ w.heap.size) :
    ∃ g cap w', (Builtin.append_ #[22, 3] ty #[v, .int .i64 L]).run Try.prog w = .ok (.slice (some ⟨g, 0, none⟩) (n + L) cap) w' ∧ Out B w' (.slice (some ⟨g, 0, none⟩) (n + L) cap) (n + L) (cat d n fun _ => 0) ∧ Out B w' v n d ∧ w.grownBy w' v.ownBlock ∧ (v.ownBlock = some g ∨ g = w.heap.size) := by
  obtain ⟨i0, hi, hz0, hz1, hz2⟩ := info_parts info_int
  have hone : ∀ u ∈ (Builtin.zeroCells (Value.int .i64 0).cells L).toList, u.oneCell' = true := by rw [zero_cells]; exact vals_one _ _
  have hzl : (Builtin.zeroCells (Value.int .i64 0).cells L).toList.length = L := by rw [zero_cells, vals_length]
  have fresh : ∀ (bo : Option Addr) (cap0 : Nat) (_ : v = .slice bo n cap0) (_ : cap0 < n + L) (_ : (Builtin.firstCells i0.size n (.slice bo n cap0)).run Try.prog w.drew = .ok (vals d n).toArray w.drew),
      ∃ g cap w', (Builtin.append_ #[22, 3] ty #[v, .int .i64 L]).run Try.prog w = .ok (.slice (some ⟨g, 0, none⟩) (n + L) cap) w' ∧ Out B w' (.slice (some ⟨g, 0, none⟩) (n + L) cap) (n + L) (cat d n fun _ => 0) ∧ Out B w' v n d ∧ w.grownBy w' v.ownBlock ∧ (v.ownBlock = some g ∨ g = w.heap.size) := by
    intro bo cap0 hv hcap hfc
    have hr := Lib.run_append_grow_zeros (P := Try.prog) w 22 3 ty 3 i0 (.int .i64 0) .i64 .i64 Try.underlying22 Try.underlying3 hi hz0 bo n cap0 (vals d n) hfc L hL (by rw [hz1]; decide) hcap (by omega) (by rw [hz2]; omega) (growslice_fits hcap (by rw [hz2]; omega))
    have hge := grownCap_ge w (n + L) cap0 3
    have hcm := grownCap_le_maxLen w (n + L) cap0 3 (by unfold maxLen; omega)
    refine ⟨_, _, _, by rw [hv]; exact hr, ⟨by rw [vals_length]; omega, .inr ⟨w.heap.size, _, _, rfl, hB, heap_alloc_new w.drew _, hge, hcm, ?_, ?_⟩⟩, ?_, ?_, .inr rfl⟩
    · simp only [Array.size_append, List.size_toArray, size_zeroCells, vals_length]
      show n + L * 1 + _ * 1 = _
      omega
    · simp only [Array.toList_append, zero_cells]
      rw [vals_cat, Nat.mul_one]
      exact List.take_left' (vals_length _ _)
    · exact Out.of_block hO fun g hg => Below.heap_alloc w.drew _ g (hO.ge hg).2
    · exact ⟨rfl, rfl, rfl, by simp, fun k hk _ => Below.heap_alloc w.drew _ k hk⟩
  rcases hO.2 with ⟨rfl, rfl⟩ | ⟨g0, cap0, cur, rfl, hbb, hg0, hn, hcm, hcs, htake⟩
  · exact fresh none 0 rfl (by omega) (by simp [run_firstCells_none, vals])
  · by_cases hroom : n + L ≤ cap0
    · have hr2 := run_append_room_zeros (P := Try.prog) w 22 3 ty 3 i0 (.int .i64 0) .i64 .i64 Try.underlying22 Try.underlying3 hi hz0 g0 n cap0 cur hg0 L hL (by rw [hz1]; decide) hone (by omega) (by rw [hz2]; omega) hroom (by rw [hzl, hz1]; omega)
      rw [hzl, hz1, zero_cells, Nat.mul_one] at hr2
      simp only [Nat.mul_one] at htake
      rw [htake] at hr2
      refine ⟨g0, cap0, _, hr2, ⟨by rw [vals_length]; omega, .inr ⟨g0, cap0, _, rfl, hbb, setRow_heap w g0 cur _ _ _ hg0, hroom, hcm, ?_, ?_⟩⟩, ⟨hO.1, .inr ⟨g0, cap0, _, rfl, hbb, setRow_heap w g0 cur _ _ _ hg0, hn, hcm, ?_, ?_⟩⟩, ⟨rfl, rfl, rfl, by simp, fun k _ hk => setRow_other w g0 k _ (fun e => hk (by simp [Value.ownBlock, e]))⟩, .inl rfl⟩
      · simp only [List.size_toArray, List.length_append, List.length_drop, Array.length_toList, vals_length]
        omega
      · rw [vals_cat, Nat.mul_one]
        exact List.take_left' (vals_length _ _)
      · simp only [List.size_toArray, List.length_append, List.length_drop, Array.length_toList, vals_length]
        omega
      · rw [List.append_assoc, Nat.mul_one]
        exact List.take_left' (vals_length _ _)
    · refine fresh _ cap0 rfl (by omega) ?_
      exact run_firstCells_some (P := Try.prog) w.drew i0.size n ⟨g0, 0, none⟩ n cap0 (vals d n) (by rw [vals_length, hz1]; omega) (hO.cells (g := g0) rfl)
theorem wpList_zeros_keep {w : World} {ops : Array Oper} {rest : List Oper} {o : Oper} {a : Act} {Q : Exit → Act → World → Prop} (hgd : o.guard = none) (s x : Operand) (ho : o.op = .call { callee := .builtin .append, args := #[s, x], argTypes := #[22, 3] })
    (B : Nat) (v : Value) (n : Nat) (d : Nat → Int) (hs : a.eval s = v) (hO : Out B w v n d) (L : Nat) (X : Int) (hx : a.eval x = .int .i64 X) (hX : X = L) (hL : 0 < L) (hlen : n + L ≤ 1000000) (hB : B ≤ w.heap.size)
    (h : ∀ g cap w', Out B w' (.slice (some ⟨g, 0, none⟩) (n + L) cap) (n + L) (cat d n fun _ => 0) → Out B w' v n d → w.grownBy w' v.ownBlock → (v.ownBlock = some g ∨ g = w.heap.size) → wpList Try.prog ops Q rest (a.put o.dst (.slice (some ⟨g, 0, none⟩) (n + L) cap)) w') : wpList Try.prog ops Q (o :: rest) a w := by
  subst hX
  obtain ⟨g, cap, w', hr, h2, h3, h4, h5⟩ := run_zeros_keep o.type B v n d hO L hL hlen hB
  exact Lib.wpList_append_run w hgd s x _ _ ho v (.int .i64 L) hs hx _ w' hr (h g cap w' h2 h3 h4 h5)
/-- A store elsewhere, or behind its end. -/
theorem Out.far {B : Nat} {w : World} {v : Value} {n : Nat} {d : Nat → Int} (h : Out B w v n d) (g j : Nat) (x : Int) (hj : v.ownBlock = some g → n ≤ j) : Out B (w.setCell ⟨g, j, none⟩ (.int .i64 x)) v n d := by
  rcases h.2 with ⟨rfl, rfl⟩ | ⟨g0, cap0, cur, rfl, hbb, hg0, hn, hcm, hcs, htake⟩
  · exact Out.nil _ _ _
  · by_cases e : g0 = g
    · subst e
      refine ⟨h.1, .inr ⟨g0, cap0, _, rfl, hbb, heap_setCell_same w g0 j cur _ _ hg0, hn, hcm, by simpa using hcs, ?_⟩⟩
      have hj := hj rfl
      rw [← htake]
      apply List.ext_getElem?
      intro i
      rw [List.getElem?_take, List.getElem?_take]
      split
      · rw [Array.getElem?_toList, Array.getElem?_toList, Array.getElem?_setIfInBounds_ne (by omega)]
      · rfl
    · exact h.of_block fun k hk => by
        simp only [Value.ownBlock, Option.some.injEq] at hk
        subst hk
        exact Below.heap_setCell _ _ _ _ e
/-- What is kept, as Apart turns it: m answers v of n digits d. -/
structure Ka (B : Nat) (w : World) (k m : Nat) (x y : Value) (v : Nat → Value) (n : Nat → Nat) (d : Nat → Nat → Int) : Prop where
  blk : w.heap[k]? = some (Obj.cells #[x, y] 26 (0, 0))
  ox : OutV B w x m v
  ge : B ≤ k
  ans : ∀ i, i < m → Out B w (v i) (n i) (d i)
  len : ∀ i, i < m → n i ≤ 100000
  apart : ∀ i j, i < m → j < m → i ≠ j → ∀ g, (v i).ownBlock = some g → (v j).ownBlock ≠ some g
theorem Ka.keeps {B : Nat} {w w' : World} {k m : Nat} {x y : Value} {v : Nat → Value} {n : Nat → Nat} {d : Nat → Nat → Int} (h : Ka B w k m x y v n d) (hb : Below w.heap.size w w') : Ka B w' k m x y v n d :=
  ⟨(hb.block k (Array.getElem?_eq_some_iff.1 h.blk).1).trans h.blk, h.ox.of_block fun g hg => hb.block g (h.ox.ge hg).2, h.ge, fun i hi => (h.ans i hi).stays hb, h.len, h.apart⟩
theorem Ka.step {B : Nat} {w w' : World} {k m : Nat} {x y : Value} {v : Nat → Value} {n : Nat → Nat} {d : Nat → Nat → Int} (h : Ka B w k m x y v n d) {i : Nat} (hi : i < m) {e : Nat → Int} (hg : w.grownBy w' (v i).ownBlock) (hO : Out B w' (v i) (n i) e) : Ka B w' k m x y v n (updV d i e) := by
  refine ⟨(hg.block k (Array.getElem?_eq_some_iff.1 h.blk).1 fun q => ?_).trans h.blk, h.ox.of_block fun g hgx => hg.block g (h.ox.ge hgx).2 fun q => ?_, h.ge, fun j hj => ?_, h.len, h.apart⟩
  · obtain ⟨cur, z, hc⟩ := (h.ans i hi).typed q.symm
    rw [h.blk] at hc
    simp at hc
  · obtain ⟨cur, z, hc⟩ := (h.ans i hi).typed q.symm
    obtain ⟨cur', z', hc'⟩ := h.ox.typed hgx
    rw [hc'] at hc
    simp at hc
  · by_cases q : j = i
    · subst q; rw [updV_same]; exact hO
    · rw [updV_other _ _ q]
      exact (h.ans j hj).of_block fun g hgj => hg.block g ((h.ans j hj).ge hgj).2 fun p => h.apart j i hj hi q g hgj p.symm
theorem grown_set (w : World) (g j : Nat) (x : Value) : w.grownBy (w.setCell ⟨g, j, none⟩ x) (some g) :=
  ⟨rfl, rfl, rfl, by simp [World.setCell], fun k hk hne => Below.heap_setCell _ _ _ _ fun e => hne (by change k = g at e; rw [e])⟩
theorem grown_trans {a b c : World} {r : Option Nat} (h : a.grownBy b r) (k : b.grownBy c r) : a.grownBy c r :=
  ⟨k.os.trans h.os, k.tape.trans h.tape, k.output.trans h.output, Nat.le_trans h.size k.size, fun i hi hne => (k.block i (Nat.lt_of_lt_of_le hi h.size) hne).trans (h.block i hi hne)⟩
theorem grown_more {w w' : World} {r : Option Nat} {g : Nat} (h : w.grownBy w' r) (hat : r = some g ∨ g = w.heap.size) (j : Nat) (x : Value) : w.grownBy (w'.setCell ⟨g, j, none⟩ x) r :=
  ⟨h.os, h.tape, h.output, by simp [World.setCell]; exact h.size, fun k hk hne => (Below.heap_setCell _ _ _ _ fun e => by
    change k = g at e
    rcases hat with q | q
    · exact hne (by rw [q, e])
    · omega).trans (h.block k hk hne)⟩
theorem World.ownsRow.capLe {w : World} {B : Nat} {e : TypeId} {ao : Option Addr} {n cap : Nat} {xs : List Value} (h : w.ownsRow B e 1 (.slice ao n cap) n xs) : n ≤ cap ∧ cap ≤ 9223372036854775807 := by
  rcases h.2 with ⟨q, _⟩ | ⟨g, cap', cur, q, _, _, hn, hm, _⟩
  · simp only [Value.slice.injEq] at q; omega
  · simp only [Value.slice.injEq] at q; unfold maxLen at hm; omega
theorem updV_self {α : Type} (v : Nat → α) (i : Nat) : updV v i (v i) = v := by
  funext j
  by_cases h : j = i
  · subst h; rw [updV_same]
  · rw [updV_other _ _ h]
theorem Ka.at {B : Nat} {w : World} {k m gx xc : Nat} {y : Value} {v : Nat → Value} {n : Nat → Nat} {d : Nat → Nat → Int} (h : Ka B w k m (.slice (some ⟨gx, 0, none⟩) m xc) y v n d) {p : Nat} (hp : p < m) :
    ∃ vo vc, v p = .slice vo (n p) vc ∧ n p ≤ vc ∧ vc ≤ 9223372036854775807 ∧ w.cell? ⟨gx, p, none⟩ = some (.slice vo (n p) vc) ∧ w.cell? ⟨k, 0, none⟩ = some (.slice (some ⟨gx, 0, none⟩) m xc) ∧ (0 < n p → ∃ g, vo = some ⟨g, 0, none⟩) := by
  obtain ⟨vo, vc, hv, rv⟩ := (h.ans p hp).row
  refine ⟨vo, vc, hv, rv.le, rv.max, ?_, (keep_at h.blk).1, fun hn => ?_⟩
  · rw [World.ownsRow.cellAt h.ox p (by omega), valsV_get v hp, hv]
  · have := h.ans p hp
    rw [hv] at this
    obtain ⟨g, e, _⟩ := this.spot hn
    exact ⟨g, e⟩
theorem Ka.cellAt {B : Nat} {w : World} {k m : Nat} {x y : Value} {v : Nat → Value} {n : Nat → Nat} {d : Nat → Nat → Int} (h : Ka B w k m x y v n d) {p s g vc : Nat} (hp : p < m) (hs : s < n p) (hv : v p = .slice (some ⟨g, 0, none⟩) (n p) vc) :
    w.cell? ⟨g, s, none⟩ = some (.int .i64 (d p s)) ∧ w.frozen? ⟨g, s, none⟩ = false := by
  have := h.ans p hp
  rw [hv] at this
  exact ⟨this.cell hs, this.frozen s⟩
theorem Ka.put {B : Nat} {w : World} {k m : Nat} {x y : Value} {v : Nat → Value} {n : Nat → Nat} {d : Nat → Nat → Int} (h : Ka B w k m x y v n d) {p s g vc : Nat} (hp : p < m) (hs : s < n p) (hv : v p = .slice (some ⟨g, 0, none⟩) (n p) vc) (z : Int) :
    Ka B (w.setCell ⟨g, s, none⟩ (.int .i64 z)) k m x y v n (updV d p (upd (d p) s z)) ∧ B ≤ g := by
  have h0 := h.ans p hp
  have h1 := h0
  rw [hv] at h0
  refine ⟨h.step hp (by rw [hv]; exact grown_set w g s _) (by rw [hv]; exact h0.store hs z), (h1.ge (g := g) (by rw [hv]; rfl)).1⟩
theorem same_self (ao bo : Option Addr) (n ca cb : Nat) (a : Nat → Int) (w : World) (ha : Row w ao n ca a) (hb : Row w bo n cb a) :
    Calls Try.prog 17 #[.slice ao n ca, .slice bo n cb] w fun e w' => e = .returned (.bool true) ∧ Below w.heap.size w w' := by
  refine (same_any ao bo n n ca cb a a w ha hb).mono ?_
  rintro e w' ⟨rfl, h⟩
  exact ⟨ret_bool (decide_eq_true ⟨rfl, fun _ _ => rfl⟩), h⟩
end Go.Proofs.Ytmbajngbiefilaa
