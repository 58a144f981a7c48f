/-
  Parts of the proof, one behind another.
-/
import Derived.Test.YtjlmpgbadgkgmaaGreatDoorPart2
import Derived.Lib.AppendZerosOnto
import Derived.Test.YtjlmpgbadgkgmaaGreatDoorPart1
/-
  plumblaw2's Keep: Apart, by its contract: what is kept lies apart, each answer in memory of its own.
-/
namespace Go.Proofs.YtjlmpgbadgkgmaaGreatDoor
open Go Go.RowKit Go.Proofs.YtjlmpgbadgkgmaaGreatDoor.M
set_option linter.unusedSimpArgs false
set_option linter.unusedVariables false

theorem zero_cells (L : Nat) : (Builtin.zeroCells (Value.int .i64 0).cells L).toList = vals (fun _ => 0) L := by
  apply vals_ext
  · rw [Array.length_toList, size_zeroCells]; show L * 1 = L; omega
  · intro i hi
    rw [Array.getElem?_toList]
    show ((Array.range (L * 1)).map fun i => (#[Value.int .i64 0] : Array Value)[i % 1]!)[i]? = _
    simp [Nat.mod_one, hi]
theorem run_append_room_zeros {P : Program} (w : World) (t tn ty e : TypeId) (i : TypeInfo) (z : Value) (kq kn : IntKind) (ht : P.underlying t = some (.slice e)) (htn : P.underlying tn = some (.int kn)) (hi : P.info? e = some i) (hz : i.zero = some z)
    (g sLen sCap : Nat) (cur : Array Value) (hg : w.heap[g]? = some (.cells cur e (0, 0))) (k : Nat) (h0 : 0 < k) (hs : 0 < i.size) (h1 : ∀ u ∈ (Builtin.zeroCells z.cells k).toList, u.oneCell' = true) (h63 : (k : Int) ≤ 9223372036854775807) (h48 : k * i.bytes ≤ 281474976710656)
    (hroom : sLen + k ≤ sCap) (hfit : sLen * i.size + (Builtin.zeroCells z.cells k).toList.length ≤ cur.size) :
    (Builtin.append_ #[t, tn] ty #[.slice (some ⟨g, 0, none⟩) sLen sCap, .int kq k]).run P w =
      .ok (.slice (some ⟨g, 0, none⟩) (sLen + k) sCap) (w.setRow g (cur.toList.take (sLen * i.size) ++ (Builtin.zeroCells z.cells k).toList ++ cur.toList.drop (sLen * i.size + (Builtin.zeroCells z.cells k).toList.length)).toArray) := by
  have hst := run_storeCells_at P g (sLen * i.size) e (Builtin.zeroCells z.cells k).toList 0 cur w hg (by simpa using hfit) h1
  simp only [Nat.add_zero] at hst
  have hk : k ≠ 0 := by omega
  have hw : IntKind.i64.wrap (k : Int) = k := by rw [IntKind.wrap_i64]; omega
  have h48i : ¬ (281474976710656 < (k : Int) * (i.bytes : Int)) := by
    rw [← Int.natCast_mul]
    omega
  have hneg : ¬ ((k : Int) < 0) := by omega
  have hns : ¬ (k * i.size = 0) := Nat.mul_ne_zero hk (by omega)
  simp [Builtin.append_, run_underlying ht, run_underlying htn, sizeOf, typeInfo, zeroValue, hi, hz, asInt, asIntOf, hw, hneg, hns, hroom, h48i, Addr.add_lit, hst]
/-- 'append(xs, make([]int, L)...)', L at least 1: the old slice reads as it did. -/
theorem run_zeros_keep {w : World} (ty : TypeId) (B : Nat) (v : Value) (n : Nat) (d : Nat → Int) (hO : Out B w v n d) (L : Nat) (hL : 0 < L) (hlen : n + L ≤ 1000000) (hB : B ≤ w.heap.size) :
    ∃ g cap w', (Builtin.append_ #[22, 3] ty #[v, .int .i64 L]).run Tryz.prog w = .ok (.slice (some ⟨g, 0, none⟩) (n + L) cap) w' ∧ Out B w' (.slice (some ⟨g, 0, none⟩) (n + L) cap) (n + L) (cat d n fun _ => 0) ∧ Out B w' v n d ∧ w.grownBy w' v.ownBlock ∧ (v.ownBlock = some g ∨ g = w.heap.size) := by
  obtain ⟨i0, hi, hz0, hz1, hz2⟩ := info_parts info_int
  have hone : ∀ u ∈ (Builtin.zeroCells (Value.int .i64 0).cells L).toList, u.oneCell' = true := by rw [zero_cells]; exact vals_one _ _
  have hzl : (Builtin.zeroCells (Value.int .i64 0).cells L).toList.length = L := by rw [zero_cells, vals_length]
  have fresh : ∀ (bo : Option Addr) (cap0 : Nat) (_ : v = .slice bo n cap0) (_ : cap0 < n + L) (_ : (Builtin.firstCells i0.size n (.slice bo n cap0)).run Tryz.prog w.drew = .ok (vals d n).toArray w.drew),
      ∃ g cap w', (Builtin.append_ #[22, 3] ty #[v, .int .i64 L]).run Tryz.prog w = .ok (.slice (some ⟨g, 0, none⟩) (n + L) cap) w' ∧ Out B w' (.slice (some ⟨g, 0, none⟩) (n + L) cap) (n + L) (cat d n fun _ => 0) ∧ Out B w' v n d ∧ w.grownBy w' v.ownBlock ∧ (v.ownBlock = some g ∨ g = w.heap.size) := by
    intro bo cap0 hv hcap hfc
    have hr := Lib.run_append_grow_zeros (P := Tryz.prog) w 22 3 ty 3 i0 (.int .i64 0) .i64 .i64 Tryz.underlying22 Tryz.underlying3 hi hz0 bo n cap0 (vals d n) hfc L hL (by rw [hz1]; decide) hcap (by omega) (by rw [hz2]; omega) (growslice_fits hcap (by rw [hz2]; omega))
    have hge := grownCap_ge w (n + L) cap0 3
    have hcm := grownCap_le_maxLen w (n + L) cap0 3 (by unfold maxLen; omega)
    refine ⟨_, _, _, by rw [hv]; exact hr, ⟨by rw [vals_length]; omega, .inr ⟨w.heap.size, _, _, rfl, hB, heap_alloc_new w.drew _, hge, hcm, ?_, ?_⟩⟩, ?_, ?_, .inr rfl⟩
    · simp only [Array.size_append, List.size_toArray, size_zeroCells, vals_length]
      show n + L * 1 + _ * 1 = _
      omega
    · simp only [Array.toList_append, zero_cells]
      rw [vals_cat, Nat.mul_one]
      exact List.take_left' (vals_length _ _)
    · exact Out.of_block hO fun g hg => Below.heap_alloc w.drew _ g (hO.ge hg).2
    · exact ⟨rfl, rfl, rfl, by simp, fun k hk _ => Below.heap_alloc w.drew _ k hk⟩
  rcases hO.2 with ⟨rfl, rfl⟩ | ⟨g0, cap0, cur, rfl, hbb, hg0, hn, hcm, hcs, htake⟩
  · exact fresh none 0 rfl (by omega) (by simp [run_firstCells_none, vals])
  · by_cases hroom : n + L ≤ cap0
    · have hr2 := run_append_room_zeros (P := Tryz.prog) w 22 3 ty 3 i0 (.int .i64 0) .i64 .i64 Tryz.underlying22 Tryz.underlying3 hi hz0 g0 n cap0 cur hg0 L hL (by rw [hz1]; decide) hone (by omega) (by rw [hz2]; omega) hroom (by rw [hzl, hz1]; omega)
      rw [hzl, hz1, zero_cells, Nat.mul_one] at hr2
      simp only [Nat.mul_one] at htake
      rw [htake] at hr2
      refine ⟨g0, cap0, _, hr2, ⟨by rw [vals_length]; omega, .inr ⟨g0, cap0, _, rfl, hbb, setRow_heap w g0 cur _ _ _ hg0, hroom, hcm, ?_, ?_⟩⟩, ⟨hO.1, .inr ⟨g0, cap0, _, rfl, hbb, setRow_heap w g0 cur _ _ _ hg0, hn, hcm, ?_, ?_⟩⟩, ⟨rfl, rfl, rfl, by simp, fun k _ hk => setRow_other w g0 k _ (fun e => hk (by simp [Value.ownBlock, e]))⟩, .inl rfl⟩
      · simp only [List.size_toArray, List.length_append, List.length_drop, Array.length_toList, vals_length]
        omega
      · rw [vals_cat, Nat.mul_one]
        exact List.take_left' (vals_length _ _)
      · simp only [List.size_toArray, List.length_append, List.length_drop, Array.length_toList, vals_length]
        omega
      · rw [List.append_assoc, Nat.mul_one]
        exact List.take_left' (vals_length _ _)
    · refine fresh _ cap0 rfl (by omega) ?_
      exact run_firstCells_some (P := Tryz.prog) w.drew i0.size n ⟨g0, 0, none⟩ n cap0 (vals d n) (by rw [vals_length, hz1]; omega) (hO.cells (g := g0) rfl)
theorem wpList_zeros_keep {w : World} {ops : Array Oper} {rest : List Oper} {o : Oper} {a : Act} {Q : Exit → Act → World → Prop} (hgd : o.guard = none) (s x : Operand) (ho : o.op = .call { callee := .builtin .append, args := #[s, x], argTypes := #[22, 3] })
    (B : Nat) (v : Value) (n : Nat) (d : Nat → Int) (hs : a.eval s = v) (hO : Out B w v n d) (L : Nat) (X : Int) (hx : a.eval x = .int .i64 X) (hX : X = L) (hL : 0 < L) (hlen : n + L ≤ 1000000) (hB : B ≤ w.heap.size)
    (h : ∀ g cap w', Out B w' (.slice (some ⟨g, 0, none⟩) (n + L) cap) (n + L) (cat d n fun _ => 0) → Out B w' v n d → w.grownBy w' v.ownBlock → (v.ownBlock = some g ∨ g = w.heap.size) → wpList Tryz.prog ops Q rest (a.put o.dst (.slice (some ⟨g, 0, none⟩) (n + L) cap)) w') : wpList Tryz.prog ops Q (o :: rest) a w := by
  subst hX
  obtain ⟨g, cap, w', hr, h2, h3, h4, h5⟩ := run_zeros_keep o.type B v n d hO L hL hlen hB
  exact Lib.wpList_append_run w hgd s x _ _ ho v (.int .i64 L) hs hx _ w' hr (h g cap w' h2 h3 h4 h5)
/-- A store elsewhere, or behind its end. -/
theorem Out.far {B : Nat} {w : World} {v : Value} {n : Nat} {d : Nat → Int} (h : Out B w v n d) (g j : Nat) (x : Int) (hj : v.ownBlock = some g → n ≤ j) : Out B (w.setCell ⟨g, j, none⟩ (.int .i64 x)) v n d := by
  rcases h.2 with ⟨rfl, rfl⟩ | ⟨g0, cap0, cur, rfl, hbb, hg0, hn, hcm, hcs, htake⟩
  · exact Out.nil _ _ _
  · by_cases e : g0 = g
    · subst e
      refine ⟨h.1, .inr ⟨g0, cap0, _, rfl, hbb, heap_setCell_same w g0 j cur _ _ hg0, hn, hcm, by simpa using hcs, ?_⟩⟩
      have hj := hj rfl
      rw [← htake]
      apply List.ext_getElem?
      intro i
      rw [List.getElem?_take, List.getElem?_take]
      split
      · rw [Array.getElem?_toList, Array.getElem?_toList, Array.getElem?_setIfInBounds_ne (by omega)]
      · rfl
    · exact h.of_block fun k hk => by
        simp only [Value.ownBlock, Option.some.injEq] at hk
        subst hk
        exact Below.heap_setCell _ _ _ _ e
/-- What is kept, as Apart turns it: m answers v of n digits d. -/
structure Ka (B : Nat) (w : World) (k m : Nat) (x y : Value) (v : Nat → Value) (n : Nat → Nat) (d : Nat → Nat → Int) : Prop where
  blk : w.heap[k]? = some (Obj.cells #[x, y] 26 (0, 0))
  ox : OutV B w x m v
  ge : B ≤ k
  ans : ∀ i, i < m → Out B w (v i) (n i) (d i)
  len : ∀ i, i < m → n i ≤ 100000
  apart : ∀ i j, i < m → j < m → i ≠ j → ∀ g, (v i).ownBlock = some g → (v j).ownBlock ≠ some g
theorem Ka.keeps {B : Nat} {w w' : World} {k m : Nat} {x y : Value} {v : Nat → Value} {n : Nat → Nat} {d : Nat → Nat → Int} (h : Ka B w k m x y v n d) (hb : Below w.heap.size w w') : Ka B w' k m x y v n d :=
  ⟨(hb.block k (Array.getElem?_eq_some_iff.1 h.blk).1).trans h.blk, h.ox.of_block fun g hg => hb.block g (h.ox.ge hg).2, h.ge, fun i hi => (h.ans i hi).stays hb, h.len, h.apart⟩
theorem Ka.step {B : Nat} {w w' : World} {k m : Nat} {x y : Value} {v : Nat → Value} {n : Nat → Nat} {d : Nat → Nat → Int} (h : Ka B w k m x y v n d) {i : Nat} (hi : i < m) {e : Nat → Int} (hg : w.grownBy w' (v i).ownBlock) (hO : Out B w' (v i) (n i) e) : Ka B w' k m x y v n (updV d i e) := by
  refine ⟨(hg.block k (Array.getElem?_eq_some_iff.1 h.blk).1 fun q => ?_).trans h.blk, h.ox.of_block fun g hgx => hg.block g (h.ox.ge hgx).2 fun q => ?_, h.ge, fun j hj => ?_, h.len, h.apart⟩
  · obtain ⟨cur, z, hc⟩ := (h.ans i hi).typed q.symm
    rw [h.blk] at hc
    simp at hc
  · obtain ⟨cur, z, hc⟩ := (h.ans i hi).typed q.symm
    obtain ⟨cur', z', hc'⟩ := h.ox.typed hgx
    rw [hc'] at hc
    simp at hc
  · by_cases q : j = i
    · subst q; rw [updV_same]; exact hO
    · rw [updV_other _ _ q]
      exact (h.ans j hj).of_block fun g hgj => hg.block g ((h.ans j hj).ge hgj).2 fun p => h.apart j i hj hi q g hgj p.symm
theorem grown_set (w : World) (g j : Nat) (x : Value) : w.grownBy (w.setCell ⟨g, j, none⟩ x) (some g) :=
  ⟨rfl, rfl, rfl, by simp [World.setCell], fun k hk hne => Below.heap_setCell _ _ _ _ fun e => hne (by change k = g at e; rw [e])⟩
theorem grown_trans {a b c : World} {r : Option Nat} (h : a.grownBy b r) (k : b.grownBy c r) : a.grownBy c r :=
  ⟨k.os.trans h.os, k.tape.trans h.tape, k.output.trans h.output, Nat.le_trans h.size k.size, fun i hi hne => (k.block i (Nat.lt_of_lt_of_le hi h.size) hne).trans (h.block i hi hne)⟩
theorem grown_more {w w' : World} {r : Option Nat} {g : Nat} (h : w.grownBy w' r) (hat : r = some g ∨ g = w.heap.size) (j : Nat) (x : Value) : w.grownBy (w'.setCell ⟨g, j, none⟩ x) r :=
  ⟨h.os, h.tape, h.output, by simp [World.setCell]; exact h.size, fun k hk hne => (Below.heap_setCell _ _ _ _ fun e => by
    change k = g at e
    rcases hat with q | q
    · exact hne (by rw [q, e])
    · omega).trans (h.block k hk hne)⟩
theorem World.ownsRow.capLe {w : World} {B : Nat} {e : TypeId} {ao : Option Addr} {n cap : Nat} {xs : List Value} (h : w.ownsRow B e 1 (.slice ao n cap) n xs) : n ≤ cap ∧ cap ≤ 9223372036854775807 := by
  rcases h.2 with ⟨q, _⟩ | ⟨g, cap', cur, q, _, _, hn, hm, _⟩
  · simp only [Value.slice.injEq] at q; omega
  · simp only [Value.slice.injEq] at q; unfold maxLen at hm; omega
theorem updV_self {α : Type} (v : Nat → α) (i : Nat) : updV v i (v i) = v := by
  funext j
  by_cases h : j = i
  · subst h; rw [updV_same]
  · rw [updV_other _ _ h]
theorem Ka.at {B : Nat} {w : World} {k m gx xc : Nat} {y : Value} {v : Nat → Value} {n : Nat → Nat} {d : Nat → Nat → Int} (h : Ka B w k m (.slice (some ⟨gx, 0, none⟩) m xc) y v n d) {p : Nat} (hp : p < m) :
    ∃ vo vc, v p = .slice vo (n p) vc ∧ n p ≤ vc ∧ vc ≤ 9223372036854775807 ∧ w.cell? ⟨gx, p, none⟩ = some (.slice vo (n p) vc) ∧ w.cell? ⟨k, 0, none⟩ = some (.slice (some ⟨gx, 0, none⟩) m xc) ∧ (0 < n p → ∃ g, vo = some ⟨g, 0, none⟩) := by
  obtain ⟨vo, vc, hv, rv⟩ := (h.ans p hp).row
  refine ⟨vo, vc, hv, rv.le, rv.max, ?_, (keep_at h.blk).1, fun hn => ?_⟩
  · rw [World.ownsRow.cellAt h.ox p (by omega), valsV_get v hp, hv]
  · have := h.ans p hp
    rw [hv] at this
    obtain ⟨g, e, _⟩ := this.spot hn
    exact ⟨g, e⟩
theorem Ka.cellAt {B : Nat} {w : World} {k m : Nat} {x y : Value} {v : Nat → Value} {n : Nat → Nat} {d : Nat → Nat → Int} (h : Ka B w k m x y v n d) {p s g vc : Nat} (hp : p < m) (hs : s < n p) (hv : v p = .slice (some ⟨g, 0, none⟩) (n p) vc) :
    w.cell? ⟨g, s, none⟩ = some (.int .i64 (d p s)) ∧ w.frozen? ⟨g, s, none⟩ = false := by
  have := h.ans p hp
  rw [hv] at this
  exact ⟨this.cell hs, this.frozen s⟩
theorem Ka.put {B : Nat} {w : World} {k m : Nat} {x y : Value} {v : Nat → Value} {n : Nat → Nat} {d : Nat → Nat → Int} (h : Ka B w k m x y v n d) {p s g vc : Nat} (hp : p < m) (hs : s < n p) (hv : v p = .slice (some ⟨g, 0, none⟩) (n p) vc) (z : Int) :
    Ka B (w.setCell ⟨g, s, none⟩ (.int .i64 z)) k m x y v n (updV d p (upd (d p) s z)) ∧ B ≤ g := by
  have h0 := h.ans p hp
  have h1 := h0
  rw [hv] at h0
  refine ⟨h.step hp (by rw [hv]; exact grown_set w g s _) (by rw [hv]; exact h0.store hs z), (h1.ge (g := g) (by rw [hv]; rfl)).1⟩
theorem same_self (ao bo : Option Addr) (n ca cb : Nat) (a : Nat → Int) (w : World) (ha : Row w ao n ca a) (hb : Row w bo n cb a) :
    Calls Tryz.prog 11 #[.slice ao n ca, .slice bo n cb] w fun e w' => e = .returned (.bool true) ∧ Below w.heap.size w w' := by
  refine (same_any ao bo n n ca cb a a w ha hb).mono ?_
  rintro e w' ⟨rfl, h⟩
  exact ⟨ret_bool (decide_eq_true ⟨rfl, fun _ _ => rfl⟩), h⟩
end Go.Proofs.YtjlmpgbadgkgmaaGreatDoor

/-
  The statements' own helper digits: a valid list out of any ints, by its contract.
-/
namespace Go.Proofs.YtjlmpgbadgkgmaaGreatDoor
open Go Go.RowKit Go.Proofs.YtjlmpgbadgkgmaaGreatDoor.M
set_option linter.unusedSimpArgs false
set_option linter.unusedVariables false

theorem Out.cut {B : Nat} {w : World} {ao : Option Addr} {n cap m : Nat} {d : Nat → Int} (h : Out B w (.slice ao n cap) n d) (hm : m ≤ n) : Out B w (.slice ao m cap) m d := by
  refine ⟨by rw [vals_length]; omega, ?_⟩
  rcases h.2 with ⟨hn, h0⟩ | ⟨g, cap', cur, hv, hB, hg, hnc, hcm, hs, ht⟩
  · simp only [Value.slice.injEq] at hn
    obtain ⟨rfl, rfl, rfl⟩ := hn
    obtain rfl : m = 0 := by omega
    exact .inl ⟨rfl, rfl⟩
  · simp only [Value.slice.injEq] at hv
    obtain ⟨rfl, _, rfl⟩ := hv
    refine .inr ⟨g, cap, cur, rfl, hB, hg, by omega, hcm, hs, ?_⟩
    apply vals_ext (by simp; omega)
    intro i hi
    have e : (cur.toList.take (n * 1))[i]? = (vals d n)[i]? := by rw [ht]
    rw [List.getElem?_take, if_pos (by omega), vals_get d (by omega)] at e
    rw [List.getElem?_take, if_pos (by omega)]; exact e

/-- A list of less than N digits. -/
def AnsLt (w w' : World) (N : Nat) (v : Value) : Prop := ∃ V, Ans w w' V v ∧ V < P N
def lenOf : Value → Nat | .slice _ t _ => t | _ => 0
theorem cat_last (f : Nat → Int) (k i : Nat) (hi : i < k + 1) : cat f k (fun _ => f k) i = f i := by
  by_cases h : i < k
  · simp [cat, h]
  · simp [cat, h]; rw [show i = k by omega]
end Go.Proofs.YtjlmpgbadgkgmaaGreatDoor

/-
  The document's own answers (plumbref2): Valid, trim, Two, Answer, Cmp, Add, Sub, by contracts over the same values.
-/
namespace Go.Proofs.YtjlmpgbadgkgmaaGreatDoor
open Go Go.RowKit Go.Proofs.YtjlmpgbadgkgmaaGreatDoor.M
set_option linter.unusedSimpArgs false
set_option linter.unusedVariables false

set_option maxHeartbeats 400000 in
theorem rtrim_any (g n cap : Nat) (d : Nat → Int) (w : World) (h : Row w (some ⟨g, 0, none⟩) n cap d) :
    Calls Tryz.prog 110 #[.slice (some ⟨g, 0, none⟩) n cap] w fun e w' => ∃ t : Nat, t ≤ n ∧ Top d t ∧ (∀ i, t ≤ i → i < n → d i = 0) ∧ e = .returned (.slice (some ⟨g, 0, none⟩) t cap) ∧ w' = w := by
  have hl := h.le
  have hm := h.max
  go_enter Tryz.func110, Tryz.ntmps110
  go_wp2
  go_loop [3] (fun i => ∃ k : Nat, k ≤ n ∧ i = .int .i64 k ∧ ∀ i, k ≤ i → i < n → d i = 0) (fun i => (intOf i).toNat)
  case atStart => exact ⟨n, Nat.le_refl _, rfl, fun i a b => by omega⟩
  case round =>
    obtain ⟨k, hk, rfl, hz⟩ := hrel
    have HZ : Hid (∀ i, k ≤ i → i < n → d i = 0) := hz
    clear hz
    by_cases h0 : k = 0
    · subst h0
      go_wp2
      go_ret
      exact ⟨0, by omega, .inl rfl, HZ.out, by simp, rfl⟩
    · obtain ⟨b, off, eb, hb, hc⟩ := h.spot (by omega)
      simp only [Option.some.injEq, Addr.mk.injEq, and_true] at eb
      obtain ⟨rfl, rfl⟩ := eb
      have c := hc (k - 1) (by omega)
      rw [Nat.zero_add] at c
      by_cases h1 : d (k - 1) = 0
      · go_wp2
        go_round
        case rel => exact ⟨k - 1, by omega, by go_num, fun i a b => by by_cases e : i = k - 1; (· rw [e]; exact h1); (· exact HZ.out i (by omega) b)⟩
        case measure => simp [intOf]; omega
      · go_wp2
        go_ret
        exact ⟨k, hk, .inr h1, HZ.out, by simp, rfl⟩
theorem top_of {d : Nat → Int} {t : Nat} (hd : Dig d t) (h : 0 < t → P (t - 1) ≤ val d t) : Top d t := by
  by_cases h0 : t = 0
  · exact .inl h0
  · refine .inr fun e => ?_
    obtain ⟨k, rfl⟩ : ∃ k, t = k + 1 := ⟨t - 1, by omega⟩
    rw [Nat.add_sub_cancel] at e h
    have h1 := h (by omega)
    rw [val_succ, e] at h1
    have h2 := val_lt (hd.le (Nat.le_succ k))
    omega
theorem cat_upd (r : Nat → Int) (k : Nat) (x : Int) : ∀ i, i < k + 1 → cat r k (fun _ => x) i = upd r k x i := fun i hi => by
  by_cases e : i < k
  · simp [cat, e, upd_other r _ (show i ≠ k by omega)]
  · obtain rfl : i = k := by omega
    simp [cat, upd_same]
theorem dig_upd2 {r : Nat → Int} {k : Nat} {x : Int} (h : Dig r k) (hx : 0 ≤ x ∧ x < 1073741824) : Dig (upd r k x) (k + 1) := fun i hi => by
  by_cases e : i = k
  · rw [e, upd_same]; exact hx
  · rw [upd_other r x e]; exact h i (by omega)
set_option maxHeartbeats 1000000 in
theorem radd_any (ao bo : Option Addr) (n m ca cb : Nat) (a b : Nat → Int) (w : World) (ha : Row w ao n ca a) (hb : Row w bo m cb b) (na : Nrm a n) (nb : Nrm b m) (hn : n ≤ 100000) (hm : m ≤ 100000) :
    Calls Tryz.prog 98 #[.slice ao n ca, .slice bo m cb] w fun e w' => ∃ v, e = .returned v ∧ Ans w w' (val a n + val b m) v := by
  have hla := ha.le
  have hma := ha.max
  have hlb := hb.le
  have hmb := hb.max
  have da := na.1
  have db := nb.1
  obtain ⟨M, hM1, hM2, hM3⟩ : ∃ M, n ≤ M ∧ m ≤ M ∧ (M ≤ n ∨ M ≤ m) := ⟨max n m, by omega, by omega, by omega⟩
  go_enter Tryz.func98, Tryz.ntmps98
  go_wp2
  go_loopw [5, 6, 7] (fun l c i wr => ∃ (k : Nat) (q : Int) (r : Nat → Int), (k ≤ M ∨ (k = M + 1 ∧ q = 0)) ∧ i = .int .i64 k ∧ c = .int .i64 q ∧ 0 ≤ q ∧ q ≤ 1 ∧ Out w.heap.size wr l k r ∧ Dig r k ∧ Hid (val r k + q * P k = val (ext a n) k + val (ext b m) k) ∧ Hid (k = M + 1 → P M ≤ val a n + val b m) ∧ Below w.heap.size w wr) (fun _ _ i _ => M + 1 - (intOf i).toNat)
  case atStart => exact ⟨0, 0, fun _ => 0, .inl (Nat.zero_le _), rfl, rfl, by omega, by omega, Out.nil _ _ _, fun i hi => by omega, by show _ = _; rfl, fun h => by omega, bel_refl _⟩
  case round =>
    obtain ⟨k, q, r, hk, rfl, rfl, hq0, hq1, hO, hD, HV, HT, hbw⟩ := hrel
    have hkM : k ≤ M + 1 := by omega
    by_cases hkn : k < n
    · by_cases hkm : k < m
      · obtain ⟨ba, fa, rfl, hba, hca⟩ := ha.spot (by omega)
        have c1 := (hbw.cell (p := ⟨ba, fa + k, none⟩) hba).trans (hca k hkn)
        have dk := da k hkn
        obtain ⟨bb, fb, rfl, hbb, hcb⟩ := hb.spot (by omega)
        have c2 := (hbw.cell (p := ⟨bb, fb + k, none⟩) hbb).trans (hcb k hkm)
        have dbk := db k hkm
        have HX : Hid (q + a k + b k = q + (ext a n k + ext b m k)) := by show _ = _; rw [ext_lt a hkn, ext_lt b hkm]; omega
        go_wp2_with (at_builtin; refine wpList_app rfl _ _ rfl w.heap.size _ k r rfl (hO.stays (bel_alloc _ _)) _ 1 1 (fun _ => (q + a k + b k) % 1073741824) rfl (row1 _ _ rfl) (by omega) (by have := hbw.size; simp; omega) ?_; intro v' w1 hO1 hg1)
        have hb1 : Below w.heap.size w w1 := (hbw.alloc hbw.size _).grown hg1 (by have := hbw.size; simp; omega) (own_ge hO)
        have hs := sum_step (x := ext a n k + ext b m k) HV.out
        rw [← HX.out] at hs
        go_roundw
        case rel => exact ⟨k + 1, (q + a k + b k) / 1073741824, upd r k ((q + a k + b k) % 1073741824), by omega, by go_num, rfl, by omega, by omega, hO1.congr (cat_upd r k _), dig_upd2 hD (mod_dig _), by show _ = _; rw [hs, val_succ, val_succ]; grind, fun h => by omega, hb1⟩
        case measure => simp [intOf]; omega
      · obtain ⟨ba, fa, rfl, hba, hca⟩ := ha.spot (by omega)
        have c1 := (hbw.cell (p := ⟨ba, fa + k, none⟩) hba).trans (hca k hkn)
        have dk := da k hkn
        have HX : Hid (q + a k = q + (ext a n k + ext b m k)) := by show _ = _; rw [ext_lt a hkn, ext_ge b (by omega)]; omega
        go_wp2_with (at_builtin; refine wpList_app rfl _ _ rfl w.heap.size _ k r rfl (hO.stays (bel_alloc _ _)) _ 1 1 (fun _ => (q + a k) % 1073741824) rfl (row1 _ _ rfl) (by omega) (by have := hbw.size; simp; omega) ?_; intro v' w1 hO1 hg1)
        have hb1 : Below w.heap.size w w1 := (hbw.alloc hbw.size _).grown hg1 (by have := hbw.size; simp; omega) (own_ge hO)
        have hs := sum_step (x := ext a n k + ext b m k) HV.out
        rw [← HX.out] at hs
        go_roundw
        case rel => exact ⟨k + 1, (q + a k) / 1073741824, upd r k ((q + a k) % 1073741824), by omega, by go_num, rfl, by omega, by omega, hO1.congr (cat_upd r k _), dig_upd2 hD (mod_dig _), by show _ = _; rw [hs, val_succ, val_succ]; grind, fun h => by omega, hb1⟩
        case measure => simp [intOf]; omega
    · by_cases hkm : k < m
      · obtain ⟨bb, fb, rfl, hbb, hcb⟩ := hb.spot (by omega)
        have c2 := (hbw.cell (p := ⟨bb, fb + k, none⟩) hbb).trans (hcb k hkm)
        have dbk := db k hkm
        have HX : Hid (q + b k = q + (ext a n k + ext b m k)) := by show _ = _; rw [ext_ge a (by omega), ext_lt b hkm]; omega
        go_wp2_with (at_builtin; refine wpList_app rfl _ _ rfl w.heap.size _ k r rfl (hO.stays (bel_alloc _ _)) _ 1 1 (fun _ => (q + b k) % 1073741824) rfl (row1 _ _ rfl) (by omega) (by have := hbw.size; simp; omega) ?_; intro v' w1 hO1 hg1)
        have hb1 : Below w.heap.size w w1 := (hbw.alloc hbw.size _).grown hg1 (by have := hbw.size; simp; omega) (own_ge hO)
        have hs := sum_step (x := ext a n k + ext b m k) HV.out
        rw [← HX.out] at hs
        go_roundw
        case rel => exact ⟨k + 1, (q + b k) / 1073741824, upd r k ((q + b k) % 1073741824), by omega, by go_num, rfl, by omega, by omega, hO1.congr (cat_upd r k _), dig_upd2 hD (mod_dig _), by show _ = _; rw [hs, val_succ, val_succ]; grind, fun h => by omega, hb1⟩
        case measure => simp [intOf]; omega
      · by_cases hq : 0 < q
        · have hkE : k = M := by omega
          have HTT : Hid (P M ≤ val a n + val b m) := by
            show _ ≤ _
            have h := HV.out
            rw [val_ext a (by omega), val_ext b (by omega), show q = 1 by omega, hkE] at h
            have := val_nonneg hD
            rw [hkE] at this
            omega
          have HX : Hid (q = q + (ext a n k + ext b m k)) := by show _ = _; rw [ext_ge a (by omega), ext_ge b (by omega)]; omega
          go_wp2_with (at_builtin; refine wpList_app rfl _ _ rfl w.heap.size _ k r rfl (hO.stays (bel_alloc _ _)) _ 1 1 (fun _ => (q) % 1073741824) rfl (row1 _ _ rfl) (by omega) (by have := hbw.size; simp; omega) ?_; intro v' w1 hO1 hg1)
          have hb1 : Below w.heap.size w w1 := (hbw.alloc hbw.size _).grown hg1 (by have := hbw.size; simp; omega) (own_ge hO)
          have hs := sum_step (x := ext a n k + ext b m k) HV.out
          rw [← HX.out] at hs
          go_roundw
          case rel => exact ⟨k + 1, (q) / 1073741824, upd r k ((q) % 1073741824), by omega, by go_num, rfl, by omega, by omega, hO1.congr (cat_upd r k _), dig_upd2 hD (mod_dig _), by show _ = _; rw [hs, val_succ, val_succ]; grind, fun h => HTT.out, hb1⟩
          case measure => simp [intOf]; omega
        · obtain rfl : q = 0 := by omega
          have hkMM : M ≤ k := by omega
          have hcd : decide ((0 : Int) < 0) = false := by decide
          go_wp2
          go_ret
          have hv : val r k = val a n + val b m := by
            have h := HV.out
            rw [val_ext a (by omega), val_ext b (by omega)] at h
            omega
          refine ⟨_, rfl, k, r, hO, ⟨hD, top_of hD fun hk0 => ?_⟩, hv, hbw⟩
          rw [hv]
          have A0 := val_nonneg da
          have B0 := val_nonneg db
          rcases hk with h | ⟨h, _⟩
          · obtain rfl : k = M := by omega
            rcases hM3 with q | q
            · obtain rfl : k = n := by omega
              have := val_top da hk0 na.2
              omega
            · obtain rfl : k = m := by omega
              have := val_top db hk0 nb.2
              omega
          · rw [h, Nat.add_sub_cancel]; exact HT.out h
end Go.Proofs.YtjlmpgbadgkgmaaGreatDoor

/-
  The document's own answers (plumbref2): fits, Answer, From, Cmp, Sub, Mul, by contracts over the same values.
-/
namespace Go.Proofs.YtjlmpgbadgkgmaaGreatDoor
open Go Go.RowKit Go.Proofs.YtjlmpgbadgkgmaaGreatDoor.M
set_option linter.unusedSimpArgs false
set_option linter.unusedVariables false

theorem rtrim_out {B : Nat} {w : World} {v : Value} {n : Nat} {d : Nat → Int} (h : Out B w v n d) :
    Calls Tryz.prog 110 #[v] w fun e w' => ∃ v', e = .returned v' ∧ ∃ t, t ≤ n ∧ Top d t ∧ (∀ i, t ≤ i → i < n → d i = 0) ∧ Out B w v' t d ∧ w' = w := by
  have h0 := h
  rcases h.2 with ⟨rfl, rfl⟩ | ⟨g, cap, cur, rfl, hb, hg, hn, hm, hs, ht⟩
  · go_enter Tryz.func110, Tryz.ntmps110
    go_wp2
    go_loop [3] (fun i => i = .int .i64 0) (fun i => 0)
    case atStart => rfl
    case round =>
      subst hrel
      go_wp2
      go_ret
      exact ⟨_, rfl, .inl rfl, Out.nil _ _ _, rfl⟩
  · obtain ⟨ao, c, e, hR⟩ := h0.row
    simp only [Value.slice.injEq] at e
    obtain ⟨rfl, _, rfl⟩ := e
    refine (rtrim_any g n cap d w hR).mono ?_
    rintro e w' ⟨t, h1, h2, h3, rfl, rfl⟩
    exact ⟨_, rfl, t, h1, h2, h3, h0.cut h1, rfl⟩
theorem rtrim_ans {w0 w : World} {v : Value} {n : Nat} {d : Nat → Int} (h : Out w0.heap.size w v n d) (hd : Dig d n) (hb : Below w0.heap.size w0 w) :
    Calls Tryz.prog 110 #[v] w fun e w' => ∃ v', e = .returned v' ∧ Ans w0 w (val d n) v' ∧ w' = w := by
  refine (rtrim_out h).mono ?_
  rintro e w' ⟨v', rfl, t, ht, htop, hz, hO, rfl⟩
  obtain ⟨hN, hv⟩ := nrm_of_top hd ht htop hz
  exact ⟨v', rfl, ⟨t, d, hO, hN, hv, hb⟩, rfl⟩
set_option maxHeartbeats 1000000 in
theorem rcmp_any (ao bo : Option Addr) (n m ca cb : Nat) (a b : Nat → Int) (w : World) (ha : Row w ao n ca a) (hb : Row w bo m cb b) (na : Nrm a n) (nb : Nrm b m) :
    Calls Tryz.prog 99 #[.slice ao n ca, .slice bo m cb] w fun e w' => e = .returned (.int .i64 (ord (val a n) (val b m))) ∧ Below w.heap.size w w' := by
  have hla := ha.le
  have hma := ha.max
  have hlb := hb.le
  have hmb := hb.max
  by_cases hnm : n = m
  · subst hnm
    go_enter Tryz.func99, Tryz.ntmps99
    go_wp2
    go_loopw [5] (fun i wr => ∃ k : Nat, k ≤ n ∧ i = .int .i64 ((k : Int) - 1) ∧ Hid (∀ i, k ≤ i → i < n → a i = b i) ∧ Below w.heap.size w wr) (fun i _ => (intOf i + 1).toNat)
    case atStart => exact ⟨n, Nat.le_refl _, rfl, fun i _ _ => by omega, bel_refl _⟩
    case round =>
      obtain ⟨k, hk, rfl, HS, hbw⟩ := hrel
      by_cases hlt : 0 < k
      · obtain ⟨j, rfl⟩ : ∃ j, k = j + 1 := ⟨k - 1, by omega⟩
        have ej : ((j + 1 : Nat) : Int) - 1 = j := by omega
        obtain ⟨ba, fa, rfl, hba, hca⟩ := ha.spot (by omega)
        obtain ⟨bb, fb, rfl, hbb, hcb⟩ := hb.spot (by omega)
        have c1 := (hbw.cell (p := ⟨ba, fa + j, none⟩) hba).trans (hca j (by omega))
        have c2 := (hbw.cell (p := ⟨bb, fb + j, none⟩) hbb).trans (hcb j (by omega))
        rw [ej]
        by_cases h1 : a j < b j
        · go_wp2
          go_quiet (fail)
          go_wp2
          go_ret
          exact ⟨ret_int ((ord_lt h1).symm.trans (ord_top na.1 nb.1 (show j < n by omega) (fun i x y => HS.out i (by omega) y) (by omega))), bDrewN hbw _⟩
        · by_cases h2 : b j < a j
          · go_wp2
            go_quiet (fail)
            go_wp2
            go_quiet (fail)
            go_wp2
            go_ret
            exact ⟨ret_int ((ord_gt h2).symm.trans (ord_top na.1 nb.1 (show j < n by omega) (fun i x y => HS.out i (by omega) y) (by omega))), bDrewN (bDrewN hbw _) _⟩
          · go_wp2
            go_quiet (fail)
            go_wp2
            go_quiet (fail)
            go_wp2
            go_roundw
            case rel => exact ⟨j, by omega, by go_num, fun i x y => by by_cases e : i = j; (· rw [e]; omega); (· exact HS.out i (by omega) y), bDrewN hbw _⟩
            case measure => simp [intOf]; try omega
      · obtain rfl : k = 0 := by omega
        go_wp2
        go_ret
        exact ⟨ret_int (ord_eq (val_congr fun i hi => HS.out i (by omega) hi)).symm, hbw⟩
  · by_cases hlt : n < m
    · go_enter Tryz.func99, Tryz.ntmps99
      go_wp2
      go_ret
      exact ⟨ret_int (ord_lt (nrm_lt na.1 nb hlt)).symm, bel_refl _⟩
    · go_enter Tryz.func99, Tryz.ntmps99
      go_wp2
      go_ret
      exact ⟨ret_int (ord_gt (nrm_lt nb.1 na (by omega))).symm, bel_refl _⟩
set_option maxHeartbeats 2000000 in
theorem rsub_any (ao bo : Option Addr) (n m ca cb : Nat) (a b : Nat → Int) (w : World) (ha : Row w ao n ca a) (hb : Row w bo m cb b) (na : Nrm a n) (nb : Nrm b m) (hn : n ≤ 100000) (hle : val b m ≤ val a n) :
    Calls Tryz.prog 100 #[.slice ao n ca, .slice bo m cb] w fun e w' => ∃ v, e = .returned v ∧ Ans w w' (val a n - val b m) v := by
  have hla := ha.le
  have hma := ha.max
  have hlb := hb.le
  have hmb := hb.max
  have da := na.1
  have db := nb.1
  have hmn : m ≤ n := nrm_le_len nb da hle
  have HLE : Hid (val b m ≤ val a n) := hle
  clear hle
  go_enter Tryz.func100, Tryz.ntmps100
  go_wp2
  go_loopw [5, 6, 7] (fun l c i wr => ∃ (k : Nat) (q : Int) (r : Nat → Int), k ≤ n ∧ i = .int .i64 k ∧ c = .int .i64 q ∧ 0 ≤ q ∧ q ≤ 1 ∧ Out w.heap.size wr l k r ∧ Dig r k ∧ Hid (val r k - q * P k = val (ext a n) k - val (ext b m) k) ∧ Below w.heap.size w wr) (fun _ _ i _ => n - (intOf i).toNat)
  case atStart => exact ⟨0, 0, fun _ => 0, Nat.zero_le _, rfl, rfl, by omega, by omega, Out.nil _ _ _, fun i hi => by omega, by show _ = _; rfl, bel_refl _⟩
  case round =>
    obtain ⟨k, q, r, hk, rfl, rfl, hq0, hq1, hO, hD, HV, hbw⟩ := hrel
    by_cases hkn : k < n
    · obtain ⟨ba, fa, rfl, hba, hca⟩ := ha.spot (by omega)
      have c1 := (hbw.cell (p := ⟨ba, fa + k, none⟩) hba).trans (hca k hkn)
      have dk := da k hkn
      by_cases hkm : k < m
      · obtain ⟨bb, fb, rfl, hbb, hcb⟩ := hb.spot (by omega)
        have c2 := (hbw.cell (p := ⟨bb, fb + k, none⟩) hbb).trans (hcb k hkm)
        have dbk := db k hkm
        have HX : Hid (-q + (ext a n k - ext b m k) = a k - q - b k) := by show _ = _; rw [ext_lt a hkn, ext_lt b hkm]; omega
        by_cases hneg : a k - q - b k < 0
        · go_wp2_with (at_builtin; refine wpList_app rfl _ _ rfl w.heap.size _ k r rfl (hO.stays (bel_alloc _ _)) _ 1 1 (fun _ => (a k - q - b k + 1073741824)) rfl (row1 _ _ rfl) (by omega) (by have := hbw.size; simp; omega) ?_; intro v' w1 hO1 hg1)
          have hb1 : Below w.heap.size w w1 := (hbw.alloc hbw.size _).grown hg1 (by have := hbw.size; simp; omega) (own_ge hO)
          have hs := sum_step (c := -q) (x := ext a n k - ext b m k) (r := r) (k := k) (V := val (ext a n) k - val (ext b m) k) (by have := HV.out; rw [Int.neg_mul]; omega)
          rw [show -q + (ext a n k - ext b m k) = a k - q - b k from HX.out, show (a k - q - b k) % 1073741824 = (a k - q - b k + 1073741824) by omega, show (a k - q - b k) / 1073741824 = -1 by omega] at hs
          go_roundw
          case rel => exact ⟨k + 1, 1, upd r k (a k - q - b k + 1073741824), by omega, by go_num, rfl, by omega, by omega, hO1.congr (cat_upd r k _), dig_upd2 hD (by omega), by show _ = _; rw [val_succ (ext a n), val_succ (ext b m)]; rw [Int.sub_mul] at hs; omega, hb1⟩
          case measure => simp [intOf]; omega
        · go_wp2_with (at_builtin; refine wpList_app rfl _ _ rfl w.heap.size _ k r rfl (hO.stays (bel_alloc _ _)) _ 1 1 (fun _ => (a k - q - b k)) rfl (row1 _ _ rfl) (by omega) (by have := hbw.size; simp; omega) ?_; intro v' w1 hO1 hg1)
          have hb1 : Below w.heap.size w w1 := (hbw.alloc hbw.size _).grown hg1 (by have := hbw.size; simp; omega) (own_ge hO)
          have hs := sum_step (c := -q) (x := ext a n k - ext b m k) (r := r) (k := k) (V := val (ext a n) k - val (ext b m) k) (by have := HV.out; rw [Int.neg_mul]; omega)
          rw [show -q + (ext a n k - ext b m k) = a k - q - b k from HX.out, show (a k - q - b k) % 1073741824 = (a k - q - b k) by omega, show (a k - q - b k) / 1073741824 = -0 by omega] at hs
          go_roundw
          case rel => exact ⟨k + 1, 0, upd r k (a k - q - b k), by omega, by go_num, rfl, by omega, by omega, hO1.congr (cat_upd r k _), dig_upd2 hD (by omega), by show _ = _; rw [val_succ (ext a n), val_succ (ext b m)]; rw [Int.sub_mul] at hs; omega, hb1⟩
          case measure => simp [intOf]; omega
      · have HX : Hid (-q + (ext a n k - ext b m k) = a k - q) := by show _ = _; rw [ext_lt a hkn, ext_ge b (by omega)]; omega
        by_cases hneg : a k - q < 0
        · go_wp2_with (at_builtin; refine wpList_app rfl _ _ rfl w.heap.size _ k r rfl (hO.stays (bel_alloc _ _)) _ 1 1 (fun _ => (a k - q + 1073741824)) rfl (row1 _ _ rfl) (by omega) (by have := hbw.size; simp; omega) ?_; intro v' w1 hO1 hg1)
          have hb1 : Below w.heap.size w w1 := (hbw.alloc hbw.size _).grown hg1 (by have := hbw.size; simp; omega) (own_ge hO)
          have hs := sum_step (c := -q) (x := ext a n k - ext b m k) (r := r) (k := k) (V := val (ext a n) k - val (ext b m) k) (by have := HV.out; rw [Int.neg_mul]; omega)
          rw [show -q + (ext a n k - ext b m k) = a k - q from HX.out, show (a k - q) % 1073741824 = (a k - q + 1073741824) by omega, show (a k - q) / 1073741824 = -1 by omega] at hs
          go_roundw
          case rel => exact ⟨k + 1, 1, upd r k (a k - q + 1073741824), by omega, by go_num, rfl, by omega, by omega, hO1.congr (cat_upd r k _), dig_upd2 hD (by omega), by show _ = _; rw [val_succ (ext a n), val_succ (ext b m)]; rw [Int.sub_mul] at hs; omega, hb1⟩
          case measure => simp [intOf]; omega
        · go_wp2_with (at_builtin; refine wpList_app rfl _ _ rfl w.heap.size _ k r rfl (hO.stays (bel_alloc _ _)) _ 1 1 (fun _ => (a k - q)) rfl (row1 _ _ rfl) (by omega) (by have := hbw.size; simp; omega) ?_; intro v' w1 hO1 hg1)
          have hb1 : Below w.heap.size w w1 := (hbw.alloc hbw.size _).grown hg1 (by have := hbw.size; simp; omega) (own_ge hO)
          have hs := sum_step (c := -q) (x := ext a n k - ext b m k) (r := r) (k := k) (V := val (ext a n) k - val (ext b m) k) (by have := HV.out; rw [Int.neg_mul]; omega)
          rw [show -q + (ext a n k - ext b m k) = a k - q from HX.out, show (a k - q) % 1073741824 = (a k - q) by omega, show (a k - q) / 1073741824 = -0 by omega] at hs
          go_roundw
          case rel => exact ⟨k + 1, 0, upd r k (a k - q), by omega, by go_num, rfl, by omega, by omega, hO1.congr (cat_upd r k _), dig_upd2 hD (by omega), by show _ = _; rw [val_succ (ext a n), val_succ (ext b m)]; rw [Int.sub_mul] at hs; omega, hb1⟩
          case measure => simp [intOf]; omega
    · obtain rfl : k = n := by omega
      have HD : Hid (Dig r k ∧ val r k = val a k - val b m) := by
        refine ⟨hD, ?_⟩
        have h1 := HV.out
        rw [val_ext a (Nat.le_refl _), val_ext b hmn] at h1
        have h2 := val_lt hD
        have h3 := HLE.out
        have hp := P_pos k
        rcases (show q = 0 ∨ q = 1 by omega) with e | e
        · subst e; omega
        · subst e; omega
      go_wp2_with (go_at_call 110; refine (rtrim_ans hO hD hbw).mono ?_; rintro e w3 ⟨v', rfl, hA, rfl⟩)
      go_ret
      exact ⟨_, rfl, by rw [← HD.out.2]; exact hA⟩
set_option maxHeartbeats 2000000 in
theorem rmul_any (ao bo : Option Addr) (n m ca cb : Nat) (a b : Nat → Int) (w : World) (ha : Row w ao n ca a) (hb : Row w bo m cb b) (na : Nrm a n) (nb : Nrm b m) (hn : n ≤ 100000) (hm : m ≤ 100000) :
    Calls Tryz.prog 103 #[.slice ao n ca, .slice bo m cb] w fun e w' => ∃ v, e = .returned v ∧ Ans w w' (val a n * val b m) v := by
  have hla := ha.le
  have hma := ha.max
  have hlb := hb.le
  have hmb := hb.max
  have da := na.1
  have db := nb.1
  by_cases hn0 : n = 0
  · subst hn0
    go_enter Tryz.func103, Tryz.ntmps103
    go_wp2
    go_ret
    exact ⟨_, rfl, by rw [show val a 0 * val b m = 0 from Int.zero_mul _]; exact Ans.nil (bel_refl _)⟩
  · by_cases hm0 : m = 0
    · subst hm0
      go_enter Tryz.func103, Tryz.ntmps103
      go_wp2
      go_ret
      exact ⟨_, rfl, by rw [show val a n * val b 0 = 0 from Int.mul_zero _]; exact Ans.nil (bel_refl _)⟩
    · have e1 : ((n : Int) == 0) = false := by simp; omega
      have e2 : ((m : Int) == 0) = false := by simp; omega
      go_enter Tryz.func103, Tryz.ntmps103
      go_wp2_with (at_make; refine wpList_mk rfl _ _ rfl _ _ (n + m) rfl rfl (by omega) (by omega) (by omega) ?_; intro w1 hB1 hb1)
      go_loopw [6] (fun i wr => ∃ (k : Nat) (r : Nat → Int), k ≤ n ∧ i = .int .i64 k ∧ Blk wr w.heap.size (n + m) r ∧ Dig r (n + m) ∧ Hid (∀ t, k + m ≤ t → r t = 0) ∧ Hid (val r (k + m) = val a k * val b m) ∧ Below w.heap.size w wr) (fun i _ => n - (intOf i).toNat)
      case atStart => exact ⟨0, fun _ => 0, Nat.zero_le _, rfl, hB1, zero_dig _, fun _ _ => rfl, by show _ = _; rw [val_zeros (Nat.zero_le (0 + m)) (fun _ _ _ => rfl)]; show 0 = 0 * val b m; omega, hb1⟩
      case round =>
        obtain ⟨i, r0, hi, rfl, hB0, hD0, HZ0, HV0, hbw0⟩ := hrel
        by_cases hlt : i < n
        · obtain ⟨ba, fa, rfl, hba, hca⟩ := ha.spot (by omega)
          have dai := da i hlt
          go_wp2
          go_loopw [7, 8] (fun c j wr => ∃ (k : Nat) (q : Int) (r : Nat → Int), k ≤ m ∧ j = .int .i64 k ∧ c = .int .i64 q ∧ 0 ≤ q ∧ q < 1073741824 ∧ Blk wr w.heap.size (n + m) r ∧ Dig r (n + m) ∧ Hid (∀ t, i + k ≤ t → r t = r0 t) ∧ Hid (val r (i + k) + q * P (i + k) = val r0 (i + k) + a i * val b k * P i) ∧ Below w.heap.size w wr) (fun _ j _ => m - (intOf j).toNat)
          case atStart => exact ⟨0, 0, r0, Nat.zero_le _, rfl, rfl, by omega, by omega, hB0, hD0, fun _ _ => rfl, by show _ = _; show val r0 i + 0 * P i = val r0 i + a i * 0 * P i; grind, hbw0⟩
          case round =>
            obtain ⟨k, q, r, hk, rfl, rfl, hq0, hq1, hB, hD, HS, HV, hbw⟩ := hrel
            have c1 := (hbw.cell (p := ⟨ba, fa + i, none⟩) hba).trans (hca i hlt)
            by_cases hkm : k < m
            · obtain ⟨bb, fb, rfl, hbb, hcb⟩ := hb.spot (by omega)
              have c2 := (hbw.cell (p := ⟨bb, fb + k, none⟩) hbb).trans (hcb k hkm)
              have c3 := hB.cell (show i + k < n + m by omega)
              have fg := hB.frozen (i + k)
              have drk := hD (i + k) (by omega)
              have hmul := dig_mul dai (db k hkm)
              go_wp2
              go_quiet (fail)
              go_wp2
              have hs := mul_step (b := b) (j := k) HV.out (HS.out (i + k) (Nat.le_refl _))
              rw [show q + (a i * b k + r (i + k)) = r (i + k) + a i * b k + q by omega] at hs
              go_roundw
              case rel => exact ⟨k + 1, (r (i + k) + a i * b k + q) / 1073741824, upd r (i + k) ((r (i + k) + a i * b k + q) % 1073741824), by omega, by go_num, rfl, by omega, by omega, hB.store (i + k) _, hD.upd _ (mod_dig _), fun t ht => by rw [upd_other r _ (by omega)]; exact HS.out t (by omega), hs, (bDrewN hbw _).setCell (Nat.le_refl _) _⟩
              case measure => simp [intOf]; omega
            · obtain rfl : k = m := by omega
              have c3 := hB.cell (show i + k < n + k by omega)
              have fg := hB.frozen (i + k)
              go_wp2
              have hr := mul_row HV.out HV0.out
              go_roundw
              case rel => exact ⟨i + 1, upd r (i + k) q, by omega, by go_num, hB.store (i + k) _, hD.upd _ ⟨hq0, hq1⟩, fun t ht => by rw [upd_other r _ (by omega), HS.out t (by omega)]; exact HZ0.out t (by omega), by show _ = _; rw [hr, val_succ], hbw.setCell (Nat.le_refl _) _⟩
              case measure => simp [intOf]; omega
        · obtain rfl : i = n := by omega
          go_wp2_with (go_at_call 110; refine (rtrim_ans (hB0.out (Nat.le_refl _) (Nat.le_refl _) (by omega)) hD0 hbw0).mono ?_; rintro e w3 ⟨v', rfl, hA, rfl⟩)
          go_ret
          exact ⟨_, rfl, by rw [← HV0.out]; exact hA⟩
end Go.Proofs.YtjlmpgbadgkgmaaGreatDoor

/-
  What is kept, with the blocks it lies in (Kept); Keep.Add and answer of a number (An); Lent and Back.
-/
namespace Go.Proofs.YtjlmpgbadgkgmaaGreatDoor
open Go Go.RowKit Go.Proofs.YtjlmpgbadgkgmaaGreatDoor.M
set_option linter.unusedSimpArgs false
set_option linter.unusedVariables false

/-- What is kept: all its answers and copies lie in blocks of S. -/
def Kept (B : Nat) (w : World) (k : Nat) (S : Nat → Prop) : Prop :=
  ∃ m v u n d, m ≤ 400 ∧ Kp B w k m v u n d ∧ (∀ i, i < m → ∀ g, (v i).ownBlock = some g → S g) ∧ (∀ i, i < m → ∀ g, (u i).ownBlock = some g → S g)
theorem Kept.keeps {B : Nat} {w w' : World} {k : Nat} {S : Nat → Prop} (h : Kept B w k S) (hb : Below w.heap.size w w') : Kept B w' k S := by
  obtain ⟨m, v, u, n, d, hm, hk, h1, h2⟩ := h
  exact ⟨m, v, u, n, d, hm, hk.keeps hb, h1, h2⟩
theorem Kept.mono {B : Nat} {w : World} {k : Nat} {S S' : Nat → Prop} (h : Kept B w k S) (hS : ∀ g, S g → S' g) : Kept B w k S' := by
  obtain ⟨m, v, u, n, d, hm, hk, h1, h2⟩ := h
  exact ⟨m, v, u, n, d, hm, hk, fun i hi g hg => hS g (h1 i hi g hg), fun i hi g hg => hS g (h2 i hi g hg)⟩
theorem Kept.old {B : Nat} {w : World} {k : Nat} {S : Nat → Prop} (h : Kept B w k S) : Kept B w k (fun g => g < w.heap.size) := by
  obtain ⟨m, v, u, n, d, hm, hk, h1, h2⟩ := h
  exact ⟨m, v, u, n, d, hm, hk, fun i hi g hg => ((hk.ans i hi).ge hg).2, fun i hi g hg => ((hk.was i hi).ge hg).2⟩
theorem Kept.wr {B : Nat} {w w' : World} {k g : Nat} {S : Nat → Prop} (h : Kept B w k S) (hw : Wr g w w') (hS : ¬ S g) {cur : Array Value} {z : Nat × Nat} (ht : w.heap[g]? = some (.cells cur 3 z)) : Kept B w' k S := by
  obtain ⟨m, v, u, n, d, hm, ⟨⟨x, y, hk, hx, hy, hxy⟩, hge, hans, hwas, hlen, hapart⟩, h1, h2⟩ := h
  refine ⟨m, v, u, n, d, hm, ⟨⟨x, y, (hw.block k (Array.getElem?_eq_some_iff.1 hk).1 fun e => ?_).trans hk, hx.of_block fun g' hg => hw.block g' (hx.ge hg).2 fun e => ?_, hy.of_block fun g' hg => hw.block g' (hy.ge hg).2 fun e => ?_, hxy⟩, hge, fun i hi => (hans i hi).of_block fun g' hg => hw.block g' ((hans i hi).ge hg).2 fun e => hS (e ▸ h1 i hi g' hg), fun i hi => (hwas i hi).of_block fun g' hg => hw.block g' ((hwas i hi).ge hg).2 fun e => hS (e ▸ h2 i hi g' hg), hlen, hapart⟩, h1, h2⟩
  · subst e; rw [ht] at hk; simp at hk
  · subst e; obtain ⟨c', z', hc⟩ := hx.typed hg; rw [ht] at hc; simp at hc
  · subst e; obtain ⟨c', z', hc⟩ := hy.typed hg; rw [ht] at hc; simp at hc
/-- A number's list, from B on. -/
def An (B : Nat) (w : World) (v : Value) (V : Int) : Prop := ∃ t d, Out B w v t d ∧ Nrm d t ∧ val d t = V
theorem An.ik {B B' : Nat} {w w' : World} {v : Value} {V : Int} (h : An B w v V) (k : Ik B' w w') : An B w' v V := by
  obtain ⟨t, d, h1, h2⟩ := h
  exact ⟨t, d, h1.ik k, h2⟩
theorem An.keeps {B : Nat} {w w' : World} {v : Value} {V : Int} (h : An B w v V) (k : Below w.heap.size w w') : An B w' v V := by
  obtain ⟨t, d, h1, h2⟩ := h
  exact ⟨t, d, h1.stays k, h2⟩
theorem An.lower {B B' : Nat} {w : World} {v : Value} {V : Int} (h : An B w v V) (hB : B' ≤ B) : An B' w v V := by
  obtain ⟨t, d, h1, h2⟩ := h
  exact ⟨t, d, h1.lower hB, h2⟩
theorem An.nil (B : Nat) (w : World) : An B w (.slice none 0 0) 0 := ⟨0, fun _ => 0, Out.nil _ _ _, ⟨fun i hi => by omega, .inl rfl⟩, rfl⟩
theorem Ans.an {w w' : World} {V : Int} {v : Value} (h : Ans w w' V v) : An w.heap.size w' v V := by
  obtain ⟨t, d, h1, h2, h3, h4⟩ := h
  exact ⟨t, d, h1, h2, h3⟩
theorem An.shape {B : Nat} {w : World} {v : Value} {V : Int} (h : An B w v V) : ∃ ao n cap, v = .slice ao n cap := by
  obtain ⟨t, d, h1, h2⟩ := h
  obtain ⟨ao, cap, e, _⟩ := h1.row
  exact ⟨ao, t, cap, e⟩
theorem An.num {B : Nat} {w : World} {v : Value} {V : Int} (h : An B w v V) : Num w v V := by
  obtain ⟨t, d, h1, h2, h3⟩ := h
  obtain ⟨ao, cap, rfl, hR⟩ := h1.row
  exact ⟨ao, t, cap, d, rfl, hR, h2, h3⟩
theorem An.ge {B : Nat} {w : World} {v : Value} {V : Int} (h : An B w v V) {g : Nat} (hg : v.ownBlock = some g) : B ≤ g ∧ g < w.heap.size := by
  obtain ⟨t, d, h1, h2, h3⟩ := h
  exact h1.ge hg
/-- The blocks behind an Add. -/
def S2 (S : Nat → Prop) (l : Value) (s : Nat) : Nat → Prop := fun g => S g ∨ l.ownBlock = some g ∨ s ≤ g
theorem keep_rd {B k : Nat} {w : World} {S : Nat → Prop} {l : Value} {xo : Option Addr} {t' xc : Nat} {ld' : Nat → Int} {V : Int} (h : Kept B w k S) (hl : An B w l V) (hO' : Rd B w xo t' xc ld') (hN' : Nrm ld' t') (hv' : val ld' t' = V) (K : Nat) (hK : K ≤ 100000) (hV : V < P K) (hB : B ≤ w.heap.size) (hap : ∀ g, l.ownBlock = some g → ¬ S g) :
    Calls Tryz.prog 40 #[.pointer (some ⟨k, 0, none⟩), l, .slice xo t' xc] w fun e w' => e = .returned (.bool true) ∧ Ik B w w' ∧ Kept B w' k (S2 S l w.heap.size) := by
  obtain ⟨m, v, u, n, d, hm, hk, h1, h2⟩ := h
  have hl0 := hl.num
  obtain ⟨t, ld, hO, hN, hv⟩ := hl
  obtain ⟨rfl, he⟩ := nrm_inj hN hN' (hv.trans hv'.symm)
  obtain ⟨lo, lc, rfl, hR⟩ := hO.row
  refine (keepAdd_any B k m v u n d w hk lo t lc ld hO xo xc (hO'.congr fun i hi => (he i hi).symm) (Nat.le_trans (hl0.len hV) hK) hB (fun i hi g hg hg' => hap g hg' (h1 i hi g hg))).mono ?_
  rintro e w' ⟨rfl, hi, hc⟩
  refine ⟨rfl, hi, ?_⟩
  rcases hc with ⟨h4, c, hn, hk'⟩ | hk'
  · refine ⟨m + 1, _, _, _, _, h4, hk', fun i hi' g hg => ?_, fun i hi' g hg => ?_⟩
    · by_cases e : i = m
      · subst e; rw [updV_same] at hg; exact .inr (.inl hg)
      · rw [updV_other _ _ e] at hg; exact .inl (h1 i (by omega) g hg)
    · by_cases e : i = m
      · subst e; rw [updV_same] at hg; exact .inr (.inr (hn g hg))
      · rw [updV_other _ _ e] at hg; exact .inl (h2 i (by omega) g hg)
  · exact ⟨m, v, u, n, d, hm, hk', fun i hi' g hg => .inl (h1 i hi' g hg), fun i hi' g hg => .inl (h2 i hi' g hg)⟩
theorem keep_an {B k : Nat} {w : World} {S : Nat → Prop} {l x : Value} {V : Int} (h : Kept B w k S) (hl : An B w l V) (hx : An B w x V) (K : Nat) (hK : K ≤ 100000) (hV : V < P K) (hB : B ≤ w.heap.size) (hap : ∀ g, l.ownBlock = some g → ¬ S g) :
    Calls Tryz.prog 40 #[.pointer (some ⟨k, 0, none⟩), l, x] w fun e w' => e = .returned (.bool true) ∧ Ik B w w' ∧ Kept B w' k (S2 S l w.heap.size) := by
  obtain ⟨t', ld', hO', hN', hv'⟩ := hx
  obtain ⟨xo, xc, rfl, hR'⟩ := hO'.row
  exact keep_rd h hl hO'.rd hN' hv' K hK hV hB hap
/-- A list and an error, of a number that may be too long. -/
def FitA (B : Nat) (w : World) (V : Int) (v : Value) (er : Int) : Prop := (V < P 2000 ∧ er = 0 ∧ An B w v V) ∨ (P 2000 ≤ V ∧ er = 2 ∧ v = .slice none 0 0)
theorem Fit.fitA {w w' : World} {V er : Int} {v : Value} (h : Fit w w' V v er) : FitA w.heap.size w' V v er := by
  rcases h.2 with ⟨h1, h2, h3⟩ | h
  · exact .inl ⟨h1, h2, h3.an⟩
  · exact .inr h
theorem FitA.ik {B B' : Nat} {w w' : World} {v : Value} {V er : Int} (h : FitA B w V v er) (k : Ik B' w w') : FitA B w' V v er := by
  rcases h with ⟨h1, h2, h3⟩ | h
  · exact .inl ⟨h1, h2, h3.ik k⟩
  · exact .inr h
theorem FitA.keeps {B : Nat} {w w' : World} {v : Value} {V er : Int} (h : FitA B w V v er) (k : Below w.heap.size w w') : FitA B w' V v er := by
  rcases h with ⟨h1, h2, h3⟩ | h
  · exact .inl ⟨h1, h2, h3.keeps k⟩
  · exact .inr h
theorem FitA.lower {B B' : Nat} {w : World} {v : Value} {V er : Int} (h : FitA B w V v er) (hB : B' ≤ B) : FitA B' w V v er := by
  rcases h with ⟨h1, h2, h3⟩ | h
  · exact .inl ⟨h1, h2, h3.lower hB⟩
  · exact .inr h
theorem FitA.ge {B : Nat} {w : World} {v : Value} {V er : Int} (h : FitA B w V v er) {g : Nat} (hg : v.ownBlock = some g) : B ≤ g ∧ g < w.heap.size := by
  rcases h with ⟨h1, h2, h3⟩ | ⟨_, _, rfl⟩
  · exact h3.ge hg
  · simp [Value.ownBlock] at hg
theorem FitA.shape {B : Nat} {w : World} {v : Value} {V er : Int} (h : FitA B w V v er) : ∃ ao n cap, v = .slice ao n cap := by
  rcases h with ⟨h1, h2, h3⟩ | ⟨_, _, rfl⟩
  · exact h3.shape
  · exact ⟨_, _, _, rfl⟩
/-- A lent list: three marks behind it. -/
def lentD (a : Nat → Int) (n : Nat) : Nat → Int := cat a n (fun i => -71 - (i : Int))
theorem row3 (w : World) (x y z : Int) (f : Nat → Int) (h0 : f 0 = x) (h1 : f 1 = y) (h2 : f 2 = z) {g : Nat} (hg : g = w.heap.size) : Row (w.alloc (.cells #[.int .i64 x, .int .i64 y, .int .i64 z] 3)) (some ⟨g, 0, none⟩) 3 3 f := by
  subst hg
  refine (Blk.new w #[.int .i64 x, .int .i64 y, .int .i64 z] f (fun i hi => ?_)).row0 (Nat.le_refl _) (show 3 ≤ 9223372036854775807 by decide)
  match i, hi with
  | 0, _ => rw [h0]; rfl
  | 1, _ => rw [h1]; rfl
  | 2, _ => rw [h2]; rfl
theorem lentD_lt (a : Nat → Int) {n i : Nat} (h : i < n) : lentD a n i = a i := by simp [lentD, cat, h]
theorem lentD_marks (a : Nat → Int) (n : Nat) : lentD a n n = -71 ∧ lentD a n (n + 1) = -72 ∧ lentD a n (n + 2) = -73 := by
  refine ⟨by simp [lentD, cat], by simp [lentD, cat]; omega, by simp [lentD, cat]; omega⟩
/-- What Lent answers: a block of its own. -/
def LentA (w w' : World) (v : Value) (n : Nat) (a : Nat → Int) : Prop := ∃ g cap, v = .slice (some ⟨g, 0, none⟩) (n + 3) cap ∧ Out w.heap.size w' v (n + 3) (lentD a n) ∧ Below w.heap.size w w'
set_option maxRecDepth 100000 in
theorem lent_any (ao : Option Addr) (n ca : Nat) (a : Nat → Int) (w : World) (ha : Row w ao n ca a) (hn : n ≤ 100000) :
    Calls Tryz.prog 13 #[.slice ao n ca] w fun e w' => ∃ v, e = .returned v ∧ LentA w w' v n a := by
  go_enter Tryz.func13, Tryz.ntmps13
  go_wp2_with (first
    | (at_builtin
       have _t := hO1
       (refine wpList_app rfl _ _ rfl w.heap.size _ n a rfl (hO1.stays (bel_alloc _ _)) _ 3 3 (fun i => -71 - (i : Int)) rfl (row3 _ (-71) (-72) (-73) _ rfl rfl rfl rfl) (by omega) (by have := hg1.size; simp; omega) ?_)
       intro v2 w2 hO2 hg2)
    | (at_builtin
       (
       refine wpList_app rfl _ _ rfl w.heap.size _ 0 a rfl (Out.nil _ _ _) _ n ca a rfl ha (by omega) (Nat.le_refl _) ?_
       intro v1 w1 hO0 hg1
       have hO1 : Out w.heap.size w1 v1 n a := by rw [Nat.zero_add] at hO0; exact hO0.congr fun i hi => by simp [cat]
       clear hO0)))
  go_ret
  have hb1 : Below w.heap.size w w1 := grown_below hg1
  have hb2 : Below w.heap.size w w2 := (hb1.alloc hb1.size _).grown hg2 (by have := hb1.size; simp; omega) (own_ge hO1)
  obtain ⟨so, sc, rfl, _⟩ := hO2.row
  obtain ⟨g, rfl, _⟩ := hO2.spot (by omega)
  exact ⟨_, rfl, g, sc, rfl, hO2, hb2⟩
end Go.Proofs.YtjlmpgbadgkgmaaGreatDoor

/-
  plumblaw2's Keep, where an answer may be an empty list without room, whatever it points to: what is kept.
-/
namespace Go.Proofs.YtjlmpgbadgkgmaaGreatDoor
open Go Go.RowKit Go.Proofs.YtjlmpgbadgkgmaaGreatDoor.M
set_option linter.unusedSimpArgs false
set_option linter.unusedVariables false

/-- The block that a list may write: none where it has no room. -/
def ownE : Value → Option Nat
  | .slice _ _ 0 => none
  | v => v.ownBlock
/-- A list of the call's own, or an empty one without room. -/
def OutE (B : Nat) (w : World) (v : Value) (n : Nat) (d : Nat → Int) : Prop := (n = 0 ∧ ∃ ao, v = .slice ao 0 0) ∨ Out B w v n d
theorem OutE.or {B : Nat} {w : World} {v : Value} {n : Nat} {d : Nat → Int} (h : OutE B w v n d) : (n = 0 ∧ ∃ ao, v = .slice ao 0 0) ∨ (Out B w v n d ∧ ownE v = v.ownBlock) := by
  rcases h with h | h
  · exact .inl h
  · rcases id h.2 with ⟨rfl, rfl⟩ | ⟨g, cap, cur, rfl, _, _, hn, _⟩
    · exact .inl ⟨rfl, none, rfl⟩
    · cases cap with
      | zero =>
        obtain rfl : n = 0 := by omega
        exact .inl ⟨rfl, _, rfl⟩
      | succ cap => exact .inr ⟨h, rfl⟩
theorem ownE_none {ao : Option Addr} {n : Nat} : ownE (.slice ao n 0) = none := rfl
theorem OutE.of_block {B : Nat} {w w' : World} {x : Value} {n : Nat} {d : Nat → Int} (h : OutE B w x n d) (hb : ∀ g, ownE x = some g → w'.heap[g]? = w.heap[g]?) : OutE B w' x n d := by
  rcases h.or with h | ⟨h, e⟩
  · exact .inl h
  · exact .inr (h.of_block fun g hg => hb g (e.trans hg))
theorem OutE.typed {B : Nat} {w : World} {x : Value} {n : Nat} {d : Nat → Int} (h : OutE B w x n d) {g : Nat} (hg : ownE x = some g) : ∃ cur z, w.heap[g]? = some (.cells cur 3 z) := by
  rcases h.or with ⟨_, ao, rfl⟩ | ⟨h, e⟩
  · cases hg
  · exact h.typed (e.symm.trans hg)
theorem OutE.ge {B : Nat} {w : World} {x : Value} {n : Nat} {d : Nat → Int} (h : OutE B w x n d) {g : Nat} (hg : ownE x = some g) : B ≤ g ∧ g < w.heap.size := by
  rcases h.or with ⟨_, ao, rfl⟩ | ⟨h, e⟩
  · cases hg
  · exact h.ge (e.symm.trans hg)
theorem OutE.ik {B B' : Nat} {w w' : World} {x : Value} {n : Nat} {d : Nat → Int} (h : OutE B w x n d) (k : Ik B' w w') : OutE B w' x n d :=
  h.of_block fun g hg => by obtain ⟨cur, z, hc⟩ := h.typed hg; exact k.block g cur _ z (by decide) (by decide) hc
theorem OutE.stays {B : Nat} {w w' : World} {v : Value} {n : Nat} {d : Nat → Int} (h : OutE B w v n d) (hb : Below w.heap.size w w') : OutE B w' v n d :=
  h.of_block fun g hg => hb.block g (h.ge hg).2
theorem OutE.lower {B B' : Nat} {w : World} {v : Value} {n : Nat} {d : Nat → Int} (h : OutE B w v n d) (hB : B' ≤ B) : OutE B' w v n d := by
  rcases h with h | h
  · exact .inl h
  · exact .inr (h.lower hB)
theorem OutE.row {B : Nat} {w : World} {v : Value} {n : Nat} {d : Nat → Int} (h : OutE B w v n d) : ∃ ao cap, v = .slice ao n cap ∧ Row w ao n cap d := by
  rcases h with ⟨rfl, ao, rfl⟩ | h
  · exact ⟨ao, 0, rfl, Nat.le_refl _, by decide, fun _ => rfl, fun q => by omega⟩
  · exact h.row
theorem OutE.pos {B : Nat} {w : World} {v : Value} {n : Nat} {d : Nat → Int} (h : OutE B w v n d) (hn : 0 < n) : Out B w v n d := by
  rcases h with ⟨rfl, _⟩ | h
  · omega
  · exact h
theorem OutE.ownPos {B : Nat} {w : World} {v : Value} {n : Nat} {d : Nat → Int} (h : OutE B w v n d) (hn : 0 < n) : ownE v = v.ownBlock := by
  rcases h.or with ⟨rfl, _⟩ | ⟨_, h⟩
  · omega
  · exact h
theorem OutE.far {B : Nat} {w : World} {v : Value} {n : Nat} {d : Nat → Int} (h : OutE B w v n d) (g j : Nat) (x : Int) (hj : ownE v = some g → n ≤ j) : OutE B (w.setCell ⟨g, j, none⟩ (.int .i64 x)) v n d := by
  rcases h.or with h | ⟨h, e⟩
  · exact .inl h
  · exact .inr (h.far g j x fun q => hj (e.trans q))
/-- What is kept: m answers v, what they were (u), of n digits d. -/
structure KpE (B : Nat) (w : World) (k m : Nat) (v u : Nat → Value) (n : Nat → Nat) (d : Nat → Nat → Int) : Prop where
  blk : ∃ x y, w.heap[k]? = some (Obj.cells #[x, y] 26 (0, 0)) ∧ OutV B w x m v ∧ OutV B w y m u ∧ ∀ g, x.ownBlock = some g → y.ownBlock ≠ some g
  ge : B ≤ k
  ans : ∀ i, i < m → OutE B w (v i) (n i) (d i)
  was : ∀ i, i < m → Out B w (u i) (n i) (d i)
  len : ∀ i, i < m → n i ≤ 100000
  apart : ∀ i j, i < m → j < m → i ≠ j → ∀ g, (ownE (v i)) = some g → (ownE (v j)) ≠ some g
theorem KpE.keeps {B : Nat} {w w' : World} {k m : Nat} {v u : Nat → Value} {n : Nat → Nat} {d : Nat → Nat → Int} (h : KpE B w k m v u n d) (hb : Below w.heap.size w w') : KpE B w' k m v u n d := by
  obtain ⟨⟨x, y, hk, hx, hy, hxy⟩, hge, hans, hwas, hlen, hapart⟩ := h
  exact ⟨⟨x, y, (hb.block k (Array.getElem?_eq_some_iff.1 hk).1).trans hk, hx.of_block fun g hg => hb.block g (hx.ge hg).2, hy.of_block fun g hg => hb.block g (hy.ge hg).2, hxy⟩, hge, fun i hi => (hans i hi).stays hb, fun i hi => (hwas i hi).stays hb, hlen, hapart⟩
theorem KpE.more {B : Nat} {w w7 : World} {k m ln : Nat} {v u : Nat → Value} {n : Nat → Nat} {d : Nat → Nat → Int} {x y l c : Value} {ld : Nat → Int} (h : KpE B w k m v u n d) (hi : Ik B w w7)
    (hk : KX B w7 k x y (m + 1) (updV v m l) (m + 1) (updV u m c)) (hl : OutE B w l ln ld) (hc : Out B w7 c ln ld) (hn : ln ≤ 100000) (hap : ∀ i, i < m → ∀ g, (ownE (v i)) = some g → ownE l ≠ some g) :
    KpE B w7 k (m + 1) (updV v m l) (updV u m c) (updV n m ln) (updV d m ld) := by
  refine ⟨⟨x, y, hk.blk, hk.ox, hk.oy, hk.ne⟩, hk.ge, fun i hi' => ?_, fun i hi' => ?_, fun i hi' => ?_, fun i j hi' hj hij g => ?_⟩
  · by_cases e : i = m
    · subst e; simp only [updV_same]; exact hl.ik hi
    · rw [updV_other _ _ e, updV_other _ _ e, updV_other _ _ e]; exact (h.ans i (by omega)).ik hi
  · by_cases e : i = m
    · subst e; simp only [updV_same]; exact hc
    · rw [updV_other _ _ e, updV_other _ _ e, updV_other _ _ e]; exact (h.was i (by omega)).ik hi
  · by_cases e : i = m
    · subst e; simp only [updV_same]; exact hn
    · rw [updV_other _ _ e]; exact h.len i (by omega)
  · by_cases e : i = m
    · subst e
      rw [updV_same, updV_other _ _ (fun q => hij q.symm)]
      exact fun hg hg' => hap j (by omega) g hg' hg
    · rw [updV_other _ _ e]
      by_cases e' : j = m
      · subst e'; rw [updV_same]; exact hap i (by omega) g
      · rw [updV_other _ _ e']; exact h.apart i j (by omega) (by omega) hij g
end Go.Proofs.YtjlmpgbadgkgmaaGreatDoor
