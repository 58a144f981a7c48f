/-
  Parts of the proof, one behind another.
-/
import Derived.Test.YtnhkagiionkjaaaGreatDoorPart3
import Derived.Lib.AppendZerosOnto
import Derived.Test.YtnhkagiionkjaaaGreatDoorPart4
import Derived.Test.YtnhkagiionkjaaaGreatDoorPart11
import Derived.Test.YtnhkagiionkjaaaGreatDoorPart18
import Derived.Test.YtnhkagiionkjaaaGreatDoorPart19
import Derived.Test.YtnhkagiionkjaaaGreatDoorPart20
import Derived.Test.YtnhkagiionkjaaaGreatDoorPart8
/-
  plumblaw2's Keep: Apart, by its contract: what is kept lies apart, each answer in memory of its own.
-/
namespace Go.Proofs.YtnhkagiionkjaaaGreatDoor
open Go Go.RowKit Go.Proofs.YtnhkagiionkjaaaGreatDoor.M
set_option linter.unusedSimpArgs false
set_option linter.unusedVariables false

theorem zero_cells (L : Nat) : (Builtin.zeroCells (Value.int .i64 0).cells L).toList = vals (fun _ => 0) L := by
  apply vals_ext
  · rw [Array.length_toList, size_zeroCells]; show L * 1 = L; omega
  · intro i hi
    rw [Array.getElem?_toList]
    show ((Array.range (L * 1)).map fun i => (#[Value.int .i64 0] : Array Value)[i % 1]!)[i]? = _
    simp [Nat.mod_one, hi]
theorem run_append_room_zeros {P : Program} (w : World) (t tn ty e : TypeId) (i : TypeInfo) (z : Value) (kq kn : IntKind) (ht : P.underlying t = some (.slice e)) (htn : P.underlying tn = some (.int kn)) (hi : P.info? e = some i) (hz : i.zero = some z)
    (g sLen sCap : Nat) (cur : Array Value) (hg : w.heap[g]? = some (.cells cur e (0, 0))) (k : Nat) (h0 : 0 < k) (hs : 0 < i.size) (h1 : ∀ u ∈ (Builtin.zeroCells z.cells k).toList, u.oneCell' = true) (h63 : (k : Int) ≤ 9223372036854775807) (h48 : k * i.bytes ≤ 281474976710656)
    (hroom : sLen + k ≤ sCap) (hfit : sLen * i.size + (Builtin.zeroCells z.cells k).toList.length ≤ cur.size) :
    (Builtin.append_ #[t, tn] ty #[.slice (some ⟨g, 0, none⟩) sLen sCap, .int kq k]).run P w =
      .ok (.slice (some ⟨g, 0, none⟩) (sLen + k) sCap) (w.setRow g (cur.toList.take (sLen * i.size) ++ (Builtin.zeroCells z.cells k).toList ++ cur.toList.drop (sLen * i.size + (Builtin.zeroCells z.cells k).toList.length)).toArray) := by
  have hst := run_storeCells_at P g (sLen * i.size) e (Builtin.zeroCells z.cells k).toList 0 cur w hg (by simpa using hfit) h1
  simp only [Nat.add_zero] at hst
  have hk : k ≠ 0 := by omega
  have hw : IntKind.i64.wrap (k : Int) = k := by rw [IntKind.wrap_i64]; omega
  have h48i : ¬ (281474976710656 < (k : Int) * (i.bytes : Int)) := by
    rw [← Int.natCast_mul]
    omega
  have hneg : ¬ ((k : Int) < 0) := by omega
  have hns : ¬ (k * i.size = 0) := Nat.mul_ne_zero hk (by omega)
  simp [Builtin.append_, run_underlying ht, run_underlying htn, sizeOf, typeInfo, zeroValue, hi, hz, asInt, asIntOf, hw, hneg, hns, hroom, h48i, Addr.add_lit, hst]
/-- 'append(xs, make([]int, L)...)', L at least 1: the old slice reads as it did. -/
theorem run_zeros_keep {w : World} (ty : TypeId) (B : Nat) (v : Value) (n : Nat) (d : Nat → Int) (hO : Out B w v n d) (L : Nat) (hL : 0 < L) (hlen : n + L ≤ 1000000) (hB : B ≤ w.heap.size) :
    ∃ g cap w', (Builtin.append_ #[23, 3] ty #[v, .int .i64 L]).run Tryz.prog w = .ok (.slice (some ⟨g, 0, none⟩) (n + L) cap) w' ∧ Out B w' (.slice (some ⟨g, 0, none⟩) (n + L) cap) (n + L) (cat d n fun _ => 0) ∧ Out B w' v n d ∧ w.grownBy w' v.ownBlock ∧ (v.ownBlock = some g ∨ g = w.heap.size) := by
  obtain ⟨i0, hi, hz0, hz1, hz2⟩ := info_parts info_int
  have hone : ∀ u ∈ (Builtin.zeroCells (Value.int .i64 0).cells L).toList, u.oneCell' = true := by rw [zero_cells]; exact vals_one _ _
  have hzl : (Builtin.zeroCells (Value.int .i64 0).cells L).toList.length = L := by rw [zero_cells, vals_length]
  have fresh : ∀ (bo : Option Addr) (cap0 : Nat) (_ : v = .slice bo n cap0) (_ : cap0 < n + L) (_ : (Builtin.firstCells i0.size n (.slice bo n cap0)).run Tryz.prog w.drew = .ok (vals d n).toArray w.drew),
      ∃ g cap w', (Builtin.append_ #[23, 3] ty #[v, .int .i64 L]).run Tryz.prog w = .ok (.slice (some ⟨g, 0, none⟩) (n + L) cap) w' ∧ Out B w' (.slice (some ⟨g, 0, none⟩) (n + L) cap) (n + L) (cat d n fun _ => 0) ∧ Out B w' v n d ∧ w.grownBy w' v.ownBlock ∧ (v.ownBlock = some g ∨ g = w.heap.size) := by
    intro bo cap0 hv hcap hfc
    have hr := Lib.run_append_grow_zeros (P := Tryz.prog) w 23 3 ty 3 i0 (.int .i64 0) .i64 .i64 Tryz.underlying23 Tryz.underlying3 hi hz0 bo n cap0 (vals d n) hfc L hL (by rw [hz1]; decide) hcap (by omega) (by rw [hz2]; omega) (growslice_fits hcap (by rw [hz2]; omega))
    have hge := grownCap_ge w (n + L) cap0 3
    have hcm := grownCap_le_maxLen w (n + L) cap0 3 (by unfold maxLen; omega)
    refine ⟨_, _, _, by rw [hv]; exact hr, ⟨by rw [vals_length]; omega, .inr ⟨w.heap.size, _, _, rfl, hB, heap_alloc_new w.drew _, hge, hcm, ?_, ?_⟩⟩, ?_, ?_, .inr rfl⟩
    · simp only [Array.size_append, List.size_toArray, size_zeroCells, vals_length]
      show n + L * 1 + _ * 1 = _
      omega
    · simp only [Array.toList_append, zero_cells]
      rw [vals_cat, Nat.mul_one]
      exact List.take_left' (vals_length _ _)
    · exact Out.of_block hO fun g hg => Below.heap_alloc w.drew _ g (hO.ge hg).2
    · exact ⟨rfl, rfl, rfl, by simp, fun k hk _ => Below.heap_alloc w.drew _ k hk⟩
  rcases hO.2 with ⟨rfl, rfl⟩ | ⟨g0, cap0, cur, rfl, hbb, hg0, hn, hcm, hcs, htake⟩
  · exact fresh none 0 rfl (by omega) (by simp [run_firstCells_none, vals])
  · by_cases hroom : n + L ≤ cap0
    · have hr2 := run_append_room_zeros (P := Tryz.prog) w 23 3 ty 3 i0 (.int .i64 0) .i64 .i64 Tryz.underlying23 Tryz.underlying3 hi hz0 g0 n cap0 cur hg0 L hL (by rw [hz1]; decide) hone (by omega) (by rw [hz2]; omega) hroom (by rw [hzl, hz1]; omega)
      rw [hzl, hz1, zero_cells, Nat.mul_one] at hr2
      simp only [Nat.mul_one] at htake
      rw [htake] at hr2
      refine ⟨g0, cap0, _, hr2, ⟨by rw [vals_length]; omega, .inr ⟨g0, cap0, _, rfl, hbb, setRow_heap w g0 cur _ _ _ hg0, hroom, hcm, ?_, ?_⟩⟩, ⟨hO.1, .inr ⟨g0, cap0, _, rfl, hbb, setRow_heap w g0 cur _ _ _ hg0, hn, hcm, ?_, ?_⟩⟩, ⟨rfl, rfl, rfl, by simp, fun k _ hk => setRow_other w g0 k _ (fun e => hk (by simp [Value.ownBlock, e]))⟩, .inl rfl⟩
      · simp only [List.size_toArray, List.length_append, List.length_drop, Array.length_toList, vals_length]
        omega
      · rw [vals_cat, Nat.mul_one]
        exact List.take_left' (vals_length _ _)
      · simp only [List.size_toArray, List.length_append, List.length_drop, Array.length_toList, vals_length]
        omega
      · rw [List.append_assoc, Nat.mul_one]
        exact List.take_left' (vals_length _ _)
    · refine fresh _ cap0 rfl (by omega) ?_
      exact run_firstCells_some (P := Tryz.prog) w.drew i0.size n ⟨g0, 0, none⟩ n cap0 (vals d n) (by rw [vals_length, hz1]; omega) (hO.cells (g := g0) rfl)
theorem wpList_zeros_keep {w : World} {ops : Array Oper} {rest : List Oper} {o : Oper} {a : Act} {Q : Exit → Act → World → Prop} (hgd : o.guard = none) (s x : Operand) (ho : o.op = .call { callee := .builtin .append, args := #[s, x], argTypes := #[23, 3] })
    (B : Nat) (v : Value) (n : Nat) (d : Nat → Int) (hs : a.eval s = v) (hO : Out B w v n d) (L : Nat) (X : Int) (hx : a.eval x = .int .i64 X) (hX : X = L) (hL : 0 < L) (hlen : n + L ≤ 1000000) (hB : B ≤ w.heap.size)
    (h : ∀ g cap w', Out B w' (.slice (some ⟨g, 0, none⟩) (n + L) cap) (n + L) (cat d n fun _ => 0) → Out B w' v n d → w.grownBy w' v.ownBlock → (v.ownBlock = some g ∨ g = w.heap.size) → wpList Tryz.prog ops Q rest (a.put o.dst (.slice (some ⟨g, 0, none⟩) (n + L) cap)) w') : wpList Tryz.prog ops Q (o :: rest) a w := by
  subst hX
  obtain ⟨g, cap, w', hr, h2, h3, h4, h5⟩ := run_zeros_keep o.type B v n d hO L hL hlen hB
  exact Lib.wpList_append_run w hgd s x _ _ ho v (.int .i64 L) hs hx _ w' hr (h g cap w' h2 h3 h4 h5)
/-- A store elsewhere, or behind its end. -/
theorem Out.far {B : Nat} {w : World} {v : Value} {n : Nat} {d : Nat → Int} (h : Out B w v n d) (g j : Nat) (x : Int) (hj : v.ownBlock = some g → n ≤ j) : Out B (w.setCell ⟨g, j, none⟩ (.int .i64 x)) v n d := by
  rcases h.2 with ⟨rfl, rfl⟩ | ⟨g0, cap0, cur, rfl, hbb, hg0, hn, hcm, hcs, htake⟩
  · exact Out.nil _ _ _
  · by_cases e : g0 = g
    · subst e
      refine ⟨h.1, .inr ⟨g0, cap0, _, rfl, hbb, heap_setCell_same w g0 j cur _ _ hg0, hn, hcm, by simpa using hcs, ?_⟩⟩
      have hj := hj rfl
      rw [← htake]
      apply List.ext_getElem?
      intro i
      rw [List.getElem?_take, List.getElem?_take]
      split
      · rw [Array.getElem?_toList, Array.getElem?_toList, Array.getElem?_setIfInBounds_ne (by omega)]
      · rfl
    · exact h.of_block fun k hk => by
        simp only [Value.ownBlock, Option.some.injEq] at hk
        subst hk
        exact Below.heap_setCell _ _ _ _ e
/-- What is kept, as Apart turns it: m answers v of n digits d. -/
structure Ka (B : Nat) (w : World) (k m : Nat) (x y : Value) (v : Nat → Value) (n : Nat → Nat) (d : Nat → Nat → Int) : Prop where
  blk : w.heap[k]? = some (Obj.cells #[x, y] 34 (0, 0))
  ox : OutV B w x m v
  ge : B ≤ k
  ans : ∀ i, i < m → Out B w (v i) (n i) (d i)
  len : ∀ i, i < m → n i ≤ 100000
  apart : ∀ i j, i < m → j < m → i ≠ j → ∀ g, (v i).ownBlock = some g → (v j).ownBlock ≠ some g
theorem Ka.keeps {B : Nat} {w w' : World} {k m : Nat} {x y : Value} {v : Nat → Value} {n : Nat → Nat} {d : Nat → Nat → Int} (h : Ka B w k m x y v n d) (hb : Below w.heap.size w w') : Ka B w' k m x y v n d :=
  ⟨(hb.block k (Array.getElem?_eq_some_iff.1 h.blk).1).trans h.blk, h.ox.of_block fun g hg => hb.block g (h.ox.ge hg).2, h.ge, fun i hi => (h.ans i hi).stays hb, h.len, h.apart⟩
theorem Ka.step {B : Nat} {w w' : World} {k m : Nat} {x y : Value} {v : Nat → Value} {n : Nat → Nat} {d : Nat → Nat → Int} (h : Ka B w k m x y v n d) {i : Nat} (hi : i < m) {e : Nat → Int} (hg : w.grownBy w' (v i).ownBlock) (hO : Out B w' (v i) (n i) e) : Ka B w' k m x y v n (updV d i e) := by
  refine ⟨(hg.block k (Array.getElem?_eq_some_iff.1 h.blk).1 fun q => ?_).trans h.blk, h.ox.of_block fun g hgx => hg.block g (h.ox.ge hgx).2 fun q => ?_, h.ge, fun j hj => ?_, h.len, h.apart⟩
  · obtain ⟨cur, z, hc⟩ := (h.ans i hi).typed q.symm
    rw [h.blk] at hc
    simp at hc
  · obtain ⟨cur, z, hc⟩ := (h.ans i hi).typed q.symm
    obtain ⟨cur', z', hc'⟩ := h.ox.typed hgx
    rw [hc'] at hc
    simp at hc
  · by_cases q : j = i
    · subst q; rw [updV_same]; exact hO
    · rw [updV_other _ _ q]
      exact (h.ans j hj).of_block fun g hgj => hg.block g ((h.ans j hj).ge hgj).2 fun p => h.apart j i hj hi q g hgj p.symm
theorem grown_set (w : World) (g j : Nat) (x : Value) : w.grownBy (w.setCell ⟨g, j, none⟩ x) (some g) :=
  ⟨rfl, rfl, rfl, by simp [World.setCell], fun k hk hne => Below.heap_setCell _ _ _ _ fun e => hne (by change k = g at e; rw [e])⟩
theorem grown_trans {a b c : World} {r : Option Nat} (h : a.grownBy b r) (k : b.grownBy c r) : a.grownBy c r :=
  ⟨k.os.trans h.os, k.tape.trans h.tape, k.output.trans h.output, Nat.le_trans h.size k.size, fun i hi hne => (k.block i (Nat.lt_of_lt_of_le hi h.size) hne).trans (h.block i hi hne)⟩
theorem grown_more {w w' : World} {r : Option Nat} {g : Nat} (h : w.grownBy w' r) (hat : r = some g ∨ g = w.heap.size) (j : Nat) (x : Value) : w.grownBy (w'.setCell ⟨g, j, none⟩ x) r :=
  ⟨h.os, h.tape, h.output, by simp [World.setCell]; exact h.size, fun k hk hne => (Below.heap_setCell _ _ _ _ fun e => by
    change k = g at e
    rcases hat with q | q
    · exact hne (by rw [q, e])
    · omega).trans (h.block k hk hne)⟩
theorem World.ownsRow.capLe {w : World} {B : Nat} {e : TypeId} {ao : Option Addr} {n cap : Nat} {xs : List Value} (h : w.ownsRow B e 1 (.slice ao n cap) n xs) : n ≤ cap ∧ cap ≤ 9223372036854775807 := by
  rcases h.2 with ⟨q, _⟩ | ⟨g, cap', cur, q, _, _, hn, hm, _⟩
  · simp only [Value.slice.injEq] at q; omega
  · simp only [Value.slice.injEq] at q; unfold maxLen at hm; omega
theorem updV_self {α : Type} (v : Nat → α) (i : Nat) : updV v i (v i) = v := by
  funext j
  by_cases h : j = i
  · subst h; rw [updV_same]
  · rw [updV_other _ _ h]
theorem Ka.at {B : Nat} {w : World} {k m gx xc : Nat} {y : Value} {v : Nat → Value} {n : Nat → Nat} {d : Nat → Nat → Int} (h : Ka B w k m (.slice (some ⟨gx, 0, none⟩) m xc) y v n d) {p : Nat} (hp : p < m) :
    ∃ vo vc, v p = .slice vo (n p) vc ∧ n p ≤ vc ∧ vc ≤ 9223372036854775807 ∧ w.cell? ⟨gx, p, none⟩ = some (.slice vo (n p) vc) ∧ w.cell? ⟨k, 0, none⟩ = some (.slice (some ⟨gx, 0, none⟩) m xc) ∧ (0 < n p → ∃ g, vo = some ⟨g, 0, none⟩) := by
  obtain ⟨vo, vc, hv, rv⟩ := (h.ans p hp).row
  refine ⟨vo, vc, hv, rv.le, rv.max, ?_, (keep_at h.blk).1, fun hn => ?_⟩
  · rw [World.ownsRow.cellAt h.ox p (by omega), valsV_get v hp, hv]
  · have := h.ans p hp
    rw [hv] at this
    obtain ⟨g, e, _⟩ := this.spot hn
    exact ⟨g, e⟩
theorem Ka.cellAt {B : Nat} {w : World} {k m : Nat} {x y : Value} {v : Nat → Value} {n : Nat → Nat} {d : Nat → Nat → Int} (h : Ka B w k m x y v n d) {p s g vc : Nat} (hp : p < m) (hs : s < n p) (hv : v p = .slice (some ⟨g, 0, none⟩) (n p) vc) :
    w.cell? ⟨g, s, none⟩ = some (.int .i64 (d p s)) ∧ w.frozen? ⟨g, s, none⟩ = false := by
  have := h.ans p hp
  rw [hv] at this
  exact ⟨this.cell hs, this.frozen s⟩
theorem Ka.put {B : Nat} {w : World} {k m : Nat} {x y : Value} {v : Nat → Value} {n : Nat → Nat} {d : Nat → Nat → Int} (h : Ka B w k m x y v n d) {p s g vc : Nat} (hp : p < m) (hs : s < n p) (hv : v p = .slice (some ⟨g, 0, none⟩) (n p) vc) (z : Int) :
    Ka B (w.setCell ⟨g, s, none⟩ (.int .i64 z)) k m x y v n (updV d p (upd (d p) s z)) ∧ B ≤ g := by
  have h0 := h.ans p hp
  have h1 := h0
  rw [hv] at h0
  refine ⟨h.step hp (by rw [hv]; exact grown_set w g s _) (by rw [hv]; exact h0.store hs z), (h1.ge (g := g) (by rw [hv]; rfl)).1⟩
theorem same_self (ao bo : Option Addr) (n ca cb : Nat) (a : Nat → Int) (w : World) (ha : Row w ao n ca a) (hb : Row w bo n cb a) :
    Calls Tryz.prog 48 #[.slice ao n ca, .slice bo n cb] w fun e w' => e = .returned (.bool true) ∧ Below w.heap.size w w' := by
  refine (same_any ao bo n n ca cb a a w ha hb).mono ?_
  rintro e w' ⟨rfl, h⟩
  exact ⟨ret_bool (decide_eq_true ⟨rfl, fun _ _ => rfl⟩), h⟩
end Go.Proofs.YtnhkagiionkjaaaGreatDoor

/-
  plumblaw2's Keep: Apart, by its contract: what is kept lies apart, each answer in memory of its own.
-/
namespace Go.Proofs.YtnhkagiionkjaaaGreatDoor
open Go Go.RowKit Go.Proofs.YtnhkagiionkjaaaGreatDoor.M
set_option linter.unusedSimpArgs false
set_option linter.unusedVariables false

set_option maxHeartbeats 4000000 in
set_option maxRecDepth 100000 in
theorem apart_any (B k m : Nat) (v u : Nat → Value) (n : Nat → Nat) (d : Nat → Nat → Int) (w : World) (h : Kp B w k m v u n d) (hB : B ≤ w.heap.size) (hm : m ≤ 400) :
    Calls Tryz.prog 10 #[.pointer (some ⟨k, 0, none⟩)] w fun e w' => e = .returned (.bool true) ∧ Below B w w' := by
  have HK : Hid (Kp B w k m v u n d) := h
  obtain ⟨x, y, hk, hx, hy, hxy⟩ := h.blk
  have HX : Hid (KX B w k x y m v m u) := ⟨hk, hx, hy, hxy, h.ge⟩
  obtain ⟨xo, xc, rfl, hxl, hxm, hxs⟩ := hx.shape
  obtain ⟨yo, yc, rfl, hyl, hym, hys⟩ := hy.shape
  clear hk hx hy h hxy
  have HXS : Hid (0 < m → ∃ g, xo = some ⟨g, 0, none⟩) := hxs
  have HYS : Hid (0 < m → ∃ g, yo = some ⟨g, 0, none⟩) := hys
  clear hxs hys
  go_enter Tryz.func10, Tryz.ntmps10
  go_wp2_with fail
  go_loopw [3] (fun i wr => ∃ q : Nat, q ≤ m ∧ i = .int .i64 q ∧ Below w.heap.size w wr) (fun i _ => m - (intOf i).toNat)
  case atStart => exact ⟨0, Nat.zero_le _, rfl, bel_refl _⟩
  case round =>
    obtain ⟨q, hq, rfl, hbw⟩ := hrel
    obtain ⟨ck0, ck1, fk0, fk1⟩ := keep_at (HX.out.keeps hbw).blk
    by_cases hlt : q < m
    · obtain ⟨gx, rfl⟩ := HXS.out (by omega)
      obtain ⟨gy, rfl⟩ := HYS.out (by omega)
      have kx := HX.out.keeps hbw
      have kp := HK.out.keeps hbw
      have cx : wr.cell? ⟨gx, q, none⟩ = some (v q) := by rw [World.ownsRow.cellAt kx.ox q (by omega), valsV_get v hlt]
      have cy : wr.cell? ⟨gy, q, none⟩ = some (u q) := by rw [World.ownsRow.cellAt kx.oy q (by omega), valsV_get u hlt]
      obtain ⟨vo, vc, hv, rv⟩ := (kp.ans q hlt).row
      obtain ⟨uo, uc, hu, ru⟩ := (kp.was q hlt).row
      rw [hv] at cx
      rw [hu] at cy
      have cx' : wr.cell? ((⟨gx, 0, none⟩ : Addr).add q) = some (.slice vo (n q) vc) := by rw [add_none, Nat.zero_add]; exact cx
      have lt0 := World.block_lt_of_cell? wr _ ck0
      have ltx := World.block_lt_of_cell? wr _ cx
      have lty := World.block_lt_of_cell? wr _ cy
      clear kx kp hv hu
      have i0 : (0 : Int) ≤ (q : Int) := by omega
      have i1 : (q : Int) < (m : Int) := by omega
      go_wp2_with fail
      go_region_held3 (fun W => W.cell? ⟨k, 0, none⟩ = some (.slice (some ⟨gx, 0, none⟩) m xc) ∧ W.cell? ⟨gx, q, none⟩ = some (.slice vo (n q) vc) ∧ W.cell? ⟨k, 1, none⟩ = some (.slice (some ⟨gy, 0, none⟩) m yc) ∧ W.cell? ⟨gy, q, none⟩ = some (.slice uo (n q) uc))
        (first | go_keep | exact ⟨d0, d1, d2, d3⟩)
        (first | ((go_at_call 48; refine (same_self vo uo (n q) vc uc (d q) _ (rv.keeps (bel_refl _).drew) (ru.keeps (bel_refl _).drew)).mono ?_; rintro e w5 ⟨rfl, hb5⟩; have d0 := (hb5.cell (p := ⟨k, 0, none⟩) lt0).trans ck0; have d1 := (hb5.cell (p := ⟨gx, q, none⟩) ltx).trans cx; have d2 := (hb5.cell (p := ⟨k, 1, none⟩) lt0).trans ck1; have d3 := (hb5.cell (p := ⟨gy, q, none⟩) lty).trans cy)))
      go_wp2_with fail
      go_roundw
      case rel => exact ⟨q + 1, by omega, by go_num, bel_trans hbw.drew hb5⟩
      case measure => simp [intOf]; omega
    · obtain rfl : q = m := by omega
      have HA : Hid (Ka B wr k q (.slice xo q xc) (.slice yo q yc) v n d) := by
        have kx := HX.out.keeps hbw
        have kp := HK.out.keeps hbw
        exact ⟨kx.blk, kx.ox, kx.ge, kp.ans, kp.len, kp.apart⟩
      have hbB : Below B w wr := hbw.mono hB
      clear HX HK HYS hbw
      go_wp2_with fail
      go_loopw [4] (fun r w1 => ∃ (t : Nat) (e : Nat → Nat → Int), t ≤ 3 ∧ r = .int .i64 t ∧ Ka B w1 k q (.slice xo q xc) (.slice yo q yc) v n e ∧ (1 ≤ t → ∀ i, i < q → ∀ j, j < n i → e i j = -2 - i) ∧ Below B w w1) (fun r _ => 3 - (intOf r).toNat)
      case atStart => exact ⟨0, d, by omega, rfl, HA.out, fun h => by omega, hbB⟩
      case round =>
        obtain ⟨t, e, ht, rfl, ha, hmark, hb1⟩ := hrel
        have HM : Hid (1 ≤ t → ∀ i, i < q → ∀ j, j < n i → e i j = -2 - i) := hmark
        have HA1 : Hid _ := ha
        clear ha hmark HA
        by_cases h3 : t = 3
        · subst h3
          go_wp2_with fail
          go_ret
          exact ⟨rfl, hb1⟩
        · have h012 : t = 0 ∨ t = 1 ∨ t = 2 := by omega
          clear ht h3
          rcases h012 with h0 | h1 | h2
          · subst h0
            go_wp2_with fail
            go_loopw [5] (fun i w2 => ∃ (p : Nat) (f : Nat → Nat → Int), p ≤ q ∧ i = .int .i64 p ∧ Ka B w2 k q (.slice xo q xc) (.slice yo q yc) v n f ∧ Hid (∀ i, i < p → ∀ j, j < n i → f i j = -2 - i) ∧ Below B w w2) (fun i _ => q - (intOf i).toNat)
            case atStart => exact ⟨0, e, Nat.zero_le _, rfl, HA1.out, fun i hi => by omega, hb1⟩
            case round =>
              clear HA1 HM
              obtain ⟨p, f, hp, rfl, ha, HF, hb2⟩ := hrel
              have HA2 : Hid _ := ha
              clear ha
              by_cases hlt : p < q
              · obtain ⟨gx, rfl⟩ := HXS.out (by omega)
                have hn100 := HA2.out.len p hlt
                obtain ⟨vo, vc, hv, hvl, hvm, cx, ck0, hvs⟩ := HA2.out.at hlt
                have HV : Hid (v p = .slice vo (n p) vc) := hv
                have HVS : Hid (0 < n p → ∃ g, vo = some ⟨g, 0, none⟩) := hvs
                clear hv hvs cx
                go_wp2_with fail
                go_loopw [6] (fun j w3 => ∃ (s : Nat) (f' : Nat → Nat → Int), s ≤ n p ∧ j = .int .i64 s ∧ Ka B w3 k q (.slice (some ⟨gx, 0, none⟩) q xc) (.slice yo q yc) v n f' ∧ Hid (∀ i, i < p → ∀ j, j < n i → f' i j = -2 - i) ∧ Hid (∀ j, j < s → f' p j = -2 - p) ∧ Below B w w3) (fun j _ => n p - (intOf j).toNat)
                case atStart => exact ⟨0, f, Nat.zero_le _, rfl, HA2.out, HF, fun j hj => by omega, hb2⟩
                case round =>
                  clear HA2
                  obtain ⟨s, f', hs, rfl, ha3, HF3, HJ, hb3⟩ := hrel
                  have HA3 : Hid _ := ha3
                  clear ha3
                  obtain ⟨vo', vc', hv', _, _, cx, ck0, _⟩ := HA3.out.at hlt
                  obtain ⟨rfl, _, rfl⟩ : vo = vo' ∧ True ∧ vc = vc' := by have := HV.out.symm.trans hv'; simp only [Value.slice.injEq, true_and] at this; exact ⟨this.1, trivial, this.2⟩
                  clear hv'
                  by_cases hsl : s < n p
                  · obtain ⟨gv, rfl⟩ := HVS.out (by omega)
                    obtain ⟨cv, fv⟩ := HA3.out.cellAt hlt hsl HV.out
                    obtain ⟨HP, hgB⟩ := HA3.out.put hlt hsl HV.out (-2 - p)
                    go_wp2_with fail
                    go_roundw
                    case rel => exact ⟨s + 1, _, by omega, by go_num, HP, fun i hi j hj => by rw [updV_other _ _ (by omega)]; exact HF3.out i hi j hj, fun j hj => by
                        rw [updV_same]
                        by_cases e : j = s
                        · rw [e, upd_same]
                        · rw [upd_other _ _ e]; exact HJ.out j (by omega), hb3.setCell hgB _⟩
                    case measure => simp [intOf]; omega
                  · obtain rfl : s = n p := by omega
                    go_wp2_with fail
                    go_loopw [7] (fun g w4 => g = .int .i64 1 ∧ Ka B w4 k q (.slice (some ⟨gx, 0, none⟩) q xc) (.slice yo q yc) v n f' ∧ Below B w w4) (fun _ _ => 0)
                    case atStart => exact ⟨rfl, HA3.out, hb3⟩
                    case round =>
                      obtain ⟨rfl, ha4, hb4⟩ := hrel
                      go_wp2_with fail
                      go_roundw
                      case rel => exact ⟨p + 1, f', by omega, by go_num, ha4, fun i hi j hj => by
                          by_cases e : i = p
                          · subst e; exact HJ.out j hj
                          · exact HF3.out i (by omega) j hj, hb4⟩
                      case measure => simp [intOf]; omega
              · obtain rfl : p = q := by omega
                obtain ⟨ck0, ck1, fk0, fk1⟩ := keep_at HA2.out.blk
                go_wp2_with fail
                go_roundw
                case rel => exact ⟨1, f, by omega, by go_num, HA2.out, fun _ => HF.out, hb2⟩
                case measure => simp [intOf]
          · subst h1
            go_wp2_with fail
            go_loopw [5] (fun i w2 => ∃ (p : Nat) (f : Nat → Nat → Int), p ≤ q ∧ i = .int .i64 p ∧ Ka B w2 k q (.slice xo q xc) (.slice yo q yc) v n f ∧ Hid (∀ i, i < q → ∀ j, j < n i → f i j = -2 - i) ∧ Below B w w2) (fun i _ => q - (intOf i).toNat)
            case atStart => exact ⟨0, e, Nat.zero_le _, rfl, HA1.out, HM.out (by omega), hb1⟩
            case round =>
              clear HA1 HM
              obtain ⟨p, f, hp, rfl, ha, HF, hb2⟩ := hrel
              have HA2 : Hid _ := ha
              clear ha
              by_cases hlt : p < q
              · obtain ⟨gx, rfl⟩ := HXS.out (by omega)
                have hn100 := HA2.out.len p hlt
                obtain ⟨vo, vc, hv, hvl, hvm, cx, ck0, hvs⟩ := HA2.out.at hlt
                have HV : Hid (v p = .slice vo (n p) vc) := hv
                have HVS : Hid (0 < n p → ∃ g, vo = some ⟨g, 0, none⟩) := hvs
                clear hv hvs cx
                go_wp2_with fail
                go_loopw [6] (fun j w3 => ∃ (s : Nat), s ≤ n p ∧ j = .int .i64 s ∧ Ka B w3 k q (.slice (some ⟨gx, 0, none⟩) q xc) (.slice yo q yc) v n f ∧ Below B w w3) (fun j _ => n p - (intOf j).toNat)
                case atStart => exact ⟨0, Nat.zero_le _, rfl, HA2.out, hb2⟩
                case round =>
                  clear HA2
                  obtain ⟨s, hs, rfl, ha3, hb3⟩ := hrel
                  have HA3 : Hid _ := ha3
                  clear ha3
                  obtain ⟨vo', vc', hv', _, _, cx, ck0, _⟩ := HA3.out.at hlt
                  obtain ⟨rfl, _, rfl⟩ : vo = vo' ∧ True ∧ vc = vc' := by have := HV.out.symm.trans hv'; simp only [Value.slice.injEq, true_and] at this; exact ⟨this.1, trivial, this.2⟩
                  clear hv'
                  by_cases hsl : s < n p
                  · go_wp2_with fail
                    go_roundw
                    case rel => exact ⟨s + 1, by omega, by go_num, HA3.out, hb3⟩
                    case measure => simp [intOf]; omega
                  · obtain rfl : s = n p := by omega
                    go_wp2_with fail
                    go_loopw [7] (fun g w4 => ∃ s : Nat, 1 ≤ s ∧ s ≤ 18 ∧ g = .int .i64 s ∧ Ka B w4 k q (.slice (some ⟨gx, 0, none⟩) q xc) (.slice yo q yc) v n f ∧ Below B w w4) (fun g _ => 18 - (intOf g).toNat)
                    case atStart => exact ⟨1, by omega, by omega, rfl, HA3.out, hb3⟩
                    case round =>
                      clear HA3 cx ck0
                      obtain ⟨s, hs1, hs2, rfl, ha4, hb4⟩ := hrel
                      have HA4 : Hid _ := ha4
                      clear ha4
                      obtain ⟨vo', vc', hv', _, _, cx, ck0, _⟩ := HA4.out.at hlt
                      obtain ⟨rfl, _, rfl⟩ : vo = vo' ∧ True ∧ vc = vc' := by have := HV.out.symm.trans hv'; simp only [Value.slice.injEq, true_and] at this; exact ⟨this.1, trivial, this.2⟩
                      clear hv'
                      by_cases hs17 : s ≤ 17
                      · obtain ⟨L, hL0, hL1, hL2⟩ : ∃ L : Nat, (s : Int) + (s : Int) / 17 * 80 = L ∧ 1 ≤ L ∧ L ≤ 97 := ⟨s + s / 17 * 80, by omega, by omega, by omega⟩
                        have ho4 := HA4.out.ans p hlt
                        rw [HV.out] at ho4
                        have hB4 : B ≤ wr.heap.size := by have := hb4.size; omega
                        have HO4 : Hid (Out B wr (.slice vo (n p) vc) (n p) (f p)) := ho4
                        clear ho4
                        go_wp2_with (first
                          | (at_builtin
                             refine wpList_zeros_keep rfl _ _ rfl B _ (n p) (f p) rfl HO4.out L _ rfl (by first | rfl | exact hL0) (by omega) (by omega) hB4 ?_
                             intro g cap w5 hN hO hg hat
                             have cg := hN.cell (i := n p + L - 1) (by omega)
                             have fg := hN.frozen (n p + L - 1)
                             have hgB := (hN.ge (g := g) rfl).1
                             have HOO : Hid (Out B w5 (.slice vo (n p) vc) (n p) (f p)) := hO
                             have HGG : Hid (wr.grownBy w5 (Value.slice vo (n p) vc).ownBlock) := hg
                             have HAT : Hid ((Value.slice vo (n p) vc).ownBlock = some g ∨ g = wr.heap.size) := hat
                             have hcap := World.ownsRow.capLe hN
                             clear hN hO hg hat))
                        have KP := HA4.out.step hlt (e := f p) (w' := w5.setCell ⟨g, n p + L - 1, none⟩ (.int .i64 7)) (by rw [HV.out]; exact grown_more HGG.out HAT.out _ _) (by rw [HV.out]; exact HOO.out.far g _ 7 fun _ => by omega)
                        rw [updV_self] at KP
                        have BB : Below B w (w5.setCell ⟨g, n p + L - 1, none⟩ (.int .i64 7)) := (hb4.grown HGG.out hB4 (own_ge HO4.out)).setCell hgB _
                        refine ⟨⟨_, _, _, _, _, _, _, _, _, _, _, _, _, _, _, _, _, _, _, _, _, _, _, _, _, _, _, _, ⟨s + 1, by omega, by omega, ?_, KP, BB⟩, rfl⟩, ?_⟩
                        · go_num
                        · simp [intOf]; omega
                      · obtain rfl : s = 18 := by omega
                        go_wp2_with fail
                        go_roundw
                        case rel => exact ⟨p + 1, f, by omega, by go_num, HA4.out, HF, hb4⟩
                        case measure => simp [intOf]; omega
              · obtain rfl : p = q := by omega
                obtain ⟨ck0, ck1, fk0, fk1⟩ := keep_at HA2.out.blk
                go_wp2_with fail
                go_roundw
                case rel => exact ⟨2, f, by omega, by go_num, HA2.out, fun _ => HF.out, hb2⟩
                case measure => simp [intOf]
          · subst h2
            go_wp2_with fail
            go_loopw [5] (fun i w2 => ∃ (p : Nat) (f : Nat → Nat → Int), p ≤ q ∧ i = .int .i64 p ∧ Ka B w2 k q (.slice xo q xc) (.slice yo q yc) v n f ∧ Hid (∀ i, i < q → ∀ j, j < n i → f i j = -2 - i) ∧ Below B w w2) (fun i _ => q - (intOf i).toNat)
            case atStart => exact ⟨0, e, Nat.zero_le _, rfl, HA1.out, HM.out (by omega), hb1⟩
            case round =>
              clear HA1 HM
              obtain ⟨p, f, hp, rfl, ha, HF, hb2⟩ := hrel
              have HA2 : Hid _ := ha
              clear ha
              by_cases hlt : p < q
              · obtain ⟨gx, rfl⟩ := HXS.out (by omega)
                have hn100 := HA2.out.len p hlt
                obtain ⟨vo, vc, hv, hvl, hvm, cx, ck0, hvs⟩ := HA2.out.at hlt
                have HV : Hid (v p = .slice vo (n p) vc) := hv
                have HVS : Hid (0 < n p → ∃ g, vo = some ⟨g, 0, none⟩) := hvs
                clear hv hvs cx
                go_wp2_with fail
                go_loopw [6] (fun j w3 => ∃ (s : Nat), s ≤ n p ∧ j = .int .i64 s ∧ Ka B w3 k q (.slice (some ⟨gx, 0, none⟩) q xc) (.slice yo q yc) v n f ∧ Below B w w3) (fun j _ => n p - (intOf j).toNat)
                case atStart => exact ⟨0, Nat.zero_le _, rfl, HA2.out, hb2⟩
                case round =>
                  clear HA2
                  obtain ⟨s, hs, rfl, ha3, hb3⟩ := hrel
                  have HA3 : Hid _ := ha3
                  clear ha3
                  obtain ⟨vo', vc', hv', _, _, cx, ck0, _⟩ := HA3.out.at hlt
                  obtain ⟨rfl, _, rfl⟩ : vo = vo' ∧ True ∧ vc = vc' := by have := HV.out.symm.trans hv'; simp only [Value.slice.injEq, true_and] at this; exact ⟨this.1, trivial, this.2⟩
                  clear hv'
                  by_cases hsl : s < n p
                  · obtain ⟨gv, rfl⟩ := HVS.out (by omega)
                    obtain ⟨cv, fv⟩ := HA3.out.cellAt hlt hsl HV.out
                    rw [HF.out p hlt s hsl] at cv
                    go_wp2_with fail
                    go_roundw
                    case rel => exact ⟨s + 1, by omega, by go_num, HA3.out, hb3⟩
                    case measure => simp [intOf]; omega
                  · obtain rfl : s = n p := by omega
                    go_wp2_with fail
                    go_loopw [7] (fun g w4 => g = .int .i64 1 ∧ Ka B w4 k q (.slice (some ⟨gx, 0, none⟩) q xc) (.slice yo q yc) v n f ∧ Below B w w4) (fun _ _ => 0)
                    case atStart => exact ⟨rfl, HA3.out, hb3⟩
                    case round =>
                      obtain ⟨rfl, ha4, hb4⟩ := hrel
                      go_wp2_with fail
                      go_roundw
                      case rel => exact ⟨p + 1, f, by omega, by go_num, ha4, HF, hb4⟩
                      case measure => simp [intOf]; omega
              · obtain rfl : p = q := by omega
                obtain ⟨ck0, ck1, fk0, fk1⟩ := keep_at HA2.out.blk
                go_wp2_with fail
                go_roundw
                case rel => exact ⟨3, f, by omega, by go_num, HA2.out, fun _ => HF.out, hb2⟩
                case measure => simp [intOf]
end Go.Proofs.YtnhkagiionkjaaaGreatDoor

/-
  plumblaw2's Keep: where it begins (nothing is kept), where it ends (Apart).
-/
namespace Go.Proofs.YtnhkagiionkjaaaGreatDoor
open Go Go.RowKit Go.Proofs.YtnhkagiionkjaaaGreatDoor.M
set_option linter.unusedSimpArgs false
set_option linter.unusedVariables false

/-- Nothing is kept yet. -/
theorem kept_new (w : World) {B : Nat} (hB : B ≤ w.heap.size) : Kept B (w.alloc (.cells #[.slice none 0 0, .slice none 0 0] 34)) w.heap.size (fun _ => False) :=
  ⟨0, fun _ => .slice none 0 0, fun _ => .slice none 0 0, fun _ => 0, fun _ _ => 0, by omega, ⟨⟨.slice none 0 0, .slice none 0 0, heap_alloc_new w _, World.ownsRow_nil _ _ _ _, World.ownsRow_nil _ _ _ _, fun g hg => by simp [Value.ownBlock] at hg⟩, hB, fun i hi => by omega, fun i hi => by omega, fun i hi => by omega, fun i j hi => by omega⟩, fun i hi => by omega, fun i hi => by omega⟩
theorem apart_kept {B k : Nat} {w : World} {S : Nat → Prop} (h : Kept B w k S) (hB : B ≤ w.heap.size) :
    Calls Tryz.prog 10 #[.pointer (some ⟨k, 0, none⟩)] w fun e w' => e = .returned (.bool true) ∧ Below B w w' := by
  obtain ⟨m, v, u, n, d, hm, hk, _, _⟩ := h
  exact apart_any B k m v u n d w hk hB hm
end Go.Proofs.YtnhkagiionkjaaaGreatDoor

/-
  What a row that lists both layouts gives.
-/
namespace Go.Proofs.YtnhkagiionkjaaaGreatDoor
open Go Go.ChangeShapes Go.WideShapes Go.ChangeAt Go.RowKit Go.Proofs.YtnhkagiionkjaaaGreatDoor.M
set_option linter.unusedSimpArgs false
set_option linter.unusedVariables false

/-- What the laws want of the package's variables, both layouts. -/
structure Hold2 (w : World) : Prop where
  lay : Lay64 w
  tab : Tab w
  lay32 : Lay32 w
theorem Hold2.keeps {w w' : World} (h : Hold2 w) (hb : Below w.heap.size w w') : Hold2 w' := ⟨h.lay.keeps hb, h.tab.keeps hb, h.lay32.keeps hb⟩
theorem hold2_of {W : World} (h : laidMetH Tryz.prog [("math/bits.deBruijn32tab", Rows.laid_math_bits_deBruijn32tab), ("math/bits.deBruijn64tab", Rows.laid_math_bits_deBruijn64tab), ("plumb/bits.binary64", Rows.laid_plumb_bits_binary64), ("plumb/bits.binary32", Rows.laid_plumb_bits_binary32)] W) : Hold2 W := by
  rw [MakeChecks.laidMetH_plain _ _ _ (by kernel_rfl)] at h
  have h' : laidMet Tryz.prog (("math/bits.deBruijn64tab", Lib.tabData .u8 tabInts) :: [("plumb/bits.binary64", Rows.laid_plumb_bits_binary64), ("plumb/bits.binary32", Rows.laid_plumb_bits_binary32)]) W := h.tail
  have t := Lib.tabIs_of_head gTab gTabType Tryz.underlying115 Tryz.underlying5 cellsByte cellsTab h'
  obtain ⟨a0, a1, a2⟩ := three g64 g64Type h'.tail
  obtain ⟨b0, b1, b2⟩ := three g32 g32Type h'.tail.tail
  refine ⟨⟨a0, a1, a2⟩, fun j hj => ?_, ⟨b0, b1, b2⟩⟩
  rw [← tab_get j hj]
  exact t.cell gTab j (by exact hj)
end Go.Proofs.YtnhkagiionkjaaaGreatDoor

/-
  plumblaw3.made at anything, by its contract.
-/
namespace Go.Proofs.YtnhkagiionkjaaaGreatDoor
open Go Go.RowKit Go.Proofs.YtnhkagiionkjaaaGreatDoor.M
set_option linter.unusedSimpArgs false
set_option linter.unusedVariables false

theorem cls_ok (b : Int) : decide (cls b < 3) = pok b := by
  unfold cls pok
  by_cases h : fld b = 2047
  · simp [h]
    by_cases h1 : frc b = 0 <;> simp [h1]
  · simp [h]
    by_cases h1 : fld b = 0
    · simp [h1]
      by_cases h2 : frc b = 0 <;> simp [h2]
    · simp [h1]
theorem cls32_ok (b : Int) : decide (cls32 b < 3) = pok32 b := by
  unfold cls32 pok32 in32
  by_cases h0 : b < 0 ∨ 4294967296 ≤ b
  · rw [if_pos h0]
    have : ¬ (0 ≤ b ∧ b < 4294967296) := by omega
    simp [this]
  · rw [if_neg h0]
    have : (0 ≤ b ∧ b < 4294967296) := by omega
    by_cases h : fld32 b = 255
    · simp [h]
      by_cases h1 : frc32 b = 0 <;> simp [h1]
    · simp [h]
      by_cases h1 : fld32 b = 0
      · simp [h1, this]
        by_cases h2 : frc32 b = 0 <;> simp [h2]
      · simp [h1, this]
theorem refFinite (b : Int) (w : World) (hb : rng b) :
    Calls Tryz.prog 22 #[.int .i64 b] w fun e w' => e = .returned (.bool (pok b)) ∧ w' = w := by
  rw [← cls_ok]
  go_enter Tryz.func22, Tryz.ntmps22
  go_wp2_with fail
  refine (refClass b w hb).mono ?_
  rintro e w' ⟨rfl, rfl⟩
  go_wp2
  go_ret
  exact ⟨rfl, rfl⟩
theorem made_any {w0 : World} (ng : Bool) (a_o : Option Addr) (a_n a_c : Nat) (a_d : Nat → Int) (ex b : Int) (ra : Row w0 a_o a_n a_c a_d) (hn : a_n ≤ 2100) (hb : rng b) (w : World) (hb0 : Below w0.heap.size w0 w) {k : Nat} {S : Nat → Prop} (hk : Kept w0.heap.size w k S) (H : Hold2 w0) :
    Calls Tryz.prog 6 #[.pointer (some ⟨k, 0, none⟩), .bool ng, .slice a_o a_n a_c, .int .i64 ex, .int .i64 b] w fun e w' => e = .returned (.bool true) ∧ Below w0.heap.size w0 w' ∧ ∃ S', Kept w0.heap.size w' k S' ∧ Fr w w' := by
  have CF := fun W => refFinite b W hb
  have CL := fun W => refClass32 b W
  have hcl := cls32_ok b
  have D64 : pok b = true → Dok (sg (pneg b) (pmag b) * pw (pexp b)) := fun h => by
    obtain ⟨i0, i1, i2, i3⟩ := pmag_in h
    exact dok_small i0 (by omega) i2 i3
  have D32 : pok32 b = true → Dok (sg (pneg32 b) (pmag32 b) * pw (pexp32 b)) := fun h => by
    obtain ⟨i0, i1, i2, i3⟩ := pmag32_in h
    exact dok_small i0 (by omega) (by omega) (by omega)
  have CY : pok b = true → ∀ W, Below w0.heap.size w0 W → Calls Tryz.prog 13 #[.int .i64 b] W fun r w' => ∃ v, r = .returned (.tuple #[v, .int .i64 0]) ∧ DAns W w' (sg (pneg b) (pmag b) * pw (pexp b)) v := fun hp W hW => by
    refine (dof_any b W (H.lay.keeps hW) (H.tab.keeps hW)).mono ?_
    rintro r w' ⟨v, er, rfl, _, ⟨_, rfl, h⟩ | ⟨h, _⟩⟩
    · exact ⟨v, rfl, h⟩
    · rw [hp] at h; cases h
  have CN : pok b = false → ∀ W, Below w0.heap.size w0 W → Calls Tryz.prog 13 #[.int .i64 b] W fun r w' => r = .returned (.tuple #[zeroV, .int .i64 10]) ∧ Below W.heap.size W w' := fun hp W hW => by
    refine (dof_any b W (H.lay.keeps hW) (H.tab.keeps hW)).mono ?_
    rintro r w' ⟨v, er, rfl, hbe, ⟨h, _⟩ | ⟨_, rfl, rfl⟩⟩
    · rw [hp] at h; cases h
    · exact ⟨rfl, hbe⟩
  have CY2 : pok32 b = true → ∀ W, Below w0.heap.size w0 W → Calls Tryz.prog 21 #[.int .i64 b] W fun r w' => ∃ v, r = .returned (.tuple #[v, .int .i64 0]) ∧ DAns W w' (sg (pneg32 b) (pmag32 b) * pw (pexp32 b)) v := fun hp W hW => by
    refine (dof32_any b W (H.lay32.keeps hW) (H.tab.keeps hW)).mono ?_
    rintro r w' ⟨v, er, rfl, _, ⟨_, rfl, h⟩ | ⟨h, _⟩⟩
    · exact ⟨v, rfl, h⟩
    · rw [hp] at h; cases h
  have CN2 : pok32 b = false → ∀ W, Below w0.heap.size w0 W → Calls Tryz.prog 21 #[.int .i64 b] W fun r w' => r = .returned (.tuple #[zeroV, .int .i64 10]) ∧ Below W.heap.size W w' := fun hp W hW => by
    refine (dof32_any b W (H.lay32.keeps hW) (H.tab.keeps hW)).mono ?_
    rintro r w' ⟨v, er, rfl, hbe, ⟨h, _⟩ | ⟨_, rfl, rfl⟩⟩
    · rw [hp] at h; cases h
    · exact ⟨rfl, hbe⟩
  have RY : pok b = true → ∀ W, Below w0.heap.size w0 W → Calls Tryz.prog 25 #[.int .i64 b] W fun r w' => ∃ v, r = .returned v ∧ DAns W w' (sg (pneg b) (pmag b) * pw (pexp b)) v := fun hp W _ => rof_any b W hb hp
  have RY2 : pok32 b = true → ∀ W, Below w0.heap.size w0 W → Calls Tryz.prog 26 #[.int .i64 b] W fun r w' => ∃ v, r = .returned v ∧ DAns W w' (sg (pneg32 b) (pmag32 b) * pw (pexp32 b)) v := fun hp W _ => rof32_any b W hb hp
  generalize sg (pneg b) (pmag b) * pw (pexp b) = V64 at *
  generalize sg (pneg32 b) (pmag32 b) * pw (pexp32 b) = V32 at *
  generalize cls32 b = cl at *
  have fin : ∀ {MV er : Int}, ((∀ W cb cc, Below w0.heap.size w0 W → Row W (some ⟨cb, 0, none⟩) a_n cc a_d → Calls Tryz.prog 12 #[.bool ng, .slice (some ⟨cb, 0, none⟩) a_n cc, .int .i64 ex] W fun r w' => r = .returned (.tuple #[zeroV, .int .i64 er]) ∧ Below W.heap.size W w') ∧ (∀ W, Below w0.heap.size w0 W → Calls Tryz.prog 18 #[.bool ng, .slice a_o a_n a_c, .int .i64 ex] W fun r w' => r = .returned (.tuple #[zeroV, .int .i64 er]) ∧ Below W.heap.size W w')) ∨
      ((∀ W cb cc, Below w0.heap.size w0 W → Row W (some ⟨cb, 0, none⟩) a_n cc a_d → Calls Tryz.prog 12 #[.bool ng, .slice (some ⟨cb, 0, none⟩) a_n cc, .int .i64 ex] W fun r w' => ∃ v, r = .returned (.tuple #[v, .int .i64 0]) ∧ DAns W w' MV v) ∧ (∀ W, Below w0.heap.size w0 W → Calls Tryz.prog 18 #[.bool ng, .slice a_o a_n a_c, .int .i64 ex] W fun r w' => ∃ v, r = .returned (.tuple #[v, .int .i64 0]) ∧ DAns W w' MV v) ∧ Dok MV) →
      Calls Tryz.prog 6 #[.pointer (some ⟨k, 0, none⟩), .bool ng, .slice a_o a_n a_c, .int .i64 ex, .int .i64 b] w fun e w' => e = .returned (.bool true) ∧ Below w0.heap.size w0 w' ∧ ∃ S', Kept w0.heap.size w' k S' ∧ Fr w w' := fun {MV er} h => by
    rcases h with ⟨h1, h2⟩ | ⟨h1, h2, h3⟩
    · cases p1 : pok b <;> cases p2 : pok32 b <;> rw [p1] at CF <;> rw [p2] at hcl
      · exact made_z00 ng a_o a_n a_c a_d ex b (MV := MV) (V64 := V64) (V32 := V32) ra hn w hb0 hk h1 h2 CF CL hcl (CN p1) (CN2 p2)
      · exact made_z01 ng a_o a_n a_c a_d ex b (MV := MV) (V64 := V64) ra hn w hb0 hk h1 h2 CF CL hcl (CN p1) (CY2 p2) (RY2 p2) (D32 p2)
      · exact made_z10 ng a_o a_n a_c a_d ex b (MV := MV) (V32 := V32) ra hn w hb0 hk h1 h2 CF CL hcl (CY p1) (RY p1) (D64 p1) (CN2 p2)
      · exact made_z11 ng a_o a_n a_c a_d ex b (MV := MV) ra hn w hb0 hk h1 h2 CF CL hcl (CY p1) (RY p1) (D64 p1) (CY2 p2) (RY2 p2) (D32 p2)
    · cases p1 : pok b <;> cases p2 : pok32 b <;> rw [p1] at CF <;> rw [p2] at hcl
      · exact made_g00 ng a_o a_n a_c a_d ex b (er := er) (V64 := V64) (V32 := V32) ra hn w hb0 hk h1 h2 h3 CF CL hcl (CN p1) (CN2 p2)
      · exact made_g01 ng a_o a_n a_c a_d ex b (er := er) (V64 := V64) ra hn w hb0 hk h1 h2 h3 CF CL hcl (CN p1) (CY2 p2) (RY2 p2) (D32 p2)
      · exact made_g10 ng a_o a_n a_c a_d ex b (er := er) (V32 := V32) ra hn w hb0 hk h1 h2 h3 CF CL hcl (CY p1) (RY p1) (D64 p1) (CN2 p2)
      · exact made_g11 ng a_o a_n a_c a_d ex b (er := er) ra hn w hb0 hk h1 h2 h3 CF CL hcl (CY p1) (RY p1) (D64 p1) (CY2 p2) (RY2 p2) (D32 p2)
  cases ok : okB a_d a_n
  · exact fin (MV := 0) (er := 11) (.inl ⟨fun W cb cc hW hR => dmake_bad ng _ _ _ a_d ex W hR ok, fun W hW => rmake3_bad ng _ _ _ a_d ex W (ra.keeps hW) ok⟩)
  · by_cases hD : Dok (mkV ng (val a_d a_n) ex)
    · refine fin (MV := mkV ng (val a_d a_n) ex) (er := 0) (.inr ⟨fun W cb cc hW hR => ?_, fun W hW => ?_, hD⟩)
      · refine (dmake_all ng _ _ _ a_d ex W hR ok (H.tab.keeps hW)).mono ?_
        rintro r w' ⟨v, er, rfl, hF⟩
        obtain ⟨rfl, h⟩ := hF.yes hD
        exact ⟨v, rfl, h⟩
      · refine (rmake3_any ng _ _ _ a_d ex W (ra.keeps hW) ok).mono ?_
        rintro r w' ⟨v, er, rfl, hF⟩
        obtain ⟨rfl, h⟩ := DFit.yes hF hD
        exact ⟨v, rfl, h⟩
    · refine fin (MV := 0) (er := 2) (.inl ⟨fun W cb cc hW hR => ?_, fun W hW => ?_⟩)
      · refine (dmake_all ng _ _ _ a_d ex W hR ok (H.tab.keeps hW)).mono ?_
        rintro r w' ⟨v, er, rfl, hF⟩
        rcases hF.2 with ⟨h, _⟩ | ⟨_, rfl, rfl⟩
        · exact absurd h hD
        · exact ⟨rfl, hF.1⟩
      · refine (rmake3_any ng _ _ _ a_d ex W (ra.keeps hW) ok).mono ?_
        rintro r w' ⟨v, er, rfl, hF⟩
        rcases hF.2 with ⟨h, _⟩ | ⟨_, rfl, rfl⟩
        · exact absurd h hD
        · exact ⟨rfl, hF.1⟩
end Go.Proofs.YtnhkagiionkjaaaGreatDoor

/-
  Package plumbref3: Scale, by its contract.
-/
namespace Go.Proofs.YtnhkagiionkjaaaGreatDoor
open Go Go.RowKit Go.Proofs.YtnhkagiionkjaaaGreatDoor.M
set_option linter.unusedSimpArgs false
set_option linter.unusedVariables false

theorem mk_far2 {ng : Bool} {M e : Int} (h0 : M ≠ 0) (h1 : 0 ≤ M) (h2 : M < P 2000) (he : 2097152 ≤ e ∨ e ≤ -2097152) : ¬ Dok (mkV ng M e) := by
  unfold mkV
  rw [if_neg h0]
  rcases he with he | he
  · rw [if_neg (by omega)]
    exact not_dok_high (by omega) (by omega)
  · by_cases h : e < -4194304
    · rw [if_pos h]; exact not_dok_one
    · rw [if_neg h]
      exact not_dok_low (by omega) h2 (by omega) (by omega)
/-- The document's own answer of Scale: the number's digits with another exponent, or ErrLong. -/
def RFitX (x : NumR) (w w' : World) (V : Int) (v : Value) (er : Int) : Prop := Below w.heap.size w w' ∧ ((Dok V ∧ er = 0 ∧ ∃ e', v = .agg #[.bool x.ng, .slice x.ao x.n x.cap, .int .i64 e'] ∧ Dy V x.ng (val x.d x.n) e') ∨ (¬ Dok V ∧ er = 2 ∧ v = zeroV))
set_option maxRecDepth 100000 in
set_option maxHeartbeats 1000000 in
theorem rscale3_any (x : NumR) (w : World) (h : Row w x.ao x.n x.cap x.d) (k : Int) (hk : rng k) (ok : okR x = true) :
    Calls Tryz.prog 33 #[x.v, .int .i64 k] w fun r w' => ∃ v er, r = .returned (.tuple #[v, .int .i64 er]) ∧ RFitX x w w' (mkV x.ng (val x.d x.n) (x.e + k)) v er := by
  obtain ⟨hy, hlt, hok⟩ := okR_dy ok
  obtain ⟨_, he0, he1⟩ := hy.ok.1 hok
  have hS := okR_sane ok
  have hz : x.n = 0 → mkV x.ng (val x.d x.n) (x.e + k) = 0 ∧ Dy 0 x.ng (val x.d x.n) x.e := fun h0 => by
    have hv : val x.d x.n = 0 := by rw [h0]; rfl
    have hV := hy.eq_zero.2 hv
    rw [hV] at hy
    exact ⟨by unfold mkV; rw [if_pos hv], hy⟩
  have hp : x.n ≠ 0 → val x.d x.n ≠ 0 := fun h0 h1 => h0 ((val_zero hS.1).1 h1)
  have hfar := fun h0 he => mk_far2 (ng := x.ng) (M := val x.d x.n) (e := x.e + k) h0 (val_nonneg hS.1.1) hlt he
  have hnear : x.n ≠ 0 → -3145728 ≤ k → k ≤ 3145728 → DNum w (.agg #[.bool x.ng, .slice x.ao x.n x.cap, .int .i64 (x.e + k)]) (mkV x.ng (val x.d x.n) (x.e + k)) ∧ Dy (mkV x.ng (val x.d x.n) (x.e + k)) x.ng (val x.d x.n) (x.e + k) := fun h0 k0 k1 => by
    have h1 := hp h0
    have hform : 0 < val x.d x.n ∧ val x.d x.n % 2 = 1 := by
      rcases hy.form with ⟨q, _⟩ | q
      · exact absurd q h1
      · exact q
    have hd : Dy (mkV x.ng (val x.d x.n) (x.e + k)) x.ng (val x.d x.n) (x.e + k) := ⟨by unfold mkV; rw [if_neg h1, if_neg (by omega)], by omega, .inr hform⟩
    exact ⟨⟨_, _, _, _, rfl, hd, _, _, _, _, rfl, h, hS.1, rfl⟩, hd⟩
  generalize mkV x.ng (val x.d x.n) (x.e + k) = V at hz hfar hnear ⊢
  unfold rng at hk
  have hm := h.max
  have hl := h.le
  obtain ⟨ng, ao, n, cap, d, e⟩ := x
  unfold NumR.v at *
  simp only at *
  by_cases h0 : n = 0
  · obtain ⟨hV, hD⟩ := hz h0
    subst h0 hV
    go_enter Tryz.func33, Tryz.ntmps33
    go_wp2
    refine bodyPost_ret (v := .tuple #[.agg #[.bool ng, .slice ao 0 cap, .int .i64 e], .int .i64 0]) (by simp [results, Tryz.results33, go_sem]) rfl ⟨_, 0, rfl, bel_alloc2 _ _ _, .inl ⟨dok_zero, rfl, _, rfl, hD⟩⟩
  · have hn0 : ((n : Int) == 0) = false := by simp; omega
    by_cases hf : 3145728 < k ∨ k < -3145728
    · have hV := hfar (hp h0) (by omega)
      rcases hf with hf | hf
      all_goals
        go_enter Tryz.func33, Tryz.ntmps33
        go_wp2
        refine bodyPost_ret (v := .tuple #[zeroV, .int .i64 2]) (by simp [results, Tryz.results33, go_sem, zeroV]) rfl ⟨_, 2, rfl, bel_alloc2 _ _ _, .inr ⟨hV, rfl, rfl⟩⟩
    · obtain ⟨hD, hDy⟩ := hnear h0 (by omega) (by omega)
      have HDY : Hid (Dy V ng (val d n) (e + k)) := hDy
      clear hDy
      have hk0 : -3145728 ≤ k := by omega
      have hk1 : k ≤ 3145728 := by omega
      clear hf hz hfar hnear hy
      go_enter Tryz.func33, Tryz.ntmps33
      go_wp2_with fail
      refine (ranswer_D (hD.keeps (bel_alloc2 _ _ _))).mono ?_
      rintro r w3 ⟨v', er, rfl, hb3, hor⟩
      have hbw := bel_trans (bel_alloc2 w _ _) hb3
      have hsh : ∃ ng so sn sc e, v' = .agg #[.bool ng, .slice so sn sc, .int .i64 e] := by
        rcases hor with ⟨_, _, rfl, hd⟩ | ⟨_, _, rfl⟩
        · exact ⟨_, _, _, _, _, rfl⟩
        · exact ⟨_, _, _, _, _, rfl⟩
      obtain ⟨ng', so', sn', sc', e', rfl⟩ := hsh
      have q0 := (hb3.block (w.heap.size + 1) (by rw [size2]; omega)).trans (heap_b2 _ _ _)
      have x0 := blkC q0 0 rfl
      have x1 := blkC q0 1 rfl
      have x2 := blkC q0 2 rfl
      have z0 := blkF q0 0
      have z1 := blkF q0 1
      have z2 := blkF q0 2
      go_wp2
      have hbf := bel_set3 (g := w.heap.size + 1) hbw (by omega) (.bool ng') (.slice so' sn' sc') (.int .i64 e')
      refine bodyPost_ret (v := .tuple #[.agg #[.bool ng', .slice so' sn' sc', .int .i64 e'], .int .i64 er]) (by simp [results, Tryz.results33, go_sem, x0, x1, x2]) rfl ⟨_, _, rfl, hbf, ?_⟩
      rcases hor with ⟨o, rfl, h1, _⟩ | ⟨o, rfl, h1⟩
      · exact .inl ⟨o, rfl, _, h1, HDY.out⟩
      · exact .inr ⟨o, rfl, h1⟩
end Go.Proofs.YtnhkagiionkjaaaGreatDoor
