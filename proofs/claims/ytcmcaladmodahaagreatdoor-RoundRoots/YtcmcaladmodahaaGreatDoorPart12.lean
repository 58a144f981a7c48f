/-
  Parts of the proof, one behind another.
-/
import Derived.Test.YtcmcaladmodahaaGreatDoorPart11
import Derived.Test.YtcmcaladmodahaaGreatDoorPart8
import Derived.Test.YtcmcaladmodahaaGreatDoorPart9
import Derived.Test.YtcmcaladmodahaaGreatDoorPart5
import Derived.Test.YtcmcaladmodahaaGreatDoorPart4
import Derived.Deep.AppendLies
import Derived.Deep.RegionHeld3
import Derived.Deep.RegionLaw
import Derived.Test.YtcmcaladmodahaaGreatDoorPart7
import Derived.Test.YtcmcaladmodahaaGreatDoorPart6
import Derived.Test.YtcmcaladmodahaaGreatDoorRows
import Derived.Test.YtcmcaladmodahaaGreatDoorPart3
import Derived.ProofKit
import Derived.OpenShut
import Derived.ChangeOld
import Derived.LaidMore
import Derived.Deep.Strs
import Derived.Lib.LaidTab
import Derived.MakeChecks
import Derived.Stop.LaidErr
/-
  Package dyadic's calls on numbers that are told by their worth.
-/
namespace Go.Proofs.YtcmcaladmodahaaGreatDoor
open Go Go.RowKit Go.Proofs.YtcmcaladmodahaaGreatDoor.M
set_option linter.unusedSimpArgs false
set_option linter.unusedVariables false

/-- A number by its worth, laid open. -/
theorem DNum.open {w : World} {v : Value} {V : Int} (h : DNum w v V) (ok : Dok V) : ∃ x : NumR, v = x.v ∧ Row w x.ao x.n x.cap x.d ∧ okR x = true ∧ x.V = V := by
  obtain ⟨ng, s, m, e, rfl, hy, ao, n, cap, d, rfl, hR, hN, rfl⟩ := h
  refine ⟨⟨ng, ao, n, cap, d, e⟩, rfl, hR, ?_, hy.val.symm⟩
  obtain ⟨o1, o2, o3⟩ := hy.ok.1 ok
  refine decide_eq_true ?_
  by_cases h0 : n = 0
  · left
    have hz : val d n = 0 := by rw [h0]; rfl
    rcases hy.form with ⟨_, f2, f3⟩ | ⟨f1, _⟩
    · exact ⟨h0, f2, f3⟩
    · omega
  · right
    have hp := val_pos hN (show 0 < n by omega)
    rcases hy.form with ⟨f1, _⟩ | ⟨_, f2⟩
    · omega
    · refine ⟨by show 0 < n; omega, ⟨?_, hN⟩, ?_, o2, o3⟩
      · exact Num.len (w := w) (ao := ao) (cap := cap) ⟨_, _, _, _, rfl, hR, hN, rfl⟩ o1
      · obtain ⟨k, hk⟩ : ∃ k, n = 1 + k := ⟨n - 1, by omega⟩
        have := val_split d 1 k
        rw [← hk] at this
        rw [this, show val d 1 = d 0 by show 0 + d 0 * 1 = _; omega, show P 1 = 1073741824 from rfl] at f2
        show d 0 % 2 = 1
        omega
theorem DFit.yes {w w' : World} {V er : Int} {v : Value} (h : DFit w w' V v er) (ok : Dok V) : er = 0 ∧ DAns w w' V v := by
  rcases h.2 with ⟨_, h1, h2⟩ | ⟨hn, _⟩
  · exact ⟨h1, h2⟩
  · exact absurd ok hn
theorem add_D {w : World} {x y : Value} {A B : Int} (hx : DNum w x A) (hy : DNum w y B) (oA : Dok A) (oB : Dok B) (hT : Tab w) :
    Calls Tryz.prog 75 #[x, y] w fun r w' => ∃ v er, r = .returned (.tuple #[v, .int .i64 er]) ∧ DFit w w' (A + B) v er := by
  obtain ⟨x, rfl, hR, ok, rfl⟩ := hx.open oA
  obtain ⟨y, rfl, hR', ok', rfl⟩ := hy.open oB
  exact dadd_ok x y w hR hR' ok ok' hT
theorem mul_D {w : World} {x y : Value} {A B : Int} (hx : DNum w x A) (hy : DNum w y B) (oA : Dok A) (oB : Dok B) (hT : Tab w) :
    Calls Tryz.prog 9 #[x, y] w fun r w' => ∃ v er C, r = .returned (.tuple #[v, .int .i64 er]) ∧ C * 2 ^ 4194304 = A * B ∧ DFit w w' C v er := by
  obtain ⟨x, rfl, hR, ok, rfl⟩ := hx.open oA
  obtain ⟨y, rfl, hR', ok', rfl⟩ := hy.open oB
  refine (dmul_ok x y w hR hR' ok ok' hT).mono ?_
  rintro r w' ⟨v, er, rfl, hF⟩
  exact ⟨v, er, _, rfl, mulV_eq (by have := (okR_sane ok).2.2.1; omega) (by have := (okR_sane ok').2.2.1; omega), hF⟩
theorem cmp_D {w : World} {x y : Value} {A B : Int} (hx : DNum w x A) (hy : DNum w y B) (oA : Dok A) (oB : Dok B) :
    Calls Tryz.prog 10 #[x, y] w fun r w' => r = .returned (.tuple #[.int .i64 (ord A B), .int .i64 0]) ∧ Below w.heap.size w w' := by
  obtain ⟨x, rfl, hR, ok, rfl⟩ := hx.open oA
  obtain ⟨y, rfl, hR', ok', rfl⟩ := hy.open oB
  have := dcmp_any x y w hR hR'
  rwa [ok, ok'] at this
theorem valid_D {w : World} {x : Value} {A : Int} (hx : DNum w x A) (oA : Dok A) :
    Calls Tryz.prog 32 #[x] w fun r w' => r = .returned (.bool true) ∧ Below w.heap.size w w' := by
  obtain ⟨x, rfl, hR, ok, rfl⟩ := hx.open oA
  have := dvalid_any x.ng x.ao x.n x.cap x.d x.e w hR
  rwa [show okN x.ng x.d x.n x.e = true from ok] at this
theorem make_D {w : World} {s : Value} {m : Int} (ng : Bool) (e : Int) (hs : Num w s m) (hm : m < P 2000) (hT : Tab w) :
    Calls Tryz.prog 13 #[.bool ng, s, .int .i64 e] w fun r w' => ∃ v er, r = .returned (.tuple #[v, .int .i64 er]) ∧ DFit w w' (mkV ng m e) v er := by
  obtain ⟨ao, n, cap, d, rfl, hR, hN, rfl⟩ := hs
  exact dmake_all ng ao n cap d e w hR (Num.ok hN hm) hT
theorem sameB_iff {a b : Nat → Int} {n m : Nat} (ha : Nrm a n) (hb : Nrm b m) : sameB a b n m = decide (val a n = val b m) := by
  by_cases h : val a n = val b m
  · rw [sameB_of ha hb h, decide_eq_true h]
  · rw [decide_eq_false h]
    refine decide_eq_false fun ⟨h1, h2⟩ => h ?_
    subst h1
    exact val_congr h2
end Go.Proofs.YtcmcaladmodahaaGreatDoor

/-
  Package plumblaw3: alive.
-/
namespace Go.Proofs.YtcmcaladmodahaaGreatDoor
open Go Go.RowKit Go.Proofs.YtcmcaladmodahaaGreatDoor.M
set_option linter.unusedSimpArgs false
set_option linter.unusedVariables false

/-- A small number's form. -/
theorem dy_lit (ng : Bool) {m e : Int} (h0 : 0 < m) (h1 : m % 2 = 1) (he : -4194304 ≤ e) : Dy (sg ng m * pw e) ng m e := ⟨rfl, he, .inr ⟨h0, h1⟩⟩
theorem dok_lit {ng : Bool} {m e : Int} (h0 : 0 < m) (h1 : m % 2 = 1) (h2 : m < 1073741824) (he : -1048576 ≤ e) (he1 : e ≤ 1048576) : Dok (sg ng m * pw e) :=
  (dy_lit ng h0 h1 (by omega)).ok.2 ⟨by have := P2000_big2; omega, he, he1⟩
theorem dnum_lit {w : World} {g : Nat} (ng : Bool) {m e : Int} (h0 : 0 < m) (h1 : m % 2 = 1) (h2 : m < 1073741824) (he : -4194304 ≤ e) (hg : w.heap[g]? = some (.cells #[.int .i64 m] 3 (0, 0))) :
    DNum w (.agg #[.bool ng, .slice (some ⟨g, 0, none⟩) 1 1, .int .i64 e]) (sg ng m * pw e) := by
  refine ⟨ng, _, m, e, rfl, dy_lit ng h0 h1 he, _, 1, 1, fun _ => m, rfl, ?_, ⟨fun i _ => by show 0 ≤ m ∧ m < 1073741824; omega, .inr (by show m ≠ 0; omega)⟩, by show 0 + m * 1 = m; omega⟩
  exact ⟨Nat.le_refl _, by omega, fun h => by simp at h, fun _ => ⟨g, 0, rfl, (Array.getElem?_eq_some_iff.1 hg).1, fun i hi => by
    obtain rfl : i = 0 := by omega
    exact blkC hg 0 rfl⟩⟩
theorem pw_step {e k : Int} {l : Nat} (h : -4194304 ≤ e) (hk : k = e + l) : pw k = pw e * 2 ^ l := by rw [hk, pw_add h]
theorem pw_0 : pw 0 = pw (-1) * 2 := (pw_step (e := -1) (l := 1) (by omega) (by omega)).trans (by rw [Int.pow_succ, Int.pow_zero, Int.one_mul])
theorem live_x : mkV true 6 (-1) = sg true 3 * pw 0 := by
  unfold mkV
  rw [if_neg (by decide), if_neg (by decide), pw_0]
  generalize pw (-1) = p
  show -6 * p = -3 * (p * 2)
  omega
theorem live_y : pok 4609434218613702656 = true ∧ sg (pneg 4609434218613702656) (pmag 4609434218613702656) * pw (pexp 4609434218613702656) = sg false 3 * pw (-1) := by
  refine ⟨by decide, ?_⟩
  rw [show pneg 4609434218613702656 = false by decide, show pmag 4609434218613702656 = 6755399441055744 by decide, show pexp 4609434218613702656 = -52 by decide, pw_step (e := -52) (k := -1) (l := 51) (by omega) (by omega)]
  generalize pw (-52) = p
  show 6755399441055744 * p = 3 * (p * 2 ^ 51)
  rw [show (2 : Int) ^ 51 = 2251799813685248 by decide]
  omega
theorem live_s : sg true 3 * pw 0 + sg false 3 * pw (-1) = sg true 3 * pw (-1) := by
  rw [pw_0]
  generalize pw (-1) = p
  show -3 * (p * 2) + 3 * p = -3 * p
  omega
end Go.Proofs.YtcmcaladmodahaaGreatDoor

/-
  The document's own answers (plumbref2): Shl, Shr, by contracts over the same values.
-/
namespace Go.Proofs.YtcmcaladmodahaaGreatDoor
open Go Go.RowKit Go.Proofs.YtcmcaladmodahaaGreatDoor.M
set_option linter.unusedSimpArgs false
set_option linter.unusedVariables false

end Go.Proofs.YtcmcaladmodahaaGreatDoor

/-
  plumblaw2's Keep: lists of answers that are kept, in memory: what it is (Kp), Add, by its contract.
-/
namespace Go.Proofs.YtcmcaladmodahaaGreatDoor
open Go Go.RowKit Go.Proofs.YtcmcaladmodahaaGreatDoor.M
set_option linter.unusedSimpArgs false
set_option linter.unusedVariables false

/-- One put in another's place. -/
def updV {α : Type} (v : Nat → α) (i : Nat) (x : α) : Nat → α := fun j => if j = i then x else v j
theorem updV_same {α : Type} (v : Nat → α) (i : Nat) (x : α) : updV v i x i = x := by simp [updV]
theorem updV_other {α : Type} (v : Nat → α) {i j : Nat} (x : α) (h : j ≠ i) : updV v i x j = v j := by simp [updV, h]
/-- The first m of v. -/
def valsV (v : Nat → Value) (m : Nat) : List Value := (List.range m).map v
theorem valsV_length (v : Nat → Value) (m : Nat) : (valsV v m).length = m := by simp [valsV]
theorem valsV_get (v : Nat → Value) {m i : Nat} (h : i < m) : (valsV v m)[i]? = some (v i) := by simp [valsV, h]
theorem valsV_snoc (v : Nat → Value) (m : Nat) (x : Value) : valsV v m ++ [x] = valsV (updV v m x) (m + 1) := by
  apply List.ext_getElem?
  intro i
  by_cases h : i < m
  · rw [List.getElem?_append_left (by rw [valsV_length]; exact h), valsV_get v h, valsV_get _ (by omega), updV_other v x (by omega)]
  · by_cases e : i = m
    · subst e; rw [List.getElem?_append_right (by rw [valsV_length]; omega), valsV_length, valsV_get _ (by omega), updV_same]; simp
    · rw [List.getElem?_eq_none (by simp [valsV_length]; omega), List.getElem?_eq_none (by rw [valsV_length]; omega)]
/-- A list of slices that is the call's own. -/
def OutV (B : Nat) (w : World) (x : Value) (m : Nat) (v : Nat → Value) : Prop := w.ownsRow B 22 1 x m (valsV v m)
theorem OutV.shape {B : Nat} {w : World} {x : Value} {m : Nat} {v : Nat → Value} (h : OutV B w x m v) : ∃ xo xc, x = .slice xo m xc ∧ m ≤ xc ∧ xc ≤ 9223372036854775807 ∧ (0 < m → ∃ g, xo = some ⟨g, 0, none⟩) := by
  rcases h.2 with ⟨rfl, rfl⟩ | ⟨g, cap, cur, rfl, hb, hg, hn, hm, _⟩
  · exact ⟨none, 0, rfl, Nat.le_refl _, by decide, fun h => by omega⟩
  · exact ⟨_, cap, rfl, hn, by unfold maxLen at hm; exact hm, fun _ => ⟨g, rfl⟩⟩
theorem OutV.of_block {B : Nat} {w w' : World} {x : Value} {m : Nat} {v : Nat → Value} (h : OutV B w x m v) (hb : ∀ g, x.ownBlock = some g → w'.heap[g]? = w.heap[g]?) : OutV B w' x m v := by
  refine ⟨h.1, ?_⟩
  rcases h.2 with hn | ⟨g, cap, cur, rfl, hbb, hg, rest⟩
  · exact .inl hn
  · exact .inr ⟨g, cap, cur, rfl, hbb, (hb g rfl).trans hg, rest⟩
theorem Out.of_block {B : Nat} {w w' : World} {x : Value} {n : Nat} {d : Nat → Int} (h : Out B w x n d) (hb : ∀ g, x.ownBlock = some g → w'.heap[g]? = w.heap[g]?) : Out B w' x n d := by
  refine ⟨h.1, ?_⟩
  rcases h.2 with hn | ⟨g, cap, cur, rfl, hbb, hg, rest⟩
  · exact .inl hn
  · exact .inr ⟨g, cap, cur, rfl, hbb, (hb g rfl).trans hg, rest⟩
theorem Out.typed {B : Nat} {w : World} {x : Value} {n : Nat} {d : Nat → Int} (h : Out B w x n d) {g : Nat} (hg : x.ownBlock = some g) : ∃ cur z, w.heap[g]? = some (.cells cur 3 z) := by
  rcases h.2 with ⟨rfl, _⟩ | ⟨g', cap, cur, rfl, hbb, hg', rest⟩
  · simp [Value.ownBlock] at hg
  · simp only [Value.ownBlock, Option.some.injEq] at hg; subst hg; exact ⟨cur, _, hg'⟩
theorem OutV.typed {B : Nat} {w : World} {x : Value} {n : Nat} {v : Nat → Value} (h : OutV B w x n v) {g : Nat} (hg : x.ownBlock = some g) : ∃ cur z, w.heap[g]? = some (.cells cur 22 z) := by
  rcases h.2 with ⟨rfl, _⟩ | ⟨g', cap, cur, rfl, hbb, hg', rest⟩
  · simp [Value.ownBlock] at hg
  · simp only [Value.ownBlock, Option.some.injEq] at hg; subst hg; exact ⟨cur, _, hg'⟩
theorem OutV.ge {B : Nat} {w : World} {x : Value} {n : Nat} {v : Nat → Value} (h : OutV B w x n v) {g : Nat} (hg : x.ownBlock = some g) : B ≤ g ∧ g < w.heap.size := by
  rcases h.2 with ⟨rfl, _⟩ | ⟨g', cap, cur, rfl, hbb, hg', rest⟩
  · simp [Value.ownBlock] at hg
  · simp only [Value.ownBlock, Option.some.injEq] at hg; subst hg; exact ⟨hbb, (Array.getElem?_eq_some_iff.1 hg').1⟩
theorem Out.ge {B : Nat} {w : World} {x : Value} {n : Nat} {v : Nat → Int} (h : Out B w x n v) {g : Nat} (hg : x.ownBlock = some g) : B ≤ g ∧ g < w.heap.size := by
  rcases h.2 with ⟨rfl, _⟩ | ⟨g', cap, cur, rfl, hbb, hg', rest⟩
  · simp [Value.ownBlock] at hg
  · simp only [Value.ownBlock, Option.some.injEq] at hg; subst hg; exact ⟨hbb, (Array.getElem?_eq_some_iff.1 hg').1⟩
theorem info_slice : (Tryz.prog.info? 22).map (fun i => (i.zero, i.size, i.bytes)) = some (some (.slice none 0 0), 1, 24) := by kernel_rfl
theorem cell_one (w : World) (x : Value) (t : TypeId) {g : Nat} (hg : g = w.heap.size) : (w.alloc (.cells #[x] t)).cell? ⟨g, 0, none⟩ = some x := by
  subst hg
  rw [cell_of_row _ _ 0 _ _ _ (heap_alloc_new w _)]; rfl
theorem grown_out {B : Nat} {w w' : World} {row : Option Nat} {x : Value} {m : Nat} {v : Nat → Value} (h : OutV B w x m v) (hg : w.grownBy w' row) (hne : ∀ g, x.ownBlock = some g → row ≠ some g) : OutV B w' x m v :=
  h.of_block fun g hgx => hg.block g (h.ge hgx).2 fun e => hne g hgx e.symm
theorem OutV.alloc {B : Nat} {w : World} {x : Value} {m : Nat} {v : Nat → Value} (h : OutV B w x m v) (o : Obj) : OutV B (w.alloc o) x m v := h.of_block fun g hg => Below.heap_alloc _ _ _ (h.ge hg).2
/-- 'append' of ints, as it runs, and where the new slice lies. -/
theorem run_app {w : World} (ty : TypeId) (B : Nat) (v : Value) (n : Nat) (d : Nat → Int) (hO : Out B w v n d) (bo : Option Addr) (m cb : Nat) (e : Nat → Int) (hR : Row w bo m cb e) (hlen : n + m ≤ 1000000) (hB : B ≤ w.heap.size) :
    ∃ v' w', (Builtin.append_ #[22, 22] ty #[v, .slice bo m cb]).run Tryz.prog w = .ok v' w' ∧ Out B w' v' (n + m) (cat d n e) ∧ w.grownBy w' v.ownBlock ∧ (v'.ownBlock = v.ownBlock ∨ v'.ownBlock = some w.heap.size) := by
  obtain ⟨i0, hi, hz0, hz1, hz2⟩ := info_parts info_int
  cases bo with
  | none =>
    have hc := hR.nl rfl
    have hl := hR.le
    subst hc
    obtain rfl : m = 0 := by omega
    have hr := run_append_owned_none (P := Tryz.prog) w B 22 ty 3 i0 1 Tryz.underlying22 hi v n (vals d n) hO
    exact ⟨v, w, hr, hO.congr fun i hi => by simp [cat]; omega, ⟨rfl, rfl, rfl, Nat.le_refl _, fun _ _ _ => rfl⟩, .inl rfl⟩
  | some ad =>
    obtain ⟨v', w', hr, h2, h3, _, h5⟩ := run_append_own_at (P := Tryz.prog) w B 22 ty 3 i0 (.int .i64 0) 1 8 Tryz.underlying22 hi hz0 hz1 hz2 rfl (by decide) v n (vals d n) hO ad m cb (vals e m) (by rw [vals_length]; omega)
      (fun j u hu => by
        have hj : j < m := by have := (List.getElem?_eq_some_iff.1 hu).1; rwa [vals_length] at this
        obtain ⟨b, off, hb, _, hc⟩ := hR.spot (by omega)
        obtain rfl := Option.some.inj hb
        rw [vals_get e hj] at hu
        rw [add_none, hc j hj]; exact hu) (vals_one e m) (by unfold maxLen; omega) (by omega) hB
    rw [vals_cat] at h2
    exact ⟨v', w', hr, h2, h3, h5⟩
theorem wp_app {w : World} {o : Oper} {a : Act} {K : Act → World → Prop} {Q : Exit → Act → World → Prop} (s x : Operand) (ho : o.op = .call { callee := .builtin .append, args := #[s, x], argTypes := #[22, 22] })
    (B : Nat) (v : Value) (n : Nat) (d : Nat → Int) (hs : a.eval s = v) (hO : Out B w v n d) (bo : Option Addr) (m cb : Nat) (e : Nat → Int) (hx : a.eval x = .slice bo m cb) (hR : Row w bo m cb e) (hlen : n + m ≤ 1000000) (hB : B ≤ w.heap.size)
    (h : ∀ v' w', Out B w' v' (n + m) (cat d n e) → w.grownBy w' v.ownBlock → (v'.ownBlock = v.ownBlock ∨ v'.ownBlock = some w.heap.size) → K (a.put o.dst v') w') : o.wp Tryz.prog a w K Q := by
  obtain ⟨v', w', hr, h2, h3, h4⟩ := run_app o.type B v n d hO bo m cb e hR hlen hB
  unfold Oper.wp execOp
  simp only [ho, resolve, invoke, builtin, Sem.run_bind, Sem.run_pure, Result.andThen_ok, List.map_toArray, List.map_cons, List.map_nil, hs, hx, hr]
  exact h v' w' h2 h3 h4
theorem step_app {w : World} {ops : Array Oper} {o : Oper} {a : Act} {K : Act → World → Prop} {Q : Exit → Act → World → Prop} {E : Prop} (hgd : o.guard = none) (s x : Operand) (ho : o.op = .call { callee := .builtin .append, args := #[s, x], argTypes := #[22, 22] })
    (B : Nat) (v : Value) (n : Nat) (d : Nat → Int) (hs : a.eval s = v) (hO : Out B w v n d) (bo : Option Addr) (m cb : Nat) (e : Nat → Int) (hx : a.eval x = .slice bo m cb) (hR : Row w bo m cb e) (hlen : n + m ≤ 1000000) (hB : B ≤ w.heap.size)
    (h : ∀ v' w', Out B w' v' (n + m) (cat d n e) → w.grownBy w' v.ownBlock → (v'.ownBlock = v.ownBlock ∨ v'.ownBlock = some w.heap.size) → K (a.put o.dst v') w') : if Region.wanted o (yielded ops a.tmps) = true then Oper.wp Tryz.prog o a w K Q else E := by
  rw [if_pos (show Region.wanted o (yielded ops a.tmps) = true by simp [Region.wanted, hgd])]
  exact wp_app s x ho B v n d hs hO bo m cb e hx hR hlen hB h
end Go.Proofs.YtcmcaladmodahaaGreatDoor

/-
  What is kept, with the blocks it lies in (Kept); Keep.Add and answer of a number (An); Lent and Back.
-/
namespace Go.Proofs.YtcmcaladmodahaaGreatDoor
open Go Go.RowKit Go.Proofs.YtcmcaladmodahaaGreatDoor.M
set_option linter.unusedSimpArgs false
set_option linter.unusedVariables false

/-- A number's list, from B on. -/
def An (B : Nat) (w : World) (v : Value) (V : Int) : Prop := ∃ t d, Out B w v t d ∧ Nrm d t ∧ val d t = V
theorem An.keeps {B : Nat} {w w' : World} {v : Value} {V : Int} (h : An B w v V) (k : Below w.heap.size w w') : An B w' v V := by
  obtain ⟨t, d, h1, h2⟩ := h
  exact ⟨t, d, h1.stays k, h2⟩
theorem An.lower {B B' : Nat} {w : World} {v : Value} {V : Int} (h : An B w v V) (hB : B' ≤ B) : An B' w v V := by
  obtain ⟨t, d, h1, h2⟩ := h
  exact ⟨t, d, h1.lower hB, h2⟩
theorem An.nil (B : Nat) (w : World) : An B w (.slice none 0 0) 0 := ⟨0, fun _ => 0, Out.nil _ _ _, ⟨fun i hi => by omega, .inl rfl⟩, rfl⟩
theorem Ans.an {w w' : World} {V : Int} {v : Value} (h : Ans w w' V v) : An w.heap.size w' v V := by
  obtain ⟨t, d, h1, h2, h3, h4⟩ := h
  exact ⟨t, d, h1, h2, h3⟩
theorem An.shape {B : Nat} {w : World} {v : Value} {V : Int} (h : An B w v V) : ∃ ao n cap, v = .slice ao n cap := by
  obtain ⟨t, d, h1, h2⟩ := h
  obtain ⟨ao, cap, e, _⟩ := h1.row
  exact ⟨ao, t, cap, e⟩
theorem An.num {B : Nat} {w : World} {v : Value} {V : Int} (h : An B w v V) : Num w v V := by
  obtain ⟨t, d, h1, h2, h3⟩ := h
  obtain ⟨ao, cap, rfl, hR⟩ := h1.row
  exact ⟨ao, t, cap, d, rfl, hR, h2, h3⟩
theorem An.ge {B : Nat} {w : World} {v : Value} {V : Int} (h : An B w v V) {g : Nat} (hg : v.ownBlock = some g) : B ≤ g ∧ g < w.heap.size := by
  obtain ⟨t, d, h1, h2, h3⟩ := h
  exact h1.ge hg
/-- The blocks behind an Add. -/
def S2 (S : Nat → Prop) (l : Value) (s : Nat) : Nat → Prop := fun g => S g ∨ l.ownBlock = some g ∨ s ≤ g
/-- A list and an error, of a number that may be too long. -/
def FitA (B : Nat) (w : World) (V : Int) (v : Value) (er : Int) : Prop := (V < P 2000 ∧ er = 0 ∧ An B w v V) ∨ (P 2000 ≤ V ∧ er = 2 ∧ v = .slice none 0 0)
theorem Fit.fitA {w w' : World} {V er : Int} {v : Value} (h : Fit w w' V v er) : FitA w.heap.size w' V v er := by
  rcases h.2 with ⟨h1, h2, h3⟩ | h
  · exact .inl ⟨h1, h2, h3.an⟩
  · exact .inr h
theorem FitA.keeps {B : Nat} {w w' : World} {v : Value} {V er : Int} (h : FitA B w V v er) (k : Below w.heap.size w w') : FitA B w' V v er := by
  rcases h with ⟨h1, h2, h3⟩ | h
  · exact .inl ⟨h1, h2, h3.keeps k⟩
  · exact .inr h
theorem FitA.lower {B B' : Nat} {w : World} {v : Value} {V er : Int} (h : FitA B w V v er) (hB : B' ≤ B) : FitA B' w V v er := by
  rcases h with ⟨h1, h2, h3⟩ | h
  · exact .inl ⟨h1, h2, h3.lower hB⟩
  · exact .inr h
theorem FitA.ge {B : Nat} {w : World} {v : Value} {V er : Int} (h : FitA B w V v er) {g : Nat} (hg : v.ownBlock = some g) : B ≤ g ∧ g < w.heap.size := by
  rcases h with ⟨h1, h2, h3⟩ | ⟨_, _, rfl⟩
  · exact h3.ge hg
  · simp [Value.ownBlock] at hg
theorem FitA.shape {B : Nat} {w : World} {v : Value} {V er : Int} (h : FitA B w V v er) : ∃ ao n cap, v = .slice ao n cap := by
  rcases h with ⟨h1, h2, h3⟩ | ⟨_, _, rfl⟩
  · exact h3.shape
  · exact ⟨_, _, _, rfl⟩
/-- A lent list: three marks behind it. -/
def lentD (a : Nat → Int) (n : Nat) : Nat → Int := cat a n (fun i => -71 - (i : Int))
theorem row3 (w : World) (x y z : Int) (f : Nat → Int) (h0 : f 0 = x) (h1 : f 1 = y) (h2 : f 2 = z) {g : Nat} (hg : g = w.heap.size) : Row (w.alloc (.cells #[.int .i64 x, .int .i64 y, .int .i64 z] 3)) (some ⟨g, 0, none⟩) 3 3 f := by
  subst hg
  refine (Blk.new w #[.int .i64 x, .int .i64 y, .int .i64 z] f (fun i hi => ?_)).row0 (Nat.le_refl _) (show 3 ≤ 9223372036854775807 by decide)
  match i, hi with
  | 0, _ => rw [h0]; rfl
  | 1, _ => rw [h1]; rfl
  | 2, _ => rw [h2]; rfl
theorem lentD_lt (a : Nat → Int) {n i : Nat} (h : i < n) : lentD a n i = a i := by simp [lentD, cat, h]
theorem lentD_marks (a : Nat → Int) (n : Nat) : lentD a n n = -71 ∧ lentD a n (n + 1) = -72 ∧ lentD a n (n + 2) = -73 := by
  refine ⟨by simp [lentD, cat], by simp [lentD, cat]; omega, by simp [lentD, cat]; omega⟩
/-- What Lent answers: a block of its own. -/
def LentA (w w' : World) (v : Value) (n : Nat) (a : Nat → Int) : Prop := ∃ g cap, v = .slice (some ⟨g, 0, none⟩) (n + 3) cap ∧ Out w.heap.size w' v (n + 3) (lentD a n) ∧ Below w.heap.size w w'
end Go.Proofs.YtcmcaladmodahaaGreatDoor

/-
  Lent lists: what is read of them, and Back.
-/
namespace Go.Proofs.YtcmcaladmodahaaGreatDoor
open Go Go.RowKit Go.Proofs.YtcmcaladmodahaaGreatDoor.M
set_option linter.unusedSimpArgs false
set_option linter.unusedVariables false

theorem LentA.below {w w' : World} {v : Value} {n : Nat} {a : Nat → Int} (h : LentA w w' v n a) : Below w.heap.size w w' := by
  obtain ⟨g, cap, _, _, hb⟩ := h
  exact hb
theorem LentA.parts {w w' : World} {v : Value} {n : Nat} {a : Nat → Int} (h : LentA w w' v n a) : ∃ g cap, v = .slice (some ⟨g, 0, none⟩) (n + 3) cap ∧ Out w.heap.size w' (.slice (some ⟨g, 0, none⟩) (n + 3) cap) (n + 3) (lentD a n) := by
  obtain ⟨g, cap, rfl, h, _⟩ := h
  exact ⟨g, cap, rfl, h⟩
theorem lent_cap {B : Nat} {w : World} {g n cap : Nat} {d : Nat → Int} (h : Out B w (.slice (some ⟨g, 0, none⟩) (n + 3) cap) (n + 3) d) : n + 3 ≤ cap ∧ cap ≤ 9223372036854775807 := by
  obtain ⟨_, _, e, hR⟩ := h.row
  simp only [Value.slice.injEq] at e
  obtain ⟨rfl, _, rfl⟩ := e
  exact ⟨hR.le, hR.max⟩
theorem lent_row {B : Nat} {w : World} {g n cap : Nat} {a : Nat → Int} (h : Out B w (.slice (some ⟨g, 0, none⟩) (n + 3) cap) (n + 3) (lentD a n)) : Row w (some ⟨g, 0, none⟩) n cap a := by
  obtain ⟨_, _, e, hR⟩ := (h.cut (show n ≤ n + 3 by omega)).row
  simp only [Value.slice.injEq] at e
  obtain ⟨rfl, _, rfl⟩ := e
  exact hR.congr fun i hi => lentD_lt a hi
theorem lent_two {B B' : Nat} {w : World} {g n cap g' m cap' : Nat} {a b : Nat → Int} (h : Out B w (.slice (some ⟨g, 0, none⟩) (n + 3) cap) (n + 3) (lentD a n)) (h' : Out B' w (.slice (some ⟨g', 0, none⟩) (m + 3) cap') (m + 3) (lentD b m)) :
    Two w (some ⟨g, 0, none⟩) (some ⟨g', 0, none⟩) n m cap cap' a b := ⟨lent_row h, lent_row h'⟩
theorem lent_numA {B : Nat} {w : World} {g n cap : Nat} {a : Nat → Int} (h : Out B w (.slice (some ⟨g, 0, none⟩) (n + 3) cap) (n + 3) (lentD a n)) (hN : Nrm a n) : Num w (.slice (some ⟨g, 0, none⟩) n cap) (val a n) :=
  ⟨_, _, _, _, rfl, lent_row h, hN, rfl⟩
theorem Row.num0 {w : World} {ao : Option Addr} {n cap : Nat} {a : Nat → Int} (h : Row w ao n cap a) (hN : Nrm a n) : Num w (.slice ao n cap) (val a n) := ⟨_, _, _, _, rfl, h, hN, rfl⟩
theorem RowX.of0 {g : Nat} {w0 w : World} {ao : Option Addr} {n cap : Nat} {d : Nat → Int} (h : Row w0 ao n cap d) (hb : Below w0.heap.size w0 w) (hg : w0.heap.size ≤ g) : RowX g w ao n cap d :=
  ⟨h.le, h.max, fun hn => by
    obtain ⟨b, off, rfl, hlt, hc⟩ := h.spot hn
    exact ⟨b, off, rfl, Nat.lt_of_lt_of_le hlt hb.size, by omega, fun i hi => (hb.cell (p := ⟨b, off + i, none⟩) hlt).trans (hc i hi)⟩⟩
end Go.Proofs.YtcmcaladmodahaaGreatDoor

/-
  The document's own Low, Pow, Root, by contracts over the same values.
-/
namespace Go.Proofs.YtcmcaladmodahaaGreatDoor
open Go Go.RowKit Go.Proofs.YtcmcaladmodahaaGreatDoor.M
set_option linter.unusedSimpArgs false
set_option linter.unusedVariables false

theorem lowA_unique {A l m : Int} (h : LowA A l) (k : LowA A m) : l = m := by
  have hz : ∀ i : Nat, ¬ IsLow 0 i := fun i ⟨q, e⟩ => by
    have h2 := two_pos i
    have h3 : (2 * q + 1) ≠ 0 := by omega
    rcases Int.mul_eq_zero.1 e.symm with h | h
    · exact h3 h
    · omega
  rcases h with ⟨h0, h1⟩ | ⟨i, h1, hi⟩ <;> rcases k with ⟨k0, k1⟩ | ⟨j, k1, hj⟩
  · omega
  · subst h0; exact absurd hj (hz j)
  · subst k0; exact absurd hi (hz i)
  · rw [h1, k1, low_unique hi hj]
/-- A list of one. -/
theorem an_one (w : World) (x : Int) (h0 : 0 < x) (h1 : x < 1073741824) {g B : Nat} (hg : g = w.heap.size) (hB : B ≤ w.heap.size) : An B (w.alloc (.cells #[.int .i64 x] 3)) (.slice (some ⟨g, 0, none⟩) 1 1) x := by
  subst hg
  exact ⟨1, fun _ => x, (Blk.new w #[.int .i64 x] (fun _ => x) (fun i hi => by simp at hi; subst hi; rfl)).out hB (Nat.le_refl _) (show 1 ≤ 9223372036854775807 by decide), ⟨fun i _ => ⟨by show 0 ≤ x; omega, h1⟩, .inr (by show x ≠ 0; omega)⟩, by show 0 + x * 1 = x; omega⟩
end Go.Proofs.YtcmcaladmodahaaGreatDoor

/-
  Package plumbref3: Norm, by its contract: the one form of a number, however long.
-/
namespace Go.Proofs.YtcmcaladmodahaaGreatDoor
open Go Go.RowKit Go.Proofs.YtcmcaladmodahaaGreatDoor.M
set_option linter.unusedSimpArgs false
set_option linter.unusedVariables false

end Go.Proofs.YtcmcaladmodahaaGreatDoor

/-
  Package plumblaw3: Norm, num, by contracts: a valid number of any one, not too great.
-/
namespace Go.Proofs.YtcmcaladmodahaaGreatDoor
open Go Go.RowKit Go.Proofs.YtcmcaladmodahaaGreatDoor.M
set_option linter.unusedSimpArgs false
set_option linter.unusedVariables false

end Go.Proofs.YtcmcaladmodahaaGreatDoor

/-
  Plain mathematics: numbers that are not too great have a valid form. No Go text in sight.
-/
namespace Go.Proofs.YtcmcaladmodahaaGreatDoor
open Go Go.RowKit Go.Proofs.YtcmcaladmodahaaGreatDoor.M
set_option linter.unusedSimpArgs false
set_option linter.unusedVariables false

/-- V is a multiple of 2^-B, below 2^B, signs aside. -/
def Bd (B : Nat) (V : Int) : Prop := ∃ m : Int, V = m * pw (-(B : Int)) ∧ -(2 ^ (2 * B)) < m ∧ m < 2 ^ (2 * B)
theorem Bd.ok {B : Nat} {V : Int} (h : Bd B V) (hB : B ≤ 29000) : Dok V := by
  obtain ⟨m, rfl, h1, h2⟩ := h
  by_cases h0 : m = 0
  · rw [h0, Int.zero_mul]; exact dok_zero
  · have key : ∀ (ng : Bool) (M : Int), 0 < M → M < 2 ^ (2 * B) → Dok (sg ng M * pw (-(B : Int))) := fun ng M hM hlt => by
      obtain ⟨l, hl⟩ := isLow_ex hM
      have hy := Dy.of ng hl hM (show -4194304 ≤ -(B : Int) by omega)
      obtain ⟨c1, c2, c3⟩ := isLow_odd hl hM
      have hl2 : l < 2 * B := by
        have h3 : (1 : Int) * 2 ^ l ≤ M / 2 ^ l * 2 ^ l := Int.mul_le_mul_of_nonneg_right (by omega) (Int.le_of_lt (two_pos l))
        rw [c3] at h3
        exact two_lt_iff (by omega)
      refine hy.ok.2 ⟨?_, by omega, by omega⟩
      have h4 : M / 2 ^ l ≤ M := Int.ediv_le_self _ (by omega)
      have h5 : (2 : Int) ^ (2 * B) ≤ 2 ^ (30 * 2000) := two_le (by omega)
      rw [P_two]
      omega
    by_cases hp : 0 < m
    · exact key false m hp h2
    · have := key true (-m) (by omega) (by omega)
      rwa [show sg true (-m) = m by simp [sg]] at this
theorem Bd.up {B C : Nat} {V : Int} (h : Bd B V) (hBC : B ≤ C) (hC : C ≤ 4194304) : Bd C V := by
  obtain ⟨m, rfl, h1, h2⟩ := h
  have hp := two_pos (C - B)
  have e : pw (-(B : Int)) = pw (-(C : Int)) * 2 ^ (C - B) := by
    rw [← pw_add (by omega)]; congr 1; omega
  have hle : (2 : Int) ^ (2 * B) * 2 ^ (C - B) ≤ 2 ^ (2 * C) := by rw [← Int.pow_add]; exact two_le (by omega)
  refine ⟨m * 2 ^ (C - B), by rw [e]; grind, ?_, ?_⟩
  · have : -(2 ^ (2 * B)) * 2 ^ (C - B) < m * 2 ^ (C - B) := Int.mul_lt_mul_of_pos_right h1 hp
    rw [Int.neg_mul] at this
    omega
  · have := Int.mul_lt_mul_of_pos_right h2 hp
    omega
theorem Bd.add {B : Nat} {V W : Int} (h : Bd B V) (k : Bd B W) (hB : B < 4194304) : Bd (B + 1) (V + W) := by
  obtain ⟨m, rfl, h1, h2⟩ := h
  obtain ⟨n, rfl, k1, k2⟩ := k
  have e : pw (-(B : Int)) = pw (-((B + 1 : Nat) : Int)) * 2 := by
    have := pw_add (e := -((B + 1 : Nat) : Int)) (by omega) 1
    rw [Int.pow_succ, Int.pow_zero, Int.one_mul] at this
    rw [← this]; congr 1; omega
  have e2 : (2 : Int) ^ (2 * (B + 1)) = 2 ^ (2 * B) * 4 := by rw [show 2 * (B + 1) = 2 * B + 2 by omega, Int.pow_add]; rfl
  refine ⟨2 * (m + n), by rw [e]; grind, ?_, ?_⟩ <;> rw [e2] <;> omega
theorem Bd.neg {B : Nat} {V : Int} (h : Bd B V) : Bd B (-V) := by
  obtain ⟨m, rfl, h1, h2⟩ := h
  exact ⟨-m, by rw [Int.neg_mul], by omega, by omega⟩
theorem Bd.mul {B : Nat} {V W U : Int} (h : Bd B V) (k : Bd B W) (hU : U * 2 ^ 4194304 = V * W) (hB : B ≤ 1000000) : Bd (2 * B) U := by
  obtain ⟨m, rfl, h1, h2⟩ := h
  obtain ⟨n, rfl, k1, k2⟩ := k
  have e : U = m * n * pw (-((2 * B : Nat) : Int)) := by
    refine scale_inj ?_
    rw [hU, Int.mul_assoc (m * n), show -((2 * B : Nat) : Int) = -(B : Int) + -(B : Int) by omega, ← pw_mul (by omega) (by omega)]; grind
  refine ⟨m * n, e, ?_, ?_⟩
  all_goals
    have hab : (m * n).natAbs < ((2 : Int) ^ (2 * (2 * B))).natAbs := by
      rw [Int.natAbs_mul, show 2 * (2 * B) = 2 * B + 2 * B by omega, Int.pow_add, Int.natAbs_mul]
      exact Nat.mul_lt_mul'' (by have := two_pos (2 * B); omega) (by have := two_pos (2 * B); omega)
    have := two_pos (2 * (2 * B))
    omega
theorem bd_num {ng : Bool} {M e : Int} (h0 : 0 ≤ M) (h1 : M < P 30) (e0 : -3000 < e) (e1 : e < 3000) : Bd 4000 (sg ng M * pw e) := by
  have hs : pw e = pw (-((4000 : Nat) : Int)) * 2 ^ (e + 4000).toNat := by
    rw [← pw_add (by omega)]; congr 1; omega
  have hp := two_pos (e + 4000).toNat
  have hlt : M * 2 ^ (e + 4000).toNat < 2 ^ (2 * 4000) := by
    have a : M * 2 ^ (e + 4000).toNat < P 30 * 2 ^ (e + 4000).toNat := Int.mul_lt_mul_of_pos_right h1 hp
    rw [P_two, ← Int.pow_add] at a
    have b : (2 : Int) ^ (30 * 30 + (e + 4000).toNat) ≤ 2 ^ (2 * 4000) := two_le (by omega)
    omega
  have hn : 0 ≤ M * 2 ^ (e + 4000).toNat := Int.mul_nonneg h0 (Int.le_of_lt hp)
  refine ⟨sg ng (M * 2 ^ (e + 4000).toNat), by rw [hs, sg_sgn, sg_sgn]; grind, ?_, ?_⟩
  all_goals
    generalize M * 2 ^ (e + 4000).toNat = X at *
    generalize (2 : Int) ^ (2 * 4000) = T at *
    cases ng <;> simp only [sg] <;> simp <;> omega
end Go.Proofs.YtcmcaladmodahaaGreatDoor

/-
  What a row gives of its arguments: a slice of ints that came in, as the walks want it.
-/
namespace Go.Proofs.YtcmcaladmodahaaGreatDoor
open Go Go.ChangeShapes Go.WideShapes Go.ChangeAt Go.RowKit Go.Proofs.YtcmcaladmodahaaGreatDoor.M
set_option linter.unusedSimpArgs false
set_option linter.unusedVariables false

theorem rng_of {x : Int} (h : (Lit.int .i64 x).wf = true) : rng x := by
  simp [Lit.wf, IntKind.min, IntKind.max, IntKind.signed, IntKind.bits] at h
  unfold rng; omega
theorem row_of {H : Type} {enc : TypeId × Value → H} {W : World} {a : Option Addr} {len cap : Nat} {d : DataW H} {p : List MemPlace}
    (h0 : DataW.Trod enc Tryz.prog W 0 (fun _ => true) true 22 (.slice a len cap) d p) : ∃ z : Nat → Int, Row W a len cap z ∧ ∀ i, i < len → rng (z i) := by
  obtain ⟨fuel, hf⟩ := h0
  rcases open_ints Tryz.underlying22 Tryz.underlying3 (by kernel_rfl) hf with ⟨hcs, _⟩ | ⟨x, l, c, zs, hcs, _, hl, hm, hz, _, hcell, hwz⟩
  · simp [Value.cells] at hcs
    obtain ⟨rfl, rfl, rfl⟩ := hcs
    exact ⟨fun _ => 0, Row.nil _ _, fun i hi => by omega⟩
  · simp [Value.cells] at hcs
    obtain ⟨rfl, rfl, rfl⟩ := hcs
    have hz' : zs.length = cap := by simpa using hz
    refine ⟨fun i => zs.getD i 0, ⟨hl, by unfold maxLen at hm; exact hm, (fun e => by cases e), fun hn => ?_⟩, fun i hi => ?_⟩
    · obtain ⟨b, off, spot⟩ := x
      have hc := hcell 0 (by omega)
      have hspot : spot = none := by simpa [Addr.add] using World.cell?_spot hc
      subst hspot
      refine ⟨b, off, rfl, World.block_lt_of_cell? W _ (by simpa [Addr.add] using hc), fun i hi => ?_⟩
      rw [← add_none]; exact hcell i (by omega)
    · refine rng_of (hwz _ ?_)
      simp [List.getD, show i < zs.length by omega]
end Go.Proofs.YtcmcaladmodahaaGreatDoor

/-
  What a row's list gives: the library's table of trailing zeros.
-/
namespace Go.Proofs.YtcmcaladmodahaaGreatDoor
open Go Go.RowKit Go.ChangeShapes Go.Proofs.YtcmcaladmodahaaGreatDoor.M
set_option linter.unusedSimpArgs false
set_option linter.unusedVariables false

theorem gTab : Tryz.prog.globalNamed "math/bits.deBruijn64tab" = some 2 := by kernel_rfl
theorem gTabType : (Tryz.prog.globals[(2 : Nat)]?).map (·.type) = some 125 := by kernel_rfl
theorem cellsTab : Tryz.prog.cellsOf 125 = 64 := by kernel_rfl
theorem cellsByte : Tryz.prog.cellsOf 5 = 1 := by kernel_rfl
def tabInts : List Int := Lib.deBruijn64tab.map Int.ofNat
theorem tab_get : ∀ j, j < 64 → tabInts.getD j 0 = ((Lib.deBruijn64tab.getD j 0 : Nat) : Int) := by decide +kernel
theorem tab_of {W : World} (h : laidMetH Tryz.prog [("math/bits.deBruijn32tab", Rows.laid_math_bits_deBruijn32tab), ("math/bits.deBruijn64tab", Rows.laid_math_bits_deBruijn64tab)] W) : Tab W := by
  rw [MakeChecks.laidMetH_plain _ _ _ (by kernel_rfl)] at h
  have h' : laidMet Tryz.prog (("math/bits.deBruijn64tab", Lib.tabData .u8 tabInts) :: []) W := h.tail
  have t := Lib.tabIs_of_head gTab gTabType Tryz.underlying125 Tryz.underlying5 cellsByte cellsTab h'
  intro j hj
  rw [← tab_get j hj]
  exact t.cell gTab j (by exact hj)
end Go.Proofs.YtcmcaladmodahaaGreatDoor

/-
  What a row's list of package-level variables gives: the layouts' cells, and the cells of the library's table for b_trailing zeros.
-/
namespace Go.Proofs.YtcmcaladmodahaaGreatDoor
open Go Go.RowKit Go.ChangeShapes Go.Proofs.YtcmcaladmodahaaGreatDoor.M
set_option linter.unusedSimpArgs false
set_option linter.unusedVariables false

theorem b_rng_of {a : Int} (h : (Lit.int .i64 a).wf = true) : rng a := by
  simp [Lit.wf, IntKind.min, IntKind.max, IntKind.signed, IntKind.bits] at h
  unfold rng; omega
theorem cellsInt : Tryz.prog.cellsOf 3 = 1 := by kernel_rfl
theorem cellsLayout : Tryz.prog.cellsOf 78 = 3 := by kernel_rfl
theorem g64 : Tryz.prog.globalNamed "plumb/bits.binary64" = some 0 := by kernel_rfl
theorem g64Type : (Tryz.prog.globals[(0 : Nat)]?).map (·.type) = some 78 := by kernel_rfl
theorem g32 : Tryz.prog.globalNamed "plumb/bits.binary32" = some 3 := by kernel_rfl
theorem g32Type : (Tryz.prog.globals[(3 : Nat)]?).map (·.type) = some 78 := by kernel_rfl

set_option maxRecDepth 100000 in
/-- A layout's three cells, off its reading. -/
theorem three {W : World} {name : String} {g : Nat} {a b c : Int} {rest : List (String × DataW Unit)} (hg : Tryz.prog.globalNamed name = some g) (hty : (Tryz.prog.globals[g]?).map (·.type) = some 78)
    (h : laidMet Tryz.prog ((name, .agg [.lit (.int .i64 a), .lit (.int .i64 b), .lit (.int .i64 c)]) :: rest) W) :
    W.cell? ⟨g, 0, none⟩ = some (.int .i64 a) ∧ W.cell? ⟨g, 1, none⟩ = some (.int .i64 b) ∧ W.cell? ⟨g, 2, none⟩ = some (.int .i64 c) := by
  obtain ⟨ps, ⟨g', t', cs, fuel, p, q, hg', ht', hvar, hd, _, _⟩, _⟩ := h
  obtain rfl := Option.some.inj (hg.symm.trans hg')
  obtain rfl := Option.some.inj (hty.symm.trans ht')
  obtain ⟨y0, y1, y2, n, hx, hl, h0, h1, h2⟩ := Go.Deep.trod_struct3 Tryz.underlying78 hd
  obtain ⟨k0, e0, f0, _⟩ := DataW.trod_int Tryz.underlying3 h0
  obtain ⟨k1, e1, f1, _⟩ := DataW.trod_int Tryz.underlying3 h1
  obtain ⟨k2, e2, f2, _⟩ := DataW.trod_int Tryz.underlying3 h2
  rw [f0, f1, f2] at hx
  simp only [Prod.mk.injEq, DataW.agg.injEq, List.cons.injEq, DataW.lit.injEq, Lit.int.injEq, true_and, and_true] at hx
  obtain ⟨⟨rfl, rfl, rfl⟩, _⟩ := hx
  rw [cellsLayout] at hl
  rw [cellsInt] at e0 e1 e2
  have v := fun i => World.var?_cell hg hvar i
  obtain ⟨l⟩ := cs
  simp only at hl e0 e1 e2
  match l, hl with
  | [c0, c1, c2], _ =>
    simp at e0 e1 e2
    subst e0 e1 e2
    exact ⟨by simpa using v 0, by simpa using v 1, by simpa using v 2⟩

theorem lays_of {W : World} (h : laidMetH Tryz.prog [("plumb/bits.binary64", Rows.laid_plumb_bits_binary64), ("plumb/bits.binary32", Rows.laid_plumb_bits_binary32)] W) : Lays W := by
  rw [MakeChecks.laidMetH_plain _ _ _ (by kernel_rfl)] at h
  obtain ⟨a0, a1, a2⟩ := three g64 g64Type h
  obtain ⟨b0, b1, b2⟩ := three g32 g32Type h.tail
  exact ⟨a0, a1, a2, b0, b1, b2⟩
end Go.Proofs.YtcmcaladmodahaaGreatDoor

/-
  What a row gives: a number that came in, as the walks want it; the library's table and the layout of binary64.
-/
namespace Go.Proofs.YtcmcaladmodahaaGreatDoor
open Go Go.ChangeShapes Go.WideShapes Go.ChangeAt Go.RowKit Go.Proofs.YtcmcaladmodahaaGreatDoor.M
set_option linter.unusedSimpArgs false
set_option linter.unusedVariables false

theorem cellsNum : Tryz.prog.cellsOf 24 = 3 := by kernel_rfl
theorem cellsB1 : Tryz.prog.cellsOf 4 = 1 := by kernel_rfl
theorem cellsS1 : Tryz.prog.cellsOf 22 = 1 := by kernel_rfl
theorem cellsI1 : Tryz.prog.cellsOf 3 = 1 := by kernel_rfl
set_option maxRecDepth 100000 in
/-- A number's cells, off its reading. -/
theorem num_cells {H : Type} {enc : TypeId × Value → H} {W : World} {n : Nat} {cs : List Value} {x : DataW H × List MemPlace}
    (h : DataW.trod enc Tryz.prog W 0 (fun _ => true) true n 24 cs = some x) :
    ∃ r : NumR, cs = [.bool r.ng, .slice r.ao r.n r.cap, .int .i64 r.e] ∧ Row W r.ao r.n r.cap r.d ∧ rng r.e := by
  obtain ⟨xs, m, _, rfl, hl, hlen, hf⟩ := DataW.trod_struct Tryz.underlying24 h
  rw [cellsNum] at hl
  match cs, hl with
  | [v0, v1, v2], _ =>
    match xs, hlen with
    | [y0, y1, y2], _ =>
      have f0 : DataW.trod enc Tryz.prog W 0 (fun _ => true) true m 4 (([v0, v1, v2].drop 0).take (Tryz.prog.cellsOf 4)) = some y0 := hf 0 _ rfl
      have f1 : DataW.trod enc Tryz.prog W 0 (fun _ => true) true m 22 (([v0, v1, v2].drop 1).take (Tryz.prog.cellsOf 22)) = some y1 := hf 1 _ rfl
      have f2 : DataW.trod enc Tryz.prog W 0 (fun _ => true) true m 3 (([v0, v1, v2].drop 2).take (Tryz.prog.cellsOf 3)) = some y2 := hf 2 _ rfl
      rw [cellsB1] at f0
      rw [cellsS1] at f1
      rw [cellsI1] at f2
      simp only [List.drop_zero, List.drop_succ_cons, List.take_succ_cons, List.take_zero] at f0 f1 f2
      obtain ⟨k0, e0, _, w0⟩ := DataW.trod_bool Tryz.underlying4 f0
      obtain ⟨k2, e2, _, w2⟩ := DataW.trod_int Tryz.underlying3 f2
      simp at e0 e2
      subst e0 e2
      rcases open_ints Tryz.underlying22 Tryz.underlying3 (by kernel_rfl) f1 with ⟨hcs, _⟩ | ⟨p, l, c, zs, hcs, _, hl', hm', hz, hx, hcell, hwz⟩
      · simp at hcs
        subst hcs
        exact ⟨⟨k0, none, 0, 0, fun _ => 0, k2⟩, rfl, Row.nil _ _, rng_of w2⟩
      · simp at hcs
        subst hcs
        obtain ⟨z, hR, _⟩ := row_of (enc := enc) (W := W) (a := some p) (len := l) (cap := c) (d := y1.1) (p := y1.2) ⟨m, by simpa [Value.cells] using f1⟩
        exact ⟨⟨k0, some p, l, c, z, k2⟩, rfl, hR, rng_of w2⟩
set_option maxRecDepth 100000 in
theorem num_of {H : Type} {enc : TypeId × Value → H} {W : World} {base : Nat} {v : Value} {d : DataW H} {p : List MemPlace} (hv : Value.okWide Tryz.prog W .any base 24 v)
    (h : DataW.Trod enc Tryz.prog W 0 (fun _ => true) true 24 v d p) : ∃ x : NumR, v = x.v ∧ Row W x.ao x.n x.cap x.d ∧ rng x.e := by
  obtain ⟨cs, rfl, hc⟩ := okWide_struct Tryz.underlying24 hv
  obtain ⟨fuel, hf⟩ := h
  obtain ⟨r, hr, h1, h2⟩ := num_cells hf
  refine ⟨r, ?_, h1, h2⟩
  show Value.agg cs = .agg #[.bool r.ng, .slice r.ao r.n r.cap, .int .i64 r.e]
  congr 1
  have : cs.toList = [.bool r.ng, .slice r.ao r.n r.cap, .int .i64 r.e] := by simpa [Value.cells] using hr
  exact Array.toList_inj.1 this
/-- What the laws want of the package's variables. -/
structure Hold (w : World) : Prop where
  lay : Lay64 w
  tab : Tab w
theorem Hold.keeps {w w' : World} (h : Hold w) (hb : Below w.heap.size w w') : Hold w' := ⟨h.lay.keeps hb, h.tab.keeps hb⟩
theorem hold_of {W : World} (h : laidMetH Tryz.prog [("math/bits.deBruijn32tab", Rows.laid_math_bits_deBruijn32tab), ("math/bits.deBruijn64tab", Rows.laid_math_bits_deBruijn64tab), ("plumb/bits.binary64", Rows.laid_plumb_bits_binary64)] W) : Hold W := by
  rw [MakeChecks.laidMetH_plain _ _ _ (by kernel_rfl)] at h
  have h' : laidMet Tryz.prog (("math/bits.deBruijn64tab", Lib.tabData .u8 tabInts) :: [("plumb/bits.binary64", Rows.laid_plumb_bits_binary64)]) W := h.tail
  have t := Lib.tabIs_of_head gTab gTabType Tryz.underlying125 Tryz.underlying5 cellsByte cellsTab h'
  obtain ⟨a0, a1, a2⟩ := three g64 g64Type h'.tail
  refine ⟨⟨a0, a1, a2⟩, fun j hj => ?_⟩
  rw [← tab_get j hj]
  exact t.cell gTab j (by exact hj)
end Go.Proofs.YtcmcaladmodahaaGreatDoor

/-
  Package dyadic's calls on numbers that are not too great: what they answer is told outright.
-/
namespace Go.Proofs.YtcmcaladmodahaaGreatDoor
open Go Go.RowKit Go.Proofs.YtcmcaladmodahaaGreatDoor.M
set_option linter.unusedSimpArgs false
set_option linter.unusedVariables false

theorem dans_shape {w w' : World} {V : Int} {v : Value} (h : DAns w w' V v) : ∃ ng so sn sc e, v = .agg #[.bool ng, .slice so sn sc, .int .i64 e] := by
  obtain ⟨ng, s, m, e, h1, _, hA⟩ := h
  obtain ⟨so, sn, sc, rfl⟩ := hA.num.shape
  exact ⟨_, _, _, _, _, h1⟩
theorem add_B {w : World} {x y : Value} {A B : Int} {k : Nat} (hx : DNum w x A) (hy : DNum w y B) (bA : Bd k A) (bB : Bd k B) (hk : k ≤ 28000) (hT : Tab w) :
    Calls Tryz.prog 75 #[x, y] w fun r w' => ∃ v, r = .returned (.tuple #[v, .int .i64 0]) ∧ DAns w w' (A + B) v := by
  refine (add_D hx hy (bA.ok (by omega)) (bB.ok (by omega)) hT).mono ?_
  rintro r w' ⟨v, er, rfl, hF⟩
  obtain ⟨rfl, hD⟩ := hF.yes ((bA.add bB (by omega)).ok (by omega))
  exact ⟨v, rfl, hD⟩
theorem mul_B {w : World} {x y : Value} {A B : Int} {k : Nat} (hx : DNum w x A) (hy : DNum w y B) (bA : Bd k A) (bB : Bd k B) (hk : k ≤ 14000) (hT : Tab w) :
    Calls Tryz.prog 9 #[x, y] w fun r w' => ∃ v C, r = .returned (.tuple #[v, .int .i64 0]) ∧ DAns w w' C v ∧ C * 2 ^ 4194304 = A * B ∧ Bd (2 * k) C := by
  refine (mul_D hx hy (bA.ok (by omega)) (bB.ok (by omega)) hT).mono ?_
  rintro r w' ⟨v, er, C, rfl, hC, hF⟩
  have hb := bA.mul bB hC (by omega)
  obtain ⟨rfl, hD⟩ := hF.yes (hb.ok (by omega))
  exact ⟨v, C, rfl, hD, hC, hb⟩
theorem ord_swap (a b : Int) : ord b a = -ord a b := by
  rcases Int.lt_trichotomy a b with h | h | h
  · rw [ord_lt h, ord_gt h]; rfl
  · rw [ord_eq h, ord_eq h.symm]; rfl
  · rw [ord_gt h, ord_lt h]
theorem ord_sub (a b : Int) : ord (a - b) 0 = ord a b := by
  rcases Int.lt_trichotomy a b with h | h | h
  · rw [ord_lt h, ord_lt (by omega)]
  · rw [ord_eq h, ord_eq (by omega)]
  · rw [ord_gt h, ord_gt (by omega)]
theorem ord_add (a b c : Int) : ord (a + c) (b + c) = ord a b := by
  rcases Int.lt_trichotomy a b with h | h | h
  · rw [ord_lt h, ord_lt (by omega)]
  · rw [ord_eq h, ord_eq (by omega)]
  · rw [ord_gt h, ord_gt (by omega)]
theorem ord_mul (a b c : Int) : ord (a * c) (b * c) = ord a b * ord c 0 := by
  rcases Int.lt_trichotomy c 0 with h | h | h
  · have e : ∀ x : Int, x * c = -(x * -c) := fun x => by rw [Int.mul_neg, Int.neg_neg]
    rw [e a, e b, ord_neg, ord_scale (show 0 < -c by omega), ord_lt h]; omega
  · rw [h, Int.mul_zero, Int.mul_zero, ord_eq rfl, Int.mul_zero]
  · rw [ord_scale h, ord_gt h, Int.mul_one]
theorem ord_zero (a b : Int) : decide (a = b) = (ord a b == 0) := by
  rcases Int.lt_trichotomy a b with h | h | h
  · rw [ord_lt h, decide_eq_false (by omega)]; rfl
  · rw [ord_eq h, decide_eq_true h]; rfl
  · rw [ord_gt h, decide_eq_false (by omega)]; rfl
theorem ord_trans (a b c : Int) : 0 < ord a b ∨ 0 < ord b c ∨ ord a c ≤ 0 := by
  by_cases h1 : b < a
  · exact .inl (by rw [ord_gt h1]; decide)
  · by_cases h2 : c < b
    · exact .inr (.inl (by rw [ord_gt h2]; decide))
    · refine .inr (.inr ?_)
      by_cases h3 : a < c
      · rw [ord_lt h3]; decide
      · rw [ord_eq (by omega)]; decide
theorem bd_pw {k : Int} (h0 : -5000 < k) (h1 : k < 5000) : Bd 5001 (pw k) := by
  have e : pw k = pw (-((5001 : Nat) : Int)) * 2 ^ (k + 5001).toNat := by
    rw [← pw_add (by omega)]; congr 1; omega
  have hp := two_pos (k + 5001).toNat
  have hlt : (2 : Int) ^ (k + 5001).toNat < 2 ^ (2 * 5001) := two_lt (by omega)
  refine ⟨2 ^ (k + 5001).toNat, by rw [e, Int.mul_comm], ?_, hlt⟩
  have := two_pos (2 * 5001)
  omega
theorem make_B {w : World} {s : Value} (hs : Num w s 1) (k : Int) (h0 : -5000 < k) (h1 : k < 5000) (hT : Tab w) :
    Calls Tryz.prog 13 #[.bool false, s, .int .i64 k] w fun r w' => ∃ v, r = .returned (.tuple #[v, .int .i64 0]) ∧ DAns w w' (pw k) v := by
  have e : mkV false 1 k = pw k := by
    unfold mkV
    rw [if_neg (by decide), if_neg (by omega)]
    show 1 * pw k = pw k
    rw [Int.one_mul]
  have := make_D false k hs (by have := P2000_big2; omega) hT
  rw [e] at this
  refine this.mono ?_
  rintro r w' ⟨v, er, rfl, hF⟩
  obtain ⟨rfl, hD⟩ := hF.yes ((bd_pw h0 h1).ok (by omega))
  exact ⟨v, rfl, hD⟩
theorem scale_back {A C B k : Int} (h0 : -5000 < k) (h1 : k < 5000) (hC : C * 2 ^ 4194304 = A * pw k) (hB : B * 2 ^ 4194304 = C * pw (-k)) : B = A := by
  have e : pw k * pw (-k) = 2 ^ 4194304 * 2 ^ 4194304 := by
    rw [pw_mul (by omega) (by omega), show k + -k = 0 by omega]
    congr 1
  refine scale_inj (scale_inj ?_)
  rw [hB, Int.mul_assoc, Int.mul_comm (pw (-k)), ← Int.mul_assoc, hC, Int.mul_assoc, e, Int.mul_assoc]
end Go.Proofs.YtcmcaladmodahaaGreatDoor

/-
  plumblaw4.num, by its contract: a valid number of any one.
-/
namespace Go.Proofs.YtcmcaladmodahaaGreatDoor
open Go Go.RowKit Go.Proofs.YtcmcaladmodahaaGreatDoor.M
set_option linter.unusedSimpArgs false
set_option linter.unusedVariables false

set_option maxRecDepth 100000 in
set_option maxHeartbeats 2000000 in
theorem num4_any (x : NumR) (w : World) (h : Row w x.ao x.n x.cap x.d) (he : rng x.e) (hT : Tab w) :
    Calls Tryz.prog 4 #[x.v] w fun r w' => ∃ v M e, r = .returned v ∧ DAns w w' (sg x.ng M * pw e) v ∧ 0 ≤ M ∧ M < P 20 ∧ -1300 < e ∧ e < 1300 := by
  obtain ⟨ng, ao, n, cap, d, ex⟩ := x
  unfold NumR.v
  simp only at *
  unfold rng at he
  have hl := h.le
  have hm := h.max
  go_enter Tryz.func4, Tryz.ntmps4
  go_wp2_with fail
  have hbx := bel_alloc2 w (.cells #[.bool ng, .slice ao n cap, .int .i64 ex] 24) (.cells #[.bool false, .slice none 0 0, .int .i64 0] 24)
  have g0 := heap_a2 w (.cells #[.bool ng, .slice ao n cap, .int .i64 ex] 24) (.cells #[.bool false, .slice none 0 0, .int .i64 0] 24)
  have g1 := heap_b2 w (.cells #[.bool ng, .slice ao n cap, .int .i64 ex] 24) (.cells #[.bool false, .slice none 0 0, .int .i64 0] 24)
  have hsz := size2 w (.cells #[.bool ng, .slice ao n cap, .int .i64 ex] 24) (.cells #[.bool false, .slice none 0 0, .int .i64 0] 24)
  generalize (w.alloc (.cells #[.bool ng, .slice ao n cap, .int .i64 ex] 24)).alloc (.cells #[.bool false, .slice none 0 0, .int .i64 0] 24) = wx at hbx g0 g1 hsz ⊢
  have hx := h.keeps hbx
  have HTB : Hid (∀ W, Below w.heap.size w W → Tab W) := fun W hb => hT.keeps hb
  go_loopw [3, 4] (fun v i wr => ∃ k : Nat, k ≤ n ∧ k ≤ 20 ∧ i = .int .i64 k ∧ Out wx.heap.size wr v k (fun i => d i % 1073741824) ∧ Below wx.heap.size wx wr) (fun _ i _ => n - (intOf i).toNat)
  case atStart => exact ⟨0, Nat.zero_le _, Nat.zero_le _, rfl, Out.nil _ _ _, bel_refl _⟩
  case round =>
    obtain ⟨k, hk, hkN, rfl, hO, hbw⟩ := hrel
    have hbw' : Below w.heap.size w wr := bel_trans hbx hbw
    have q0 := (hbw.block w.heap.size (by omega)).trans g0
    have y0 := blkC q0 0 rfl
    have y1 := blkC q0 1 rfl
    have y2 := blkC q0 2 rfl
    by_cases hlt : k < n ∧ k < 20
    · obtain ⟨hlt, hltN⟩ := hlt
      obtain ⟨b, off, rfl, hb, hc⟩ := hx.spot (by omega)
      have c := (hbw.cell (p := ⟨b, off + k, none⟩) hb).trans (hc k hlt)
      have h30 := and_30 (d k)
      go_wp2_with (at_builtin; refine wpList_app rfl _ _ rfl wx.heap.size _ k _ rfl (hO.stays (bel_alloc _ _)) _ 1 1 (fun _ => d k % 1073741824) rfl (row1 _ _ rfl) (by omega) (by have := hbw.size; simp; omega) ?_; intro v' w1 hO1 hg1)
      have hb1 : Below wx.heap.size wx w1 := (hbw.alloc hbw.size _).grown hg1 (by have := hbw.size; simp; omega) (own_ge hO)
      go_roundw
      case rel => exact ⟨k + 1, by omega, by omega, by go_num, hO1.congr (fun i hi => cat_last (fun i => d i % 1073741824) k i hi), hb1⟩
      case measure => simp [intOf]; omega
    · obtain ⟨vo, vc, rfl, hR⟩ := hO.row
      have hlr := hR.le
      have hmr := hR.max
      have HF : Hid (∀ t, t ≤ k → Dig (fun i => d i % 1073741824) t ∧ val (fun i => d i % 1073741824) t < P 20) := fun t ht => by
        have D : Dig (fun i => d i % 1073741824) t := fun i hi => mod_dig _
        exact ⟨D, Int.lt_of_lt_of_le (val_lt D) (P_le (by omega))⟩
      have hmod : -1300 < ex.tmod 1300 ∧ ex.tmod 1300 < 1300 := by
        have h1 := Int.tmod_lt_of_pos ex (show (0 : Int) < 1300 by decide)
        have h2 := Int.tmod_lt_of_pos (-ex) (show (0 : Int) < 1300 by decide)
        rw [Int.neg_tmod] at h2
        omega
      have HD : Hid (-1300 < ex.tmod 1300 ∧ ex.tmod 1300 < 1300) := hmod
      clear hmod
      have CMk : Hid (∀ (W : World) (t : Nat), t ≤ k → Below wr.heap.size wr W → (t = 0 ∨ d (t - 1) % 1073741824 ≠ 0) → Calls Tryz.prog 13 #[.bool ng, .slice vo t vc, .int .i64 (ex.tmod 1300)] W fun r w' => ∃ v, r = .returned (.tuple #[v, .int .i64 0]) ∧ DAns W w' (sg ng (val (fun i => d i % 1073741824) t) * pw (ex.tmod 1300)) v) := fun W t ht hb htop => by
        obtain ⟨D, hlt⟩ := HF.out t ht
        have hN : Nrm (fun i => d i % 1073741824) t := ⟨D, htop⟩
        have hRt : Row W vo t vc (fun i => d i % 1073741824) := (show Row wr vo t vc (fun i => d i % 1073741824) from ⟨by omega, hmr, hR.nl, fun h => by
          obtain ⟨b, off, e, hb2, hc⟩ := hR.spot (by omega)
          exact ⟨b, off, e, hb2, fun i hi => hc i (by omega)⟩⟩).keeps hb
        have hv0 := val_nonneg D
        have e : mkV ng (val (fun i => d i % 1073741824) t) (ex.tmod 1300) = sg ng (val (fun i => d i % 1073741824) t) * pw (ex.tmod 1300) := by
          unfold mkV
          by_cases hz : val (fun i => d i % 1073741824) t = 0
          · rw [if_pos hz, hz, sg_zero, Int.zero_mul]
          · rw [if_neg hz, if_neg (by have := HD.out; omega)]
        have hM := make_D ng (ex.tmod 1300) ⟨_, _, _, _, rfl, hRt, hN, rfl⟩ (Int.lt_of_lt_of_le hlt (P_le (by decide))) (HTB.out W (bel_trans hbw' hb))
        rw [e] at hM
        refine hM.mono ?_
        rintro r w' ⟨v, er, rfl, hF⟩
        obtain ⟨rfl, hDa⟩ := hF.yes ((bd_num (ng := ng) hv0 (Int.lt_of_lt_of_le hlt (P_le (by decide))) (by have := HD.out; omega) (by have := HD.out; omega)).ok (by decide))
        exact ⟨v, rfl, hDa⟩
      have HV : Hid (∀ t, t ≤ k → 0 ≤ val (fun i => d i % 1073741824) t ∧ val (fun i => d i % 1073741824) t < P 20) := fun t ht => ⟨val_nonneg (HF.out t ht).1, (HF.out t ht).2⟩
      by_cases hlt2 : k < n
      all_goals
        go_wp2
        go_loop [3] (fun v => ∃ t : Nat, t ≤ k ∧ v = .slice vo t vc) (fun v => lenOf v)
        case atStart => exact ⟨k, Nat.le_refl _, rfl⟩
        case round =>
          obtain ⟨t, ht, rfl⟩ := hrel
          by_cases h0 : t = 0
          · subst h0
            go_wp2_with fail
            refine (CMk.out _ _ ht (bel_refl _) (.inl rfl)).mono ?_
            rintro _ w3 ⟨v, rfl, hDD⟩
            obtain ⟨ng', s', m', e', rfl, hyy, hA2⟩ := id hDD
            obtain ⟨so', sn', sc', rfl⟩ := hA2.num.shape
            have hb4 := bel_alloc w3 (.cells #[.bool ng', .slice so' sn' sc', .int .i64 e'] 24)
            have hb5 : Below wx.heap.size wx (w3.alloc (.cells #[.bool ng', .slice so' sn' sc', .int .i64 e'] 24)) := bel_trans (bel_trans hbw hDD.below) hb4
            have p1 := (hb5.block (w.heap.size + 1) (by omega)).trans g1
            have x0 := blkC p1 0 rfl
            have x1 := blkC p1 1 rfl
            have x2 := blkC p1 2 rfl
            have z0 := blkF p1 0
            have z1 := blkF p1 1
            have z2 := blkF p1 2
            have HDD : Hid (DAns wr (w3.alloc (.cells #[.bool ng', .slice so' sn' sc', .int .i64 e'] 24)) _ _) := hDD.stays hb4
            have HVV := HV.out _ ht
            clear hDD hA2 hyy CMk
            go_wp2
            refine bodyPost_ret (v := .agg #[.bool ng', .slice so' sn' sc', .int .i64 e']) (by simp [results, Tryz.results4, go_sem, x0, x1, x2]) rfl ⟨_, _, _, rfl, dans_res3 (g := w.heap.size + 1) HDD.out (bel_trans hbx hbw) (by omega) (Nat.lt_of_lt_of_le (by omega) hbw.size) _ _ _, HVV.1, HVV.2, HD.out.1, HD.out.2⟩
          · obtain ⟨b, off, rfl, hb, hc⟩ := hR.spot (by omega)
            have c := hc (t - 1) (by omega)
            by_cases h1 : d (t - 1) % 1073741824 = 0
            · go_wp2
              go_round
              case rel => exact ⟨t - 1, by omega, rfl⟩
              case measure => simp [lenOf]; omega
            · go_wp2_with fail
              refine (CMk.out _ _ ht (bel_refl _) (.inr h1)).mono ?_
              rintro _ w3 ⟨v, rfl, hDD⟩
              obtain ⟨ng', s', m', e', rfl, hyy, hA2⟩ := id hDD
              obtain ⟨so', sn', sc', rfl⟩ := hA2.num.shape
              have hb4 := bel_alloc w3 (.cells #[.bool ng', .slice so' sn' sc', .int .i64 e'] 24)
              have hb5 : Below wx.heap.size wx (w3.alloc (.cells #[.bool ng', .slice so' sn' sc', .int .i64 e'] 24)) := bel_trans (bel_trans hbw hDD.below) hb4
              have p1 := (hb5.block (w.heap.size + 1) (by omega)).trans g1
              have x0 := blkC p1 0 rfl
              have x1 := blkC p1 1 rfl
              have x2 := blkC p1 2 rfl
              have z0 := blkF p1 0
              have z1 := blkF p1 1
              have z2 := blkF p1 2
              have HDD : Hid (DAns wr (w3.alloc (.cells #[.bool ng', .slice so' sn' sc', .int .i64 e'] 24)) _ _) := hDD.stays hb4
              have HVV := HV.out _ ht
              clear hDD hA2 hyy CMk
              go_wp2
              refine bodyPost_ret (v := .agg #[.bool ng', .slice so' sn' sc', .int .i64 e']) (by simp [results, Tryz.results4, go_sem, x0, x1, x2]) rfl ⟨_, _, _, rfl, dans_res3 (g := w.heap.size + 1) HDD.out (bel_trans hbx hbw) (by omega) (Nat.lt_of_lt_of_le (by omega) hbw.size) _ _ _, HVV.1, HVV.2, HD.out.1, HD.out.2⟩
end Go.Proofs.YtcmcaladmodahaaGreatDoor

/-
  plumblaw4.order, by its contract.
-/
namespace Go.Proofs.YtcmcaladmodahaaGreatDoor
open Go Go.RowKit Go.Proofs.YtcmcaladmodahaaGreatDoor.M
set_option linter.unusedSimpArgs false
set_option linter.unusedVariables false

/-- A pattern's value, in the scale. -/
def patV (b : Int) : Int := sg (pneg b) (pmag b) * pw (pexp b)
/-- How a number stands to a pattern. -/
def ordP (A b : Int) : Int := if pok b = true then ord A (patV b) else if b < 0 then 1 else -1
theorem patV_dok {b : Int} (h : pok b = true) : Dok (patV b) := by
  obtain ⟨i0, i1, i2, i3⟩ := pmag_in h
  exact dok_small i0 (by omega) i2 i3
end Go.Proofs.YtcmcaladmodahaaGreatDoor
