/-
  Proved: at every script, plumblaw1.BitsAll answers true: whatever is asked in whatever order, package bits answers as the document's own answer does; where the two layouts and the library's table of trailing zeros lie as the program's text lays them.
-/
import Derived.Test.YthppkpbfdgfcaabDoorCards
import Derived.Test.YthppkpbfdgfcaabDoorTie
import Derived.Test.YthppkpbfdgfcaabDoorLaidTab
import Derived.Test.YthppkpbfdgfcaabDoorLaws
import Derived.OpenShut
import Derived.Deep.Slices
import Derived.ChangeOld
import Derived.Below
namespace Go.Proofs.YthppkpbfdgfcaabDoor.bitsAll
open Go Go.ChangeShapes Go.WideShapes Go.ChangeAt Go.RowKit Go.Proofs.YthppkpbfdgfcaabDoor Go.Proofs.YthppkpbfdgfcaabDoor.M
set_option linter.unusedSimpArgs false
set_option linter.unusedVariables false

theorem gBlock {a b : World} (h : Grown a b) {i : Nat} (hi : i < a.heap.size) : b.heap[i]? = a.heap[i]? := by
  have k := h.1.2.2 i hi
  cases ha : a.heap[i]? with
  | none => rw [Array.getElem?_eq_none_iff] at ha; omega
  | some oa =>
    rw [ha] at k
    cases oa with
    | cells c t fr =>
      cases hb : b.heap[i]? with
      | none => rw [hb] at k; simp at k
      | some ob =>
        rw [hb] at k
        cases ob with
        | cells c' t' fr' =>
          simp only at k
          obtain ⟨rfl, rfl, _, kc⟩ := k
          have : c' = c := Array.ext_getElem? fun j => kc j (fun f => f)
          rw [this]
        | _ => simp at k
    | map es cl =>
      cases hb : b.heap[i]? with
      | none => rw [hb] at k; simp at k
      | some ob =>
        rw [hb] at k
        cases ob with
        | map es' cl' =>
          simp only [false_or] at k
          obtain ⟨rfl, rfl⟩ := k
          rfl
        | _ => simp at k
    | _ => simpa using k
theorem gSame {a b : World} (h : Grown a b) {p : MemPlace} (hp : p.block < a.heap.size) : a.sameAt b p := by
  cases p with
  | cell x off =>
    show b.cell? _ = a.cell? _
    unfold World.cell?
    rw [gBlock h (show x < a.heap.size from hp)]
  | map x => exact gBlock h (show x < a.heap.size from hp)

/-- What the walk is told of the script: it has no ask, or leads to a row of asks, four cells each. -/
def IsAsks (w : World) (a : Option Addr) (len cap : Nat) (K A B : Nat → Int) (G : Nat → Bool) : Prop :=
  len = 0 ∨
  ∃ b off, a = some ⟨b, off, none⟩ ∧ len ≤ cap ∧ cap ≤ maxLen ∧ (∀ i, i < len → w.cell? ⟨b, off + i * 4, none⟩ = some (.int .i64 (K i)) ∧ w.cell? ⟨b, off + i * 4 + 1, none⟩ = some (.int .i64 (A i)) ∧
    w.cell? ⟨b, off + i * 4 + 2, none⟩ = some (.int .i64 (B i)) ∧ w.cell? ⟨b, off + i * 4 + 3, none⟩ = some (.bool (G i)) ∧ rng (K i) ∧ rng (A i) ∧ rng (B i))

set_option maxRecDepth 100000 in
set_option maxHeartbeats 1000000 in
theorem walk (a : Option Addr) (len cap : Nat) (K A B : Nat → Int) (G : Nat → Bool) (w : World) (hs : IsAsks w a len cap K A B G) (E : Env w) :
    Calls Tryd.prog 4 #[.slice a len cap] w fun e w' => e = .returned (.bool true) ∧ Grown w w' := by
  rcases hs with rfl | ⟨b, off, rfl, hl, hm, hc⟩
  · go_enter Tryd.func4, Tryd.ntmps4
    go_wp2
    go_loopw [3] (fun i wr => i = .int .i64 0 ∧ Grown w wr) (fun i _ => 0)
    case atStart => exact ⟨rfl, Grown.refl _⟩
    case round =>
      obtain ⟨rfl, hg⟩ := hrel
      have E1 := E.grown hg
      go_wp2_with fail
      refine (alive _ E1.lays).mono ?_
      rintro e w2 ⟨rfl, g2⟩
      go_wp2
      go_ret
      exact ⟨rfl, gTrans hg g2⟩
  · unfold maxLen at hm
    go_enter Tryd.func4, Tryd.ntmps4
    go_wp2
    go_loopw [3] (fun i wr => ∃ k : Nat, k ≤ len ∧ k ≤ 200 ∧ i = .int .i64 k ∧ Grown w wr) (fun i _ => len - (intOf i).toNat)
    case atStart => exact ⟨0, by omega, by omega, rfl, Grown.refl _⟩
    case round =>
      obtain ⟨k, hk, hk2, rfl, hg⟩ := hrel
      have E1 := E.grown hg
      by_cases hlt : k < len
      · by_cases hlt2 : k < 200
        · obtain ⟨c0, c1, c2, c3, rk, ra, rb⟩ := hc k hlt
          have d0 := gCell hg c0
          have d1 := gCell hg c1
          have d2 := gCell hg c2
          have d3 := gCell hg c3
          clear c0 c1 c2 c3 hc
          by_cases q0 : K k = 0
          · go_wp2_with fail
            refine (laws.parts _ _ (E1.grown ((Grown.refl _).alloc _ _)).lays ra).mono ?_
            rintro e w2 ⟨rfl, g2⟩
            go_wp2
            go_roundw
            case rel => exact ⟨k + 1, by omega, by omega, by go_num, gTrans (hg.alloc _ _) g2⟩
            case measure => simp [intOf]; omega
          by_cases q1 : K k = 1
          · go_wp2_with fail
            refine (laws.parts32 _ _ (E1.grown ((Grown.refl _).alloc _ _)).lays ra).mono ?_
            rintro e w2 ⟨rfl, g2⟩
            go_wp2
            go_roundw
            case rel => exact ⟨k + 1, by omega, by omega, by go_num, gTrans (hg.alloc _ _) g2⟩
            case measure => simp [intOf]; omega
          by_cases q2 : K k = 2
          · go_wp2_with fail
            refine (laws.joined _ _ _ _ (E1.grown ((Grown.refl _).alloc _ _)) ra rb).mono ?_
            rintro e w2 ⟨rfl, g2⟩
            go_wp2
            go_roundw
            case rel => exact ⟨k + 1, by omega, by omega, by go_num, gTrans (hg.alloc _ _) g2⟩
            case measure => simp [intOf]; omega
          by_cases q3 : K k = 3
          · go_wp2_with fail
            refine (laws.turned _ _ (E1.grown ((Grown.refl _).alloc _ _)) ra).mono ?_
            rintro e w2 ⟨rfl, g2⟩
            go_wp2
            go_roundw
            case rel => exact ⟨k + 1, by omega, by omega, by go_num, gTrans (hg.alloc _ _) g2⟩
            case measure => simp [intOf]; omega
          by_cases q4 : K k = 4
          · go_wp2_with fail
            refine (laws.turned32 _ _ (E1.grown ((Grown.refl _).alloc _ _)).lays ra).mono ?_
            rintro e w2 ⟨rfl, g2⟩
            go_wp2
            go_roundw
            case rel => exact ⟨k + 1, by omega, by omega, by go_num, gTrans (hg.alloc _ _) g2⟩
            case measure => simp [intOf]; omega
          by_cases q5 : K k = 5
          · go_wp2_with fail
            refine (laws.ordered _ _ _ (E1.grown ((Grown.refl _).alloc _ _)).lays ra rb).mono ?_
            rintro e w2 ⟨rfl, g2⟩
            go_wp2
            go_roundw
            case rel => exact ⟨k + 1, by omega, by omega, by go_num, gTrans (hg.alloc _ _) g2⟩
            case measure => simp [intOf]; omega
          go_wp2
          go_roundw
          case rel => exact ⟨k + 1, by omega, by omega, by go_num, hg.alloc _ _⟩
          case measure => simp [intOf]; omega
        · go_wp2_with fail
          refine (alive _ E1.lays).mono ?_
          rintro e w2 ⟨rfl, g2⟩
          go_wp2
          go_ret
          exact ⟨rfl, gTrans hg g2⟩
      · go_wp2_with fail
        refine (alive _ E1.lays).mono ?_
        rintro e w2 ⟨rfl, g2⟩
        go_wp2
        go_ret
        exact ⟨rfl, gTrans hg g2⟩
theorem own : ownKnob Tryd.prog.godebug = none := by kernel_rfl
theorem laidOut : laidOutB Tryd.prog = true := by kernel_rfl
theorem cellsAsk : Tryd.prog.cellsOf 33 = 4 := by kernel_rfl
theorem cellsBool : Tryd.prog.cellsOf 4 = 1 := by kernel_rfl
/-- An ask's four cells, off its reading. -/
theorem ask_cells {H : Type} {enc : TypeId × Value → H} {W : World} {base : Nat} {sp : Nat → Bool} {held : Bool} {n : Nat} {cs : List Value} {x : DataW H × List MemPlace}
    (h : DataW.trod enc Tryd.prog W base sp held n 33 cs = some x) : ∃ (k a b : Int) (g : Bool), cs = [.int .i64 k, .int .i64 a, .int .i64 b, .bool g] ∧ rng k ∧ rng a ∧ rng b := by
  obtain ⟨xs, m, _, rfl, hl, hlen, hf⟩ := DataW.trod_struct Tryd.underlying33 h
  rw [cellsAsk] at hl
  match cs, hl with
  | [v0, v1, v2, v3], _ =>
    match xs, hlen with
    | [y0, y1, y2, y3], _ =>
      have f0 : DataW.trod enc Tryd.prog W base sp held m 3 (([v0, v1, v2, v3].drop 0).take (Tryd.prog.cellsOf 3)) = some y0 := hf 0 _ rfl
      have f1 : DataW.trod enc Tryd.prog W base sp held m 3 (([v0, v1, v2, v3].drop 1).take (Tryd.prog.cellsOf 3)) = some y1 := hf 1 _ rfl
      have f2 : DataW.trod enc Tryd.prog W base sp held m 3 (([v0, v1, v2, v3].drop 2).take (Tryd.prog.cellsOf 3)) = some y2 := hf 2 _ rfl
      have f3 : DataW.trod enc Tryd.prog W base sp held m 4 (([v0, v1, v2, v3].drop 3).take (Tryd.prog.cellsOf 4)) = some y3 := hf 3 _ rfl
      obtain ⟨k0, e0, _, w0⟩ := DataW.trod_int Tryd.underlying3 f0
      obtain ⟨k1, e1, _, w1⟩ := DataW.trod_int Tryd.underlying3 f1
      obtain ⟨k2, e2, _, w2⟩ := DataW.trod_int Tryd.underlying3 f2
      obtain ⟨k3, e3, _⟩ := DataW.trod_bool Tryd.underlying4 f3
      rw [cellsInt] at e0 e1 e2
      rw [cellsBool] at e3
      simp at e0 e1 e2 e3
      subst e0 e1 e2 e3
      exact ⟨k0, k1, k2, k3, rfl, rng_of w0, rng_of w1, rng_of w2⟩
theorem add_none (b off n : Nat) : (⟨b, off, none⟩ : Addr).add n = ⟨b, off + n, none⟩ := by
  unfold Addr.add; split <;> simp_all
theorem asks_of {H : Type} {enc : TypeId × Value → H} {W : World} {fuel : Nat} {a : Option Addr} {len cap : Nat} {x : DataW H × List MemPlace}
    (h : DataW.trod enc Tryd.prog W 0 (fun _ => true) true fuel 31 [.slice a len cap] = some x) : ∃ K A B G, IsAsks W a len cap K A B G := by
  rcases Deep.open_slice Tryd.underlying31 h with ⟨hcs, _⟩ | ⟨p, l, c, m, n, D, Pl, hcs, _, hl, hm, hmm, _, hel⟩
  · simp at hcs
    obtain ⟨rfl, rfl, rfl⟩ := hcs
    exact ⟨fun _ => 0, fun _ => 0, fun _ => 0, fun _ => false, .inl rfl⟩
  · simp at hcs
    obtain ⟨rfl, rfl, rfl⟩ := hcs
    simp only [if_true] at hmm
    subst hmm
    by_cases h0 : len = 0
    · exact ⟨fun _ => 0, fun _ => 0, fun _ => 0, fun _ => false, .inl h0⟩
    have each : ∀ i, i < len → ∃ q : Int × Int × Int × Bool, W.cells? 0 (p.add (i * 4)) 4 = some [.int .i64 q.1, .int .i64 q.2.1, .int .i64 q.2.2.1, .bool q.2.2.2] ∧ rng q.1 ∧ rng q.2.1 ∧ rng q.2.2.1 := by
      intro i hi
      obtain ⟨cs', h1, h2⟩ := hel i (by omega)
      rw [cellsAsk] at h1
      obtain ⟨k, a, b, g, rfl, r1, r2, r3⟩ := ask_cells h2
      exact ⟨(k, a, b, g), h1, r1, r2, r3⟩
    obtain ⟨q, hq⟩ := Deep.choose_lt each
    have cell : ∀ i j, i < len → j < 4 → W.cell? ((p.add (i * 4)).add j) = ([.int .i64 (q i).1, .int .i64 (q i).2.1, .int .i64 (q i).2.2.1, .bool (q i).2.2.2] : List Value)[j]? := by
      intro i j hi hj
      exact (World.cells?_some (hq i hi).1).2.2 j hj
    obtain ⟨b, off, spot⟩ := p
    have hspot : spot = none := by
      have h1 := cell 0 0 (by omega) (by omega)
      have h2 : W.cell? ⟨b, off, spot⟩ = some (.int .i64 (q 0).1) := by simpa [Addr.add] using h1
      exact World.cell?_spot h2
    subst hspot
    refine ⟨fun i => (q i).1, fun i => (q i).2.1, fun i => (q i).2.2.1, fun i => (q i).2.2.2, .inr ⟨b, off, rfl, hl, hm, fun i hi => ?_⟩⟩
    have x0 := cell i 0 hi (by omega)
    have x1 := cell i 1 hi (by omega)
    have x2 := cell i 2 hi (by omega)
    have x3 := cell i 3 hi (by omega)
    rw [add_none, add_none] at x0 x1 x2 x3
    exact ⟨x0, x1, x2, x3, (hq i hi).2⟩
theorem door_met (os : Os) (args : Array Value) : laidMetH Tryd.prog Rows.bitsAllRow.laid ((World.doorLaid Tryd.prog 400 os).forCall (fun _ _ => 0) ⟨#[], args, []⟩).memory :=
  laidMetH_of_parts3 (fuel := 8) (laidMet_of_run' 8 (by kernel_rfl) (by kernel_rfl)) (by kernel_rfl) (by kernel_rfl)
set_option maxRecDepth 100000 in
theorem lifted (os : Os) (started : os.Started) (H : Type) (enc : TypeId × Value → H) :
    ReturnsInHanded {} Tryd.checked os 4 .any (fun w args => (Rows.bitsAllSpec.pre enc Tryd.prog Tryd.f4 [] false w args ∧ laidMetH Tryd.prog Rows.bitsAllRow.laid w) ∧ sizedMet enc Tryd.prog Tryd.f4 (OpenSpec.ofChange Rows.bitsAllSpec) false w args)
      (Rows.bitsAllSpec.post enc Tryd.prog Tryd.f4 false true false false) := by
  refine returnsInHanded_of_change_and (C := Tryd.checked) (X := fun w _ => laidMetH Tryd.prog Rows.bitsAllRow.laid w) (fun _ _ _ hh h => h.of_heap hh) own started (by kernel_rfl) Tryd.func4
    (ChangeSpec.witness_shaped (enc := enc) (C := Tryd.checked) (os := os) (X := fun w _ => laidMetH Tryd.prog Rows.bitsAllRow.laid w) false (World.doorLaid Tryd.prog 400 os) #[.slice none 0 0] 8 rfl (World.shaped_of_RefB (by kernel_rfl) (by kernel_rfl)) (by kernel_rfl) (by kernel_rfl) (by kernel_rfl) (door_met os _)) ?_
  intro W base args ds gs before hval0 hW _ _ hL _
  have hval : ∀ (j : Nat) t v, Tryd.f4.params[j]? = some t → args[j]? = some v → Value.okWide Tryd.prog W .any base t v := hval0
  have hW' := hW
  obtain ⟨p, q, hA0, hV, rfl, hfz, hnd⟩ := hW
  have hA : DataW.TrodAll enc Tryd.prog W 0 (fun _ => true) true Tryd.f4.params.toList args.toList ds p := hA0
  rw [Tryd.params4] at hA hval
  obtain ⟨v0, vs0, d0, ds0, p0, q0, hargs, rfl, rfl, h0, r0⟩ := trodAll_cons hA
  obtain ⟨rfl, rfl, rfl⟩ := trodAll_nil r0
  obtain rfl : args = #[v0] := by cases args; simp_all
  obtain ⟨rfl, rfl⟩ := trodVars_none hV
  obtain ⟨a0, len0, cap0, rfl⟩ := okWide_slice Tryd.underlying31 (hval 0 31 v0 rfl rfl)
  have k0 := h0
  have lt0 : ∀ x ∈ p0, x.block < W.heap.size := by obtain ⟨m, hm⟩ := k0; exact DataW.trod_lt m _ _ _ hm
  obtain ⟨K, A, B, G, w0⟩ : ∃ K A B G, IsAsks W a0 len0 cap0 K A B G := by
    obtain ⟨fuel, hf⟩ := h0
    exact asks_of (by simpa [Value.cells] using hf)
  clear hA0 hval0
  refine (walk a0 len0 cap0 K A B G W w0 (env_of hL)).mono fun e W' ⟨he, hg⟩ => ?_
  subst he
  exact ⟨_, rfl, _, _, _, [], _, [], hW', trodAll_mk1 (shut_bool Tryd.underlying4 _), (trodAll_cons_mk (WideElems.Trod_stays laidOut (by kernel_rfl) (of_decide_eq_true (by kernel_rfl)) k0 (fun x hx => gSame hg (lt0 x hx)) (fun x hx => by simpa using lt0 x hx)) trodAll_mk0), rfl, hg.frame _, fun h => by cases h⟩
theorem said : Rows.BitsAllSaid :=
  OpenClaim.holds_of_wide 4 Tryd.f4 rfl rfl rfl rfl rfl rfl rfl ⟨rfl, rfl, rfl, rfl, rfl⟩ rfl rfl rfl rfl rfl (by kernel_rfl) Tryd.func4 (by kernel_rfl)
    (of_decide_eq_true (by kernel_rfl)) (by unfold Func.isWrapper; first | (rw [if_pos (by decide +kernel)]; kernel_rfl) | (rw [if_neg (by decide +kernel)]; exact ⟨rfl, rfl⟩))
    (fun os started H enc _ => lifted os started H enc)
theorem plain (f : FuncId) (fn : Func) (hf : Tryd.pinned.checked.prog.funcNamed Tryd.f4.name = some f) (hfn : Tryd.pinned.checked.prog.funcs[f]? = some fn) :
    false = Tryd.pinned.checked.prog.looks [] ∧ ∀ (j : Nat) t, fn.params[j]? = some t → Tryd.pinned.checked.prog.wantsStandIn t = false := by
  obtain rfl : f = 4 := Option.some.inj ((show Tryd.prog.funcNamed Tryd.f4.name = some 4 by kernel_rfl).symm.trans hf) |>.symm
  obtain rfl : fn = Tryd.f4 := (Option.some.inj (Tryd.func4.symm.trans hfn)).symm
  refine ⟨by kernel_rfl, fun j t ht => ?_⟩
  rw [Tryd.params4] at ht
  obtain rfl : t = 31 := by simpa using Array.mem_of_getElem? ht
  exact (show Tryd.prog.wantsStandIn 31 = false by kernel_rfl)
/-- THE CARD. -/
theorem card : Rows.BitsAllCardSaid :=
  Claim7.holds_tied_plain_at .later [] _ _ _ _ said (fun _ h => by cases h) (by kernel_rfl) (fun _ h => by cases h) bitsAll_row_tie rfl ⟨rfl, rfl⟩ (by kernel_rfl) rfl plain (by kernel_rfl)
end Go.Proofs.YthppkpbfdgfcaabDoor.bitsAll
namespace Go.Proofs.YthppkpbfdgfcaabDoor
/-- BitsAll: the statement as it is given. -/
theorem bitsAll_holds : Rows.BitsAllCardSaid := bitsAll.card
end Go.Proofs.YthppkpbfdgfcaabDoor
