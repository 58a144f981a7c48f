/-
  Parts of the proof, one behind another.
-/
import Derived.Test.YtnhkagiionkjaaaGreatDoorPart25
import Derived.Test.YtnhkagiionkjaaaGreatDoorPart15
import Derived.Test.YtnhkagiionkjaaaGreatDoorPart14
import Derived.Test.YtnhkagiionkjaaaGreatDoorPart11
import Derived.Test.YtnhkagiionkjaaaGreatDoorPart7
import Derived.Deep.Strs
/-
  plumblaw3.twos at anything, by its contract.
-/
namespace Go.Proofs.YtnhkagiionkjaaaGreatDoor
open Go Go.RowKit Go.Proofs.YtnhkagiionkjaaaGreatDoor.M
set_option linter.unusedSimpArgs false
set_option linter.unusedVariables false

theorem twos_any {w0 : World} (a b : NumR) (ra : Row w0 a.ao a.n a.cap a.d) (rb : Row w0 b.ao b.n b.cap b.d) (la : Lgt a) (lb : Lgt b) (w : World) (hb0 : Below w0.heap.size w0 w) {k : Nat} {S : Nat → Prop} (hk : Kept w0.heap.size w k S) (hT : Tab w0) :
    Calls Tryz.prog 8 #[.pointer (some ⟨k, 0, none⟩), a.v, b.v] w fun e w' => e = .returned (.bool true) ∧ Below w0.heap.size w0 w' ∧ ∃ S', Kept w0.heap.size w' k S' ∧ Fr w w' := by
  cases oa : okR a
  · exact twos_bad1 a b ra rb la.1 lb.1 w hb0 hk hT oa
  · cases ob : okR b
    · exact twos_bad2 a b ra rb la.1 lb.1 w hb0 hk hT oa ob
    · exact twos_ok a b ra rb la.1 lb.1 w hb0 hk hT oa ob (la.2 oa) (lb.2 ob)
end Go.Proofs.YtnhkagiionkjaaaGreatDoor

/-
  What a row gives: a list of numbers that came in, as the walks want it.
-/
namespace Go.Proofs.YtnhkagiionkjaaaGreatDoor
open Go Go.ChangeShapes Go.WideShapes Go.ChangeAt Go.RowKit Go.Proofs.YtnhkagiionkjaaaGreatDoor.M
set_option linter.unusedSimpArgs false
set_option linter.unusedVariables false

/-- A list of numbers that came in. -/
def IsNums (W : World) (a : Option Addr) (len cap : Nat) (r : Nat → NumR) : Prop := Nums W a len cap r ∧ ∀ i, i < len → rng (r i).e
set_option maxRecDepth 100000 in
theorem nums_of {H : Type} {enc : TypeId × Value → H} {W : World} {fuel : Nat} {a : Option Addr} {len cap : Nat} {x : DataW H × List MemPlace}
    (h : DataW.trod enc Tryz.prog W 0 (fun _ => true) true fuel 26 [.slice a len cap] = some x) (hw : ∀ n ∈ x.1.weights Tryz.prog 26, n ≤ reachBytes) : ∃ r, IsNums W a len cap r := by
  rcases Deep.open_slice Tryz.underlying26 h with ⟨hcs, _⟩ | ⟨p, l, c, m, n, D, Pl, hcs, _, hl, hm, hmm, hx, hel⟩
  · simp at hcs
    obtain ⟨rfl, rfl, rfl⟩ := hcs
    exact ⟨fun _ => default, ⟨Nat.le_refl _, by decide, fun h => by omega⟩, fun i hi => by omega⟩
  · simp at hcs
    obtain ⟨rfl, rfl, rfl⟩ := hcs
    simp only [if_true] at hmm
    subst hmm
    unfold maxLen at hm
    by_cases h0 : len = 0
    · exact ⟨fun _ => default, ⟨hl, by omega, fun h => by omega⟩, fun i hi => by omega⟩
    have each : ∀ i, i < len → ∃ r : NumR, W.cells? 0 (p.add (i * 3)) 3 = some [.bool r.ng, .slice r.ao r.n r.cap, .int .i64 r.e] ∧ Row W r.ao r.n r.cap r.d ∧ rng r.e := by
      intro i hi
      obtain ⟨cs', h1, h2⟩ := hel i (by omega)
      rw [cellsNum] at h1
      obtain ⟨r, rfl, hr⟩ := num_cells h2
      exact ⟨r, h1, hr⟩
    obtain ⟨q, hq⟩ := Deep.choose_lt each
    have cell : ∀ i j, i < len → j < 3 → W.cell? ((p.add (i * 3)).add j) = ([.bool (q i).ng, .slice (q i).ao (q i).n (q i).cap, .int .i64 (q i).e] : List Value)[j]? := by
      intro i j hi hj
      exact (World.cells?_some (hq i hi).1).2.2 j hj
    obtain ⟨b, off, spot⟩ := p
    have h2 : W.cell? ⟨b, off, spot⟩ = some (.bool (q 0).ng) := by simpa [Addr.add] using cell 0 0 (by omega) (by omega)
    have hspot : spot = none := World.cell?_spot h2
    subst hspot
    refine ⟨q, ⟨hl, by omega, fun _ => ⟨b, off, rfl, World.block_lt_of_cell? W _ h2, fun i hi => ?_⟩⟩, fun i hi => (hq i hi).2.2⟩
    have x0 := cell i 0 hi (by omega)
    have x1 := cell i 1 hi (by omega)
    have x2 := cell i 2 hi (by omega)
    rw [add_none, add_none] at x0 x1 x2
    exact ⟨x0, x1, x2, (hq i hi).2.1⟩
end Go.Proofs.YtnhkagiionkjaaaGreatDoor

/-
  A script of asks of the exact numbers' calls, off its reading.
-/
namespace Go.Proofs.YtnhkagiionkjaaaGreatDoor
open Go Go.ChangeShapes Go.WideShapes Go.ChangeAt Go.RowKit Go.Proofs.YtnhkagiionkjaaaGreatDoor.M
set_option linter.unusedSimpArgs false
set_option linter.unusedVariables false

/-- An ask, as it lies in memory. -/
structure AskD where
  k : Int
  n : Int
  x : NumR
  y : NumR
  lo : Option Addr
  ln : Nat
  lc : Nat
  l : Nat → NumR
  mo : Option Addr
  mn : Nat
  mc : Nat
  m : Nat → NumR
def AskD.cells (r : AskD) : List Value := [.int .i64 r.k, .int .i64 r.n, .bool r.x.ng, .slice r.x.ao r.x.n r.x.cap, .int .i64 r.x.e, .bool r.y.ng, .slice r.y.ao r.y.n r.y.cap, .int .i64 r.y.e, .slice r.lo r.ln r.lc, .slice r.mo r.mn r.mc]
/-- What an ask's reading gives besides its cells. -/
structure AskF (W : World) (r : AskD) : Prop where
  rk : rng r.k
  rn : rng r.n
  rx : Row W r.x.ao r.x.n r.x.cap r.x.d
  ex : rng r.x.e
  ry : Row W r.y.ao r.y.n r.y.cap r.y.d
  ey : rng r.y.e
  rl : IsNums W r.lo r.ln r.lc r.l
  rm : IsNums W r.mo r.mn r.mc r.m
structure IsAskD (W : World) (b o : Nat) (r : AskD) : Prop where
  cell : ∀ j, j < 10 → W.cell? ⟨b, o + j, none⟩ = r.cells[j]?
  fact : AskF W r
def IsAskDs (W : World) (a : Option Addr) (len cap : Nat) (r : Nat → AskD) : Prop :=
  len = 0 ∨ ∃ b off, a = some ⟨b, off, none⟩ ∧ len ≤ cap ∧ cap ≤ 9223372036854775807 ∧ b < W.heap.size ∧ ∀ i, i < len → IsAskD W b (off + i * 10) (r i)
theorem cellsAskD : Tryz.prog.cellsOf 28 = 10 := by kernel_rfl
theorem cellsNs1 : Tryz.prog.cellsOf 26 = 1 := by kernel_rfl
theorem nums_of1 {H : Type} {enc : TypeId × Value → H} {W : World} {fuel : Nat} {v : Value} {x : DataW H × List MemPlace}
    (h : DataW.trod enc Tryz.prog W 0 (fun _ => true) true fuel 26 [v] = some x) (hw : ∀ n ∈ x.1.weights Tryz.prog 26, n ≤ reachBytes) : ∃ a len cap r, v = .slice a len cap ∧ IsNums W a len cap r := by
  rcases Deep.open_slice Tryz.underlying26 h with ⟨hcs, _⟩ | ⟨p, l, c, m, n, D, Pl, hcs, _⟩
  · simp at hcs
    subst hcs
    obtain ⟨r, hr⟩ := nums_of h hw
    exact ⟨_, _, _, r, rfl, hr⟩
  · simp at hcs
    subst hcs
    obtain ⟨r, hr⟩ := nums_of h hw
    exact ⟨_, _, _, r, rfl, hr⟩
theorem weights_mem_allD {H : Type} {P : Program} {e : TypeId} : ∀ {ds : List (DataW H)} {d : DataW H}, d ∈ ds → ∀ n ∈ d.weights P e, n ∈ DataW.weightsAll P e ds
  | d0 :: ds, d, hd, n, hn => by
    simp only [DataW.weightsAll, List.mem_append]
    rcases List.mem_cons.1 hd with rfl | q
    · exact .inl hn
    · exact .inr (weights_mem_allD q n hn)
set_option maxRecDepth 100000 in
theorem askD_cells {H : Type} {enc : TypeId × Value → H} {W : World} {n : Nat} {cs : List Value} {x : DataW H × List MemPlace}
    (h : DataW.trod enc Tryz.prog W 0 (fun _ => true) true n 28 cs = some x) (hw : ∀ n ∈ x.1.weights Tryz.prog 28, n ≤ reachBytes) :
    ∃ r : AskD, cs = r.cells ∧ AskF W r := by
  obtain ⟨xs, m, _, rfl, hl, hlen, hf⟩ := DataW.trod_struct Tryz.underlying28 h
  rw [cellsAskD] at hl
  match cs, hl with
  | [v0, v1, v2, v3, v4, v5, v6, v7, v8, v9], _ =>
    match xs, hlen with
    | [y0, y1, y2, y3, y4, y5], _ =>
      have f0 : DataW.trod enc Tryz.prog W 0 (fun _ => true) true m 3 (([v0, v1, v2, v3, v4, v5, v6, v7, v8, v9].drop 0).take (Tryz.prog.cellsOf 3)) = some y0 := hf 0 _ rfl
      have f1 : DataW.trod enc Tryz.prog W 0 (fun _ => true) true m 3 (([v0, v1, v2, v3, v4, v5, v6, v7, v8, v9].drop 1).take (Tryz.prog.cellsOf 3)) = some y1 := hf 1 _ rfl
      have f2 : DataW.trod enc Tryz.prog W 0 (fun _ => true) true m 25 (([v0, v1, v2, v3, v4, v5, v6, v7, v8, v9].drop 2).take (Tryz.prog.cellsOf 25)) = some y2 := hf 2 _ rfl
      have f3 : DataW.trod enc Tryz.prog W 0 (fun _ => true) true m 25 (([v0, v1, v2, v3, v4, v5, v6, v7, v8, v9].drop 5).take (Tryz.prog.cellsOf 25)) = some y3 := hf 3 _ rfl
      have f4 : DataW.trod enc Tryz.prog W 0 (fun _ => true) true m 26 (([v0, v1, v2, v3, v4, v5, v6, v7, v8, v9].drop 8).take (Tryz.prog.cellsOf 26)) = some y4 := hf 4 _ rfl
      have f5 : DataW.trod enc Tryz.prog W 0 (fun _ => true) true m 26 (([v0, v1, v2, v3, v4, v5, v6, v7, v8, v9].drop 9).take (Tryz.prog.cellsOf 26)) = some y5 := hf 5 _ rfl
      rw [cellsI1] at f0 f1
      rw [cellsNum] at f2 f3
      rw [cellsNs1] at f4 f5
      simp only [List.drop_zero, List.drop_succ_cons, List.take_succ_cons, List.take_zero] at f0 f1 f2 f3 f4 f5
      have hw' : ∀ n ∈ DataW.weightsEach Tryz.prog [3, 3, 25, 25, 26, 26] [y0.1, y1.1, y2.1, y3.1, y4.1, y5.1], n ≤ reachBytes := fun n hn => hw n (by
        simp only [DataW.weights, Tryz.underlying28]
        exact hn)
      obtain ⟨k0, e0, _, w0⟩ := DataW.trod_int Tryz.underlying3 f0
      obtain ⟨k1, e1, _, w1⟩ := DataW.trod_int Tryz.underlying3 f1
      obtain ⟨x2, e2, r2, s2⟩ := num_cells f2
      obtain ⟨x3, e3, r3, s3⟩ := num_cells f3
      obtain ⟨a4, l4, c4, z4, e4, q4⟩ := nums_of1 f4 fun n hn => hw' n (DataW.weights_mem_each (j := 4) rfl rfl n hn)
      obtain ⟨a5, l5, c5, z5, e5, q5⟩ := nums_of1 f5 fun n hn => hw' n (DataW.weights_mem_each (j := 5) rfl rfl n hn)
      simp only [List.cons.injEq, and_true] at e0 e1 e2 e3
      obtain ⟨rfl, rfl, rfl⟩ := e2
      obtain ⟨rfl, rfl, rfl⟩ := e3
      subst e0 e1 e4 e5
      exact ⟨⟨k0, k1, x2, x3, a4, l4, c4, z4, a5, l5, c5, z5⟩, rfl, ⟨rng_of w0, rng_of w1, r2, s2, r3, s3, q4, q5⟩⟩
set_option maxRecDepth 100000 in
theorem askDs_of {H : Type} {enc : TypeId × Value → H} {W : World} {fuel : Nat} {a : Option Addr} {len cap : Nat} {x : DataW H × List MemPlace}
    (h : DataW.trod enc Tryz.prog W 0 (fun _ => true) true fuel 22 [.slice a len cap] = some x) (hw : ∀ n ∈ x.1.weights Tryz.prog 22, n ≤ reachBytes) : ∃ r, IsAskDs W a len cap r := by
  have dflt : AskD := ⟨0, 0, default, default, none, 0, 0, fun _ => default, none, 0, 0, fun _ => default⟩
  rcases Deep.open_slice Tryz.underlying22 h with ⟨hcs, _⟩ | ⟨p, l, c, m, n, D, Pl, hcs, _, hl, hm, hmm, hx, hel⟩
  · simp at hcs
    obtain ⟨rfl, rfl, rfl⟩ := hcs
    exact ⟨fun _ => dflt, .inl rfl⟩
  · simp at hcs
    obtain ⟨rfl, rfl, rfl⟩ := hcs
    simp only [if_true] at hmm
    subst hmm
    by_cases h0 : len = 0
    · exact ⟨fun _ => dflt, .inl h0⟩
    have each : ∀ i, i < len → ∃ r : AskD, W.cells? 0 (p.add (i * 10)) 10 = some r.cells ∧ AskF W r := by
      intro i hi
      obtain ⟨cs', h1, h2⟩ := hel i (by omega)
      rw [cellsAskD] at h1
      obtain ⟨r, rfl, hr⟩ := askD_cells h2 (fun n hn => hw n (by
        rw [hx]
        simp only [DataW.weights, Tryz.underlying22]
        refine List.mem_cons.2 (.inr (List.mem_append.2 (.inl ?_)))
        exact weights_mem_allD (List.mem_map.2 ⟨i, List.mem_range.2 hi, rfl⟩) n hn))
      exact ⟨r, h1, hr⟩
    have each' : ∀ i, i < len → ∃ r : AskD, (W.cells? 0 (p.add (i * 10)) 10 = some r.cells ∧ AskF W r) := each
    have : Inhabited AskD := ⟨dflt⟩
    obtain ⟨q, hq⟩ := Deep.choose_lt each'
    have cell : ∀ i j, i < len → j < 10 → W.cell? ((p.add (i * 10)).add j) = (q i).cells[j]? := by
      intro i j hi hj
      exact (World.cells?_some (hq i hi).1).2.2 j hj
    obtain ⟨b, off, spot⟩ := p
    have h2 : W.cell? ⟨b, off, spot⟩ = some (.int .i64 (q 0).k) := by simpa [Addr.add, AskD.cells] using cell 0 0 (by omega) (by omega)
    have hspot : spot = none := World.cell?_spot h2
    subst hspot
    refine ⟨q, .inr ⟨b, off, rfl, hl, by unfold maxLen at hm; exact hm, World.block_lt_of_cell? W _ h2, fun i hi => ⟨fun j hj => ?_, (hq i hi).2⟩⟩⟩
    have x0 := cell i j hi hj
    rwa [add_none, add_none] at x0
end Go.Proofs.YtnhkagiionkjaaaGreatDoor
