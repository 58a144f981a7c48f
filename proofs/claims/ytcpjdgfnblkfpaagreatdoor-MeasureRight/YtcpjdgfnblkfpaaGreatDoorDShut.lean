/-
  What a row gives: a number that came in, as the walks want it; the library's table and the layout of binary64.
-/
import Derived.Test.YtcpjdgfnblkfpaaGreatDoorDBits
import Derived.Test.YtcpjdgfnblkfpaaGreatDoorNShut
import Derived.Test.YtcpjdgfnblkfpaaGreatDoorNLaid
import Derived.Test.YtcpjdgfnblkfpaaGreatDoorLaid
namespace Go.Proofs.YtcpjdgfnblkfpaaGreatDoor
open Go Go.ChangeShapes Go.WideShapes Go.ChangeAt Go.RowKit Go.Proofs.YtcpjdgfnblkfpaaGreatDoor.M
set_option linter.unusedSimpArgs false
set_option linter.unusedVariables false

theorem cellsNum : Tryz.prog.cellsOf 37 = 3 := by kernel_rfl
theorem cellsB1 : Tryz.prog.cellsOf 4 = 1 := by kernel_rfl
theorem cellsS1 : Tryz.prog.cellsOf 35 = 1 := by kernel_rfl
theorem cellsI1 : Tryz.prog.cellsOf 3 = 1 := by kernel_rfl
set_option maxRecDepth 100000 in
/-- A number's cells, off its reading. -/
theorem num_cells {H : Type} {enc : TypeId × Value → H} {W : World} {n : Nat} {cs : List Value} {x : DataW H × List MemPlace}
    (h : DataW.trod enc Tryz.prog W 0 (fun _ => true) true n 37 cs = some x) :
    ∃ r : NumR, cs = [.bool r.ng, .slice r.ao r.n r.cap, .int .i64 r.e] ∧ Row W r.ao r.n r.cap r.d ∧ rng r.e := by
  obtain ⟨xs, m, _, rfl, hl, hlen, hf⟩ := DataW.trod_struct Tryz.underlying37 h
  rw [cellsNum] at hl
  match cs, hl with
  | [v0, v1, v2], _ =>
    match xs, hlen with
    | [y0, y1, y2], _ =>
      have f0 : DataW.trod enc Tryz.prog W 0 (fun _ => true) true m 4 (([v0, v1, v2].drop 0).take (Tryz.prog.cellsOf 4)) = some y0 := hf 0 _ rfl
      have f1 : DataW.trod enc Tryz.prog W 0 (fun _ => true) true m 35 (([v0, v1, v2].drop 1).take (Tryz.prog.cellsOf 35)) = some y1 := hf 1 _ rfl
      have f2 : DataW.trod enc Tryz.prog W 0 (fun _ => true) true m 3 (([v0, v1, v2].drop 2).take (Tryz.prog.cellsOf 3)) = some y2 := hf 2 _ rfl
      rw [cellsB1] at f0
      rw [cellsS1] at f1
      rw [cellsI1] at f2
      simp only [List.drop_zero, List.drop_succ_cons, List.take_succ_cons, List.take_zero] at f0 f1 f2
      obtain ⟨k0, e0, _, w0⟩ := DataW.trod_bool Tryz.underlying4 f0
      obtain ⟨k2, e2, _, w2⟩ := DataW.trod_int Tryz.underlying3 f2
      simp at e0 e2
      subst e0 e2
      rcases open_ints Tryz.underlying35 Tryz.underlying3 (by kernel_rfl) f1 with ⟨hcs, _⟩ | ⟨p, l, c, zs, hcs, _, hl', hm', hz, hx, hcell, hwz⟩
      · simp at hcs
        subst hcs
        exact ⟨⟨k0, none, 0, 0, fun _ => 0, k2⟩, rfl, Row.nil _ _, rng_of w2⟩
      · simp at hcs
        subst hcs
        obtain ⟨z, hR, _⟩ := row_of (enc := enc) (W := W) (a := some p) (len := l) (cap := c) (d := y1.1) (p := y1.2) ⟨m, by simpa [Value.cells] using f1⟩
        exact ⟨⟨k0, some p, l, c, z, k2⟩, rfl, hR, rng_of w2⟩
set_option maxRecDepth 100000 in
theorem num_of {H : Type} {enc : TypeId × Value → H} {W : World} {base : Nat} {v : Value} {d : DataW H} {p : List MemPlace} (hv : Value.okWide Tryz.prog W .any base 37 v)
    (h : DataW.Trod enc Tryz.prog W 0 (fun _ => true) true 37 v d p) : ∃ x : NumR, v = x.v ∧ Row W x.ao x.n x.cap x.d ∧ rng x.e := by
  obtain ⟨cs, rfl, hc⟩ := okWide_struct Tryz.underlying37 hv
  obtain ⟨fuel, hf⟩ := h
  obtain ⟨r, hr, h1, h2⟩ := num_cells hf
  refine ⟨r, ?_, h1, h2⟩
  show Value.agg cs = .agg #[.bool r.ng, .slice r.ao r.n r.cap, .int .i64 r.e]
  congr 1
  have : cs.toList = [.bool r.ng, .slice r.ao r.n r.cap, .int .i64 r.e] := by simpa [Value.cells] using hr
  exact Array.toList_inj.1 this
/-- What the laws want of the package's variables. -/
structure Hold (w : World) : Prop where
  lay : Lay64 w
  tab : Tab w
theorem Hold.keeps {w w' : World} (h : Hold w) (hb : Below w.heap.size w w') : Hold w' := ⟨h.lay.keeps hb, h.tab.keeps hb⟩
theorem hold_of {W : World} (h : laidMetH Tryz.prog [("math/bits.deBruijn32tab", Rows.laid_math_bits_deBruijn32tab), ("math/bits.deBruijn64tab", Rows.laid_math_bits_deBruijn64tab), ("plumb/bits.binary64", Rows.laid_plumb_bits_binary64)] W) : Hold W := by
  rw [MakeChecks.laidMetH_plain _ _ _ (by kernel_rfl)] at h
  have h' : laidMet Tryz.prog (("math/bits.deBruijn64tab", Lib.tabData .u8 tabInts) :: [("plumb/bits.binary64", Rows.laid_plumb_bits_binary64)]) W := h.tail
  have t := Lib.tabIs_of_head gTab gTabType Tryz.underlying159 Tryz.underlying5 cellsByte cellsTab h'
  obtain ⟨a0, a1, a2⟩ := three g64 g64Type h'.tail
  refine ⟨⟨a0, a1, a2⟩, fun j hj => ?_⟩
  rw [← tab_get j hj]
  exact t.cell gTab j (by exact hj)
end Go.Proofs.YtcpjdgfnblkfpaaGreatDoor
