/-
  Package expansion: own in general, gather, grown, sum, by their contracts.
-/
import Derived.Test.YtcpjdgfnblkfpaaGreatDoorX5
namespace Go.Proofs.YtcpjdgfnblkfpaaGreatDoor
open Go Go.RowKit Go.Proofs.YtcpjdgfnblkfpaaGreatDoor.M
set_option linter.unusedSimpArgs false
set_option linter.unusedVariables false

theorem run_app00 (ad ad2 : Addr) (c : Nat) (ty : TypeId) (w : World) : (Builtin.append_ #[35, 35] ty #[.slice (some ad) 0 0, .slice (some ad2) 0 c]).run Tryz.prog w = .ok (.slice (some ad) 0 0) w := by
  obtain ⟨i0, hi, hz0, hz1, hz2⟩ := info_parts info_int
  have hf := run_firstCells_some (P := Tryz.prog) w i0.size 0 ad2 0 c [] (by simp) (by intro j u hu; simp at hu)
  simp [Builtin.append_, run_underlying Tryz.underlying35, sizeOf, typeInfo, hi, Builtin.lenOf, hf, storeCells]
set_option maxRecDepth 100000 in
theorem xown_nil (w : World) : Calls Tryz.prog 83 #[.slice none 0 0] w fun e w' => e = .returned (.slice none 0 0) ∧ w' = w := by
  obtain ⟨i0, hi, hz0, hz1, hz2⟩ := info_parts info_int
  go_enter Tryz.func83, Tryz.ntmps83
  go_wp2_with (at_builtin; refine wpList_append_own_none rfl _ _ 35 rfl w.heap.size 3 i0 1 Tryz.underlying35 hi (.slice none 0 0) 0 [] rfl (World.ownsRow_nil _ _ _ _) rfl ?_)
  go_ret
  exact ⟨rfl, rfl⟩
set_option maxRecDepth 100000 in
theorem xown_zero (ad : Addr) (cap : Nat) (hm : cap ≤ 9223372036854775807) (w : World) : Calls Tryz.prog 83 #[.slice (some ad) 0 cap] w fun e w' => (∃ ad', e = .returned (.slice (some ad') 0 0)) ∧ w' = w := by
  have h0 := run_app00
  go_enter Tryz.func83, Tryz.ntmps83
  go_wp2
  all_goals go_ret
  all_goals exact ⟨⟨_, rfl⟩, rfl⟩
end Go.Proofs.YtcpjdgfnblkfpaaGreatDoor
