/-
  Package plumbref3: Sub, Cmp, by contracts.
-/
import Derived.Test.YtcpjdgfnblkfpaaGreatDoorDRef9
import Derived.Test.YtcpjdgfnblkfpaaGreatDoorDCmp
import Derived.Test.YtcpjdgfnblkfpaaGreatDoorDIs
namespace Go.Proofs.YtcpjdgfnblkfpaaGreatDoor
open Go Go.RowKit Go.Proofs.YtcpjdgfnblkfpaaGreatDoor.M
set_option linter.unusedSimpArgs false
set_option linter.unusedVariables false

theorem opp_V {x : NumR} (ok : okR x = true) : x.opp.V = -x.V ∧ Dy x.opp.V x.opp.ng (val x.opp.d x.opp.n) x.opp.e := by
  have hy := (okR_dy ok).1
  have hN := (okR_sane ok).1
  by_cases h0 : x.n = 0
  · have hv : val x.d x.n = 0 := by rw [h0]; rfl
    have e : x.opp = x := by unfold NumR.opp; rw [if_pos h0]
    rw [e]
    have := hy.eq_zero.2 hv
    exact ⟨by omega, hy⟩
  · have hp := val_pos hN (show 0 < x.n by omega)
    have e : x.opp = ⟨!x.ng, x.ao, x.n, x.cap, x.d, x.e⟩ := by unfold NumR.opp; rw [if_neg h0]
    rw [e]
    have h1 := hy.neg hp
    have hV : NumR.V ⟨!x.ng, x.ao, x.n, x.cap, x.d, x.e⟩ = -x.V := h1.val.symm
    rw [hV]
    exact ⟨rfl, h1⟩
theorem RSum.shape {w w' : World} {A B : Int} {x y : NumR} {v : Value} (h : RSum w w' A B x.v y.v v) : ∃ ng so sn sc e, v = .agg #[.bool ng, .slice so sn sc, .int .i64 e] := by
  rcases h.2 with ⟨ng, s, m, e, rfl, _, hA⟩ | ⟨_, rfl⟩ | ⟨_, rfl⟩
  · obtain ⟨so, sn, sc, rfl⟩ := hA.num.shape
    exact ⟨_, _, _, _, _, rfl⟩
  · exact ⟨_, _, _, _, _, rfl⟩
  · exact ⟨_, _, _, _, _, rfl⟩
theorem rsum_res {w W w3 : World} {A B : Int} {x y v : Value} (hv : RSum W w3 A B x y v) (hb : Below w.heap.size w W) {g : Nat} (h0 : w.heap.size ≤ g) (h1 : g < W.heap.size) (a b c : Value) :
    RSum w (((w3.setCell ⟨g, 0, none⟩ a).setCell ⟨g, 1, none⟩ b).setCell ⟨g, 2, none⟩ c) A B x y v := by
  refine ⟨bel_set3 (bel_trans hb hv.1) h0 _ _ _, ?_⟩
  rcases hv.2 with h | h | h
  · exact .inl (dans_res3 h hb h0 h1 a b c)
  · exact .inr (.inl h)
  · exact .inr (.inr h)
theorem sgn_ord {w : World} {ng : Bool} {so : Option Addr} {sn sc : Nat} {e V : Int} (h : DNum w (.agg #[.bool ng, .slice so sn sc, .int .i64 e]) V) : sgn ng sn = ord V 0 ∧ sn ≤ 9223372036854775807 := by
  obtain ⟨ng', s, m, e', h1, hy, ao, n, cap, d, rfl, hR, hN, rfl⟩ := h
  simp only [Value.agg.injEq, Array.mk.injEq, List.cons.injEq, Value.bool.injEq, Value.int.injEq, Value.slice.injEq, and_true, true_and] at h1
  obtain ⟨rfl, ⟨rfl, rfl, rfl⟩, rfl⟩ := h1
  refine ⟨?_, by have := hR.le; have := hR.max; omega⟩
  by_cases h0 : sn = 0
  · have := hy.eq_zero.2 (by rw [h0]; rfl)
    rw [this, ord_eq rfl]
    simp [sgn, h0]
  · have hp := val_pos hN (show 0 < sn by omega)
    cases ng
    · have hn : ¬ V < 0 := fun h => by have := hy.neg_iff.2 h; simp at this
      have hz : V ≠ 0 := fun h => by have := hy.eq_zero.1 h; omega
      rw [ord_gt (by omega)]
      simp [sgn, h0]
    · have hn := hy.neg_iff.1 rfl
      rw [ord_lt hn]
      simp [sgn, h0]
end Go.Proofs.YtcpjdgfnblkfpaaGreatDoor
