/-
  Package expansion: Grow, Scale, Sum, by their contracts.
-/
import Derived.Test.YtcpjdgfnblkfpaaGreatDoorXH
namespace Go.Proofs.YtcpjdgfnblkfpaaGreatDoor
open Go Go.RowKit Go.Proofs.YtcpjdgfnblkfpaaGreatDoor.M
set_option linter.unusedSimpArgs false
set_option linter.unusedVariables false

set_option maxRecDepth 100000 in
theorem xSum {eo fo : Option Addr} {n ec m fc : Nat} {d f : Nat → Int} (w : World) (h : Row w eo n ec d) (hf : Row w fo m fc f) (hr : ∀ i, i < n → rng (d i)) (hrf : ∀ i, i < m → rng (f i)) (hv : xval d n = true) (hu : xval f m = true) (hn : n + m ≤ 300000) (H : Hold4 w) :
    Calls Tryz.prog 32 #[.slice eo n ec, .slice fo m fc] w fun r w' => XA w (gaX ⟨n, d⟩ f m) (gaS ⟨n, d⟩ f m) r w' := by
  have hEG : ∀ (cap : Array Value) (w : World), (callFunc 54 cap).run Tryz.prog w = .ok (.enter 54 cap) w := by
    intro cap w
    simp [go_sem]
  have hd : ∀ i, i < n → rng (d i) ∧ pok (d i) = true := fun i hi => ⟨hr i hi, xval_fin hv i hi⟩
  have hff : ∀ i, i < m → rng (f i) ∧ pok (f i) = true := fun i hi => ⟨hrf i hi, xval_fin hu i hi⟩
  have CW := xwl_ok 54 w (gaX ⟨n, d⟩ f m) (gaS ⟨n, d⟩ f m) hEG h hf hv hu H (fun W hW => xsum_any W (h.keeps hW) (hf.keeps hW) hd hff (by omega))
  generalize gaX ⟨n, d⟩ f m = X at *
  generalize gaS ⟨n, d⟩ f m = S at *
  go_enter Tryz.func32, Tryz.ntmps32
  go_wp2_with fail
  refine CW.mono ?_
  rintro _ w1 ⟨(⟨h1, v, rfl, h2⟩ | ⟨h1, rfl⟩), hb⟩
  · obtain ⟨ao, cc, rfl⟩ := h2.shape
    go_wp2
    refine bodyPost_ret (v := .tuple #[.slice ao S.n cc, .int .i64 0]) (by simp [results, Tryz.results32, go_sem]) rfl ⟨.inl ⟨h1, _, rfl, h2⟩, hb⟩
  · go_wp2
    refine bodyPost_ret (v := .tuple #[.slice none 0 0, .int .i64 14]) (by simp [results, Tryz.results32, go_sem]) rfl ⟨.inr ⟨h1, rfl⟩, hb⟩
set_option maxRecDepth 100000 in
theorem xSum_bad {eo fo : Option Addr} {n ec m fc : Nat} {d f : Nat → Int} (w : World) (h : Row w eo n ec d) (hf : Row w fo m fc f) (hv : xval d n = false) (H : Hold4 w) :
    Calls Tryz.prog 32 #[.slice eo n ec, .slice fo m fc] w fun r w' => r = .returned (.tuple #[.slice none 0 0, .int .i64 1]) ∧ Below w.heap.size w w' := by
  have CW := xwl_bad 54 w h hf hv H
  go_enter Tryz.func32, Tryz.ntmps32
  go_wp2_with fail
  refine CW.mono ?_
  rintro _ w1 ⟨rfl, hb⟩
  go_wp2
  refine bodyPost_ret (v := .tuple #[.slice none 0 0, .int .i64 1]) (by simp [results, Tryz.results32, go_sem]) rfl ⟨rfl, hb⟩
end Go.Proofs.YtcpjdgfnblkfpaaGreatDoor
