/-
  Package span: product of any two ends, by its contract.
-/
import Derived.Test.YtcpjdgfnblkfpaaGreatDoorSPr2
import Derived.Test.YtcpjdgfnblkfpaaGreatDoorSPt4
namespace Go.Proofs.YtcpjdgfnblkfpaaGreatDoor
open Go Go.RowKit Go.Proofs.YtcpjdgfnblkfpaaGreatDoor.M
set_option linter.unusedSimpArgs false
set_option linter.unusedVariables false

theorem mulP_dir {p q way : Int} (rp : rng p) (rq : rng q) (hp : pok p = true) (hq : pok q = true) (h : prV p q ≠ 0) (hw : way ≠ 0) : mulP way p q = rdP way (prV p q) := by
  unfold mulP
  have n1 : ¬ (way = 0 ∨ (pok p && pok q) = false) := fun k => by
    rcases k with k | k
    · exact hw k
    · rw [hp, hq] at k; cases k
  rw [if_neg n1, if_pos h]
theorem prLo_nn {p q : Int} (hp : nn p) (hq : nn q) : nn (prLo p q) ∧ nn (prHi p q) := by
  unfold prLo prHi
  by_cases h0 : rg p = 0 ∨ rg q = 0
  · rw [if_pos h0, if_pos h0]; exact ⟨nn0.1, nn0.1⟩
  · rw [if_neg h0, if_neg h0]
    by_cases hi : rg p = 9218868437227405312 ∨ rg q = 9218868437227405312
    · rw [if_pos hi, if_pos hi]; exact ⟨patS_nn (by decide) (by decide), patS_nn (by decide) (by decide)⟩
    · rw [if_neg hi, if_neg hi]
      have pp := rg_pat0 hp (fun k => hi (.inl k))
      have pq := rg_pat0 hq (fun k => hi (.inr k))
      have hz := prV_nz hp.1 hq.1 pp pq (fun k => h0 (.inl k)) (fun k => h0 (.inr k))
      exact ⟨⟨(rdP_pat 1 hz).1, (rdP_pat 1 hz).2⟩, ⟨(rdP_pat 2 hz).1, (rdP_pat 2 hz).2⟩⟩
theorem spProduct {p q : Int} (hp : nn p) (hq : nn q) (w : World) (H : Hold4 w) :
    Calls Tryz.prog 92 #[.float .f64 (wd p), .float .f64 (wd q)] w fun e w' => e = .returned (ivl (prLo p q) (prHi p q)) ∧ Below w.heap.size w w' := by
  by_cases h0 : rg p = 0 ∨ rg q = 0
  · have e1 : prLo p q = 0 := by unfold prLo; rw [if_pos h0]
    have e2 : prHi p q = 0 := by unfold prHi; rw [if_pos h0]
    rw [e1, e2]
    exact product_zero hp hq h0 w
  · have p0 : rg p ≠ 0 := fun k => h0 (.inl k)
    have q0 : rg q ≠ 0 := fun k => h0 (.inr k)
    by_cases hi : rg p = 9218868437227405312 ∨ rg q = 9218868437227405312
    · obtain ⟨f1, f2⟩ := pr_infE hp hq p0 q0 hi
      have hn : nn (fprod p q) := by rw [f1]; exact patS_nn (by decide) (by decide)
      have hd : 283726776524341248 ≤ rg (fprod p q) := by rw [f1, (patS_parts (by decide) (by decide)).2.1]; decide
      have := product_be hp hq p0 q0 hn hd w
      rw [f2, f1] at this
      have e1 : prLo p q = patS (xsg p q) 9218868437227405312 := by unfold prLo; rw [if_neg h0, if_pos hi]
      have e2 : prHi p q = patS (xsg p q) 9218868437227405312 := by unfold prHi; rw [if_neg h0, if_pos hi]
      have b1 : beLo (patS (xsg p q) 9218868437227405312) 9221120237041090561 = patS (xsg p q) 9218868437227405312 := by unfold beLo; rw [show less 9221120237041090561 0 = false by decide]; rfl
      have b2 : beHi (patS (xsg p q) 9218868437227405312) 9221120237041090561 = patS (xsg p q) 9218868437227405312 := by unfold beHi; rw [show less 9221120237041090561 0 = false by decide, show less 0 9221120237041090561 = false by decide]; rfl
      rw [b1, b2] at this
      rw [e1, e2]
      exact this
    · have pp := rg_pat0 hp (fun k => hi (.inl k))
      have pq := rg_pat0 hq (fun k => hi (.inr k))
      have hz := prV_nz hp.1 hq.1 pp pq p0 q0
      have e1 : prLo p q = rdP 1 (prV p q) := by unfold prLo; rw [if_neg h0, if_neg hi]
      have e2 : prHi p q = rdP 2 (prV p q) := by unfold prHi; rw [if_neg h0, if_neg hi]
      have hN := fprod_fin hp.1 hq.1 pp pq hz
      have hn : nn (fprod p q) := by rw [hN]; exact ⟨(nearP_pat hz).1, (nearP_pat hz).2⟩
      rw [e1, e2]
      by_cases hd : rg (fprod p q) < 283726776524341248
      · have := product_deep hp hq p0 q0 hn hd w H
        rwa [mulP_dir hp.1 hq.1 pp pq hz (by decide), mulP_dir hp.1 hq.1 pp pq hz (by decide)] at this
      · have := product_be hp hq p0 q0 hn (by omega) w
        obtain ⟨b1, b2⟩ := pr_fin hp.1 hq.1 pp pq p0 q0 (by omega)
        rwa [b1, b2] at this
end Go.Proofs.YtcpjdgfnblkfpaaGreatDoor
