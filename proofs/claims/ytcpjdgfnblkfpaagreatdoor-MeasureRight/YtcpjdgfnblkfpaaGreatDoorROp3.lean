/-
  Package round: operations on binary64 in the ways other than Near, by their contracts.
-/
import Derived.Test.YtcpjdgfnblkfpaaGreatDoorROp2
namespace Go.Proofs.YtcpjdgfnblkfpaaGreatDoor
open Go Go.RowKit Go.Proofs.YtcpjdgfnblkfpaaGreatDoor.M
set_option linter.unusedSimpArgs false
set_option linter.unusedVariables false

theorem operate_fin (way : Int) (hw : 1 ≤ way ∧ way ≤ 3) (near : Int) (Rf : Nat) (rc : Array Value) (g n : Nat) (hn : n ≤ 100) (d : Nat → Int) (w : World) (hR : Row w (some ⟨g, 0, none⟩) n n d) (hp : ∀ i, i < n → pok (d i) = true) (H : Hold4 w) (ng : Bool) (mag : Nat) (exp : Int) (cut sd : Bool) (hm : mag < 18446744073709551616) (he : -4500000 ≤ exp ∧ exp ≤ 4500000)
    (hER : ∀ (cap : Array Value) (w : World), (callFunc Rf cap).run Tryz.prog w = .ok (.enter Rf cap) w)
    (CR : ∀ W g q, Below w.heap.size w W → Nums W (some ⟨g, 0, none⟩) n n q → (∀ i, i < n → Nrm (q i).d (q i).n ∧ Dy (patV (d i)) (q i).ng (val (q i).d (q i).n) (q i).e) → Calls Tryz.prog Rf (#[.slice (some ⟨g, 0, none⟩) n n] ++ rc) W fun e w' => e = .returned (.tuple #[valV ng mag exp cut sd, .int .i64 0]) ∧ Below W.heap.size W w') :
    Calls Tryz.prog 152 #[.agg #[.func (.func 62) #[] #[], .func (.func 154) #[] #[]], .int .i64 near, .int .i64 way, .func (.func Rf) #[] rc, .slice (some ⟨g, 0, none⟩) n n] w fun e w' => e = .returned (.tuple #[.int .i64 (opT 0 mag sd (r64 way ng true mag exp cut).1 near), .int .i64 0]) ∧ Below w.heap.size w w' := by
  have hEF : ∀ (cap : Array Value) (w : World), (callFunc 62 cap).run Tryz.prog w = .ok (.enter 62 cap) w := by
    intro cap w
    simp [go_sem]
  have hEG : ∀ (cap : Array Value) (w : World), (callFunc 154 cap).run Tryz.prog w = .ok (.enter 154 cap) w := by
    intro cap w
    simp [go_sem]
  exact operate_go way hw near _ _ Rf rc _ n n w (fun i => patV (d i)) ng mag exp cut sd 0 _ _ hEG hER
    (fun W hb => (values_ok _ _ _ n n d _ W (hR.keeps hb) (by omega) hEF (fun i hi W' hb' => of_ok (hp i hi) ((H.keeps hb).keeps hb'))).mono fun r w' h => by
      obtain ⟨g, q, e1, e2, e3, e4, e5⟩ := h
      exact ⟨g, q, e1, e2, e3, e4, e5⟩)
    CR (fun W hb => binary64_any way (by omega) ng true mag exp cut W (H.keeps hb).env hm he)
theorem operate_inf (way : Int) (hw : 1 ≤ way ∧ way ≤ 3) (near : Int) (Rf : Nat) (rc : Array Value) (g n : Nat) (hn : n ≤ 100) (d : Nat → Int) (w : World) (hR : Row w (some ⟨g, 0, none⟩) n n d) (K : Nat) (hK : K < n) (hp : ∀ i, i < K → pok (d i) = true) (hq : pok (d K) = false) (H : Hold4 w) :
    Calls Tryz.prog 152 #[.agg #[.func (.func 62) #[] #[], .func (.func 154) #[] #[]], .int .i64 near, .int .i64 way, .func (.func Rf) #[] rc, .slice (some ⟨g, 0, none⟩) n n] w fun e w' => e = .returned (.tuple #[.int .i64 near, .int .i64 0]) ∧ Below w.heap.size w w' := by
  have hEF : ∀ (cap : Array Value) (w : World), (callFunc 62 cap).run Tryz.prog w = .ok (.enter 62 cap) w := by
    intro cap w
    simp [go_sem]
  exact operate_not way hw near _ _ Rf rc _ n n w (fun W hb => values_no _ _ _ n n d (fun i => patV (d i)) W (hR.keeps hb) (by omega) K hK hEF (fun i hi W' hb' => of_ok (hp i hi) ((H.keeps hb).keeps hb')) (fun W' hb' => of_no hq ((H.keeps hb).keeps hb')))
end Go.Proofs.YtcpjdgfnblkfpaaGreatDoor
