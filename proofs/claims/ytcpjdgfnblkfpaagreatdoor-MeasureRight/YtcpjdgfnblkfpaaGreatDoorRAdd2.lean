/-
  Package round: sums in all ways, by their contract.
-/
import Derived.Test.YtcpjdgfnblkfpaaGreatDoorROp3
import Derived.Test.YtcpjdgfnblkfpaaGreatDoorRAdd1
import Derived.Test.YtcpjdgfnblkfpaaGreatDoorRFus2
namespace Go.Proofs.YtcpjdgfnblkfpaaGreatDoor
open Go Go.RowKit Go.Proofs.YtcpjdgfnblkfpaaGreatDoor.M
set_option linter.unusedSimpArgs false
set_option linter.unusedVariables false

def addF (way near a b : Int) : Int := if patV a + patV b ≠ 0 then rdP way (patV a + patV b) else if way = 1 ∧ ¬ (a = 0 ∧ b = 0) then -9223372036854775808 else near
theorem rowT {w : World} {g : Nat} {a b : Int} (h : w.heap[g]? = some (.cells #[.int .i64 a, .int .i64 b] 3 (0, 0))) : Row w (some ⟨g, 0, none⟩) 2 2 (fun i => if i = 0 then a else b) :=
  ⟨Nat.le_refl _, by decide, (fun h => nomatch h), fun _ => ⟨g, 0, rfl, (Array.getElem?_eq_some_iff.1 h).1, fun i hi => by
    match i, hi with
    | 0, _ => exact blkC h 0 rfl
    | 1, _ => exact blkC h 1 rfl⟩⟩
theorem r64_m0 : (r64 1 true true 0 0 false).1 = -9223372036854775808 := by decide +kernel
theorem mag_pos {m : Int} (h : 0 < m) : (m / 2 ^ vK m).toNat ≠ 0 := by
  have hb := blen_pos h
  have hp := two_pos (vK m)
  have h1 : 2 ^ vK m ≤ m := Int.le_trans (two_le (by unfold vK; omega)) hb.2
  have h2 : 1 ≤ m / 2 ^ vK m := by rw [Int.le_ediv_iff_mul_le hp, Int.one_mul]; exact h1
  omega
theorem mag_lt {m : Int} (h : 0 ≤ m) : (m / 2 ^ vK m).toNat < 18446744073709551616 := by
  have := vK_small h
  omega
theorem exp_in {V : Int} {ng : Bool} {m e : Int} (hy : Dy V ng m e) (ok : Dok V) : -4500000 ≤ e + vK m ∧ e + vK m ≤ 4500000 := by
  obtain ⟨h1, h2, h3⟩ := hy.ok.1 ok
  have h4 : blen m ≤ 30 * 2000 := blen_le (by rw [← P_two]; exact h1)
  unfold vK
  omega
theorem opAdd_inf (way : Int) (hw : 1 ≤ way ∧ way ≤ 3) (near a b : Int) (Rf : Nat) (rc : Array Value) (hp : (pok a && pok b) = false) (w : World) (go : Nat) (ko : w.heap[go]? = some (.cells #[.int .i64 a, .int .i64 b] 3 (0, 0))) (H : Hold4 w) :
    Calls Tryz.prog 152 #[.agg #[.func (.func 62) #[] #[], .func (.func 154) #[] #[]], .int .i64 near, .int .i64 way, .func (.func Rf) #[] rc, .slice (some ⟨go, 0, none⟩) 2 2] w fun e w' => e = .returned (.tuple #[.int .i64 near, .int .i64 0]) ∧ Below w.heap.size w w' := by
  cases h1 : pok a
  · exact operate_inf way hw near Rf rc go 2 (by decide) (fun i => if i = 0 then a else b) w (rowT ko) 0 (by decide) (fun i hi => by omega) h1 H
  · rw [h1] at hp
    exact operate_inf way hw near Rf rc go 2 (by decide) (fun i => if i = 0 then a else b) w (rowT ko) 1 (by decide) (fun i hi => by
      obtain rfl : i = 0 := by omega
      exact h1) hp H
end Go.Proofs.YtcpjdgfnblkfpaaGreatDoor
