/-
  Lists of numbers, as they lie in memory; package dyadic's valid, by its contract.
-/
import Derived.Test.YtcpjdgfnblkfpaaGreatDoorDV
namespace Go.Proofs.YtcpjdgfnblkfpaaGreatDoor
open Go Go.RowKit Go.Proofs.YtcpjdgfnblkfpaaGreatDoor.M
set_option linter.unusedSimpArgs false
set_option linter.unusedVariables false

/-- A number, as it lies in memory. -/
structure NumR where
  ng : Bool
  ao : Option Addr
  n : Nat
  cap : Nat
  d : Nat → Int
  e : Int
instance : Inhabited NumR := ⟨⟨false, none, 0, 0, fun _ => 0, 0⟩⟩
def NumR.v (r : NumR) : Value := .agg #[.bool r.ng, .slice r.ao r.n r.cap, .int .i64 r.e]
structure At3 (w : World) (b o : Nat) (r : NumR) : Prop where
  c0 : w.cell? ⟨b, o, none⟩ = some (.bool r.ng)
  c1 : w.cell? ⟨b, o + 1, none⟩ = some (.slice r.ao r.n r.cap)
  c2 : w.cell? ⟨b, o + 2, none⟩ = some (.int .i64 r.e)
  row : Row w r.ao r.n r.cap r.d
/-- A slice of numbers that is read. -/
structure Nums (w : World) (ao : Option Addr) (n cap : Nat) (r : Nat → NumR) : Prop where
  le : n ≤ cap
  max : cap ≤ 9223372036854775807
  spot : 0 < n → ∃ b off, ao = some ⟨b, off, none⟩ ∧ b < w.heap.size ∧ ∀ i, i < n → At3 w b (off + i * 3) (r i)
theorem At3.keeps {w w' : World} {b o : Nat} {r : NumR} (h : At3 w b o r) (hb : Below w.heap.size w w') (hlt : b < w.heap.size) : At3 w' b o r :=
  ⟨(hb.cell (p := ⟨b, o, none⟩) hlt).trans h.c0, (hb.cell (p := ⟨b, o + 1, none⟩) hlt).trans h.c1, (hb.cell (p := ⟨b, o + 2, none⟩) hlt).trans h.c2, h.row.keeps hb⟩
theorem Nums.keeps {w w' : World} {ao : Option Addr} {n cap : Nat} {r : Nat → NumR} (h : Nums w ao n cap r) (hb : Below w.heap.size w w') : Nums w' ao n cap r :=
  ⟨h.le, h.max, fun hn => by
    obtain ⟨b, off, rfl, hlt, hc⟩ := h.spot hn
    exact ⟨b, off, rfl, Nat.lt_of_lt_of_le hlt hb.size, fun i hi => (hc i hi).keeps hb hlt⟩⟩
def okR (r : NumR) : Bool := okN r.ng r.d r.n r.e
/-- Are all valid? -/
def allOk (r : Nat → NumR) (n : Nat) : Bool := decide (∀ i, i < n → okR (r i) = true)
set_option maxRecDepth 100000 in
set_option maxHeartbeats 1000000 in
theorem dvalids_any (ao : Option Addr) (n cap : Nat) (r : Nat → NumR) (w : World) (h : Nums w ao n cap r) :
    Calls Tryz.prog 63 #[.slice ao n cap] w fun x w' => x = .returned (.bool (allOk r n)) ∧ Below w.heap.size w w' := by
  have hl := h.le
  have hm := h.max
  go_enter Tryz.func63, Tryz.ntmps63
  go_wp2_with fail
  go_loopw [7] (fun i wr => ∃ k : Nat, k ≤ n ∧ i = .int .i64 k ∧ Hid (∀ j, j < k → okR (r j) = true) ∧ Below w.heap.size w wr) (fun i _ => n - (intOf i).toNat)
  case atStart => exact ⟨0, Nat.zero_le _, rfl, fun j hj => by omega, bel_refl _⟩
  case round =>
    obtain ⟨k, hk, rfl, HO, hbw⟩ := hrel
    by_cases hlt : k < n
    · obtain ⟨b, off, rfl, hb, hc⟩ := h.spot (by omega)
      obtain ⟨c0, c1, c2, hR⟩ := (hc k hlt).keeps hbw hb
      generalize hr : r k = x at *
      obtain ⟨ng, xo, xn, xc, xd, xe⟩ := x
      simp only at c0 c1 c2 hR
      by_cases hok : okN ng xd xn xe = true
      · go_wp2_with (go_at_call 95; refine (dvalid_any ng xo xn xc xd xe _ (hR.alloc _)).mono ?_; rintro x w1 ⟨rfl, hb1⟩)
        go_roundw
        case rel => exact ⟨k + 1, by omega, by go_num, fun j hj => by
            by_cases e : j = k
            · subst e; rw [hr]; exact hok
            · exact HO.out j (by omega), hbw.trans ((bel_trans (bel_alloc _ _) hb1).mono hbw.size)⟩
        case measure => simp [intOf]; omega
      · have hok' : okN ng xd xn xe = false := by simpa using hok
        go_wp2_with (go_at_call 95; refine (dvalid_any ng xo xn xc xd xe _ (hR.alloc _)).mono ?_; rintro x w1 ⟨rfl, hb1⟩)
        go_ret
        exact ⟨ret_bool (by
          symm
          refine decide_eq_false fun hx => ?_
          have := hx k hlt
          rw [hr] at this
          exact hok this), hbw.trans ((bel_trans (bel_alloc _ _) hb1).mono hbw.size)⟩
    · obtain rfl : k = n := by omega
      go_wp2
      go_ret
      exact ⟨ret_bool (decide_eq_true HO.out).symm, hbw⟩
end Go.Proofs.YtcpjdgfnblkfpaaGreatDoor
