/-
  Package round: value.float, by its contract.
-/
import Derived.Test.YtcpjdgfnblkfpaaGreatDoorRUnits
import Derived.Test.YtcpjdgfnblkfpaaGreatDoorMathBits
namespace Go.Proofs.YtcpjdgfnblkfpaaGreatDoor
open Go Go.RowKit Go.Proofs.YtcpjdgfnblkfpaaGreatDoor.M
set_option linter.unusedSimpArgs false
set_option linter.unusedVariables false

set_option maxRecDepth 100000 in
theorem b_len (x : Int) (w : World) (h0 : 0 ≤ x) (h1 : x ≤ 18446744073709551615) : Calls Tryz.prog 110 #[.int .u64 x] w fun e w' => e = .returned (.int .i64 (Lib.bitLen x.toNat)) ∧ w' = w := by
  go_enter Tryz.func110, Tryz.ntmps110
  go_wp2_with (go_at_call 136; refine (b_len64 x _ h0 h1).mono ?_; rintro _ _ ⟨rfl, rfl⟩)
  go_ret
  exact ⟨rfl, rfl⟩
set_option maxRecDepth 100000 in
set_option maxHeartbeats 1000000 in
theorem float_F (F : Nat) (ng : Bool) (mag : Nat) (exp size least : Int) (cut sd : Bool) (U : Nat) (E : Int) (other : Bool) (w : World) (hm : mag < 18446744073709551616) (he : -4500000 ≤ exp ∧ exp ≤ 4500000) (hs : 0 ≤ size ∧ size ≤ 64) (hl : -2000 ≤ least ∧ least ≤ 0) (hE : rE size least mag exp = E) (hU : U < 9223372036854775808)
    (hC : ∀ W, Calls Tryz.prog 167 #[valV ng mag exp cut sd, .int .i64 E, .agg #[.func (.func F) #[] #[]]] W fun e w' => e = .returned (.tuple #[.int .u64 (U : Nat), .bool other]) ∧ Below W.heap.size W w') :
    Calls Tryz.prog 158 #[valV ng mag exp cut sd, .int .i64 size, .int .i64 least, .agg #[.func (.func F) #[] #[]]] w fun e w' => e = .returned (.tuple #[.bool (ng && (decide (0 < U) || sd)), .int .i64 (U : Nat), .int .i64 E, .bool other]) ∧ Below w.heap.size w w' := by
  unfold valV at *
  have hb2 := bel_alloc2 w (.cells #[.bool ng, .int .u64 mag, .int .i64 exp, .bool cut, .bool sd] 170) (.cells #[.func (.func F) #[] #[]] 174)
  have q0 := heap_a2 w (.cells #[.bool ng, .int .u64 mag, .int .i64 exp, .bool cut, .bool sd] 170) (.cells #[.func (.func F) #[] #[]] 174)
  have q1 := heap_b2 w (.cells #[.bool ng, .int .u64 mag, .int .i64 exp, .bool cut, .bool sd] 170) (.cells #[.func (.func F) #[] #[]] 174)
  have k0 := blkC q0 0 rfl
  have k1 := blkC q0 1 rfl
  have k2 := blkC q0 2 rfl
  have k3 := blkC q0 3 rfl
  have k4 := blkC q0 4 rfl
  have kw := blkC q1 0 rfl
  have hbl : Lib.bitLen mag ≤ 64 := by
    by_cases h0 : mag = 0
    · rw [h0]; decide
    · have e64 : (2 : Nat) ^ 64 = 18446744073709551616 := by decide
      exact (M.bitLen_spec mag (by omega) h0).2.2.2
  have HE : Hid (rE size least mag exp = E) := hE
  obtain ⟨L, hL⟩ : ∃ L : Int, (Lib.bitLen mag : Int) = L := ⟨_, rfl⟩
  have hEL : max (exp + L - size) least = E := by rw [← hL]; exact hE
  have hL2 : (Lib.bitLen ((mag : Int)).toNat : Int) = L := by rw [Int.toNat_natCast]; exact hL
  have hL0 : 0 ≤ L ∧ L ≤ 64 := by omega
  have w1 : IntKind.i64.wrap (exp + L) = exp + L := by rw [wrap_i64_eq]; omega
  have w2 : IntKind.i64.wrap (exp + L - size) = exp + L - size := by rw [wrap_i64_eq]; omega
  have wU : IntKind.i64.wrap (U : Int) = (U : Int) := by rw [wrap_i64_eq]; omega
  clear hE
  have hmax : ∀ (ts : Array TypeId) (t : TypeId) (x y : Int) (w : World), (Builtin.max_ ts t #[.int .i64 x, .int .i64 y]).run Tryz.prog w = .ok (.int .i64 (max x y)) w := fun ts t x y w => by rw [run_max_int2]; congr 2; omega
  go_enter Tryz.func158, Tryz.ntmps158
  go_wp2_with fail
  generalize (w.alloc (.cells #[.bool ng, .int .u64 mag, .int .i64 exp, .bool cut, .bool sd] 170)).alloc (.cells #[.func (.func F) #[] #[]] 174) = wx at hb2 q0 q1 k0 k1 k2 k3 k4 kw ⊢
  go_region_held3 (fun W => W.cell? ⟨w.heap.size, 2, none⟩ = some (.int .i64 exp) ∧ W.cell? ⟨w.heap.size, 1, none⟩ = some (.int .u64 mag))
    (first | assumption | exact ⟨k2, k1⟩)
    (first | (go_at_call 110; refine (b_len _ _ (by omega) (by omega)).mono ?_; rintro _ _ ⟨rfl, rfl⟩))
  all_goals
    go_wp2_with fail
    refine (hC _).mono ?_
    rintro _ w3 ⟨rfl, hb3⟩
    have hdr : Below wx.heap.size wx wx.drew := (bel_refl wx).drew
    have hb3' := bel_trans hdr hb3
    have hbw := bel_trans hb2 hb3'
    have p0 := (hb3'.block _ (Array.getElem?_eq_some_iff.1 q0).1).trans q0
    have j0 := blkC p0 0 rfl
    have j4 := blkC p0 4 rfl
    clear hC hb3 hb3' hdr q0 q1 k0 k1 k2 k3 k4 kw
    cases ng
    · go_wp2
      all_goals refine bodyPost_ret (v := .tuple #[.bool false, .int .i64 (U : Nat), .int .i64 E, .bool other]) (by simp [results, Tryz.results158, go_sem]) rfl ⟨by simp, hbw⟩
    · by_cases hu0 : U = 0
      · have hu1 : ¬ (0 : Int) < (U : Int) := by omega
        have hd : decide (0 < U) = false := decide_eq_false (by omega)
        go_wp2
        all_goals refine bodyPost_ret (v := .tuple #[.bool sd, .int .i64 (U : Nat), .int .i64 E, .bool other]) (by simp [results, Tryz.results158, go_sem, hu0]) rfl ⟨by simp [hd], hbw⟩
      · have hu1 : (0 : Int) < (U : Int) := by omega
        have hd : decide (0 < U) = true := decide_eq_true (by omega)
        go_wp2
        all_goals refine bodyPost_ret (v := .tuple #[.bool true, .int .i64 (U : Nat), .int .i64 E, .bool other]) (by simp [results, Tryz.results158, go_sem]) rfl ⟨by simp [hd], hbw⟩
end Go.Proofs.YtcpjdgfnblkfpaaGreatDoor
