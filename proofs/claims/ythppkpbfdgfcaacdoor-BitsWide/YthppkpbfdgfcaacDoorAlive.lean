/-
  Floats made of patterns; 'alive' of plumblaw1: it answers true, in every world that holds the two layouts.
-/
import Derived.Test.YthppkpbfdgfcaacDoorCalls
import Derived.Laws.Externs
import Derived.Laws.Cover2
namespace Go.Proofs.YthppkpbfdgfcaacDoor
open Go Go.RowKit Go.Proofs.YthppkpbfdgfcaacDoor.M
set_option linter.unusedSimpArgs false
set_option linter.unusedVariables false

theorem run_from64 (n : Int) (w : World) : (callFunc 20 #[.int .u64 n]).run Tryd.prog w = .ok (.value (.float .f64 n.toNat)) w := by
  rw [run_callFunc_extern Tryd.func20 (by kernel_rfl) (by kernel_rfl) (by kernel_rfl) (e := Extern.MathFloatBits.float64frombits) (by kernel_rfl)]
  rfl
theorem run_from32 (n : Int) (w : World) : (callFunc 19 #[.int .u32 n]).run Tryd.prog w = .ok (.value (.float .f32 n.toNat)) w := by
  rw [run_callFunc_extern Tryd.func19 (by kernel_rfl) (by kernel_rfl) (by kernel_rfl) (e := Extern.MathFloatBits.float32frombits) (by kernel_rfl)]
  rfl
theorem ret_float {k : FloatKind} {a b : Nat} (h : a = b) : Ending.returned (.float k a) = .returned (.float k b) := by rw [h]
theorem bitsFloat (b : Int) (w : World) :
    Calls Tryd.prog 9 #[.int .i64 b] w fun e w' => e = .returned (.float .f64 (wd b)) ∧ w' = w := by
  have hd := run_from64
  go_enter Tryd.func9, Tryd.ntmps9
  go_wp2
  go_ret
  exact ⟨ret_float (by rw [IntKind.wrap_u64]; rfl), rfl⟩
theorem bitsFloat32 (b : Int) (w : World) (h : in32 b = true) :
    Calls Tryd.prog 8 #[.int .i64 b] w fun e w' => e = .returned (.float .f32 b.toNat) ∧ w' = w := by
  have hb := of_decide_eq_true h
  have hd := run_from32
  go_enter Tryd.func8, Tryd.ntmps8
  go_wp2_with (go_at_call 14; refine (bitsFits32 _ _).mono ?_; rintro e w1 ⟨rfl, rfl⟩)
  go_ret
  exact ⟨rfl, rfl⟩
theorem alive (w : World) (L : Lays w) :
    Calls Tryd.prog 5 #[] w fun e w' => e = .returned (.bool true) ∧ Grown w w' := by
  have e1 : pneg 4607182418800017408 = false := by decide
  have e2 : pmag 4607182418800017408 = 4503599627370496 := by decide
  have e3 : pexp 4607182418800017408 = -52 := by decide
  have e4 : pok 4607182418800017408 = true := by decide
  have e5 : cls 4607182418800017408 = 2 := by decide
  have e6 : cls32 1065353216 = 2 := by decide
  have e7 : next 4607182418800017408 = 4607182418800017409 := by decide
  have e8 : wd 4607182418800017408 = 4607182418800017408 := by decide
  have r1 : rng 4607182418800017408 := by unfold rng; omega
  have i1 : in32 1065353216 = true := by decide
  have o1 : FloatKind.f64.format.order 4607182418800017408 4607182418800017408 = some .eq := by decide +kernel
  have o2 : FloatKind.f32.format.order 1065353216 1065353216 = some .eq := by decide +kernel
  go_enter Tryd.func5, Tryd.ntmps5
  go_wp2_with fail
  refine (bitsParts _ _ L).mono ?_
  rintro e w1 ⟨rfl, g1⟩
  have L1 := L.grown g1
  go_wp2_with fail
  refine (bitsClass _ _ L1).mono ?_
  rintro e w2 ⟨rfl, g2⟩
  have L2 := L1.grown g2
  go_wp2_with fail
  refine (bitsClass32 _ _ L2).mono ?_
  rintro e w3 ⟨rfl, g3⟩
  have L3 := L2.grown g3
  go_wp2_with fail
  refine (bitsNext _ _ L3 r1).mono ?_
  rintro e w4 ⟨rfl, g4⟩
  have L4 := L3.grown g4
  go_wp2_with fail
  refine (bitsFloat _ _).mono ?_
  rintro e w5 ⟨rfl, rfl⟩
  go_wp2_with fail
  refine (bitsFloat32 _ _ i1).mono ?_
  rintro e w6 ⟨rfl, rfl⟩
  go_wp2
  go_ret
  exact ⟨rfl, gTrans (gTrans (gTrans g1 g2) g3) g4⟩
end Go.Proofs.YthppkpbfdgfcaacDoor
