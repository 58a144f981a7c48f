/-
  Parts of the proof, one behind another.
-/
import Derived.Test.YtobolgmjcebfmaaGreatDoorPart9
import Derived.Test.YtobolgmjcebfmaaGreatDoorPart7
import Derived.Laws.Externs
import Derived.Laws.Cover2
import Derived.Test.YtobolgmjcebfmaaGreatDoorPart3
import Derived.Test.YtobolgmjcebfmaaGreatDoorPart1
import Derived.Test.YtobolgmjcebfmaaGreatDoorPart6
import Derived.Deep.RegionHeld3
import Derived.Test.YtobolgmjcebfmaaGreatDoorPart4
import Derived.Deep.AppendLies
import Derived.Deep.RegionLaw
import Derived.Test.YtobolgmjcebfmaaGreatDoorPart5
import Derived.Test.YtobolgmjcebfmaaGreatDoorRows
import Derived.Test.YtobolgmjcebfmaaGreatDoorPart2
import Derived.ProofKit
import Derived.OpenShut
import Derived.ChangeOld
import Derived.LaidMore
import Derived.Deep.Strs
import Derived.Lib.LaidTab
import Derived.MakeChecks
import Derived.Stop.LaidErr
/-
  Package round: Quot, by its contract.
-/
namespace Go.Proofs.YtobolgmjcebfmaaGreatDoor
open Go Go.RowKit Go.Proofs.YtobolgmjcebfmaaGreatDoor.M
set_option linter.unusedSimpArgs false
set_option linter.unusedVariables false

/-- What Quot answers at numbers that are valid, the second not 0. -/
def qR64 (way : Int) (a b : NumR) : Int × Bool := r64 way (a.ng != b.ng) false (scV (val a.d a.n) (qK (val a.d a.n) (val b.d b.n)) / val b.d b.n).toNat (a.e - b.e - qK (val a.d a.n) (val b.d b.n)) (scC (val a.d a.n) (qK (val a.d a.n) (val b.d b.n)) || decide (scV (val a.d a.n) (qK (val a.d a.n) (val b.d b.n)) % val b.d b.n ≠ 0))
set_option maxRecDepth 100000 in
set_option maxHeartbeats 1000000 in
theorem quot_ok (way : Int) (hw : 0 ≤ way ∧ way ≤ 3) (a b : NumR) (w : World) (ra : Row w a.ao a.n a.cap a.d) (rb : Row w b.ao b.n b.cap b.d) (oa : okR a = true) (ob : okR b = true) (hb0 : 0 < b.n) (Ev : Env w) (hT : Tab w) :
    Calls Tryz.prog 27 #[a.v, b.v, .int .i64 way] w fun e w' => e = .returned (.tuple #[.int .i64 (qR64 way a b).1, .bool (qR64 way a b).2, .int .i64 0]) ∧ Below w.heap.size w w' := by
  obtain ⟨na, hn, ea0, ea1⟩ := okR_sane oa
  obtain ⟨nb, hm, eb0, eb1⟩ := okR_sane ob
  have hA0 := val_nonneg na.1
  have hB0 : 0 < val b.d b.n := val_pos nb hb0
  have hAl := blen_nrm na
  have hBl := blen_nrm nb
  have hsm := qK_small hA0 hB0
  have hqk : qK (val a.d a.n) (val b.d b.n) = 62 + (blen (val b.d b.n) : Int) - (blen (val a.d a.n) : Int) := rfl
  have hEF : ∀ (cap : Array Value) (w : World), (callFunc 42 cap).run Tryz.prog w = .ok (.enter 42 cap) w := by
    intro cap w
    simp [go_sem]
  have hEG : ∀ (cap : Array Value) (w : World), (callFunc 53 cap).run Tryz.prog w = .ok (.enter 53 cap) w := by
    intro cap w
    simp [go_sem]
  have hmf : ∀ (fn : Fn) (first cap : Array Value) (w : World), (Instr.makeFunc fn first cap).run Tryz.prog w = .ok (.func fn first cap) w := fun _ _ _ _ => rfl
  have CR := fun W (hb : Below w.heap.size w W) (g : Nat) (hg : W.heap[g]? = some (.cells #[.bool a.ng, .slice a.ao a.n a.cap, .int .i64 a.e, .bool b.ng, .slice b.ao b.n b.cap, .int .i64 b.e] 31 (0, 0))) => rounded_ok way hw 42 53 (some ⟨g, 0, none⟩) 2 2 (pair2 a b) W (nums2 hg (ra.keeps hb) (rb.keeps hb))
    (fun i hi => by
      have hi2 : i = 0 ∨ i = 1 := by omega
      rcases hi2 with rfl | rfl
      · exact oa
      · exact ob) (a.ng != b.ng) (scV (val a.d a.n) (qK (val a.d a.n) (val b.d b.n)) / val b.d b.n).toNat (a.e - b.e - qK (val a.d a.n) (val b.d b.n)) (scC (val a.d a.n) (qK (val a.d a.n) (val b.d b.n)) || decide (scV (val a.d a.n) (qK (val a.d a.n) (val b.d b.n)) % val b.d b.n ≠ 0)) false _ _ hEF hEG
    (fun W2 hb2 => quotient_any g a b W2 ((hb2.block _ (Array.getElem?_eq_some_iff.1 hg).1).trans hg) ((ra.keeps hb).keeps hb2) ((rb.keeps hb).keeps hb2) oa ob hb0 ((hT.keeps hb).keeps hb2))
    (fun W2 hb2 => binary64_any way hw (a.ng != b.ng) false _ _ _ W2 ((Ev.keeps hb).keeps hb2) (by omega) (by omega))
  have HQ : qR64 way a b = r64 way (a.ng != b.ng) false (scV (val a.d a.n) (qK (val a.d a.n) (val b.d b.n)) / val b.d b.n).toNat (a.e - b.e - qK (val a.d a.n) (val b.d b.n)) (scC (val a.d a.n) (qK (val a.d a.n) (val b.d b.n)) || decide (scV (val a.d a.n) (qK (val a.d a.n) (val b.d b.n)) % val b.d b.n ≠ 0)) := rfl
  rw [← HQ] at CR
  generalize qR64 way a b = R at CR ⊢
  clear HQ oa ob hsm hqk hAl hBl hA0 hB0 ea0 ea1 eb0 eb1 hn hm na nb ra rb hb0
  unfold NumR.v
  obtain ⟨a_g, a_o, a_n, a_c, a_d, a_e⟩ := a
  obtain ⟨b_g, b_o, b_n, b_c, b_d, b_e⟩ := b
  simp only at *
  go_enter Tryz.func27, Tryz.ntmps27
  go_wp2_with fail
  refine (CR _ ?_ _ ?_).mono ?_
  rotate_left
  rotate_left
  · rintro _ w2 ⟨rfl, hb3⟩
    go_wp2
    all_goals refine bodyPost_ret (v := .tuple #[.int .i64 R.1, .bool R.2, .int .i64 0]) (by simp [results, Tryz.results27, go_sem]) rfl ⟨rfl, bel_trans (bel_a3 _ _ _ _) hb3⟩
  · exact bel_a3 _ _ _ _
  · exact h3_2 _ _ _ _
end Go.Proofs.YtobolgmjcebfmaaGreatDoor

/-
  Package round: sums to the nearest, by their contracts.
-/
namespace Go.Proofs.YtobolgmjcebfmaaGreatDoor
open Go Go.RowKit Go.Proofs.YtobolgmjcebfmaaGreatDoor.M
set_option linter.unusedSimpArgs false
set_option linter.unusedVariables false

set_option maxRecDepth 100000 in
set_option maxHeartbeats 1000000 in
theorem operate_near (F G : Value) (hF : ∃ f, F = .func f #[] #[]) (hG : ∃ f, G = .func f #[] #[]) (near : Int) (R : Value) (o : Option Addr) (n c : Nat) (w : World) :
    Calls Tryz.prog 21 #[.agg #[F, G], .int .i64 near, .int .i64 0, R, .slice o n c] w fun e w' => e = .returned (.tuple #[.int .i64 near, .int .i64 0]) ∧ Below w.heap.size w w' := by
  obtain ⟨f, rfl⟩ := hF
  obtain ⟨g, rfl⟩ := hG
  have CW := fun W => wayOf_any 0 W
  unfold wayV wayF at CW
  simp only [if_true] at CW
  have hst : ∀ (p : Addr) (F : Nat) (m : Mode) (w : World), (store p (.func (.func F) #[] #[]) m).run Tryz.prog w = stored Tryz.prog w p (.func (.func F) #[] #[]) m := fun p F m w => run_store _ w p _ m rfl
  go_enter Tryz.func21, Tryz.ntmps21
  go_wp2_with fail
  refine (CW _).mono ?_
  rintro _ w2 ⟨rfl, hb2⟩
  have hb1 := bel_alloc w (.cells #[.func f #[] #[], .func g #[] #[]] 40)
  have hbw := bel_trans hb1 hb2
  have q1 := heap_alloc_new w2 (.cells #[.nilFunc] 77)
  have y0 := blkC q1 0 rfl
  have y1 := blkF q1 0
  clear CW
  go_wp2
  all_goals refine bodyPost_ret (v := .tuple #[.int .i64 near, .int .i64 0]) (by simp [results, Tryz.results21, go_sem]) rfl ⟨rfl, ?_⟩
  all_goals exact bel_trans hbw (bel_alloc _ _)
set_option maxRecDepth 100000 in
set_option maxHeartbeats 1000000 in
theorem kadd_near (F G : Value) (hF : ∃ f, F = .func f #[] #[]) (hG : ∃ f, G = .func f #[] #[]) (near a b : Int) (w : World) :
    Calls Tryz.prog 18 #[.agg #[F, G], .int .i64 near, .int .i64 a, .int .i64 b, .int .i64 0] w fun e w' => e = .returned (.tuple #[.int .i64 near, .int .i64 0]) ∧ Below w.heap.size w w' := by
  have CO := fun R o n c W => operate_near F G hF hG near R o n c W
  obtain ⟨f, rfl⟩ := hF
  obtain ⟨g, rfl⟩ := hG
  have hmf : ∀ (fn : Fn) (first cap : Array Value) (w : World), (Instr.makeFunc fn first cap).run Tryz.prog w = .ok (.func fn first cap) w := fun _ _ _ _ => rfl
  go_enter Tryz.func18, Tryz.ntmps18
  go_wp2_with fail
  refine (CO _ _ _ _ _).mono ?_
  rintro _ w2 ⟨rfl, hb2⟩
  go_wp2
  all_goals refine bodyPost_ret (v := .tuple #[.int .i64 near, .int .i64 0]) (by simp [results, Tryz.results18, go_sem]) rfl ⟨rfl, ?_⟩
  all_goals exact bel_trans ((bel_a4 _ _ _ _ _).alloc (bel_a4 _ _ _ _ _).size _) hb2
set_option maxRecDepth 100000 in
theorem double_any (w : World) : Calls Tryz.prog 17 #[] w fun e w' => e = .returned (.agg #[.func (.func 11) #[] #[], .func (.func 42) #[] #[]]) ∧ Below w.heap.size w w' := by
  have hmf : ∀ (fn : Fn) (first cap : Array Value) (w : World), (Instr.makeFunc fn first cap).run Tryz.prog w = .ok (.func fn first cap) w := fun _ _ _ _ => rfl
  have hst : ∀ (p : Addr) (F : Nat) (m : Mode) (w : World), (store p (.func (.func F) #[] #[]) m).run Tryz.prog w = stored Tryz.prog w p (.func (.func F) #[] #[]) m := fun p F m w => run_store _ w p _ m rfl
  have q1 := heap_alloc_new w (.cells #[.nilFunc, .nilFunc] 40)
  have x0 := blkC q1 0 rfl
  have x1 := blkC q1 1 rfl
  have z0 := blkF q1 0
  have z1 := blkF q1 1
  go_enter Tryz.func17, Tryz.ntmps17
  go_wp2
  all_goals refine bodyPost_ret (v := .agg #[.func (.func 11) #[] #[], .func (.func 42) #[] #[]]) (by simp [results, Tryz.results17, go_sem]) rfl ⟨rfl, ?_⟩
  all_goals exact bel_alloc _ _
set_option maxRecDepth 100000 in
theorem single_any (w : World) : Calls Tryz.prog 54 #[] w fun e w' => e = .returned (.agg #[.func (.func 82) #[] #[], .func (.func 83) #[] #[]]) ∧ Below w.heap.size w w' := by
  have hmf : ∀ (fn : Fn) (first cap : Array Value) (w : World), (Instr.makeFunc fn first cap).run Tryz.prog w = .ok (.func fn first cap) w := fun _ _ _ _ => rfl
  have hst : ∀ (p : Addr) (F : Nat) (m : Mode) (w : World), (store p (.func (.func F) #[] #[]) m).run Tryz.prog w = stored Tryz.prog w p (.func (.func F) #[] #[]) m := fun p F m w => run_store _ w p _ m rfl
  have q1 := heap_alloc_new w (.cells #[.nilFunc, .nilFunc] 40)
  have x0 := blkC q1 0 rfl
  have x1 := blkC q1 1 rfl
  have z0 := blkF q1 0
  have z1 := blkF q1 1
  go_enter Tryz.func54, Tryz.ntmps54
  go_wp2
  all_goals refine bodyPost_ret (v := .agg #[.func (.func 82) #[] #[], .func (.func 83) #[] #[]]) (by simp [results, Tryz.results54, go_sem]) rfl ⟨rfl, ?_⟩
  all_goals exact bel_alloc _ _
end Go.Proofs.YtobolgmjcebfmaaGreatDoor

/-
  Floats made of patterns; 'alive' of plumblaw1: it answers true, in every world that holds the two layouts.
-/
namespace Go.Proofs.YtobolgmjcebfmaaGreatDoor
open Go Go.RowKit Go.Proofs.YtobolgmjcebfmaaGreatDoor.M
set_option linter.unusedSimpArgs false
set_option linter.unusedVariables false

theorem run_from64 (n : Int) (w : World) : (callFunc 46 #[.int .u64 n]).run Tryz.prog w = .ok (.value (.float .f64 n.toNat)) w := by
  rw [run_callFunc_extern Tryz.func46 (by kernel_rfl) (by kernel_rfl) (by kernel_rfl) (e := Extern.MathFloatBits.float64frombits) (by kernel_rfl)]
  rfl
theorem run_from32 (n : Int) (w : World) : (callFunc 86 #[.int .u32 n]).run Tryz.prog w = .ok (.value (.float .f32 n.toNat)) w := by
  rw [run_callFunc_extern Tryz.func86 (by kernel_rfl) (by kernel_rfl) (by kernel_rfl) (e := Extern.MathFloatBits.float32frombits) (by kernel_rfl)]
  rfl
theorem ret_float {k : FloatKind} {a b : Nat} (h : a = b) : Ending.returned (.float k a) = .returned (.float k b) := by rw [h]
theorem bitsFloat (b : Int) (w : World) :
    Calls Tryz.prog 20 #[.int .i64 b] w fun e w' => e = .returned (.float .f64 (wd b)) ∧ w' = w := by
  have hd := run_from64
  go_enter Tryz.func20, Tryz.ntmps20
  go_wp2
  go_ret
  exact ⟨ret_float (by rw [IntKind.wrap_u64]; rfl), rfl⟩
theorem bitsFloat32 (b : Int) (w : World) (h : in32 b = true) :
    Calls Tryz.prog 56 #[.int .i64 b] w fun e w' => e = .returned (.float .f32 b.toNat) ∧ w' = w := by
  have hb := of_decide_eq_true h
  have hd := run_from32
  go_enter Tryz.func56, Tryz.ntmps56
  go_wp2_with (go_at_call 85; refine (bitsFits32 _ _).mono ?_; rintro e w1 ⟨rfl, rfl⟩)
  go_ret
  exact ⟨rfl, rfl⟩
end Go.Proofs.YtobolgmjcebfmaaGreatDoor

/-
  The document's own answers for chapter 1 (package plumbref1), but for Join: each call by a contract over the same plain functions as package bits'.
-/
namespace Go.Proofs.YtobolgmjcebfmaaGreatDoor
open Go Go.RowKit Go.Proofs.YtobolgmjcebfmaaGreatDoor.M
set_option linter.unusedSimpArgs false
set_option linter.unusedVariables false

end Go.Proofs.YtobolgmjcebfmaaGreatDoor

/-
  The document's own answers for chapter 1, on: the calls of 32 bits, the neighbours, the signs, the order.
-/
namespace Go.Proofs.YtobolgmjcebfmaaGreatDoor
open Go Go.RowKit Go.Proofs.YtobolgmjcebfmaaGreatDoor.M
set_option linter.unusedSimpArgs false
set_option linter.unusedVariables false

end Go.Proofs.YtobolgmjcebfmaaGreatDoor

/-
  Float32, Of and Of32 of package bits, Told and Told32 of the document's own answer, by contracts.
-/
namespace Go.Proofs.YtobolgmjcebfmaaGreatDoor
open Go Go.RowKit Go.Proofs.YtobolgmjcebfmaaGreatDoor.M
set_option linter.unusedSimpArgs false
set_option linter.unusedVariables false

def told (b : Int) : Int := if cls b = 4 then 9221120237041090561 else b
def told32 (b : Int) : Int := if cls32 b = 4 then 2143289345 else b
def wd32 (b : Int) : Nat := if in32 b then b.toNat else 2143289345
theorem sSign : Ieee.single.signWeight = 2147483648 := by decide
theorem sInf : Ieee.single.infRung = 2139095040 := by decide
theorem sOk : Ieee.single.binade ≤ Ieee.single.infRung := by decide
theorem cls32_4 {b : Int} (h : in32 b = true) : cls32 b = 4 ↔ 2139095040 < b.toNat % 2147483648 := by
  have hb := of_decide_eq_true h
  unfold cls32; rw [if_neg (by omega)]
  unfold fld32 frc32; repeat' split
  all_goals omega
theorem no64 {b : Int} (hb : rng b) : (FloatKind.f64.format.order (wd b) (wd b) != some .eq) = decide (cls b = 4) := by
  have := same_order hb hb
  unfold bne
  rw [this]; unfold same
  by_cases h : cls b = 4 <;> simp [h]
theorem no32 (b : Int) : (FloatKind.f32.format.order (wd32 b) (wd32 b) != some .eq) = decide (cls32 b = 4) := by
  by_cases hi : in32 b = true
  · have e : wd32 b = b.toNat := by unfold wd32; rw [if_pos hi]
    rw [e]
    by_cases h : cls32 b = 4
    · have hn := order_nan Ieee.single sOk b.toNat b.toNat (.inl (by rw [sSign, sInf]; exact (cls32_4 hi).1 h))
      have hn' : FloatKind.f32.format.order b.toNat b.toNat = none := hn
      rw [hn']; simp [h]
    · have hle : b.toNat % Ieee.single.signWeight ≤ Ieee.single.infRung := by
        rw [sSign, sInf]; exact Nat.le_of_not_lt fun k => h ((cls32_4 hi).2 k)
      have ho := order_all Ieee.single sOk b.toNat b.toNat hle hle
      rw [compare_eq rfl] at ho
      have ho' : FloatKind.f32.format.order b.toNat b.toNat = some .eq := ho
      rw [ho']; simp [h]
  · have hn : b < 0 ∨ 4294967296 ≤ b := by simp [in32] at hi; omega
    have e : wd32 b = 2143289345 := by unfold wd32; rw [if_neg hi]
    have h4 : cls32 b = 4 := by unfold cls32; rw [if_pos hn]
    have ho : FloatKind.f32.format.order 2143289345 2143289345 = none := by decide +kernel
    rw [e, ho]; simp [h4]
theorem run_bits64 (n : Nat) (w : World) : (callFunc 45 #[.float .f64 n]).run Tryz.prog w = .ok (.value (.int .u64 n)) w := by
  rw [run_callFunc_extern Tryz.func45 (by kernel_rfl) (by kernel_rfl) (by kernel_rfl) (e := Extern.MathFloatBits.float64bits) (by kernel_rfl)]
  rfl
theorem run_bits32 (n : Nat) (w : World) : (callFunc 84 #[.float .f32 n]).run Tryz.prog w = .ok (.value (.int .u32 n)) w := by
  rw [run_callFunc_extern Tryz.func84 (by kernel_rfl) (by kernel_rfl) (by kernel_rfl) (e := Extern.MathFloatBits.float32bits) (by kernel_rfl)]
  rfl
theorem bitsOf (b : Int) (w : World) (hb : rng b) :
    Calls Tryz.prog 19 #[.float .f64 (wd b)] w fun e w' => e = .returned (.int .i64 (told b)) ∧ w' = w := by
  have hd := run_bits64
  have hn := no64 hb
  have hw : Hid (wrap64 (wd b : Int) = b) := by unfold Hid wrap64 wd; unfold rng at hb; omega
  by_cases h : cls b = 4
  · have hn' : (FloatKind.f64.format.order (wd b) (wd b) != some .eq) = true := by rw [hn]; simp [h]
    clear hn
    go_enter Tryz.func19, Tryz.ntmps19
    go_wp2
    go_ret
    exact ⟨b_ret_int (by simp [told, h]), rfl⟩
  · have hn' : (FloatKind.f64.format.order (wd b) (wd b) != some .eq) = false := by rw [hn]; simp [h]
    clear hn
    go_enter Tryz.func19, Tryz.ntmps19
    go_wp2
    go_ret
    exact ⟨b_ret_int (by rw [hw.out]; simp [told, h]), rfl⟩
theorem bitsOf32 (b : Int) (w : World) :
    Calls Tryz.prog 55 #[.float .f32 (wd32 b)] w fun e w' => e = .returned (.int .i64 (told32 b)) ∧ w' = w := by
  have hd := run_bits32
  have hn := no32 b
  by_cases h : cls32 b = 4
  · have hn' : (FloatKind.f32.format.order (wd32 b) (wd32 b) != some .eq) = true := by rw [hn]; simp [h]
    clear hn
    go_enter Tryz.func55, Tryz.ntmps55
    go_wp2
    go_ret
    exact ⟨b_ret_int (by simp [told32, h]), rfl⟩
  · have hn' : (FloatKind.f32.format.order (wd32 b) (wd32 b) != some .eq) = false := by rw [hn]; simp [h]
    clear hn
    have hb := cls32_in h
    have e : Hid ((wd32 b : Int) = b) := by unfold Hid wd32 in32; rw [if_pos (by simpa using hb)]; omega
    have hlt : (wd32 b : Int) < 4294967296 := by rw [e.out]; omega
    go_enter Tryz.func55, Tryz.ntmps55
    go_wp2
    go_ret
    exact ⟨b_ret_int (by first | (rw [e.out]; simp [told32, h]; done) | (unfold wrap64; simp [told32, h]; have := e.out; omega)), rfl⟩
end Go.Proofs.YtobolgmjcebfmaaGreatDoor

/-
  Package round: sums of constants, by their contracts.
-/
namespace Go.Proofs.YtobolgmjcebfmaaGreatDoor
open Go Go.RowKit Go.Proofs.YtobolgmjcebfmaaGreatDoor.M
set_option linter.unusedSimpArgs false
set_option linter.unusedVariables false

theorem wd_one : wd 4607182418800017408 = 4607182418800017408 := by decide
theorem wd_two : wd 4611686018427387904 = 4611686018427387904 := by decide
theorem told_two : told 4611686018427387904 = 4611686018427387904 := by decide
set_option maxRecDepth 100000 in
set_option maxHeartbeats 1000000 in
theorem add_one (w : World) :
    Calls Tryz.prog 4 #[.int .i64 4607182418800017408, .int .i64 4607182418800017408, .int .i64 0] w fun e w' => e = .returned (.tuple #[.int .i64 4611686018427387904, .int .i64 0]) ∧ Below w.heap.size w w' := by
  have CF : ∀ W, Calls Tryz.prog 20 #[.int .i64 4607182418800017408] W fun e w' => e = .returned (.float .f64 4607182418800017408) ∧ w' = W := fun W => by have := bitsFloat 4607182418800017408 W; rwa [wd_one] at this
  have CT : ∀ W, Calls Tryz.prog 19 #[.float .f64 4611686018427387904] W fun e w' => e = .returned (.int .i64 4611686018427387904) ∧ w' = W := fun W => by have := bitsOf 4611686018427387904 W (by unfold rng; omega); rwa [wd_two, told_two] at this
  have hadd : ∀ w : World, (binOp .add 43 (.float .f64 4607182418800017408) (.float .f64 4607182418800017408)).run Tryz.prog w = .ok (.float .f64 4611686018427387904) w := fun w => by kernel_rfl
  have CK := fun F G hF hG W => kadd_near F G hF hG 4611686018427387904 4607182418800017408 4607182418800017408 W
  go_enter Tryz.func4, Tryz.ntmps4
  go_wp2_with fail
  refine (double_any _).mono ?_
  rintro _ w1 ⟨rfl, hb1⟩
  go_wp2_with fail
  refine (CF _).mono ?_
  rintro _ _ ⟨rfl, rfl⟩
  go_wp2_with fail
  refine (CF _).mono ?_
  rintro _ _ ⟨rfl, rfl⟩
  go_wp2_with fail
  refine (CT _).mono ?_
  rintro _ _ ⟨rfl, rfl⟩
  go_wp2_with fail
  refine (CK _ _ ⟨_, rfl⟩ ⟨_, rfl⟩ _).mono ?_
  rintro _ w2 ⟨rfl, hb2⟩
  go_wp2
  all_goals refine bodyPost_ret (v := .tuple #[.int .i64 4611686018427387904, .int .i64 0]) (by simp [results, Tryz.results4, go_sem]) rfl ⟨rfl, bel_trans hb1 hb2⟩
theorem wd_two32 : wd32 1073741824 = 1073741824 := by decide
theorem told_two32 : told32 1073741824 = 1073741824 := by decide
set_option maxRecDepth 100000 in
set_option maxHeartbeats 1000000 in
theorem add_one32 (w : World) :
    Calls Tryz.prog 28 #[.int .i64 1065353216, .int .i64 1065353216, .int .i64 0] w fun e w' => e = .returned (.tuple #[.int .i64 1073741824, .int .i64 0]) ∧ Below w.heap.size w w' := by
  have CF : ∀ W, Calls Tryz.prog 56 #[.int .i64 1065353216] W fun e w' => e = .returned (.float .f32 1065353216) ∧ w' = W := fun W => bitsFloat32 1065353216 W (by decide)
  have CT : ∀ W, Calls Tryz.prog 55 #[.float .f32 1073741824] W fun e w' => e = .returned (.int .i64 1073741824) ∧ w' = W := fun W => by have := bitsOf32 1073741824 W; rwa [wd_two32, told_two32] at this
  have hadd : ∀ w : World, (binOp .add 87 (.float .f32 1065353216) (.float .f32 1065353216)).run Tryz.prog w = .ok (.float .f32 1073741824) w := fun w => by kernel_rfl
  have CK := fun F G hF hG W => kadd_near F G hF hG 1073741824 1065353216 1065353216 W
  go_enter Tryz.func28, Tryz.ntmps28
  go_wp2_with fail
  refine (single_any _).mono ?_
  rintro _ w1 ⟨rfl, hb1⟩
  go_wp2_with fail
  refine (CF _).mono ?_
  rintro _ _ ⟨rfl, rfl⟩
  go_wp2_with fail
  refine (CF _).mono ?_
  rintro _ _ ⟨rfl, rfl⟩
  go_wp2_with fail
  refine (CT _).mono ?_
  rintro _ _ ⟨rfl, rfl⟩
  go_wp2_with fail
  refine (CK _ _ ⟨_, rfl⟩ ⟨_, rfl⟩ _).mono ?_
  rintro _ w2 ⟨rfl, hb2⟩
  go_wp2
  all_goals refine bodyPost_ret (v := .tuple #[.int .i64 1073741824, .int .i64 0]) (by simp [results, Tryz.results28, go_sem]) rfl ⟨rfl, bel_trans hb1 hb2⟩
end Go.Proofs.YtobolgmjcebfmaaGreatDoor

/-
  plumblaw4.alive, by its contract.
-/
namespace Go.Proofs.YtobolgmjcebfmaaGreatDoor
open Go Go.RowKit Go.Proofs.YtobolgmjcebfmaaGreatDoor.M
set_option linter.unusedSimpArgs false
set_option linter.unusedVariables false

/-- A small odd number in a list of one. -/
def litR (g : Nat) (x : Int) : NumR := ⟨false, some ⟨g, 0, none⟩, 1, 1, fun _ => x, 0⟩
theorem litR_ok (g : Nat) {x : Int} (h0 : 0 < x) (h1 : x < 1073741824) (ho : x % 2 = 1) : okR (litR g x) = true :=
  decide_eq_true (.inr ⟨Nat.one_pos, ⟨show 1 ≤ 2000 by decide, fun i hi => ⟨show (0 : Int) ≤ x by omega, h1⟩, .inr (show x ≠ 0 by omega)⟩, ho, show (-1048576 : Int) ≤ 0 by decide, show (0 : Int) ≤ 1048576 by decide⟩)
theorem third (g k : Nat) : qR64 0 (litR g 1) (litR k 3) = (4599676419421066581, true) := by
  have e : qR64 0 (litR g 1) (litR k 3) = qR64 0 (litR 0 1) (litR 0 3) := rfl
  rw [e]
  decide +kernel
set_option maxRecDepth 100000 in
set_option maxHeartbeats 1000000 in
theorem alive4 (w : World) (Ev : Env w) (hT : Tab w) :
    Calls Tryz.prog 7 #[] w fun e w' => e = .returned (.bool true) ∧ Below w.heap.size w w' := by
  have HE : Hid (Env w) := Ev
  have HT : Hid (Tab w) := hT
  go_enter Tryz.func7, Tryz.ntmps7
  go_wp2_with fail
  have hb1 := bel_alloc2 w (.cells #[.int .i64 1] 3) (.cells #[.int .i64 3] 3)
  have r1 : Row ((w.alloc (.cells #[.int .i64 1] 3)).alloc (.cells #[.int .i64 3] 3)) (some ⟨w.heap.size, 0, none⟩) 1 1 (fun _ => 1) := (row1 w 1 rfl).keeps (bel_alloc _ _)
  have r3 : Row ((w.alloc (.cells #[.int .i64 1] 3)).alloc (.cells #[.int .i64 3] 3)) (some ⟨w.heap.size + 1, 0, none⟩) 1 1 (fun _ => 3) := row1 _ 3 (by simp)
  have CQ := quot_ok 0 (by decide) (litR w.heap.size 1) (litR (w.heap.size + 1) 3) _ r1 r3 (litR_ok _ (by decide) (by decide) (by decide)) (litR_ok _ (by decide) (by decide) (by decide)) Nat.one_pos (HE.out.keeps hb1) (HT.out.keeps hb1)
  rw [third] at CQ
  refine CQ.mono ?_
  rintro _ w2 ⟨rfl, hb2⟩
  have hbw := bel_trans hb1 hb2
  clear CQ r1 r3
  go_wp2_with fail
  refine (add_one _).mono ?_
  rintro _ w3 ⟨rfl, hb3⟩
  have hbw3 := bel_trans hbw hb3
  go_wp2_with fail
  refine (add_one32 _).mono ?_
  rintro _ w4 ⟨rfl, hb4⟩
  have hbw4 := bel_trans hbw3 hb4
  go_wp2
  all_goals go_ret
  all_goals exact ⟨by simp, hbw4⟩
end Go.Proofs.YtobolgmjcebfmaaGreatDoor

/-
  Package dyadic: Sub, by its contract.
-/
namespace Go.Proofs.YtobolgmjcebfmaaGreatDoor
open Go Go.RowKit Go.Proofs.YtobolgmjcebfmaaGreatDoor.M
set_option linter.unusedSimpArgs false
set_option linter.unusedVariables false

/-- The number with the other sign (0 too). -/
def NumR.neg (r : NumR) : NumR := ⟨!r.ng, r.ao, r.n, r.cap, r.d, r.e⟩
theorem NumR.neg_V (r : NumR) : r.neg.V = -r.V := by
  show sg (!r.ng) _ * _ = _
  rw [sg_not, Int.neg_mul]; rfl
theorem NumR.neg_sane {r : NumR} (h : Sane r) : Sane r.neg := h
set_option maxRecDepth 100000 in
set_option maxHeartbeats 1000000 in
theorem sub1_any (x y : NumR) (g h : Nat) (w : World) (cg : w.heap[g]? = some (.cells #[.bool x.ng, .slice x.ao x.n x.cap, .int .i64 x.e] 31 (0, 0))) (ch : w.heap[h]? = some (.cells #[.bool y.ng, .slice y.ao y.n y.cap, .int .i64 y.e] 31 (0, 0)))
    (hx : Row w x.ao x.n x.cap x.d) (hy : Row w y.ao y.n y.cap y.d) (sx : Sane x) (sy : Sane y) (hT : Tab w) :
    Calls Tryz.prog 37 #[.pointer (some ⟨g, 0, none⟩), .pointer (some ⟨h, 0, none⟩)] w (DOut w (x.V + y.V)) := by
  obtain ⟨an, ao, n, ca, a, e⟩ := x
  obtain ⟨bn, bo, m, cb, b, f⟩ := y
  simp only at cg ch hx hy
  have hb := bel_alloc w (.cells #[.bool false, .slice none 0 0, .int .i64 0] 31)
  have g0 := heap_past (.cells #[.bool false, .slice none 0 0, .int .i64 0] 31) cg
  have g1 := heap_past (.cells #[.bool false, .slice none 0 0, .int .i64 0] 31) ch
  have k0 := blkC g0 0 rfl
  have k1 := blkC g0 1 rfl
  have k2 := blkC g0 2 rfl
  have j0 := blkC g1 0 rfl
  have j1 := blkC g1 1 rfl
  have j2 := blkC g1 2 rfl
  have hN := fun q => nums2 (w := (w.alloc (.cells #[.bool false, .slice none 0 0, .int .i64 0] 31)).alloc (.cells #[.bool an, .slice ao n ca, .int .i64 e, .bool bn, .slice bo m cb, .int .i64 f] 31)) (g := w.heap.size + 1) (x := ⟨an, ao, n, ca, a, e⟩) (y := ⟨bn, bo, m, cb, b, f⟩) (t := 31) q (hx.keeps (bel_alloc2 _ _ _)) (hy.keeps (bel_alloc2 _ _ _))
  go_enter Tryz.func37, Tryz.ntmps37
  go_wp2_with fail
  refine (total_any _ _ _ _ _ (hN (heap_b2 _ _ _)) (fun i hi => ?_) (by omega) (hT.keeps (bel_alloc2 _ _ _))).mono ?_
  · match i, hi with
    | 0, _ => exact sx
    | 1, _ => exact sy
  rw [sumV2]
  rintro r w7 (⟨hok, v, rfl, hD⟩ | ⟨hno, rfl, hb7⟩)
  · have hb7 := hD.below
    obtain ⟨ng', s', m', e', rfl, hyy, hA⟩ := id hD
    obtain ⟨so, sn, sc, rfl⟩ := hA.num.shape
    have q0 := (hb7.block w.heap.size (by rw [size2]; omega)).trans (heap_a2 _ _ _)
    have x0 := blkC q0 0 rfl
    have x1 := blkC q0 1 rfl
    have x2 := blkC q0 2 rfl
    have z0 := blkF q0 0
    have z1 := blkF q0 1
    have z2 := blkF q0 2
    go_wp2
    refine bodyPost_ret (v := .agg #[.bool ng', .slice so sn sc, .int .i64 e']) (by simp [results, Tryz.results37, go_sem, x0, x1, x2]) rfl ?_
    exact .inl ⟨hok, _, rfl, dans_res3 (g := w.heap.size) hD (bel_alloc2 _ _ _) (Nat.le_refl _) (by rw [size2]; omega) _ _ _⟩
  · exact ⟨rfl, .inr ⟨hno, rfl, bel_trans (bel_alloc2 _ _ _) hb7⟩⟩
set_option maxRecDepth 100000 in
set_option maxHeartbeats 1000000 in
theorem dsub_ok (x y : NumR) (w : World) (hx : Row w x.ao x.n x.cap x.d) (hy : Row w y.ao y.n y.cap y.d) (ox : okR x = true) (oy : okR y = true) (hT : Tab w) :
    Calls Tryz.prog 13 #[x.v, y.v] w fun r w' => ∃ v er, r = .returned (.tuple #[v, .int .i64 er]) ∧ DFit w w' (x.V - y.V) v er := by
  have hmf : ∀ (fn : Fn) (first cap : Array Value) (w : World), (Instr.makeFunc fn first cap).run Tryz.prog w = .ok (.func fn first cap) w := fun _ _ _ _ => rfl
  have hE : ∀ (cap : Array Value) (w : World), (callFunc 37 cap).run Tryz.prog w = .ok (.enter 37 cap) w := by
    intro cap w
    simp [go_sem]
  have hA := allOk2 x y
  rw [ox, oy] at hA
  have hN := fun W q hb => nums2 (w := W) (g := w.heap.size + 3) (x := x) (y := y) (t := 31) q (hx.keeps hb) (hy.keeps hb)
  have hC := fun W hb cg ch => sub1_any x y.neg w.heap.size (w.heap.size + 1) W cg ch (hx.keeps hb) (hy.keeps hb) (okR_sane ox) (NumR.neg_sane (okR_sane oy)) (hT.keeps hb)
  generalize pair2 x y = pr at hA hN
  rw [show x.V - y.V = x.V + y.neg.V by rw [NumR.neg_V]; omega]
  generalize x.V + y.neg.V = V at hC ⊢
  clear ox oy
  obtain ⟨an, ao, n, ca, a, e⟩ := x
  obtain ⟨bn, bo, m, cb, b, f⟩ := y
  unfold NumR.v
  unfold NumR.neg at hC
  simp only at hx hy hN hC ⊢
  go_enter Tryz.func13, Tryz.ntmps13
  go_wp2_with fail
  refine (dvalids_any _ _ _ _ _ (hN _ (h4_3 _ _ _ _ _) (bel_a4 _ _ _ _ _))).mono ?_
  rw [hA]
  rintro r w1 ⟨rfl, hb1⟩
  have hbw := bel_trans (bel_a4 w _ _ _ _) hb1
  have g0 := (hb1.block w.heap.size (by rw [size4]; omega)).trans (h4_0 _ _ _ _ _)
  have g1 := (hb1.block (w.heap.size + 1) (by rw [size4]; omega)).trans (h4_1 _ _ _ _ _)
  have g2 := (hb1.block (w.heap.size + 2) (by rw [size4]; omega)).trans (h4_2 _ _ _ _ _)
  have hs4 : w.heap.size + 4 ≤ w1.heap.size := by have := hb1.size; rw [size4] at this; exact this
  have y0 := blkC g1 0 rfl
  have y1 := blkF g1 0
  go_wp2_with fail
  have hbw' : Below w.heap.size w (w1.setCell ⟨w.heap.size + 1, 0, none⟩ (.bool (!bn))) := hbw.setCell (p := ⟨w.heap.size + 1, 0, none⟩) (Nat.le_succ _) _
  have u0 := (Below.heap_setCell w1 ⟨w.heap.size + 1, 0, none⟩ (.bool (!bn)) w.heap.size (by show w.heap.size ≠ w.heap.size + 1; omega)).trans g0
  have u2 := (Below.heap_setCell w1 ⟨w.heap.size + 1, 0, none⟩ (.bool (!bn)) (w.heap.size + 2) (by show w.heap.size + 2 ≠ w.heap.size + 1; omega)).trans g2
  have u1 := heap_set g1 0 (.bool (!bn))
  have us : (w1.setCell ⟨w.heap.size + 1, 0, none⟩ (.bool (!bn))).heap.size = w1.heap.size := by simp [World.setCell]
  generalize w1.setCell ⟨w.heap.size + 1, 0, none⟩ (.bool (!bn)) = w9 at hbw' u0 u1 u2 us ⊢
  clear hbw g0 g1 g2 hb1 y0 y1
  have hbw := hbw'
  have g0 := u0
  have g1 : w9.heap[w.heap.size + 1]? = some (.cells #[.bool (!bn), .slice bo m cb, .int .i64 f] 31 (0, 0)) := u1
  have g2 := u2
  refine (told_any (V := V) (hE _) (fun W hW => hC W (bel_trans hbw hW) ((hW.block _ (by omega)).trans g0) ((hW.block _ (by omega)).trans g1))).mono ?_
  rintro r w2 ⟨v, er, rfl, hF⟩
  obtain ⟨ng', so, sn, sc, e', rfl⟩ := hF.shape
  have q0 := (hF.1.block (w.heap.size + 2) (by omega)).trans g2
  have x0 := blkC q0 0 rfl
  have x1 := blkC q0 1 rfl
  have x2 := blkC q0 2 rfl
  have z0 := blkF q0 0
  have z1 := blkF q0 1
  have z2 := blkF q0 2
  go_wp2
  refine bodyPost_ret (v := .tuple #[.agg #[.bool ng', .slice so sn sc, .int .i64 e'], .int .i64 er]) (by simp [results, Tryz.results13, go_sem, x0, x1, x2]) rfl ⟨_, _, rfl, ?_⟩
  exact dfit_res (g := w.heap.size + 2) hF hbw (by omega) (by omega) _ _ _
end Go.Proofs.YtobolgmjcebfmaaGreatDoor

/-
  Package dyadic: Neg, Abs, Sign, Scale, by contracts.
-/
namespace Go.Proofs.YtobolgmjcebfmaaGreatDoor
open Go Go.RowKit Go.Proofs.YtobolgmjcebfmaaGreatDoor.M
set_option linter.unusedSimpArgs false
set_option linter.unusedVariables false

end Go.Proofs.YtobolgmjcebfmaaGreatDoor

/-
  Package dyadic: compare, Cmp, by contracts.
-/
namespace Go.Proofs.YtobolgmjcebfmaaGreatDoor
open Go Go.RowKit Go.Proofs.YtobolgmjcebfmaaGreatDoor.M
set_option linter.unusedSimpArgs false
set_option linter.unusedVariables false

end Go.Proofs.YtobolgmjcebfmaaGreatDoor

/-
  Package dyadic's calls on numbers that are told by their worth.
-/
namespace Go.Proofs.YtobolgmjcebfmaaGreatDoor
open Go Go.RowKit Go.Proofs.YtobolgmjcebfmaaGreatDoor.M
set_option linter.unusedSimpArgs false
set_option linter.unusedVariables false

/-- A number by its worth, laid open. -/
theorem DNum.open {w : World} {v : Value} {V : Int} (h : DNum w v V) (ok : Dok V) : ∃ x : NumR, v = x.v ∧ Row w x.ao x.n x.cap x.d ∧ okR x = true ∧ x.V = V := by
  obtain ⟨ng, s, m, e, rfl, hy, ao, n, cap, d, rfl, hR, hN, rfl⟩ := h
  refine ⟨⟨ng, ao, n, cap, d, e⟩, rfl, hR, ?_, hy.val.symm⟩
  obtain ⟨o1, o2, o3⟩ := hy.ok.1 ok
  refine decide_eq_true ?_
  by_cases h0 : n = 0
  · left
    have hz : val d n = 0 := by rw [h0]; rfl
    rcases hy.form with ⟨_, f2, f3⟩ | ⟨f1, _⟩
    · exact ⟨h0, f2, f3⟩
    · omega
  · right
    have hp := val_pos hN (show 0 < n by omega)
    rcases hy.form with ⟨f1, _⟩ | ⟨_, f2⟩
    · omega
    · refine ⟨by show 0 < n; omega, ⟨?_, hN⟩, ?_, o2, o3⟩
      · exact Num.len (w := w) (ao := ao) (cap := cap) ⟨_, _, _, _, rfl, hR, hN, rfl⟩ o1
      · obtain ⟨k, hk⟩ : ∃ k, n = 1 + k := ⟨n - 1, by omega⟩
        have := val_split d 1 k
        rw [← hk] at this
        rw [this, show val d 1 = d 0 by show 0 + d 0 * 1 = _; omega, show P 1 = 1073741824 from rfl] at f2
        show d 0 % 2 = 1
        omega
theorem DFit.yes {w w' : World} {V er : Int} {v : Value} (h : DFit w w' V v er) (ok : Dok V) : er = 0 ∧ DAns w w' V v := by
  rcases h.2 with ⟨_, h1, h2⟩ | ⟨hn, _⟩
  · exact ⟨h1, h2⟩
  · exact absurd ok hn
theorem add_D {w : World} {x y : Value} {A B : Int} (hx : DNum w x A) (hy : DNum w y B) (oA : Dok A) (oB : Dok B) (hT : Tab w) :
    Calls Tryz.prog 44 #[x, y] w fun r w' => ∃ v er, r = .returned (.tuple #[v, .int .i64 er]) ∧ DFit w w' (A + B) v er := by
  obtain ⟨x, rfl, hR, ok, rfl⟩ := hx.open oA
  obtain ⟨y, rfl, hR', ok', rfl⟩ := hy.open oB
  exact dadd_ok x y w hR hR' ok ok' hT
theorem sub_D {w : World} {x y : Value} {A B : Int} (hx : DNum w x A) (hy : DNum w y B) (oA : Dok A) (oB : Dok B) (hT : Tab w) :
    Calls Tryz.prog 13 #[x, y] w fun r w' => ∃ v er, r = .returned (.tuple #[v, .int .i64 er]) ∧ DFit w w' (A - B) v er := by
  obtain ⟨x, rfl, hR, ok, rfl⟩ := hx.open oA
  obtain ⟨y, rfl, hR', ok', rfl⟩ := hy.open oB
  exact dsub_ok x y w hR hR' ok ok' hT
theorem mul_D {w : World} {x y : Value} {A B : Int} (hx : DNum w x A) (hy : DNum w y B) (oA : Dok A) (oB : Dok B) (hT : Tab w) :
    Calls Tryz.prog 12 #[x, y] w fun r w' => ∃ v er C, r = .returned (.tuple #[v, .int .i64 er]) ∧ C * 2 ^ 4194304 = A * B ∧ DFit w w' C v er := by
  obtain ⟨x, rfl, hR, ok, rfl⟩ := hx.open oA
  obtain ⟨y, rfl, hR', ok', rfl⟩ := hy.open oB
  refine (dmul_ok x y w hR hR' ok ok' hT).mono ?_
  rintro r w' ⟨v, er, rfl, hF⟩
  exact ⟨v, er, _, rfl, mulV_eq (by have := (okR_sane ok).2.2.1; omega) (by have := (okR_sane ok').2.2.1; omega), hF⟩
theorem float_D {w : World} {x : Value} {A : Int} (hx : DNum w x A) (oA : Dok A) (L : Lay64 w) (hT : Tab w) :
    Calls Tryz.prog 15 #[x] w fun r w' => ∃ ng m e, Dy A ng m e ∧ r = .returned (.tuple #[.int .i64 (if decide (blen m ≤ 63) then jp ng m e else 0), .bool (decide (blen m ≤ 63) && jk 52 2047 (-1074) m e)]) ∧ Below w.heap.size w w' := by
  obtain ⟨x, rfl, hR, ok, rfl⟩ := hx.open oA
  have hd := (okR_dy ok).1
  have hb := hd.ok.1 oA
  have := dfloat_any x w hR L hT (by unfold rng; omega)
  rw [ok] at this
  refine this.mono ?_
  rintro r w' ⟨rfl, hb⟩
  exact ⟨_, _, _, hd, rfl, hb⟩
end Go.Proofs.YtobolgmjcebfmaaGreatDoor

/-
  Package plumblaw3: alive.
-/
namespace Go.Proofs.YtobolgmjcebfmaaGreatDoor
open Go Go.RowKit Go.Proofs.YtobolgmjcebfmaaGreatDoor.M
set_option linter.unusedSimpArgs false
set_option linter.unusedVariables false

end Go.Proofs.YtobolgmjcebfmaaGreatDoor

/-
  The document's own answers (plumbref2): Shl, Shr, by contracts over the same values.
-/
namespace Go.Proofs.YtobolgmjcebfmaaGreatDoor
open Go Go.RowKit Go.Proofs.YtobolgmjcebfmaaGreatDoor.M
set_option linter.unusedSimpArgs false
set_option linter.unusedVariables false

end Go.Proofs.YtobolgmjcebfmaaGreatDoor

/-
  plumblaw2's Keep: lists of answers that are kept, in memory: what it is (Kp), Add, by its contract.
-/
namespace Go.Proofs.YtobolgmjcebfmaaGreatDoor
open Go Go.RowKit Go.Proofs.YtobolgmjcebfmaaGreatDoor.M
set_option linter.unusedSimpArgs false
set_option linter.unusedVariables false

/-- The first m of v. -/
def valsV (v : Nat → Value) (m : Nat) : List Value := (List.range m).map v
/-- A list of slices that is the call's own. -/
def OutV (B : Nat) (w : World) (x : Value) (m : Nat) (v : Nat → Value) : Prop := w.ownsRow B 29 1 x m (valsV v m)
theorem OutV.shape {B : Nat} {w : World} {x : Value} {m : Nat} {v : Nat → Value} (h : OutV B w x m v) : ∃ xo xc, x = .slice xo m xc ∧ m ≤ xc ∧ xc ≤ 9223372036854775807 ∧ (0 < m → ∃ g, xo = some ⟨g, 0, none⟩) := by
  rcases h.2 with ⟨rfl, rfl⟩ | ⟨g, cap, cur, rfl, hb, hg, hn, hm, _⟩
  · exact ⟨none, 0, rfl, Nat.le_refl _, by decide, fun h => by omega⟩
  · exact ⟨_, cap, rfl, hn, by unfold maxLen at hm; exact hm, fun _ => ⟨g, rfl⟩⟩
theorem OutV.of_block {B : Nat} {w w' : World} {x : Value} {m : Nat} {v : Nat → Value} (h : OutV B w x m v) (hb : ∀ g, x.ownBlock = some g → w'.heap[g]? = w.heap[g]?) : OutV B w' x m v := by
  refine ⟨h.1, ?_⟩
  rcases h.2 with hn | ⟨g, cap, cur, rfl, hbb, hg, rest⟩
  · exact .inl hn
  · exact .inr ⟨g, cap, cur, rfl, hbb, (hb g rfl).trans hg, rest⟩
theorem Out.of_block {B : Nat} {w w' : World} {x : Value} {n : Nat} {d : Nat → Int} (h : Out B w x n d) (hb : ∀ g, x.ownBlock = some g → w'.heap[g]? = w.heap[g]?) : Out B w' x n d := by
  refine ⟨h.1, ?_⟩
  rcases h.2 with hn | ⟨g, cap, cur, rfl, hbb, hg, rest⟩
  · exact .inl hn
  · exact .inr ⟨g, cap, cur, rfl, hbb, (hb g rfl).trans hg, rest⟩
theorem OutV.ge {B : Nat} {w : World} {x : Value} {n : Nat} {v : Nat → Value} (h : OutV B w x n v) {g : Nat} (hg : x.ownBlock = some g) : B ≤ g ∧ g < w.heap.size := by
  rcases h.2 with ⟨rfl, _⟩ | ⟨g', cap, cur, rfl, hbb, hg', rest⟩
  · simp [Value.ownBlock] at hg
  · simp only [Value.ownBlock, Option.some.injEq] at hg; subst hg; exact ⟨hbb, (Array.getElem?_eq_some_iff.1 hg').1⟩
theorem Out.ge {B : Nat} {w : World} {x : Value} {n : Nat} {v : Nat → Int} (h : Out B w x n v) {g : Nat} (hg : x.ownBlock = some g) : B ≤ g ∧ g < w.heap.size := by
  rcases h.2 with ⟨rfl, _⟩ | ⟨g', cap, cur, rfl, hbb, hg', rest⟩
  · simp [Value.ownBlock] at hg
  · simp only [Value.ownBlock, Option.some.injEq] at hg; subst hg; exact ⟨hbb, (Array.getElem?_eq_some_iff.1 hg').1⟩
theorem OutV.alloc {B : Nat} {w : World} {x : Value} {m : Nat} {v : Nat → Value} (h : OutV B w x m v) (o : Obj) : OutV B (w.alloc o) x m v := h.of_block fun g hg => Below.heap_alloc _ _ _ (h.ge hg).2
end Go.Proofs.YtobolgmjcebfmaaGreatDoor

/-
  What is kept, with the blocks it lies in (Kept); Keep.Add and answer of a number (An); Lent and Back.
-/
namespace Go.Proofs.YtobolgmjcebfmaaGreatDoor
open Go Go.RowKit Go.Proofs.YtobolgmjcebfmaaGreatDoor.M
set_option linter.unusedSimpArgs false
set_option linter.unusedVariables false

/-- A number's list, from B on. -/
def An (B : Nat) (w : World) (v : Value) (V : Int) : Prop := ∃ t d, Out B w v t d ∧ Nrm d t ∧ val d t = V
theorem An.keeps {B : Nat} {w w' : World} {v : Value} {V : Int} (h : An B w v V) (k : Below w.heap.size w w') : An B w' v V := by
  obtain ⟨t, d, h1, h2⟩ := h
  exact ⟨t, d, h1.stays k, h2⟩
theorem An.lower {B B' : Nat} {w : World} {v : Value} {V : Int} (h : An B w v V) (hB : B' ≤ B) : An B' w v V := by
  obtain ⟨t, d, h1, h2⟩ := h
  exact ⟨t, d, h1.lower hB, h2⟩
theorem An.nil (B : Nat) (w : World) : An B w (.slice none 0 0) 0 := ⟨0, fun _ => 0, Out.nil _ _ _, ⟨fun i hi => by omega, .inl rfl⟩, rfl⟩
theorem Ans.an {w w' : World} {V : Int} {v : Value} (h : Ans w w' V v) : An w.heap.size w' v V := by
  obtain ⟨t, d, h1, h2, h3, h4⟩ := h
  exact ⟨t, d, h1, h2, h3⟩
theorem An.shape {B : Nat} {w : World} {v : Value} {V : Int} (h : An B w v V) : ∃ ao n cap, v = .slice ao n cap := by
  obtain ⟨t, d, h1, h2⟩ := h
  obtain ⟨ao, cap, e, _⟩ := h1.row
  exact ⟨ao, t, cap, e⟩
theorem An.num {B : Nat} {w : World} {v : Value} {V : Int} (h : An B w v V) : Num w v V := by
  obtain ⟨t, d, h1, h2, h3⟩ := h
  obtain ⟨ao, cap, rfl, hR⟩ := h1.row
  exact ⟨ao, t, cap, d, rfl, hR, h2, h3⟩
theorem An.ge {B : Nat} {w : World} {v : Value} {V : Int} (h : An B w v V) {g : Nat} (hg : v.ownBlock = some g) : B ≤ g ∧ g < w.heap.size := by
  obtain ⟨t, d, h1, h2, h3⟩ := h
  exact h1.ge hg
/-- A list and an error, of a number that may be too long. -/
def FitA (B : Nat) (w : World) (V : Int) (v : Value) (er : Int) : Prop := (V < P 2000 ∧ er = 0 ∧ An B w v V) ∨ (P 2000 ≤ V ∧ er = 2 ∧ v = .slice none 0 0)
theorem FitA.keeps {B : Nat} {w w' : World} {v : Value} {V er : Int} (h : FitA B w V v er) (k : Below w.heap.size w w') : FitA B w' V v er := by
  rcases h with ⟨h1, h2, h3⟩ | h
  · exact .inl ⟨h1, h2, h3.keeps k⟩
  · exact .inr h
theorem FitA.lower {B B' : Nat} {w : World} {v : Value} {V er : Int} (h : FitA B w V v er) (hB : B' ≤ B) : FitA B' w V v er := by
  rcases h with ⟨h1, h2, h3⟩ | h
  · exact .inl ⟨h1, h2, h3.lower hB⟩
  · exact .inr h
theorem FitA.ge {B : Nat} {w : World} {v : Value} {V er : Int} (h : FitA B w V v er) {g : Nat} (hg : v.ownBlock = some g) : B ≤ g ∧ g < w.heap.size := by
  rcases h with ⟨h1, h2, h3⟩ | ⟨_, _, rfl⟩
  · exact h3.ge hg
  · simp [Value.ownBlock] at hg
theorem FitA.shape {B : Nat} {w : World} {v : Value} {V er : Int} (h : FitA B w V v er) : ∃ ao n cap, v = .slice ao n cap := by
  rcases h with ⟨h1, h2, h3⟩ | ⟨_, _, rfl⟩
  · exact h3.shape
  · exact ⟨_, _, _, rfl⟩
/-- A lent list: three marks behind it. -/
def lentD (a : Nat → Int) (n : Nat) : Nat → Int := cat a n (fun i => -71 - (i : Int))
/-- What Lent answers: a block of its own. -/
def LentA (w w' : World) (v : Value) (n : Nat) (a : Nat → Int) : Prop := ∃ g cap, v = .slice (some ⟨g, 0, none⟩) (n + 3) cap ∧ Out w.heap.size w' v (n + 3) (lentD a n) ∧ Below w.heap.size w w'
end Go.Proofs.YtobolgmjcebfmaaGreatDoor

/-
  Lent lists: what is read of them, and Back.
-/
namespace Go.Proofs.YtobolgmjcebfmaaGreatDoor
open Go Go.RowKit Go.Proofs.YtobolgmjcebfmaaGreatDoor.M
set_option linter.unusedSimpArgs false
set_option linter.unusedVariables false

theorem LentA.below {w w' : World} {v : Value} {n : Nat} {a : Nat → Int} (h : LentA w w' v n a) : Below w.heap.size w w' := by
  obtain ⟨g, cap, _, _, hb⟩ := h
  exact hb
theorem LentA.parts {w w' : World} {v : Value} {n : Nat} {a : Nat → Int} (h : LentA w w' v n a) : ∃ g cap, v = .slice (some ⟨g, 0, none⟩) (n + 3) cap ∧ Out w.heap.size w' (.slice (some ⟨g, 0, none⟩) (n + 3) cap) (n + 3) (lentD a n) := by
  obtain ⟨g, cap, rfl, h, _⟩ := h
  exact ⟨g, cap, rfl, h⟩
end Go.Proofs.YtobolgmjcebfmaaGreatDoor

/-
  The document's own Low, Pow, Root, by contracts over the same values.
-/
namespace Go.Proofs.YtobolgmjcebfmaaGreatDoor
open Go Go.RowKit Go.Proofs.YtobolgmjcebfmaaGreatDoor.M
set_option linter.unusedSimpArgs false
set_option linter.unusedVariables false

end Go.Proofs.YtobolgmjcebfmaaGreatDoor

/-
  Package plumbref3: Norm, by its contract: the one form of a number, however long.
-/
namespace Go.Proofs.YtobolgmjcebfmaaGreatDoor
open Go Go.RowKit Go.Proofs.YtobolgmjcebfmaaGreatDoor.M
set_option linter.unusedSimpArgs false
set_option linter.unusedVariables false

end Go.Proofs.YtobolgmjcebfmaaGreatDoor

/-
  Package plumblaw3: Norm, num, by contracts: a valid number of any one, not too great.
-/
namespace Go.Proofs.YtobolgmjcebfmaaGreatDoor
open Go Go.RowKit Go.Proofs.YtobolgmjcebfmaaGreatDoor.M
set_option linter.unusedSimpArgs false
set_option linter.unusedVariables false

end Go.Proofs.YtobolgmjcebfmaaGreatDoor

/-
  Plain mathematics: numbers that are not too great have a valid form. No Go text in sight.
-/
namespace Go.Proofs.YtobolgmjcebfmaaGreatDoor
open Go Go.RowKit Go.Proofs.YtobolgmjcebfmaaGreatDoor.M
set_option linter.unusedSimpArgs false
set_option linter.unusedVariables false

/-- V is a multiple of 2^-B, below 2^B, signs aside. -/
def Bd (B : Nat) (V : Int) : Prop := ∃ m : Int, V = m * pw (-(B : Int)) ∧ -(2 ^ (2 * B)) < m ∧ m < 2 ^ (2 * B)
theorem Bd.ok {B : Nat} {V : Int} (h : Bd B V) (hB : B ≤ 29000) : Dok V := by
  obtain ⟨m, rfl, h1, h2⟩ := h
  by_cases h0 : m = 0
  · rw [h0, Int.zero_mul]; exact dok_zero
  · have key : ∀ (ng : Bool) (M : Int), 0 < M → M < 2 ^ (2 * B) → Dok (sg ng M * pw (-(B : Int))) := fun ng M hM hlt => by
      obtain ⟨l, hl⟩ := isLow_ex hM
      have hy := Dy.of ng hl hM (show -4194304 ≤ -(B : Int) by omega)
      obtain ⟨c1, c2, c3⟩ := isLow_odd hl hM
      have hl2 : l < 2 * B := by
        have h3 : (1 : Int) * 2 ^ l ≤ M / 2 ^ l * 2 ^ l := Int.mul_le_mul_of_nonneg_right (by omega) (Int.le_of_lt (two_pos l))
        rw [c3] at h3
        exact two_lt_iff (by omega)
      refine hy.ok.2 ⟨?_, by omega, by omega⟩
      have h4 : M / 2 ^ l ≤ M := Int.ediv_le_self _ (by omega)
      have h5 : (2 : Int) ^ (2 * B) ≤ 2 ^ (30 * 2000) := two_le (by omega)
      rw [P_two]
      omega
    by_cases hp : 0 < m
    · exact key false m hp h2
    · have := key true (-m) (by omega) (by omega)
      rwa [show sg true (-m) = m by simp [sg]] at this
theorem Bd.up {B C : Nat} {V : Int} (h : Bd B V) (hBC : B ≤ C) (hC : C ≤ 4194304) : Bd C V := by
  obtain ⟨m, rfl, h1, h2⟩ := h
  have hp := two_pos (C - B)
  have e : pw (-(B : Int)) = pw (-(C : Int)) * 2 ^ (C - B) := by
    rw [← pw_add (by omega)]; congr 1; omega
  have hle : (2 : Int) ^ (2 * B) * 2 ^ (C - B) ≤ 2 ^ (2 * C) := by rw [← Int.pow_add]; exact two_le (by omega)
  refine ⟨m * 2 ^ (C - B), by rw [e]; grind, ?_, ?_⟩
  · have : -(2 ^ (2 * B)) * 2 ^ (C - B) < m * 2 ^ (C - B) := Int.mul_lt_mul_of_pos_right h1 hp
    rw [Int.neg_mul] at this
    omega
  · have := Int.mul_lt_mul_of_pos_right h2 hp
    omega
theorem Bd.add {B : Nat} {V W : Int} (h : Bd B V) (k : Bd B W) (hB : B < 4194304) : Bd (B + 1) (V + W) := by
  obtain ⟨m, rfl, h1, h2⟩ := h
  obtain ⟨n, rfl, k1, k2⟩ := k
  have e : pw (-(B : Int)) = pw (-((B + 1 : Nat) : Int)) * 2 := by
    have := pw_add (e := -((B + 1 : Nat) : Int)) (by omega) 1
    rw [Int.pow_succ, Int.pow_zero, Int.one_mul] at this
    rw [← this]; congr 1; omega
  have e2 : (2 : Int) ^ (2 * (B + 1)) = 2 ^ (2 * B) * 4 := by rw [show 2 * (B + 1) = 2 * B + 2 by omega, Int.pow_add]; rfl
  refine ⟨2 * (m + n), by rw [e]; grind, ?_, ?_⟩ <;> rw [e2] <;> omega
theorem Bd.neg {B : Nat} {V : Int} (h : Bd B V) : Bd B (-V) := by
  obtain ⟨m, rfl, h1, h2⟩ := h
  exact ⟨-m, by rw [Int.neg_mul], by omega, by omega⟩
theorem Bd.mul {B : Nat} {V W U : Int} (h : Bd B V) (k : Bd B W) (hU : U * 2 ^ 4194304 = V * W) (hB : B ≤ 1000000) : Bd (2 * B) U := by
  obtain ⟨m, rfl, h1, h2⟩ := h
  obtain ⟨n, rfl, k1, k2⟩ := k
  have e : U = m * n * pw (-((2 * B : Nat) : Int)) := by
    refine scale_inj ?_
    rw [hU, Int.mul_assoc (m * n), show -((2 * B : Nat) : Int) = -(B : Int) + -(B : Int) by omega, ← pw_mul (by omega) (by omega)]; grind
  refine ⟨m * n, e, ?_, ?_⟩
  all_goals
    have hab : (m * n).natAbs < ((2 : Int) ^ (2 * (2 * B))).natAbs := by
      rw [Int.natAbs_mul, show 2 * (2 * B) = 2 * B + 2 * B by omega, Int.pow_add, Int.natAbs_mul]
      exact Nat.mul_lt_mul'' (by have := two_pos (2 * B); omega) (by have := two_pos (2 * B); omega)
    have := two_pos (2 * (2 * B))
    omega
theorem bd_num {ng : Bool} {M e : Int} (h0 : 0 ≤ M) (h1 : M < P 30) (e0 : -3000 < e) (e1 : e < 3000) : Bd 4000 (sg ng M * pw e) := by
  have hs : pw e = pw (-((4000 : Nat) : Int)) * 2 ^ (e + 4000).toNat := by
    rw [← pw_add (by omega)]; congr 1; omega
  have hp := two_pos (e + 4000).toNat
  have hlt : M * 2 ^ (e + 4000).toNat < 2 ^ (2 * 4000) := by
    have a : M * 2 ^ (e + 4000).toNat < P 30 * 2 ^ (e + 4000).toNat := Int.mul_lt_mul_of_pos_right h1 hp
    rw [P_two, ← Int.pow_add] at a
    have b : (2 : Int) ^ (30 * 30 + (e + 4000).toNat) ≤ 2 ^ (2 * 4000) := two_le (by omega)
    omega
  have hn : 0 ≤ M * 2 ^ (e + 4000).toNat := Int.mul_nonneg h0 (Int.le_of_lt hp)
  refine ⟨sg ng (M * 2 ^ (e + 4000).toNat), by rw [hs, sg_sgn, sg_sgn]; grind, ?_, ?_⟩
  all_goals
    generalize M * 2 ^ (e + 4000).toNat = X at *
    generalize (2 : Int) ^ (2 * 4000) = T at *
    cases ng <;> simp only [sg] <;> simp <;> omega
end Go.Proofs.YtobolgmjcebfmaaGreatDoor

/-
  What a row gives of its arguments: a slice of ints that came in, as the walks want it.
-/
namespace Go.Proofs.YtobolgmjcebfmaaGreatDoor
open Go Go.ChangeShapes Go.WideShapes Go.ChangeAt Go.RowKit Go.Proofs.YtobolgmjcebfmaaGreatDoor.M
set_option linter.unusedSimpArgs false
set_option linter.unusedVariables false

theorem rng_of {x : Int} (h : (Lit.int .i64 x).wf = true) : rng x := by
  simp [Lit.wf, IntKind.min, IntKind.max, IntKind.signed, IntKind.bits] at h
  unfold rng; omega
end Go.Proofs.YtobolgmjcebfmaaGreatDoor

/-
  What a row's list gives: the library's table of trailing zeros.
-/
namespace Go.Proofs.YtobolgmjcebfmaaGreatDoor
open Go Go.RowKit Go.ChangeShapes Go.Proofs.YtobolgmjcebfmaaGreatDoor.M
set_option linter.unusedSimpArgs false
set_option linter.unusedVariables false

theorem gTab : Tryz.prog.globalNamed "math/bits.deBruijn64tab" = some 2 := by kernel_rfl
theorem gTabType : (Tryz.prog.globals[(2 : Nat)]?).map (·.type) = some 123 := by kernel_rfl
theorem cellsTab : Tryz.prog.cellsOf 123 = 64 := by kernel_rfl
theorem cellsByte : Tryz.prog.cellsOf 5 = 1 := by kernel_rfl
def tabInts : List Int := Lib.deBruijn64tab.map Int.ofNat
theorem tab_get : ∀ j, j < 64 → tabInts.getD j 0 = ((Lib.deBruijn64tab.getD j 0 : Nat) : Int) := by decide +kernel
end Go.Proofs.YtobolgmjcebfmaaGreatDoor

/-
  What a row's list of package-level variables gives: the layouts' cells, and the cells of the library's table for b_trailing zeros.
-/
namespace Go.Proofs.YtobolgmjcebfmaaGreatDoor
open Go Go.RowKit Go.ChangeShapes Go.Proofs.YtobolgmjcebfmaaGreatDoor.M
set_option linter.unusedSimpArgs false
set_option linter.unusedVariables false

theorem cellsInt : Tryz.prog.cellsOf 3 = 1 := by kernel_rfl
theorem cellsLayout : Tryz.prog.cellsOf 57 = 3 := by kernel_rfl
theorem g64 : Tryz.prog.globalNamed "plumb/bits.binary64" = some 0 := by kernel_rfl
theorem g64Type : (Tryz.prog.globals[(0 : Nat)]?).map (·.type) = some 57 := by kernel_rfl
theorem g32 : Tryz.prog.globalNamed "plumb/bits.binary32" = some 3 := by kernel_rfl
theorem g32Type : (Tryz.prog.globals[(3 : Nat)]?).map (·.type) = some 57 := by kernel_rfl

set_option maxRecDepth 100000 in
/-- A layout's three cells, off its reading. -/
theorem three {W : World} {name : String} {g : Nat} {a b c : Int} {rest : List (String × DataW Unit)} (hg : Tryz.prog.globalNamed name = some g) (hty : (Tryz.prog.globals[g]?).map (·.type) = some 57)
    (h : laidMet Tryz.prog ((name, .agg [.lit (.int .i64 a), .lit (.int .i64 b), .lit (.int .i64 c)]) :: rest) W) :
    W.cell? ⟨g, 0, none⟩ = some (.int .i64 a) ∧ W.cell? ⟨g, 1, none⟩ = some (.int .i64 b) ∧ W.cell? ⟨g, 2, none⟩ = some (.int .i64 c) := by
  obtain ⟨ps, ⟨g', t', cs, fuel, p, q, hg', ht', hvar, hd, _, _⟩, _⟩ := h
  obtain rfl := Option.some.inj (hg.symm.trans hg')
  obtain rfl := Option.some.inj (hty.symm.trans ht')
  obtain ⟨y0, y1, y2, n, hx, hl, h0, h1, h2⟩ := Go.Deep.trod_struct3 Tryz.underlying57 hd
  obtain ⟨k0, e0, f0, _⟩ := DataW.trod_int Tryz.underlying3 h0
  obtain ⟨k1, e1, f1, _⟩ := DataW.trod_int Tryz.underlying3 h1
  obtain ⟨k2, e2, f2, _⟩ := DataW.trod_int Tryz.underlying3 h2
  rw [f0, f1, f2] at hx
  simp only [Prod.mk.injEq, DataW.agg.injEq, List.cons.injEq, DataW.lit.injEq, Lit.int.injEq, true_and, and_true] at hx
  obtain ⟨⟨rfl, rfl, rfl⟩, _⟩ := hx
  rw [cellsLayout] at hl
  rw [cellsInt] at e0 e1 e2
  have v := fun i => World.var?_cell hg hvar i
  obtain ⟨l⟩ := cs
  simp only at hl e0 e1 e2
  match l, hl with
  | [c0, c1, c2], _ =>
    simp at e0 e1 e2
    subst e0 e1 e2
    exact ⟨by simpa using v 0, by simpa using v 1, by simpa using v 2⟩

end Go.Proofs.YtobolgmjcebfmaaGreatDoor

/-
  What a row gives: a number that came in, as the walks want it; the library's table and the layout of binary64.
-/
namespace Go.Proofs.YtobolgmjcebfmaaGreatDoor
open Go Go.ChangeShapes Go.WideShapes Go.ChangeAt Go.RowKit Go.Proofs.YtobolgmjcebfmaaGreatDoor.M
set_option linter.unusedSimpArgs false
set_option linter.unusedVariables false

/-- What the laws want of the package's variables. -/
structure Hold (w : World) : Prop where
  lay : Lay64 w
  tab : Tab w
theorem Hold.keeps {w w' : World} (h : Hold w) (hb : Below w.heap.size w w') : Hold w' := ⟨h.lay.keeps hb, h.tab.keeps hb⟩
end Go.Proofs.YtobolgmjcebfmaaGreatDoor

/-
  Package dyadic's calls on numbers that are not too great: what they answer is told outright.
-/
namespace Go.Proofs.YtobolgmjcebfmaaGreatDoor
open Go Go.RowKit Go.Proofs.YtobolgmjcebfmaaGreatDoor.M
set_option linter.unusedSimpArgs false
set_option linter.unusedVariables false

theorem dans_shape {w w' : World} {V : Int} {v : Value} (h : DAns w w' V v) : ∃ ng so sn sc e, v = .agg #[.bool ng, .slice so sn sc, .int .i64 e] := by
  obtain ⟨ng, s, m, e, h1, _, hA⟩ := h
  obtain ⟨so, sn, sc, rfl⟩ := hA.num.shape
  exact ⟨_, _, _, _, _, h1⟩
theorem sub_B {w : World} {x y : Value} {A B : Int} {k : Nat} (hx : DNum w x A) (hy : DNum w y B) (bA : Bd k A) (bB : Bd k B) (hk : k ≤ 28000) (hT : Tab w) :
    Calls Tryz.prog 13 #[x, y] w fun r w' => ∃ v, r = .returned (.tuple #[v, .int .i64 0]) ∧ DAns w w' (A - B) v := by
  refine (sub_D hx hy (bA.ok (by omega)) (bB.ok (by omega)) hT).mono ?_
  rintro r w' ⟨v, er, rfl, hF⟩
  have hb := bA.add bB.neg (by omega)
  rw [← Int.sub_eq_add_neg] at hb
  obtain ⟨rfl, hD⟩ := hF.yes (hb.ok (by omega))
  exact ⟨v, rfl, hD⟩
theorem mul_B {w : World} {x y : Value} {A B : Int} {k : Nat} (hx : DNum w x A) (hy : DNum w y B) (bA : Bd k A) (bB : Bd k B) (hk : k ≤ 14000) (hT : Tab w) :
    Calls Tryz.prog 12 #[x, y] w fun r w' => ∃ v C, r = .returned (.tuple #[v, .int .i64 0]) ∧ DAns w w' C v ∧ C * 2 ^ 4194304 = A * B ∧ Bd (2 * k) C := by
  refine (mul_D hx hy (bA.ok (by omega)) (bB.ok (by omega)) hT).mono ?_
  rintro r w' ⟨v, er, C, rfl, hC, hF⟩
  have hb := bA.mul bB hC (by omega)
  obtain ⟨rfl, hD⟩ := hF.yes (hb.ok (by omega))
  exact ⟨v, C, rfl, hD, hC, hb⟩
end Go.Proofs.YtobolgmjcebfmaaGreatDoor

/-
  plumblaw4.num, by its contract: a valid number of any one.
-/
namespace Go.Proofs.YtobolgmjcebfmaaGreatDoor
open Go Go.RowKit Go.Proofs.YtobolgmjcebfmaaGreatDoor.M
set_option linter.unusedSimpArgs false
set_option linter.unusedVariables false

end Go.Proofs.YtobolgmjcebfmaaGreatDoor

/-
  plumblaw4.order, by its contract.
-/
namespace Go.Proofs.YtobolgmjcebfmaaGreatDoor
open Go Go.RowKit Go.Proofs.YtobolgmjcebfmaaGreatDoor.M
set_option linter.unusedSimpArgs false
set_option linter.unusedVariables false

/-- A pattern's value, in the scale. -/
def patV (b : Int) : Int := sg (pneg b) (pmag b) * pw (pexp b)
/-- How a number stands to a pattern. -/
def ordP (A b : Int) : Int := if pok b = true then ord A (patV b) else if b < 0 then 1 else -1
theorem patV_dok {b : Int} (h : pok b = true) : Dok (patV b) := by
  obtain ⟨i0, i1, i2, i3⟩ := pmag_in h
  exact dok_small i0 (by omega) i2 i3
end Go.Proofs.YtobolgmjcebfmaaGreatDoor
