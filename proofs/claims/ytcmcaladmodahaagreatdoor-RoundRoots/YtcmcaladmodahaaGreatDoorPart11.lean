/-
  Parts of the proof, one behind another.
-/
import Derived.Test.YtcmcaladmodahaaGreatDoorPart10
import Derived.Test.YtcmcaladmodahaaGreatDoorPart8
import Derived.Laws.Externs
import Derived.Laws.Cover2
import Derived.Test.YtcmcaladmodahaaGreatDoorPart3
import Derived.Test.YtcmcaladmodahaaGreatDoorPart1
import Derived.Test.YtcmcaladmodahaaGreatDoorPart5
import Derived.Deep.RegionHeld3
/-
  Package round: Quot, by its contract.
-/
namespace Go.Proofs.YtcmcaladmodahaaGreatDoor
open Go Go.RowKit Go.Proofs.YtcmcaladmodahaaGreatDoor.M
set_option linter.unusedSimpArgs false
set_option linter.unusedVariables false

/-- What Quot answers at numbers that are valid, the second not 0. -/
def qR64 (way : Int) (a b : NumR) : Int × Bool := r64 way (a.ng != b.ng) false (scV (val a.d a.n) (qK (val a.d a.n) (val b.d b.n)) / val b.d b.n).toNat (a.e - b.e - qK (val a.d a.n) (val b.d b.n)) (scC (val a.d a.n) (qK (val a.d a.n) (val b.d b.n)) || decide (scV (val a.d a.n) (qK (val a.d a.n) (val b.d b.n)) % val b.d b.n ≠ 0))
set_option maxRecDepth 100000 in
set_option maxHeartbeats 1000000 in
theorem quot_ok (way : Int) (hw : 0 ≤ way ∧ way ≤ 3) (a b : NumR) (w : World) (ra : Row w a.ao a.n a.cap a.d) (rb : Row w b.ao b.n b.cap b.d) (oa : okR a = true) (ob : okR b = true) (hb0 : 0 < b.n) (Ev : Env w) (hT : Tab w) :
    Calls Tryz.prog 20 #[a.v, b.v, .int .i64 way] w fun e w' => e = .returned (.tuple #[.int .i64 (qR64 way a b).1, .bool (qR64 way a b).2, .int .i64 0]) ∧ Below w.heap.size w w' := by
  obtain ⟨na, hn, ea0, ea1⟩ := okR_sane oa
  obtain ⟨nb, hm, eb0, eb1⟩ := okR_sane ob
  have hA0 := val_nonneg na.1
  have hB0 : 0 < val b.d b.n := val_pos nb hb0
  have hAl := blen_nrm na
  have hBl := blen_nrm nb
  have hsm := qK_small hA0 hB0
  have hqk : qK (val a.d a.n) (val b.d b.n) = 62 + (blen (val b.d b.n) : Int) - (blen (val a.d a.n) : Int) := rfl
  have hEF : ∀ (cap : Array Value) (w : World), (callFunc 15 cap).run Tryz.prog w = .ok (.enter 15 cap) w := by
    intro cap w
    simp [go_sem]
  have hEG : ∀ (cap : Array Value) (w : World), (callFunc 43 cap).run Tryz.prog w = .ok (.enter 43 cap) w := by
    intro cap w
    simp [go_sem]
  have hmf : ∀ (fn : Fn) (first cap : Array Value) (w : World), (Instr.makeFunc fn first cap).run Tryz.prog w = .ok (.func fn first cap) w := fun _ _ _ _ => rfl
  have CR := fun W (hb : Below w.heap.size w W) (g : Nat) (hg : W.heap[g]? = some (.cells #[.bool a.ng, .slice a.ao a.n a.cap, .int .i64 a.e, .bool b.ng, .slice b.ao b.n b.cap, .int .i64 b.e] 24 (0, 0))) => rounded_ok way hw 15 43 (some ⟨g, 0, none⟩) 2 2 (pair2 a b) W (nums2 hg (ra.keeps hb) (rb.keeps hb))
    (fun i hi => by
      have hi2 : i = 0 ∨ i = 1 := by omega
      rcases hi2 with rfl | rfl
      · exact oa
      · exact ob) (a.ng != b.ng) (scV (val a.d a.n) (qK (val a.d a.n) (val b.d b.n)) / val b.d b.n).toNat (a.e - b.e - qK (val a.d a.n) (val b.d b.n)) (scC (val a.d a.n) (qK (val a.d a.n) (val b.d b.n)) || decide (scV (val a.d a.n) (qK (val a.d a.n) (val b.d b.n)) % val b.d b.n ≠ 0)) false _ _ hEF hEG
    (fun W2 hb2 => quotient_any g a b W2 ((hb2.block _ (Array.getElem?_eq_some_iff.1 hg).1).trans hg) ((ra.keeps hb).keeps hb2) ((rb.keeps hb).keeps hb2) oa ob hb0 ((hT.keeps hb).keeps hb2))
    (fun W2 hb2 => binary64_any way hw (a.ng != b.ng) false _ _ _ W2 ((Ev.keeps hb).keeps hb2) (by omega) (by omega))
  have HQ : qR64 way a b = r64 way (a.ng != b.ng) false (scV (val a.d a.n) (qK (val a.d a.n) (val b.d b.n)) / val b.d b.n).toNat (a.e - b.e - qK (val a.d a.n) (val b.d b.n)) (scC (val a.d a.n) (qK (val a.d a.n) (val b.d b.n)) || decide (scV (val a.d a.n) (qK (val a.d a.n) (val b.d b.n)) % val b.d b.n ≠ 0)) := rfl
  rw [← HQ] at CR
  generalize qR64 way a b = R at CR ⊢
  clear HQ oa ob hsm hqk hAl hBl hA0 hB0 ea0 ea1 eb0 eb1 hn hm na nb ra rb hb0
  unfold NumR.v
  obtain ⟨a_g, a_o, a_n, a_c, a_d, a_e⟩ := a
  obtain ⟨b_g, b_o, b_n, b_c, b_d, b_e⟩ := b
  simp only at *
  go_enter Tryz.func20, Tryz.ntmps20
  go_wp2_with fail
  refine (CR _ ?_ _ ?_).mono ?_
  rotate_left
  rotate_left
  · rintro _ w2 ⟨rfl, hb3⟩
    go_wp2
    all_goals refine bodyPost_ret (v := .tuple #[.int .i64 R.1, .bool R.2, .int .i64 0]) (by simp [results, Tryz.results20, go_sem]) rfl ⟨rfl, bel_trans (bel_a3 _ _ _ _) hb3⟩
  · exact bel_a3 _ _ _ _
  · exact h3_2 _ _ _ _
end Go.Proofs.YtcmcaladmodahaaGreatDoor

/-
  Package round: sums to the nearest, by their contracts.
-/
namespace Go.Proofs.YtcmcaladmodahaaGreatDoor
open Go Go.RowKit Go.Proofs.YtcmcaladmodahaaGreatDoor.M
set_option linter.unusedSimpArgs false
set_option linter.unusedVariables false

set_option maxRecDepth 100000 in
set_option maxHeartbeats 1000000 in
theorem operate_near (F G : Value) (hF : ∃ f, F = .func f #[] #[]) (hG : ∃ f, G = .func f #[] #[]) (near : Int) (R : Value) (o : Option Addr) (n c : Nat) (w : World) :
    Calls Tryz.prog 73 #[.agg #[F, G], .int .i64 near, .int .i64 0, R, .slice o n c] w fun e w' => e = .returned (.tuple #[.int .i64 near, .int .i64 0]) ∧ Below w.heap.size w w' := by
  obtain ⟨f, rfl⟩ := hF
  obtain ⟨g, rfl⟩ := hG
  have CW := fun W => wayOf_any 0 W
  unfold wayV wayF at CW
  simp only [if_true] at CW
  have hst : ∀ (p : Addr) (F : Nat) (m : Mode) (w : World), (store p (.func (.func F) #[] #[]) m).run Tryz.prog w = stored Tryz.prog w p (.func (.func F) #[] #[]) m := fun p F m w => run_store _ w p _ m rfl
  go_enter Tryz.func73, Tryz.ntmps73
  go_wp2_with fail
  refine (CW _).mono ?_
  rintro _ w2 ⟨rfl, hb2⟩
  have hb1 := bel_alloc w (.cells #[.func f #[] #[], .func g #[] #[]] 81)
  have hbw := bel_trans hb1 hb2
  have q1 := heap_alloc_new w2 (.cells #[.nilFunc] 60)
  have y0 := blkC q1 0 rfl
  have y1 := blkF q1 0
  clear CW
  go_wp2
  all_goals refine bodyPost_ret (v := .tuple #[.int .i64 near, .int .i64 0]) (by simp [results, Tryz.results73, go_sem]) rfl ⟨rfl, ?_⟩
  all_goals exact bel_trans hbw (bel_alloc _ _)
set_option maxRecDepth 100000 in
set_option maxHeartbeats 1000000 in
theorem kadd_near (F G : Value) (hF : ∃ f, F = .func f #[] #[]) (hG : ∃ f, G = .func f #[] #[]) (near a b : Int) (w : World) :
    Calls Tryz.prog 45 #[.agg #[F, G], .int .i64 near, .int .i64 a, .int .i64 b, .int .i64 0] w fun e w' => e = .returned (.tuple #[.int .i64 near, .int .i64 0]) ∧ Below w.heap.size w w' := by
  have CO := fun R o n c W => operate_near F G hF hG near R o n c W
  obtain ⟨f, rfl⟩ := hF
  obtain ⟨g, rfl⟩ := hG
  have hmf : ∀ (fn : Fn) (first cap : Array Value) (w : World), (Instr.makeFunc fn first cap).run Tryz.prog w = .ok (.func fn first cap) w := fun _ _ _ _ => rfl
  go_enter Tryz.func45, Tryz.ntmps45
  go_wp2_with fail
  refine (CO _ _ _ _ _).mono ?_
  rintro _ w2 ⟨rfl, hb2⟩
  go_wp2
  all_goals refine bodyPost_ret (v := .tuple #[.int .i64 near, .int .i64 0]) (by simp [results, Tryz.results45, go_sem]) rfl ⟨rfl, ?_⟩
  all_goals exact bel_trans ((bel_a4 _ _ _ _ _).alloc (bel_a4 _ _ _ _ _).size _) hb2
set_option maxRecDepth 100000 in
theorem double_any (w : World) : Calls Tryz.prog 44 #[] w fun e w' => e = .returned (.agg #[.func (.func 6) #[] #[], .func (.func 15) #[] #[]]) ∧ Below w.heap.size w w' := by
  have hmf : ∀ (fn : Fn) (first cap : Array Value) (w : World), (Instr.makeFunc fn first cap).run Tryz.prog w = .ok (.func fn first cap) w := fun _ _ _ _ => rfl
  have hst : ∀ (p : Addr) (F : Nat) (m : Mode) (w : World), (store p (.func (.func F) #[] #[]) m).run Tryz.prog w = stored Tryz.prog w p (.func (.func F) #[] #[]) m := fun p F m w => run_store _ w p _ m rfl
  have q1 := heap_alloc_new w (.cells #[.nilFunc, .nilFunc] 81)
  have x0 := blkC q1 0 rfl
  have x1 := blkC q1 1 rfl
  have z0 := blkF q1 0
  have z1 := blkF q1 1
  go_enter Tryz.func44, Tryz.ntmps44
  go_wp2
  all_goals refine bodyPost_ret (v := .agg #[.func (.func 6) #[] #[], .func (.func 15) #[] #[]]) (by simp [results, Tryz.results44, go_sem]) rfl ⟨rfl, ?_⟩
  all_goals exact bel_alloc _ _
set_option maxRecDepth 100000 in
theorem single_any (w : World) : Calls Tryz.prog 48 #[] w fun e w' => e = .returned (.agg #[.func (.func 79) #[] #[], .func (.func 80) #[] #[]]) ∧ Below w.heap.size w w' := by
  have hmf : ∀ (fn : Fn) (first cap : Array Value) (w : World), (Instr.makeFunc fn first cap).run Tryz.prog w = .ok (.func fn first cap) w := fun _ _ _ _ => rfl
  have hst : ∀ (p : Addr) (F : Nat) (m : Mode) (w : World), (store p (.func (.func F) #[] #[]) m).run Tryz.prog w = stored Tryz.prog w p (.func (.func F) #[] #[]) m := fun p F m w => run_store _ w p _ m rfl
  have q1 := heap_alloc_new w (.cells #[.nilFunc, .nilFunc] 81)
  have x0 := blkC q1 0 rfl
  have x1 := blkC q1 1 rfl
  have z0 := blkF q1 0
  have z1 := blkF q1 1
  go_enter Tryz.func48, Tryz.ntmps48
  go_wp2
  all_goals refine bodyPost_ret (v := .agg #[.func (.func 79) #[] #[], .func (.func 80) #[] #[]]) (by simp [results, Tryz.results48, go_sem]) rfl ⟨rfl, ?_⟩
  all_goals exact bel_alloc _ _
end Go.Proofs.YtcmcaladmodahaaGreatDoor

/-
  Floats made of patterns; 'alive' of plumblaw1: it answers true, in every world that holds the two layouts.
-/
namespace Go.Proofs.YtcmcaladmodahaaGreatDoor
open Go Go.RowKit Go.Proofs.YtcmcaladmodahaaGreatDoor.M
set_option linter.unusedSimpArgs false
set_option linter.unusedVariables false

theorem run_from64 (n : Int) (w : World) : (callFunc 78 #[.int .u64 n]).run Tryz.prog w = .ok (.value (.float .f64 n.toNat)) w := by
  rw [run_callFunc_extern Tryz.func78 (by kernel_rfl) (by kernel_rfl) (by kernel_rfl) (e := Extern.MathFloatBits.float64frombits) (by kernel_rfl)]
  rfl
theorem run_from32 (n : Int) (w : World) : (callFunc 83 #[.int .u32 n]).run Tryz.prog w = .ok (.value (.float .f32 n.toNat)) w := by
  rw [run_callFunc_extern Tryz.func83 (by kernel_rfl) (by kernel_rfl) (by kernel_rfl) (e := Extern.MathFloatBits.float32frombits) (by kernel_rfl)]
  rfl
theorem ret_float {k : FloatKind} {a b : Nat} (h : a = b) : Ending.returned (.float k a) = .returned (.float k b) := by rw [h]
theorem bitsFloat (b : Int) (w : World) :
    Calls Tryz.prog 47 #[.int .i64 b] w fun e w' => e = .returned (.float .f64 (wd b)) ∧ w' = w := by
  have hd := run_from64
  go_enter Tryz.func47, Tryz.ntmps47
  go_wp2
  go_ret
  exact ⟨ret_float (by rw [IntKind.wrap_u64]; rfl), rfl⟩
theorem bitsFloat32 (b : Int) (w : World) (h : in32 b = true) :
    Calls Tryz.prog 50 #[.int .i64 b] w fun e w' => e = .returned (.float .f32 b.toNat) ∧ w' = w := by
  have hb := of_decide_eq_true h
  have hd := run_from32
  go_enter Tryz.func50, Tryz.ntmps50
  go_wp2_with (go_at_call 82; refine (bitsFits32 _ _).mono ?_; rintro e w1 ⟨rfl, rfl⟩)
  go_ret
  exact ⟨rfl, rfl⟩
end Go.Proofs.YtcmcaladmodahaaGreatDoor

/-
  The document's own answers for chapter 1 (package plumbref1), but for Join: each call by a contract over the same plain functions as package bits'.
-/
namespace Go.Proofs.YtcmcaladmodahaaGreatDoor
open Go Go.RowKit Go.Proofs.YtcmcaladmodahaaGreatDoor.M
set_option linter.unusedSimpArgs false
set_option linter.unusedVariables false

theorem hideIt {p : Prop} (h : p) : Hid p := h

end Go.Proofs.YtcmcaladmodahaaGreatDoor

/-
  The document's own answers for chapter 1, on: the calls of 32 bits, the neighbours, the signs, the order.
-/
namespace Go.Proofs.YtcmcaladmodahaaGreatDoor
open Go Go.RowKit Go.Proofs.YtcmcaladmodahaaGreatDoor.M
set_option linter.unusedSimpArgs false
set_option linter.unusedVariables false

end Go.Proofs.YtcmcaladmodahaaGreatDoor

/-
  Float32, Of and Of32 of package bits, Told and Told32 of the document's own answer, by contracts.
-/
namespace Go.Proofs.YtcmcaladmodahaaGreatDoor
open Go Go.RowKit Go.Proofs.YtcmcaladmodahaaGreatDoor.M
set_option linter.unusedSimpArgs false
set_option linter.unusedVariables false

def told (b : Int) : Int := if cls b = 4 then 9221120237041090561 else b
def told32 (b : Int) : Int := if cls32 b = 4 then 2143289345 else b
def wd32 (b : Int) : Nat := if in32 b then b.toNat else 2143289345
theorem sSign : Ieee.single.signWeight = 2147483648 := by decide
theorem sInf : Ieee.single.infRung = 2139095040 := by decide
theorem sOk : Ieee.single.binade ≤ Ieee.single.infRung := by decide
theorem cls32_4 {b : Int} (h : in32 b = true) : cls32 b = 4 ↔ 2139095040 < b.toNat % 2147483648 := by
  have hb := of_decide_eq_true h
  unfold cls32; rw [if_neg (by omega)]
  unfold fld32 frc32; repeat' split
  all_goals omega
theorem no64 {b : Int} (hb : rng b) : (FloatKind.f64.format.order (wd b) (wd b) != some .eq) = decide (cls b = 4) := by
  have := same_order hb hb
  unfold bne
  rw [this]; unfold same
  by_cases h : cls b = 4 <;> simp [h]
theorem no32 (b : Int) : (FloatKind.f32.format.order (wd32 b) (wd32 b) != some .eq) = decide (cls32 b = 4) := by
  by_cases hi : in32 b = true
  · have e : wd32 b = b.toNat := by unfold wd32; rw [if_pos hi]
    rw [e]
    by_cases h : cls32 b = 4
    · have hn := order_nan Ieee.single sOk b.toNat b.toNat (.inl (by rw [sSign, sInf]; exact (cls32_4 hi).1 h))
      have hn' : FloatKind.f32.format.order b.toNat b.toNat = none := hn
      rw [hn']; simp [h]
    · have hle : b.toNat % Ieee.single.signWeight ≤ Ieee.single.infRung := by
        rw [sSign, sInf]; exact Nat.le_of_not_lt fun k => h ((cls32_4 hi).2 k)
      have ho := order_all Ieee.single sOk b.toNat b.toNat hle hle
      rw [compare_eq rfl] at ho
      have ho' : FloatKind.f32.format.order b.toNat b.toNat = some .eq := ho
      rw [ho']; simp [h]
  · have hn : b < 0 ∨ 4294967296 ≤ b := by simp [in32] at hi; omega
    have e : wd32 b = 2143289345 := by unfold wd32; rw [if_neg hi]
    have h4 : cls32 b = 4 := by unfold cls32; rw [if_pos hn]
    have ho : FloatKind.f32.format.order 2143289345 2143289345 = none := by decide +kernel
    rw [e, ho]; simp [h4]
theorem run_bits64 (n : Nat) (w : World) : (callFunc 77 #[.float .f64 n]).run Tryz.prog w = .ok (.value (.int .u64 n)) w := by
  rw [run_callFunc_extern Tryz.func77 (by kernel_rfl) (by kernel_rfl) (by kernel_rfl) (e := Extern.MathFloatBits.float64bits) (by kernel_rfl)]
  rfl
theorem run_bits32 (n : Nat) (w : World) : (callFunc 81 #[.float .f32 n]).run Tryz.prog w = .ok (.value (.int .u32 n)) w := by
  rw [run_callFunc_extern Tryz.func81 (by kernel_rfl) (by kernel_rfl) (by kernel_rfl) (e := Extern.MathFloatBits.float32bits) (by kernel_rfl)]
  rfl
theorem bitsFloat32' (b : Int) (w : World) :
    Calls Tryz.prog 50 #[.int .i64 b] w fun e w' => e = .returned (.float .f32 (wd32 b)) ∧ w' = w := by
  have hd := run_from32
  by_cases h : in32 b = true
  · have hb := of_decide_eq_true h
    have e : Hid (wd32 b = b.toNat) := by unfold Hid wd32; rw [if_pos h]
    go_enter Tryz.func50, Tryz.ntmps50
    go_wp2_with (go_at_call 82; refine (bitsFits32 _ _).mono ?_; rintro e w1 ⟨rfl, rfl⟩)
    go_ret
    exact ⟨ret_float e.out.symm, rfl⟩
  · have h' : in32 b = false := by simpa using h
    have e : Hid (wd32 b = 2143289345) := by unfold Hid wd32; rw [if_neg h]
    go_enter Tryz.func50, Tryz.ntmps50
    go_wp2_with (go_at_call 82; refine (bitsFits32 _ _).mono ?_; rintro e w1 ⟨rfl, rfl⟩)
    go_ret
    exact ⟨ret_float e.out.symm, rfl⟩
theorem bitsOf (b : Int) (w : World) (hb : rng b) :
    Calls Tryz.prog 46 #[.float .f64 (wd b)] w fun e w' => e = .returned (.int .i64 (told b)) ∧ w' = w := by
  have hd := run_bits64
  have hn := no64 hb
  have hw : Hid (wrap64 (wd b : Int) = b) := by unfold Hid wrap64 wd; unfold rng at hb; omega
  by_cases h : cls b = 4
  · have hn' : (FloatKind.f64.format.order (wd b) (wd b) != some .eq) = true := by rw [hn]; simp [h]
    clear hn
    go_enter Tryz.func46, Tryz.ntmps46
    go_wp2
    go_ret
    exact ⟨b_ret_int (by simp [told, h]), rfl⟩
  · have hn' : (FloatKind.f64.format.order (wd b) (wd b) != some .eq) = false := by rw [hn]; simp [h]
    clear hn
    go_enter Tryz.func46, Tryz.ntmps46
    go_wp2
    go_ret
    exact ⟨b_ret_int (by rw [hw.out]; simp [told, h]), rfl⟩
theorem bitsOf32 (b : Int) (w : World) :
    Calls Tryz.prog 49 #[.float .f32 (wd32 b)] w fun e w' => e = .returned (.int .i64 (told32 b)) ∧ w' = w := by
  have hd := run_bits32
  have hn := no32 b
  by_cases h : cls32 b = 4
  · have hn' : (FloatKind.f32.format.order (wd32 b) (wd32 b) != some .eq) = true := by rw [hn]; simp [h]
    clear hn
    go_enter Tryz.func49, Tryz.ntmps49
    go_wp2
    go_ret
    exact ⟨b_ret_int (by simp [told32, h]), rfl⟩
  · have hn' : (FloatKind.f32.format.order (wd32 b) (wd32 b) != some .eq) = false := by rw [hn]; simp [h]
    clear hn
    have hb := cls32_in h
    have e : Hid ((wd32 b : Int) = b) := by unfold Hid wd32 in32; rw [if_pos (by simpa using hb)]; omega
    have hlt : (wd32 b : Int) < 4294967296 := by rw [e.out]; omega
    go_enter Tryz.func49, Tryz.ntmps49
    go_wp2
    go_ret
    exact ⟨b_ret_int (by first | (rw [e.out]; simp [told32, h]; done) | (unfold wrap64; simp [told32, h]; have := e.out; omega)), rfl⟩
end Go.Proofs.YtcmcaladmodahaaGreatDoor

/-
  Package round: sums of constants, by their contracts.
-/
namespace Go.Proofs.YtcmcaladmodahaaGreatDoor
open Go Go.RowKit Go.Proofs.YtcmcaladmodahaaGreatDoor.M
set_option linter.unusedSimpArgs false
set_option linter.unusedVariables false

theorem wd_one : wd 4607182418800017408 = 4607182418800017408 := by decide
theorem wd_two : wd 4611686018427387904 = 4611686018427387904 := by decide
theorem told_two : told 4611686018427387904 = 4611686018427387904 := by decide
set_option maxRecDepth 100000 in
set_option maxHeartbeats 1000000 in
theorem add_one (w : World) :
    Calls Tryz.prog 21 #[.int .i64 4607182418800017408, .int .i64 4607182418800017408, .int .i64 0] w fun e w' => e = .returned (.tuple #[.int .i64 4611686018427387904, .int .i64 0]) ∧ Below w.heap.size w w' := by
  have CF : ∀ W, Calls Tryz.prog 47 #[.int .i64 4607182418800017408] W fun e w' => e = .returned (.float .f64 4607182418800017408) ∧ w' = W := fun W => by have := bitsFloat 4607182418800017408 W; rwa [wd_one] at this
  have CT : ∀ W, Calls Tryz.prog 46 #[.float .f64 4611686018427387904] W fun e w' => e = .returned (.int .i64 4611686018427387904) ∧ w' = W := fun W => by have := bitsOf 4611686018427387904 W (by unfold rng; omega); rwa [wd_two, told_two] at this
  have hadd : ∀ w : World, (binOp .add 85 (.float .f64 4607182418800017408) (.float .f64 4607182418800017408)).run Tryz.prog w = .ok (.float .f64 4611686018427387904) w := fun w => by kernel_rfl
  have CK := fun F G hF hG W => kadd_near F G hF hG 4611686018427387904 4607182418800017408 4607182418800017408 W
  go_enter Tryz.func21, Tryz.ntmps21
  go_wp2_with fail
  refine (double_any _).mono ?_
  rintro _ w1 ⟨rfl, hb1⟩
  go_wp2_with fail
  refine (CF _).mono ?_
  rintro _ _ ⟨rfl, rfl⟩
  go_wp2_with fail
  refine (CF _).mono ?_
  rintro _ _ ⟨rfl, rfl⟩
  go_wp2_with fail
  refine (CT _).mono ?_
  rintro _ _ ⟨rfl, rfl⟩
  go_wp2_with fail
  refine (CK _ _ ⟨_, rfl⟩ ⟨_, rfl⟩ _).mono ?_
  rintro _ w2 ⟨rfl, hb2⟩
  go_wp2
  all_goals refine bodyPost_ret (v := .tuple #[.int .i64 4611686018427387904, .int .i64 0]) (by simp [results, Tryz.results21, go_sem]) rfl ⟨rfl, bel_trans hb1 hb2⟩
theorem wd_one32 : wd32 1065353216 = 1065353216 := by decide
theorem wd_two32 : wd32 1073741824 = 1073741824 := by decide
theorem told_two32 : told32 1073741824 = 1073741824 := by decide
set_option maxRecDepth 100000 in
set_option maxHeartbeats 1000000 in
theorem add_one32 (w : World) :
    Calls Tryz.prog 22 #[.int .i64 1065353216, .int .i64 1065353216, .int .i64 0] w fun e w' => e = .returned (.tuple #[.int .i64 1073741824, .int .i64 0]) ∧ Below w.heap.size w w' := by
  have CF : ∀ W, Calls Tryz.prog 50 #[.int .i64 1065353216] W fun e w' => e = .returned (.float .f32 1065353216) ∧ w' = W := fun W => bitsFloat32 1065353216 W (by decide)
  have CT : ∀ W, Calls Tryz.prog 49 #[.float .f32 1073741824] W fun e w' => e = .returned (.int .i64 1073741824) ∧ w' = W := fun W => by have := bitsOf32 1073741824 W; rwa [wd_two32, told_two32] at this
  have hadd : ∀ w : World, (binOp .add 88 (.float .f32 1065353216) (.float .f32 1065353216)).run Tryz.prog w = .ok (.float .f32 1073741824) w := fun w => by kernel_rfl
  have CK := fun F G hF hG W => kadd_near F G hF hG 1073741824 1065353216 1065353216 W
  go_enter Tryz.func22, Tryz.ntmps22
  go_wp2_with fail
  refine (single_any _).mono ?_
  rintro _ w1 ⟨rfl, hb1⟩
  go_wp2_with fail
  refine (CF _).mono ?_
  rintro _ _ ⟨rfl, rfl⟩
  go_wp2_with fail
  refine (CF _).mono ?_
  rintro _ _ ⟨rfl, rfl⟩
  go_wp2_with fail
  refine (CT _).mono ?_
  rintro _ _ ⟨rfl, rfl⟩
  go_wp2_with fail
  refine (CK _ _ ⟨_, rfl⟩ ⟨_, rfl⟩ _).mono ?_
  rintro _ w2 ⟨rfl, hb2⟩
  go_wp2
  all_goals refine bodyPost_ret (v := .tuple #[.int .i64 1073741824, .int .i64 0]) (by simp [results, Tryz.results22, go_sem]) rfl ⟨rfl, bel_trans hb1 hb2⟩
end Go.Proofs.YtcmcaladmodahaaGreatDoor

/-
  plumblaw4.alive, by its contract.
-/
namespace Go.Proofs.YtcmcaladmodahaaGreatDoor
open Go Go.RowKit Go.Proofs.YtcmcaladmodahaaGreatDoor.M
set_option linter.unusedSimpArgs false
set_option linter.unusedVariables false

/-- A small odd number in a list of one. -/
def litR (g : Nat) (x : Int) : NumR := ⟨false, some ⟨g, 0, none⟩, 1, 1, fun _ => x, 0⟩
theorem litR_ok (g : Nat) {x : Int} (h0 : 0 < x) (h1 : x < 1073741824) (ho : x % 2 = 1) : okR (litR g x) = true :=
  decide_eq_true (.inr ⟨Nat.one_pos, ⟨show 1 ≤ 2000 by decide, fun i hi => ⟨show (0 : Int) ≤ x by omega, h1⟩, .inr (show x ≠ 0 by omega)⟩, ho, show (-1048576 : Int) ≤ 0 by decide, show (0 : Int) ≤ 1048576 by decide⟩)
theorem third (g k : Nat) : qR64 0 (litR g 1) (litR k 3) = (4599676419421066581, true) := by
  have e : qR64 0 (litR g 1) (litR k 3) = qR64 0 (litR 0 1) (litR 0 3) := rfl
  rw [e]
  decide +kernel
set_option maxRecDepth 100000 in
set_option maxHeartbeats 1000000 in
theorem alive4 (w : World) (Ev : Env w) (hT : Tab w) :
    Calls Tryz.prog 8 #[] w fun e w' => e = .returned (.bool true) ∧ Below w.heap.size w w' := by
  have HE : Hid (Env w) := Ev
  have HT : Hid (Tab w) := hT
  go_enter Tryz.func8, Tryz.ntmps8
  go_wp2_with fail
  have hb1 := bel_alloc2 w (.cells #[.int .i64 1] 3) (.cells #[.int .i64 3] 3)
  have r1 : Row ((w.alloc (.cells #[.int .i64 1] 3)).alloc (.cells #[.int .i64 3] 3)) (some ⟨w.heap.size, 0, none⟩) 1 1 (fun _ => 1) := (row1 w 1 rfl).keeps (bel_alloc _ _)
  have r3 : Row ((w.alloc (.cells #[.int .i64 1] 3)).alloc (.cells #[.int .i64 3] 3)) (some ⟨w.heap.size + 1, 0, none⟩) 1 1 (fun _ => 3) := row1 _ 3 (by simp)
  have CQ := quot_ok 0 (by decide) (litR w.heap.size 1) (litR (w.heap.size + 1) 3) _ r1 r3 (litR_ok _ (by decide) (by decide) (by decide)) (litR_ok _ (by decide) (by decide) (by decide)) Nat.one_pos (HE.out.keeps hb1) (HT.out.keeps hb1)
  rw [third] at CQ
  refine CQ.mono ?_
  rintro _ w2 ⟨rfl, hb2⟩
  have hbw := bel_trans hb1 hb2
  clear CQ r1 r3
  go_wp2_with fail
  refine (add_one _).mono ?_
  rintro _ w3 ⟨rfl, hb3⟩
  have hbw3 := bel_trans hbw hb3
  go_wp2_with fail
  refine (add_one32 _).mono ?_
  rintro _ w4 ⟨rfl, hb4⟩
  have hbw4 := bel_trans hbw3 hb4
  go_wp2
  all_goals go_ret
  all_goals exact ⟨by simp, hbw4⟩
end Go.Proofs.YtcmcaladmodahaaGreatDoor

/-
  Package dyadic: Sub, by its contract.
-/
namespace Go.Proofs.YtcmcaladmodahaaGreatDoor
open Go Go.RowKit Go.Proofs.YtcmcaladmodahaaGreatDoor.M
set_option linter.unusedSimpArgs false
set_option linter.unusedVariables false

/-- The number with the other sign (0 too). -/
def NumR.neg (r : NumR) : NumR := ⟨!r.ng, r.ao, r.n, r.cap, r.d, r.e⟩
theorem NumR.neg_V (r : NumR) : r.neg.V = -r.V := by
  show sg (!r.ng) _ * _ = _
  rw [sg_not, Int.neg_mul]; rfl
theorem NumR.neg_sane {r : NumR} (h : Sane r) : Sane r.neg := h
end Go.Proofs.YtcmcaladmodahaaGreatDoor

/-
  Package dyadic: product, Mul, by contracts.
-/
namespace Go.Proofs.YtcmcaladmodahaaGreatDoor
open Go Go.RowKit Go.Proofs.YtcmcaladmodahaaGreatDoor.M
set_option linter.unusedSimpArgs false
set_option linter.unusedVariables false

/-- A product's worth. -/
def mulV (x y : NumR) : Int := sg (x.ng != y.ng) (val x.d x.n * val y.d y.n) * pw (x.e + y.e)
theorem mulV_eq {x y : NumR} (hx : -2097152 ≤ x.e) (hy : -2097152 ≤ y.e) : mulV x y * 2 ^ 4194304 = x.V * y.V := by
  unfold mulV NumR.V
  rw [Int.mul_assoc, ← pw_mul hx hy, ← sg_mul]; grind
set_option maxRecDepth 100000 in
set_option maxHeartbeats 2000000 in
theorem dproduct_any (x y : NumR) (w : World) (hx : Row w x.ao x.n x.cap x.d) (hy : Row w y.ao y.n y.cap y.d) (sx : Sane x) (sy : Sane y) :
    Calls Tryz.prog 27 #[x.v, y.v] w fun r w' => ∃ s, r = .returned (.agg #[.bool (x.ng != y.ng), s, .int .i64 (x.e + y.e)]) ∧ Ans w w' (val x.d x.n * val y.d y.n) s := by
  obtain ⟨an, ao, n, ca, a, e⟩ := x
  obtain ⟨bn, bo, m, cb, b, f⟩ := y
  obtain ⟨s1, s2, s3, s4⟩ := sx
  obtain ⟨t1, t2, t3, t4⟩ := sy
  unfold NumR.v
  simp only at *
  have hw : IntKind.i64.wrap (e + f) = e + f := by rw [wrap_i64_eq]; omega
  have hb3 := bel_a3 w (.cells #[.bool an, .slice ao n ca, .int .i64 e] 24) (.cells #[.bool bn, .slice bo m cb, .int .i64 f] 24) (.cells #[.bool false, .slice none 0 0, .int .i64 0] 24)
  have g0 := h3_0 w (.cells #[.bool an, .slice ao n ca, .int .i64 e] 24) (.cells #[.bool bn, .slice bo m cb, .int .i64 f] 24) (.cells #[.bool false, .slice none 0 0, .int .i64 0] 24)
  have g1 := h3_1 w (.cells #[.bool an, .slice ao n ca, .int .i64 e] 24) (.cells #[.bool bn, .slice bo m cb, .int .i64 f] 24) (.cells #[.bool false, .slice none 0 0, .int .i64 0] 24)
  have g2 := h3_2 w (.cells #[.bool an, .slice ao n ca, .int .i64 e] 24) (.cells #[.bool bn, .slice bo m cb, .int .i64 f] 24) (.cells #[.bool false, .slice none 0 0, .int .i64 0] 24)
  have hs3 := size3 w (.cells #[.bool an, .slice ao n ca, .int .i64 e] 24) (.cells #[.bool bn, .slice bo m cb, .int .i64 f] 24) (.cells #[.bool false, .slice none 0 0, .int .i64 0] 24)
  go_enter Tryz.func27, Tryz.ntmps27
  go_wp2_with fail
  have HX := hx.keeps hb3
  have HY := hy.keeps hb3
  generalize ((w.alloc (.cells #[.bool an, .slice ao n ca, .int .i64 e] 24)).alloc (.cells #[.bool bn, .slice bo m cb, .int .i64 f] 24)).alloc (.cells #[.bool false, .slice none 0 0, .int .i64 0] 24) = wx at hb3 g0 g1 g2 hs3 HX HY ⊢
  have k0 := blkC g0 0 rfl
  have k1 := blkC g0 1 rfl
  have k2 := blkC g0 2 rfl
  have j0 := blkC g1 0 rfl
  have j1 := blkC g1 1 rfl
  have j2 := blkC g1 2 rfl
  have hb1 := bel_refl wx
  have C1 : ∀ W, Below wx.heap.size wx W → Calls Tryz.prog 55 #[.slice ao n ca, .slice bo m cb] W fun r w' => ∃ so sn sc, r = .returned (.slice so sn sc) ∧ Ans W w' (val a n * val b m) (.slice so sn sc) ∧ Below W.heap.size W w' := fun W h => by
    refine (product_any ao bo n m ca cb a b W (HX.keeps h) (HY.keeps h) s1.1 t1.1 (by omega) (by omega)).mono ?_
    rintro r w' ⟨v, rfl, hA⟩
    obtain ⟨so, sn, sc, rfl⟩ := hA.num.shape
    exact ⟨so, sn, sc, rfl, hA, hA.below⟩
  go_region_held3 (fun W => (W.cell? ⟨w.heap.size, 0, none⟩ = some (.bool an) ∧ W.cell? ⟨w.heap.size, 1, none⟩ = some (.slice ao n ca) ∧ W.cell? ⟨w.heap.size, 2, none⟩ = some (.int .i64 e)) ∧ W.cell? ⟨w.heap.size + 1, 0, none⟩ = some (.bool bn) ∧ W.cell? ⟨w.heap.size + 1, 1, none⟩ = some (.slice bo m cb) ∧ W.cell? ⟨w.heap.size + 1, 2, none⟩ = some (.int .i64 f))
    (first | assumption | exact ⟨⟨k0, k1, k2⟩, j0, j1, j2⟩ | exact ⟨keepB (W := wx.drew) ⟨k0, k1, k2⟩ hbv1, keepB (W := wx.drew) ⟨j0, j1, j2⟩ hbv1⟩ | exact ⟨keepS (keepB (W := wx.drew) ⟨k0, k1, k2⟩ hbv1) (by omega) _ _ _, keepS (keepB (W := wx.drew) ⟨j0, j1, j2⟩ hbv1) (by omega) _ _ _⟩)
    (first | (go_at_call 55; refine (C1 _ hb1.drew).mono ?_; rintro y w3 ⟨so, sn, sc, rfl, hv, hbv1⟩; have q0 := (hbv1.block (w.heap.size + 2) (by show _ < wx.heap.size; omega)).trans g2; have x0 := blkC q0 0 rfl; have x1 := blkC q0 1 rfl; have x2 := blkC q0 2 rfl; have z0 := blkF q0 0; have z1 := blkF q0 1; have z2 := blkF q0 2) | fail)
  all_goals go_wp2
  all_goals
    refine bodyPost_ret (v := .agg #[.bool (!(an == bn)), .slice so sn sc, .int .i64 (e + f)]) (by simp [results, Tryz.results27, go_sem, x0, x1, x2]) rfl ⟨_, rfl, ?_⟩
    exact ans_res (g := w.heap.size + 2) (hv.from hb1.drew) hb3 (by omega) (by omega) _ _ _
set_option maxRecDepth 100000 in
set_option maxHeartbeats 1000000 in
theorem mul1_any (x y : NumR) (g h : Nat) (w : World) (cg : w.heap[g]? = some (.cells #[.bool x.ng, .slice x.ao x.n x.cap, .int .i64 x.e] 24 (0, 0))) (ch : w.heap[h]? = some (.cells #[.bool y.ng, .slice y.ao y.n y.cap, .int .i64 y.e] 24 (0, 0)))
    (hx : Row w x.ao x.n x.cap x.d) (hy : Row w y.ao y.n y.cap y.d) (sx : Sane x) (sy : Sane y) (hT : Tab w) :
    Calls Tryz.prog 25 #[.pointer (some ⟨g, 0, none⟩), .pointer (some ⟨h, 0, none⟩)] w (DOut w (mulV x y)) := by
  have hP := fun W hb => dproduct_any x y W (hx.keeps hb) (hy.keeps hb) sx sy
  have hV : mulV x y = sg (x.ng != y.ng) (val x.d x.n * val y.d y.n) * pw (x.e + y.e) := rfl
  have he : -4194304 ≤ x.e + y.e := by have := sx.2.2.1; have := sy.2.2.1; omega
  have hlen : val x.d x.n * val y.d y.n < P 10000 := by
    have a1 := val_lt sx.1.1
    have a2 := val_lt sy.1.1
    have b1 := val_nonneg sx.1.1
    have b2 := val_nonneg sy.1.1
    have c1 : val x.d x.n * val y.d y.n ≤ P x.n * val y.d y.n := Int.mul_le_mul_of_nonneg_right (by omega) b2
    have c2 : P x.n * val y.d y.n < P x.n * P y.n := Int.mul_lt_mul_of_pos_left a2 (P_pos _)
    rw [← P_add] at c2
    have := P_le (show x.n + y.n ≤ 10000 by have := sx.2.1; have := sy.2.1; omega)
    omega
  generalize mulV x y = V at hV ⊢
  unfold NumR.v at hP
  obtain ⟨an, ao, n, ca, a, e⟩ := x
  obtain ⟨bn, bo, m, cb, b, f⟩ := y
  simp only at cg ch hx hy hP hV he hlen
  have hb := bel_alloc w (.cells #[.bool false, .slice none 0 0, .int .i64 0] 24)
  have g0 := heap_past (.cells #[.bool false, .slice none 0 0, .int .i64 0] 24) cg
  have g1 := heap_past (.cells #[.bool false, .slice none 0 0, .int .i64 0] 24) ch
  have k0 := blkC g0 0 rfl
  have k1 := blkC g0 1 rfl
  have k2 := blkC g0 2 rfl
  have j0 := blkC g1 0 rfl
  have j1 := blkC g1 1 rfl
  have j2 := blkC g1 2 rfl
  clear sx sy
  have HV : Hid (V = sg (an != bn) (val a n * val b m) * pw (e + f)) := hV
  clear hV
  go_enter Tryz.func25, Tryz.ntmps25
  go_wp2_with fail
  refine (hP _ hb).mono ?_
  rintro r w3 ⟨s, rfl, hA⟩
  obtain ⟨so, sn, sc, d, rfl, hR, hN, hv⟩ := hA.num
  have hsn : sn ≤ 10000 := hA.num.len hlen
  have hb3 := bel_trans hb hA.below
  go_wp2_with fail
  refine (settle_any (V := V) hR hN.1 (by omega) (hT.keeps hb3) he (by rw [hv]; exact HV.out)).mono ?_
  rintro r w7 (⟨hok, v, rfl, hD⟩ | ⟨hno, rfl, hb7⟩)
  · have hb7 := hD.below
    obtain ⟨ng', s', m', e', rfl, hyy, hA2⟩ := id hD
    obtain ⟨so', sn', sc', rfl⟩ := hA2.num.shape
    have q0 := ((bel_trans hA.below hb7).block w.heap.size (by rw [size1]; omega)).trans (heap_a1 _ _)
    have x0 := blkC q0 0 rfl
    have x1 := blkC q0 1 rfl
    have x2 := blkC q0 2 rfl
    have z0 := blkF q0 0
    have z1 := blkF q0 1
    have z2 := blkF q0 2
    go_wp2
    refine bodyPost_ret (v := .agg #[.bool ng', .slice so' sn' sc', .int .i64 e']) (by simp [results, Tryz.results25, go_sem, x0, x1, x2]) rfl ?_
    exact .inl ⟨hok, _, rfl, dans_res3 (g := w.heap.size) hD hb3 (Nat.le_refl _) (Nat.lt_of_lt_of_le (by rw [size1]; omega) hA.below.size) _ _ _⟩
  · exact ⟨rfl, .inr ⟨hno, rfl, bel_trans hb3 hb7⟩⟩
set_option maxRecDepth 100000 in
set_option maxHeartbeats 1000000 in
theorem dmul_bad (x y : NumR) (w : World) (hx : Row w x.ao x.n x.cap x.d) (hy : Row w y.ao y.n y.cap y.d) (ok : (okR x && okR y) = false) :
    Calls Tryz.prog 9 #[x.v, y.v] w fun r w' => r = .returned (.tuple #[zeroV, .int .i64 11]) ∧ Below w.heap.size w w' := by
  have hmf : ∀ (fn : Fn) (first cap : Array Value) (w : World), (Instr.makeFunc fn first cap).run Tryz.prog w = .ok (.func fn first cap) w := fun _ _ _ _ => rfl
  have hA := allOk2 x y
  rw [ok] at hA
  have hN := fun W q hb => nums2 (w := W) (g := w.heap.size + 3) (x := x) (y := y) (t := 24) q (hx.keeps hb) (hy.keeps hb)
  generalize pair2 x y = pr at hA hN
  obtain ⟨an, ao, n, ca, a, e⟩ := x
  obtain ⟨bn, bo, m, cb, b, f⟩ := y
  unfold NumR.v
  simp only at hx hy hN ⊢
  go_enter Tryz.func9, Tryz.ntmps9
  go_wp2_with fail
  refine (dvalids_any _ _ _ _ _ (hN _ (h4_3 _ _ _ _ _) (bel_a4 _ _ _ _ _))).mono ?_
  rw [hA]
  rintro r w1 ⟨rfl, hb1⟩
  have q0 := (hb1.block (w.heap.size + 2) (by rw [size4]; omega)).trans (h4_2 _ _ _ _ _)
  have x0 := blkC q0 0 rfl
  have x1 := blkC q0 1 rfl
  have x2 := blkC q0 2 rfl
  have z0 := blkF q0 0
  have z1 := blkF q0 1
  have z2 := blkF q0 2
  go_wp2
  refine bodyPost_ret (v := .tuple #[zeroV, .int .i64 11]) (by simp [results, Tryz.results9, go_sem, zeroV, x0, x1, x2]) rfl ⟨rfl, ?_⟩
  exact bel_set3 (bel_trans (bel_a4 _ _ _ _ _) hb1) (by omega) _ _ _
set_option maxRecDepth 100000 in
set_option maxHeartbeats 1000000 in
theorem dmul_ok (x y : NumR) (w : World) (hx : Row w x.ao x.n x.cap x.d) (hy : Row w y.ao y.n y.cap y.d) (ox : okR x = true) (oy : okR y = true) (hT : Tab w) :
    Calls Tryz.prog 9 #[x.v, y.v] w fun r w' => ∃ v er, r = .returned (.tuple #[v, .int .i64 er]) ∧ DFit w w' (mulV x y) v er := by
  have hmf : ∀ (fn : Fn) (first cap : Array Value) (w : World), (Instr.makeFunc fn first cap).run Tryz.prog w = .ok (.func fn first cap) w := fun _ _ _ _ => rfl
  have hE : ∀ (cap : Array Value) (w : World), (callFunc 25 cap).run Tryz.prog w = .ok (.enter 25 cap) w := by
    intro cap w
    simp [go_sem]
  have hA := allOk2 x y
  rw [ox, oy] at hA
  have hN := fun W q hb => nums2 (w := W) (g := w.heap.size + 3) (x := x) (y := y) (t := 24) q (hx.keeps hb) (hy.keeps hb)
  have hC := fun W hb cg ch => mul1_any x y w.heap.size (w.heap.size + 1) W cg ch (hx.keeps hb) (hy.keeps hb) (okR_sane ox) (okR_sane oy) (hT.keeps hb)
  generalize pair2 x y = pr at hA hN
  generalize mulV x y = V at hC ⊢
  clear ox oy
  obtain ⟨an, ao, n, ca, a, e⟩ := x
  obtain ⟨bn, bo, m, cb, b, f⟩ := y
  unfold NumR.v
  simp only at hx hy hN hC ⊢
  go_enter Tryz.func9, Tryz.ntmps9
  go_wp2_with fail
  refine (dvalids_any _ _ _ _ _ (hN _ (h4_3 _ _ _ _ _) (bel_a4 _ _ _ _ _))).mono ?_
  rw [hA]
  rintro r w1 ⟨rfl, hb1⟩
  have hbw := bel_trans (bel_a4 w _ _ _ _) hb1
  have g0 := (hb1.block w.heap.size (by rw [size4]; omega)).trans (h4_0 _ _ _ _ _)
  have g1 := (hb1.block (w.heap.size + 1) (by rw [size4]; omega)).trans (h4_1 _ _ _ _ _)
  have g2 := (hb1.block (w.heap.size + 2) (by rw [size4]; omega)).trans (h4_2 _ _ _ _ _)
  have hs4 : w.heap.size + 4 ≤ w1.heap.size := by have := hb1.size; rw [size4] at this; exact this
  go_wp2_with fail
  refine (told_any (V := V) (hE _) (fun W hW => hC W (bel_trans hbw hW) ((hW.block _ (by omega)).trans g0) ((hW.block _ (by omega)).trans g1))).mono ?_
  rintro r w2 ⟨v, er, rfl, hF⟩
  obtain ⟨ng', so, sn, sc, e', rfl⟩ := hF.shape
  have q0 := (hF.1.block (w.heap.size + 2) (by omega)).trans g2
  have x0 := blkC q0 0 rfl
  have x1 := blkC q0 1 rfl
  have x2 := blkC q0 2 rfl
  have z0 := blkF q0 0
  have z1 := blkF q0 1
  have z2 := blkF q0 2
  go_wp2
  refine bodyPost_ret (v := .tuple #[.agg #[.bool ng', .slice so sn sc, .int .i64 e'], .int .i64 er]) (by simp [results, Tryz.results9, go_sem, x0, x1, x2]) rfl ⟨_, _, rfl, ?_⟩
  exact dfit_res (g := w.heap.size + 2) hF hbw (by omega) (by omega) _ _ _
end Go.Proofs.YtcmcaladmodahaaGreatDoor

/-
  Package dyadic: Neg, Abs, Sign, Scale, by contracts.
-/
namespace Go.Proofs.YtcmcaladmodahaaGreatDoor
open Go Go.RowKit Go.Proofs.YtcmcaladmodahaaGreatDoor.M
set_option linter.unusedSimpArgs false
set_option linter.unusedVariables false

theorem neg_dy {x : NumR} (h : okR x = true) : Dy (-x.V) (!x.ng && decide (0 < x.n)) (val x.d x.n) x.e := by
  have hd := (okR_dy h).1
  by_cases h0 : 0 < x.n
  · have hv := val_pos (okR_sane h).1 h0
    have := hd.neg hv
    simpa [h0] using this
  · rcases of_decide_eq_true h with ⟨h1, h2, h3⟩ | ⟨h1, _⟩
    · have hv : val x.d x.n = 0 := by rw [h1]; rfl
      have := hd.eq_zero.2 hv
      rw [this, hv, h3]
      simpa [h0] using Dy.zero
    · omega
theorem abs_dy {x : NumR} (h : okR x = true) : Dy (x.V.natAbs : Int) (false && decide (0 < x.n)) (val x.d x.n) x.e := by
  have hd := (okR_dy h).1.abs
  simpa using hd
end Go.Proofs.YtcmcaladmodahaaGreatDoor

/-
  Package dyadic: compare, Cmp, by contracts.
-/
namespace Go.Proofs.YtcmcaladmodahaaGreatDoor
open Go Go.RowKit Go.Proofs.YtcmcaladmodahaaGreatDoor.M
set_option linter.unusedSimpArgs false
set_option linter.unusedVariables false

theorem ord_scale {a b p : Int} (hp : 0 < p) : ord (a * p) (b * p) = ord a b := by
  rcases Int.lt_trichotomy a b with h | h | h
  · rw [ord_lt h, ord_lt (Int.mul_lt_mul_of_pos_right h hp)]
  · rw [ord_eq h, ord_eq (by rw [h])]
  · rw [ord_gt h, ord_gt (Int.mul_lt_mul_of_pos_right h hp)]
theorem dcompare_num {w : World} {x y : Value} {A B : Int} (hx : Num w x A) (hy : Num w y B) :
    Calls Tryz.prog 87 #[x, y] w fun e w' => e = .returned (.int .i64 (ord A B)) ∧ Below w.heap.size w w' := by
  obtain ⟨ao, n, ca, a, rfl, hR, hN, rfl⟩ := hx
  obtain ⟨bo, m, cb, b, rfl, hR', hN', rfl⟩ := hy
  exact compare_any _ _ _ _ _ _ _ _ _ hR hR' hN hN'
/-- What reaches higher is greater. -/
theorem top_lt {a b e f : Int} (ha : 0 < a) (hb : 0 < b) (he : -4194304 ≤ e) (hf : -4194304 ≤ f) (h : e + blen a < f + blen b) : a * pw e < b * pw f := by
  have h1 := blen_lt a
  have h2 := (blen_pos hb)
  have hpe := pw_pos e
  have hpf := pw_pos f
  have c1 : a * pw e < 2 ^ blen a * pw e := Int.mul_lt_mul_of_pos_right h1 hpe
  have c2 : 2 ^ (blen b - 1) * pw f ≤ b * pw f := Int.mul_le_mul_of_nonneg_right h2.2 (Int.le_of_lt hpf)
  have c3 : 2 ^ blen a * pw e ≤ 2 ^ (blen b - 1) * pw f := by
    unfold pw
    rw [← Int.pow_add, ← Int.pow_add]
    exact two_le (by have := h2.1; omega)
  omega
theorem ord_tops {a b e f : Int} (ha : 0 < a) (hb : 0 < b) (he : -4194304 ≤ e) (hf : -4194304 ≤ f) (h : e + blen a ≠ f + blen b) : ord (e + blen a) (f + blen b) = ord (a * pw e) (b * pw f) := by
  rcases Int.lt_or_gt_of_ne h with h1 | h1
  · rw [ord_lt h1, ord_lt (top_lt ha hb he hf h1)]
  · rw [ord_gt h1, ord_gt (top_lt hb ha hf he h1)]
theorem ord_low {a b e f low : Int} (hl : -4194304 ≤ low) (he : low ≤ e) (hf : low ≤ f) : ord (a * 2 ^ (e - low).toNat) (b * 2 ^ (f - low).toNat) = ord (a * pw e) (b * pw f) := by
  rw [pw_sub hl he, pw_sub hl hf, ← Int.mul_assoc, ← Int.mul_assoc, ord_scale (pw_pos _)]
/-- Two numbers' own blocks, behind a call. -/
theorem keep66 {W w' : World} {g h : Nat} {a b c d e f : Value} (hb : Below W.heap.size W w') (hS : (W.cell? ⟨g, 0, none⟩ = some a ∧ W.cell? ⟨g, 1, none⟩ = some b ∧ W.cell? ⟨g, 2, none⟩ = some c) ∧ W.cell? ⟨h, 0, none⟩ = some d ∧ W.cell? ⟨h, 1, none⟩ = some e ∧ W.cell? ⟨h, 2, none⟩ = some f) :
    (w'.cell? ⟨g, 0, none⟩ = some a ∧ w'.cell? ⟨g, 1, none⟩ = some b ∧ w'.cell? ⟨g, 2, none⟩ = some c) ∧ w'.cell? ⟨h, 0, none⟩ = some d ∧ w'.cell? ⟨h, 1, none⟩ = some e ∧ w'.cell? ⟨h, 2, none⟩ = some f :=
  ⟨keepB hS.1 hb, keepB hS.2 hb⟩
set_option maxRecDepth 100000 in
set_option maxHeartbeats 2000000 in
theorem dsizes_any (x y : NumR) (w : World) (hx : Row w x.ao x.n x.cap x.d) (hy : Row w y.ao y.n y.cap y.d) (sx : Sane x) (sy : Sane y) (hz : (0 < x.n ∧ 0 < y.n) ∨ (x.n = 0 ∧ y.n = 0 ∧ x.e = y.e)) :
    Calls Tryz.prog 58 #[x.v, y.v] w fun r w' => r = .returned (.int .i64 (ord (val x.d x.n * pw x.e) (val y.d y.n * pw y.e))) ∧ Below w.heap.size w w' := by
  have hX := fun W hb => dtop_any x.ng x.ao x.n x.cap x.d x.e W (hx.keeps hb) sx.1 (by have := sx.2.1; omega) (by have := sx.2.2.1; omega) (by have := sx.2.2.2; omega)
  have hY := fun W hb => dtop_any y.ng y.ao y.n y.cap y.d y.e W (hy.keeps hb) sy.1 (by have := sy.2.1; omega) (by have := sy.2.2.1; omega) (by have := sy.2.2.2; omega)
  have lx := sx.len
  have ly := sy.len
  have hpp : x.e + blen (val x.d x.n) ≠ y.e + blen (val y.d y.n) → 0 < val x.d x.n ∧ 0 < val y.d y.n := fun hne => by
    rcases hz with ⟨h0, h1⟩ | ⟨h0, h1, h2⟩
    · exact ⟨val_pos sx.1 h0, val_pos sy.1 h1⟩
    · exact absurd (by rw [h0, h1, h2]; rfl) hne
  clear hz
  obtain ⟨an, ao, n, ca, a, e⟩ := x
  obtain ⟨bn, bo, m, cb, b, f⟩ := y
  obtain ⟨s1, s2, s3, s4⟩ := sx
  obtain ⟨t1, t2, t3, t4⟩ := sy
  unfold NumR.v
  simp only at *
  have hmin : ∀ (ts : Array TypeId) (t : TypeId) (x y : Int) (w : World), (Builtin.min_ ts t #[.int .i64 x, .int .i64 y]).run Tryz.prog w = .ok (.int .i64 (min x y)) w := fun ts t x y w => by rw [run_min_int2]; congr 2; omega
  have hb3 := bel_alloc2 w (.cells #[.bool an, .slice ao n ca, .int .i64 e] 24) (.cells #[.bool bn, .slice bo m cb, .int .i64 f] 24)
  have g0 := heap_a2 w (.cells #[.bool an, .slice ao n ca, .int .i64 e] 24) (.cells #[.bool bn, .slice bo m cb, .int .i64 f] 24)
  have g1 := heap_b2 w (.cells #[.bool an, .slice ao n ca, .int .i64 e] 24) (.cells #[.bool bn, .slice bo m cb, .int .i64 f] 24)
  go_enter Tryz.func58, Tryz.ntmps58
  go_wp2_with fail
  generalize (w.alloc (.cells #[.bool an, .slice ao n ca, .int .i64 e] 24)).alloc (.cells #[.bool bn, .slice bo m cb, .int .i64 f] 24) = wx at hb3 g0 g1 ⊢
  have k0 := blkC g0 0 rfl
  have k1 := blkC g0 1 rfl
  have k2 := blkC g0 2 rfl
  have j0 := blkC g1 0 rfl
  have j1 := blkC g1 1 rfl
  have j2 := blkC g1 2 rfl
  have hb1 := bel_refl wx
  have CA : ∀ W, Below wx.heap.size wx W → Calls Tryz.prog 86 #[.agg #[.bool an, .slice ao n ca, .int .i64 e]] W fun r w' => r = .returned (.int .i64 (e + blen (val a n))) ∧ Below W.heap.size W w' := fun W h => hX W (bel_trans hb3 h)
  have CB : ∀ W, Below wx.heap.size wx W → Calls Tryz.prog 86 #[.agg #[.bool bn, .slice bo m cb, .int .i64 f]] W fun r w' => r = .returned (.int .i64 (f + blen (val b m))) ∧ Below W.heap.size W w' := fun W h => hY W (bel_trans hb3 h)
  clear hX hY
  go_region_held3 (fun W => (W.cell? ⟨w.heap.size, 0, none⟩ = some (.bool an) ∧ W.cell? ⟨w.heap.size, 1, none⟩ = some (.slice ao n ca) ∧ W.cell? ⟨w.heap.size, 2, none⟩ = some (.int .i64 e)) ∧ W.cell? ⟨w.heap.size + 1, 0, none⟩ = some (.bool bn) ∧ W.cell? ⟨w.heap.size + 1, 1, none⟩ = some (.slice bo m cb) ∧ W.cell? ⟨w.heap.size + 1, 2, none⟩ = some (.int .i64 f))
    (first | assumption | exact ⟨⟨k0, k1, k2⟩, j0, j1, j2⟩ | exact keep66 hbv2 (keep66 (W := wx.drew) hbv1 ⟨⟨k0, k1, k2⟩, j0, j1, j2⟩) | exact keep66 (W := wx.drew) hbv1 ⟨⟨k0, k1, k2⟩, j0, j1, j2⟩)
    (first | (go_at_call 86; have _t := hbv1; refine (CB _ (bel_trans hb1.drew hbv1)).mono ?_; rintro r w4 ⟨rfl, hbv2⟩) | (go_at_call 86; refine (CA _ hb1.drew).mono ?_; rintro r w3 ⟨rfl, hbv1⟩))
  have hS4 := keep66 hbv2 (keep66 (W := wx.drew) hbv1 ⟨⟨k0, k1, k2⟩, j0, j1, j2⟩)
  have hx4 : Below wx.heap.size wx w4 := bel_trans (bel_trans hb1.drew hbv1) hbv2
  clear k0 k1 k2 j0 j1 j2 g0 g1
  obtain ⟨⟨k0, k1, k2⟩, j0, j1, j2⟩ := hS4
  by_cases heq : e + blen (val a n) = f + blen (val b m)
  · have hne : (e + (blen (val a n) : Int) != f + blen (val b m)) = false := by simp [heq]
    have HEQ : Hid (e + blen (val a n) = f + blen (val b m)) := heq
    clear heq
    go_wp2_with fail
    have l1 : min e f ≤ e := Int.min_le_left _ _
    have l2 : min e f ≤ f := Int.min_le_right _ _
    have l3 : e - min e f ≤ 150000 ∧ f - min e f ≤ 150000 ∧ -1100000 ≤ min e f := by have := HEQ.out; omega
    generalize min e f = low at l1 l2 l3 ⊢
    have HO0 := ord_low (a := val a n) (b := val b m) (by omega) l1 l2
    obtain ⟨ka, hka⟩ : ∃ ka : Nat, e - low = ka := ⟨(e - low).toNat, by omega⟩
    obtain ⟨kb, hkb⟩ : ∃ kb : Nat, f - low = kb := ⟨(f - low).toNat, by omega⟩
    have hwa : IntKind.i64.wrap (e - low) = (ka : Int) := by rw [wrap_i64_eq]; omega
    have hwb : IntKind.i64.wrap (f - low) = (kb : Int) := by rw [wrap_i64_eq]; omega
    rw [show (e - low).toNat = ka by omega, show (f - low).toNat = kb by omega] at HO0
    have hka0 : ka ≤ 1000000 := by omega
    have hkb0 : kb ≤ 1000000 := by omega
    clear hka hkb
    have hb4 := bel_refl w4
    have RA : ∀ W, Below w4.heap.size w4 W → Calls Tryz.prog 67 #[.slice ao n ca, .int .i64 (ka : Int)] W fun r w' => ∃ so sn sc, r = .returned (.slice so sn sc) ∧ Ans W w' (val a n * 2 ^ ka) (.slice so sn sc) ∧ Below W.heap.size W w' := fun W h => by
      refine (raise_any ao n ca ka a W (hx.keeps (bel_trans hb3 (bel_trans hx4 h))) s1.1 (by omega) (by omega)).mono ?_
      rintro r w' ⟨v, rfl, hA⟩
      obtain ⟨so, sn, sc, rfl⟩ := hA.num.shape
      exact ⟨so, sn, sc, rfl, hA, hA.below⟩
    have RB : ∀ W, Below w4.heap.size w4 W → Calls Tryz.prog 67 #[.slice bo m cb, .int .i64 (kb : Int)] W fun r w' => ∃ so sn sc, r = .returned (.slice so sn sc) ∧ Ans W w' (val b m * 2 ^ kb) (.slice so sn sc) ∧ Below W.heap.size W w' := fun W h => by
      refine (raise_any bo m cb kb b W (hy.keeps (bel_trans hb3 (bel_trans hx4 h))) t1.1 (by omega) (by omega)).mono ?_
      rintro r w' ⟨v, rfl, hA⟩
      obtain ⟨so, sn, sc, rfl⟩ := hA.num.shape
      exact ⟨so, sn, sc, rfl, hA, hA.below⟩
    have HO : Hid (ord (val a n * 2 ^ ka) (val b m * 2 ^ kb) = ord (val a n * pw e) (val b m * pw f)) := HO0
    have HF : Hid (Below w.heap.size w w4) := bel_trans hb3 hx4
    clear CA CB hbv1 hbv2 hx4 hb1 hb3 hx hy hpp lx ly l1 l2 l3 HEQ HO0
    go_region_held3 (fun W => (W.cell? ⟨w.heap.size, 0, none⟩ = some (.bool an) ∧ W.cell? ⟨w.heap.size, 1, none⟩ = some (.slice ao n ca) ∧ W.cell? ⟨w.heap.size, 2, none⟩ = some (.int .i64 e)) ∧ W.cell? ⟨w.heap.size + 1, 0, none⟩ = some (.bool bn) ∧ W.cell? ⟨w.heap.size + 1, 1, none⟩ = some (.slice bo m cb) ∧ W.cell? ⟨w.heap.size + 1, 2, none⟩ = some (.int .i64 f))
      (first | assumption | exact ⟨⟨k0, k1, k2⟩, j0, j1, j2⟩ | exact keep66 hbv5 (keep66 hbv4 (keep66 (W := w4.drew) hbv3 ⟨⟨k0, k1, k2⟩, j0, j1, j2⟩)) | exact keep66 hbv4 (keep66 (W := w4.drew) hbv3 ⟨⟨k0, k1, k2⟩, j0, j1, j2⟩) | exact keep66 (W := w4.drew) hbv3 ⟨⟨k0, k1, k2⟩, j0, j1, j2⟩)
      (first | (go_at_call 87; refine (dcompare_num (hv3.num.keeps hbv4) hv4.num).mono ?_; rintro r w7 ⟨rfl, hbv5⟩) | (go_at_call 67; have _t := hbv3; refine (RB _ (bel_trans hb4.drew hbv3)).mono ?_; rintro r w6 ⟨so4, sn4, sc4, rfl, hv4, hbv4⟩) | (go_at_call 67; refine (RA _ hb4.drew).mono ?_; rintro r w5 ⟨so3, sn3, sc3, rfl, hv3, hbv3⟩))
    go_wp2
    go_ret
    exact ⟨ret_int HO.out, bel_trans (bel_trans (bel_trans HF.out (bel_trans hb4.drew hbv3)) hbv4) hbv5⟩
  · have hne : (e + (blen (val a n) : Int) != f + blen (val b m)) = true := by simp [heq]
    have HO : Hid (ord (e + blen (val a n)) (f + blen (val b m)) = ord (val a n * pw e) (val b m * pw f)) := ord_tops (hpp heq).1 (hpp heq).2 (by omega) (by omega) heq
    have HF : Hid (Below w.heap.size w w4) := bel_trans hb3 hx4
    have CA4 : ∀ W, Below w4.heap.size w4 W → _ := fun W h => CA W (bel_trans hx4 h)
    have CB4 : ∀ W, Below w4.heap.size w4 W → _ := fun W h => CB W (bel_trans hx4 h)
    have hb4 := bel_refl w4
    clear CA CB hbv1 hbv2 hx4 hb1 hb3 hx hy hpp lx ly heq
    go_wp2_with fail
    go_region_held3 (fun W => (W.cell? ⟨w.heap.size, 0, none⟩ = some (.bool an) ∧ W.cell? ⟨w.heap.size, 1, none⟩ = some (.slice ao n ca) ∧ W.cell? ⟨w.heap.size, 2, none⟩ = some (.int .i64 e)) ∧ W.cell? ⟨w.heap.size + 1, 0, none⟩ = some (.bool bn) ∧ W.cell? ⟨w.heap.size + 1, 1, none⟩ = some (.slice bo m cb) ∧ W.cell? ⟨w.heap.size + 1, 2, none⟩ = some (.int .i64 f))
      (first | assumption | exact ⟨⟨k0, k1, k2⟩, j0, j1, j2⟩ | exact keep66 hbv4 (keep66 (W := w4.drew) hbv3 ⟨⟨k0, k1, k2⟩, j0, j1, j2⟩) | exact keep66 (W := w4.drew) hbv3 ⟨⟨k0, k1, k2⟩, j0, j1, j2⟩)
      (first | (go_at_call 57; refine (cmpInt_any _ _ _).mono ?_; rintro r w7 ⟨rfl, rfl⟩) | (go_at_call 86; have _t := hbv3; refine (CB4 _ (bel_trans hb4.drew hbv3)).mono ?_; rintro r w6 ⟨rfl, hbv4⟩) | (go_at_call 86; refine (CA4 _ hb4.drew).mono ?_; rintro r w5 ⟨rfl, hbv3⟩))
    go_wp2
    go_ret
    exact ⟨ret_int HO.out, bel_trans (bel_trans HF.out (bel_trans hb4.drew hbv3)) hbv4⟩
theorem ord_three (a b : Int) : ord a b = 1 ∨ ord a b = 0 ∨ ord a b = -1 := by
  rcases Int.lt_trichotomy a b with h | h | h
  · exact .inr (.inr (ord_lt h))
  · exact .inr (.inl (ord_eq h))
  · exact .inl (ord_gt h)
theorem sgn_V {x : NumR} (sx : Sane x) : (sgn x.ng x.n = 0 ∧ x.V = 0 ∧ x.n = 0) ∨ (sgn x.ng x.n = 1 ∧ 0 < x.V ∧ 0 < x.n ∧ x.ng = false) ∨ (sgn x.ng x.n = -1 ∧ x.V < 0 ∧ 0 < x.n ∧ x.ng = true) := by
  by_cases h0 : x.n = 0
  · left
    refine ⟨by simp [sgn, h0], ?_, h0⟩
    show sg x.ng (val x.d x.n) * _ = 0
    rw [h0]
    show sg x.ng 0 * _ = 0
    rw [sg_zero, Int.zero_mul]
  · right
    have hp := Int.mul_pos (val_pos sx.1 (show 0 < x.n by omega)) (pw_pos x.e)
    have hV : x.V = sg x.ng (val x.d x.n) * pw x.e := rfl
    cases hg : x.ng
    · left
      rw [hg] at hV
      exact ⟨by simp [sgn, h0], by rw [hV]; exact hp, by omega, rfl⟩
    · right
      rw [hg] at hV
      refine ⟨by simp [sgn, h0], ?_, by omega, rfl⟩
      rw [hV]
      show -val x.d x.n * pw x.e < 0
      rw [Int.neg_mul]; omega
theorem ord_signs {x y : NumR} (sx : Sane x) (sy : Sane y) (h : sgn x.ng x.n ≠ sgn y.ng y.n) : ord (sgn x.ng x.n) (sgn y.ng y.n) = ord x.V y.V := by
  rcases sgn_V sx with ⟨a, b, _⟩ | ⟨a, b, _⟩ | ⟨a, b, _⟩ <;> rcases sgn_V sy with ⟨c, d, _⟩ | ⟨c, d, _⟩ | ⟨c, d, _⟩ <;> rw [a, c] at h ⊢ <;>
    first
      | exact absurd rfl h
      | (rw [ord_lt (by decide), ord_lt (by omega)])
      | (rw [ord_gt (by decide), ord_gt (by omega)])
theorem ord_neg (a b : Int) : ord (-a) (-b) = -ord a b := by
  rcases Int.lt_trichotomy a b with h | h | h
  · rw [ord_lt h, ord_gt (by omega)]; rfl
  · rw [ord_eq h, ord_eq (by omega)]; rfl
  · rw [ord_gt h, ord_lt (by omega)]
theorem ord_same {x y : NumR} (ox : okR x = true) (oy : okR y = true) (h : sgn x.ng x.n = sgn y.ng y.n) : ((0 < x.n ∧ 0 < y.n) ∨ (x.n = 0 ∧ y.n = 0 ∧ x.e = y.e)) ∧ sgn x.ng x.n * ord (val x.d x.n * pw x.e) (val y.d y.n * pw y.e) = ord x.V y.V := by
  have hV : x.V = sg x.ng (val x.d x.n) * pw x.e := rfl
  have hW : y.V = sg y.ng (val y.d y.n) * pw y.e := rfl
  rcases sgn_V (okR_sane ox) with ⟨a, b, c⟩ | ⟨a, b, c, d⟩ | ⟨a, b, c, d⟩ <;> rcases sgn_V (okR_sane oy) with ⟨a', b', c'⟩ | ⟨a', b', c', d'⟩ | ⟨a', b', c', d'⟩ <;> rw [a, a'] at h <;> first | (exfalso; omega) | skip
  · refine ⟨.inr ⟨c, c', ?_⟩, ?_⟩
    · rcases of_decide_eq_true ox with ⟨_, _, e1⟩ | ⟨e1, _⟩
      · rcases of_decide_eq_true oy with ⟨_, _, e2⟩ | ⟨e2, _⟩
        · omega
        · omega
      · omega
    · rw [a, b, b', Int.zero_mul, ord_eq rfl]
  · refine ⟨.inl ⟨c, c'⟩, ?_⟩
    rw [a, hV, hW, d, d', Int.one_mul]; rfl
  · refine ⟨.inl ⟨c, c'⟩, ?_⟩
    rw [a, hV, hW, d, d']
    show -1 * _ = ord (-val x.d x.n * _) (-val y.d y.n * _)
    rw [Int.neg_mul (val x.d x.n), Int.neg_mul (val y.d y.n), ord_neg]; omega
set_option maxRecDepth 100000 in
set_option maxHeartbeats 2000000 in
theorem dcompare_any (x y : NumR) (w : World) (hx : Row w x.ao x.n x.cap x.d) (hy : Row w y.ao y.n y.cap y.d) (ox : okR x = true) (oy : okR y = true) :
    Calls Tryz.prog 28 #[x.v, y.v] w fun r w' => r = .returned (.int .i64 (ord x.V y.V)) ∧ Below w.heap.size w w' := by
  have sx := okR_sane ox
  have sy := okR_sane oy
  have hso : sgn x.ng x.n ≠ sgn y.ng y.n → ord (sgn x.ng x.n) (sgn y.ng y.n) = ord x.V y.V := ord_signs sx sy
  have hse : sgn x.ng x.n = sgn y.ng y.n → ((0 < x.n ∧ 0 < y.n) ∨ (x.n = 0 ∧ y.n = 0 ∧ x.e = y.e)) ∧ sgn x.ng x.n * ord (val x.d x.n * pw x.e) (val y.d y.n * pw y.e) = ord x.V y.V := ord_same ox oy
  have hZ := fun W hb hz => dsizes_any x y W (hx.keeps hb) (hy.keeps hb) sx sy hz
  have hX := fun W => dsign_any x.ng x.ao x.n x.cap x.e W (by have := hx.le; have := hx.max; omega)
  have hY := fun W => dsign_any y.ng y.ao y.n y.cap y.e W (by have := hy.le; have := hy.max; omega)
  generalize hU : ord x.V y.V = U at hso hse ⊢
  clear hU ox oy sx sy
  unfold NumR.v at hZ ⊢
  obtain ⟨an, ao, n, ca, a, e⟩ := x
  obtain ⟨bn, bo, m, cb, b, f⟩ := y
  simp only at *
  have hb3 := bel_alloc2 w (.cells #[.bool an, .slice ao n ca, .int .i64 e] 24) (.cells #[.bool bn, .slice bo m cb, .int .i64 f] 24)
  have g0 := heap_a2 w (.cells #[.bool an, .slice ao n ca, .int .i64 e] 24) (.cells #[.bool bn, .slice bo m cb, .int .i64 f] 24)
  have g1 := heap_b2 w (.cells #[.bool an, .slice ao n ca, .int .i64 e] 24) (.cells #[.bool bn, .slice bo m cb, .int .i64 f] 24)
  go_enter Tryz.func28, Tryz.ntmps28
  go_wp2_with fail
  generalize (w.alloc (.cells #[.bool an, .slice ao n ca, .int .i64 e] 24)).alloc (.cells #[.bool bn, .slice bo m cb, .int .i64 f] 24) = wx at hb3 g0 g1 ⊢
  have k0 := blkC g0 0 rfl
  have k1 := blkC g0 1 rfl
  have k2 := blkC g0 2 rfl
  have j0 := blkC g1 0 rfl
  have j1 := blkC g1 1 rfl
  have j2 := blkC g1 2 rfl
  have hb1 := bel_refl wx
  go_region_held3 (fun W => (W.cell? ⟨w.heap.size, 0, none⟩ = some (.bool an) ∧ W.cell? ⟨w.heap.size, 1, none⟩ = some (.slice ao n ca) ∧ W.cell? ⟨w.heap.size, 2, none⟩ = some (.int .i64 e)) ∧ W.cell? ⟨w.heap.size + 1, 0, none⟩ = some (.bool bn) ∧ W.cell? ⟨w.heap.size + 1, 1, none⟩ = some (.slice bo m cb) ∧ W.cell? ⟨w.heap.size + 1, 2, none⟩ = some (.int .i64 f))
    (first | assumption | exact ⟨⟨k0, k1, k2⟩, j0, j1, j2⟩ | exact keep66 hbv2 (keep66 (W := wx.drew) hbv1 ⟨⟨k0, k1, k2⟩, j0, j1, j2⟩) | exact keep66 (W := wx.drew) hbv1 ⟨⟨k0, k1, k2⟩, j0, j1, j2⟩)
    (first | (go_at_call 56; have _t := hbv1; refine (hY _).mono ?_; rintro r w4 ⟨rfl, hbv2⟩) | (go_at_call 56; refine (hX _).mono ?_; rintro r w3 ⟨rfl, hbv1⟩))
  have hS4 := keep66 hbv2 (keep66 (W := wx.drew) hbv1 ⟨⟨k0, k1, k2⟩, j0, j1, j2⟩)
  have hf4 := bel_trans hb3 (bel_trans (bel_trans hb1.drew hbv1) hbv2)
  clear k0 k1 k2 j0 j1 j2 g0 g1 hbv1 hbv2 hb1 hb3
  obtain ⟨⟨k0, k1, k2⟩, j0, j1, j2⟩ := hS4
  have hb4 := bel_refl w4
  have hsv : sgn an n = 1 ∨ sgn an n = 0 ∨ sgn an n = -1 := by unfold sgn; split; (· exact .inr (.inl rfl)); (· cases an <;> simp)
  by_cases heq : sgn an n = sgn bn m
  · have hne : (sgn an n != sgn bn m) = false := by simp [heq]
    obtain ⟨z1, z2⟩ := hse heq
    have HZ : Hid (sgn an n * ord (val a n * pw e) (val b m * pw f) = U) := z2
    have hZ4 : ∀ W, Below w4.heap.size w4 W → _ := fun W h => hZ W (bel_trans hf4 h) z1
    have hO : ∀ o : Int, (o = 1 ∨ o = 0 ∨ o = -1) → IntKind.i64.wrap (sgn an n * o) = sgn an n * o := fun o ho => by
      rw [wrap_i64_eq]
      rcases hsv with h | h | h <;> rcases ho with q | q | q <;> rw [h, q] <;> decide
    have hw := hO _ (ord_three (val a n * pw e) (val b m * pw f))
    clear hso hse heq z2 hO hZ hsv
    go_wp2_with fail
    generalize ord (val a n * pw e) (val b m * pw f) = O at hZ4 hw HZ
    go_region_held3 (fun W => (W.cell? ⟨w.heap.size, 0, none⟩ = some (.bool an) ∧ W.cell? ⟨w.heap.size, 1, none⟩ = some (.slice ao n ca) ∧ W.cell? ⟨w.heap.size, 2, none⟩ = some (.int .i64 e)) ∧ W.cell? ⟨w.heap.size + 1, 0, none⟩ = some (.bool bn) ∧ W.cell? ⟨w.heap.size + 1, 1, none⟩ = some (.slice bo m cb) ∧ W.cell? ⟨w.heap.size + 1, 2, none⟩ = some (.int .i64 f))
      (first | assumption | exact ⟨⟨k0, k1, k2⟩, j0, j1, j2⟩ | exact keep66 hbv4 (keep66 (W := w4.drew) hbv3 ⟨⟨k0, k1, k2⟩, j0, j1, j2⟩) | exact keep66 (W := w4.drew) hbv3 ⟨⟨k0, k1, k2⟩, j0, j1, j2⟩)
      (first | (go_at_call 58; refine (hZ4 _ (bel_trans hb4.drew hbv3)).mono ?_; rintro r w6 ⟨rfl, hbv4⟩) | (go_at_call 56; refine (hX _).mono ?_; rintro r w5 ⟨rfl, hbv3⟩))
    go_wp2
    go_ret
    exact ⟨ret_int HZ.out, bel_trans (bel_trans hf4 (bel_trans hb4.drew hbv3)) hbv4⟩
  · have hne : (sgn an n != sgn bn m) = true := by simp [heq]
    have HO : Hid (ord (sgn an n) (sgn bn m) = U) := hso heq
    clear hso hse heq hZ hsv
    go_wp2_with fail
    go_region_held3 (fun W => (W.cell? ⟨w.heap.size, 0, none⟩ = some (.bool an) ∧ W.cell? ⟨w.heap.size, 1, none⟩ = some (.slice ao n ca) ∧ W.cell? ⟨w.heap.size, 2, none⟩ = some (.int .i64 e)) ∧ W.cell? ⟨w.heap.size + 1, 0, none⟩ = some (.bool bn) ∧ W.cell? ⟨w.heap.size + 1, 1, none⟩ = some (.slice bo m cb) ∧ W.cell? ⟨w.heap.size + 1, 2, none⟩ = some (.int .i64 f))
      (first | assumption | exact ⟨⟨k0, k1, k2⟩, j0, j1, j2⟩ | exact keep66 hbv4 (keep66 (W := w4.drew) hbv3 ⟨⟨k0, k1, k2⟩, j0, j1, j2⟩) | exact keep66 (W := w4.drew) hbv3 ⟨⟨k0, k1, k2⟩, j0, j1, j2⟩)
      (first | (go_at_call 57; refine (cmpInt_any _ _ _).mono ?_; rintro r w7 ⟨rfl, rfl⟩) | (go_at_call 56; have _t := hbv3; refine (hY _).mono ?_; rintro r w6 ⟨rfl, hbv4⟩) | (go_at_call 56; refine (hX _).mono ?_; rintro r w5 ⟨rfl, hbv3⟩))
    go_wp2
    go_ret
    exact ⟨ret_int HO.out, bel_trans (bel_trans hf4 (bel_trans hb4.drew hbv3)) hbv4⟩
set_option maxRecDepth 100000 in
set_option maxHeartbeats 1000000 in
theorem dcmp_any (x y : NumR) (w : World) (hx : Row w x.ao x.n x.cap x.d) (hy : Row w y.ao y.n y.cap y.d) :
    Calls Tryz.prog 10 #[x.v, y.v] w fun r w' => r = .returned (.tuple #[.int .i64 (if okR x && okR y then ord x.V y.V else 0), .int .i64 (if okR x && okR y then 0 else 11)]) ∧ Below w.heap.size w w' := by
  have hA := allOk2 x y
  have hN := fun W q hb => nums2 (w := W) (g := w.heap.size + 2) (x := x) (y := y) (t := 24) q (hx.keeps hb) (hy.keeps hb)
  have hC := fun (hk : (okR x && okR y) = true) W hb => dcompare_any x y W (hx.keeps hb) (hy.keeps hb) (by simp at hk; exact hk.1) (by simp at hk; exact hk.2)
  generalize ord x.V y.V = O at hC ⊢
  generalize pair2 x y = pr at hA hN
  generalize (okR x && okR y) = ok at hA hC ⊢
  unfold NumR.v at hC ⊢
  obtain ⟨an, ao, n, ca, a, e⟩ := x
  obtain ⟨bn, bo, m, cb, b, f⟩ := y
  simp only at *
  cases ok
  · go_enter Tryz.func10, Tryz.ntmps10
    go_wp2_with fail
    refine (dvalids_any _ _ _ _ _ (hN _ (h3_2 _ _ _ _) (bel_a3 _ _ _ _))).mono ?_
    rw [hA]
    rintro r w1 ⟨rfl, hb1⟩
    go_wp2
    go_ret2
    exact ⟨rfl, bel_trans (bel_a3 _ _ _ _) hb1⟩
  · go_enter Tryz.func10, Tryz.ntmps10
    go_wp2_with fail
    refine (dvalids_any _ _ _ _ _ (hN _ (h3_2 _ _ _ _) (bel_a3 _ _ _ _))).mono ?_
    rw [hA]
    rintro r w1 ⟨rfl, hb1⟩
    have hbw := bel_trans (bel_a3 w _ _ _) hb1
    have g0 := (hb1.block w.heap.size (by rw [size3]; omega)).trans (h3_0 _ _ _ _)
    have g1 := (hb1.block (w.heap.size + 1) (by rw [size3]; omega)).trans (h3_1 _ _ _ _)
    have k0 := blkC g0 0 rfl
    have k1 := blkC g0 1 rfl
    have k2 := blkC g0 2 rfl
    have j0 := blkC g1 0 rfl
    have j1 := blkC g1 1 rfl
    have j2 := blkC g1 2 rfl
    go_wp2_with fail
    refine (hC (by trivial) _ hbw).mono ?_
    rintro r w2 ⟨rfl, hb2⟩
    go_wp2
    go_ret2
    exact ⟨rfl, bel_trans hbw hb2⟩
end Go.Proofs.YtcmcaladmodahaaGreatDoor
