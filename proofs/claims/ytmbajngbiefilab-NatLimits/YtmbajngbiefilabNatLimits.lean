/-
  Proved: plumblaw2.NatLimits answers true: the greatest number there is, and one more; products, powers and shifts about there; no conditions.
-/
import Derived.Test.YtmbajngbiefilabNShut
import Derived.Test.YtmbajngbiefilabNDigits
import Derived.Test.YtmbajngbiefilabNPow2
namespace Go.Proofs.Ytmbajngbiefilab.natLimits
open Go Go.ChangeShapes Go.WideShapes Go.ChangeAt Go.RowKit Go.Proofs.Ytmbajngbiefilab Go.Proofs.Ytmbajngbiefilab.M
set_option linter.unusedSimpArgs false
set_option linter.unusedVariables false

/-- The greatest number. -/
def FullV : Int := P 2000 - 1
/-- The highest bit alone. -/
def TopV : Int := 2 ^ 59999
theorem val_full {r : Nat → Int} {n : Nat} (h : ∀ i, i < n → r i = 1073741823) : val r n = P n - 1 := by
  induction n with
  | zero => rfl
  | succ n ih => rw [val_succ, ih (fun i hi => h i (by omega)), h n (by omega), P_succ]; omega
theorem full_lt : FullV < P 2000 := by unfold FullV; exact Int.sub_one_lt_of_le (Int.le_refl _)
theorem full_big : 1000 < FullV := by
  unfold FullV
  have h := P_le (show 1 ≤ 2000 by decide)
  have e : P 1 = 1073741824 := by decide
  generalize P 2000 = X at *
  omega
theorem num_full {w : World} {g : Nat} {r : Nat → Int} (hB : Blk w g 2000 r) (h : ∀ i, i < 2000 → r i = 1073741823) : Num w (.slice (some ⟨g, 0, none⟩) 2000 2000) FullV :=
  ⟨_, 2000, 2000, r, rfl, hB.row0 (Nat.le_refl _) (by decide), ⟨fun i hi => by rw [h i hi]; omega, .inr (by rw [h (2000 - 1) (by decide)]; omega)⟩, val_full h⟩
theorem add_full {w : World} {x y : Value} (hx : Num w x FullV) (hy : Num w y 1) : Calls Try.prog 7 #[x, y] w fun e w' => e = .returned (.tuple #[.slice none 0 0, .int .i64 2]) ∧ Below w.heap.size w w' := by
  refine (add_num hx hy full_lt (Int.lt_trans (show (1 : Int) < 1152921504606846976 by decide) P2000_big)).mono ?_
  rintro e w' ⟨v, er, rfl, hb, h⟩
  rcases h with ⟨h1, _⟩ | ⟨_, rfl, rfl⟩
  · exact absurd h1 (by rw [show FullV + 1 = P 2000 from Int.sub_add_cancel _ _]; exact Int.lt_irrefl _)
  · exact ⟨rfl, hb⟩
theorem sub_full {w : World} {x : Value} (hx : Num w x FullV) : Calls Try.prog 14 #[x, x] w fun e w' => ∃ v, e = .returned (.tuple #[v, .int .i64 0]) ∧ Num w' v 0 ∧ Below w.heap.size w w' := by
  refine (sub_ok hx hx full_lt full_lt (Int.le_refl _)).mono ?_
  rintro e w' ⟨v, rfl, h⟩
  rw [Int.sub_self] at h
  exact ⟨v, rfl, h.num, h.below⟩
theorem mul_full1 {w : World} {x y : Value} (hx : Num w x FullV) (hy : Num w y 1) : Calls Try.prog 8 #[x, y] w fun e w' => ∃ v, e = .returned (.tuple #[v, .int .i64 0]) ∧ Num w' v FullV ∧ Below w.heap.size w w' := by
  refine (mul_ok hx hy full_lt (Int.lt_trans (show (1 : Int) < 1152921504606846976 by decide) P2000_big) (by rw [Int.mul_one]; exact full_lt)).mono ?_
  rintro e w' ⟨v, rfl, h⟩
  rw [Int.mul_one] at h
  exact ⟨v, rfl, h.num, h.below⟩
theorem mul_full2 {w : World} {x y : Value} (hx : Num w x FullV) (hy : Num w y 2) : Calls Try.prog 8 #[x, y] w fun e w' => e = .returned (.tuple #[.slice none 0 0, .int .i64 2]) ∧ Below w.heap.size w w' := by
  refine (mul_num hx hy full_lt (Int.lt_trans (show (2 : Int) < 1152921504606846976 by decide) P2000_big)).mono ?_
  rintro e w' ⟨v, er, rfl, hb, h⟩
  rcases h with ⟨h1, _⟩ | ⟨_, rfl, rfl⟩
  · have a := full_big
    have b : FullV = P 2000 - 1 := rfl
    generalize P 2000 = X at *
    omega
  · exact ⟨rfl, hb⟩
theorem top_pos : (2 : Int) ^ 59999 < P 2000 := by rw [P2000_two]; exact two_lt (by decide)
theorem shl_one {w : World} {x : Value} (hx : Num w x 1) : Calls Try.prog 15 #[x, .int .i64 59999] w fun e w' => ∃ v, e = .returned (.tuple #[v, .int .i64 0]) ∧ Num w' v TopV ∧ Below w.heap.size w w' := by
  refine (shl_num hx (Int.lt_trans (show (1 : Int) < 1152921504606846976 by decide) P2000_big) 59999 (by decide)).mono ?_
  rintro e w' ⟨v, er, rfl, hb, h⟩
  rw [Int.one_mul] at h
  rcases h with ⟨_, rfl, h⟩ | ⟨h1, _⟩
  · exact ⟨v, rfl, h.num, hb⟩
  · exact absurd h1 (Int.not_le.2 top_pos)
theorem shl_two {w : World} {x : Value} (hx : Num w x 1) : Calls Try.prog 15 #[x, .int .i64 60000] w fun e w' => e = .returned (.tuple #[.slice none 0 0, .int .i64 2]) ∧ Below w.heap.size w w' := by
  refine (shl_num hx (Int.lt_trans (show (1 : Int) < 1152921504606846976 by decide) P2000_big) 60000 (by decide)).mono ?_
  rintro e w' ⟨v, er, rfl, hb, h⟩
  rw [Int.one_mul] at h
  rcases h with ⟨h1, _⟩ | ⟨_, rfl, rfl⟩
  · rw [P2000_two] at h1; exact absurd h1 (Int.lt_irrefl _)
  · exact ⟨rfl, hb⟩
theorem pow_no {w : World} {x : Value} (hx : Num w x 2) (k : Nat) (hk : k < 4611686018427387904 * 2) (h6 : 59999 < k) : Calls Try.prog 10 #[x, .int .i64 k] w fun e w' => e = .returned (.tuple #[.slice none 0 0, .int .i64 2]) ∧ Below w.heap.size w w' := by
  refine (pow_num hx (Int.lt_trans (show (2 : Int) < 1152921504606846976 by decide) P2000_big) k hk).mono ?_
  rintro e w' ⟨v, er, rfl, hb, h⟩
  rcases h with ⟨h1, _⟩ | ⟨_, rfl, rfl⟩
  · exact absurd h1 (Int.not_lt.2 (pow_long (L := 2) (by decide) (by omega)))
  · exact ⟨rfl, hb⟩
theorem pow_huge {w : World} {x : Value} (hx : Num w x 2) : Calls Try.prog 10 #[x, .int .i64 4611686018427387904] w fun e w' => e = .returned (.tuple #[.slice none 0 0, .int .i64 2]) ∧ Below w.heap.size w w' :=
  pow_no hx 4611686018427387904 (by decide) (by decide)
theorem pow_two {w : World} {x : Value} (hx : Num w x 2) : Calls Try.prog 10 #[x, .int .i64 60000] w fun e w' => e = .returned (.tuple #[.slice none 0 0, .int .i64 2]) ∧ Below w.heap.size w w' :=
  pow_no hx 60000 (by decide) (by decide)
theorem pow_one {w : World} {x : Value} (hx : Num w x 2) : Calls Try.prog 10 #[x, .int .i64 59999] w fun e w' => ∃ v, e = .returned (.tuple #[v, .int .i64 0]) ∧ Num w' v TopV ∧ Below w.heap.size w w' := by
  refine (pow_num hx (Int.lt_trans (show (2 : Int) < 1152921504606846976 by decide) P2000_big) 59999 (by decide)).mono ?_
  rintro e w' ⟨v, er, rfl, hb, h⟩
  rcases h with ⟨_, rfl, h⟩ | ⟨h1, _⟩
  · exact ⟨v, rfl, h.num, hb⟩
  · exact absurd h1 (Int.not_le.2 top_pos)
theorem top_len {w : World} {ao : Option Addr} {n cap : Nat} (h : Num w (.slice ao n cap) TopV) : n = 2000 := by
  have h1 := h.len (show TopV < P 2000 from top_pos)
  have h2 : ¬ n ≤ 1999 := fun hn => by
    obtain ⟨ao', n', cap', d, e, hR, hN, hV⟩ := h
    simp only [Value.slice.injEq] at e
    obtain ⟨rfl, rfl, rfl⟩ := e
    have a := val_lt hN.1
    rw [hV] at a
    have b := Int.lt_of_lt_of_le a (P_le hn)
    rw [P_two] at b
    have c : (2 : Int) ^ (30 * 1999) ≤ 2 ^ 59999 := two_le (by decide)
    exact absurd b (Int.not_lt.2 c)
  omega
theorem valid_full {w : World} {x : Value} (hx : Num w x FullV) : Calls Try.prog 16 #[x] w fun e w' => e = .returned (.bool true) ∧ w' = w := valid_num hx full_lt
theorem long_bad (d : Nat → Int) : okB d 2001 = false := okB_no (fun q => absurd q.1 (by decide))
theorem cmp_no {w : World} {ao : Option Addr} {n ca : Nat} {a : Nat → Int} {y : Value} {B : Int} (ha : Row w ao n ca a) (hbad : okB a n = false) (hy : Num w y B) :
    Calls Try.prog 9 #[.slice ao n ca, y] w fun e w' => e = .returned (.tuple #[.int .i64 0, .int .i64 11]) ∧ Below w.heap.size w w' := by
  go_enter Try.func9, Try.ntmps9
  go_wp2_with fail
  refine (valid_any _ _ _ _ _ ha).mono ?_
  rintro e w' ⟨rfl, rfl⟩
  go_wp2
  go_ret2
  exact ⟨rfl, bel_refl _⟩
set_option maxRecDepth 100000 in
set_option maxHeartbeats 4000000 in
theorem walk (w : World) : Calls Try.prog 4 #[] w fun e w' => e = .returned (.bool true) ∧ Below w.heap.size w w' := by
  go_enter Try.func4, Try.ntmps4
  go_wp2_with (at_make; refine wpList_mk rfl _ _ rfl _ _ 2000 rfl rfl rfl rfl (by decide) ?_; intro w1 hB1 hb1)
  go_loopw [2] (fun i wr => ∃ (k : Nat) (r : Nat → Int), k ≤ 2000 ∧ i = .int .i64 k ∧ Blk wr w.heap.size 2000 r ∧ Hid (∀ i, i < k → r i = 1073741823) ∧ Below w.heap.size w wr) (fun i _ => 2000 - (intOf i).toNat)
  case atStart => exact ⟨0, fun _ => 0, Nat.zero_le _, rfl, hB1, fun i hi => by omega, hb1⟩
  case round =>
  clear hB1 hb1
  obtain ⟨k, r, hk, rfl, hB, HF, bb⟩ := hrel
  by_cases hlt : k < 2000
  · have cg := hB.cell hlt
    have fg := hB.frozen k
    go_wp2
    go_roundw
    case rel => exact ⟨k + 1, upd r k 1073741823, by omega, by go_num, hB.store k _, fun i hi => by
        by_cases e : i = k
        · rw [e, upd_same]
        · rw [upd_other r _ e]; exact HF.out i (by omega), bb.setCell (Nat.le_refl _) _⟩
    case measure => simp [intOf]; omega
  obtain rfl : k = 2000 := by omega
  have nfull := num_full hB HF.out
  have hrow := hB.row0 (Nat.le_refl 2000) (by decide)
  clear hB HF
  go_wp2_with (first | (at_builtin; refine wpList_app rfl (.const (.slice none 0 0)) (.tmp 34) rfl wr.heap.size _ 0 r rfl (Out.nil _ _ _) _ 2000 2000 r rfl hrow (by decide) (Nat.le_refl _) ?_; intro v2 w2 hO2 hg2) | (at_builtin; refine wpList_app rfl (.tmp 35) (.tmp 36) rfl wr.heap.size _ 2000 _ rfl (hO2.stays (bel_alloc _ _)) _ 1 1 (fun _ => 1) rfl (row1 _ _ rfl) (by decide) (by have := hg2.size; simp; omega) ?_; intro v4 w4 hO4 hg4))
  have bw2 : Below wr.heap.size wr w2 := (Below.refl _ _).grown hg2 (Nat.le_refl _) (own_ge (Out.nil wr.heap.size wr r))
  have bw4 : Below wr.heap.size wr w4 := (bw2.alloc bw2.size _).grown hg4 (by have := bw2.size; simp; omega) (own_ge hO2)
  obtain ⟨lo, lc, rfl, rlong⟩ := hO4.row
  replace nfull := nfull.keeps bw4
  replace bb := bel_trans bb bw4
  clear hrow hO2 hO4 hg2 hg4 bw2
  go_wp2_with fail
  refine (add_full (nfull.alloc _) (num1 w4 1 (by decide) (by decide) rfl)).mono ?_
  rintro e w5 ⟨rfl, hb5⟩
  have b5 := bel_trans (bel_alloc _ _) hb5
  replace nfull := nfull.keeps b5
  replace rlong := rlong.keeps b5
  go_wp2_with fail
  refine (sub_full nfull).mono ?_
  rintro e w6 ⟨vs, rfl, hs, hb6⟩
  have b6 := hb6
  replace nfull := nfull.keeps b6
  replace rlong := rlong.keeps b6
  have nsub := hs
  go_wp2_with fail
  refine (mul_full1 (nfull.alloc _) (num1 w6 1 (by decide) (by decide) rfl)).mono ?_
  rintro e w7 ⟨vd, rfl, hd, hb7⟩
  have b7 := bel_trans (bel_alloc _ _) hb7
  replace nfull := nfull.keeps b7
  replace nsub := nsub.keeps b7
  replace rlong := rlong.keeps b7
  have nmul := hd
  go_wp2_with fail
  refine (mul_full2 (nfull.alloc _) (num1 w7 2 (by decide) (by decide) rfl)).mono ?_
  rintro e w8 ⟨rfl, hb8⟩
  have b8 := bel_trans (bel_alloc _ _) hb8
  replace nfull := nfull.keeps b8
  replace nsub := nsub.keeps b8
  replace nmul := nmul.keeps b8
  replace rlong := rlong.keeps b8
  go_wp2_with fail
  refine (shl_one (num1 w8 1 (by decide) (by decide) rfl)).mono ?_
  rintro e w9 ⟨vp, rfl, hp, hb9⟩
  have b9 := bel_trans (bel_alloc _ _) hb9
  replace nfull := nfull.keeps b9
  replace nsub := nsub.keeps b9
  replace nmul := nmul.keeps b9
  replace rlong := rlong.keeps b9
  have nshl := hp
  go_wp2_with fail
  refine (shl_two (num1 w9 1 (by decide) (by decide) rfl)).mono ?_
  rintro e w10 ⟨rfl, hb10⟩
  have b10 := bel_trans (bel_alloc _ _) hb10
  replace nfull := nfull.keeps b10
  replace nsub := nsub.keeps b10
  replace nmul := nmul.keeps b10
  replace nshl := nshl.keeps b10
  replace rlong := rlong.keeps b10
  go_wp2_with fail
  refine (pow_huge (num1 w10 2 (by decide) (by decide) rfl)).mono ?_
  rintro e w11 ⟨rfl, hb11⟩
  have b11 := bel_trans (bel_alloc _ _) hb11
  replace nfull := nfull.keeps b11
  replace nsub := nsub.keeps b11
  replace nmul := nmul.keeps b11
  replace nshl := nshl.keeps b11
  replace rlong := rlong.keeps b11
  go_wp2_with fail
  refine (pow_one (num1 w11 2 (by decide) (by decide) rfl)).mono ?_
  rintro e w12 ⟨vq, rfl, hq, hb12⟩
  have b12 := bel_trans (bel_alloc _ _) hb12
  replace nfull := nfull.keeps b12
  replace nsub := nsub.keeps b12
  replace nmul := nmul.keeps b12
  replace nshl := nshl.keeps b12
  replace rlong := rlong.keeps b12
  have npow := hq
  go_wp2_with fail
  refine (pow_two (num1 w12 2 (by decide) (by decide) rfl)).mono ?_
  rintro e w13 ⟨rfl, hb13⟩
  have b13 := bel_trans (bel_alloc _ _) hb13
  replace nfull := nfull.keeps b13
  replace nsub := nsub.keeps b13
  replace nmul := nmul.keeps b13
  replace nshl := nshl.keeps b13
  replace npow := npow.keeps b13
  replace rlong := rlong.keeps b13
  go_wp2_with fail
  refine (cmp_no rlong (long_bad _) nfull).mono ?_
  rintro e w14 ⟨rfl, hb14⟩
  have b14 := hb14
  replace nfull := nfull.keeps b14
  replace nsub := nsub.keeps b14
  replace nmul := nmul.keeps b14
  replace nshl := nshl.keeps b14
  replace npow := npow.keeps b14
  replace rlong := rlong.keeps b14
  obtain ⟨so, sn, sc, rfl⟩ := nsub.shape
  obtain rfl : sn = 0 := nsub.zero.1 rfl
  obtain ⟨po, pn, pc, rfl⟩ := nshl.shape
  obtain rfl : pn = 2000 := top_len nshl
  go_wp2_with fail
  refine (alive_any _).mono ?_
  rintro e w15 ⟨rfl, hb15⟩
  have b15 := hb15
  replace nfull := nfull.keeps b15
  replace nsub := nsub.keeps b15
  replace nmul := nmul.keeps b15
  replace nshl := nshl.keeps b15
  replace npow := npow.keeps b15
  replace rlong := rlong.keeps b15
  go_wp2_with fail
  refine (valid_full nfull).mono ?_
  rintro e w0 ⟨rfl, rfl⟩
  go_wp2_with fail
  refine (valid_any _ _ _ _ _ rlong).mono ?_
  rintro e w0 ⟨rfl, rfl⟩
  rw [long_bad]
  go_wp2_with fail
  refine (same_num nmul nfull).mono ?_
  rintro e w16 ⟨rfl, hb16⟩
  have b16 := hb16
  replace nfull := nfull.keeps b16
  replace nsub := nsub.keeps b16
  replace nmul := nmul.keeps b16
  replace nshl := nshl.keeps b16
  replace npow := npow.keeps b16
  replace rlong := rlong.keeps b16
  go_wp2_with fail
  refine (same_num npow nshl).mono ?_
  rintro e w17 ⟨rfl, hb17⟩
  have b17 := hb17
  replace nfull := nfull.keeps b17
  replace nsub := nsub.keeps b17
  replace nmul := nmul.keeps b17
  replace nshl := nshl.keeps b17
  replace npow := npow.keeps b17
  replace rlong := rlong.keeps b17
  go_wp2
  go_ret
  exact ⟨rfl, bel_trans (bel_trans (bel_trans (bel_trans (bel_trans (bel_trans (bel_trans (bel_trans (bel_trans (bel_trans (bel_trans (bel_trans (bel_trans (bb) b5) b6) b7) b8) b9) b10) b11) b12) b13) b14) b15) b16) b17⟩
theorem own : ownKnob Try.prog.godebug = none := by kernel_rfl
theorem laidOut : laidOutB Try.prog = true := by kernel_rfl
set_option maxRecDepth 100000 in
theorem lifted (os : Os) (started : os.Started) (H : Type) (enc : TypeId × Value → H) :
    ReturnsInHanded {} Try.checked os 4 .any (Rows.natLimitsSpec.pre6 enc Try.prog Try.f4 Rows.natLimitsRow.domain false) (Rows.natLimitsSpec.post enc Try.prog Try.f4 false true false false) := by
  refine returnsInHanded_of_change (C := Try.checked) own started (by kernel_rfl) Try.func4
    (ChangeSpec.witness6 (enc := enc) (C := Try.checked) false ⟨#[], #[], []⟩ 8 (by kernel_rfl) (by kernel_rfl) (by kernel_rfl) (by kernel_rfl)) ?_
  intro W base args ds gs before hval0 hW hcnd _
  have hval : ∀ (j : Nat) t v, Try.f4.params[j]? = some t → args[j]? = some v → Value.okWide Try.prog W .any base t v := hval0
  have hW' := hW
  obtain ⟨p, q, hA0, hV, rfl, hfz, hnd⟩ := hW
  have hA : DataW.TrodAll enc Try.prog W 0 (fun _ => true) true Try.f4.params.toList args.toList ds p := hA0
  rw [Try.params4] at hA hval
  obtain ⟨hargs, rfl, rfl⟩ := trodAll_nil hA
  obtain rfl : args = #[] := by cases args; simp_all
  obtain ⟨rfl, rfl⟩ := trodVars_none hV
  clear hA0 hval0
  refine (walk  W ).mono fun e W' ⟨he, bel⟩ => ?_
  subst he
  exact ⟨_, rfl, _, _, _, [], _, [], hW', trodAll_mk1 (shut_bool Try.underlying4 _), trodAll_mk0, rfl, bel.frame _, fun h => by cases h⟩
theorem said : Rows.NatLimitsSaid :=
  OpenClaim.holds_of_wide 4 Try.f4 rfl rfl rfl rfl rfl rfl rfl ⟨rfl, rfl, rfl, rfl, rfl⟩ rfl rfl rfl rfl rfl (by kernel_rfl) Try.func4 (by kernel_rfl)
    (of_decide_eq_true (by kernel_rfl)) (by unfold Func.isWrapper; first | (rw [if_pos (by decide +kernel)]; kernel_rfl) | (rw [if_neg (by decide +kernel)]; exact ⟨rfl, rfl⟩))
    (fun os started H enc _ => lifted os started H enc)
end Go.Proofs.Ytmbajngbiefilab.natLimits
namespace Go.Proofs.Ytmbajngbiefilab
/-- NatLimits: the statement as it is given. -/
theorem natLimits_holds : Rows.NatLimitsSaid := natLimits.said
end Go.Proofs.Ytmbajngbiefilab
