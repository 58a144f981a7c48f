/-
  Proved: at every int and every text, plumblaw2.NatTexts answers true: Of and Read answer as the document says, and what they answer is new memory; no conditions.
-/
import Derived.Test.YtmbajngbiefilaaNShut
import Derived.Test.YtmbajngbiefilaaNTxt4
import Derived.Test.YtmbajngbiefilaaNKeep1
import Derived.ChangeMaps5
namespace Go.Proofs.Ytmbajngbiefilaa.natTexts
open Go Go.ChangeShapes Go.WideShapes Go.ChangeAt Go.RowKit Go.Proofs.Ytmbajngbiefilaa Go.Proofs.Ytmbajngbiefilaa.M
set_option linter.unusedSimpArgs false
set_option linter.unusedVariables false

/-- Both answers to a text. -/
theorem reads (s : ByteArray) (hs : s.size ≤ 3000) : ∃ (er V : Int), V < P 2000 ∧
    (∀ W : World, Calls Try.prog 10 #[.string s] W fun e w' => ∃ o2 n2 c2, e = .returned (.tuple #[.slice o2 n2 c2, .int .i64 er]) ∧ Ans W w' V (.slice o2 n2 c2)) ∧
    (∀ W : World, Calls Try.prog 11 #[.string s] W fun e w' => ∃ o2 n2 c2, e = .returned (.tuple #[.slice o2 n2 c2, .int .i64 er]) ∧ Ans W w' V (.slice o2 n2 c2)) := by
  cases ok : okT s with
  | true =>
    refine ⟨0, num s s.size, Int.lt_of_lt_of_le (num_small (okT_out ok).1 hs) (P_le (by decide)), fun W => ?_, fun W => ?_⟩
    · refine (read_yes s W hs ok).mono ?_
      rintro e w' ⟨v, rfl, hA⟩
      obtain ⟨o2, n2, c2, rfl⟩ := hA.num.shape
      exact ⟨o2, n2, c2, rfl, hA⟩
    · refine (rread_yes s W hs ok).mono ?_
      rintro e w' ⟨v, rfl, hA⟩
      obtain ⟨o2, n2, c2, rfl⟩ := hA.num.shape
      exact ⟨o2, n2, c2, rfl, hA⟩
  | false =>
    refine ⟨50, 0, P_pos 2000, fun W => ?_, fun W => ?_⟩
    · refine (read_no s W hs ok).mono ?_
      rintro e w' ⟨rfl, rfl⟩
      exact ⟨_, _, _, rfl, Ans.nil (bel_refl _)⟩
    · refine (rread_no s W hs ok).mono ?_
      rintro e w' ⟨rfl, rfl⟩
      exact ⟨_, _, _, rfl, Ans.nil (bel_refl _)⟩
set_option maxRecDepth 100000 in
set_option maxHeartbeats 4000000 in
theorem walk (x : Int) (s : ByteArray) (w : World) (hx : rng x) (hs : s.size ≤ maxLen) :
    Calls Try.prog 4 #[.int .i64 x, .string s] w fun e w' => e = .returned (.bool true) ∧ Below w.heap.size w w' := by
  have HK : Hid (Kept w.heap.size (w.alloc (.cells #[.slice none 0 0, .slice none 0 0] 26)) w.heap.size (fun _ => False)) := kept_new w (Nat.le_refl _)
  have hs1 : s.size ≤ 9223372036854775807 := by unfold maxLen at hs; exact hs
  have hA : ∀ W : World, Below w.heap.size w W → Calls Try.prog 7 #[] W fun e w' => e = .returned (.bool true) ∧ Below w.heap.size w w' ∧ Below W.heap.size W w' := fun W hW => (alive_any W).mono fun _ _ h => ⟨h.1, hW.trans (h.2.mono hW.size), h.2⟩
  have HX : Hid (rng x) := hx
  clear hs hx
  by_cases g0 : 3000 < s.size
  · go_enter Try.func4, Try.ntmps4
    go_wp2_with fail
    refine (hA _ (bel_alloc _ _)).mono ?_
    rintro e w2 ⟨rfl, hb, _⟩
    go_wp2
    go_ret
    exact ⟨rfl, hb⟩
  · obtain ⟨er, V, hV, h1, h2⟩ := reads s (by omega)
    have HV : Hid (V < P 2000) := hV
    have hee : (er == er) = true := by simp
    clear hV
    go_enter Try.func4, Try.ntmps4
    go_wp2_with fail
    refine (h1 _).mono ?_
    rintro e w2 ⟨o2, n2, c2, rfl, hA2⟩
    have HB2 : Hid (Below w.heap.size w w2) := bel_trans (bel_alloc _ _) hA2.below
    have HK2 : Hid (Kept w.heap.size w2 w.heap.size (fun _ => False)) := HK.out.keeps hA2.below
    have HA2 : Hid (An w.heap.size w2 (.slice o2 n2 c2) V) := hA2.an.lower (bel_alloc w _).size
    clear hA2
    go_wp2_with fail
    refine (h2 _).mono ?_
    rintro e w3 ⟨o3, n3, c3, rfl, hA3⟩
    have HB3 : Hid (Below w.heap.size w w3) := bel_trans HB2.out hA3.below
    have HK3 : Hid (Kept w.heap.size w3 w.heap.size (fun _ => False)) := HK2.out.keeps hA3.below
    have HA3 : Hid (An w.heap.size w3 (.slice o3 n3 c3) V) := hA3.an.lower HB2.out.size
    have HA23 : Hid (An w.heap.size w3 (.slice o2 n2 c2) V) := HA2.out.keeps hA3.below
    clear hA3
    go_wp2_with fail
    refine (hA _ HB3.out).mono ?_
    rintro e w4 ⟨rfl, hb4, hb4'⟩
    have HB4 : Hid (Below w.heap.size w w4) := hb4
    have HK4 : Hid (Kept w.heap.size w4 w.heap.size (fun _ => False)) := HK3.out.keeps hb4'
    have HA34 : Hid (An w.heap.size w4 (.slice o3 n3 c3) V) := HA3.out.keeps hb4'
    have HA24 : Hid (An w.heap.size w4 (.slice o2 n2 c2) V) := HA23.out.keeps hb4'
    clear hb4 hb4'
    go_wp2_with fail
    refine (lawOf_any HK4.out HB4.out.size x HX.out).mono ?_
    rintro e w5 ⟨rfl, hi5, S5, hk5, hs5⟩
    have HB5 : Hid (Below w.heap.size w w5) := HB4.out.trans hi5.below
    have HK5 : Hid (Kept w.heap.size w5 w.heap.size S5) := hk5
    have HS5 : Hid (∀ g, S5 g → False ∨ w4.heap.size ≤ g) := hs5
    have HA35 : Hid (An w.heap.size w5 (.slice o3 n3 c3) V) := HA34.out.ik hi5
    have HA25 : Hid (An w.heap.size w5 (.slice o2 n2 c2) V) := HA24.out.ik hi5
    clear hi5 hk5 hs5
    go_wp2_with fail
    refine (keep_an HK5.out HA25.out HA35.out 2000 (by decide) HV.out HB5.out.size (fun g hg hs => by
      rcases HS5.out g hs with q | q
      · exact q
      · have := (HA24.out.ge hg).2; omega)).mono ?_
    rintro e w6 ⟨rfl, hi6, hk6⟩
    have HB6 : Hid (Below w.heap.size w w6) := HB5.out.trans hi6.below
    clear hi6
    go_wp2_with fail
    refine (apart_kept hk6 HB6.out.size).mono ?_
    rintro e w7 ⟨rfl, hb7⟩
    go_wp2
    go_ret
    exact ⟨rfl, HB6.out.trans hb7⟩
theorem own : ownKnob Try.prog.godebug = none := by kernel_rfl
theorem laidOut : laidOutB Try.prog = true := by kernel_rfl
set_option maxRecDepth 100000 in
theorem lifted (os : Os) (started : os.Started) (H : Type) (enc : TypeId × Value → H) :
    ReturnsInHanded {} Try.checked os 4 .any (Rows.natTextsSpec.pre6 enc Try.prog Try.f4 Rows.natTextsRow.domain false) (Rows.natTextsSpec.post enc Try.prog Try.f4 false true false false) := by
  refine returnsInHanded_of_change (C := Try.checked) own started (by kernel_rfl) Try.func4
    (ChangeSpec.witness6 (enc := enc) (C := Try.checked) false ⟨#[], #[.int .i64 0, .string ByteArray.empty], []⟩ 8 (by kernel_rfl) (by kernel_rfl) (by kernel_rfl) (by kernel_rfl)) ?_
  intro W base args ds gs before hval0 hW hcnd _
  have hval : ∀ (j : Nat) t v, Try.f4.params[j]? = some t → args[j]? = some v → Value.okWide Try.prog W .any base t v := hval0
  have hW' := hW
  obtain ⟨p, q, hA0, hV, rfl, hfz, hnd⟩ := hW
  have hA : DataW.TrodAll enc Try.prog W 0 (fun _ => true) true Try.f4.params.toList args.toList ds p := hA0
  rw [Try.params4] at hA hval
  obtain ⟨v0, vs0, d0, ds0, p0, q0, hargs, rfl, rfl, h0, r0⟩ := trodAll_cons hA
  obtain ⟨v1, vs1, d1, ds1, p1, q1, rfl, rfl, rfl, h1, r1⟩ := trodAll_cons r0
  obtain ⟨rfl, rfl, rfl⟩ := trodAll_nil r1
  obtain rfl : args = #[v0, v1] := by cases args; simp_all
  obtain ⟨rfl, rfl⟩ := trodVars_none hV
  obtain ⟨a0, rfl, rfl, rfl, w0⟩ := open_int Try.underlying3 (hval 0 3 v0 rfl rfl) h0
  obtain ⟨a1, rfl, rfl, rfl, w1⟩ := Go.ChangeMaps.open_string Try.underlying9 (hval 1 9 v1 rfl rfl) h1
  clear hA0 hval0
  refine (walk a0 a1 W (rng_of w0) w1).mono fun e W' ⟨he, bel⟩ => ?_
  subst he
  exact ⟨_, rfl, _, _, _, [], _, [], hW', trodAll_mk1 (shut_bool Try.underlying4 _), (trodAll_cons_mk (shut_int Try.underlying3 w0) (trodAll_cons_mk (Go.ChangeMaps.shut_string Try.underlying9 w1) trodAll_mk0)), rfl, bel.frame _, fun h => by cases h⟩
theorem said : Rows.NatTextsSaid :=
  OpenClaim.holds_of_wide 4 Try.f4 rfl rfl rfl rfl rfl rfl rfl ⟨rfl, rfl, rfl, rfl, rfl⟩ rfl rfl rfl rfl rfl (by kernel_rfl) Try.func4 (by kernel_rfl)
    (of_decide_eq_true (by kernel_rfl)) (by unfold Func.isWrapper; first | (rw [if_pos (by decide +kernel)]; kernel_rfl) | (rw [if_neg (by decide +kernel)]; exact ⟨rfl, rfl⟩))
    (fun os started H enc _ => lifted os started H enc)
end Go.Proofs.Ytmbajngbiefilaa.natTexts
namespace Go.Proofs.Ytmbajngbiefilaa
/-- NatTexts: the statement as it is given. -/
theorem natTexts_holds : Rows.NatTextsSaid := natTexts.said
end Go.Proofs.Ytmbajngbiefilaa
