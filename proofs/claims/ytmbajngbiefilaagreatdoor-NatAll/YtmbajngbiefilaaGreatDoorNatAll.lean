/-
  Proved: at every script of asks, plumblaw2.NatAll answers true: calls in any order answer as the document says, what is answered is new memory; the library's tables (trailing zeros, powers of ten) start as the program's text lays them: the card ties them.
-/
import Derived.Test.YtmbajngbiefilaaGreatDoorCards
import Derived.Test.YtmbajngbiefilaaGreatDoorTie
import Derived.Test.YtmbajngbiefilaaGreatDoorPart1
import Derived.Test.YtmbajngbiefilaaGreatDoorPart11
import Derived.Test.YtmbajngbiefilaaGreatDoorPart15
import Derived.Test.YtmbajngbiefilaaGreatDoorPart16
import Derived.ProofKit
import Derived.OpenShut
import Derived.Deep.DeepHandedRow
import Derived.LaidMore
namespace Go.Proofs.YtmbajngbiefilaaGreatDoor.natAll
open Go Go.ChangeShapes Go.WideShapes Go.ChangeAt Go.RowKit Go.Proofs.YtmbajngbiefilaaGreatDoor Go.Proofs.YtmbajngbiefilaaGreatDoor.M
set_option linter.unusedSimpArgs false
set_option linter.unusedVariables false

/-- Kept in some blocks. -/
def KeptS (B : Nat) (w : World) (k : Nat) : Prop := ∃ S, Kept B w k S
theorem ask_keeps {w w' : World} {b o : Nat} {r : AskR} (h : IsAsk w b o r) (hb : Below w.heap.size w w') (hlt : b < w.heap.size) :
    w'.cell? ⟨b, o, none⟩ = some (.int .i64 r.k) ∧ w'.cell? ⟨b, o + 1, none⟩ = some (.slice r.ao r.an r.ac) ∧ w'.cell? ⟨b, o + 2, none⟩ = some (.slice r.bo r.bn r.bc) ∧ w'.cell? ⟨b, o + 3, none⟩ = some (.int .i64 r.n) :=
  ⟨(hb.cell (p := ⟨b, o, none⟩) hlt).trans h.c0, (hb.cell (p := ⟨b, o + 1, none⟩) hlt).trans h.c1, (hb.cell (p := ⟨b, o + 2, none⟩) hlt).trans h.c2, (hb.cell (p := ⟨b, o + 3, none⟩) hlt).trans h.c3⟩
theorem x_cells {w w' : World} {cs : Array Value} (h : Fr (w.alloc (.cells cs 25)) w') (i : Nat) : w'.cell? ⟨w.heap.size, i, none⟩ = cs[i]? := by
  have e := heap_alloc_new w (.cells cs 25)
  have hb := h w.heap.size cs 25 (0, 0) (by decide) (by decide) e
  rw [cell_of_row w' _ i cs _ _ (hb.trans e)]
theorem rng_mod (x : Int) : rng (x.tmod 1000) := by
  have h1 := Int.tmod_lt_of_pos x (show (0 : Int) < 1000 by decide)
  have h2 : -1000 < x.tmod 1000 := by
    have := Int.tmod_lt_of_pos (-x) (show (0 : Int) < 1000 by decide)
    rw [Int.neg_tmod] at this
    omega
  unfold rng
  omega
set_option maxRecDepth 100000 in
set_option maxHeartbeats 4000000 in
theorem walk (a : Option Addr) (len cap : Nat) (r : Nat → AskR) (w : World) (hs : IsAsks w a len cap r) (hT : Tab w ∧ Pow10 w) :
    Calls Tryz.prog 3 #[.slice a len cap] w fun e w' => e = .returned (.bool true) ∧ Below w.heap.size w w' := by
  have HC : Hid (∀ i, i < len → ∃ b off, a = some ⟨b, off, none⟩ ∧ b < w.heap.size ∧ IsAsk w b (off + i * 4) (r i)) := fun i hi => by
    rcases hs with h | ⟨b, off, h1, _, _, h2, h3⟩
    · omega
    · exact ⟨b, off, h1, h2, h3 i hi⟩
  have hl : len ≤ cap ∨ len = 0 := by
    rcases hs with h | ⟨b, off, h1, h2, _⟩
    · exact .inr h
    · exact .inl h2
  have hm : len ≤ 9223372036854775807 := by
    rcases hs with h | ⟨b, off, h1, h2, h3, _⟩
    · omega
    · omega
  have HT : Hid (Tab w ∧ Pow10 w) := hT
  have HA : Hid (∀ W : World, Below w.heap.size w W → Calls Tryz.prog 4 #[] W fun e w' => e = .returned (.bool true) ∧ Below w.heap.size w w' ∧ Below W.heap.size W w') := fun W hW => (alive_any W).mono fun _ _ h => ⟨h.1, hW.trans (h.2.mono hW.size), h.2⟩
  clear hs hT
  go_enter Tryz.func3, Tryz.ntmps3
  go_wp2
  go_loopw [3, 4] (fun nv iv wr => ∃ (j : Nat) (s : Int), iv = .int .i64 j ∧ nv = .int .i64 s ∧ j ≤ len ∧ j ≤ 30 ∧ 0 ≤ s ∧ s < 70368744177664 ∧ Hid (∀ t, t < j → ((r t).an : Int) ≤ s ∧ ((r t).bn : Int) ≤ s) ∧ Hid (Below w.heap.size w wr)) (fun _ iv _ => len - (intOf iv).toNat)
  case atStart => exact ⟨0, 0, rfl, rfl, Nat.zero_le _, by omega, by omega, by omega, fun t ht => by omega, bel_refl _⟩
  case round =>
    obtain ⟨j, s, rfl, rfl, hj, hj30, hs0, hs1, HS, HB⟩ := hrel
    by_cases c1 : j < len
    · by_cases c2 : j < 30
      · by_cases c3 : s < 300
        · obtain ⟨b, off, rfl, hbl, hask⟩ := HC.out j c1
          obtain ⟨d0, d1, d2, d3⟩ := ask_keeps hask HB.out hbl
          have la := hask.la
          have lb := hask.lb
          clear d0 d3 hask
          go_wp2
          go_quiet (fail)
          go_wp2
          go_roundw
          case rel => exact ⟨j + 1, s + (r j).an + (r j).bn, by go_num, rfl, by omega, by omega, by omega, by omega, fun t ht => by
              by_cases e : t = j
              · subst e; constructor <;> omega
              · have := HS.out t (by omega); constructor <;> omega, bDrewN HB.out _⟩
          case measure => simp [intOf]; omega
        · go_wp2_with fail
          refine (HA.out _ HB.out).mono ?_
          rintro e w2 ⟨rfl, hb, _⟩
          go_wp2
          go_ret
          exact ⟨rfl, hb⟩
      · have c4 : (30 : Int) < (len : Int) := by omega
        by_cases c3 : s < 300
        · go_wp2_with fail
          refine (HA.out _ HB.out).mono ?_
          rintro e w2 ⟨rfl, hb, _⟩
          go_wp2
          go_ret
          exact ⟨rfl, hb⟩
        · go_wp2_with fail
          refine (HA.out _ HB.out).mono ?_
          rintro e w2 ⟨rfl, hb, _⟩
          go_wp2
          go_ret
          exact ⟨rfl, hb⟩
    · obtain rfl : j = len := by omega
      by_cases c3 : s < 300
      · have c4 : (j : Int) ≤ 30 := by omega
        have HN : Hid (∀ t, t < j → (r t).an < 300 ∧ (r t).bn < 300) := fun t ht => by have := HS.out t ht; constructor <;> omega
        obtain ⟨w1, hw1⟩ : ∃ w1, w1 = wr := ⟨_, rfl⟩
        subst hw1
        have HK : Hid (KeptS w.heap.size (w1.alloc (.cells #[.slice none 0 0, .slice none 0 0] 30)) w1.heap.size) := ⟨_, kept_new w1 HB.out.size⟩
        have HBa : Hid (Below w.heap.size w (w1.alloc (.cells #[.slice none 0 0, .slice none 0 0] 30))) := HB.out.alloc HB.out.size _
        clear HS hs0 hs1
        go_wp2
        go_loopw [6] (fun iv w2 => ∃ t : Nat, iv = .int .i64 t ∧ t ≤ j ∧ Hid (KeptS w.heap.size w2 w1.heap.size) ∧ Hid (Below w.heap.size w w2)) (fun iv _ => j - (intOf iv).toNat)
        case atStart => exact ⟨0, rfl, Nat.zero_le _, HK.out, HBa.out⟩
        case round =>
          obtain ⟨t, rfl, ht, HK2, HB2⟩ := hrel
          by_cases htl : t < j
          · obtain ⟨b, off, rfl, hbl, hask⟩ := HC.out t htl
            obtain ⟨d0, d1, d2, d3⟩ := ask_keeps hask HB2.out hbl
            have hNt := HN.out t htl
            have HAsk : Hid (IsAsk w b (off + t * 4) (r t)) := hask
            clear hask
            generalize r t = q at *
            obtain ⟨qk, qn, ao, an, ac, za, bo, bn, bc, zb⟩ := q
            simp only at d0 d1 d2 d3 hNt
            obtain ⟨hN1, hN2⟩ := hNt
            have HRA : Hid (Row w ao an ac za) := HAsk.out.ra
            have HRB : Hid (Row w bo bn bc zb) := HAsk.out.rb
            have HRN : Hid (rng qn) := HAsk.out.rn
            clear HAsk
            have HBx : ∀ o : Obj, Below w.heap.size w (wr.alloc o) := fun o => HB2.out.alloc HB2.out.size o
            have HBx' : Hid (∀ o : Obj, Below w.heap.size w (wr.alloc o)) := HBx
            have HKx : Hid (∀ o : Obj, KeptS w.heap.size (wr.alloc o) w1.heap.size) := fun o => by
              obtain ⟨S, h⟩ := HK2.out
              exact ⟨S, h.keeps (bel_alloc _ _)⟩
            have HONE : Hid (∀ W : World, Below w.heap.size w W → KeptS w.heap.size W w1.heap.size → Calls Tryz.prog 5 #[.pointer (some ⟨w1.heap.size, 0, none⟩), .slice ao an ac, .int .i64 (qn.tmod 1000)] W fun e w' => e = .returned (.bool true) ∧ Below w.heap.size w w' ∧ KeptS w.heap.size w' w1.heap.size ∧ Fr W w') := fun W hb hk => by
              obtain ⟨S, hk⟩ := hk
              refine (one_any HRA.out (by omega) (qn.tmod 1000) (rng_mod qn) W hb hk HT.out.1 HT.out.2).mono ?_
              rintro e w' ⟨rfl, h1, S', h2, h3⟩
              exact ⟨rfl, h1, ⟨S', h2⟩, h3⟩
            have HTW1 : Hid (∀ W : World, Below w.heap.size w W → KeptS w.heap.size W w1.heap.size → Calls Tryz.prog 6 #[.pointer (some ⟨w1.heap.size, 0, none⟩), .slice ao an ac, .slice bo bn bc] W fun e w' => e = .returned (.bool true) ∧ Below w.heap.size w w' ∧ KeptS w.heap.size w' w1.heap.size ∧ Fr W w') := fun W hb hk => by
              obtain ⟨S, hk⟩ := hk
              refine (two_any HRA.out HRB.out (by omega) (by omega) W hb hk).mono ?_
              rintro e w' ⟨rfl, h1, S', h2, h3⟩
              exact ⟨rfl, h1, ⟨S', h2⟩, h3⟩
            have HTW2 : Hid (∀ W : World, Below w.heap.size w W → KeptS w.heap.size W w1.heap.size → Calls Tryz.prog 6 #[.pointer (some ⟨w1.heap.size, 0, none⟩), .slice bo bn bc, .slice ao an ac] W fun e w' => e = .returned (.bool true) ∧ Below w.heap.size w w' ∧ KeptS w.heap.size w' w1.heap.size ∧ Fr W w') := fun W hb hk => by
              obtain ⟨S, hk⟩ := hk
              refine (two_any HRB.out HRA.out (by omega) (by omega) W hb hk).mono ?_
              rintro e w' ⟨rfl, h1, S', h2, h3⟩
              exact ⟨rfl, h1, ⟨S', h2⟩, h3⟩
            have HOF : Hid (∀ W : World, Below w.heap.size w W → KeptS w.heap.size W w1.heap.size → Calls Tryz.prog 7 #[.pointer (some ⟨w1.heap.size, 0, none⟩), .int .i64 qn] W fun e w' => e = .returned (.bool true) ∧ Below w.heap.size w w' ∧ KeptS w.heap.size w' w1.heap.size) := fun W hb hk => by
              obtain ⟨S, hk⟩ := hk
              refine (lawOf_any hk hb.size qn HRN.out).mono ?_
              rintro e w' ⟨rfl, hi, S', h2, h3⟩
              exact ⟨rfl, hb.trans hi.below, S', h2⟩
            clear HBx
            by_cases q0 : qk = 0
            · go_wp2_with fail
              refine (HONE.out _ (HBx'.out _) (HKx.out _)).mono ?_
              rintro e w3 ⟨rfl, hb3, hk3, hf3⟩
              have x1 := x_cells hf3 1
              have x3 := x_cells hf3 3
              simp only [List.getElem?_toArray, List.getElem?_cons_succ, List.getElem?_cons_zero] at x1 x3
              have HB3 : Hid (Below w.heap.size w w3) := hb3
              have HK3 : Hid (KeptS w.heap.size w3 w1.heap.size) := hk3
              clear hb3 hk3 hf3
              go_wp2_with fail
              refine (HONE.out _ HB3.out HK3.out).mono ?_
              rintro e w4 ⟨rfl, hb4, hk4, hf4⟩
              have HB4 : Hid (Below w.heap.size w w4) := hb4
              have HK4 : Hid (KeptS w.heap.size w4 w1.heap.size) := hk4
              clear hb4 hk4 hf4
              go_wp2
              go_roundw
              case rel => exact ⟨t + 1, by go_num, by omega, HK4.out, HB4.out⟩
              case measure => simp [intOf]; omega
            by_cases q1 : qk = 1
            · go_wp2_with fail
              refine (HTW1.out _ (HBx'.out _) (HKx.out _)).mono ?_
              rintro e w3 ⟨rfl, hb3, hk3, hf3⟩
              have x1 := x_cells hf3 1
              have x2 := x_cells hf3 2
              simp only [List.getElem?_toArray, List.getElem?_cons_succ, List.getElem?_cons_zero] at x1 x2
              have HB3 : Hid (Below w.heap.size w w3) := hb3
              have HK3 : Hid (KeptS w.heap.size w3 w1.heap.size) := hk3
              clear hb3 hk3 hf3
              go_wp2_with fail
              refine (HTW2.out _ HB3.out HK3.out).mono ?_
              rintro e w4 ⟨rfl, hb4, hk4, hf4⟩
              have HB4 : Hid (Below w.heap.size w w4) := hb4
              have HK4 : Hid (KeptS w.heap.size w4 w1.heap.size) := hk4
              clear hb4 hk4 hf4
              go_wp2
              go_roundw
              case rel => exact ⟨t + 1, by go_num, by omega, HK4.out, HB4.out⟩
              case measure => simp [intOf]; omega
            by_cases q2 : qk = 2
            · go_wp2_with fail
              refine (HOF.out _ (HBx'.out _) (HKx.out _)).mono ?_
              rintro e w4 ⟨rfl, hb4, hk4⟩
              have HB4 : Hid (Below w.heap.size w w4) := hb4
              have HK4 : Hid (KeptS w.heap.size w4 w1.heap.size) := hk4
              clear hb4 hk4
              go_wp2
              go_roundw
              case rel => exact ⟨t + 1, by go_num, by omega, HK4.out, HB4.out⟩
              case measure => simp [intOf]; omega
            go_wp2
            go_roundw
            case rel => exact ⟨t + 1, by go_num, by omega, HKx.out _, HBx'.out _⟩
            case measure => simp [intOf]; omega
          · obtain rfl : t = j := by omega
            go_wp2_with fail
            refine (HA.out _ HB2.out).mono ?_
            rintro e w3 ⟨rfl, hb3, hb3'⟩
            have HB3 : Hid (Below w.heap.size w w3) := hb3
            have HK3 : Hid (KeptS w.heap.size w3 w1.heap.size) := by
              obtain ⟨S, h⟩ := HK2.out
              exact ⟨S, h.keeps hb3'⟩
            have HAP : Hid (Calls Tryz.prog 8 #[.pointer (some ⟨w1.heap.size, 0, none⟩)] w3 fun e w' => e = .returned (.bool true) ∧ Below w.heap.size w3 w') := by
              obtain ⟨S, h⟩ := HK3.out
              exact apart_kept h HB3.out.size
            clear hb3 hb3'
            go_wp2_with fail
            refine HAP.out.mono ?_
            rintro e w4 ⟨rfl, hb4⟩
            go_wp2
            go_ret
            exact ⟨rfl, HB3.out.trans hb4⟩
      · go_wp2_with fail
        refine (HA.out _ HB.out).mono ?_
        rintro e w2 ⟨rfl, hb, _⟩
        go_wp2
        go_ret
        exact ⟨rfl, hb⟩
theorem own : ownKnob Tryz.prog.godebug = none := by kernel_rfl
theorem laidOut : laidOutB Tryz.prog = true := by kernel_rfl
theorem door_met (os : Os) (args : Array Value) : laidMetH Tryz.prog Rows.natAllRow.laid ((World.doorLaid Tryz.prog 400 os).forCall (fun _ _ => 0) ⟨#[], args, []⟩).memory :=
  laidMetH_of_parts3 (fuel := 8) (laidMet_of_run' 8 (by kernel_rfl) (by kernel_rfl)) (by kernel_rfl) (by kernel_rfl)
set_option maxRecDepth 100000 in
theorem lifted (os : Os) (started : os.Started) (H : Type) (enc : TypeId × Value → H) :
    ReturnsInHanded {} Tryz.checked os 3 .any (fun w args => (Rows.natAllSpec.pre enc Tryz.prog Tryz.f3 [] false w args ∧ laidMetH Tryz.prog Rows.natAllRow.laid w) ∧ sizedMet enc Tryz.prog Tryz.f3 (OpenSpec.ofChange Rows.natAllSpec) false w args)
      (Rows.natAllSpec.post enc Tryz.prog Tryz.f3 false true false false) := by
  refine returnsInHanded_of_change_and (C := Tryz.checked) (X := fun w _ => laidMetH Tryz.prog Rows.natAllRow.laid w) (fun _ _ _ hh h => h.of_heap hh) own started (by kernel_rfl) Tryz.func3
    (ChangeSpec.witness_shaped (enc := enc) (C := Tryz.checked) (os := os) (X := fun w _ => laidMetH Tryz.prog Rows.natAllRow.laid w) false (World.doorLaid Tryz.prog 400 os) #[.slice none 0 0] 8 rfl (World.shaped_of_RefB (by kernel_rfl) (by kernel_rfl)) (by kernel_rfl) (by kernel_rfl) (by kernel_rfl) (door_met os _)) ?_
  intro W base args ds gs before hval0 hW _ hsz hL _
  have hval : ∀ (j : Nat) t v, Tryz.f3.params[j]? = some t → args[j]? = some v → Value.okWide Tryz.prog W .any base t v := hval0
  have hW' := hW
  obtain ⟨p, q, hA0, hV, rfl, hfz, hnd⟩ := hW
  have hA : DataW.TrodAll enc Tryz.prog W 0 (fun _ => true) true Tryz.f3.params.toList args.toList ds p := hA0
  rw [Tryz.params3] at hA hval
  obtain ⟨v0, vs0, d0, ds0, p0, q0, hargs, rfl, rfl, h0, r0⟩ := trodAll_cons hA
  obtain ⟨rfl, rfl, rfl⟩ := trodAll_nil r0
  obtain rfl : args = #[v0] := by cases args; simp_all
  obtain ⟨rfl, rfl⟩ := trodVars_none hV
  obtain ⟨a0, l0, c0, rfl⟩ := okWide_slice Tryz.underlying22 (hval 0 22 v0 rfl rfl)
  have k0 := h0
  have lt0 : ∀ x ∈ p0, x.block < W.heap.size := by obtain ⟨m, hm⟩ := k0; exact DataW.trod_lt m _ _ _ hm
  obtain ⟨fu0, hf0⟩ := h0
  obtain ⟨z0, w0⟩ := asks_of (by simpa [Value.cells] using hf0) (fun n hn => of_decide_eq_true (List.all_eq_true.1 hsz n (DataW.weights_mem_each (j := 0) (t := 22) (by kernel_rfl) rfl n hn)))
  clear hA0 hval0
  refine (walk a0 l0 c0 z0 W w0 (tabs_of hL)).mono fun e W' ⟨he, bel⟩ => ?_
  subst he
  exact ⟨_, rfl, _, _, _, [], _, [], hW', trodAll_mk1 (shut_bool Tryz.underlying4 _), (trodAll_cons_mk (Below.trod laidOut (by kernel_rfl) (of_decide_eq_true (by kernel_rfl)) k0 bel lt0) trodAll_mk0), rfl, bel.frame _, fun h => by cases h⟩
theorem said : Rows.NatAllSaid :=
  OpenClaim.holds_of_wide 3 Tryz.f3 rfl rfl rfl rfl rfl rfl rfl ⟨rfl, rfl, rfl, rfl, rfl⟩ rfl rfl rfl rfl rfl (by kernel_rfl) Tryz.func3 (by kernel_rfl)
    (of_decide_eq_true (by kernel_rfl)) (by unfold Func.isWrapper; first | (rw [if_pos (by decide +kernel)]; kernel_rfl) | (rw [if_neg (by decide +kernel)]; exact ⟨rfl, rfl⟩))
    (fun os started H enc _ => lifted os started H enc)
theorem plain (f : FuncId) (fn : Func) (hf : Tryz.pinned.checked.prog.funcNamed Tryz.f3.name = some f) (hfn : Tryz.pinned.checked.prog.funcs[f]? = some fn) :
    false = Tryz.pinned.checked.prog.looks [] ∧ ∀ (j : Nat) t, fn.params[j]? = some t → Tryz.pinned.checked.prog.wantsStandIn t = false := by
  obtain rfl : f = 3 := Option.some.inj ((show Tryz.prog.funcNamed Tryz.f3.name = some 3 by kernel_rfl).symm.trans hf) |>.symm
  obtain rfl : fn = Tryz.f3 := (Option.some.inj (Tryz.func3.symm.trans hfn)).symm
  refine ⟨by kernel_rfl, fun j t ht => ?_⟩
  rw [Tryz.params3] at ht
  obtain rfl : t = 22 := by simpa using Array.mem_of_getElem? ht
  exact (show Tryz.prog.wantsStandIn 22 = false by kernel_rfl)
/-- THE CARD. -/
theorem card : Rows.NatAllCardSaid :=
  Claim7.holds_tied_plain_at .later [] _ _ _ _ said (fun _ h => by cases h) (by kernel_rfl) (fun _ h => by cases h) natAll_row_tie rfl ⟨rfl, rfl⟩ (by kernel_rfl) rfl plain (by kernel_rfl)
end Go.Proofs.YtmbajngbiefilaaGreatDoor.natAll
namespace Go.Proofs.YtmbajngbiefilaaGreatDoor
/-- NatAll: the statement as it is given. -/
theorem natAll_holds : Rows.NatAllCardSaid := natAll.card
end Go.Proofs.YtmbajngbiefilaaGreatDoor
