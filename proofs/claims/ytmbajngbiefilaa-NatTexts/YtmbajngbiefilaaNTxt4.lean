/-
  The document's own Digits and Read; Of and From; plumblaw2.of: by contracts.
-/
import Derived.Test.YtmbajngbiefilaaNTxt3
import Derived.Deep.RegionWith
namespace Go.Proofs.Ytmbajngbiefilaa
open Go Go.RowKit Go.Proofs.Ytmbajngbiefilaa.M
set_option linter.unusedSimpArgs false
set_option linter.unusedVariables false

theorem one_nrm {x : Int} (h0 : 0 < x) (h1 : x < 1073741824) : Nrm (fun _ => x) 1 ∧ val (fun _ => x) 1 = x := ⟨⟨fun i _ => ⟨by show 0 ≤ x; omega, h1⟩, .inr (by show x ≠ 0; omega)⟩, by show 0 + x * 1 = x; omega⟩
theorem wrap_small {x : Int} (h0 : 0 ≤ x) (h1 : x < 256) : IntKind.i64.wrap (IntKind.u8.wrap x) = x := by
  have e : IntKind.u8.wrap x = x := by simp [IntKind.wrap, IntKind.signed, IntKind.bits]; omega
  rw [e]
  simp [IntKind.wrap, IntKind.signed, IntKind.bits]; omega
set_option maxRecDepth 100000 in
set_option maxHeartbeats 1000000 in
theorem rdigits_any (s : ByteArray) (w : World) (hs : s.size ≤ 3000) (hd : Dec s s.size) :
    Calls Try.prog 39 #[.string s] w fun e w' => ∃ v, e = .returned v ∧ Ans w w' (num s s.size) v := by
  have HD : Hid (Dec s s.size) := hd
  clear hd
  go_enter Try.func39, Try.ntmps39
  go_wp2
  go_loopw [3, 4] (fun l i wr => ∃ (k t : Nat) (d : Nat → Int), i = .int .i64 k ∧ k ≤ s.size ∧ Hid (Out w.heap.size wr l t d ∧ Nrm d t ∧ val d t = num s k) ∧ Below w.heap.size w wr) (fun _ i _ => s.size - (intOf i).toNat)
  case atStart => exact ⟨0, 0, fun _ => 0, rfl, Nat.zero_le _, ⟨Out.nil _ _ _, ⟨fun i hi => by omega, .inl rfl⟩, rfl⟩, bel_refl _⟩
  case round =>
    obtain ⟨k, t, d, rfl, hk, HO, hbw⟩ := hrel
    have HB : Hid (Below w.heap.size w wr) := hbw
    clear hbw
    obtain ⟨lo, lc, rfl, hR⟩ := HO.out.1.row
    have hrl := hR.le
    have hrm := hR.max
    have HR : Hid (Row wr lo t lc d) := hR
    have htl : t ≤ 400 := by
      have h1 := hR.num0 HO.out.2.1
      rw [HO.out.2.2] at h1
      exact h1.len (num_small (fun i hi => HD.out i (by omega)) (by omega))
    clear hR
    by_cases hlt : k < s.size
    · have HBy : Hid (byt s k = (s[k].toNat : Int)) := byt_at hlt
      obtain ⟨b0, b1⟩ : 48 ≤ ((s[k].toNat : Nat) : Int) ∧ ((s[k].toNat : Nat) : Int) ≤ 57 := by rw [← HBy.out]; exact HD.out k hlt
      have HN : Hid (num s k * 10 + (((s[k].toNat : Nat) : Int) - 48) = num s (k + 1)) := by show _ = 10 * num s k + (byt s k - 48); rw [HBy.out]; omega
      have HM : Hid (∀ W : World, Row W lo t lc d → ∀ bo : Option Addr, Row W bo 1 1 (fun _ => 10) → Calls Try.prog 30 #[.slice lo t lc, .slice bo 1 1] W fun e w' => ∃ o2 n2 c2, e = .returned (.slice o2 n2 c2) ∧ Ans W w' (num s k * 10) (.slice o2 n2 c2)) := fun W h1 bo h2 => by
        refine (rmul_any _ _ _ _ _ _ _ _ W h1 h2 HO.out.2.1 (one_nrm (show (0 : Int) < 10 by decide) (by decide)).1 (by omega) (by omega)).mono ?_
        rintro e w' ⟨v, rfl, hA⟩
        rw [HO.out.2.2, (one_nrm (show (0 : Int) < 10 by decide) (by decide)).2] at hA
        obtain ⟨o2, n2, c2, rfl⟩ := hA.num.shape
        exact ⟨o2, n2, c2, rfl, hA⟩
      have HF : Hid (∀ W : World, Calls Try.prog 41 #[.int .i64 (IntKind.i64.wrap (IntKind.u8.wrap (((s[k].toNat : Nat) : Int) - 48)))] W fun e w' => ∃ o2 n2 c2, e = .returned (.slice o2 n2 c2) ∧ Ans W w' (((s[k].toNat : Nat) : Int) - 48) (.slice o2 n2 c2)) := fun W => by
        rw [wrap_small (by omega) (by omega)]
        refine (rfrom_any _ W (by omega) (by omega)).mono ?_
        rintro e w' ⟨v, rfl, hA⟩
        obtain ⟨o2, n2, c2, rfl⟩ := hA.num.shape
        exact ⟨o2, n2, c2, rfl, hA⟩
      have HA : Hid (∀ (W : World) (x y : Value), Num W x (num s k * 10) → Num W y (((s[k].toNat : Nat) : Int) - 48) → Calls Try.prog 29 #[x, y] W fun e w' => ∃ o2 n2 c2, e = .returned (.slice o2 n2 c2) ∧ Ans W w' (num s (k + 1)) (.slice o2 n2 c2)) := fun W x y h1 h2 => by
        have hV1 : num s k * 10 < P 401 := by rw [P_succ]; have := num_small (fun i hi => HD.out i (by omega)) (show k ≤ 3000 by omega); have := P_pos 400; omega
        have hV2 : ((s[k].toNat : Nat) : Int) - 48 < P 401 := by have h := P_le (show 1 ≤ 401 by decide); rw [show P 1 = 1073741824 from rfl] at h; omega
        obtain ⟨xo, xn, xc, xd, rfl, hRx, nx, ex⟩ := h1
        obtain ⟨yo, yn, yc, yd, rfl, hRy, ny, ey⟩ := h2
        have l1 := (hRx.num0 nx).len (by rw [ex]; exact hV1)
        have l2 := (hRy.num0 ny).len (by rw [ey]; exact hV2)
        refine (radd_any _ _ _ _ _ _ _ _ W hRx hRy nx ny (by omega) (by omega)).mono ?_
        rintro e w' ⟨v, rfl, hA⟩
        rw [ex, ey, HN.out] at hA
        obtain ⟨o2, n2, c2, rfl⟩ := hA.num.shape
        exact ⟨o2, n2, c2, rfl, hA⟩
      go_wp2_with fail
      go_region_with (first
        | (go_at_call 30; refine (HM.out _ (HR.out.keeps (bel_alloc _ _).drew) _ ((row1 wr 10 rfl).keeps (bel_refl _).drew)).mono ?_; rintro e w2 ⟨o2, n2, c2, rfl, hA2⟩)
        | (go_at_call 41; refine (HF.out _).mono ?_; rintro e w3 ⟨o3, n3, c3, rfl, hA3⟩)
        | (go_at_call 29; refine (HA.out _ _ _ (hA2.num.keeps hA3.below) hA3.num).mono ?_; rintro e w4 ⟨o4, n4, c4, rfl, hA4⟩))
      all_goals
        have HB4 : Hid (Below wr.heap.size wr w4) := bel_trans (bel_trans (bel_trans (bel_alloc _ _).drew hA2.below) hA3.below) hA4.below
        have HA4 : Hid (Ans w3 w4 (num s (k + 1)) (.slice o4 n4 c4)) := hA4
        have HZ4 : Hid (wr.heap.size ≤ w3.heap.size) := Nat.le_trans (bel_trans (bel_alloc wr _).drew hA2.below).size hA3.below.size
        clear hA2 hA3 hA4
        go_wp2
        go_roundw
        case rel =>
          obtain ⟨t4, d4, hO4, hN4, hv4, _⟩ := HA4.out
          exact ⟨k + 1, t4, d4, by go_num, by omega, ⟨hO4.lower (Nat.le_trans HB.out.size HZ4.out), hN4, hv4⟩, HB.out.trans (HB4.out.mono HB.out.size)⟩
        case measure => simp [intOf]; omega
    · obtain rfl : k = s.size := by omega
      go_wp2_with fail
      refine (rtrim_ans HO.out.1 HO.out.2.1.1 HB.out).mono ?_
      rintro e w3 ⟨v', rfl, hA, hw⟩
      replace hw := hw.symm
      subst hw
      go_wp2
      go_ret
      exact ⟨_, rfl, by rw [← HO.out.2.2]; exact hA⟩
set_option maxHeartbeats 400000 in
theorem rread_yes (s : ByteArray) (w : World) (hs : s.size ≤ 3000) (ok : okT s = true) :
    Calls Try.prog 11 #[.string s] w fun e w' => ∃ v, e = .returned (.tuple #[v, .int .i64 0]) ∧ Ans w w' (num s s.size) v := by
  obtain ⟨hd, h0, h1⟩ := okT_out ok
  have HD : Hid (Dec s s.size) := hd
  have HB : Hid (byt s 0 = (s[0].toNat : Int)) := byt_at h0
  have e0 : ((s.size : Int) == 0) = false := beq_eq_false_iff_ne.2 (by omega)
  have HR : Hid (∀ W : World, Calls Try.prog 39 #[.string s] W fun e w' => ∃ o2 n2 c2, e = .returned (.slice o2 n2 c2) ∧ n2 ≤ 400 ∧ Ans W w' (num s s.size) (.slice o2 n2 c2)) := fun W => by
    refine (rdigits_any s W hs hd).mono ?_
    rintro e w' ⟨v, rfl, hA⟩
    obtain ⟨o2, n2, c2, rfl⟩ := hA.num.shape
    exact ⟨o2, n2, c2, rfl, hA.num.len (num_small hd hs), hA⟩
  have HA : Hid (∀ (W : World) (o2 : Option Addr) (n2 c2 : Nat), n2 ≤ 400 → Calls Try.prog 38 #[.slice o2 n2 c2] W fun e w' => e = .returned (.tuple #[.slice o2 n2 c2, .int .i64 0]) ∧ w' = W) := fun W o2 n2 c2 h => by
    have := ranswer_any o2 n2 c2 W
    rw [show fitV o2 n2 c2 = .slice o2 n2 c2 by simp [fitV]; omega, show fitE n2 = 0 by simp [fitE]; omega] at this
    exact this
  clear hd
  by_cases h2 : s.size = 1
  · have h3 : decide ((1 : Int) < (s.size : Int)) = false := decide_eq_false (by omega)
    have HZ : Hid (s.size = 1) := h2
    clear h2 h1
    go_enter Try.func11, Try.ntmps11
    go_wp2
    go_loop [4] (fun i => ∃ k : Nat, k ≤ s.size ∧ i = .int .i64 k) (fun i => s.size - (intOf i).toNat)
    case atStart => exact ⟨0, Nat.zero_le _, rfl⟩
    case round =>
      obtain ⟨k, hk, rfl⟩ := hrel
      by_cases hlt : k < s.size
      · obtain ⟨b0, b1⟩ : 48 ≤ ((s[k].toNat : Nat) : Int) ∧ ((s[k].toNat : Nat) : Int) ≤ 57 := by rw [← byt_at hlt]; exact HD.out k hlt
        go_wp2
        go_round
        case rel => exact ⟨k + 1, by omega, by go_num⟩
        case measure => simp [intOf]; omega
      · obtain rfl : k = s.size := by omega
        go_wp2_with fail
        refine (HR.out _).mono ?_
        rintro e w2 ⟨o2, n2, c2, rfl, hn, hA⟩
        have HN : Hid (n2 ≤ 400) := hn
        clear hn
        go_wp2_with fail
        refine (HA.out _ _ _ _ HN.out).mono ?_
        rintro e w3 ⟨rfl, hw⟩
        replace hw := hw.symm
        subst hw
        go_wp2
        go_ret2
        exact ⟨_, rfl, hA⟩
  · have h3 : decide ((1 : Int) < (s.size : Int)) = true := decide_eq_true (by omega)
    have h4 : (((s[0].toNat : Nat) : Int) == 48) = false := by
      rw [← HB.out]; simp
      rcases h1 with e | e
      · exact absurd e h2
      · exact e
    clear h2 h1
    go_enter Try.func11, Try.ntmps11
    go_wp2
    go_loop [4] (fun i => ∃ k : Nat, k ≤ s.size ∧ i = .int .i64 k) (fun i => s.size - (intOf i).toNat)
    case atStart => exact ⟨0, Nat.zero_le _, rfl⟩
    case round =>
      obtain ⟨k, hk, rfl⟩ := hrel
      by_cases hlt : k < s.size
      · obtain ⟨b0, b1⟩ : 48 ≤ ((s[k].toNat : Nat) : Int) ∧ ((s[k].toNat : Nat) : Int) ≤ 57 := by rw [← byt_at hlt]; exact HD.out k hlt
        go_wp2
        go_round
        case rel => exact ⟨k + 1, by omega, by go_num⟩
        case measure => simp [intOf]; omega
      · obtain rfl : k = s.size := by omega
        go_wp2_with fail
        refine (HR.out _).mono ?_
        rintro e w2 ⟨o2, n2, c2, rfl, hn, hA⟩
        have HN : Hid (n2 ≤ 400) := hn
        clear hn
        go_wp2_with fail
        refine (HA.out _ _ _ _ HN.out).mono ?_
        rintro e w3 ⟨rfl, hw⟩
        replace hw := hw.symm
        subst hw
        go_wp2
        go_ret2
        exact ⟨_, rfl, hA⟩
set_option maxHeartbeats 400000 in
theorem rread_no (s : ByteArray) (w : World) (hs : s.size ≤ 3000) (ok : okT s = false) :
    Calls Try.prog 11 #[.string s] w fun e w' => e = .returned (.tuple #[.slice none 0 0, .int .i64 50]) ∧ w' = w := by
  have hno := okT_not ok
  by_cases h0 : s.size = 0
  · have e0 : ((s.size : Int) == 0) = true := by rw [h0]; rfl
    clear h0 hno
    go_enter Try.func11, Try.ntmps11
    go_wp2
    go_ret2
    exact ⟨rfl, rfl⟩
  · have hp : 0 < s.size := by omega
    have e0 : ((s.size : Int) == 0) = false := beq_eq_false_iff_ne.2 (by omega)
    have HB : Hid (byt s 0 = (s[0].toNat : Int)) := byt_at hp
    by_cases h2 : s.size = 1
    · have h3 : decide ((1 : Int) < (s.size : Int)) = false := decide_eq_false (by omega)
      have HND : Hid (¬ Dec s s.size) := fun q => hno ⟨q, hp, .inl h2⟩
      clear h2 hno h0
      go_enter Try.func11, Try.ntmps11
      go_wp2
      go_loop [4] (fun i => ∃ k : Nat, k ≤ s.size ∧ i = .int .i64 k ∧ Hid (Dec s k)) (fun i => s.size - (intOf i).toNat)
      case atStart => exact ⟨0, Nat.zero_le _, rfl, fun i hi => by omega⟩
      case round =>
        obtain ⟨k, hk, rfl, HK⟩ := hrel
        by_cases hlt : k < s.size
        · have HBk : Hid (byt s k = (s[k].toNat : Int)) := byt_at hlt
          by_cases c0 : ((s[k].toNat : Nat) : Int) < 48
          · go_wp2
            go_ret2
            exact ⟨rfl, rfl⟩
          · by_cases c1 : 57 < ((s[k].toNat : Nat) : Int)
            · go_wp2
              go_ret2
              exact ⟨rfl, rfl⟩
            · go_wp2
              go_round
              case rel => exact ⟨k + 1, by omega, by go_num, fun i hi => by
                  by_cases e : i = k
                  · rw [e, HBk.out]; omega
                  · exact HK.out i (by omega)⟩
              case measure => simp [intOf]; omega
        · obtain rfl : k = s.size := by omega
          exact absurd HK.out HND.out
    · have h3 : decide ((1 : Int) < (s.size : Int)) = true := decide_eq_true (by omega)
      by_cases h4 : ((s[0].toNat : Nat) : Int) = 48
      · have h5 : (((s[0].toNat : Nat) : Int) == 48) = true := by rw [h4]; rfl
        clear h2 hno h0 h4
        go_enter Try.func11, Try.ntmps11
        go_wp2
        go_ret2
        exact ⟨rfl, rfl⟩
      · have h5 : (((s[0].toNat : Nat) : Int) == 48) = false := beq_eq_false_iff_ne.2 h4
        have HND : Hid (¬ Dec s s.size) := fun q => hno ⟨q, hp, .inr (by rw [HB.out]; exact h4)⟩
        clear h2 hno h0 h4
        go_enter Try.func11, Try.ntmps11
        go_wp2
        go_loop [4] (fun i => ∃ k : Nat, k ≤ s.size ∧ i = .int .i64 k ∧ Hid (Dec s k)) (fun i => s.size - (intOf i).toNat)
        case atStart => exact ⟨0, Nat.zero_le _, rfl, fun i hi => by omega⟩
        case round =>
          obtain ⟨k, hk, rfl, HK⟩ := hrel
          by_cases hlt : k < s.size
          · have HBk : Hid (byt s k = (s[k].toNat : Int)) := byt_at hlt
            by_cases c0 : ((s[k].toNat : Nat) : Int) < 48
            · go_wp2
              go_ret2
              exact ⟨rfl, rfl⟩
            · by_cases c1 : 57 < ((s[k].toNat : Nat) : Int)
              · go_wp2
                go_ret2
                exact ⟨rfl, rfl⟩
              · go_wp2
                go_round
                case rel => exact ⟨k + 1, by omega, by go_num, fun i hi => by
                    by_cases e : i = k
                    · rw [e, HBk.out]; omega
                    · exact HK.out i (by omega)⟩
                case measure => simp [intOf]; omega
          · obtain rfl : k = s.size := by omega
            exact absurd HK.out HND.out
theorem of_yes (x : Int) (w : World) (h0 : 0 ≤ x) (h1 : x < 9223372036854775808) :
    Calls Try.prog 40 #[.int .i64 x] w fun e w' => ∃ v, e = .returned (.tuple #[v, .int .i64 0]) ∧ Ans w w' x v := by
  have HX := digits_nat x w h0 h1
  have HX' : Hid (Calls Try.prog 56 #[.int .i64 x] w fun e w' => ∃ v, e = .returned v ∧ Ans w w' x v) := HX
  clear HX h1
  go_enter Try.func40, Try.ntmps40
  go_wp2_with fail
  refine HX'.out.mono ?_
  rintro e w2 ⟨v, rfl, hA⟩
  go_wp2
  go_ret2
  exact ⟨_, rfl, hA⟩
theorem of_no (x : Int) (w : World) (h0 : x < 0) :
    Calls Try.prog 40 #[.int .i64 x] w fun e w' => e = .returned (.tuple #[.slice none 0 0, .int .i64 1]) ∧ w' = w := by
  go_enter Try.func40, Try.ntmps40
  go_wp2
  go_ret2
  exact ⟨rfl, rfl⟩
set_option maxRecDepth 100000 in
theorem lawOf_any {B k : Nat} {w : World} {S : Nat → Prop} (h : Kept B w k S) (hB : B ≤ w.heap.size) (x : Int) (hx : rng x) :
    Calls Try.prog 12 #[.pointer (some ⟨k, 0, none⟩), .int .i64 x] w fun e w' => e = .returned (.bool true) ∧ Ik B w w' ∧ ∃ S', Kept B w' k S' ∧ ∀ g, S' g → S g ∨ w.heap.size ≤ g := by
  have HK : Hid (Kept B w k S) := h
  clear h
  by_cases h0 : x < 0
  · go_enter Try.func12, Try.ntmps12
    go_wp2_with fail
    refine (of_no x _ h0).mono ?_
    rintro e w' ⟨rfl, hw⟩
    replace hw := hw.symm
    subst hw
    go_wp2
    go_ret
    exact ⟨rfl, Ik.refl _ _, S, HK.out, fun g h => .inl h⟩
  · have hx1 : x < 9223372036854775808 := by unfold rng at hx; omega
    have HO := of_yes x w (by omega) hx1
    have HO' : Hid (Calls Try.prog 40 #[.int .i64 x] w fun e w' => ∃ v, e = .returned (.tuple #[v, .int .i64 0]) ∧ Ans w w' x v) := HO
    have HF : Hid (∀ W : World, Calls Try.prog 41 #[.int .i64 x] W fun e w' => ∃ v, e = .returned v ∧ Ans W w' x v) := fun W => rfrom_any x W (by omega) hx1
    have HV : Hid (x < P 2000) := Int.lt_trans (show x < 9223372036854775808 * 1 by omega) (Int.lt_of_lt_of_le (show (9223372036854775808 : Int) * 1 < P 3 by decide) (P_le (by decide)))
    clear HO hx1 hx
    go_enter Try.func12, Try.ntmps12
    go_wp2_with fail
    refine HO'.out.mono ?_
    rintro e w2 ⟨v2, rfl, hA2⟩
    have HB2 : Hid (Below w.heap.size w w2) := hA2.below
    have HA2 : Hid (An w.heap.size w2 v2 x) := hA2.an
    obtain ⟨o2, n2, c2, rfl⟩ := hA2.num.shape
    clear hA2
    go_wp2_with fail
    refine (HF.out _).mono ?_
    rintro e w3 ⟨v3, rfl, hA3⟩
    have HB3 : Hid (Below w2.heap.size w2 w3) := hA3.below
    have HA3 : Hid (An w2.heap.size w3 v3 x) := hA3.an
    obtain ⟨o3, n3, c3, rfl⟩ := hA3.num.shape
    clear hA3
    have HK3 : Hid (Kept B w3 k (fun g => S g ∧ g < w.heap.size)) := by
      obtain ⟨m, v, u, n, d, hm, hk, h1, h2⟩ := HK.out
      have hq : Kept B w k (fun g => S g ∧ g < w.heap.size) := ⟨m, v, u, n, d, hm, hk, fun i hi g hg => ⟨h1 i hi g hg, ((hk.ans i hi).ge hg).2⟩, fun i hi g hg => ⟨h2 i hi g hg, ((hk.was i hi).ge hg).2⟩⟩
      exact (hq.keeps HB2.out).keeps HB3.out
    go_wp2_with fail
    refine (keep_an HK3.out ((HA2.out.keeps HB3.out).lower hB) (HA3.out.lower (Nat.le_trans hB HB2.out.size)) 2000 (by decide) HV.out (Nat.le_trans hB (Nat.le_trans HB2.out.size HB3.out.size)) (fun g hg hs => by have := (HA2.out.ge hg).1; have := hs.2; omega)).mono ?_
    rintro e w4 ⟨rfl, hi, hk4⟩
    go_wp2
    go_ret
    refine ⟨rfl, ((Ik.of HB2.out hB).trans (Ik.of HB3.out (Nat.le_trans hB HB2.out.size))).trans hi, _, hk4, fun g hg => ?_⟩
    rcases hg with hg | hg | hg
    · exact .inl hg.1
    · exact .inr (HA2.out.ge hg).1
    · exact .inr (Nat.le_trans (Nat.le_trans HB2.out.size HB3.out.size) hg)
end Go.Proofs.Ytmbajngbiefilaa
