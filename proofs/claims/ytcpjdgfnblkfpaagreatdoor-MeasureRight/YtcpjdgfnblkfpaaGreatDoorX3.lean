/-
  Package expansion: grow, by its contract.
-/
import Derived.Test.YtcpjdgfnblkfpaaGreatDoorX2
namespace Go.Proofs.YtcpjdgfnblkfpaaGreatDoor
open Go Go.RowKit Go.Proofs.YtcpjdgfnblkfpaaGreatDoor.M
set_option linter.unusedSimpArgs false
set_option linter.unusedVariables false

/-- What a step tells of finite ones. -/
theorem xtwoSum {p q : Int} (hp : rng p) (hq : rng q) (pp : pok p = true) (pq : pok q = true) (w : World) :
    Calls Tryz.prog 108 #[.int .i64 p, .int .i64 q] w fun e w' => e = .returned (.tuple #[.int .i64 (fsum p q), .int .i64 (sL p q), .bool (pok (sL p q))]) ∧ Below w.heap.size w w' := by
  have := twoSum_any hp hq w
  rw [told_ok pp hp, told_ok pq hq] at this
  exact this
theorem grown_bel {B : Nat} {w w' : World} {g : Nat} (h : w.grownBy w' (some g)) (hB : B ≤ g) (hw : B ≤ w.heap.size) : Below B w w' :=
  (Below.refl B w).grown h hw (fun k hk => by simp at hk; omega)
theorem grown_drew {w w' : World} {o : Option Nat} (h : w.grownBy w' o) : w.grownBy w'.drew o := ⟨h.os, h.tape, h.output, h.size, h.block⟩
theorem grown_bel2 {w w1 w2 : World} {o : Option Nat} (h : w.grownBy w1 o) (k : Below w1.heap.size w1 w2) : w.grownBy w2 o :=
  ⟨k.os.trans h.os, k.tape.trans h.tape, k.output.trans h.output, Nat.le_trans h.size k.size, fun j hj hne => (k.block j (Nat.lt_of_lt_of_le hj h.size)).trans (h.block j hj hne)⟩
theorem xgr_trans {w w1 w2 : World} {o : Option Nat} (h : w.grownBy w1 o) (k : w1.grownBy w2 o) : w.grownBy w2 o :=
  ⟨k.os.trans h.os, k.tape.trans h.tape, k.output.trans h.output, Nat.le_trans h.size k.size, fun j hj hne => (k.block j (Nat.lt_of_lt_of_le hj h.size) hne).trans (h.block j hj hne)⟩
set_option maxRecDepth 100000 in
set_option maxHeartbeats 2000000 in
theorem xgrow_some {B g n cap : Nat} {d : Nat → Int} {q : Int} (w : World) (h : Out B w (.slice (some ⟨g, 0, none⟩) n cap) n d) (hd : ∀ i, i < n → rng (d i) ∧ pok (d i) = true) (hq : rng q) (pq : pok q = true) (hn : n ≤ 800000) (hB : B ≤ w.heap.size) :
    Calls Tryz.prog 112 #[.slice (some ⟨g, 0, none⟩) n cap, .int .i64 q] w fun e w' => (gx d q n = true ∧ ∃ v', e = .returned v' ∧ Out B w' v' (grw n d q).n (grw n d q).d ∧ w.grownBy w' (some g)) ∨ (gx d q n = false ∧ e = gaveX ∧ w.grownBy w' (some g)) := by
  obtain ⟨hI, hnc, hcm, hBg⟩ := h.inB
  have HQ : Hid (∀ k, k ≤ n → gx d q k = true → rng (gq d q k) ∧ pok (gq d q k) = true) := gq_fin hd hq pq
  have HDD : Hid (∀ i, i < n → rng (d i) ∧ pok (d i) = true) := hd
  have hgl : g < w.heap.size := by obtain ⟨cur, h1, _⟩ := hI; exact (Array.getElem?_eq_some_iff.1 h1).1
  clear hd h hq pq
  go_enter Tryz.func112, Tryz.ntmps112
  go_wp2_with fail
  go_loopw [1, 5, 13] (fun qv gv iv wr => ∃ k : Nat, k ≤ n ∧ iv = .int .i64 k ∧ qv = .int .i64 (gq d q k) ∧ gv = .slice (some ⟨g, 0, none⟩) (gs d q k).n cap ∧ Hid (gx d q k = true) ∧ Hid (InB wr g cap n (gs d q k)) ∧ Hid (w.grownBy wr (some g))) (fun _ _ iv _ => n - (intOf iv).toNat)
  case atStart => exact ⟨0, Nat.zero_le _, rfl, rfl, rfl, rfl, hI, World.grownBy.refl _ _⟩
  case round =>
    obtain ⟨k, hk, rfl, rfl, rfl, HX, HI, HG⟩ := hrel
    clear hI
    have hsn := gs_le d q k
    by_cases hlt : k < n
    · obtain ⟨r1, r2⟩ := HQ.out k hk HX.out
      obtain ⟨d1, d2⟩ := HDD.out k hlt
      have c0 : wr.cell? ⟨g, k, none⟩ = some (.int .i64 (d k)) := by
        obtain ⟨cur, h1, h2, h3⟩ := HI.out
        rw [cell_of_row wr g k cur _ _ h1, h3 k hlt, gs_tail d q k k (Nat.le_refl _)]
      have CT : Hid (∀ W, Calls Tryz.prog 108 #[.int .i64 (gq d q k), .int .i64 (d k)] W fun e w' => e = .returned (.tuple #[.int .i64 (gq d q (k + 1)), .int .i64 (gl d q k), .bool (pok (gl d q k))]) ∧ Below W.heap.size W w') := fun W => xtwoSum r1 d1 r2 d2 W
      have rl : rng (gl d q k) := sL_rng r1 d1
      have i0 : (0 : Int) ≤ (k : Int) := by omega
      have i1 : (k : Int) < (n : Int) := by omega
      have HS : Hid (gs d q (k + 1) = (gs d q k).add (gl d q k)) := rfl
      have HXS : Hid (gx d q (k + 1) = (gx d q k && pok (gl d q k))) := rfl
      have HNO : Hid (pok (gl d q k) = false → gx d q n = false) := fun hno => by
        cases hx : gx d q n
        · rfl
        · have := gx_mono (show k + 1 ≤ n by omega) hx
          rw [HXS.out, hno, Bool.and_false] at this
          cases this
      obtain ⟨q', hq'⟩ : ∃ q', gq d q (k + 1) = q' := ⟨_, rfl⟩
      rw [hq'] at CT
      have HQ' : Hid (gq d q (k + 1) = q') := hq'
      clear hq'
      generalize gl d q k = l at *
      generalize gq d q k = q0 at *
      generalize hd0 : d k = dk at *
      have HD0 : Hid (d k = dk) := hd0
      clear hd0 r1 r2 d1 d2
      have CA := fun W h => xadd_in (g := g) (cap := cap) (N := n) (s := gs d q k) (b := l) W h rl (by omega)
      generalize hs0 : gs d q k = s0 at *
      have HS0 : Hid (gs d q k = s0) := hs0
      clear hs0
      cases hl : pok l
      · rw [hl] at CT
        go_wp2_with fail
        refine (CT.out _).mono ?_
        rintro _ w1 ⟨rfl, hb1⟩
        go_wp2_with fail
        refine (xsure_no _ _ _).mono ?_
        rintro _ _ ⟨rfl, rfl⟩
        unfold gaveX
        go_wp2
        exact ⟨rfl, .inr ⟨HNO.out hl, rfl, grown_bel2 HG.out hb1⟩⟩
      · rw [hl] at CT
        go_wp2_with fail
        refine (CT.out _).mono ?_
        rintro _ w1 ⟨rfl, hb1⟩
        go_wp2_with fail
        refine (xsure_yes _ _ _).mono ?_
        rintro _ _ ⟨rfl, rfl⟩
        rename_i w1
        go_wp2_with fail
        refine (CA _ (HI.out.keeps hb1)).mono ?_
        rintro _ w2 ⟨rfl, hI2, hg2⟩
        go_wp2
        go_roundw
        case rel => exact ⟨k + 1, by omega, by go_num, by rw [HQ'.out], by rw [HS.out], by show _ = _; rw [HXS.out, HX.out, hl]; rfl, by show InB _ _ _ _ _; rw [HS.out]; exact hI2, xgr_trans (grown_bel2 HG.out hb1) hg2⟩
        case measure => simp [intOf]; omega
    · obtain rfl : k = n := by omega
      have hO := HI.out.out (B := B) hsn hnc hBg hcm
      have hwr : B ≤ wr.heap.size := Nat.le_trans hB HG.out.size
      have HQ2 : Hid (rng (gq d q k) ∧ pok (gq d q k) = true) := HQ.out k hk HX.out
      have CA : Hid (∀ W, W = wr → Calls Tryz.prog 117 #[.slice (some ⟨g, 0, none⟩) (gs d q k).n cap, .int .i64 (gq d q k)] W fun e w' => ∃ v', e = .returned v' ∧ Out B w' v' (grw k d q).n (grw k d q).d ∧ W.grownBy w' (some g)) := fun W hW => by
        subst hW
        exact xadd_any W hO HQ2.out.1 (by omega) hwr
      generalize gq d q k = q0 at *
      generalize gs d q k = s0 at *
      clear hO
      go_wp2_with fail
      refine (CA.out _ rfl).mono ?_
      rintro _ w2 ⟨v', rfl, hO2, hg2⟩
      go_wp2
      go_ret
      exact .inl ⟨HX.out, v', rfl, hO2, xgr_trans HG.out hg2⟩
theorem Ls.add_nil (d : Nat → Int) (q : Int) : grw 0 d q = (⟨0, d⟩ : Ls).add q := rfl
/-- grow of a list of the call's own. -/
theorem xgrow_any {B n : Nat} {v : Value} {d : Nat → Int} {q : Int} (w : World) (h : Out B w v n d) (hd : ∀ i, i < n → rng (d i) ∧ pok (d i) = true) (hq : rng q) (pq : pok q = true) (hn : n ≤ 800000) (hB : B ≤ w.heap.size) :
    Calls Tryz.prog 112 #[v, .int .i64 q] w fun e w' => (gx d q n = true ∧ ∃ v', e = .returned v' ∧ Out B w' v' (grw n d q).n (grw n d q).d ∧ w.grownBy w' v.ownBlock) ∨ (gx d q n = false ∧ e = gaveX ∧ w.grownBy w' v.ownBlock) := by
  rcases id h.2 with ⟨rfl, rfl⟩ | ⟨g, cap, cur, rfl, _⟩
  · have CA : Hid (∀ W, W = w → Calls Tryz.prog 117 #[.slice none 0 0, .int .i64 q] W fun e w' => ∃ v', e = .returned v' ∧ Out B w' v' (grw 0 d q).n (grw 0 d q).d ∧ W.grownBy w' none) := fun W hW => by
      subst hW
      exact xadd_any (s := ⟨0, d⟩) W h hq (Nat.zero_le _) hB
    clear h hd hq pq
    go_enter Tryz.func112, Tryz.ntmps112
    go_wp2_with fail
    go_loopw [1, 5, 13] (fun qv gv iv wr => iv = .int .i64 0 ∧ qv = .int .i64 q ∧ gv = .slice none 0 0 ∧ wr = w) (fun _ _ iv _ => 0)
    case atStart => exact ⟨rfl, rfl, rfl, rfl⟩
    case round =>
      obtain ⟨rfl, rfl, rfl, rfl⟩ := hrel
      go_wp2_with fail
      refine (CA.out _ rfl).mono ?_
      rintro _ w2 ⟨v', rfl, hO2, hg2⟩
      go_wp2
      go_ret
      exact .inl ⟨rfl, v', rfl, hO2, hg2⟩
  · exact xgrow_some w h hd hq pq hn hB
end Go.Proofs.YtcpjdgfnblkfpaaGreatDoor
