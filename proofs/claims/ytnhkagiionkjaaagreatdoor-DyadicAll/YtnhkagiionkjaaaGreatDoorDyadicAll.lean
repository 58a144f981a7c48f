/-
  Proved: at every script of asks, plumblaw3.DyadicAll answers true: calls in any order answer as the document says, what is answered is new memory. As a card: the library's tables and the layouts start as the program's text lays them; no other conditions.
-/
import Derived.Test.YtnhkagiionkjaaaGreatDoorPart17
import Derived.Test.YtnhkagiionkjaaaGreatDoorPart21
import Derived.Test.YtnhkagiionkjaaaGreatDoorPart25
import Derived.Test.YtnhkagiionkjaaaGreatDoorPart26
import Derived.Test.YtnhkagiionkjaaaGreatDoorPart11
import Derived.Test.YtnhkagiionkjaaaGreatDoorCards
import Derived.Test.YtnhkagiionkjaaaGreatDoorTie
namespace Go.Proofs.YtnhkagiionkjaaaGreatDoor.dyadicAll
open Go Go.ChangeShapes Go.WideShapes Go.ChangeAt Go.RowKit Go.Proofs.YtnhkagiionkjaaaGreatDoor Go.Proofs.YtnhkagiionkjaaaGreatDoor.M
set_option linter.unusedSimpArgs false
set_option linter.unusedVariables false

/-- Kept in some blocks. -/
def KeptD (B : Nat) (w : World) (k : Nat) : Prop := ∃ S, Kept B w k S
theorem KeptD.keeps {B : Nat} {w w' : World} {k : Nat} (h : KeptD B w k) (hb : Below w.heap.size w w') : KeptD B w' k := by
  obtain ⟨S, h⟩ := h
  exact ⟨S, h.keeps hb⟩
def AskOk (q : AskD) : Prop := Lgt q.x ∧ Lgt q.y ∧ (∀ i, i < q.ln → Lgt (q.l i)) ∧ (∀ i, i < q.mn → Lgt (q.m i)) ∧ q.x.n ≤ 30 ∧ q.y.n ≤ 30 ∧ q.ln ≤ 20 ∧ q.mn ≤ 20
theorem askD_keeps {w w' : World} {b o : Nat} {r : AskD} (h : IsAskD w b o r) (hb : Below w.heap.size w w') (hlt : b < w.heap.size) :
    w'.cell? ⟨b, o, none⟩ = some (.int .i64 r.k) ∧ w'.cell? ⟨b, o + 1, none⟩ = some (.int .i64 r.n) ∧ w'.cell? ⟨b, o + 2, none⟩ = some (.bool r.x.ng) ∧ w'.cell? ⟨b, o + 3, none⟩ = some (.slice r.x.ao r.x.n r.x.cap) ∧ w'.cell? ⟨b, o + 4, none⟩ = some (.int .i64 r.x.e) ∧ w'.cell? ⟨b, o + 5, none⟩ = some (.bool r.y.ng) ∧ w'.cell? ⟨b, o + 6, none⟩ = some (.slice r.y.ao r.y.n r.y.cap) ∧ w'.cell? ⟨b, o + 7, none⟩ = some (.int .i64 r.y.e) ∧ w'.cell? ⟨b, o + 8, none⟩ = some (.slice r.lo r.ln r.lc) ∧ w'.cell? ⟨b, o + 9, none⟩ = some (.slice r.mo r.mn r.mc) := by
  have c := fun j (hj : j < 10) => (hb.cell (p := ⟨b, o + j, none⟩) hlt).trans (h.cell j hj)
  exact ⟨c 0 (by decide), c 1 (by decide), c 2 (by decide), c 3 (by decide), c 4 (by decide), c 5 (by decide), c 6 (by decide), c 7 (by decide), c 8 (by decide), c 9 (by decide)⟩
/-- The length of a list's number. -/
theorem num_len {w w' : World} {ao : Option Addr} {n cap : Nat} {r : Nat → NumR} (h : Nums w ao n cap r) (hb : Below w.heap.size w w') {t : Nat} (ht : t < n) : ∃ b off, ao = some ⟨b, off, none⟩ ∧ w'.cell? ⟨b, off + t * 3 + 1, none⟩ = some (.slice (r t).ao (r t).n (r t).cap) := by
  obtain ⟨b, off, e, hlt, hc⟩ := h.spot (by omega)
  exact ⟨b, off, e, ((hc t ht).keeps hb hlt).c1⟩
set_option maxRecDepth 100000 in
set_option maxHeartbeats 8000000 in
theorem walk (a : Option Addr) (len cap : Nat) (r : Nat → AskD) (w : World) (hs : IsAskDs w a len cap r) (H : Hold2 w) :
    Calls Tryz.prog 3 #[.slice a len cap] w fun e w' => e = .returned (.bool true) ∧ Below w.heap.size w w' := by
  have HC : Hid (∀ i, i < len → ∃ b off, a = some ⟨b, off, none⟩ ∧ b < w.heap.size ∧ IsAskD w b (off + i * 10) (r i)) := fun i hi => by
    rcases hs with h | ⟨b, off, h1, _, _, h2, h3⟩
    · omega
    · exact ⟨b, off, h1, h2, h3 i hi⟩
  have hl : len ≤ cap ∨ len = 0 := by
    rcases hs with h | ⟨b, off, h1, h2, _⟩
    · exact .inr h
    · exact .inl h2
  have hm : len ≤ 9223372036854775807 := by
    rcases hs with h | ⟨b, off, h1, h2, h3, _⟩
    · omega
    · omega
  have HH : Hid (Hold2 w) := H
  have HA : Hid (∀ W : World, Below w.heap.size w W → Calls Tryz.prog 5 #[] W fun e w' => e = .returned (.bool true) ∧ Below w.heap.size w w' ∧ Below W.heap.size W w') := fun W hW => (dalive_any W (H.lay.keeps hW) (H.tab.keeps hW)).mono fun _ _ h => ⟨h.1, hW.trans (h.2.mono hW.size), h.2⟩
  clear hs H
  go_enter Tryz.func3, Tryz.ntmps3
  go_wp2
  go_loopw [3, 4] (fun nv iv wr => ∃ (j : Nat) (s : Int), iv = .int .i64 j ∧ nv = .int .i64 s ∧ j ≤ len ∧ j ≤ 20 ∧ 0 ≤ s ∧ s ≤ 84000 * (j : Int) ∧ Hid (∀ t, t < j → AskOk (r t)) ∧ Hid (Below w.heap.size w wr)) (fun _ iv _ => len - (intOf iv).toNat)
  case atStart => exact ⟨0, 0, rfl, rfl, Nat.zero_le _, by omega, by omega, by omega, fun t ht => by omega, bel_refl _⟩
  case round =>
    obtain ⟨j, s, rfl, rfl, hj, hj20, hs0, hs1, HS, HB⟩ := hrel
    by_cases c1 : j < len
    · by_cases c2 : j < 20
      · obtain ⟨b, off, rfl, hbl, hask⟩ := HC.out j c1
        obtain ⟨q, hq⟩ : ∃ q, q = r j := ⟨_, rfl⟩
        have HQ : Hid (q = r j) := hq
        rw [← hq] at hask
        clear hq
        obtain ⟨d0, d1, d2, d3, d4, d5, d6, d7, d8, d9⟩ := askD_keeps hask HB.out hbl
        have hF := hask.fact
        clear hask
        obtain ⟨qk, qn, ⟨x_g, x_o, x_n, x_c, x_d, x_e⟩, ⟨y_g, y_o, y_n, y_c, y_d, y_e⟩, lo, ln, lc, l, mo, mn, mc, m⟩ := q
        obtain ⟨rk, rn, rx, ex, ry, ey, rl, rm⟩ := hF
        simp only at d0 d1 d2 d3 d4 d5 d6 d7 d8 d9 rk rn rx ex ry ey rl rm
        have CL0 : Hid (∀ W g, Below w.heap.size w W → W.heap[g]? = some (.cells #[.bool x_g, .slice x_o x_n x_c, .int .i64 x_e, .bool y_g, .slice y_o y_n y_c, .int .i64 y_e] 25 (0, 0)) → Calls Tryz.prog 4 #[.slice (some ⟨g, 0, none⟩) 2 2] W fun x w' => ∃ b, x = .returned (.bool b) ∧ Below W.heap.size W w' ∧ (b = true → Lgt ⟨x_g, x_o, x_n, x_c, x_d, x_e⟩ ∧ Lgt ⟨y_g, y_o, y_n, y_c, y_d, y_e⟩)) := fun W g hb hg => by
          refine (light_any _ _ _ _ W (nums2 (x := ⟨x_g, x_o, x_n, x_c, x_d, x_e⟩) (y := ⟨y_g, y_o, y_n, y_c, y_d, y_e⟩) hg (rx.keeps hb) (ry.keeps hb))).mono ?_
          rintro x w' ⟨b, rfl, h1, h2⟩
          exact ⟨b, rfl, h1, fun h => ⟨(h2 h).2 0 (by decide), (h2 h).2 1 (by decide)⟩⟩
        have CL1 : Hid (∀ W, Below w.heap.size w W → _) := fun W hb => light_any lo ln lc l W (rl.1.keeps hb)
        have CL2 : Hid (∀ W, Below w.heap.size w W → _) := fun W hb => light_any mo mn mc m W (rm.1.keeps hb)
        have HRL : Hid (Nums w lo ln lc l) := rl.1
        have HRM : Hid (Nums w mo mn mc m) := rm.1
        have hxl := rx.le
        have hxm := rx.max
        have hyl := ry.le
        have hym := ry.max
        have hll := rl.1.le
        have hlm := rl.1.max
        have hml := rm.1.le
        have hmm := rm.1.max
        clear rk rn rx ex ry ey rl rm
        have hb2 := bel_alloc2 wr (.cells #[.int .i64 qk, .int .i64 qn, .bool x_g, .slice x_o x_n x_c, .int .i64 x_e, .bool y_g, .slice y_o y_n y_c, .int .i64 y_e, .slice lo ln lc, .slice mo mn mc] 28) (.cells #[.bool x_g, .slice x_o x_n x_c, .int .i64 x_e, .bool y_g, .slice y_o y_n y_c, .int .i64 y_e] 25)
        have x_k := heap_a2 wr (.cells #[.int .i64 qk, .int .i64 qn, .bool x_g, .slice x_o x_n x_c, .int .i64 x_e, .bool y_g, .slice y_o y_n y_c, .int .i64 y_e, .slice lo ln lc, .slice mo mn mc] 28) (.cells #[.bool x_g, .slice x_o x_n x_c, .int .i64 x_e, .bool y_g, .slice y_o y_n y_c, .int .i64 y_e] 25)
        have l_k := heap_b2 wr (.cells #[.int .i64 qk, .int .i64 qn, .bool x_g, .slice x_o x_n x_c, .int .i64 x_e, .bool y_g, .slice y_o y_n y_c, .int .i64 y_e, .slice lo ln lc, .slice mo mn mc] 28) (.cells #[.bool x_g, .slice x_o x_n x_c, .int .i64 x_e, .bool y_g, .slice y_o y_n y_c, .int .i64 y_e] 25)
        have hbx : Below w.heap.size w ((wr.alloc (.cells #[.int .i64 qk, .int .i64 qn, .bool x_g, .slice x_o x_n x_c, .int .i64 x_e, .bool y_g, .slice y_o y_n y_c, .int .i64 y_e, .slice lo ln lc, .slice mo mn mc] 28)).alloc (.cells #[.bool x_g, .slice x_o x_n x_c, .int .i64 x_e, .bool y_g, .slice y_o y_n y_c, .int .i64 y_e] 25)) := HB.out.trans (hb2.mono HB.out.size)
        go_wp2_with fail
        clear d0 d1 d2 d3 d4 d5 d6 d7 d8 d9
        generalize (wr.alloc (.cells #[.int .i64 qk, .int .i64 qn, .bool x_g, .slice x_o x_n x_c, .int .i64 x_e, .bool y_g, .slice y_o y_n y_c, .int .i64 y_e, .slice lo ln lc, .slice mo mn mc] 28)).alloc (.cells #[.bool x_g, .slice x_o x_n x_c, .int .i64 x_e, .bool y_g, .slice y_o y_n y_c, .int .i64 y_e] 25) = wx at hb2 x_k l_k hbx ⊢
        refine (CL0.out _ _ hbx l_k).mono ?_
        rintro _ w1 ⟨b0, rfl, hb1, h0⟩
        have hbw1 : Below w.heap.size w w1 := hbx.trans (hb1.mono hbx.size)
        have x_k1 := (hb1.block _ (Array.getElem?_eq_some_iff.1 x_k).1).trans x_k
        clear l_k hb2 hb1 hbx CL0 x_k
        cases b0
        · clear h0 x_k1
          go_wp2_with fail
          refine (HA.out _ hbw1).mono ?_
          rintro _ w9 ⟨rfl, hb9, _⟩
          go_wp2
          go_ret
          exact ⟨rfl, hb9⟩
        · obtain ⟨hLx, hLy⟩ := h0 rfl
          have HLX : Hid (Lgt ⟨x_g, x_o, x_n, x_c, x_d, x_e⟩) := hLx
          have HLY : Hid (Lgt ⟨y_g, y_o, y_n, y_c, y_d, y_e⟩) := hLy
          clear h0 hLx hLy
          have f8 := blkC x_k1 8 rfl
          go_wp2_with fail
          clear f8
          refine (CL1.out _ hbw1).mono ?_
          rintro _ w2 ⟨b1, rfl, hb2, h1⟩
          have hbw2 : Below w.heap.size w w2 := hbw1.trans (hb2.mono hbw1.size)
          have x_k2 := (hb2.block _ (Array.getElem?_eq_some_iff.1 x_k1).1).trans x_k1
          clear hb2 CL1 x_k1 hbw1
          cases b1
          · clear h1 x_k2
            go_wp2_with fail
            refine (HA.out _ hbw2).mono ?_
            rintro _ w9 ⟨rfl, hb9, _⟩
            go_wp2
            go_ret
            exact ⟨rfl, hb9⟩
          · have HLL : Hid (∀ i, i < ln → Lgt (l i)) := (h1 rfl).2
            clear h1
            have f9 := blkC x_k2 9 rfl
            go_wp2_with fail
            clear f9
            refine (CL2.out _ hbw2).mono ?_
            rintro _ w3 ⟨b2, rfl, hb3, h2⟩
            have hbw3 : Below w.heap.size w w3 := hbw2.trans (hb3.mono hbw2.size)
            have x_k3 := (hb3.block _ (Array.getElem?_eq_some_iff.1 x_k2).1).trans x_k2
            clear hb3 CL2 x_k2 hbw2
            cases b2
            · clear h2 x_k3
              go_wp2_with fail
              refine (HA.out _ hbw3).mono ?_
              rintro _ w9 ⟨rfl, hb9, _⟩
              go_wp2
              go_ret
              exact ⟨rfl, hb9⟩
            · have HLM : Hid (∀ i, i < mn → Lgt (m i)) := (h2 rfl).2
              clear h2
              have f3 := blkC x_k3 3 rfl
              have f6 := blkC x_k3 6 rfl
              have f8 := blkC x_k3 8 rfl
              have f9 := blkC x_k3 9 rfl
              by_cases e1 : 30 < x_n
              · skip
                go_wp2_with fail
                refine (HA.out _ hbw3).mono ?_
                rintro _ w9 ⟨rfl, hb9, _⟩
                go_wp2
                go_ret
                exact ⟨rfl, hb9⟩
              by_cases e2 : 30 < y_n
              · skip
                go_wp2_with fail
                refine (HA.out _ hbw3).mono ?_
                rintro _ w9 ⟨rfl, hb9, _⟩
                go_wp2
                go_ret
                exact ⟨rfl, hb9⟩
              by_cases e3 : 20 < ln
              · skip
                go_wp2_with fail
                refine (HA.out _ hbw3).mono ?_
                rintro _ w9 ⟨rfl, hb9, _⟩
                go_wp2
                go_ret
                exact ⟨rfl, hb9⟩
              by_cases e4 : 20 < mn
              · skip
                go_wp2_with fail
                refine (HA.out _ hbw3).mono ?_
                rintro _ w9 ⟨rfl, hb9, _⟩
                go_wp2
                go_ret
                exact ⟨rfl, hb9⟩
              have HOK : Hid (AskOk (r j)) := (show AskOk (r j) by rw [← HQ.out]; exact ⟨HLX.out, HLY.out, HLL.out, HLM.out, by show x_n ≤ 30; omega, by show y_n ≤ 30; omega, by show ln ≤ 20; omega, by show mn ≤ 20; omega⟩)
              have HGL : Hid (∀ t, t < ln → (l t).n ≤ 2100) := fun t ht => (HLL.out t ht).1
              have HGM : Hid (∀ t, t < mn → (m t).n ≤ 2100) := fun t ht => (HLM.out t ht).1
              clear HLX HLY HLL HLM HQ
              go_wp2_with fail
              go_loopw [3, 6] (fun nv jv w4 => ∃ (t : Nat) (s2 : Int), jv = .int .i64 t ∧ nv = .int .i64 s2 ∧ t ≤ ln ∧ 0 ≤ s2 ∧ s2 ≤ s + 2100 * (t : Int) ∧ w4 = w3) (fun _ jv _ => ln - (intOf jv).toNat)
              case atStart => exact ⟨0, s, rfl, rfl, Nat.zero_le _, hs0, by omega, rfl⟩
              case round =>
                obtain ⟨t, s2, rfl, rfl, ht, h20, h21, rfl⟩ := hrel
                by_cases htl : t < ln
                · obtain ⟨lb, lf, rfl, lcell⟩ := num_len HRL.out hbw3 htl
                  have hlt := HGL.out t htl
                  generalize l t = z at lcell hlt
                  obtain ⟨z_g, z_o, z_n, z_c, z_d, z_e⟩ := z
                  simp only at lcell hlt
                  go_wp2_with fail
                  go_roundw
                  case rel => exact ⟨t + 1, s2 + z_n, by go_num, by first | rfl | go_num, by omega, by omega, by omega, by first | trivial | rfl⟩
                  case measure => simp [intOf]; omega
                · obtain rfl : t = ln := by omega
                  go_wp2_with fail
                  go_loopw [3, 7] (fun nv jv w4 => ∃ (u : Nat) (s3 : Int), jv = .int .i64 u ∧ nv = .int .i64 s3 ∧ u ≤ mn ∧ 0 ≤ s3 ∧ s3 ≤ s2 + 2100 * (u : Int) ∧ w4 = wr) (fun _ jv _ => mn - (intOf jv).toNat)
                  case atStart => exact ⟨0, s2, rfl, rfl, Nat.zero_le _, h20, by omega, rfl⟩
                  case round =>
                    obtain ⟨u, s3, rfl, rfl, hu, h30, h31, rfl⟩ := hrel
                    by_cases hul : u < mn
                    · obtain ⟨mb, mf, rfl, mcell⟩ := num_len HRM.out hbw3 hul
                      have hmt := HGM.out u hul
                      generalize m u = z at mcell hmt
                      obtain ⟨z_g, z_o, z_n, z_c, z_d, z_e⟩ := z
                      simp only at mcell hmt
                      go_wp2_with fail
                      go_roundw
                      case rel => exact ⟨u + 1, s3 + z_n, by go_num, by first | rfl | go_num, by omega, by omega, by omega, by first | trivial | rfl⟩
                      case measure => simp [intOf]; omega
                    · obtain rfl : u = mn := by omega
                      go_wp2_with fail
                      go_roundw
                      case rel => exact ⟨j + 1, s3, by go_num, rfl, by omega, by omega, by omega, by omega, fun t ht => by
                          by_cases e : t = j
                          · subst e; exact HOK.out
                          · exact HS.out t (by omega), hbw3⟩
                      case measure => simp [intOf]; omega
      · have c4 : (20 : Int) < (len : Int) := by omega
        go_wp2_with fail
        refine (HA.out _ HB.out).mono ?_
        rintro _ w9 ⟨rfl, hb9, _⟩
        go_wp2
        go_ret
        exact ⟨rfl, hb9⟩
    · obtain rfl : j = len := by omega
      by_cases c3 : 1000 < s
      · skip
        go_wp2_with fail
        refine (HA.out _ HB.out).mono ?_
        rintro _ w9 ⟨rfl, hb9, _⟩
        go_wp2
        go_ret
        exact ⟨rfl, hb9⟩
      · have c4 : (j : Int) ≤ 20 := by omega
        clear hs0 hs1
        generalize hw1 : wr = w1 at HB ⊢
        clear hw1
        have HK : Hid (KeptD w.heap.size (w1.alloc (.cells #[.slice none 0 0, .slice none 0 0] 34)) w1.heap.size) := ⟨_, kept_new w1 HB.out.size⟩
        have HBa : Hid (Below w.heap.size w (w1.alloc (.cells #[.slice none 0 0, .slice none 0 0] 34))) := HB.out.alloc HB.out.size _
        go_wp2_with fail
        go_loopw [9] (fun iv w2 => ∃ t : Nat, iv = .int .i64 t ∧ t ≤ j ∧ Hid (KeptD w.heap.size w2 w1.heap.size) ∧ Hid (Below w.heap.size w w2)) (fun iv _ => j - (intOf iv).toNat)
        case atStart => exact ⟨0, rfl, Nat.zero_le _, HK.out, HBa.out⟩
        case round =>
          clear HK HBa
          obtain ⟨t, rfl, ht, HK2, HB2⟩ := hrel
          by_cases htl : t < j
          · have hOK := HS.out t htl
            obtain ⟨b, off, rfl, hbl, hask⟩ := HC.out t htl
            obtain ⟨q, hq⟩ : ∃ q, q = r t := ⟨_, rfl⟩
            have HQ : Hid (q = r t) := hq
            rw [← hq] at hask
            clear hq
            obtain ⟨d0, d1, d2, d3, d4, d5, d6, d7, d8, d9⟩ := askD_keeps hask HB2.out hbl
            have hF := hask.fact
            clear hask
            obtain ⟨qk, qn, ⟨x_g, x_o, x_n, x_c, x_d, x_e⟩, ⟨y_g, y_o, y_n, y_c, y_d, y_e⟩, lo, ln, lc, l, mo, mn, mc, m⟩ := q
            obtain ⟨rk, rn, rx, ex, ry, ey, rl, rm⟩ := hF
            simp only at d0 d1 d2 d3 d4 d5 d6 d7 d8 d9 rk rn rx ex ry ey rl rm
            rw [← HQ.out] at hOK
            obtain ⟨hLx, hLy, hLl, hLm, hx30, hy30, hl20, hm20⟩ := hOK
            simp only at hLx hLy hLl hLm hx30 hy30 hl20 hm20
            have HMD : Hid (∀ W : World, Below w.heap.size w W → KeptD w.heap.size W w1.heap.size → Calls Tryz.prog 6 #[.pointer (some ⟨w1.heap.size, 0, none⟩), .bool x_g, .slice x_o x_n x_c, .int .i64 x_e, .int .i64 qn] W fun e w' => e = .returned (.bool true) ∧ Below w.heap.size w w' ∧ KeptD w.heap.size w' w1.heap.size ∧ Fr W w') := fun W hb hk => by
              obtain ⟨S, hk⟩ := hk
              refine (made_any x_g x_o x_n x_c x_d x_e qn rx (by omega) rn W hb hk HH.out).mono ?_
              rintro e w' ⟨rfl, h1, S', h2, h3⟩
              exact ⟨rfl, h1, ⟨S', h2⟩, h3⟩
            have HON : Hid (∀ W : World, Below w.heap.size w W → KeptD w.heap.size W w1.heap.size → Calls Tryz.prog 7 #[.pointer (some ⟨w1.heap.size, 0, none⟩), .agg #[.bool x_g, .slice x_o x_n x_c, .int .i64 x_e], .int .i64 qn] W fun e w' => e = .returned (.bool true) ∧ Below w.heap.size w w' ∧ KeptD w.heap.size w' w1.heap.size ∧ Fr W w') := fun W hb hk => by
              obtain ⟨S, hk⟩ := hk
              refine (ones_any ⟨x_g, x_o, x_n, x_c, x_d, x_e⟩ rx (by show x_n ≤ 2100; omega) ex qn rn W hb hk HH.out.tab HH.out.lay).mono ?_
              rintro e w' ⟨rfl, h1, S', h2, h3⟩
              exact ⟨rfl, h1, ⟨S', h2⟩, h3⟩
            have HTW : Hid (∀ W : World, Below w.heap.size w W → KeptD w.heap.size W w1.heap.size → Calls Tryz.prog 8 #[.pointer (some ⟨w1.heap.size, 0, none⟩), .agg #[.bool x_g, .slice x_o x_n x_c, .int .i64 x_e], .agg #[.bool y_g, .slice y_o y_n y_c, .int .i64 y_e]] W fun e w' => e = .returned (.bool true) ∧ Below w.heap.size w w' ∧ KeptD w.heap.size w' w1.heap.size ∧ Fr W w') := fun W hb hk => by
              obtain ⟨S, hk⟩ := hk
              refine (twos_any ⟨x_g, x_o, x_n, x_c, x_d, x_e⟩ ⟨y_g, y_o, y_n, y_c, y_d, y_e⟩ rx ry hLx hLy W hb hk HH.out.tab).mono ?_
              rintro e w' ⟨rfl, h1, S', h2, h3⟩
              exact ⟨rfl, h1, ⟨S', h2⟩, h3⟩
            have HLI : Hid (∀ W : World, Below w.heap.size w W → KeptD w.heap.size W w1.heap.size → Calls Tryz.prog 9 #[.pointer (some ⟨w1.heap.size, 0, none⟩), .slice lo ln lc, .slice mo mn mc] W fun e w' => e = .returned (.bool true) ∧ Below w.heap.size w w' ∧ KeptD w.heap.size w' w1.heap.size ∧ Fr W w') := fun W hb hk => by
              obtain ⟨S, hk⟩ := hk
              refine (lists_any lo mo ln mn lc mc l m rl.1 rm.1 hLl hLm (by omega) (by omega) W hb hk HH.out.tab).mono ?_
              rintro e w' ⟨rfl, h1, ⟨S', h2⟩, h3⟩
              exact ⟨rfl, h1, ⟨S', h2⟩, h3⟩
            clear rk rn rx ex ry ey rl rm hLx hLy hLl hLm hx30 hy30 hl20 hm20 HQ
            have hba := bel_alloc wr (.cells #[.int .i64 qk, .int .i64 qn, .bool x_g, .slice x_o x_n x_c, .int .i64 x_e, .bool y_g, .slice y_o y_n y_c, .int .i64 y_e, .slice lo ln lc, .slice mo mn mc] 28)
            have X_K : Hid ((wr.alloc (.cells #[.int .i64 qk, .int .i64 qn, .bool x_g, .slice x_o x_n x_c, .int .i64 x_e, .bool y_g, .slice y_o y_n y_c, .int .i64 y_e, .slice lo ln lc, .slice mo mn mc] 28)).heap[wr.heap.size]? = some (.cells #[.int .i64 qk, .int .i64 qn, .bool x_g, .slice x_o x_n x_c, .int .i64 x_e, .bool y_g, .slice y_o y_n y_c, .int .i64 y_e, .slice lo ln lc, .slice mo mn mc] 28 (0, 0))) := heap_a1 wr (.cells #[.int .i64 qk, .int .i64 qn, .bool x_g, .slice x_o x_n x_c, .int .i64 x_e, .bool y_g, .slice y_o y_n y_c, .int .i64 y_e, .slice lo ln lc, .slice mo mn mc] 28)
            have HKa : Hid (KeptD w.heap.size (wr.alloc (.cells #[.int .i64 qk, .int .i64 qn, .bool x_g, .slice x_o x_n x_c, .int .i64 x_e, .bool y_g, .slice y_o y_n y_c, .int .i64 y_e, .slice lo ln lc, .slice mo mn mc] 28)) w1.heap.size) := HK2.out.keeps hba
            have HBb : Hid (Below w.heap.size w (wr.alloc (.cells #[.int .i64 qk, .int .i64 qn, .bool x_g, .slice x_o x_n x_c, .int .i64 x_e, .bool y_g, .slice y_o y_n y_c, .int .i64 y_e, .slice lo ln lc, .slice mo mn mc] 28))) := HB2.out.trans (hba.mono HB2.out.size)
            clear hba
            go_wp2_with fail
            clear d0 d1 d2 d3 d4 d5 d6 d7 d8 d9
            generalize wr.alloc (.cells #[.int .i64 qk, .int .i64 qn, .bool x_g, .slice x_o x_n x_c, .int .i64 x_e, .bool y_g, .slice y_o y_n y_c, .int .i64 y_e, .slice lo ln lc, .slice mo mn mc] 28) = wy at X_K HKa HBb ⊢
            go_loopw [11] (fun uv w3 => ∃ u : Nat, uv = .int .i64 u ∧ u ≤ 2 ∧ Hid (w3.heap[wr.heap.size]? = some (.cells #[.int .i64 qk, .int .i64 qn, .bool x_g, .slice x_o x_n x_c, .int .i64 x_e, .bool y_g, .slice y_o y_n y_c, .int .i64 y_e, .slice lo ln lc, .slice mo mn mc] 28 (0, 0))) ∧ Hid (KeptD w.heap.size w3 w1.heap.size) ∧ Hid (Below w.heap.size w w3)) (fun uv _ => 2 - (intOf uv).toNat)
            case atStart => exact ⟨0, rfl, by omega, X_K, HKa, HBb⟩
            case round =>
              clear X_K HKa HBb
              obtain ⟨u, rfl, hu, X3, HK3, HB3⟩ := hrel
              by_cases hul : u < 2
              · have f0 := blkC X3.out 0 rfl
                have f1 := blkC X3.out 1 rfl
                have f2 := blkC X3.out 2 rfl
                have f3 := blkC X3.out 3 rfl
                have f4 := blkC X3.out 4 rfl
                have f5 := blkC X3.out 5 rfl
                have f6 := blkC X3.out 6 rfl
                have f7 := blkC X3.out 7 rfl
                have f8 := blkC X3.out 8 rfl
                have f9 := blkC X3.out 9 rfl
                by_cases q0 : qk = 0
                · subst q0
                  go_wp2_with fail
                  refine (HMD.out _ HB3.out HK3.out).mono ?_
                  rintro _ w4 ⟨rfl, hb4, hk4, hf4⟩
                  have X4 := (hf4 _ _ _ _ (by decide) (by decide) X3.out).trans X3.out
                  have HX4 : Hid _ := X4
                  have HB4 : Hid (Below w.heap.size w w4) := hb4
                  have HK4 : Hid (KeptD w.heap.size w4 w1.heap.size) := hk4
                  clear hb4 hk4 hf4 f0 f1 f2 f3 f4 f5 f6 f7 f8 f9 X4
                  go_wp2
                  go_roundw
                  case rel => exact ⟨u + 1, by go_num, by omega, HX4.out, HK4.out, HB4.out⟩
                  case measure => simp [intOf]; omega
                by_cases q1 : qk = 1
                · subst q1
                  go_wp2_with fail
                  refine (HON.out _ HB3.out HK3.out).mono ?_
                  rintro _ w4 ⟨rfl, hb4, hk4, hf4⟩
                  have X4 := (hf4 _ _ _ _ (by decide) (by decide) X3.out).trans X3.out
                  have HX4 : Hid _ := X4
                  have HB4 : Hid (Below w.heap.size w w4) := hb4
                  have HK4 : Hid (KeptD w.heap.size w4 w1.heap.size) := hk4
                  clear hb4 hk4 hf4 f0 f1 f2 f3 f4 f5 f6 f7 f8 f9 X4
                  go_wp2
                  go_roundw
                  case rel => exact ⟨u + 1, by go_num, by omega, HX4.out, HK4.out, HB4.out⟩
                  case measure => simp [intOf]; omega
                by_cases q2 : qk = 2
                · subst q2
                  go_wp2_with fail
                  refine (HTW.out _ HB3.out HK3.out).mono ?_
                  rintro _ w4 ⟨rfl, hb4, hk4, hf4⟩
                  have X4 := (hf4 _ _ _ _ (by decide) (by decide) X3.out).trans X3.out
                  have HX4 : Hid _ := X4
                  have HB4 : Hid (Below w.heap.size w w4) := hb4
                  have HK4 : Hid (KeptD w.heap.size w4 w1.heap.size) := hk4
                  clear hb4 hk4 hf4 f0 f1 f2 f3 f4 f5 f6 f7 f8 f9 X4
                  go_wp2
                  go_roundw
                  case rel => exact ⟨u + 1, by go_num, by omega, HX4.out, HK4.out, HB4.out⟩
                  case measure => simp [intOf]; omega
                by_cases q3 : qk = 3
                · subst q3
                  go_wp2_with fail
                  refine (HLI.out _ HB3.out HK3.out).mono ?_
                  rintro _ w4 ⟨rfl, hb4, hk4, hf4⟩
                  have X4 := (hf4 _ _ _ _ (by decide) (by decide) X3.out).trans X3.out
                  have HX4 : Hid _ := X4
                  have HB4 : Hid (Below w.heap.size w w4) := hb4
                  have HK4 : Hid (KeptD w.heap.size w4 w1.heap.size) := hk4
                  clear hb4 hk4 hf4 f0 f1 f2 f3 f4 f5 f6 f7 f8 f9 X4
                  go_wp2
                  go_roundw
                  case rel => exact ⟨u + 1, by go_num, by omega, HX4.out, HK4.out, HB4.out⟩
                  case measure => simp [intOf]; omega
                go_wp2
                go_roundw
                case rel => exact ⟨u + 1, by go_num, by omega, X3.out, HK3.out, HB3.out⟩
                case measure => simp [intOf]; omega
              · obtain rfl : u = 2 := by omega
                go_wp2_with fail
                go_roundw
                case rel => exact ⟨t + 1, by go_num, by omega, HK3.out, HB3.out⟩
                case measure => simp [intOf]; omega
          · obtain rfl : t = j := by omega
            go_wp2_with fail
            refine (HA.out _ HB2.out).mono ?_
            rintro _ w3 ⟨rfl, hb3, hb3'⟩
            have HB3 : Hid (Below w.heap.size w w3) := hb3
            have HAP : Hid (Calls Tryz.prog 10 #[.pointer (some ⟨w1.heap.size, 0, none⟩)] w3 fun e w' => e = .returned (.bool true) ∧ Below w.heap.size w3 w') := by
              obtain ⟨S, h⟩ := HK2.out.keeps hb3'
              exact apart_kept h HB3.out.size
            clear hb3 hb3'
            go_wp2_with fail
            refine HAP.out.mono ?_
            rintro _ w4 ⟨rfl, hb4⟩
            go_wp2
            go_ret
            exact ⟨rfl, HB3.out.trans hb4⟩
theorem own : ownKnob Tryz.prog.godebug = none := by kernel_rfl
theorem laidOut : laidOutB Tryz.prog = true := by kernel_rfl
theorem door_met (os : Os) (args : Array Value) : laidMetH Tryz.prog Rows.dyadicAllRow.laid ((World.doorLaid Tryz.prog 400 os).forCall (fun _ _ => 0) ⟨#[], args, []⟩).memory :=
  laidMetH_of_parts3 (fuel := 8) (laidMet_of_run' 8 (by kernel_rfl) (by kernel_rfl)) (by kernel_rfl) (by kernel_rfl)
set_option maxRecDepth 100000 in
theorem lifted (os : Os) (started : os.Started) (H : Type) (enc : TypeId × Value → H) :
    ReturnsInHanded {} Tryz.checked os 3 .any (fun w args => (Rows.dyadicAllSpec.pre enc Tryz.prog Tryz.f3 [] false w args ∧ laidMetH Tryz.prog Rows.dyadicAllRow.laid w) ∧ sizedMet enc Tryz.prog Tryz.f3 (OpenSpec.ofChange Rows.dyadicAllSpec) false w args)
      (Rows.dyadicAllSpec.post enc Tryz.prog Tryz.f3 false true false false) := by
  refine returnsInHanded_of_change_and (C := Tryz.checked) (X := fun w _ => laidMetH Tryz.prog Rows.dyadicAllRow.laid w) (fun _ _ _ hh h => h.of_heap hh) own started (by kernel_rfl) Tryz.func3
    (ChangeSpec.witness_shaped (enc := enc) (C := Tryz.checked) (os := os) (X := fun w _ => laidMetH Tryz.prog Rows.dyadicAllRow.laid w) false (World.doorLaid Tryz.prog 400 os) #[.slice none 0 0] 8 rfl (World.shaped_of_RefB (by kernel_rfl) (by kernel_rfl)) (by kernel_rfl) (by kernel_rfl) (by kernel_rfl) (door_met os _)) ?_
  intro W base args ds gs before hval0 hW _ hsz hL _
  have hval : ∀ (j : Nat) t v, Tryz.f3.params[j]? = some t → args[j]? = some v → Value.okWide Tryz.prog W .any base t v := hval0
  have hW' := hW
  obtain ⟨p, q, hA0, hV, rfl, hfz, hnd⟩ := hW
  have hA : DataW.TrodAll enc Tryz.prog W 0 (fun _ => true) true Tryz.f3.params.toList args.toList ds p := hA0
  rw [Tryz.params3] at hA hval
  obtain ⟨v0, vs0, d0, ds0, p0, q0, hargs, rfl, rfl, h0, r0⟩ := trodAll_cons hA
  obtain ⟨rfl, rfl, rfl⟩ := trodAll_nil r0
  obtain rfl : args = #[v0] := by cases args; simp_all
  obtain ⟨rfl, rfl⟩ := trodVars_none hV
  obtain ⟨a0, l0, c0, rfl⟩ := okWide_slice Tryz.underlying22 (hval 0 22 v0 rfl rfl)
  have k0 := h0
  have lt0 : ∀ x ∈ p0, x.block < W.heap.size := by obtain ⟨m, hm⟩ := k0; exact DataW.trod_lt m _ _ _ hm
  obtain ⟨fu0, hf0⟩ := h0
  obtain ⟨z0, w0⟩ := askDs_of (by simpa [Value.cells] using hf0) (fun n hn => of_decide_eq_true (List.all_eq_true.1 hsz n (DataW.weights_mem_each (j := 0) (t := 22) (by kernel_rfl) rfl n hn)))
  clear hA0 hval0
  refine (walk a0 l0 c0 z0 W w0 (hold2_of hL)).mono fun e W' ⟨he, bel⟩ => ?_
  subst he
  exact ⟨_, rfl, _, _, _, [], _, [], hW', trodAll_mk1 (shut_bool Tryz.underlying4 _), (trodAll_cons_mk (Below.trod laidOut (by kernel_rfl) (of_decide_eq_true (by kernel_rfl)) k0 bel lt0) trodAll_mk0), rfl, bel.frame _, fun h => by cases h⟩
theorem said : Rows.DyadicAllSaid :=
  OpenClaim.holds_of_wide 3 Tryz.f3 rfl rfl rfl rfl rfl rfl rfl ⟨rfl, rfl, rfl, rfl, rfl⟩ rfl rfl rfl rfl rfl (by kernel_rfl) Tryz.func3 (by kernel_rfl)
    (of_decide_eq_true (by kernel_rfl)) (by unfold Func.isWrapper; first | (rw [if_pos (by decide +kernel)]; kernel_rfl) | (rw [if_neg (by decide +kernel)]; exact ⟨rfl, rfl⟩))
    (fun os started H enc _ => lifted os started H enc)
theorem plain (f : FuncId) (fn : Func) (hf : Tryz.pinned.checked.prog.funcNamed Tryz.f3.name = some f) (hfn : Tryz.pinned.checked.prog.funcs[f]? = some fn) :
    true = Tryz.pinned.checked.prog.looks [] ∧ ∀ (j : Nat) t, fn.params[j]? = some t → Tryz.pinned.checked.prog.wantsStandIn t = false := by
  obtain rfl : f = 3 := Option.some.inj ((show Tryz.prog.funcNamed Tryz.f3.name = some 3 by kernel_rfl).symm.trans hf) |>.symm
  obtain rfl : fn = Tryz.f3 := (Option.some.inj (Tryz.func3.symm.trans hfn)).symm
  refine ⟨by kernel_rfl, fun j t ht => ?_⟩
  rw [Tryz.params3] at ht
  obtain rfl : t = 22 := by simpa using Array.mem_of_getElem? ht
  exact (show Tryz.prog.wantsStandIn 22 = false by kernel_rfl)
/-- THE CARD. -/
theorem card : Rows.DyadicAllCardSaid :=
  Claim7.holds_tied_plain_at .later [] _ _ _ _ said (fun _ h => by cases h) (by kernel_rfl) (fun _ h => by cases h) dyadicAll_row_tie rfl ⟨rfl, rfl⟩ (by kernel_rfl) rfl plain (by kernel_rfl)
end Go.Proofs.YtnhkagiionkjaaaGreatDoor.dyadicAll
namespace Go.Proofs.YtnhkagiionkjaaaGreatDoor
/-- DyadicAll: the statement as it is given. -/
theorem dyadicAll_holds : Rows.DyadicAllCardSaid := dyadicAll.card
end Go.Proofs.YtnhkagiionkjaaaGreatDoor
