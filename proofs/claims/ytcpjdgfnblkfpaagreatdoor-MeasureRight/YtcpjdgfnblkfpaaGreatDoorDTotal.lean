/-
  Package dyadic: total, by its contract: the sum of all, or it gives up.
-/
import Derived.Test.YtcpjdgfnblkfpaaGreatDoorDReach
import Derived.Test.YtcpjdgfnblkfpaaGreatDoorNCar
import Derived.Deep.RegionHeld3
namespace Go.Proofs.YtcpjdgfnblkfpaaGreatDoor
open Go Go.RowKit Go.Proofs.YtcpjdgfnblkfpaaGreatDoor.M
set_option linter.unusedSimpArgs false
set_option linter.unusedVariables false

/-- The sum of the first k, in the scale. -/
def sumV (r : Nat → NumR) : Nat → Int | 0 => 0 | k + 1 => sumV r k + sg (r k).ng (val (r k).d (r k).n) * pw (r k).e
/-- A number that is reckoned out, or it gives up. -/
def DOut (w : World) (V : Int) (x : Ending) (w' : World) : Prop := (Dok V ∧ ∃ v, x = .returned v ∧ DAns w w' V v) ∨ (¬ Dok V ∧ x = gaveUp ∧ Below w.heap.size w w')
theorem settle_any {ng : Bool} {ao : Option Addr} {n cap : Nat} {d : Nat → Int} {e : Int} {w : World} (h : Row w ao n cap d) (hd : Dig d n) (hn : n ≤ 100000) (hT : Tab w) (he : -4194304 ≤ e) {V : Int} (hV : V = sg ng (val d n) * pw e) :
    Calls Tryz.prog 69 #[.agg #[.bool ng, .slice ao n cap, .int .i64 e]] w (DOut w V) := by
  by_cases hok : Dok V
  · refine (settle_ok h hd hn hT he hV hok).mono ?_
    rintro x w' ⟨v, rfl, hD⟩
    exact .inl ⟨hok, v, rfl, hD⟩
  · refine (settle_long h hd hn hT he hV hok).mono ?_
    rintro x w' ⟨rfl, hb⟩
    exact .inr ⟨hok, rfl, hb⟩
theorem told_any {F : Nat} {cap : Array Value} {w : World} {V : Int} (hE : ∀ w, (callFunc F cap).run Tryz.prog w = .ok (.enter F cap) w) (h : ∀ W, Below w.heap.size w W → Calls Tryz.prog F cap W (DOut W V)) :
    Calls Tryz.prog 64 #[.func (.func F) #[] cap] w fun r w' => ∃ v er, r = .returned (.tuple #[v, .int .i64 er]) ∧ DFit w w' V v er := by
  refine told_fit hE (fun hok W hW => (h W hW).mono ?_) (fun hok W hW => (h W hW).mono ?_)
  · rintro x w' (⟨_, v, rfl, hD⟩ | ⟨hn, _⟩)
    · exact ⟨v, rfl, hD⟩
    · exact absurd hok hn
  · rintro x w' (⟨hy, _⟩ | ⟨_, rfl, hb⟩)
    · exact absurd hy hok
    · exact ⟨rfl, hb⟩
theorem sumV_zero {r : Nat → NumR} : ∀ {n : Nat}, (∀ i, i < n → (r i).n = 0) → sumV r n = 0
  | 0, _ => rfl
  | n + 1, h => by
    show sumV r n + _ = 0
    rw [sumV_zero fun i hi => h i (by omega), h n (by omega)]
    show 0 + sg _ 0 * _ = 0
    rw [sg_zero, Int.zero_mul, Int.add_zero]
/-- Each number's bits, brought to the lowest exponent. -/
theorem sum_bound {r : Nat → NumR} {k : Nat} {low high : Int} (hs : Sane (r k)) (ha : low ≤ (r k).e ∧ (r k).e + blen (val (r k).d (r k).n) ≤ high) :
    val (r k).d (r k).n * 2 ^ ((r k).e - low).toNat < 2 ^ (high - low).toNat ∧ 0 ≤ val (r k).d (r k).n * 2 ^ ((r k).e - low).toNat := by
  have hv := val_nonneg hs.1.1
  obtain ⟨a, b⟩ := ha
  have h1 := blen_lt (val (r k).d (r k).n)
  have h2 : val (r k).d (r k).n * 2 ^ ((r k).e - low).toNat < 2 ^ blen (val (r k).d (r k).n) * 2 ^ ((r k).e - low).toNat := Int.mul_lt_mul_of_pos_right h1 (two_pos _)
  rw [← Int.pow_add] at h2
  have h3 : (2 : Int) ^ (blen (val (r k).d (r k).n) + ((r k).e - low).toNat) ≤ 2 ^ (high - low).toNat := two_le (by omega)
  exact ⟨by omega, Int.mul_nonneg hv (Int.le_of_lt (two_pos _))⟩
/-- The columns when the first k numbers were put onto them. -/
structure TotP (r : Nat → NumR) (low high : Int) (N k : Nat) (c : Nat → Int) : Prop where
  sum : val c N * pw low = sumV r k
  bnd : ∀ i, i < N → -((k : Int) * 1073741823) ≤ c i ∧ c i ≤ k * 1073741823
  lo : -((k : Int) * 2 ^ (high - low).toNat) ≤ val c N
  hi : val c N ≤ k * 2 ^ (high - low).toNat
theorem TotP.start (r : Nat → NumR) (low high : Int) (N : Nat) : TotP r low high N 0 (fun _ => 0) := by
  have e : val (fun _ => 0) N = 0 := val_zeros (Nat.zero_le _) (fun _ _ _ => rfl)
  exact ⟨by rw [e, Int.zero_mul]; rfl, fun i _ => ⟨by omega, by omega⟩, by rw [e]; simp, by rw [e]; simp⟩
theorem TotP.skip {r : Nat → NumR} {low high : Int} {N k : Nat} {c : Nat → Int} (h : TotP r low high N k c) (h0 : (r k).n = 0) : TotP r low high N (k + 1) c := by
  have e : sumV r (k + 1) = sumV r k := by
    show sumV r k + _ = _
    rw [h0]
    show sumV r k + sg _ 0 * _ = _
    rw [sg_zero, Int.zero_mul, Int.add_zero]
  have hp := two_pos (high - low).toNat
  have e2 : ((k + 1 : Nat) : Int) * 2 ^ (high - low).toNat = k * 2 ^ (high - low).toNat + 2 ^ (high - low).toNat := by rw [Int.natCast_add, Int.add_mul]; simp
  refine ⟨by rw [e]; exact h.sum, fun i hi => ?_, ?_, ?_⟩
  · have := h.bnd i hi; omega
  · have := h.lo; omega
  · have := h.hi; omega
theorem sgn_sg (ng : Bool) {n : Nat} (h : 0 < n) (x : Int) : sgn ng n * x = sg ng x ∧ (sgn ng n = 1 ∨ sgn ng n = -1) := by
  have : n ≠ 0 := by omega
  cases ng <;> simp [sgn, sg, this]
theorem TotP.put {r : Nat → NumR} {low high : Int} {N k q p : Nat} {c c' : Nat → Int} (h : TotP r low high N k c) (hs : Sane (r k)) (h0 : 0 < (r k).n) (ha : low ≤ (r k).e ∧ (r k).e + blen (val (r k).d (r k).n) ≤ high) (hl : -4194304 ≤ low) (hqp : (r k).e - low = 30 * q + p) (hp : p < 30)
    (hP : Piled N c (sgn (r k).ng (r k).n) (P q * (2 ^ p * val (r k).d (r k).n)) c') : TotP r low high N (k + 1) c' := by
  obtain ⟨b1, b0⟩ := sum_bound hs ha
  obtain ⟨a1, a2⟩ := ha
  have e1 : (2 : Int) ^ ((r k).e - low).toNat = P q * 2 ^ p := by
    rw [show ((r k).e - low).toNat = 30 * q + p by omega, Int.pow_add, P_two]
  have e2 : P q * (2 ^ p * val (r k).d (r k).n) = val (r k).d (r k).n * 2 ^ ((r k).e - low).toNat := by rw [e1]; grind
  rw [e2] at hP
  generalize hX : val (r k).d (r k).n * 2 ^ ((r k).e - low).toNat = X at *
  obtain ⟨s1, s2⟩ := sgn_sg (r k).ng h0 X
  have hsum := hP.sum
  rw [s1] at hsum
  have hpp := two_pos (high - low).toNat
  have e3 : ((k + 1 : Nat) : Int) * 2 ^ (high - low).toNat = k * 2 ^ (high - low).toNat + 2 ^ (high - low).toNat := by rw [Int.natCast_add, Int.add_mul]; simp
  have hsx : -X ≤ sg (r k).ng X ∧ sg (r k).ng X ≤ X := by cases (r k).ng <;> simp [sg] <;> omega
  refine ⟨?_, fun i hi => ?_, ?_, ?_⟩
  · rw [hsum, Int.add_mul, h.sum]
    show _ = sumV r k + sg (r k).ng (val (r k).d (r k).n) * pw (r k).e
    rw [pw_sub hl a1, ← hX, sg_sgn, sg_sgn]; grind
  · have h1 := h.bnd i hi
    have h2 := pile_near s2 (hP.near i) (C := k * 1073741823) h1
    omega
  · have := h.lo; omega
  · have := h.hi; omega
theorem len_blen {d : Nat → Int} {n : Nat} (h : Nrm d n) (h0 : 0 < n) : 30 * (n - 1) + 1 ≤ blen (val d n) := by
  obtain ⟨m, rfl⟩ : ∃ m, n = m + 1 := ⟨n - 1, by omega⟩
  rw [blen_val h]
  have hd := h.1 m (by omega)
  have ht : d m ≠ 0 := by
    rcases h.2 with h1 | h1
    · omega
    · rwa [Nat.add_sub_cancel] at h1
  have := (blen_pos (show 0 < d m by omega)).1
  omega
set_option maxRecDepth 100000 in
set_option maxHeartbeats 4000000 in
theorem total_any (ao : Option Addr) (n cap : Nat) (r : Nat → NumR) (w : World) (h : Nums w ao n cap r) (hs : ∀ i, i < n → Sane (r i)) (hn : n ≤ 100000) (hT : Tab w) :
    Calls Tryz.prog 66 #[.slice ao n cap] w (DOut w (sumV r n)) := by
  have hl := h.le
  have hm := h.max
  have HS : Hid (∀ i, i < n → Sane (r i)) := hs
  go_enter Tryz.func66, Tryz.ntmps66
  go_wp2_with fail
  refine (reach_any ao n cap r _ (h.keeps (bel_alloc _ _)) hs).mono ?_
  rintro x w1 ⟨low, high, rfl, hR, hb1⟩
  clear hs
  have q0 := (hb1.block w.heap.size (by rw [size1]; omega)).trans (heap_a1 _ _)
  have x0 := blkC q0 0 rfl
  have x1 := blkC q0 1 rfl
  have x2 := blkC q0 2 rfl
  have z0 := blkF q0 0
  have z1 := blkF q0 1
  have z2 := blkF q0 2
  have hbw1 := bel_trans (bel_alloc w _) hb1
  by_cases hz : ∀ i, i < n → (r i).n = 0
  · obtain ⟨rfl, rfl⟩ := hR.none hz
    go_wp2
    refine bodyPost_ret (v := zeroV) (by simp [results, Tryz.results66, go_sem, x0, x1, x2, zeroV]) rfl ?_
    rw [sumV_zero hz]
    exact .inl ⟨dok_zero, _, rfl, DAns.zero (((hbw1.setCell (p := ⟨w.heap.size, 0, none⟩) (Nat.le_refl _) _).setCell (p := ⟨w.heap.size, 1, none⟩) (Nat.le_refl _) _).setCell (p := ⟨w.heap.size, 2, none⟩) (Nat.le_refl _) _)⟩
  · have hsome : ∃ i, i < n ∧ 0 < (r i).n := by
      simp only [Classical.not_forall] at hz
      obtain ⟨i, hi, hp⟩ := hz
      exact ⟨i, hi, by omega⟩
    obtain ⟨l0, l1, l2, l3⟩ := hR.some hsome
    have hlh : low ≤ high := by
      obtain ⟨i, hi, hp⟩ := hsome
      have := hR.all i hi hp
      omega
    obtain ⟨N, hN⟩ : ∃ N : Nat, (high - low) / 30 + 3 = (N : Int) := ⟨((high - low) / 30 + 3).toNat, by omega⟩
    go_wp2_with (at_make; refine wpList_mk rfl _ _ rfl _ _ N rfl rfl (by omega) (by omega) (by omega) ?_; intro w2 hB2 hb2)
    have hlow : -4194304 ≤ low := by omega
    have hbw2 := bel_trans hbw1 hb2
    have hb2' := hb2
    have HN := h.keeps hbw1
    have HA : Hid (∀ i, i < n → 0 < (r i).n → low ≤ (r i).e ∧ (r i).e + blen (val (r i).d (r i).n) ≤ high) := hR.all
    have HLH : Hid ((high - low) / 30 + 3 = (N : Int) ∧ low ≤ high) := ⟨hN, hlh⟩
    have hN3 : 3 ≤ N ∧ N ≤ 90000 := by omega
    have gw : w1.heap.size < w2.heap.size := hB2.lt
    clear hR hz hsome hb2 x0 x1 x2 z0 z1 z2
    go_loopw [26] (fun i wr => ∃ (k : Nat) (c : Nat → Int), k ≤ n ∧ i = .int .i64 k ∧ Blk wr w1.heap.size N c ∧ Hid (TotP r low high N k c) ∧ Below w1.heap.size w1 wr ∧ w2.heap.size ≤ wr.heap.size) (fun i _ => n - (intOf i).toNat)
    case atStart => exact ⟨0, _, Nat.zero_le _, rfl, hB2, TotP.start _ _ _ _, hb2', Nat.le_refl _⟩
    case round =>
      obtain ⟨k, c, hk, rfl, hB, HT, hbw, hgw⟩ := hrel
      by_cases hlt : k < n
      · obtain ⟨b, off, rfl, hb, hc⟩ := HN.spot (by omega)
        obtain ⟨c0, c1, c2, hRow⟩ := (hc k hlt).keeps hbw hb
        have hRX := RowX.of (hc k hlt).row (Nat.le_refl _)
        have hsk := HS.out k hlt
        have hak := HA.out k hlt
        have hput := fun q p c' h0 => HT.out.put (q := q) (p := p) (c' := c') hsk h0 (hak h0) hlow
        have hskip := fun h0 => HT.out.skip (k := k) h0
        have hbnd := HT.out.bnd
        clear hc
        generalize hr : r k = x at *
        obtain ⟨ng, xo, xn, xc, xd, xe⟩ := x
        obtain ⟨s1, s2, s3, s4⟩ := hsk
        simp only at c0 c1 c2 hRX hRow s1 s2 s3 s4 hput hskip hak
        by_cases h0 : xn = 0
        · subst h0
          have HZ : Hid (TotP r low high N (k + 1) c) := hskip rfl
          clear hput hskip hak hbnd hN hlh hRX HN
          go_wp2
          go_roundw
          case rel => exact ⟨k + 1, c, by omega, by go_num, hB.alloc _, HZ, hbw.trans ((bel_alloc _ _).mono hbw.size), by rw [size1]; omega⟩
          case measure => simp [intOf]; omega
        · have hlp : (0 : Int) < xn := by omega
          obtain ⟨a1, a2⟩ := hak (by omega)
          have hlb := len_blen s1 (by omega)
          obtain ⟨q, p, hqp, hp⟩ : ∃ q p : Nat, xe - low = 30 * q + p ∧ p < 30 := ⟨((xe - low) / 30).toNat, ((xe - low) % 30).toNat, by omega, by omega⟩
          have hqN : q + xn + 1 ≤ N := by omega
          have HP : Hid (∀ c', Piled N c (sgn ng xn) (P q * (2 ^ p * val xd xn)) c' → TotP r low high N (k + 1) c') := fun c' hP => hput q p c' (by omega) hqp hp hP
          obtain ⟨_, hsg⟩ := sgn_sg ng (show 0 < xn by omega) 0
          have HSG : Hid (sgn ng xn = 1 ∨ sgn ng xn = -1) := hsg
          have HQP : Hid (xe - low = 30 * q + p) := hqp
          have HBD : Hid (∀ i, i < N → -((k : Int) * 1073741823) ≤ c i ∧ c i ≤ k * 1073741823) := hbnd
          have hw1 : wrap64 (xe - low) = xe - low := IntWalk.wrap64_in _ ⟨by omega, by omega⟩
          have hw2 : IntKind.i64.wrap (xe - low) = xe - low := by rw [wrap_i64_eq]; omega
          have hlen : xn ≤ 100000 := by omega
          have q0 := heap_a1 wr (.cells #[.bool ng, .slice xo xn xc, .int .i64 xe] 37)
          have hsz := size1 wr (.cells #[.bool ng, .slice xo xn xc, .int .i64 xe] 37)
          have hbx : Below w1.heap.size w1 (wr.alloc (.cells #[.bool ng, .slice xo xn xc, .int .i64 xe] 37)) := hbw.trans ((bel_alloc _ _).mono hbw.size)
          have hBx := hB.alloc (.cells #[.bool ng, .slice xo xn xc, .int .i64 xe] 37)
          have hgx : wr.heap.size ≠ w1.heap.size := by omega
          clear hput hskip hak hbnd hN hlh hsg hqp HN a1 a2 hlb
          go_wp2_with fail
          generalize wr.alloc (.cells #[.bool ng, .slice xo xn xc, .int .i64 xe] 37) = wx at q0 hsz hbx hBx ⊢
          have k0 := blkC q0 0 rfl
          have k1 := blkC q0 1 rfl
          have k2 := blkC q0 2 rfl
          have hb1 := bel_refl wx
          have C1 : ∀ W, Below wx.heap.size wx W → Calls Tryz.prog 99 #[.agg #[.bool ng, .slice xo xn xc, .int .i64 xe]] W fun y w' => y = .returned (.int .i64 (sgn ng xn)) ∧ Below W.heap.size W w' := fun W _ => dsign_any ng xo xn xc xe W (by omega)
          have C2 : ∀ W, Below wx.heap.size wx W → Calls Tryz.prog 98 #[.slice (some ⟨w1.heap.size, 0, none⟩) N N, .slice xo xn xc, .int .i64 (xe - low), .int .i64 (sgn ng xn)] W fun y w' => y = .returned (.tuple #[]) ∧ ∃ c4, Blk w' w1.heap.size N c4 ∧ Wr w1.heap.size W w' ∧ Piled N c (sgn ng xn) (P q * (2 ^ p * val xd xn)) c4 := fun W h =>
            pile_qp w1.heap.size N c xo xn xc q p xd W (hBx.keeps h) (hRX.keeps (wr_of (hbx.trans (h.mono hbx.size)))) s1.1 hlen hqN (by omega) hp _ HQP.out _ HSG.out (k * 1073741823) HBD.out (by omega)
          go_region_held3 (fun W => W.cell? ⟨wr.heap.size, 0, none⟩ = some (.bool ng) ∧ W.cell? ⟨wr.heap.size, 1, none⟩ = some (.slice xo xn xc) ∧ W.cell? ⟨wr.heap.size, 2, none⟩ = some (.int .i64 xe))
            (first | exact ⟨k0, k1, k2⟩ | exact keepB (by assumption) (by assumption) | exact keepW (by assumption) (by assumption) hgx)
            (first | (go_at_call 99; refine (C1 _ hb1.drew).mono ?_; rintro y w3 ⟨rfl, hbv1⟩) | (go_at_call 98; have _t := hbv1; refine (C2 _ (bel_trans hb1.drew hbv1)).mono ?_; rintro y w4 ⟨rfl, c4, hB5, hW5, hP5⟩))
          go_wp2
          go_roundw
          case rel => exact ⟨k + 1, c4, by omega, by go_num, hB5, HP.out _ hP5, hW5.below (hbx.trans ((bel_trans hb1.drew hbv1).mono hbx.size)) (by have := hbx.size; have := hbv1.size; exact Nat.le_trans hbx.size hbv1.size) (Nat.le_refl _), by have := hW5.size; have : wx.heap.size ≤ w3.heap.size := hbv1.size; omega⟩
          case measure => simp [intOf]; omega
      · obtain rfl : k = n := by omega
        have hbig : -P N < val c N ∧ val c N < P N := by
          have h1 := HT.out.lo
          have h2 := HT.out.hi
          obtain ⟨e1, e2⟩ := HLH.out
          have h3 : ((k : Int)) * 2 ^ (high - low).toNat < 2 ^ 60 * 2 ^ (high - low).toNat := Int.mul_lt_mul_of_pos_right (by omega) (two_pos _)
          rw [← Int.pow_add] at h3
          have h4 : (2 : Int) ^ (60 + (high - low).toNat) ≤ P N := by rw [P_two]; exact two_le (by omega)
          omega
        go_wp2_with fail
        refine (carry_any w1.heap.size N c wr hB (by omega) (fun i hi => by have := HT.out.bnd i hi; omega) hbig).mono ?_
        rintro y w5 ⟨c5, rfl, hB5, hW5, hD5, hV5⟩
        have hbw5 : Below w1.heap.size w1 w5 := hW5.below hbw hbw.size (Nat.le_refl _)
        have hbw6 := bel_trans hbw1 hbw5
        have hsum : sumV r k = sg (decide (val c N < 0)) (val c5 N) * pw low := by rw [hV5]; exact HT.out.sum.symm
        have HSUM : Hid (sumV r k = sg (decide (val c N < 0)) (val c5 N) * pw low) := hsum
        clear hsum hbig hV5
        generalize hneg : decide (val c N < 0) = neg at *
        go_wp2_with fail
        refine (settle_any (hB5.row0 (Nat.le_refl _) (by omega)) hD5 (by omega) (hT.keeps hbw6) hlow HSUM.out).mono ?_
        rintro y w7 (⟨hok, v, rfl, hD⟩ | ⟨hno, rfl, hb7⟩)
        · have hb7 := hD.below
          have hf7 := hD.from hbw6
          obtain ⟨ng', s', m', e', rfl, hy, hA⟩ := id hD
          obtain ⟨so, sn, sc, rfl⟩ := hA.num.shape
          have g0 := (hb7.block w.heap.size (Nat.lt_of_lt_of_le (Nat.lt_of_lt_of_le (by rw [size1]; omega) hb1.size) hbw5.size)).trans ((hbw5.block w.heap.size (Nat.lt_of_lt_of_le (by rw [size1]; omega) hb1.size)).trans q0)
          have x0 := blkC g0 0 rfl
          have x1 := blkC g0 1 rfl
          have x2 := blkC g0 2 rfl
          have z0 := blkF g0 0
          have z1 := blkF g0 1
          have z2 := blkF g0 2
          go_wp2
          refine bodyPost_ret (v := .agg #[.bool ng', .slice so sn sc, .int .i64 e']) (by simp [results, Tryz.results66, go_sem, x0, x1, x2]) rfl ?_
          exact .inl ⟨hok, _, rfl, dans_res3 (g := w.heap.size) hD hbw6 (Nat.le_refl _) (Nat.lt_of_lt_of_le (Nat.lt_of_lt_of_le (by rw [size1]; omega) hb1.size) hbw5.size) _ _ _⟩
        · exact ⟨rfl, .inr ⟨hno, rfl, bel_trans hbw6 hb7⟩⟩
end Go.Proofs.YtcpjdgfnblkfpaaGreatDoor
