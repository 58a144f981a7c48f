/-
  The document's own Div (bit by bit) and Gcd, by contracts over the same values.
-/
import Derived.Test.YtmbajngbiefilaaNRef5
import Derived.Test.YtmbajngbiefilaaNG4
import Derived.Test.YtmbajngbiefilaaNBack
namespace Go.Proofs.Ytmbajngbiefilaa
open Go Go.RowKit Go.Proofs.Ytmbajngbiefilaa.M
set_option linter.unusedSimpArgs false
set_option linter.unusedVariables false

/-- A copy. -/
theorem cat0 (d e : Nat → Int) : ∀ i, cat d 0 e i = e i := fun i => by simp [cat]
theorem blen_two {A B : Int} (hA : 0 < A) (hB : 0 < B) (h : blen B ≤ blen A) : A / 2 ^ (blen A - blen B) < 2 * B := by
  have h1 := blen_lt A
  obtain ⟨h2, h3⟩ := blen_pos hB
  refine (Int.ediv_lt_iff_lt_mul (two_pos _)).2 (Int.lt_of_lt_of_le h1 ?_)
  obtain ⟨j, hj⟩ : ∃ j, blen B = j + 1 := ⟨blen B - 1, by omega⟩
  have e : blen A = (blen A - blen B) + (j + 1) := by omega
  rw [hj, Nat.add_sub_cancel] at h3
  calc (2 : Int) ^ blen A = 2 ^ (j + 1) * 2 ^ (blen A - blen B) := by rw [← Int.pow_add]; congr 1; omega
    _ ≤ 2 * B * 2 ^ (blen A - blen B) := Int.mul_le_mul_of_nonneg_right (by rw [Int.pow_succ]; omega) (Int.le_of_lt (two_pos _))
set_option maxRecDepth 100000 in
set_option maxHeartbeats 1000000 in
theorem rdiv_any (ao bo : Option Addr) (n m ca cb : Nat) (a b : Nat → Int) (w : World) (ha : Row w ao n ca a) (hb : Row w bo m cb b) (na : Nrm a n) (nb : Nrm b m) (hn : n ≤ 5000) (hm : m ≤ 5000) (hm0 : 0 < m) :
    Calls Try.prog 32 #[.slice ao n ca, .slice bo m cb] w fun e w' => ∃ v1 v2, e = .returned (.tuple #[v1, v2]) ∧ Ans2 w w' (val a n / val b m) v1 (val a n % val b m) v2 := by
  have hla := ha.le
  have hma := ha.max
  have hlb := hb.le
  have hmb := hb.max
  have HNA : Hid (Nrm a n) := na
  have HNB : Hid (Nrm b m) := nb
  have HA0 : Hid (0 ≤ val a n) := val_nonneg na.1
  have HBP : Hid (0 < val b m) := val_pos nb hm0
  have HRA : Hid (Row w ao n ca a) := ha
  have HRB : Hid (Row w bo m cb b) := hb
  have hA1 : blen (val a n) ≤ 30 * n := blen_le (by rw [← P_two]; exact val_lt na.1)
  have hB1 : blen (val b m) ≤ 30 * m := blen_le (by rw [← P_two]; exact val_lt nb.1)
  have hB2 : 1 ≤ blen (val b m) := (blen_pos HBP.out).1
  obtain ⟨LA, hLA⟩ : ∃ LA, LA = blen (val a n) := ⟨_, rfl⟩
  obtain ⟨LB, hLB⟩ : ∃ LB, LB = blen (val b m) := ⟨_, rfl⟩
  have HLA : Hid (LA = blen (val a n)) := hLA
  have HLB : Hid (LB = blen (val b m)) := hLB
  have HBA : ∀ W : World, Row W ao n ca a → Calls Try.prog 51 #[.slice ao n ca] W fun e w' => e = .returned (.int .i64 LA) ∧ w' = W := fun W hW => by rw [hLA]; exact rbits_any _ _ _ _ _ hW na (by omega)
  have HBB : ∀ W : World, Row W bo m cb b → Calls Try.prog 51 #[.slice bo m cb] W fun e w' => e = .returned (.int .i64 LB) ∧ w' = W := fun W hW => by rw [hLB]; exact rbits_any _ _ _ _ _ hW nb (by omega)
  rw [← hLA] at hA1
  rw [← hLB] at hB1 hB2
  clear hLA hLB na nb ha hb
  by_cases hlt : LA < LB
  · have HLT : Hid (val a n < val b m) := by
      show _ < _
      have h1 := blen_lt (val a n)
      have h2 := (blen_pos HBP.out).2
      rw [← HLA.out] at h1
      rw [← HLB.out] at h2
      exact Int.lt_of_lt_of_le (Int.lt_of_lt_of_le h1 (two_le (by omega))) h2
    go_enter Try.func32, Try.ntmps32
    go_wp2_with fail
    refine (HBA _ HRA.out).mono ?_
    rintro e w' ⟨rfl, hw⟩
    replace hw := hw.symm
    subst hw
    go_wp2_with fail
    refine (HBB _ HRB.out).mono ?_
    rintro e w' ⟨rfl, hw⟩
    replace hw := hw.symm
    subst hw
    go_wp2_with (at_builtin; refine wpList_app rfl _ _ rfl w.heap.size _ 0 a rfl (Out.nil _ _ _) _ n ca a rfl HRA.out (by omega) (Nat.le_refl _) ?_; intro v1 w1 hO1 hg1)
    go_ret2
    have hb1 : Below w.heap.size w w1 := grown_below hg1
    rw [Nat.zero_add] at hO1
    refine ⟨_, _, rfl, ?_, ?_, fun k hk => ?_⟩
    · rw [Int.ediv_eq_zero_of_lt HA0.out HLT.out]; exact Ans.nil hb1
    · rw [Int.emod_eq_of_lt HA0.out HLT.out]
      exact ⟨n, a, hO1.congr fun i hi => cat0 _ _ i, HNA.out, rfl, hb1⟩
    · simp [Value.ownBlock] at hk
  · obtain ⟨K, hK⟩ : ∃ K, LA = LB + K := ⟨LA - LB, by omega⟩
    have eK : (LA : Int) - LB = K := by omega
    have hK1 : LA ≤ LB + K := by omega
    have hK3 : LB + K ≤ LA := by omega
    clear hK
    have HK2 : Hid (val a n / 2 ^ K < 2 * val b m) := by
      show _ < _
      have hp : 0 < val a n := by
        rcases Int.lt_or_eq_of_le HA0.out with h | h
        · exact h
        · have e1 := HLA.out
          rw [← h, blen_zero] at e1
          omega
      have h1 := blen_two hp HBP.out (by rw [← HLA.out, ← HLB.out]; omega)
      rw [← HLA.out, ← HLB.out, show LA - LB = K by omega] at h1
      exact h1
    have hKn : K < 30 * n := by omega
    have hK2 : K ≤ 200000 := by omega
    clear hlt
    go_enter Try.func32, Try.ntmps32
    go_wp2_with fail
    refine (HBA _ HRA.out).mono ?_
    rintro e w' ⟨rfl, hw⟩
    replace hw := hw.symm
    subst hw
    go_wp2_with fail
    refine (HBB _ HRB.out).mono ?_
    rintro e w' ⟨rfl, hw⟩
    replace hw := hw.symm
    subst hw
    go_wp2_with (at_make; refine wpList_mk rfl _ _ rfl _ _ n rfl rfl (by omega) (by omega) (by omega) ?_; intro w1 hB1 hb1)
    have HB1 : Hid (Below w.heap.size w w1) := hb1
    have HBk : Hid (Blk w1 w.heap.size n (fun _ => 0)) := hB1
    clear hb1 hB1
    refine (rshr_any _ _ _ K _ _ (HRA.out.keeps HB1.out) HNA.out.1 (by omega) (by omega)).mono ?_
    rintro e w2 ⟨v0, rfl, hA0⟩
    have HS0 : Hid (∃ t d, DivS w w2 n (val a n) (val b m) K v0 (fun _ => 0) t d 0 (val a n / 2 ^ K) 2) := by
      obtain ⟨t, d, hO, hN, hv, hb⟩ := hA0
      have hsz := HBk.out.lt
      exact ⟨t, d, HBk.out.keeps hb, zero_dig _, hO.lower (by omega), hN, hv, by omega, HK2.out, by rw [val_zeros (Nat.zero_le n) (fun _ _ _ => rfl)]; simp [val], HB1.out.trans (hb.mono HB1.out.size)⟩
    obtain ⟨o0, n0, c0, rfl⟩ := hA0.num.shape
    clear hA0
    go_wp2
    go_loopw [8, 9] (fun r i wr => ∃ (I : Nat) (qd : Nat → Int) (t : Nat) (d : Nat → Int) (Q R : Int), i = .int .i64 I ∧ I ≤ K ∧ Hid (DivS w wr n (val a n) (val b m) I r qd t d Q R 2)) (fun _ i _ => (intOf i).toNat)
    case atStart =>
      obtain ⟨t, d, h⟩ := HS0.out
      exact ⟨K, _, t, d, _, _, rfl, Nat.le_refl _, h⟩
    case round =>
      obtain ⟨I, qd, t, d, Q, R, rfl, hIK, HS⟩ := hrel
      clear HS0
      obtain ⟨q, p, hI, hp⟩ : ∃ q p : Nat, I = 30 * q + p ∧ p < 30 := ⟨I / 30, I % 30, by omega, by omega⟩
      have hqn : q < n := by omega
      have e1 : (I : Int) / 30 = q := by omega
      have e2 : (I : Int) % 30 = p := by omega
      have HI : Hid (I = 30 * q + p) := hI
      clear hI
      obtain ⟨ro, rc, rfl, hRr⟩ := HS.out.out.row
      have HBw : Hid (Below w.heap.size w wr) := HS.out.below
      have HT : Hid (t ≤ 5001) := by
        have h1 := hRr.num0 HS.out.nrm
        have h2 := HS.out.vr
        have h3 := HS.out.lt
        have h4 := val_lt HNB.out.1
        have h5 : (2 : Int) * P m ≤ P (m + 1) := by rw [P_succ]; have := P_pos m; omega
        refine Nat.le_trans (h1.len (k := m + 1) (by rw [h2]; omega)) (by omega)
      have htt := HT.out
      have hrl := hRr.le
      have hrm := hRr.max
      by_cases hR : val b m ≤ R
      · have ho : decide (0 ≤ ord (val d t) (val b m)) = true := decide_eq_true (by rw [HS.out.vr]; have := ord_ge hR; omega)
        have HR : Hid (val b m ≤ val d t) := by show _ ≤ _; rw [HS.out.vr]; exact hR
        clear hR
        go_wp2_with fail
        refine (rcmp_any _ _ _ _ _ _ _ _ _ hRr (HRB.out.keeps HBw.out) HS.out.nrm HNB.out).mono ?_
        rintro e w3 ⟨rfl, hb3⟩
        have HS3 : Hid (DivS w w3 n (val a n) (val b m) I (.slice ro t rc) qd t d Q R 2) := HS.out.keeps hb3
        replace hRr := hRr.keeps hb3
        replace HBw : Hid (Below w.heap.size w w3) := HS3.out.below
        clear HS hb3
        go_wp2_with fail
        refine (rsub_any _ _ _ _ _ _ _ _ _ hRr (HRB.out.keeps HBw.out) HS3.out.nrm HNB.out (by omega) HR.out).mono ?_
        rintro e w4 ⟨v4, rfl, hA4⟩
        have hb4 := hA4.below
        have HA4 : Hid (Ans w3 w4 (R - val b m) v4) := by rw [HS3.out.vr] at hA4; exact hA4
        have HBk4 : Hid (Blk w4 w.heap.size n qd) := HS3.out.blk.keeps hb4
        have cq := HBk4.out.cell hqn
        have fq := HBk4.out.frozen q
        obtain ⟨rm0, rm1⟩ := HS3.out.room HI.out hp hqn
        obtain ⟨t4, d4, hS4⟩ := HS3.out.sub HI.out hp hqn HA4.out
        have HS4 : Hid (DivS w (w4.setCell ⟨w.heap.size, q, none⟩ (.int .i64 (qd q + 2 ^ p))) n (val a n) (val b m) I v4 (upd qd q (qd q + 2 ^ p)) t4 d4 (2 * Q + 1) (R - val b m) 1) := hS4
        obtain ⟨so, sc, rfl, hR4⟩ := hS4.out.row
        have h2p := two_pos p
        have h2q : (2 : Int) ^ p ≤ 2 ^ 29 := two_le (by omega)
        clear hS4 hA4 hb4 hRr
        have HS5 : Hid (DivS w ((w4.setCell ⟨w.heap.size, q, none⟩ (.int .i64 (qd q + 2 ^ p))).drew) n (val a n) (val b m) I (.slice so t4 sc) (upd qd q (qd q + 2 ^ p)) t4 d4 (2 * Q + 1) (R - val b m) 1) := HS4.out.keeps (bel_refl _).drew
        clear HS4 HS3 HA4 hR4 HR
        go_wp2
        go_region
        clear HBk4 cq fq
        generalize (w4.setCell ⟨w.heap.size, q, none⟩ (.int .i64 (qd q + 2 ^ p))).drew = w5 at HS5 ⊢
        obtain ⟨t5, ht45⟩ : ∃ t5, t5 = t4 := ⟨_, rfl⟩
        subst ht45
        have HR0 := rm0
        clear HR0
        have HBk5 : Hid (Blk w5 w.heap.size n (upd qd q (qd q + 2 ^ p))) := HS5.out.blk
        obtain ⟨_, _, e5, hR5⟩ := HS5.out.out.row
        simp only [Value.slice.injEq] at e5
        obtain ⟨rfl, _, rfl⟩ := e5
        have hl5 := hR5.le
        have hm5 := hR5.max
        have HT5 : Hid (t5 ≤ 5001) := by
          have h1 := hR5.num0 HS5.out.nrm
          have h2 := HS5.out.vr
          have h3 := HS5.out.lt
          have h4 := val_lt HNB.out.1
          have h5 : (2 : Int) * P m ≤ P (m + 1) := by rw [P_succ]; have := P_pos m; omega
          have h6 := HBP.out
          refine Nat.le_trans (h1.len (k := m + 1) (by rw [h2]; omega)) (by omega)
        have ht5 := HT5.out
        by_cases hI0 : I = 0
        · subst hI0
          go_wp2_with fail
          refine (rtrim_any _ _ _ _ _ (HBk5.out.row0 (Nat.le_refl _) (by omega))).mono ?_
          rintro e w6 ⟨t1, ht1, htop, hz, rfl, hw⟩
          replace hw := hw.symm
          subst hw
          go_wp2
          go_ret2
          exact ⟨_, _, rfl, HS5.out.ans HBP.out (HBk5.out.out (Nat.le_refl _) ht1 (by omega)) (nrm_of_top HS5.out.dig ht1 htop hz) (fun k hk => by simpa [Value.ownBlock] using hk.symm)⟩
        · obtain ⟨J, rfl⟩ : ∃ J, I = J + 1 := ⟨I - 1, by omega⟩
          have eJ : ((J + 1 : Nat) : Int) - 1 = J := by omega
          have eJ0 : (((J + 1 : Nat) : Int) == 0) = false := by simp; omega
          go_wp2_with fail
          refine (rshl_qp _ _ _ 0 1 _ _ hR5 HS5.out.nrm.1 (by omega) (by omega) (by omega) 1 (by omega)).mono ?_
          rintro e w6 ⟨v6, rfl, hA6⟩
          have HA6 : Hid (Ans w5 w6 (2 * (R - val b m)) v6) := by
            rw [HS5.out.vr] at hA6
            rw [show P 0 * (2 ^ 1 * (R - val b m)) = 2 * (R - val b m) by show 1 * (2 * (R - val b m)) = _; omega] at hA6
            exact hA6
          have HB6 : Hid (Below w5.heap.size w5 w6) := hA6.below
          clear hA6
          have HBw6 : Hid (Below w.heap.size w w6) := HS5.out.below.trans (HB6.out.mono HS5.out.below.size)
          obtain ⟨o6, n6, c6, rfl⟩ := HA6.out.num.shape
          have HV6 : Hid (n6 ≤ 5002) := by
            have h3 := HS5.out.lt
            have h4 := val_lt HNB.out.1
            have h5 : (2 : Int) * P m ≤ P (m + 1) := by rw [P_succ]; have := P_pos m; omega
            have h6 := HBP.out
            refine Nat.le_trans (HA6.out.num.len (k := m + 1) (by omega)) (by omega)
          go_wp2_with fail
          refine (rbit_any _ _ _ _ _ (HRA.out.keeps HBw6.out) HNA.out (by omega) J (by omega)).mono ?_
          rintro e w7 ⟨rfl, hw⟩
          replace hw := hw.symm
          subst hw
          cases hbit : bitB (val a n) J with
          | true =>
            obtain ⟨t6, d6, hO6, hN6, hv6, hb6⟩ := HA6.out
            obtain ⟨_, _, e6, hR6⟩ := hO6.row
            simp only [Value.slice.injEq] at e6
            obtain ⟨rfl, rfl, rfl⟩ := e6
            have HN6 : Hid (Nrm d6 n6 ∧ val d6 n6 = 2 * (R - val b m)) := ⟨hN6, hv6⟩
            have hl6 := hR6.le
            have hm6 := hR6.max
            have hv66 := HV6.out
            have HR6 : Hid (Row w6 o6 n6 c6 d6) := hR6
            clear hO6 hN6 hv6 hb6 hR6
            go_wp2_with fail
            refine (radd_any _ _ _ _ _ _ _ _ _ (HR6.out.alloc _) (row1 _ 1 rfl) HN6.out.1 ⟨fun i _ => by show (0 : Int) ≤ 1 ∧ (1 : Int) < 1073741824; omega, .inr (by show (1 : Int) ≠ 0; omega)⟩ (by omega) (by omega)).mono ?_
            rintro e w8 ⟨v8, rfl, hA8⟩
            have hA9 := hA8
            rw [HN6.out.2] at hA9
            have hn8 := HS5.out.next (bel_trans HB6.out (bel_alloc _ _)) hA9 (by rw [hbit]; rfl)
            have HN8 : Hid _ := hn8
            obtain ⟨o8, n8, c8, rfl⟩ := hA8.num.shape
            clear hA8 hn8 hA9
            go_wp2
            go_roundw
            case rel =>
              obtain ⟨t8, d8, h8⟩ := HN8.out
              exact ⟨J, (upd qd q (qd q + 2 ^ p)), t8, d8, _, _, by go_num, by omega, h8⟩
            case measure => simp [intOf]; try omega
          | false =>
            have hn8 := HS5.out.next (bel_refl _) HA6.out (show 2 * (R - val b m) = 2 * (R - val b m) + (if bitB (val a n) J then 1 else 0) by rw [hbit]; simp)
            have HN8 : Hid _ := hn8
            clear hn8
            go_wp2
            go_roundw
            case rel =>
              obtain ⟨t8, d8, h8⟩ := HN8.out
              exact ⟨J, (upd qd q (qd q + 2 ^ p)), t8, d8, _, _, by go_num, by omega, h8⟩
            case measure => simp [intOf]; try omega
      · have ho : decide (0 ≤ ord (val d t) (val b m)) = false := decide_eq_false (by rw [HS.out.vr, ord_lt (by omega)]; decide)
        have HR0 := hR
        have HLT : Hid (R < val b m) := by show _ < _; omega
        clear hR
        go_wp2_with fail
        refine (rcmp_any _ _ _ _ _ _ _ _ _ hRr (HRB.out.keeps HBw.out) HS.out.nrm HNB.out).mono ?_
        rintro e w5 ⟨rfl, hb3⟩
        have HS5 : Hid (DivS w w5 n (val a n) (val b m) I (.slice ro t rc) qd t d (2 * Q) R 1) := (HS.out.keeps hb3).skip HLT.out
        clear HS hb3 HBw hRr HT hrl hrm htt
        obtain ⟨t5, ht45⟩ : ∃ t5, t5 = t := ⟨_, rfl⟩
        subst ht45
        clear HR0
        have HBk5 : Hid (Blk w5 w.heap.size n qd) := HS5.out.blk
        obtain ⟨_, _, e5, hR5⟩ := HS5.out.out.row
        simp only [Value.slice.injEq] at e5
        obtain ⟨rfl, _, rfl⟩ := e5
        have hl5 := hR5.le
        have hm5 := hR5.max
        have HT5 : Hid (t5 ≤ 5001) := by
          have h1 := hR5.num0 HS5.out.nrm
          have h2 := HS5.out.vr
          have h3 := HS5.out.lt
          have h4 := val_lt HNB.out.1
          have h5 : (2 : Int) * P m ≤ P (m + 1) := by rw [P_succ]; have := P_pos m; omega
          have h6 := HBP.out
          refine Nat.le_trans (h1.len (k := m + 1) (by rw [h2]; omega)) (by omega)
        have ht5 := HT5.out
        by_cases hI0 : I = 0
        · subst hI0
          go_wp2_with fail
          refine (rtrim_any _ _ _ _ _ (HBk5.out.row0 (Nat.le_refl _) (by omega))).mono ?_
          rintro e w6 ⟨t1, ht1, htop, hz, rfl, hw⟩
          replace hw := hw.symm
          subst hw
          go_wp2
          go_ret2
          exact ⟨_, _, rfl, HS5.out.ans HBP.out (HBk5.out.out (Nat.le_refl _) ht1 (by omega)) (nrm_of_top HS5.out.dig ht1 htop hz) (fun k hk => by simpa [Value.ownBlock] using hk.symm)⟩
        · obtain ⟨J, rfl⟩ : ∃ J, I = J + 1 := ⟨I - 1, by omega⟩
          have eJ : ((J + 1 : Nat) : Int) - 1 = J := by omega
          have eJ0 : (((J + 1 : Nat) : Int) == 0) = false := by simp; omega
          go_wp2_with fail
          refine (rshl_qp _ _ _ 0 1 _ _ hR5 HS5.out.nrm.1 (by omega) (by omega) (by omega) 1 (by omega)).mono ?_
          rintro e w6 ⟨v6, rfl, hA6⟩
          have HA6 : Hid (Ans w5 w6 (2 * (R)) v6) := by
            rw [HS5.out.vr] at hA6
            rw [show P 0 * (2 ^ 1 * (R)) = 2 * (R) by show 1 * (2 * (R)) = _; omega] at hA6
            exact hA6
          have HB6 : Hid (Below w5.heap.size w5 w6) := hA6.below
          clear hA6
          have HBw6 : Hid (Below w.heap.size w w6) := HS5.out.below.trans (HB6.out.mono HS5.out.below.size)
          obtain ⟨o6, n6, c6, rfl⟩ := HA6.out.num.shape
          have HV6 : Hid (n6 ≤ 5002) := by
            have h3 := HS5.out.lt
            have h4 := val_lt HNB.out.1
            have h5 : (2 : Int) * P m ≤ P (m + 1) := by rw [P_succ]; have := P_pos m; omega
            have h6 := HBP.out
            refine Nat.le_trans (HA6.out.num.len (k := m + 1) (by omega)) (by omega)
          go_wp2_with fail
          refine (rbit_any _ _ _ _ _ (HRA.out.keeps HBw6.out) HNA.out (by omega) J (by omega)).mono ?_
          rintro e w7 ⟨rfl, hw⟩
          replace hw := hw.symm
          subst hw
          cases hbit : bitB (val a n) J with
          | true =>
            obtain ⟨t6, d6, hO6, hN6, hv6, hb6⟩ := HA6.out
            obtain ⟨_, _, e6, hR6⟩ := hO6.row
            simp only [Value.slice.injEq] at e6
            obtain ⟨rfl, rfl, rfl⟩ := e6
            have HN6 : Hid (Nrm d6 n6 ∧ val d6 n6 = 2 * (R)) := ⟨hN6, hv6⟩
            have hl6 := hR6.le
            have hm6 := hR6.max
            have hv66 := HV6.out
            have HR6 : Hid (Row w6 o6 n6 c6 d6) := hR6
            clear hO6 hN6 hv6 hb6 hR6
            go_wp2_with fail
            refine (radd_any _ _ _ _ _ _ _ _ _ (HR6.out.alloc _) (row1 _ 1 rfl) HN6.out.1 ⟨fun i _ => by show (0 : Int) ≤ 1 ∧ (1 : Int) < 1073741824; omega, .inr (by show (1 : Int) ≠ 0; omega)⟩ (by omega) (by omega)).mono ?_
            rintro e w8 ⟨v8, rfl, hA8⟩
            have hA9 := hA8
            rw [HN6.out.2] at hA9
            have hn8 := HS5.out.next (bel_trans HB6.out (bel_alloc _ _)) hA9 (by rw [hbit]; rfl)
            have HN8 : Hid _ := hn8
            obtain ⟨o8, n8, c8, rfl⟩ := hA8.num.shape
            clear hA8 hn8 hA9
            go_wp2
            go_roundw
            case rel =>
              obtain ⟨t8, d8, h8⟩ := HN8.out
              exact ⟨J, qd, t8, d8, _, _, by go_num, by omega, h8⟩
            case measure => simp [intOf]; try omega
          | false =>
            have hn8 := HS5.out.next (bel_refl _) HA6.out (show 2 * (R) = 2 * (R) + (if bitB (val a n) J then 1 else 0) by rw [hbit]; simp)
            have HN8 : Hid _ := hn8
            clear hn8
            go_wp2
            go_roundw
            case rel =>
              obtain ⟨t8, d8, h8⟩ := HN8.out
              exact ⟨J, qd, t8, d8, _, _, by go_num, by omega, h8⟩
            case measure => simp [intOf]; try omega
/-- What is left of the document's Gcd. -/
def GcdS (w0 : World) (G : Nat) (va vb : Value) (A B : Int) (wr : World) : Prop := Num wr va A ∧ Num wr vb B ∧ A < P 2000 ∧ B < P 2000 ∧ 0 ≤ B ∧ Int.gcd A B = G ∧ Below w0.heap.size w0 wr
theorem GcdS.step {w0 wr w' : World} {G : Nat} {va vb v1 v2 : Value} {A B : Int} (h : GcdS w0 G va vb A B wr) (hB : 0 < B) (hd : Ans2 wr w' (A / B) v1 (A % B) v2) : GcdS w0 G vb v2 B (A % B) w' ∧ A % B < B ∧ 0 ≤ A % B := by
  obtain ⟨h1, h2, h3, h4, h0, h5, h6⟩ := h
  have hb := hd.1.below
  have m1 := Int.emod_lt_of_pos A hB
  have m0 := Int.emod_nonneg A (show B ≠ 0 by omega)
  exact ⟨⟨h2.keeps hb, hd.2.1.num, h4, Int.lt_trans m1 h4, m0, by rw [gcd_mod]; exact h5, bel_trans h6 hb⟩, m1, m0⟩
set_option maxRecDepth 100000 in
set_option maxHeartbeats 1000000 in
theorem rgcd_any {w : World} {x y : Value} {A B : Int} (hx : Num w x A) (hy : Num w y B) (hA : A < P 2000) (hB : B < P 2000) :
    Calls Try.prog 33 #[x, y] w fun e w' => ∃ v, e = .returned v ∧ Ans w w' (Int.gcd A B : Int) v := by
  have HG : Hid (GcdS w (Int.gcd A B) x y A B w) := ⟨hx, hy, hA, hB, hy.nonneg, rfl, bel_refl _⟩
  obtain ⟨ao, n, ca, rfl⟩ := hx.shape
  obtain ⟨bo, m, cb, rfl⟩ := hy.shape
  clear hx hy hA hB
  generalize Int.gcd A B = G at HG ⊢
  go_enter Try.func33, Try.ntmps33
  go_wp2
  go_loopg [0, 1] (B.toNat) (fun g s0 s1 wr => ∃ X Y : Int, Hid (GcdS w G s0 s1 X Y wr) ∧ Hid (g = Y.toNat))
  case atStart => exact ⟨A, B, HG.out, rfl⟩
  case round =>
    clear HG
    obtain ⟨X, Y, HR, HGK⟩ := hrel
    obtain ⟨xo, xn, xc, xd, rfl, hRx, nx, ex⟩ := HR.out.1
    obtain ⟨yo, yn, yc, yd, rfl, hRy, ny, ey⟩ := HR.out.2.1
    have hxl : xn ≤ 2000 := HR.out.1.len HR.out.2.2.1
    have hyl : yn ≤ 2000 := HR.out.2.1.len HR.out.2.2.2.1
    have hl1 := hRx.le
    have hl2 := hRy.le
    have hm1 := hRx.max
    have hm2 := hRy.max
    have HX : Hid (Row wr xo xn xc xd ∧ Nrm xd xn ∧ val xd xn = X) := ⟨hRx, nx, ex⟩
    have HY : Hid (Row wr yo yn yc yd ∧ Nrm yd yn ∧ val yd yn = Y) := ⟨hRy, ny, ey⟩
    clear hRx nx ex hRy ny ey
    by_cases h0 : 0 < yn
    · have HYP : Hid (0 < Y) := by show _ < _; rw [← HY.out.2.2]; exact val_pos HY.out.2.1 h0
      go_wp2_with fail
      refine (rdiv_any _ _ _ _ _ _ _ _ _ HX.out.1 HY.out.1 HX.out.2.1 HY.out.2.1 (by omega) (by omega) h0).mono ?_
      rintro e w2 ⟨v1, v2, rfl, hd⟩
      have hd2 := hd
      rw [HX.out.2.2, HY.out.2.2] at hd2
      obtain ⟨h1, h2, h3⟩ := HR.out.step HYP.out hd2
      have HN : Hid (GcdS w G (.slice yo yn yc) v2 Y (X % Y) w2) := h1
      have HM : Hid ((X % Y).toNat < Y.toNat) := by show _ < _; omega
      obtain ⟨o1, n1, c1, rfl⟩ := hd.1.num.shape
      obtain ⟨o2, n2, c2, rfl⟩ := hd.2.1.num.shape
      clear h1 h2 h3 hd hd2
      go_wp2
      go_roundg ((X % Y).toNat)
      case measure => rw [HGK.out]; exact HM.out
      case rel => exact ⟨_, _, HN.out, rfl⟩
    · obtain rfl : yn = 0 := by omega
      have HB : Hid (Below w.heap.size w wr) := HR.out.2.2.2.2.2.2
      have HE : Hid (val xd xn = (G : Int)) := by
        show _ = _
        rw [HX.out.2.2]
        have e := HR.out.2.2.2.2.2.1
        have ey := HY.out.2.2
        have h0 := HR.out.1.nonneg
        rw [← ey, show val yd 0 = 0 from rfl, Int.gcd_zero_right] at e
        omega
      go_wp2_with (at_builtin; refine wpList_app rfl _ _ rfl w.heap.size _ 0 xd rfl (Out.nil _ _ _) _ xn xc xd rfl HX.out.1 (by omega) HB.out.size ?_; intro v1 w1 hO1 hg1)
      go_ret
      have hb1 : Below w.heap.size w w1 := HB.out.trans ((grown_below hg1).mono HB.out.size)
      rw [Nat.zero_add] at hO1
      exact ⟨_, rfl, xn, xd, hO1.congr fun i hi => cat0 _ _ i, HX.out.2.1, HE.out, hb1⟩
end Go.Proofs.Ytmbajngbiefilaa
