/-
  Plain mathematics: Scale and Product of expansions from the middle of all floats: no step fails, all is exact.
-/
import Derived.Test.YtcpjdgfnblkfpaaGreatDoorXSt
namespace Go.Proofs.YtcpjdgfnblkfpaaGreatDoor
open Go Go.RowKit Go.Proofs.YtcpjdgfnblkfpaaGreatDoor.M
set_option linter.unusedSimpArgs false
set_option linter.unusedVariables false

/-- What Scale wants: multiples of 2^822 that are not greater than 2^1250. -/
def Mid (x : Int) : Prop := rng x ∧ pok x = true ∧ rg x ≠ 0 ∧ (2 ^ 822 : Int) ∣ iV x ∧ ((iV x).natAbs : Int) ≤ 2 ^ 1250
theorem max_ge {g : Nat} {x : Int} (h : (x.natAbs : Int) ≤ 2 ^ g) (hg : g ≤ 2097) : (x.natAbs : Int) ≤ maxV := Int.le_trans h (Int.le_trans (p2le hg) maxV_ge)
theorem k_four (X a c : Int) : X * a * (X * c) = X * X * (a * c) := by grind
theorem mid_T {x b : Int} (hx : Mid x) (hb : Mid b) : ∃ T, 2 ^ 1074 * T = iV x * iV b := by
  obtain ⟨a, ha⟩ := hx.2.2.2.1
  obtain ⟨c, hc⟩ := hb.2.2.2.1
  have h1 : (2 ^ 1074 : Int) ∣ 2 ^ 822 * 2 ^ 822 := by rw [← Int.pow_add]; exact p2dvd (by decide)
  obtain ⟨k, hk⟩ := h1
  refine ⟨k * (a * c), ?_⟩
  rw [ha, hc, k_four, hk, Int.mul_assoc]
theorem mid_B {b : Int} (hb : Mid b) : ∃ B : Nat, (2 ^ B : Int) ∣ iV b ∧ ((iV b).natAbs : Int) < 9007199254740992 * 2 ^ B ∧ B ≤ 1250 := by
  obtain ⟨B, h1, h2⟩ := fl_iV b
  refine ⟨B, h1, h2, ?_⟩
  have h3 := dvd_abs_le h1 (iV_some hb.1 hb.2.1 hb.2.2.1).1 (p2 B)
  have h4 : (2 : Int) ^ B < 2 ^ (1250 + 1) := by
    rw [p2s]
    have := hb.2.2.2.2
    have := p2 1250
    omega
  have := p2lt h4
  omega
theorem mid_lt {x : Int} (hx : Mid x) : ((iV x).natAbs : Int) < 2 ^ 1251 := by
  have h := hx.2.2.2.2
  have p : (2 : Int) ^ 1251 = 2 * 2 ^ 1250 := p2s 1250
  have := p2 1250
  omega
theorem big_le {Y : Int} {g : Nat} (h : Y < 9007199254740992 * 2 ^ g) (hg : g ≤ 1427) : Y ≤ 2 ^ 1480 := by
  have h1 : (9007199254740992 : Int) * 2 ^ g ≤ 2 ^ 1480 := by
    have : (9007199254740992 : Int) = 2 ^ 53 := by decide
    rw [this, ← Int.pow_add]
    exact p2le (by omega)
  omega
theorem k_84 {X : Int} (h : X ≤ 2 ^ 1480) : 16 * X ≤ maxV := by
  have h1 := maxV_ge
  have h2 : (2 : Int) ^ 1484 ≤ 2 ^ 2097 := p2le (by decide)
  have h3 : (2 : Int) ^ 1484 = 16 * 2 ^ 1480 := by
    rw [show 1484 = 1480 + 1 + 1 + 1 + 1 by decide, p2s, p2s, p2s, p2s]; omega
  omega
theorem sp_mid {x : Int} (hx : Mid x) : pok (spL x) = true := by
  refine sp_fin (B := 2 ^ 1250) hx.1 hx.2.1 hx.2.2.2.2 ?_
  have h1 := maxV_ge
  have h2 : (2 : Int) ^ 1278 ≤ 2 ^ 2097 := p2le (by decide)
  have h3 : (2 : Int) ^ 1278 = 268435456 * 2 ^ 1250 := by
    have : (268435456 : Int) = 2 ^ 28 := by decide
    rw [this, ← Int.pow_add]
  have := p2 1250
  omega
theorem T_mid {x b T : Int} (hx : Mid x) (hb : Mid b) (hT : 2 ^ 1074 * T = iV x * iV b) : (T.natAbs : Int) ≤ 2 ^ 1480 := by
  obtain ⟨B, b1, b2, b3⟩ := mid_B hb
  have h1 := prod_lt (mid_lt hx) b1 b2 hT
  exact big_le (g := 1251 + B - 1074) (by have := p2 (1251 + B - 1074); omega) (by omega)
theorem pX_mid {x b : Int} (hx : Mid x) (hb : Mid b) : pX x b = true := by
  obtain ⟨T, hT⟩ := mid_T hx hb
  have h2 := T_mid hx hb hT
  have h3 := k_84 h2
  have hf := (stp_prod hx.1 hb.1 hx.2.1 hb.2.1 hT).fin (by omega)
  unfold pX
  rw [prod_fin hx.1 hb.1 (sp_mid hx) (sp_mid hb) hf hT (by omega), (reach_iff hx.1 hb.1 hx.2.1 hb.2.1).2 ⟨_, hT⟩]
  rfl
theorem sx_mid {d : Nat → Int} {b : Int} {N : Nat} (hd : XV d (N + 1)) (hm : ∀ j, j ≤ N → Mid (d j)) (hb : Mid b) : ∃ (T : Nat → Int) (B : Nat), PTs d T b (N + 1) ∧ (2 ^ B : Int) ∣ iV b ∧ ((iV b).natAbs : Int) < 9007199254740992 * 2 ^ B ∧ B ≤ 1250 ∧ ∀ k, k ≤ N → sx d b k = true ∧ ((iV (sq d b k)).natAbs : Int) ≤ 2 ^ 1480 := by
  obtain ⟨B, b1, b2, b3⟩ := mid_B hb
  have hex : ∀ j, ∃ t : Int, j < N + 1 → 2 ^ 1074 * t = iV (d j) * iV b := fun j => by
    by_cases h : j < N + 1
    · obtain ⟨t, ht⟩ := mid_T (hm j (by omega)) hb
      exact ⟨t, fun _ => ht⟩
    · exact ⟨0, fun h' => absurd h' h⟩
  obtain ⟨T, hT0⟩ := Classical.axiomOfChoice hex
  have hT : PTs d T b (N + 1) := hT0
  clear hT0 hex
  refine ⟨T, B, hT, b1, b2, b3, fun k => ?_⟩
  have hfin : ∀ i, i ≤ N → rng (d i) ∧ pok (d i) = true := fun i hi => ⟨(hd.fin i (by omega)).1, (hd.fin i (by omega)).2.1⟩
  have bq : ∀ k, k ≤ N → sx d b k = true → ((iV (sq d b k)).natAbs : Int) ≤ 2 ^ 1480 := fun k hk hx => by
    have h := si_all hd hb.1 b1 b2 hT k hk hx
    have h1 := lsm_all h.xv (h.small 1251 (mid_lt (hm k hk)))
    have hxk : XV d (k + 1) := ⟨fun i hi => hd.fin i (by omega), fun i hi => hd.lo i (by omega)⟩
    have h2 := prod_lt (lsm_lt hxk 1251 (mid_lt (hm k hk))) b1 b2 (tsm_prod hT (k + 1) (by omega))
    have h3 := h.sum
    exact big_le (g := 1251 + B - 1074) (by generalize (2 : Int) ^ (1251 + B - 1074) = Y at *; omega) (by omega)
  induction k with
  | zero =>
    intro hk
    have h0 : sx d b 0 = true := pX_mid (hm 0 (by omega)) hb
    exact ⟨h0, bq 0 hk h0⟩
  | succ k ih =>
    intro hk
    obtain ⟨hx, hqb⟩ := ih (by omega)
    have h := si_all hd hb.1 b1 b2 hT k (by omega) hx
    obtain ⟨rq, pq⟩ := sq_fin hfin hb.1 k (by omega) hx
    have x1 := pX_mid (hm (k + 1) hk) hb
    have xT := T_mid (hm (k + 1) hk) hb (hT (k + 1) (by omega))
    obtain ⟨rx, px⟩ := hfin (k + 1) hk
    obtain ⟨pT, pu, eT, nT⟩ := prod_facts rx hb.1 x1 (hT (k + 1) (by omega))
    have ru := prL_rng rx hb.1
    have rT := fprod_rng rx hb.1
    have z := nT.2 0 fl_zero
    have k1 := k_84 hqb
    have k2 := k_84 xT
    obtain ⟨p1, pl1⟩ := sum_fin rq ru pq pu (by omega) (by omega)
    have r1 := fsum_rng rq ru
    have hab := fast_ok hd hb.1 (iV_some hb.1 hb.2.1 hb.2.2.1).1 hT (by omega) rq pq h x1 pl1
    have p2' := (stp_sum rT r1 pT p1).fin (by omega)
    obtain ⟨pl2, e2⟩ := fL_fin rT r1 pT p1 p2' (by omega)
    have x3 : fX (fprod (d (k + 1)) b) (fsum (sq d b k) (prL (d (k + 1)) b)) = true := by
      rw [fX_iff rT r1 pl2]
      exact decide_eq_true e2
    have hx' : sx d b (k + 1) = true := by rw [sx_succ, hx, x1, pl1, x3]; rfl
    exact ⟨hx', bq (k + 1) hk hx'⟩
/-- Scale of an expansion from the middle. -/
theorem sclN_mid {d : Nat → Int} {b : Int} {n : Nat} (hd : XV d n) (hm : ∀ j, j < n → Mid (d j)) (hb : Mid b) : sxN d b n = true ∧ XV (sclN d b n).d (sclN d b n).n ∧ LB (sclN d b n) 1480 ∧ 2 ^ 1074 * lsm (sclN d b n).d (sclN d b n).n = lsm d n * iV b := by
  cases n with
  | zero => exact ⟨rfl, ⟨fun i hi => absurd hi (Nat.not_lt_zero _), fun i hi => absurd hi (Nat.not_lt_zero _)⟩, fun i hi => absurd hi (Nat.not_lt_zero _), by show 2 ^ 1074 * (0 : Int) = 0 * iV b; rw [Int.mul_zero, Int.zero_mul]⟩
  | succ N =>
    have e1 : sxN d b (N + 1) = sx d b N := if_neg hb.2.2.1
    have e2 : sclN d b (N + 1) = scl ⟨0, fun _ => 0⟩ d b N := if_neg hb.2.2.1
    rw [e1, e2]
    obtain ⟨T, B, hT, b1, b2, b3, hall⟩ := sx_mid hd (fun j hj => hm j (by omega)) hb
    obtain ⟨hx, hq⟩ := hall N (Nat.le_refl _)
    have h := si_all hd hb.1 b1 b2 hT N (Nat.le_refl _) hx
    have hfin : ∀ i, i ≤ N → rng (d i) ∧ pok (d i) = true := fun i hi => ⟨(hd.fin i (by omega)).1, (hd.fin i (by omega)).2.1⟩
    obtain ⟨rq, pq⟩ := sq_fin hfin hb.1 N (Nat.le_refl _) hx
    refine ⟨hx, h.xv.add rq pq fun i hi => ?_, LB.add (fun i hi => ?_) hq, ?_⟩
    · obtain ⟨s, h1, h2, _⟩ := h.up i hi
      exact ⟨s, h1, h2⟩
    · have := h.small 1251 (mid_lt (hm N (by omega))) i hi
      exact Int.le_trans (Int.le_of_lt this) (p2le (by omega))
    · show 2 ^ 1074 * lsm ((ss ⟨0, fun _ => 0⟩ d b N).add (sq d b N)).d ((ss ⟨0, fun _ => 0⟩ d b N).add (sq d b N)).n = _
      rw [lsm_add rq, h.sum]
      exact tsm_prod hT (N + 1) (Nat.le_refl _)
/-- Grown: what is gathered stays below eight times the greatest. -/
theorem gq_bd3 {d : Nat → Int} {q : Int} {n b : Nat} (hd : XV d n) (hq : rng q) (pq : pok q = true) (bd : ∀ i, i < n → ((iV (d i)).natAbs : Int) ≤ 2 ^ b) (bq : ((iV q).natAbs : Int) ≤ 2 ^ b) (hb : b ≤ 2080) :
    ∀ k, k ≤ n → gx d q k = true ∧ ((iV (gq d q k)).natAbs : Int) ≤ 2 ^ (b + 3) ∧ LB (gs d q k) b
  | 0, _ => ⟨rfl, p2_up bq (by omega), fun i hi => absurd hi (Nat.not_lt_zero _)⟩
  | k + 1, hk => by
    obtain ⟨h1, h2, h3⟩ := gq_bd3 hd hq pq bd bq hb k (by omega)
    have hfin : ∀ i, i < n → rng (d i) ∧ pok (d i) = true := fun i hi => ⟨(hd.fin i hi).1, (hd.fin i hi).2.1⟩
    obtain ⟨r1, r2⟩ := gq_fin hfin hq pq k (by omega) h1
    obtain ⟨d1, d2⟩ := hfin k (by omega)
    have b1 := bd k (by omega)
    have hM := maxV_ge
    have p1 : (2 : Int) ^ (b + 3 + 1) ≤ 2 ^ 2097 := p2le (by omega)
    have p2' : (2 : Int) ^ (b + 1) ≤ 2 ^ 2097 := p2le (by omega)
    rw [p2s] at p1 p2'
    obtain ⟨f1, f2⟩ := sum_fin r1 d1 r2 d2 (by omega) (by omega)
    have nr := fsum_nr r1 d1 f2
    have hx : gx d q (k + 1) = true := by
      show (gx d q k && pok (gl d q k)) = true
      rw [h1]; exact f2
    have e := (sL_exact r1 d1 f2).2.2
    have hl := nr_loss (fl_iV (gq d q k)) nr
    have hLB : LB (gs d q (k + 1)) b := by
      show LB ((gs d q k).add (gl d q k)) b
      refine h3.add ?_
      show ((iV (sL (gq d q k) (d k))).natAbs : Int) ≤ _
      have : iV (sL (gq d q k) (d k)) = iV (gq d q k) + iV (d k) - iV (fsum (gq d q k) (d k)) := by omega
      rw [this]
      omega
    refine ⟨hx, ?_, hLB⟩
    have pb : (2 : Int) ^ (b + 1) = 2 * 2 ^ b := p2s b
    have pp := p2 b
    have g1 := lsm_all (gi_all hd hq pq (k + 1) hk hx).xv (t := b + 1) (fun i hi => by have := hLB i hi; omega)
    have hxk : XV d (k + 1) := ⟨fun i hi => hd.fin i (by omega), fun i hi => hd.lo i (by omega)⟩
    have g2 := lsm_all hxk (t := b + 1) (fun i hi => by have := bd i (by omega); omega)
    have g3 := gs_sum hfin hq pq (k + 1) hk hx
    have p8 : (2 : Int) ^ (b + 3) = 8 * 2 ^ b := by rw [show b + 3 = b + 1 + 1 + 1 by omega, p2s, p2s, p2s]; omega
    rw [p8]
    omega
theorem gaS_all3 {s : Ls} {f : Nat → Int} {m b : Nat} (hs : XV s.d s.n) (hf : ∀ i, i < m → rng (f i) ∧ pok (f i) = true) (bs : LB s b) (bf : ∀ i, i < m → ((iV (f i)).natAbs : Int) ≤ 2 ^ b) (hb : b + 3 * m ≤ 2080) :
    ∀ k, k ≤ m → gaX s f k = true ∧ XV (gaS s f k).d (gaS s f k).n ∧ LB (gaS s f k) (b + 3 * k) ∧ lsm (gaS s f k).d (gaS s f k).n = lsm s.d s.n + lsm f k
  | 0, _ => ⟨rfl, hs, bs, by show lsm s.d s.n = lsm s.d s.n + 0; omega⟩
  | k + 1, hk => by
    obtain ⟨h1, h2, h3, h4⟩ := gaS_all3 hs hf bs bf hb k (by omega)
    obtain ⟨f1, f2⟩ := hf k (by omega)
    obtain ⟨g1, g2, g3⟩ := gq_bd3 h2 f1 f2 h3 (p2_up (bf k (by omega)) (by omega)) (by omega) (gaS s f k).n (Nat.le_refl _)
    rw [gaX_succ, gaS_succ, h1, g1, lsm_succ]
    refine ⟨rfl, grw_xv h2 f1 f2 g1, ?_, ?_⟩
    · show LB ((gs (gaS s f k).d (f k) (gaS s f k).n).add (gq (gaS s f k).d (f k) (gaS s f k).n)) _
      exact LB.add (fun i hi => p2_up (g3 i hi) (by omega)) (p2_up g2 (by omega))
    · rw [grw_sum h2.fn f1 f2 g1, h4]
      omega
/-- Product of expansions from the middle. -/
theorem pr_all {d f : Nat → Int} {n m : Nat} (hd : XV d n) (hm : ∀ j, j < n → Mid (d j)) (hn : n ≤ 6) (hf : ∀ j, j < m → Mid (f j)) (hm6 : m ≤ 6) :
    ∀ k, k ≤ m → prX d n f k = true ∧ XV (prS d n f k).d (prS d n f k).n ∧ LB (prS d n f k) (1480 + 36 * k) ∧ 2 ^ 1074 * lsm (prS d n f k).d (prS d n f k).n = lsm d n * lsm f k
  | 0, _ => ⟨rfl, ⟨fun i hi => absurd hi (Nat.not_lt_zero _), fun i hi => absurd hi (Nat.not_lt_zero _)⟩, fun i hi => absurd hi (Nat.not_lt_zero _), by show 2 ^ 1074 * (0 : Int) = _ * 0; rw [Int.mul_zero, Int.mul_zero]⟩
  | k + 1, hk => by
    obtain ⟨h1, h2, h3, h4⟩ := pr_all hd hm hn hf hm6 k (by omega)
    obtain ⟨s1, s2, s3, s4⟩ := sclN_mid hd hm (hf k (by omega))
    have hl := sclN_le d (f k) n
    obtain ⟨g1, g2, g3, g4⟩ := gaS_all3 h2 s2.fn (b := 1480 + 36 * k) h3 (fun i hi => p2_up (s3 i hi) (by omega)) (m := (sclN d (f k) n).n) (by omega) (sclN d (f k) n).n (Nat.le_refl _)
    rw [prX_succ, prS_succ, h1, s1, g1, lsm_succ]
    refine ⟨rfl, g2, fun i hi => p2_up (g3 i hi) (by omega), ?_⟩
    rw [g4, Int.mul_add, h4, s4, Int.mul_add]
end Go.Proofs.YtcpjdgfnblkfpaaGreatDoor
