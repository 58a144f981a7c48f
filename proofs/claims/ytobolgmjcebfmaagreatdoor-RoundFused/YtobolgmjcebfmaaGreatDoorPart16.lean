/-
  Parts of the proof, one behind another.
-/
import Derived.Test.YtobolgmjcebfmaaGreatDoorPart15
import Derived.Test.YtobolgmjcebfmaaGreatDoorPart1
import Derived.Test.YtobolgmjcebfmaaGreatDoorPart10
import Derived.Test.YtobolgmjcebfmaaGreatDoorPart14
import Derived.Test.YtobolgmjcebfmaaGreatDoorPart12
import Derived.Test.YtobolgmjcebfmaaGreatDoorPart13
import Derived.Test.YtobolgmjcebfmaaGreatDoorPart5
import Derived.Test.YtobolgmjcebfmaaGreatDoorPart11
/-
  Package round: Fma in all ways, by its contract.
-/
namespace Go.Proofs.YtobolgmjcebfmaaGreatDoor
open Go Go.RowKit Go.Proofs.YtobolgmjcebfmaaGreatDoor.M
set_option linter.unusedSimpArgs false
set_option linter.unusedVariables false

set_option maxRecDepth 100000 in
set_option maxHeartbeats 4000000 in
theorem fma_A {a b c way : Int} {w : World} (ra : rng a) (rb : rng b) (rc : rng c) (hw : 0 ≤ way ∧ way ≤ 3) (H : Hold4 w) :
    Calls Tryz.prog 5 #[.int .i64 a, .int .i64 b, .int .i64 c, .int .i64 way] w fun e w' => e = .returned (.tuple #[.int .i64 (fmaP way a b c), .int .i64 0]) ∧ Below w.heap.size w w' := by
  have CK : Hid (∀ W gx gy gc gn go, W.heap[gx]? = some (.cells #[.float .f64 (wd a)] 43 (0, 0)) → W.heap[gy]? = some (.cells #[.float .f64 (wd b)] 43 (0, 0)) → W.heap[gc]? = some (.cells #[.int .i64 c] 3 (0, 0)) → W.heap[gn]? = some (.cells #[.int .i64 way] 3 (0, 0)) → W.heap[go]? = some (.cells #[.int .i64 a, .int .i64 b, .int .i64 c] 3 (0, 0)) → Hold4 W → Calls Tryz.prog 21 #[.agg #[.func (.func 11) #[] #[], .func (.func 42) #[] #[]], .int .i64 (ffma (told a) (told b) (told c)), .int .i64 way, .func (.func 23) #[] #[.pointer (some ⟨gx, 0, none⟩), .pointer (some ⟨gy, 0, none⟩), .pointer (some ⟨gc, 0, none⟩), .pointer (some ⟨gn, 0, none⟩)], .slice (some ⟨go, 0, none⟩) 3 3] W fun e w' => e = .returned (.tuple #[.int .i64 (fmaP way a b c), .int .i64 0]) ∧ Below W.heap.size W w') := fun W gx gy gc gn go kx ky kc kn ko H => by
    by_cases h0 : way = 0
    · have e : fmaP way a b c = ffma (told a) (told b) (told c) := by unfold fmaP; rw [if_pos (.inl h0)]
      rw [e, h0]
      exact operate_near _ _ ⟨_, rfl⟩ ⟨_, rfl⟩ _ _ _ _ _ W
    · cases hp : (pok a && pok b && pok c)
      · have e : fmaP way a b c = ffma (told a) (told b) (told c) := by unfold fmaP; rw [if_pos (.inr hp)]
        rw [e]
        exact opFma_inf way (by omega) _ a b c _ _ hp W go ko H
      · have e : fmaP way a b c = fmaF way (ffma (told a) (told b) (told c)) a b c := by
          unfold fmaP fmaF
          have n1 : ¬ (way = 0 ∨ (pok a && pok b && pok c) = false) := fun q => by
            rcases q with q | q
            · exact h0 q
            · rw [hp] at q; cases q
          rw [if_neg n1]
        simp only [Bool.and_eq_true] at hp
        rw [e]
        exact opFma way (by omega) _ a b c ra rb hp.1.1 hp.1.2 hp.2 W gx gy gc gn go kx ky kc kn ko H
  generalize fmaP way a b c = R at CK ⊢
  obtain ⟨x, hx⟩ : ∃ x, wd a = x := ⟨_, rfl⟩
  obtain ⟨y, hy⟩ : ∃ y, wd b = y := ⟨_, rfl⟩
  obtain ⟨z, hz⟩ : ∃ z, wd c = z := ⟨_, rfl⟩
  obtain ⟨near, hn⟩ : ∃ n, ffma (told a) (told b) (told c) = n := ⟨_, rfl⟩
  have CK := CK.out
  rw [hx, hy, hn] at CK
  have HK : Hid _ := CK
  clear CK
  have hmf : ∀ (fn : Fn) (first cap : Array Value) (w : World), (Instr.makeFunc fn first cap).run Tryz.prog w = .ok (.func fn first cap) w := fun _ _ _ _ => rfl
  have CF : Hid (∀ W, Calls Tryz.prog 20 #[.int .i64 a] W fun e w' => e = .returned (.float .f64 x) ∧ w' = W) := fun W => by rw [← hx]; exact bitsFloat a W
  have CG : Hid (∀ W, Calls Tryz.prog 20 #[.int .i64 b] W fun e w' => e = .returned (.float .f64 y) ∧ w' = W) := fun W => by rw [← hy]; exact bitsFloat b W
  have CH : Hid (∀ W, Calls Tryz.prog 20 #[.int .i64 c] W fun e w' => e = .returned (.float .f64 z) ∧ w' = W) := fun W => by rw [← hz]; exact bitsFloat c W
  have RS : ∀ W, ∃ t w', (callFunc 22 #[.float .f64 x, .float .f64 y, .float .f64 z]).run Tryz.prog W = .ok (.value (.float .f64 t)) w' ∧ FW near t ∧ (w' = W ∨ w' = W.drew) := fun W => by rw [← hx, ← hy, ← hz, ← hn]; exact run_ffma (wd_told ra) (wd_told rb) (wd_told rc) W
  clear hx hy hz hn
  have hst : ∀ (p : Addr) (x : Nat) (m : Mode) (w : World), (store p (.float .f64 x) m).run Tryz.prog w = stored Tryz.prog w p (.float .f64 x) m := fun p x m w => run_store _ w p _ m rfl
  have c_k := heap_a2 w (.cells #[.int .i64 c] 3) (.cells #[.int .i64 way] 3)
  have n_k := heap_b2 w (.cells #[.int .i64 c] 3) (.cells #[.int .i64 way] 3)
  have hb2 := bel_alloc2 w (.cells #[.int .i64 c] 3) (.cells #[.int .i64 way] 3)
  go_enter Tryz.func5, Tryz.ntmps5
  go_wp2_with fail
  generalize (w.alloc (.cells #[.int .i64 c] 3)).alloc (.cells #[.int .i64 way] 3) = x0 at c_k n_k hb2 ⊢
  refine (CF.out _).mono ?_
  rintro _ wz ⟨rfl, hwz⟩
  replace hwz := hwz.symm
  subst hwz
  go_wp2_with fail
  refine (CG.out _).mono ?_
  rintro _ wz ⟨rfl, hwz⟩
  replace hwz := hwz.symm
  subst hwz
  have x_k := heap_a2 x0 (.cells #[.float .f64 x] 43) (.cells #[.float .f64 y] 43)
  have y_k := heap_b2 x0 (.cells #[.float .f64 x] 43) (.cells #[.float .f64 y] 43)
  have c_k := heap_past (.cells #[.float .f64 y] 43) (heap_past (.cells #[.float .f64 x] 43) c_k)
  have n_k := heap_past (.cells #[.float .f64 y] 43) (heap_past (.cells #[.float .f64 x] 43) n_k)
  have hb4 := bel_trans hb2 (bel_alloc2 x0 (.cells #[.float .f64 x] 43) (.cells #[.float .f64 y] 43))
  obtain ⟨tf, hTf⟩ := Classical.skolem.1 RS
  obtain ⟨uf, hUf⟩ := Classical.skolem.1 hTf
  have hrun := fun W => (hUf W).1
  have hFW := fun W => (hUf W).2.1
  have hTb : ∀ W, Below W.heap.size W (uf W) := fun W => by
    rcases (hUf W).2.2 with e | e
    · rw [e]; exact bel_refl _
    · rw [e]; exact (bel_refl _).drew
  clear RS hTf hUf
  go_wp2_with fail
  generalize (x0.alloc (.cells #[.float .f64 x] 43)).alloc (.cells #[.float .f64 y] 43) = x4 at x_k y_k c_k n_k hb4 ⊢
  have KK : ∀ W, Below x4.heap.size x4 W → W.cell? ⟨x0.heap.size, 0, none⟩ = some (.float .f64 x) ∧ W.cell? ⟨x0.heap.size + 1, 0, none⟩ = some (.float .f64 y) ∧ W.cell? ⟨w.heap.size, 0, none⟩ = some (.int .i64 c) ∧ W.cell? ⟨w.heap.size + 1, 0, none⟩ = some (.int .i64 way) := fun W hb => ⟨blkC (blk_up hb x_k) 0 rfl, blkC (blk_up hb y_k) 0 rfl, blkC (blk_up hb c_k) 0 rfl, blkC (blk_up hb n_k) 0 rfl⟩
  have hxr := bel_refl x4
  have hx0 := (bel_refl x4).drew
  go_region_held3 (fun W => W.cell? ⟨x0.heap.size, 0, none⟩ = some (.float .f64 x) ∧ W.cell? ⟨x0.heap.size + 1, 0, none⟩ = some (.float .f64 y) ∧ W.cell? ⟨w.heap.size, 0, none⟩ = some (.int .i64 c) ∧ W.cell? ⟨w.heap.size + 1, 0, none⟩ = some (.int .i64 way))
    (first | assumption | exact KK _ (hx0) | exact KK _ ((al1 hxr _).drew) | exact KK _ (al1 hx0 _) | exact KK _ hw1 | exact KK _ (al1 hw1 _) | exact KK _ (bel_trans hw1 (hTb _)) | exact KK _ (bel_trans (al1 hw1 _) (hTb _)) | exact KK _ (al1 (bel_trans hw1 (hTb _)) _) | exact KK _ hw5 | fail)
    (first
      | (go_at_call 17; refine (double_any _).mono ?_; rintro _ w1 ⟨rfl, hb1⟩; have hw1 : Below x4.heap.size x4 w1 := bel_trans (by first | exact hx0 | exact (al1 hxr _).drew | exact al1 hx0 _) hb1; first | (have oz : w1.heap[x4.heap.size]? = some (.cells #[.int .i64 a, .int .i64 b, .int .i64 c] 3 (0, 0)) := blk_up hb1 (heap_a1 x4 (.cells #[.int .i64 a, .int .i64 b, .int .i64 c] 3))) | skip)
      | (go_at_call 20; refine (CH.out _).mono ?_; rintro _ wz ⟨rfl, hwz⟩; replace hwz := hwz.symm; subst hwz)
      | (go_at_call 19; refine (of_FW (hFW _) _).mono ?_; rintro _ wz ⟨rfl, hwz⟩; replace hwz := hwz.symm; subst hwz)
      | (go_at_call 21; refine (HK.out _ _ _ _ _ _ (blk_up (by first | exact bel_trans hw1 (hTb _) | exact bel_trans (al1 hw1 _) (hTb _) | exact al1 (bel_trans hw1 (hTb _)) _) x_k) (blk_up (by first | exact bel_trans hw1 (hTb _) | exact bel_trans (al1 hw1 _) (hTb _) | exact al1 (bel_trans hw1 (hTb _)) _) y_k) (blk_up (by first | exact bel_trans hw1 (hTb _) | exact bel_trans (al1 hw1 _) (hTb _) | exact al1 (bel_trans hw1 (hTb _)) _) c_k) (blk_up (by first | exact bel_trans hw1 (hTb _) | exact bel_trans (al1 hw1 _) (hTb _) | exact al1 (bel_trans hw1 (hTb _)) _) n_k) (by first | exact blk_up (hTb _) oz | exact blk_up (hTb _) (heap_a1 w1 (.cells #[.int .i64 a, .int .i64 b, .int .i64 c] 3)) | exact heap_a1 _ _) (H.keeps (bel_trans hb4 (by first | exact bel_trans hw1 (hTb _) | exact bel_trans (al1 hw1 _) (hTb _) | exact al1 (bel_trans hw1 (hTb _)) _)))).mono ?_; rintro _ w5 ⟨rfl, hb5⟩; have hw5 := bel_trans (show Below x4.heap.size x4 _ from (by first | exact bel_trans hw1 (hTb _) | exact bel_trans (al1 hw1 _) (hTb _) | exact al1 (bel_trans hw1 (hTb _)) _)) hb5))
  all_goals
    have hbE := bel_trans hb4 hw5
    clear KK HK hrun hFW hTb x_k y_k c_k n_k CF CG CH
    go_wp2
    refine bodyPost_ret (v := .tuple #[.int .i64 R, .int .i64 0]) (by simp [results, Tryz.results5, go_sem]) rfl ⟨rfl, hbE⟩
end Go.Proofs.YtobolgmjcebfmaaGreatDoor

/-
  Plain mathematics: which numbers in their one form are floats. No Go text in sight.
-/
namespace Go.Proofs.YtobolgmjcebfmaaGreatDoor
open Go Go.RowKit Go.Proofs.YtobolgmjcebfmaaGreatDoor.M
set_option linter.unusedSimpArgs false
set_option linter.unusedVariables false

theorem jz_low {M : Int} (h0 : 0 < M) (h : M < 9223372036854775808) {l : Nat} (hl : IsLow M l) : jz M = l ∧ jo M = M / 2 ^ l := by
  obtain ⟨m, e1, _, _⟩ := jz_spec h0 h
  have : IsLow M (jz M) := ⟨m, by rw [Int.mul_comm]; exact e1⟩
  have e := low_unique this hl
  exact ⟨e, by unfold jo; rw [e]⟩
theorem jz_odd {m : Int} (h0 : 0 < m) (h : m < 9223372036854775808) (ho : m % 2 = 1) : jz m = 0 ∧ jo m = m := by
  obtain ⟨a, b⟩ := jz_low h0 h (l := 0) ⟨m / 2, by rw [Int.pow_zero]; omega⟩
  exact ⟨a, by rw [b, Int.pow_zero, Int.ediv_one]⟩
/-- The odd form of a number joins as the number does. -/
theorem j_odd {M e : Int} {l : Nat} (ng : Bool) (h0 : 0 < M) (h : M < 9223372036854775808) (hl : IsLow M l) :
    jk 52 2047 (-1074) (M / 2 ^ l) (e + l) = jk 52 2047 (-1074) M e ∧ jp ng (M / 2 ^ l) (e + l) = jp ng M e := by
  obtain ⟨c1, c2, c3⟩ := isLow_odd hl h0
  have hle : M / 2 ^ l ≤ M := Int.ediv_le_self _ (by omega)
  obtain ⟨z1, o1⟩ := jz_low h0 h hl
  obtain ⟨z2, o2⟩ := jz_odd c1 (by omega) c2
  have ho : jo (M / 2 ^ l) = jo M := by rw [o2, o1]
  have hj : jl (M / 2 ^ l) = jl M := by unfold jl; rw [ho]
  have he : e + (l : Int) + ((jz (M / 2 ^ l) : Nat) : Int) = e + (jz M : Nat) := by rw [z2, z1]; simp
  have hsp : jsp 52 (M / 2 ^ l) = jsp 52 M := by unfold jsp; rw [hj]
  have hsh : jsh 52 (-1074) (M / 2 ^ l) (e + l) = jsh 52 (-1074) M e := by unfold jsh; rw [hsp, he]
  have hab : jab 52 (-1074) (M / 2 ^ l) (e + l) = jab 52 (-1074) M e := by unfold jab; rw [hsh, he]
  have hg : jgood 52 2047 (-1074) (M / 2 ^ l) (e + l) = jgood 52 2047 (-1074) M e := by unfold jgood; rw [hsp, he, hab]
  have hk : jk 52 2047 (-1074) (M / 2 ^ l) (e + l) = jk 52 2047 (-1074) M e := by
    unfold jk
    rw [if_neg (by omega), if_neg (by omega), if_neg (by omega), if_neg (by omega), hg]
  have hv : jv 52 2047 (-1074) (M / 2 ^ l) (e + l) = jv 52 2047 (-1074) M e := by
    unfold jv
    rw [if_neg (show ¬ M / 2 ^ l ≤ 0 by omega), if_neg (show ¬ M ≤ 0 by omega), hg, hab, hsh, ho]
  exact ⟨hk, by unfold jp; rw [hk, hv]⟩
/-- A finite pattern's number in its one form. -/
theorem float_form {b : Int} (hb : rng b) (hp : pok b = true) {ng : Bool} {m e : Int} (hy : Dy (sg (pneg b) (pmag b) * pw (pexp b)) ng m e) :
    blen m ≤ 63 ∧ m < 9007199254740992 ∧ -1074 ≤ e ∧ e ≤ 2000 ∧ jk 52 2047 (-1074) m e = true ∧ (jp ng m e = b ∨ (b = -9223372036854775808 ∧ jp ng m e = 0 ∧ m = 0)) ∧ (m = 0 → jp ng m e = 0) := by
  obtain ⟨i0, i1, i2, i3⟩ := pmag_in hp
  obtain ⟨j0, j1⟩ := join_parts hb hp
  have hle63 : ∀ x : Int, x < 9007199254740992 → blen x ≤ 63 := fun x hx => blen_le (by
    rw [show (2 : Int) ^ 63 = 9223372036854775808 by decide]; omega)
  by_cases h0 : pmag b = 0
  · rw [h0, sg_zero, Int.zero_mul] at hy
    obtain ⟨e1, e2, e3⟩ := hy.unique Dy.zero
    subst e1 e2 e3
    have z1 : jp false 0 0 = 0 := by decide
    have z2 : jk 52 2047 (-1074) 0 0 = true := by decide
    refine ⟨hle63 0 (by omega), by omega, by omega, by omega, z2, ?_, fun _ => z1⟩
    rw [h0] at j1
    have hv : jp (pneg b) 0 (pexp b) = if pneg b then -9223372036854775808 else 0 := by
      unfold jp jk jv
      cases pneg b <;> simp
    rw [hv] at j1
    cases hn : pneg b
    · rw [hn] at j1
      exact .inl (by rw [z1]; simpa using j1)
    · rw [hn] at j1
      exact .inr ⟨by simpa using j1.symm, z1, rfl⟩
  · have hM : 0 < pmag b := by omega
    obtain ⟨l, hl⟩ := isLow_ex hM
    obtain ⟨e1, e2, e3⟩ := hy.unique (Dy.of (pneg b) hl hM (show -4194304 ≤ pexp b by omega))
    obtain ⟨c1, c2, c3⟩ := isLow_odd hl hM
    have hle : pmag b / 2 ^ l ≤ pmag b := Int.ediv_le_self _ (by omega)
    have hl54 : l < 54 := by
      have h3 : (1 : Int) * 2 ^ l ≤ pmag b / 2 ^ l * 2 ^ l := Int.mul_le_mul_of_nonneg_right (by omega) (Int.le_of_lt (two_pos l))
      rw [c3] at h3
      refine two_lt_iff ?_
      rw [show (2 : Int) ^ 54 = 18014398509481984 by decide]
      omega
    obtain ⟨k1, k2⟩ := j_odd (e := pexp b) (pneg b) hM (by omega) hl
    subst e1 e2 e3
    exact ⟨hle63 _ (by omega), by omega, by omega, by omega, by rw [k1]; exact j0, .inl (by rw [k2]; exact j1), fun hz => by omega⟩
theorem float_yes {w : World} {x : Value} {A : Int} {ng : Bool} {m e : Int} (hx : DNum w x A) (oA : Dok A) (L : Lay64 w) (hT : Tab w) (hy : Dy A ng m e) (h63 : blen m ≤ 63) (hk : jk 52 2047 (-1074) m e = true) :
    Calls Tryz.prog 15 #[x] w fun r w' => r = .returned (.tuple #[.int .i64 (jp ng m e), .bool true]) ∧ Below w.heap.size w w' := by
  refine (float_D hx oA L hT).mono ?_
  rintro r w' ⟨ng', m', e', hy', rfl, hb⟩
  obtain ⟨rfl, rfl, rfl⟩ := hy.unique hy'
  exact ⟨by rw [decide_eq_true h63, hk]; rfl, hb⟩
end Go.Proofs.YtobolgmjcebfmaaGreatDoor

/-
  Plain mathematics: the end of the law on products that are fused. No Go text in sight.
-/
namespace Go.Proofs.YtobolgmjcebfmaaGreatDoor
open Go Go.RowKit Go.Proofs.YtobolgmjcebfmaaGreatDoor.M
set_option linter.unusedSimpArgs false
set_option linter.unusedVariables false

theorem mul_normal {k a b : Int} (ra : rng a) (rb : rng b) (pa : pok a = true) (pb : pok b = true) (h : cls (mulP k a b) = 2) : prV a b ≠ 0 ∧ mulP k a b = rdP k (prV a b) := by
  have h1 := (pok_rg ra).1 pa
  have h2 := (pok_rg rb).1 pb
  have hf : prV a b = 0 → fprod (told a) (told b) = patS (xsg a b) 0 := fun h0 => by
    rw [told_pokF ra pa, told_pokF rb pb]
    have hz : fsize a b = 0 := by
      unfold prV at h0
      cases hx : xsg a b <;> rw [hx] at h0
      · exact h0
      · have : -fsize a b = 0 := h0
        omega
    unfold fprod
    have n4 : ¬ (cls a = 4 ∨ cls b = 4) := fun q => by rcases q with q | q; exact pok_clsF ra pa q; exact pok_clsF rb pb q
    have i2 : ¬ (rg a = 9218868437227405312 ∨ rg b = 9218868437227405312) := by omega
    rw [if_neg n4, if_neg i2, if_pos hz]
  have hn : prV a b ≠ 0 := fun h0 => by
    have e : mulP k a b = patS (xsg a b) 0 := by
      unfold mulP
      have h00 : ¬ prV a b ≠ 0 := fun q => q h0
      rw [hf h0, if_neg h00]
      split <;> rfl
    rw [e, cls_patS0] at h
    omega
  refine ⟨hn, ?_⟩
  unfold mulP
  rw [pa, pb, if_pos hn]
  by_cases hk : k = 0
  · rw [if_pos (.inl hk), hk, rdP_near hn, told_pokF ra pa, told_pokF rb pb]
    have hz : fsize a b ≠ 0 := fun e => hn (by unfold prV; rw [e]; cases xsg a b <;> rfl)
    unfold fprod
    have n4 : ¬ (cls a = 4 ∨ cls b = 4) := fun q => by rcases q with q | q; exact pok_clsF ra pa q; exact pok_clsF rb pb q
    have i2 : ¬ (rg a = 9218868437227405312 ∨ rg b = 9218868437227405312) := by omega
    rw [if_neg n4, if_neg i2, if_neg hz]
    rfl
  · rw [if_neg (fun q => by rcases q with q | q; exact hk q; cases q)]
theorem cls2_pok {p : Int} (h : cls p = 2) : pok p = true := by
  unfold cls at h
  unfold pok
  split at h
  · split at h <;> omega
  · rename_i hf; simp [hf]
theorem same_selfF {p : Int} (h : cls p ≠ 4) : same p p = true := by
  unfold same; simp [h]
theorem same_zero (g : Bool) : same (patS g 0) 0 = true := by cases g <;> decide
theorem abs_rgF {p : Int} (h : cls p ≠ 4) : abs p = rg p := by
  unfold abs rg
  rw [if_neg h]
theorem patV_opp {p : Int} (rp : rng p) (hp : pok p = true) : patV (neg p) = -patV p := by
  obtain ⟨n1, n2, n3⟩ := neg_facts rp hp
  rw [patV_iV n1 n2, patV_iV rp hp, n3, Int.neg_mul]
theorem fused_end {k a b : Int} (ra : rng a) (rb : rng b) (pa : pok a = true) (pb : pok b = true) (rp : rng (mulP k a b)) (hc : cls (mulP k a b) = 2) (lo : less (abs (mulP k a b)) 288230376151711744 = false) (hi : less 9209861237972664320 (abs (mulP k a b)) = false) :
    ∃ ng m e, Dy (prV a b - patV (mulP k a b)) ng m e ∧ blen m ≤ 63 ∧ jk 52 2047 (-1074) m e = true ∧ same (fmaP 0 a b (neg (mulP k a b))) (jp ng m e) = true ∧ rng (jp ng m e) ∧ rng (fmaP 0 a b (neg (mulP k a b))) := by
  obtain ⟨hn, he⟩ := mul_normal ra rb pa pb hc
  have hp := cls2_pok hc
  have h4 : cls (mulP k a b) ≠ 4 := by omega
  rw [abs_rgF h4] at lo hi
  have hr := (pok_rg rp).1 hp
  have hr0 := (rg_parts rp).1
  have c4 : cls (rg (mulP k a b)) ≠ 4 := pok_clsF (by unfold rng; omega) ((pok_rg (by unfold rng; omega)).2 (by unfold rg at *; split <;> omega))
  have lo' : 288230376151711744 ≤ rg (mulP k a b) := by
    unfold less at lo
    simp only [c4, show ¬ cls 288230376151711744 = 4 by decide, decide_false, Bool.not_false, Bool.true_and, decide_eq_false_iff_not] at lo
    unfold key at lo
    split at lo <;> split at lo <;> omega
  have hi' : rg (mulP k a b) ≤ 9209861237972664320 := by
    unfold less at hi
    simp only [c4, show ¬ cls 9209861237972664320 = 4 by decide, decide_false, Bool.not_false, Bool.true_and, decide_eq_false_iff_not] at hi
    unfold key at hi
    split at hi <;> split at hi <;> omega
  rw [he] at lo' hi'
  obtain ⟨S, hS, hF, hb⟩ := fused_fl ra rb pa pb hn lo' hi'
  rw [← he] at hS
  generalize mulP k a b = p at *
  have hV : fmaS a b (neg p) = prV a b - patV p := by
    rw [fmaS_pr, patV_opp rp hp]
    omega
  have rn := (neg_facts rp hp).1
  have pn := (neg_facts rp hp).2.1
  have hfm : fmaP 0 a b (neg p) = ffma a b (neg p) := by
    unfold fmaP
    rw [if_pos (.inl rfl), told_pokF ra pa, told_pokF rb pb, told_pokF rn pn]
  rw [hfm]
  by_cases h0 : prV a b - patV p = 0
  · rw [h0]
    rw [fma_zero ra rb rn pa pb pn (hV.trans h0)]
    refine ⟨false, 0, 0, Dy.zero, blen_le (by decide), by decide, ?_, ?_, (patS_parts (by decide) (by decide)).1⟩
    · rw [show jp false 0 0 = 0 by decide]; exact same_zero _
    · rw [show jp false 0 0 = 0 by decide]; unfold rng; omega
  · have hS0 : S ≠ 0 := fun e => h0 (by rw [hS, e, Int.zero_mul])
    obtain ⟨g1, g2, g3⟩ := near_exact hF hS0 hb
    have hl : ffma a b (neg p) = nearP (prV a b - patV p) := by
      have h1 := (pok_rg ra).1 pa
      have h2 := (pok_rg rb).1 pb
      have h3 := (pok_rg rn).1 pn
      unfold ffma
      have n4 : ¬ (cls a = 4 ∨ cls b = 4 ∨ cls (neg p) = 4) := fun q => by rcases q with q | q | q; exact pok_clsF ra pa q; exact pok_clsF rb pb q; exact pok_clsF rn pn q
      have i2 : ¬ (rg a = 9218868437227405312 ∨ rg b = 9218868437227405312) := by omega
      have i3 : ¬ rg (neg p) = 9218868437227405312 := by omega
      rw [if_neg n4, if_neg i2, if_neg i3, hV, if_neg h0]
    rw [hl]
    have hv : prV a b - patV p = patV (nearP (prV a b - patV p)) := by
      rw [hS, patV_iV g1 g2, g3]
    rw [← hS] at g1 g2
    generalize nearP (prV a b - patV p) = l at *
    rw [hv] at h0 ⊢
    obtain ⟨ng, m, e, hy, _⟩ := patV_dok g2
    obtain ⟨f1, f2, f3, f4, f5, f6, f7⟩ := float_form g1 g2 hy
    have hj : jp ng m e = l := by
      rcases f6 with f6 | ⟨_, _, f6⟩
      · exact f6
      · exact absurd (hy.eq_zero.2 f6) h0
    exact ⟨ng, m, e, hy, f1, f5, by rw [hj]; exact same_selfF (pok_clsF g1 g2), by rw [hj]; exact g1, g1⟩
end Go.Proofs.YtobolgmjcebfmaaGreatDoor

/-
  Less, Same, Order of package bits and of the document's own answer, each by a contract over the same plain functions.
-/
namespace Go.Proofs.YtobolgmjcebfmaaGreatDoor
open Go Go.RowKit Go.Proofs.YtobolgmjcebfmaaGreatDoor.M
set_option linter.unusedSimpArgs false
set_option linter.unusedVariables false

theorem bitsLess (a b : Int) (w : World) (ha : rng a) (hb : rng b) :
    Calls Tryz.prog 9 #[.int .i64 a, .int .i64 b] w fun e w' => e = .returned (.bool (less a b)) ∧ w' = w := by
  have k := less_order ha hb
  go_enter Tryz.func9, Tryz.ntmps9
  go_wp2_with (go_at_call 20; refine (bitsFloat _ _).mono ?_; rintro e w1 ⟨rfl, rfl⟩)
  go_ret
  exact ⟨rfl, rfl⟩
theorem bitsSame (a b : Int) (w : World) (ha : rng a) (hb : rng b) :
    Calls Tryz.prog 16 #[.int .i64 a, .int .i64 b] w fun e w' => e = .returned (.bool (same a b)) ∧ w' = w := by
  have k := same_order ha hb
  go_enter Tryz.func16, Tryz.ntmps16
  go_wp2_with (go_at_call 20; refine (bitsFloat _ _).mono ?_; rintro e w1 ⟨rfl, rfl⟩)
  go_ret
  exact ⟨rfl, rfl⟩
end Go.Proofs.YtobolgmjcebfmaaGreatDoor

/-
  Less of package bits by a contract.
-/
namespace Go.Proofs.YtobolgmjcebfmaaGreatDoor
open Go Go.RowKit Go.Proofs.YtobolgmjcebfmaaGreatDoor.M
set_option linter.unusedSimpArgs false
set_option linter.unusedVariables false

end Go.Proofs.YtobolgmjcebfmaaGreatDoor

/-
  What RoundMirrors asks of the calls.
-/
namespace Go.Proofs.YtobolgmjcebfmaaGreatDoor
open Go Go.RowKit Go.Proofs.YtobolgmjcebfmaaGreatDoor.M
set_option linter.unusedSimpArgs false
set_option linter.unusedVariables false

theorem same_B {a b : Int} {w : World} (ha : rng a) (hb : rng b) : Calls Tryz.prog 16 #[.int .i64 a, .int .i64 b] w fun e w' => e = .returned (.bool (same a b)) ∧ Below w.heap.size w w' := by
  refine (bitsSame a b w ha hb).mono ?_
  rintro e w' ⟨h, rfl⟩
  exact ⟨h, bel_refl _⟩
theorem less_B {a b : Int} {w : World} (ha : rng a) (hb : rng b) : Calls Tryz.prog 9 #[.int .i64 a, .int .i64 b] w fun e w' => e = .returned (.bool (less a b)) ∧ Below w.heap.size w w' := by
  refine (bitsLess a b w ha hb).mono ?_
  rintro e w' ⟨h, rfl⟩
  exact ⟨h, bel_refl _⟩
theorem neg_Bb {a : Int} {w : World} (ha : rng a) (H : Hold4 w) : Calls Tryz.prog 14 #[.int .i64 a] w fun e w' => e = .returned (.int .i64 (neg a)) ∧ Below w.heap.size w w' := by
  refine (bitsNeg a w H.env.lays ha).mono ?_
  rintro e w' ⟨h, g⟩
  exact ⟨h, g.be⟩
end Go.Proofs.YtobolgmjcebfmaaGreatDoor

/-
  Package round: root, by its contract.
-/
namespace Go.Proofs.YtobolgmjcebfmaaGreatDoor
open Go Go.RowKit Go.Proofs.YtobolgmjcebfmaaGreatDoor.M
set_option linter.unusedSimpArgs false
set_option linter.unusedVariables false

end Go.Proofs.YtobolgmjcebfmaaGreatDoor

/-
  Package round: Root, by its contract; and on numbers told by their worth.
-/
namespace Go.Proofs.YtobolgmjcebfmaaGreatDoor
open Go Go.RowKit Go.Proofs.YtobolgmjcebfmaaGreatDoor.M
set_option linter.unusedSimpArgs false
set_option linter.unusedVariables false

theorem abs_B {b : Int} {w : World} (hb : rng b) (H : Hold4 w) : Calls Tryz.prog 10 #[.int .i64 b] w fun e w' => e = .returned (.int .i64 (abs b)) ∧ Below w.heap.size w w' := by
  refine (bitsAbs b w H.env.lays hb).mono ?_
  rintro e w' ⟨h, g⟩
  exact ⟨h, g.be⟩
end Go.Proofs.YtobolgmjcebfmaaGreatDoor

/-
  Mathematics of whole numbers: a float's whole units, ints as floats, the order of floats in the model.
-/
namespace Go.Proofs.YtobolgmjcebfmaaGreatDoor.M
open Go Ieee
set_option linter.unusedSimpArgs false
set_option linter.unusedVariables false

theorem left_u {A q : Int} {u v : Nat} {l k : Int} (h : Left A u q l) (g : Left A v q k) : ¬ u < v := fun c => by
  have h1 := h.hi
  have h2 := g.lo
  have hq : 0 < q := by have := h.lo; omega
  have h3 : ((u : Int) + 1) * q ≤ (v : Int) * q := Int.mul_le_mul_of_nonneg_right (by omega) (by omega)
  rw [Int.add_mul, Int.one_mul] at h3
  omega
theorem Left.unique {A q : Int} {u v : Nat} {l k : Int} (h : Left A u q l) (g : Left A v q k) : u = v ∧ l = k := by
  have e : u = v := by
    have h1 := left_u h g
    have h2 := left_u g h
    omega
  subst e
  refine ⟨rfl, ?_⟩
  have lo := h.lo
  have hi := h.hi
  obtain ⟨T, hT⟩ : ∃ T, (u : Int) * q = T := ⟨_, rfl⟩
  rw [hT] at lo hi
  have a0 := h.l0
  have a1 := h.l1
  have a2 := h.l2
  have a3 := h.l3
  have b0 := g.l0
  have b1 := g.l1
  have b2 := g.l2
  have b3 := g.l3
  rw [hT] at a0 a1 a2 a3 b0 b1 b2 b3
  by_cases c0 : A = T
  · rw [a0.2 c0, b0.2 c0]
  · by_cases c1 : 2 * A < 2 * T + q
    · rw [a1.2 ⟨by omega, c1⟩, b1.2 ⟨by omega, c1⟩]
    · by_cases c2 : 2 * A = 2 * T + q
      · rw [a2.2 c2, b2.2 c2]
      · rw [a3.2 (by omega), b3.2 (by omega)]
end Go.Proofs.YtobolgmjcebfmaaGreatDoor.M
namespace Go.Proofs.YtobolgmjcebfmaaGreatDoor
open Go Go.RowKit Go.Proofs.YtobolgmjcebfmaaGreatDoor.M Ieee
set_option linter.unusedSimpArgs false
set_option linter.unusedVariables false
end Go.Proofs.YtobolgmjcebfmaaGreatDoor

/-
  Package eft: told, TwoSum, TwoDiff, Split, math.Abs, by their contracts.
-/
namespace Go.Proofs.YtobolgmjcebfmaaGreatDoor
open Go Go.RowKit Go.Proofs.YtobolgmjcebfmaaGreatDoor.M Ieee
set_option linter.unusedSimpArgs false
set_option linter.unusedVariables false

theorem FW.rng {p : Int} {x : Nat} (h : FW p x) : M.rng p := by
  rcases h with ⟨_, h, _⟩ | ⟨rfl, _⟩
  · exact h
  · exact nan_rng
end Go.Proofs.YtobolgmjcebfmaaGreatDoor

/-
  TwoSum, FastTwoSum, Split, TwoProd on patterns: where the second answer is finite nothing gets lost.
-/
namespace Go.Proofs.YtobolgmjcebfmaaGreatDoor
open Go Go.RowKit Go.Proofs.YtobolgmjcebfmaaGreatDoor.M Ieee
set_option linter.unusedSimpArgs false
set_option linter.unusedVariables false

end Go.Proofs.YtobolgmjcebfmaaGreatDoor

/-
  Package eft: math.Abs, FastTwoSum, reachable, TwoProd, by their contracts.
-/
namespace Go.Proofs.YtobolgmjcebfmaaGreatDoor
open Go Go.RowKit Go.Proofs.YtobolgmjcebfmaaGreatDoor.M Ieee
set_option linter.unusedSimpArgs false
set_option linter.unusedVariables false

theorem FW.fin {p : Int} {x : Nat} (h : FW p x) (g : pok p = true) : x = wd p := by
  rcases h with ⟨_, _, h⟩ | ⟨rfl, _⟩
  · exact h
  · rw [nan_no] at g; cases g
end Go.Proofs.YtobolgmjcebfmaaGreatDoor
namespace Go.Proofs.YtobolgmjcebfmaaGreatDoor
open Go Go.RowKit Go.Proofs.YtobolgmjcebfmaaGreatDoor.M Ieee
set_option linter.unusedSimpArgs false
set_option linter.unusedVariables false
/-- Is no bit of the product below the least float? -/
def reach (a b : Int) : Bool := decide (pmag a = 0) || decide (pmag b = 0) || decide (-1074 ≤ pexp a + jz (pmag a) + pexp b + jz (pmag b))
end Go.Proofs.YtobolgmjcebfmaaGreatDoor

/-
  Package eft: reachable, TwoProd, by their contracts; what reachable tells.
-/
namespace Go.Proofs.YtobolgmjcebfmaaGreatDoor
open Go Go.RowKit Go.Proofs.YtobolgmjcebfmaaGreatDoor.M Ieee
set_option linter.unusedSimpArgs false
set_option linter.unusedVariables false

/-- What TwoProd tells as exact. -/
def pX (p q : Int) : Bool := pok (prL p q) && reach p q
end Go.Proofs.YtobolgmjcebfmaaGreatDoor

/-
  plumblaw6: together, size, alive, by their contracts.
-/
namespace Go.Proofs.YtobolgmjcebfmaaGreatDoor
open Go Go.RowKit Go.Proofs.YtobolgmjcebfmaaGreatDoor.M Ieee
set_option linter.unusedSimpArgs false
set_option linter.unusedVariables false

end Go.Proofs.YtobolgmjcebfmaaGreatDoor

/-
  plumblaw6.alive, by its contract: the steps at its constants.
-/
namespace Go.Proofs.YtobolgmjcebfmaaGreatDoor
open Go Go.RowKit Go.Proofs.YtobolgmjcebfmaaGreatDoor.M Ieee
set_option linter.unusedSimpArgs false
set_option linter.unusedVariables false

end Go.Proofs.YtobolgmjcebfmaaGreatDoor

/-
  EftHonest: what the steps tell as exact, as the law asks for it.
-/
namespace Go.Proofs.YtobolgmjcebfmaaGreatDoor
open Go Go.RowKit Go.Proofs.YtobolgmjcebfmaaGreatDoor.M Ieee
set_option linter.unusedSimpArgs false
set_option linter.unusedVariables false

theorem class6 {b : Int} (w : World) (H : Hold4 w) : Calls Tryz.prog 8 #[.int .i64 b] w fun e w' => e = .returned (.int .i64 (cls b)) ∧ Below w.heap.size w w' := by
  refine (bitsClass b w H.env.lays).mono ?_
  rintro e w' ⟨h, g⟩
  exact ⟨h, g.be⟩
end Go.Proofs.YtobolgmjcebfmaaGreatDoor

/-
  What the law on products that are fused wants besides.
-/
namespace Go.Proofs.YtobolgmjcebfmaaGreatDoor
open Go Go.RowKit Go.Proofs.YtobolgmjcebfmaaGreatDoor.M
set_option linter.unusedSimpArgs false
set_option linter.unusedVariables false

theorem way3F {way : Int} (h : rng way) : ∃ k, bits BinOp.and IntKind.i64 way 3 = k ∧ 0 ≤ k ∧ k ≤ 3 := by
  refine ⟨_, rfl, ?_⟩
  rw [bits_and64, show ((3 : Int) % 18446744073709551616).toNat = 2 ^ 2 - 1 from by decide, Nat.and_two_pow_sub_one_eq_mod, wrap_i64_eq]
  omega
theorem fprod_rngF {p q : Int} : rng (fprod p q) := by
  have n0 : rng 9221120237041090561 := by unfold rng; omega
  unfold fprod
  split
  · exact n0
  · split
    · split
      · exact n0
      · exact (patS_rng (by decide) (by decide)).1
    · split
      · exact (patS_rng (by decide) (by decide)).1
      · rename_i h
        refine (nearP_pat ?_).1
        intro e
        apply h
        cases hx : xsg p q <;> rw [hx] at e
        · exact e
        · have : -fsize p q = 0 := e
          omega
theorem mulP_rng {way a b : Int} (ra : rng a) (rb : rng b) : rng (mulP way a b) := by
  unfold mulP
  split
  · exact fprod_rngF
  · split
    · rename_i h
      exact (rdP_pat way h).1
    · exact fprod_rngF
theorem cls_range (a : Int) : 0 ≤ cls a ∧ cls a ≤ 4 := by
  unfold cls
  split
  · split <;> omega
  · split
    · split <;> omega
    · omega
theorem fin_of {a : Int} (h : ¬ cls a > 2) : pok a = true := by
  unfold cls at h
  unfold pok
  split at h
  · split at h <;> omega
  · rename_i hf; simp [hf]
theorem abs_rngF {p : Int} (h : rng p) (c : cls p = 2) : rng (abs p) := by
  rw [abs_rgF (by omega)]
  unfold rng at *
  unfold rg
  split <;> omega
end Go.Proofs.YtobolgmjcebfmaaGreatDoor
