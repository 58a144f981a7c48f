/-
  Package plumbref7, plainly: the ends of a float; lists that are added to from nothing.
-/
import Derived.Test.YtcpjdgfnblkfpaaGreatDoorXH
import Derived.Test.YtcpjdgfnblkfpaaGreatDoorDFl
namespace Go.Proofs.YtcpjdgfnblkfpaaGreatDoor
open Go Go.RowKit Go.Proofs.YtcpjdgfnblkfpaaGreatDoor.M
set_option linter.unusedSimpArgs false
set_option linter.unusedVariables false

/-- The ends of a float: the worth of its lowest bit; the least power of 2 that is greater. -/
theorem ends_eq {b m e : Int} {ng : Bool} (hp : pok b = true) (h0 : pmag b ≠ 0) (h : Dy (sg (pneg b) (pmag b) * pw (pexp b)) ng m e) : e = pexp b + jz (pmag b) ∧ e + blen m = pexp b + blen (pmag b) ∧ 0 < m ∧ m < 9007199254740992 := by
  obtain ⟨i0, i1, i2, i3⟩ := pmag_in hp
  have hm : 0 < pmag b := by omega
  obtain ⟨k, hk, _, _⟩ := jz_spec hm (by omega)
  have hl : IsLow (pmag b) (jz (pmag b)) := ⟨k, by rw [Int.mul_comm]; exact hk⟩
  obtain ⟨c1, c2, c3⟩ := isLow_odd hl hm
  have hD := Dy.of (e := pexp b) (pneg b) hl hm (by omega)
  obtain ⟨_, rfl, rfl⟩ := h.unique hD
  have hle : pmag b / 2 ^ jz (pmag b) ≤ pmag b := Int.ediv_le_self _ (by omega)
  refine ⟨rfl, ?_, c1, by omega⟩
  obtain ⟨p1, p2⟩ := blen_pos c1
  have p3 := blen_lt (pmag b / 2 ^ jz (pmag b))
  have t := two_pos (jz (pmag b))
  have q1 : (2 : Int) ^ (blen (pmag b / 2 ^ jz (pmag b)) - 1) * 2 ^ jz (pmag b) ≤ pmag b / 2 ^ jz (pmag b) * 2 ^ jz (pmag b) := Int.mul_le_mul_of_nonneg_right p2 (by omega)
  have q2 : pmag b / 2 ^ jz (pmag b) * 2 ^ jz (pmag b) < 2 ^ blen (pmag b / 2 ^ jz (pmag b)) * 2 ^ jz (pmag b) := Int.mul_lt_mul_of_pos_right p3 t
  rw [c3, ← Int.pow_add] at q1 q2
  have := blen_of (k := blen (pmag b / 2 ^ jz (pmag b)) - 1 + jz (pmag b)) q1 (by rw [show blen (pmag b / 2 ^ jz (pmag b)) - 1 + jz (pmag b) + 1 = blen (pmag b / 2 ^ jz (pmag b)) + jz (pmag b) by omega]; exact q2)
  omega
/-- What is no nought, is none, by its class. -/
theorem cls_nought {b : Int} (hb : rng b) : cls b = 0 ↔ rg b = 0 := by
  have h1 := q_cls hb
  rw [← h1]
  constructor
  · intro h
    have hr := (q_rg hb).1
    have h0 : 0 ≤ rg b := (q_rg hb).2
    generalize rg b = r at *
    unfold rng at hr
    unfold cls fld frc at h
    split at h
    · split at h <;> omega
    · split at h
      · split at h
        · omega
        · omega
      · omega
  · intro h; rw [h]; decide
theorem Ls.same.refl (s : Ls) : s.same s := ⟨rfl, fun _ _ => rfl⟩
theorem Ls.same.symm {s t : Ls} (h : s.same t) : t.same s := ⟨h.1.symm, fun i hi => (h.2 i (by rw [h.1]; exact hi)).symm⟩
theorem Ls.same.trans {s t u : Ls} (h : s.same t) (k : t.same u) : s.same u := ⟨h.1.trans k.1, fun i hi => (h.2 i hi).trans (k.2 i (by rw [← h.1]; exact hi))⟩
/-- Grow hangs on the list's floats alone. -/
theorem gq_same {d f : Nat → Int} {q : Int} {n : Nat} (h : ∀ i, i < n → d i = f i) : ∀ k, k ≤ n → gq d q k = gq f q k
  | 0, _ => rfl
  | k + 1, hk => by
    show fsum (gq d q k) (d k) = fsum (gq f q k) (f k)
    rw [gq_same h k (by omega), h k (by omega)]
theorem gl_same {d f : Nat → Int} {q : Int} {n : Nat} (h : ∀ i, i < n → d i = f i) (k : Nat) (hk : k < n) : gl d q k = gl f q k := by
  unfold gl
  rw [gq_same h k (by omega), h k hk]
theorem gx_same {d f : Nat → Int} {q : Int} {n : Nat} (h : ∀ i, i < n → d i = f i) : ∀ k, k ≤ n → gx d q k = gx f q k
  | 0, _ => rfl
  | k + 1, hk => by
    show (gx d q k && pok (gl d q k)) = (gx f q k && pok (gl f q k))
    rw [gx_same h k (by omega), gl_same h k (by omega)]
theorem gs_same {d f : Nat → Int} {q : Int} {n : Nat} (h : ∀ i, i < n → d i = f i) : ∀ k, k ≤ n → (gs d q k).same (gs f q k)
  | 0, _ => ⟨rfl, fun i hi => absurd hi (Nat.not_lt_zero _)⟩
  | k + 1, hk => by
    show ((gs d q k).add (gl d q k)).same ((gs f q k).add (gl f q k))
    rw [gl_same h k (by omega)]
    exact (gs_same h k (by omega)).add _
theorem grw_same {d f : Nat → Int} {q : Int} {n : Nat} (h : ∀ i, i < n → d i = f i) : (grw n d q).same (grw n f q) := by
  unfold grw
  rw [gq_same h n (Nat.le_refl _)]
  exact (gs_same h n (Nat.le_refl _)).add _
theorem ss_same {s t : Ls} (h : s.same t) (d : Nat → Int) (b : Int) : ∀ k, (ss s d b k).same (ss t d b k)
  | 0 => h.add _
  | k + 1 => ((ss_same h d b k).add _).add _
theorem gaS_same {s t : Ls} (h : s.same t) {f g : Nat → Int} {m : Nat} (hf : ∀ i, i < m → f i = g i) : ∀ k, k ≤ m → (gaS s f k).same (gaS t g k) ∧ gaX s f k = gaX t g k
  | 0, _ => ⟨h, rfl⟩
  | k + 1, hk => by
    obtain ⟨h1, h2⟩ := gaS_same h hf k (by omega)
    rw [gaS_succ, gaS_succ, gaX_succ, gaX_succ, h2, hf k (by omega), ← h1.1, gx_same h1.2 _ (Nat.le_refl _)]
    exact ⟨grw_same h1.2, rfl⟩
theorem sclN_le (d : Nat → Int) (b : Int) : ∀ n, (sclN d b n).n ≤ 2 * n
  | 0 => Nat.le_refl _
  | n + 1 => by
    show (if rg b = 0 then (⟨0, fun _ => 0⟩ : Ls) else scl ⟨0, fun _ => 0⟩ d b n).n ≤ _
    split
    · exact Nat.zero_le _
    · have h1 := ss_le ⟨0, fun _ => 0⟩ d b n
      have h2 := ((ss ⟨0, fun _ => 0⟩ d b n).add_le (sq d b n)).2
      have h1' : (ss ⟨0, fun _ => 0⟩ d b n).n ≤ 0 + 2 * n + 1 := h1
      show ((ss ⟨0, fun _ => 0⟩ d b n).add (sq d b n)).n ≤ _
      omega
end Go.Proofs.YtcpjdgfnblkfpaaGreatDoor
