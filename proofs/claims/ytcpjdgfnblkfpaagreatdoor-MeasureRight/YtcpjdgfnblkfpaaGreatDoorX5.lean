/-
  Package expansion: own, gather, grown, sum, by their contracts.
-/
import Derived.Test.YtcpjdgfnblkfpaaGreatDoorX4
namespace Go.Proofs.YtcpjdgfnblkfpaaGreatDoor
open Go Go.RowKit Go.Proofs.YtcpjdgfnblkfpaaGreatDoor.M
set_option linter.unusedSimpArgs false
set_option linter.unusedVariables false

/-- All finite. -/
def Ls.fin (s : Ls) : Prop := ∀ i, i < s.n → rng (s.d i) ∧ pok (s.d i) = true
theorem Ls.fin.add {s : Ls} (h : s.fin) {b : Int} (hb : rng b) (pb : pok b = true) : (s.add b).fin := by
  unfold Ls.add
  split
  · exact h
  · intro i hi
    show rng (upd s.d s.n b i) ∧ pok (upd s.d s.n b i) = true
    by_cases e : i = s.n
    · subst e; rw [upd_same]; exact ⟨hb, pb⟩
    · rw [upd_other _ _ e]
      exact h i (by have : i < s.n + 1 := hi; omega)
theorem gs_fin {d : Nat → Int} {q : Int} {n : Nat} (hd : ∀ i, i < n → rng (d i) ∧ pok (d i) = true) (hq : rng q) (pq : pok q = true) : ∀ k, k ≤ n → gx d q k = true → (gs d q k).fin
  | 0, _, _ => fun i hi => absurd hi (Nat.not_lt_zero _)
  | k + 1, hk, hx => by
    have hx' : (gx d q k && pok (gl d q k)) = true := hx
    rw [Bool.and_eq_true] at hx'
    obtain ⟨r1, r2⟩ := gq_fin hd hq pq k (by omega) hx'.1
    exact (gs_fin hd hq pq k (by omega) hx'.1).add (sL_rng r1 (hd k (by omega)).1) hx'.2
theorem grw_fin {s : Ls} {q : Int} (hs : s.fin) (hq : rng q) (pq : pok q = true) (hx : gx s.d q s.n = true) : (grw s.n s.d q).fin := by
  obtain ⟨r1, r2⟩ := gq_fin hs hq pq s.n (Nat.le_refl _) hx
  exact (gs_fin hs hq pq s.n (Nat.le_refl _) hx).add r1 r2
theorem grw_le (n : Nat) (d : Nat → Int) (q : Int) : (grw n d q).n ≤ n + 1 := by
  have h1 := gs_le d q n
  have h2 := ((gs d q n).add_le (gq d q n)).2
  show ((gs d q n).add _).n ≤ n + 1
  omega
/-- Each float of a list grown into another one. -/
def gaS (s : Ls) (f : Nat → Int) : Nat → Ls
  | 0 => s
  | k + 1 => grw (gaS s f k).n (gaS s f k).d (f k)
def gaX (s : Ls) (f : Nat → Int) : Nat → Bool
  | 0 => true
  | k + 1 => gaX s f k && gx (gaS s f k).d (f k) (gaS s f k).n
theorem gaS_le (s : Ls) (f : Nat → Int) : ∀ k, (gaS s f k).n ≤ s.n + k
  | 0 => Nat.le_refl _
  | k + 1 => by
    have h1 := gaS_le s f k
    have h2 := grw_le (gaS s f k).n (gaS s f k).d (f k)
    show (grw _ _ _).n ≤ s.n + (k + 1)
    omega
theorem gaX_mono {s : Ls} {f : Nat → Int} : ∀ {k j}, j ≤ k → gaX s f k = true → gaX s f j = true
  | 0, j, h, hx => by
    obtain rfl : j = 0 := by omega
    rfl
  | k + 1, j, h, hx => by
    by_cases e : j = k + 1
    · subst e; exact hx
    · have : (gaX s f k && gx (gaS s f k).d (f k) (gaS s f k).n) = true := hx
      rw [Bool.and_eq_true] at this
      exact gaX_mono (by omega) this.1
theorem gaS_fin {s : Ls} {f : Nat → Int} {m : Nat} (hs : s.fin) (hf : ∀ i, i < m → rng (f i) ∧ pok (f i) = true) : ∀ k, k ≤ m → gaX s f k = true → (gaS s f k).fin
  | 0, _, _ => hs
  | k + 1, hk, hx => by
    have hx' : (gaX s f k && gx (gaS s f k).d (f k) (gaS s f k).n) = true := hx
    rw [Bool.and_eq_true] at hx'
    obtain ⟨r1, r2⟩ := hf k (by omega)
    exact grw_fin (gaS_fin hs hf k (by omega) hx'.1) r1 r2 hx'.2
set_option maxRecDepth 100000 in
theorem xown_some {ad : Addr} {n cap : Nat} {d : Nat → Int} (w : World) (h : Row w (some ad) n cap d) (h0 : 0 < n) (hn : n ≤ 700000) :
    Calls Tryz.prog 83 #[.slice (some ad) n cap] w fun e w' => ∃ v', e = .returned v' ∧ Out w.heap.size w' v' n d ∧ w.grownBy w' none := by
  obtain ⟨i0, hi, hz0, hz1, hz2⟩ := info_parts info_int
  obtain ⟨b, off, e0, hb, hc⟩ := h.spot h0
  have hle := h.le
  have hmx := h.max
  simp only [Option.some.injEq] at e0
  subst e0
  go_enter Tryz.func83, Tryz.ntmps83
  go_wp2_with (at_builtin; refine wpList_append_grows _ rfl _ _ 35 rfl 3 i0 (.int .i64 0) 1 8 Tryz.underlying35 hi hz0 hz1 hz2 rfl (by decide) _ 0 0 [] rfl (fun q => ⟨rfl, rfl⟩) rfl (fun _ _ j u hu => by simp at hu) _ n cap (vals d n) rfl (by rw [vals_length]; omega) (by intro j u hu; have hj : j < n := (by have := (List.getElem?_eq_some_iff.1 hu).1; rwa [vals_length] at this); rw [vals_get d hj] at hu; rw [add_none, hc j hj]; exact hu) (vals_one d n) (by omega) (by unfold maxLen; omega) (by omega) ?_; intro v' w1 hO1 hg1)
  go_ret
  refine ⟨v', rfl, ?_, hg1⟩
  rw [Nat.zero_add, List.nil_append] at hO1
  exact hO1
end Go.Proofs.YtcpjdgfnblkfpaaGreatDoor
