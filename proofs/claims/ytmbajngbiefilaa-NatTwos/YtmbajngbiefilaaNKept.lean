/-
  What is kept, with the blocks it lies in (Kept); Keep.Add and answer of a number (An); Lent and Back.
-/
import Derived.Test.YtmbajngbiefilaaNKeep
import Derived.Test.YtmbajngbiefilaaNRef2
namespace Go.Proofs.Ytmbajngbiefilaa
open Go Go.RowKit Go.Proofs.Ytmbajngbiefilaa.M
set_option linter.unusedSimpArgs false
set_option linter.unusedVariables false

/-- What is kept: all its answers and copies lie in blocks of S. -/
def Kept (B : Nat) (w : World) (k : Nat) (S : Nat → Prop) : Prop :=
  ∃ m v u n d, m ≤ 400 ∧ Kp B w k m v u n d ∧ (∀ i, i < m → ∀ g, (v i).ownBlock = some g → S g) ∧ (∀ i, i < m → ∀ g, (u i).ownBlock = some g → S g)
theorem Kept.keeps {B : Nat} {w w' : World} {k : Nat} {S : Nat → Prop} (h : Kept B w k S) (hb : Below w.heap.size w w') : Kept B w' k S := by
  obtain ⟨m, v, u, n, d, hm, hk, h1, h2⟩ := h
  exact ⟨m, v, u, n, d, hm, hk.keeps hb, h1, h2⟩
theorem Kept.mono {B : Nat} {w : World} {k : Nat} {S S' : Nat → Prop} (h : Kept B w k S) (hS : ∀ g, S g → S' g) : Kept B w k S' := by
  obtain ⟨m, v, u, n, d, hm, hk, h1, h2⟩ := h
  exact ⟨m, v, u, n, d, hm, hk, fun i hi g hg => hS g (h1 i hi g hg), fun i hi g hg => hS g (h2 i hi g hg)⟩
theorem Kept.old {B : Nat} {w : World} {k : Nat} {S : Nat → Prop} (h : Kept B w k S) : Kept B w k (fun g => g < w.heap.size) := by
  obtain ⟨m, v, u, n, d, hm, hk, h1, h2⟩ := h
  exact ⟨m, v, u, n, d, hm, hk, fun i hi g hg => ((hk.ans i hi).ge hg).2, fun i hi g hg => ((hk.was i hi).ge hg).2⟩
theorem Kept.wr {B : Nat} {w w' : World} {k g : Nat} {S : Nat → Prop} (h : Kept B w k S) (hw : Wr g w w') (hS : ¬ S g) {cur : Array Value} {z : Nat × Nat} (ht : w.heap[g]? = some (.cells cur 3 z)) : Kept B w' k S := by
  obtain ⟨m, v, u, n, d, hm, ⟨⟨x, y, hk, hx, hy, hxy⟩, hge, hans, hwas, hlen, hapart⟩, h1, h2⟩ := h
  refine ⟨m, v, u, n, d, hm, ⟨⟨x, y, (hw.block k (Array.getElem?_eq_some_iff.1 hk).1 fun e => ?_).trans hk, hx.of_block fun g' hg => hw.block g' (hx.ge hg).2 fun e => ?_, hy.of_block fun g' hg => hw.block g' (hy.ge hg).2 fun e => ?_, hxy⟩, hge, fun i hi => (hans i hi).of_block fun g' hg => hw.block g' ((hans i hi).ge hg).2 fun e => hS (e ▸ h1 i hi g' hg), fun i hi => (hwas i hi).of_block fun g' hg => hw.block g' ((hwas i hi).ge hg).2 fun e => hS (e ▸ h2 i hi g' hg), hlen, hapart⟩, h1, h2⟩
  · subst e; rw [ht] at hk; simp at hk
  · subst e; obtain ⟨c', z', hc⟩ := hx.typed hg; rw [ht] at hc; simp at hc
  · subst e; obtain ⟨c', z', hc⟩ := hy.typed hg; rw [ht] at hc; simp at hc
/-- A number's list, from B on. -/
def An (B : Nat) (w : World) (v : Value) (V : Int) : Prop := ∃ t d, Out B w v t d ∧ Nrm d t ∧ val d t = V
theorem An.ik {B B' : Nat} {w w' : World} {v : Value} {V : Int} (h : An B w v V) (k : Ik B' w w') : An B w' v V := by
  obtain ⟨t, d, h1, h2⟩ := h
  exact ⟨t, d, h1.ik k, h2⟩
theorem An.keeps {B : Nat} {w w' : World} {v : Value} {V : Int} (h : An B w v V) (k : Below w.heap.size w w') : An B w' v V := by
  obtain ⟨t, d, h1, h2⟩ := h
  exact ⟨t, d, h1.stays k, h2⟩
theorem An.lower {B B' : Nat} {w : World} {v : Value} {V : Int} (h : An B w v V) (hB : B' ≤ B) : An B' w v V := by
  obtain ⟨t, d, h1, h2⟩ := h
  exact ⟨t, d, h1.lower hB, h2⟩
theorem An.nil (B : Nat) (w : World) : An B w (.slice none 0 0) 0 := ⟨0, fun _ => 0, Out.nil _ _ _, ⟨fun i hi => by omega, .inl rfl⟩, rfl⟩
theorem Ans.an {w w' : World} {V : Int} {v : Value} (h : Ans w w' V v) : An w.heap.size w' v V := by
  obtain ⟨t, d, h1, h2, h3, h4⟩ := h
  exact ⟨t, d, h1, h2, h3⟩
theorem An.shape {B : Nat} {w : World} {v : Value} {V : Int} (h : An B w v V) : ∃ ao n cap, v = .slice ao n cap := by
  obtain ⟨t, d, h1, h2⟩ := h
  obtain ⟨ao, cap, e, _⟩ := h1.row
  exact ⟨ao, t, cap, e⟩
theorem An.num {B : Nat} {w : World} {v : Value} {V : Int} (h : An B w v V) : Num w v V := by
  obtain ⟨t, d, h1, h2, h3⟩ := h
  obtain ⟨ao, cap, rfl, hR⟩ := h1.row
  exact ⟨ao, t, cap, d, rfl, hR, h2, h3⟩
theorem An.ge {B : Nat} {w : World} {v : Value} {V : Int} (h : An B w v V) {g : Nat} (hg : v.ownBlock = some g) : B ≤ g ∧ g < w.heap.size := by
  obtain ⟨t, d, h1, h2, h3⟩ := h
  exact h1.ge hg
/-- The blocks behind an Add. -/
def S2 (S : Nat → Prop) (l : Value) (s : Nat) : Nat → Prop := fun g => S g ∨ l.ownBlock = some g ∨ s ≤ g
theorem keep_an {B k : Nat} {w : World} {S : Nat → Prop} {l x : Value} {V : Int} (h : Kept B w k S) (hl : An B w l V) (hx : An B w x V) (K : Nat) (hK : K ≤ 100000) (hV : V < P K) (hB : B ≤ w.heap.size) (hap : ∀ g, l.ownBlock = some g → ¬ S g) :
    Calls Try.prog 13 #[.pointer (some ⟨k, 0, none⟩), l, x] w fun e w' => e = .returned (.bool true) ∧ Ik B w w' ∧ Kept B w' k (S2 S l w.heap.size) := by
  obtain ⟨m, v, u, n, d, hm, hk, h1, h2⟩ := h
  have hl0 := hl.num
  obtain ⟨t, ld, hO, hN, hv⟩ := hl
  obtain ⟨t', ld', hO', hN', hv'⟩ := hx
  obtain ⟨rfl, he⟩ := nrm_inj hN hN' (hv.trans hv'.symm)
  obtain ⟨lo, lc, rfl, hR⟩ := hO.row
  obtain ⟨xo, xc, rfl, hR'⟩ := hO'.row
  refine (keepAdd_any B k m v u n d w hk lo t lc ld hO xo xc (hO'.congr fun i hi => (he i hi).symm) (Nat.le_trans (hl0.len hV) hK) hB (fun i hi g hg hg' => hap g hg' (h1 i hi g hg))).mono ?_
  rintro e w' ⟨rfl, hi, hc⟩
  refine ⟨rfl, hi, ?_⟩
  rcases hc with ⟨h4, c, hn, hk'⟩ | hk'
  · refine ⟨m + 1, _, _, _, _, h4, hk', fun i hi' g hg => ?_, fun i hi' g hg => ?_⟩
    · by_cases e : i = m
      · subst e; rw [updV_same] at hg; exact .inr (.inl hg)
      · rw [updV_other _ _ e] at hg; exact .inl (h1 i (by omega) g hg)
    · by_cases e : i = m
      · subst e; rw [updV_same] at hg; exact .inr (.inr (hn g hg))
      · rw [updV_other _ _ e] at hg; exact .inl (h2 i (by omega) g hg)
  · exact ⟨m, v, u, n, d, hm, hk', fun i hi' g hg => .inl (h1 i hi' g hg), fun i hi' g hg => .inl (h2 i hi' g hg)⟩
/-- A list and an error, of a number that may be too long. -/
def FitA (B : Nat) (w : World) (V : Int) (v : Value) (er : Int) : Prop := (V < P 2000 ∧ er = 0 ∧ An B w v V) ∨ (P 2000 ≤ V ∧ er = 2 ∧ v = .slice none 0 0)
theorem Fit.fitA {w w' : World} {V er : Int} {v : Value} (h : Fit w w' V v er) : FitA w.heap.size w' V v er := by
  rcases h.2 with ⟨h1, h2, h3⟩ | h
  · exact .inl ⟨h1, h2, h3.an⟩
  · exact .inr h
theorem FitA.ik {B B' : Nat} {w w' : World} {v : Value} {V er : Int} (h : FitA B w V v er) (k : Ik B' w w') : FitA B w' V v er := by
  rcases h with ⟨h1, h2, h3⟩ | h
  · exact .inl ⟨h1, h2, h3.ik k⟩
  · exact .inr h
theorem FitA.keeps {B : Nat} {w w' : World} {v : Value} {V er : Int} (h : FitA B w V v er) (k : Below w.heap.size w w') : FitA B w' V v er := by
  rcases h with ⟨h1, h2, h3⟩ | h
  · exact .inl ⟨h1, h2, h3.keeps k⟩
  · exact .inr h
theorem FitA.lower {B B' : Nat} {w : World} {v : Value} {V er : Int} (h : FitA B w V v er) (hB : B' ≤ B) : FitA B' w V v er := by
  rcases h with ⟨h1, h2, h3⟩ | h
  · exact .inl ⟨h1, h2, h3.lower hB⟩
  · exact .inr h
theorem FitA.ge {B : Nat} {w : World} {v : Value} {V er : Int} (h : FitA B w V v er) {g : Nat} (hg : v.ownBlock = some g) : B ≤ g ∧ g < w.heap.size := by
  rcases h with ⟨h1, h2, h3⟩ | ⟨_, _, rfl⟩
  · exact h3.ge hg
  · simp [Value.ownBlock] at hg
theorem FitA.shape {B : Nat} {w : World} {v : Value} {V er : Int} (h : FitA B w V v er) : ∃ ao n cap, v = .slice ao n cap := by
  rcases h with ⟨h1, h2, h3⟩ | ⟨_, _, rfl⟩
  · exact h3.shape
  · exact ⟨_, _, _, rfl⟩
set_option maxRecDepth 100000 in
theorem answer_any {B k : Nat} {w : World} {S : Nat → Prop} {l x : Value} {V er : Int} (h : Kept B w k S) (hl : FitA B w V l er) (hx : An B w x V) (hB : B ≤ w.heap.size) (hap : ∀ g, l.ownBlock = some g → ¬ S g) :
    Calls Try.prog 28 #[.pointer (some ⟨k, 0, none⟩), l, .int .i64 er, x] w fun e w' => e = .returned (.bool true) ∧ Ik B w w' ∧ Kept B w' k (S2 S l w.heap.size) := by
  have hx0 := hx
  obtain ⟨t, d, hO, hN, hv⟩ := hx
  obtain ⟨xo, xc, rfl, hR⟩ := hO.row
  have HK : Hid (Kept B w k S) := h
  have HA : Hid (∀ g, l.ownBlock = some g → ¬ S g) := hap
  clear h hap
  by_cases ht : 2000 < t
  · have hV : P 2000 ≤ V := by
      have a := val_top hN.1 (by omega) hN.2
      have b := P_le (show 2000 ≤ t - 1 by omega)
      rw [hv] at a
      exact Int.le_trans b a
    rcases hl with ⟨h1, _⟩ | ⟨_, rfl, rfl⟩
    · exact absurd hV (Int.not_le.2 h1)
    · have HC : Hid (Calls Try.prog 13 #[.pointer (some ⟨k, 0, none⟩), .slice none 0 0, .slice none 0 0] w fun e w' => e = .returned (.bool true) ∧ Ik B w w' ∧ Kept B w' k (S2 S (.slice none 0 0) w.heap.size)) :=
        keep_an HK.out (An.nil _ _) (An.nil _ _) 1 (by decide) (by decide) hB HA.out
      have e1 : fitV xo t xc = .slice none 0 0 := by simp [fitV, ht]
      have e2 : fitE t = 2 := by simp [fitE, ht]
      have HR : Hid (Calls Try.prog 38 #[.slice xo t xc] w fun e w' => e = .returned (.tuple #[.slice none 0 0, .int .i64 2]) ∧ w' = w) := by
        have := ranswer_any xo t xc w
        rw [e1, e2] at this
        exact this
      clear e1 e2 hV hN hv hO hx0 HK HA
      go_enter Try.func28, Try.ntmps28
      go_wp2_with fail
      refine HR.out.mono ?_
      rintro e w' ⟨rfl, rfl⟩
      go_wp2_with fail
      refine HC.out.mono ?_
      rintro e w' ⟨rfl, hi, hk⟩
      go_wp2
      go_ret
      exact ⟨rfl, hi, hk⟩
  · have hV : V < P 2000 := by
      have a := val_lt hN.1
      rw [hv] at a
      exact Int.lt_of_lt_of_le a (P_le (by omega))
    rcases hl with ⟨_, rfl, hl⟩ | ⟨h1, _⟩
    · have HC : Hid (Calls Try.prog 13 #[.pointer (some ⟨k, 0, none⟩), l, .slice xo t xc] w fun e w' => e = .returned (.bool true) ∧ Ik B w w' ∧ Kept B w' k (S2 S l w.heap.size)) :=
        keep_an HK.out hl hx0 2000 (by decide) hV hB HA.out
      have e1 : fitV xo t xc = .slice xo t xc := by simp [fitV, ht]
      have e2 : fitE t = 0 := by simp [fitE, ht]
      have HR : Hid (Calls Try.prog 38 #[.slice xo t xc] w fun e w' => e = .returned (.tuple #[.slice xo t xc, .int .i64 0]) ∧ w' = w) := by
        have := ranswer_any xo t xc w
        rw [e1, e2] at this
        exact this
      obtain ⟨lo, ln, lc, rfl⟩ := hl.shape
      clear e1 e2 hV hN hv hO hx0 HK HA hl
      go_enter Try.func28, Try.ntmps28
      go_wp2_with fail
      refine HR.out.mono ?_
      rintro e w' ⟨rfl, rfl⟩
      go_wp2_with fail
      refine HC.out.mono ?_
      rintro e w' ⟨rfl, hi, hk⟩
      go_wp2
      go_ret
      exact ⟨rfl, hi, hk⟩
    · exact absurd hV (Int.not_lt.2 h1)
/-- A lent list: three marks behind it. -/
def lentD (a : Nat → Int) (n : Nat) : Nat → Int := cat a n (fun i => -71 - (i : Int))
theorem row3 (w : World) (x y z : Int) (f : Nat → Int) (h0 : f 0 = x) (h1 : f 1 = y) (h2 : f 2 = z) {g : Nat} (hg : g = w.heap.size) : Row (w.alloc (.cells #[.int .i64 x, .int .i64 y, .int .i64 z] 3)) (some ⟨g, 0, none⟩) 3 3 f := by
  subst hg
  refine (Blk.new w #[.int .i64 x, .int .i64 y, .int .i64 z] f (fun i hi => ?_)).row0 (Nat.le_refl _) (show 3 ≤ 9223372036854775807 by decide)
  match i, hi with
  | 0, _ => rw [h0]; rfl
  | 1, _ => rw [h1]; rfl
  | 2, _ => rw [h2]; rfl
theorem lentD_lt (a : Nat → Int) {n i : Nat} (h : i < n) : lentD a n i = a i := by simp [lentD, cat, h]
theorem lentD_marks (a : Nat → Int) (n : Nat) : lentD a n n = -71 ∧ lentD a n (n + 1) = -72 ∧ lentD a n (n + 2) = -73 := by
  refine ⟨by simp [lentD, cat], by simp [lentD, cat]; omega, by simp [lentD, cat]; omega⟩
/-- What Lent answers: a block of its own. -/
def LentA (w w' : World) (v : Value) (n : Nat) (a : Nat → Int) : Prop := ∃ g cap, v = .slice (some ⟨g, 0, none⟩) (n + 3) cap ∧ Out w.heap.size w' v (n + 3) (lentD a n) ∧ Below w.heap.size w w'
set_option maxRecDepth 100000 in
theorem lent_any (ao : Option Addr) (n ca : Nat) (a : Nat → Int) (w : World) (ha : Row w ao n ca a) (hn : n ≤ 100000) :
    Calls Try.prog 24 #[.slice ao n ca] w fun e w' => ∃ v, e = .returned v ∧ LentA w w' v n a := by
  go_enter Try.func24, Try.ntmps24
  go_wp2_with (first
    | (at_builtin
       have _t := hO1
       (refine wpList_app rfl _ _ rfl w.heap.size _ n a rfl (hO1.stays (bel_alloc _ _)) _ 3 3 (fun i => -71 - (i : Int)) rfl (row3 _ (-71) (-72) (-73) _ rfl rfl rfl rfl) (by omega) (by have := hg1.size; simp; omega) ?_)
       intro v2 w2 hO2 hg2)
    | (at_builtin
       (
       refine wpList_app rfl _ _ rfl w.heap.size _ 0 a rfl (Out.nil _ _ _) _ n ca a rfl ha (by omega) (Nat.le_refl _) ?_
       intro v1 w1 hO0 hg1
       have hO1 : Out w.heap.size w1 v1 n a := by rw [Nat.zero_add] at hO0; exact hO0.congr fun i hi => by simp [cat]
       clear hO0)))
  go_ret
  have hb1 : Below w.heap.size w w1 := grown_below hg1
  have hb2 : Below w.heap.size w w2 := (hb1.alloc hb1.size _).grown hg2 (by have := hb1.size; simp; omega) (own_ge hO1)
  obtain ⟨so, sc, rfl, _⟩ := hO2.row
  obtain ⟨g, rfl, _⟩ := hO2.spot (by omega)
  exact ⟨_, rfl, g, sc, rfl, hO2, hb2⟩
end Go.Proofs.Ytmbajngbiefilaa
