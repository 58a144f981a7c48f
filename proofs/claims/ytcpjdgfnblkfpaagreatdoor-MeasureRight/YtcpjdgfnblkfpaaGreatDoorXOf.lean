/-
  Plain mathematics for the first stages of package orient: what the filter, the heads and the tails may be off.
-/
import Derived.Test.YtcpjdgfnblkfpaaGreatDoorXOm
namespace Go.Proofs.YtcpjdgfnblkfpaaGreatDoor
open Go Go.RowKit Go.Proofs.YtcpjdgfnblkfpaaGreatDoor.M
set_option linter.unusedSimpArgs false
set_option linter.unusedVariables false

/-- h stands for S up to a part of 2^53 of either. -/
def Un (S h : Int) : Prop := 9007199254740992 * ((h - S).natAbs : Int) ≤ (S.natAbs : Int) ∧ 9007199254740992 * ((h - S).natAbs : Int) ≤ (h.natAbs : Int)
theorem nr_Un_pos {S h : Int} (n : Nr S h) (h0 : 0 ≤ S) : Un S h := by
  obtain ⟨k, h1, h2⟩ := binade S h0
  rcases h2 with h2 | h2
  · subst h2
    have e := nr_self ⟨0, ⟨S, by rw [Int.pow_zero]; omega⟩, by omega⟩ n
    subst e
    rw [Un, Int.sub_self]
    simp
  · have c := nr_err n (i := k) (by omega)
    have g := nr_ge n (fl_p2 k (m := 4503599627370496) (by decide)) h2
    have p0 := p2 k
    generalize (2 : Int) ^ k = q at *
    have g' : 4503599627370496 * q ≤ h := g
    constructor <;> omega
theorem nr_Un {S h : Int} (n : Nr S h) : Un S h := by
  by_cases h0 : 0 ≤ S
  · exact nr_Un_pos n h0
  · have := nr_Un_pos n.neg (by omega)
    unfold Un at *
    omega
theorem Un.scale {S h : Int} (u : Un S h) {c : Int} (hc : 0 ≤ c) : Un (c * S) (c * h) := by
  have e : ∀ x : Int, ((c * x).natAbs : Int) = c * (x.natAbs : Int) := fun x => by
    rw [Int.natAbs_mul, Int.natCast_mul]
    congr 1
    omega
  rw [Un, ← Int.mul_sub, e, e, e, ← Int.mul_assoc, Int.mul_comm 9007199254740992 c, Int.mul_assoc]
  exact ⟨Int.mul_le_mul_of_nonneg_left u.1 hc, Int.mul_le_mul_of_nonneg_left u.2 hc⟩
theorem abs_mul (x y : Int) : ((x * y).natAbs : Int) = (x.natAbs : Int) * (y.natAbs : Int) := by rw [Int.natAbs_mul, Int.natCast_mul]
/-- A part of a product. -/
theorem part_l {u e v : Int} (h : 9007199254740992 * (e.natAbs : Int) ≤ (u.natAbs : Int)) : 9007199254740992 * ((e * v).natAbs : Int) ≤ ((u * v).natAbs : Int) := by
  rw [abs_mul, abs_mul, ← Int.mul_assoc]
  exact Int.mul_le_mul_of_nonneg_right h (by omega)
theorem part_r {u e v : Int} (h : 9007199254740992 * (e.natAbs : Int) ≤ (u.natAbs : Int)) : 9007199254740992 * ((v * e).natAbs : Int) ≤ ((v * u).natAbs : Int) := by
  rw [Int.mul_comm v e, Int.mul_comm v u]
  exact part_l h
/-- The product of the differences against that of their floats. -/
theorem dev_prod {x y u v : Int} (hu : Un x u) (hv : Un y v) : 81129638414606681695789005144064 * ((x * y - u * v).natAbs : Int) ≤ 18014398509481985 * ((u * v).natAbs : Int) := by
  obtain ⟨e, he⟩ : ∃ e, x = u + e := ⟨x - u, by omega⟩
  obtain ⟨f, hf⟩ : ∃ f, y = v + f := ⟨y - v, by omega⟩
  have h1 : 9007199254740992 * (e.natAbs : Int) ≤ (u.natAbs : Int) := by have := hu.2; omega
  have h2 : 9007199254740992 * (f.natAbs : Int) ≤ (v.natAbs : Int) := by have := hv.2; omega
  have a1 := part_l (v := v) h1
  have a2 := part_r (v := u) h2
  have a3 := part_r (v := e) h2
  have ee : x * y - u * v = u * f + e * v + e * f := by
    rw [he, hf, Int.add_mul, Int.mul_add, Int.mul_add]
    omega
  rw [ee]
  generalize u * f = A at *
  generalize e * v = B at *
  generalize e * f = C at *
  generalize u * v = D at *
  omega
/-- What the heads may be off. -/
theorem dev_heads {x1 y1 x2 y2 u1 v1 u2 v2 L R S : Int} (h1 : Un x1 u1) (h2 : Un y2 v2) (h3 : Un y1 v1) (h4 : Un x2 u2) (hL : Un (u1 * v2) L) (hR : Un (v1 * u2) R) (hS : Un ((L.natAbs : Int) + (R.natAbs : Int)) S) :
    9007199254740992 * (((u1 * v2).natAbs : Int) + ((v1 * u2).natAbs : Int)) ≤ 9007199254740993 * ((L.natAbs : Int) + (R.natAbs : Int)) ∧ 9007199254740992 * ((L.natAbs : Int) + (R.natAbs : Int)) ≤ 9007199254740993 * S ∧ 0 ≤ S ∧
    81129638414606681695789005144064 * (((x1 * y2 - y1 * x2) - (u1 * v2 - v1 * u2)).natAbs : Int) ≤ 18014398509481985 * (((u1 * v2).natAbs : Int) + ((v1 * u2).natAbs : Int)) := by
  have d1 := dev_prod h1 h2
  have d2 := dev_prod h3 h4
  have l := hL.2
  have r := hR.2
  have s := hS.2
  have s' := hS.1
  generalize u1 * v2 = A at *
  generalize v1 * u2 = B at *
  generalize x1 * y2 = C at *
  generalize y1 * x2 = D at *
  refine ⟨by omega, by omega, by omega, by omega⟩
/-- A number near another one has its sign. -/
theorem k_sg {X Z D : Int} (hD : Un Z D) (h : ((X - Z).natAbs : Int) < (Z.natAbs : Int)) : (0 < X ↔ 0 < D) ∧ (X < 0 ↔ D < 0) := by
  have d := hD.1
  omega
theorem k_tri {X H Z : Int} : ((X - Z).natAbs : Int) ≤ ((X - H).natAbs : Int) + ((H - Z).natAbs : Int) := by omega
theorem k_two {A B L R : Int} (hA : Un A L) (hB : Un B R) : 9007199254740992 * (((A - B) - (L - R)).natAbs : Int) ≤ (L.natAbs : Int) + (R.natAbs : Int) := by
  have a := hA.2
  have b := hB.2
  omega
theorem k_lowM {T M : Int} (h : Un T M) (t : 0 ≤ T) : 9007199254740991 * T ≤ 9007199254740992 * M := by
  have := h.1
  omega
theorem k_lowD {Z D : Int} (h : Un Z D) : 9007199254740991 * (D.natAbs : Int) ≤ 9007199254740992 * (Z.natAbs : Int) := by
  have := h.2
  omega
theorem kf_ch {a b c d X Y Z : Int} (hb : 0 ≤ b) (hc : 0 ≤ c) (h1 : a * X ≤ b * Y) (h2 : c * Y ≤ d * Z) : (c * a) * X ≤ (b * d) * Z := by
  have a1 := Int.mul_le_mul_of_nonneg_left h1 hc
  have a2 := Int.mul_le_mul_of_nonneg_left h2 hb
  rw [Int.mul_assoc, Int.mul_assoc]
  refine Int.le_trans a1 (Int.le_trans (Int.le_of_eq ?_) a2)
  rw [← Int.mul_assoc, ← Int.mul_assoc, Int.mul_comm c b]
theorem kf_end {a b Y Z : Int} (hb : 0 ≤ b) (hab : b < a) (h : a * Y ≤ b * Z) (hz : 0 < Z) : Y < Z := by
  apply Int.lt_of_not_ge
  intro c
  have h1 : b * Z ≤ b * Y := Int.mul_le_mul_of_nonneg_left c hb
  have h2 : b * Y < a * Y := Int.mul_lt_mul_of_pos_right hab (by omega)
  omega
theorem kf_pos {a b S Z : Int} (ha : 0 < a) (hb : 0 ≤ b) (h : a * S ≤ b * Z) (hs : 0 < S) : 0 < Z := by
  apply Int.lt_of_not_ge
  intro c
  have h1 : b * Z ≤ b * 0 := Int.mul_le_mul_of_nonneg_left c hb
  have h2 : 0 < a * S := Int.mul_pos ha hs
  omega
/-- The filter's numbers. -/
theorem k_flt {Y Y1 Y2 V W S T M Q Z : Int} (y : Y ≤ Y1 + Y2) (y1 : 81129638414606681695789005144064 * Y1 ≤ 18014398509481985 * V) (y2 : 9007199254740992 * Y2 ≤ W) (a0 : 9007199254740992 * V ≤ 9007199254740993 * W) (s0 : 9007199254740992 * W ≤ 9007199254740993 * S) (c : 0 < S)
    (hT : 5070602400912917605986812821504 * T = 1688849860263937 * S) (m : 9007199254740991 * T ≤ 9007199254740992 * M) (h : M ≤ Q) (d : 9007199254740991 * Q ≤ 9007199254740992 * Z) : Y < Z := by
  have e1 : (730750818665451459101842416358141509827966271488 : Int) * Y1 ≤ 162259276829213390413175774511105 * W := kf_ch (a := 81129638414606681695789005144064) (b := 18014398509481985) (c := 9007199254740992) (d := 9007199254740993) (by decide) (by decide) y1 a0
  have e2 : (730750818665451459101842416358141509827966271488 : Int) * Y ≤ 243388915243820072108964779655169 * W := by
    clear hT m h d s0 c y1 a0
    omega
  have e3 := kf_ch (by decide) (by decide) e2 s0
  have f1 : 1688849860263937 * S ≤ 5070602400912917605986812821504 * T := Int.le_of_eq hT.symm
  have f2 : 9007199254740991 * T ≤ 9007199254740992 * Q := Int.le_trans m (Int.mul_le_mul_of_nonneg_left h (by decide))
  have f3 := kf_ch (by decide) (by decide) (kf_ch (by decide) (by decide) f1 f2) d
  exact kf_end (by decide) (by decide) (kf_ch (by decide) (by decide) e3 f3) (kf_pos (by decide) (by decide) f3 c)
/-- The heads' numbers. -/
theorem k_hds {Y V W S T M Q Z : Int} (y : 81129638414606681695789005144064 * Y ≤ 18014398509481985 * V) (a0 : 9007199254740992 * V ≤ 9007199254740993 * W) (s0 : 9007199254740992 * W ≤ 9007199254740993 * S) (c : 0 < S)
    (hT : 20282409603651670423947251286016 * T = 4503599627370499 * S) (m : 9007199254740991 * T ≤ 9007199254740992 * M) (h : M ≤ Q) (d : 9007199254740991 * Q ≤ 9007199254740992 * Z) : Y < Z := by
  have e3 := kf_ch (by decide) (by decide) (kf_ch (by decide) (by decide) y a0) s0
  have f1 : 4503599627370499 * S ≤ 20282409603651670423947251286016 * T := Int.le_of_eq hT.symm
  have f2 : 9007199254740991 * T ≤ 9007199254740992 * Q := Int.le_trans m (Int.mul_le_mul_of_nonneg_left h (by decide))
  have f3 := kf_ch (by decide) (by decide) (kf_ch (by decide) (by decide) f1 f2) d
  exact kf_end (by decide) (by decide) (kf_ch (by decide) (by decide) e3 f3) (kf_pos (by decide) (by decide) f3 c)
theorem k_T2 {T S : Int} (h : 5070602400912917605986812821504 * T = 1688849860263937 * S) (s : 0 < S) : 0 ≤ T := Int.le_of_lt (kf_pos (by decide) (by decide) (Int.le_of_eq h.symm) s)
theorem k_T4 {T S : Int} (h : 20282409603651670423947251286016 * T = 4503599627370499 * S) (s : 0 < S) : 0 ≤ T := Int.le_of_lt (kf_pos (by decide) (by decide) (Int.le_of_eq h.symm) s)
theorem k_ab0 {A : Int} (h : 81129638414606681695789005144064 * (A.natAbs : Int) ≤ 0) : A = 0 := by omega
theorem k_un0 {A L : Int} (h : Un A L) (l : L = 0) : A = 0 := by
  have := h.2
  omega
theorem k_lr {L R S : Int} (h : 9007199254740992 * ((L.natAbs : Int) + (R.natAbs : Int)) ≤ 9007199254740993 * 0) : L = 0 ∧ R = 0 := by omega
theorem k_nil {X A B L R : Int} (hA : Un A L) (hB : Un B R) (s0 : 9007199254740992 * ((L.natAbs : Int) + (R.natAbs : Int)) ≤ 9007199254740993 * 0)
    (hX : 81129638414606681695789005144064 * ((X - (A - B)).natAbs : Int) ≤ 18014398509481985 * ((A.natAbs : Int) + (B.natAbs : Int))) : L = 0 ∧ R = 0 ∧ A = 0 ∧ B = 0 ∧ X = 0 := by
  obtain ⟨l, r⟩ := k_lr (S := 0) s0
  have a := k_un0 hA l
  have b := k_un0 hB r
  rw [a, b] at hX
  have x := k_ab0 (A := X - (0 - 0)) hX
  exact ⟨l, r, a, b, by omega⟩
theorem k_nil2 {X D : Int} (x : X = 0) (hD : Un (0 - 0) D) : (0 < X ↔ 0 < D) ∧ (X < 0 ↔ D < 0) := by
  have := hD.1
  omega
/-- The filter's sign. -/
theorem flt_sign {X A B L R S D T M : Int} (hA : Un A L) (hB : Un B R) (a0 : 9007199254740992 * ((A.natAbs : Int) + (B.natAbs : Int)) ≤ 9007199254740993 * ((L.natAbs : Int) + (R.natAbs : Int))) (s0 : 9007199254740992 * ((L.natAbs : Int) + (R.natAbs : Int)) ≤ 9007199254740993 * S) (s1 : 0 ≤ S)
    (hX : 81129638414606681695789005144064 * ((X - (A - B)).natAbs : Int) ≤ 18014398509481985 * ((A.natAbs : Int) + (B.natAbs : Int)))
    (hD : Un (L - R) D) (hT : 5070602400912917605986812821504 * T = 1688849860263937 * S) (hM : Un T M) (h : M ≤ (D.natAbs : Int)) : (0 < X ↔ 0 < D) ∧ (X < 0 ↔ D < 0) := by
  rcases Int.lt_or_eq_of_le s1 with c | c
  · exact k_sg hD (k_flt k_tri hX (k_two hA hB) a0 s0 c hT (k_lowM hM (k_T2 hT c)) h (k_lowD hD))
  · obtain ⟨l, r, _, _, x⟩ := k_nil hA hB (by rw [c]; exact s0) hX
    rw [l, r] at hD
    exact k_nil2 x hD
/-- The heads' sign. -/
theorem hds_sign {X A B L R S D T M : Int} (hA : Un A L) (hB : Un B R) (a0 : 9007199254740992 * ((A.natAbs : Int) + (B.natAbs : Int)) ≤ 9007199254740993 * ((L.natAbs : Int) + (R.natAbs : Int))) (s0 : 9007199254740992 * ((L.natAbs : Int) + (R.natAbs : Int)) ≤ 9007199254740993 * S) (s1 : 0 ≤ S)
    (hX : 81129638414606681695789005144064 * ((X - (A - B)).natAbs : Int) ≤ 18014398509481985 * ((A.natAbs : Int) + (B.natAbs : Int)))
    (hD : Un (A - B) D) (hT : 20282409603651670423947251286016 * T = 4503599627370499 * S) (hM : Un T M) (h : M ≤ (D.natAbs : Int)) : (0 < X ↔ 0 < D) ∧ (X < 0 ↔ D < 0) := by
  rcases Int.lt_or_eq_of_le s1 with c | c
  · exact k_sg hD (k_hds hX a0 s0 c hT (k_lowM hM (k_T4 hT c)) h (k_lowD hD))
  · obtain ⟨_, _, a, b, x⟩ := k_nil hA hB (by rw [c]; exact s0) hX
    rw [a, b] at hD
    exact k_nil2 x hD
end Go.Proofs.YtcpjdgfnblkfpaaGreatDoor
