/-
  Plain mathematics for package orient: what the tails may be off.
-/
import Derived.Test.YtcpjdgfnblkfpaaGreatDoorXOf
namespace Go.Proofs.YtcpjdgfnblkfpaaGreatDoor
open Go Go.RowKit Go.Proofs.YtcpjdgfnblkfpaaGreatDoor.M
set_option linter.unusedSimpArgs false
set_option linter.unusedVariables false

theorem g_t1 {d z p a : Int} (h1 : 9007199254740992 * d ≤ z) (hz : 9007199254740992 * z ≤ a) (h : p ≤ z + d) (a0 : 0 ≤ a) : 81129638414606681695789005144064 * d ≤ a ∧ 100 * (9007199254740992 * p) ≤ 101 * a := by
  constructor <;> omega
/-- A product of a head and a tail, rounded. -/
theorem tl_prod {z p a : Int} (h : Un z p) (hz : 9007199254740992 * (z.natAbs : Int) ≤ a) : 81129638414606681695789005144064 * ((p - z).natAbs : Int) ≤ a ∧ 100 * (9007199254740992 * (p.natAbs : Int)) ≤ 101 * a :=
  g_t1 h.1 hz (by omega) (by omega)
theorem g_t2 {a dl d1 d2 p1 p2 D : Int} (e1 : 81129638414606681695789005144064 * d1 ≤ a) (e2 : 81129638414606681695789005144064 * d2 ≤ a) (f1 : 100 * (9007199254740992 * p1) ≤ 101 * a) (f2 : 100 * (9007199254740992 * p2) ≤ 101 * a) (h : 9007199254740992 * dl ≤ p1 + p2) (hD : D ≤ dl + d1 + d2) : 100 * (81129638414606681695789005144064 * D) ≤ 402 * a := by
  have g : 100 * (81129638414606681695789005144064 * dl) ≤ 202 * a := by
    clear e1 e2 hD
    omega
  clear f1 f2 h
  omega
theorem g_t3 {a z1 z2 l D : Int} (a0 : 0 ≤ a) (h : 100 * (81129638414606681695789005144064 * D) ≤ 402 * a) (c1 : 9007199254740992 * z1 ≤ a) (c2 : 9007199254740992 * z2 ≤ a) (hl : l ≤ z1 + z2 + D) : 100 * (9007199254740992 * l) ≤ 201 * a := by
  have g : 100 * (9007199254740992 * D) ≤ a := by
    clear c1 c2 hl
    omega
  clear h
  omega
/-- Two such products' sum. -/
theorem tl_sum {z1 z2 p1 p2 l a : Int} (h1 : Un z1 p1) (h2 : Un z2 p2) (c1 : 9007199254740992 * (z1.natAbs : Int) ≤ a) (c2 : 9007199254740992 * (z2.natAbs : Int) ≤ a) (hl : Un (p1 + p2) l) :
    100 * (81129638414606681695789005144064 * ((l - (z1 + z2)).natAbs : Int)) ≤ 402 * a ∧ 100 * (9007199254740992 * (l.natAbs : Int)) ≤ 201 * a := by
  obtain ⟨d1, f1⟩ := tl_prod h1 c1
  obtain ⟨d2, f2⟩ := tl_prod h2 c2
  have s := hl.1
  have k : 9007199254740992 * ((l - (p1 + p2)).natAbs : Int) ≤ (p1.natAbs : Int) + (p2.natAbs : Int) := by clear d1 f1 d2 f2 c1 c2; omega
  have t : ((l - (z1 + z2)).natAbs : Int) ≤ ((l - (p1 + p2)).natAbs : Int) + ((p1 - z1).natAbs : Int) + ((p2 - z2).natAbs : Int) := by clear d1 f1 d2 f2 c1 c2 s k; omega
  have D := g_t2 d1 d2 f1 f2 k t
  have a0 : 0 ≤ a := by clear d1 f1 d2 f2 D k t s; omega
  exact ⟨D, g_t3 a0 D c1 c2 (by clear d1 f1 d2 f2 D k t s c1 c2; omega)⟩
theorem g_t4 {a b dl dr t D l r : Int} (e1 : 100 * (81129638414606681695789005144064 * dl) ≤ 402 * a) (e2 : 100 * (81129638414606681695789005144064 * dr) ≤ 402 * b) (f1 : 100 * (9007199254740992 * l) ≤ 201 * a) (f2 : 100 * (9007199254740992 * r) ≤ 201 * b) (h : 9007199254740992 * t ≤ l + r) (hD : D ≤ t + dl + dr) : 100 * (81129638414606681695789005144064 * D) ≤ 603 * (a + b) := by
  have g : 100 * (81129638414606681695789005144064 * t) ≤ 201 * (a + b) := by
    clear e1 e2 hD
    omega
  clear f1 f2 h
  omega
/-- The difference of two such sums. -/
theorem tl_dif {zl zr l r T a b : Int} (d1 : 100 * (81129638414606681695789005144064 * ((l - zl).natAbs : Int)) ≤ 402 * a) (f1 : 100 * (9007199254740992 * (l.natAbs : Int)) ≤ 201 * a)
    (d2 : 100 * (81129638414606681695789005144064 * ((r - zr).natAbs : Int)) ≤ 402 * b) (f2 : 100 * (9007199254740992 * (r.natAbs : Int)) ≤ 201 * b) (hT : Un (l - r) T) : 100 * (81129638414606681695789005144064 * ((T - (zl - zr)).natAbs : Int)) ≤ 603 * (a + b) := by
  have s := hT.1
  exact g_t4 d1 d2 f1 f2 (t := ((T - (l - r)).natAbs : Int)) (by clear d1 f1 d2 f2; omega) (by clear d1 f1 d2 f2 s; omega)
theorem g_t5 {a b D E1 E2 Y : Int} (h : 100 * (81129638414606681695789005144064 * D) ≤ 603 * (a + b)) (h1 : 81129638414606681695789005144064 * E1 ≤ a) (h2 : 81129638414606681695789005144064 * E2 ≤ b) (hY : Y ≤ D + E1 + E2) : 100 * (81129638414606681695789005144064 * Y) ≤ 703 * (a + b) := by
  omega
theorem g_part {e f u v : Int} (h1 : 9007199254740992 * (e.natAbs : Int) ≤ (u.natAbs : Int)) (h2 : 9007199254740992 * (f.natAbs : Int) ≤ (v.natAbs : Int)) : 81129638414606681695789005144064 * ((e * f).natAbs : Int) ≤ ((u * v).natAbs : Int) := by
  have a := part_l (v := v) h1
  have b := part_r (v := e) h2
  generalize ((e * f).natAbs : Int) = x at *
  generalize ((e * v).natAbs : Int) = y at *
  generalize ((u * v).natAbs : Int) = z at *
  omega
/-- The exact value against the heads' one and the tails' float. -/
theorem dev_tails {u1 v1 u2 v2 e1 f1 e2 f2 p1 p2 q1 q2 l r T : Int} (a1 : 9007199254740992 * (e1.natAbs : Int) ≤ (u1.natAbs : Int)) (b1 : 9007199254740992 * (f1.natAbs : Int) ≤ (v1.natAbs : Int)) (a2 : 9007199254740992 * (e2.natAbs : Int) ≤ (u2.natAbs : Int)) (b2 : 9007199254740992 * (f2.natAbs : Int) ≤ (v2.natAbs : Int))
    (h1 : Un (u1 * f2) p1) (h2 : Un (v2 * e1) p2) (h3 : Un (v1 * e2) q1) (h4 : Un (u2 * f1) q2) (hl : Un (p1 + p2) l) (hr : Un (q1 + q2) r) (hT : Un (l - r) T) :
    100 * (81129638414606681695789005144064 * ((((u1 + e1) * (v2 + f2) - (v1 + f1) * (u2 + e2)) - ((u1 * v2 - v1 * u2) + T)).natAbs : Int)) ≤ 703 * (((u1 * v2).natAbs : Int) + ((v1 * u2).natAbs : Int)) := by
  obtain ⟨x1, x2⟩ := tl_sum (a := ((u1 * v2).natAbs : Int)) h1 h2 (part_r b2) (by rw [Int.mul_comm v2 e1]; exact part_l a1) hl
  obtain ⟨y1, y2⟩ := tl_sum (a := ((v1 * u2).natAbs : Int)) h3 h4 (part_r a2) (by rw [Int.mul_comm u2 f1]; exact part_l b1) hr
  have d := tl_dif x1 x2 y1 y2 hT
  have g1 := g_part a1 b2
  have g2 := g_part b1 a2
  refine g_t5 d g1 g2 ?_
  have e : ((u1 + e1) * (v2 + f2) - (v1 + f1) * (u2 + e2)) - ((u1 * v2 - v1 * u2) + T) = e1 * f2 - f1 * e2 - (T - ((u1 * f2 + v2 * e1) - (v1 * e2 + u2 * f1))) := by
    rw [Int.add_mul, Int.mul_add, Int.mul_add, Int.add_mul, Int.mul_add, Int.mul_add, Int.mul_comm v2 e1, Int.mul_comm u2 f1]
    omega
  rw [e]
  clear d g1 g2 x1 x2 y1 y2 e
  omega
theorem g_low {T M : Int} (h : Un T M) (t : 0 ≤ T) : 999 * T ≤ 1000 * M := by
  have := h.1
  omega
theorem g_lowD {Z D : Int} (h : Un Z D) : 999 * (D.natAbs : Int) ≤ 1000 * (Z.natAbs : Int) := by
  have := h.2
  omega
theorem g_S {V W S Y : Int} (y : 100 * (81129638414606681695789005144064 * Y) ≤ 703 * V) (a0 : 9007199254740992 * V ≤ 9007199254740993 * W) (s0 : 9007199254740992 * W ≤ 9007199254740993 * S) (v0 : 0 ≤ V) : 81129638414606681695789005144064 * Y ≤ 8 * S := by
  have w : 100 * V ≤ 101 * W := by clear s0 y; omega
  have w0 : 0 ≤ W := by clear s0 y; omega
  have s : 100 * W ≤ 101 * S := by clear a0 y w; omega
  clear a0 s0
  generalize 81129638414606681695789005144064 * Y = Q at *
  omega
theorem g_end {Y G Z S N tc tk c k E d : Int} (y : 81129638414606681695789005144064 * Y ≤ 8 * S) (g : 9007199254740992 * G ≤ N) (n0 : 0 ≤ N) (s : 0 < S)
    (hc : 9 * S ≤ 81129638414606681695789005144064 * tc) (hk : 3 * N ≤ 9007199254740992 * tk) (lc : 999 * tc ≤ 1000 * c) (lk : 999 * tk ≤ 1000 * k) (le : 999 * (c + k) ≤ 1000 * E) (h : E ≤ d) (ld : 999 * d ≤ 1000 * Z) : Y + G < Z := by
  have z : 997002999 * (tc + tk) ≤ 1000000000 * Z := by
    clear y g hc hk
    omega
  have hk' : 3 * (9007199254740992 * N) ≤ 81129638414606681695789005144064 * tk := by clear z y hc; omega
  have g' : 81129638414606681695789005144064 * G ≤ 9007199254740992 * N := by clear z y hc hk hk'; omega
  have z' : 997002999 * (81129638414606681695789005144064 * tc + 81129638414606681695789005144064 * tk) ≤ 1000000000 * (81129638414606681695789005144064 * Z) := by
    clear y g hc hk hk' g' lc lk le h ld
    omega
  apply Int.lt_of_not_ge
  intro q
  have q' : 81129638414606681695789005144064 * Z ≤ 81129638414606681695789005144064 * Y + 81129638414606681695789005144064 * G := by
    clear z z' y g hc hk hk' g' lc lk le h ld
    omega
  have nn : 0 ≤ 9007199254740992 * N := by clear z z' q' y g hc hk hk' g' lc lk le h ld q; omega
  clear z lc lk le h ld q hk g
  generalize 81129638414606681695789005144064 * Z = z1 at *
  generalize 81129638414606681695789005144064 * Y = y1 at *
  generalize 81129638414606681695789005144064 * G = g1 at *
  generalize 81129638414606681695789005144064 * tc = c1 at *
  generalize 81129638414606681695789005144064 * tk = k1 at *
  generalize 9007199254740992 * N = n1 at *
  omega
/-- The tails' sign. -/
theorem tls_sign {X H h T d S V W tc tk c k E : Int} (hX : 100 * (81129638414606681695789005144064 * ((X - (H + T)).natAbs : Int)) ≤ 703 * V) (a0 : 9007199254740992 * V ≤ 9007199254740993 * W) (s0 : 9007199254740992 * W ≤ 9007199254740993 * S) (v0 : 0 ≤ V) (s1 : 0 < S)
    (hh : Un H h) (hd : Un (h + T) d) (hc : 9 * S ≤ 81129638414606681695789005144064 * tc) (hk : 3 * (h.natAbs : Int) ≤ 9007199254740992 * tk) (tc0 : 0 ≤ tc) (tk0 : 0 ≤ tk) (uc : Un tc c) (uk : Un tk k) (c0 : 0 ≤ c) (k0 : 0 ≤ k) (uE : Un (c + k) E) (hE : E ≤ (d.natAbs : Int)) : (0 < X ↔ 0 < d) ∧ (X < 0 ↔ d < 0) := by
  have y := g_S hX a0 s0 v0
  have e := g_end (Y := ((X - (H + T)).natAbs : Int)) (G := ((h - H).natAbs : Int)) y hh.2 (by clear y hX hc hk; omega) s1 hc hk (g_low uc tc0) (g_low uk tk0) (g_low uE (by clear y hX hc hk; omega)) hE (g_lowD hd)
  exact k_sg hd (by clear y hX hc hk hE a0 s0; omega)
end Go.Proofs.YtcpjdgfnblkfpaaGreatDoor
