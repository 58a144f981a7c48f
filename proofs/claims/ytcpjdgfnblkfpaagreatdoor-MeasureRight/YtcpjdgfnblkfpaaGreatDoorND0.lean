/-
  Package nat: what stands behind divide's statements; mathematics of long division's rounds.
-/
import Derived.Test.YtcpjdgfnblkfpaaGreatDoorNW4
import Derived.Test.YtcpjdgfnblkfpaaGreatDoorNLen
import Derived.Test.YtcpjdgfnblkfpaaGreatDoorNW6
import Derived.Test.YtcpjdgfnblkfpaaGreatDoorNW8
import Derived.Test.YtcpjdgfnblkfpaaGreatDoorNDigits
import Derived.Deep.OwnRows
import Derived.Deep.RegionWith
import Derived.Deep.CutRange
import Derived.Laws.CopyOwn
namespace Go.Proofs.YtcpjdgfnblkfpaaGreatDoor
open Go Go.RowKit Go.Proofs.YtcpjdgfnblkfpaaGreatDoor.M
set_option linter.unusedSimpArgs false
set_option linter.unusedVariables false

theorem bel_undrew {B : Nat} {a w : World} (h : Below B a.drew w) : Below B a w := ⟨h.os, h.tape, h.output, h.size, h.block⟩
theorem Row.drew {w : World} {ao : Option Addr} {n cap : Nat} {d : Nat → Int} (h : Row w ao n cap d) : Row w.drew ao n cap d := ⟨h.le, h.max, h.nl, h.spot⟩
theorem blk_make (w : World) (N : Nat) {g : Nat} (hg : g = w.heap.size) : Blk (w.alloc (.cells (madeCells #[.int .i64 0] N) 3)) g N (fun _ => 0) := by
  subst hg
  refine ⟨_, heap_alloc_new w _, by simp [madeCells], fun i hi => ?_⟩
  rw [← Array.getElem?_toList, toList_madeCells_one]; simp [hi]
/-- What stands behind 'rest, by := make([]int, len(a)+1), raise(b, shift)', in whatever order. -/
def Cut8 (w : World) (n : Nat) (V : Int) (sr sb : Value) (wx : World) : Prop :=
  ∃ g, sr = .slice (some ⟨g, 0, none⟩) (n + 1) (n + 1) ∧ w.heap.size ≤ g ∧ Blk wx g (n + 1) (fun _ => 0) ∧ Below w.heap.size w wx ∧ ∃ bo cb t v, sb = .slice bo t cb ∧ RowX g wx bo t cb v ∧ Nrm v t ∧ val v t = V
theorem cut8_a {w w2 w3 : World} {n : Nat} {V : Int} {v : Value} (b1 : Below w.heap.size w w2) (hv : Ans (w2.alloc (.cells (madeCells #[.int .i64 0] (n + 1)) 3)).drew w3 V v) :
    Cut8 w n V (.slice (some ⟨w2.heap.size, 0, none⟩) (n + 1) (n + 1)) v w3 := by
  have b2 : Below (w2.alloc (.cells (madeCells #[.int .i64 0] (n + 1)) 3)).heap.size (w2.alloc (.cells (madeCells #[.int .i64 0] (n + 1)) 3)) w3 := bel_undrew hv.below
  have hB := (blk_make w2 (n + 1) rfl).keeps b2
  obtain ⟨t, d, hO, hN, hV, _⟩ := hv
  obtain ⟨ao, cap, rfl, hR⟩ := hO.row
  refine ⟨_, rfl, b1.size, hB, bel_trans (bel_trans b1 (bel_alloc _ _)) b2, ao, cap, t, d, rfl, ⟨hR.le, hR.max, fun hn => ?_⟩, hN, hV⟩
  obtain ⟨b, off, rfl, hlt, hc⟩ := hR.spot hn
  obtain ⟨g, hg, hge, _⟩ := hO.spot hn
  simp only [Option.some.injEq, Addr.mk.injEq] at hg
  have e : (w2.alloc (.cells (madeCells #[.int .i64 0] (n + 1)) 3)).drew.heap.size = w2.heap.size + 1 := by show (w2.alloc _).heap.size = _; simp
  rw [e] at hge
  exact ⟨b, off, rfl, hlt, by omega, hc⟩
theorem cut8_b {w w2 w3 : World} {n : Nat} {V : Int} {v : Value} (b1 : Below w.heap.size w w2) (hv : Ans w2.drew w3 V v) {w4 : World} (e4 : w4 = w3.alloc (.cells (madeCells #[.int .i64 0] (n + 1)) 3)) :
    Cut8 w n V (.slice (some ⟨w3.heap.size, 0, none⟩) (n + 1) (n + 1)) v w4 := by
  subst e4
  have b2 : Below w2.heap.size w2 w3 := bel_undrew hv.below
  have b3 := bel_trans b1 b2
  obtain ⟨t, d, hO, hN, hV, _⟩ := hv
  obtain ⟨ao, cap, rfl, hR⟩ := hO.row
  refine ⟨_, rfl, b3.size, blk_make w3 (n + 1) rfl, bel_trans b3 (bel_alloc _ _), ao, cap, t, d, rfl, ⟨hR.le, hR.max, fun hn => ?_⟩, hN, hV⟩
  obtain ⟨b, off, rfl, hlt, hc⟩ := (hR.alloc _).spot hn
  obtain ⟨b', off', q, hlt', _⟩ := hR.spot hn
  simp only [Option.some.injEq, Addr.mk.injEq] at q
  exact ⟨b, off, rfl, hlt, by omega, hc⟩

/-- Digits laid over others. -/
def ov (e : Nat → Int) (m : Nat) (r : Nat → Int) : Nat → Int := fun i => if i < m then e i else r i
/-- 'copy(xs, ys)', xs a block of the call's own, ys not longer, not empty. -/
theorem wpList_cp {w : World} {ops : Array Oper} {rest : List Oper} {o : Oper} {a : Act} {Q : Exit → Act → World → Prop} (hgd : o.guard = none) (d s : Operand)
    (ho : o.op = .call { callee := .builtin .copy, args := #[d, s], argTypes := #[35, 35] }) (g N : Nat) (r : Nat → Int) (hd : a.eval d = .slice (some ⟨g, 0, none⟩) N N) (hB : Blk w g N r)
    (bo : Option Addr) (m cb : Nat) (e : Nat → Int) (hs : a.eval s = .slice bo m cb) (hR : Row w bo m cb e) (hm0 : 0 < m) (hmN : m ≤ N)
    (h : ∀ w', Blk w' g N (ov e m r) → Wr g w w' → wpList Tryz.prog ops Q rest (a.put o.dst (goInt m)) w') : wpList Tryz.prog ops Q (o :: rest) a w := by
  obtain ⟨b, off, rfl, hlt, hc⟩ := hR.spot hm0
  obtain ⟨cur, hg, hsz, hcur⟩ := hB
  have hl : (vals e m).length = m := vals_length e m
  refine wpList_copy_own hgd d s 35 35 ho 3 Tryz.underlying35 (by kernel_rfl) g 0 N N ⟨b, off, none⟩ m cb hd hs cur 3 hg (vals e m) (by rw [hl]; exact (Nat.min_eq_left hmN).symm) ?_ (by omega) (vals_one e m) ?_
  · intro j u hu
    have hj : j < m := by have := (List.getElem?_eq_some_iff.1 hu).1; rwa [hl] at this
    rw [vals_get e hj] at hu
    rw [add_none, hc j hj]; exact hu
  · rw [hl]
    refine h _ ⟨_, setRow_heap w g _ _ _ _ hg, ?_, ?_⟩ ⟨rfl, rfl, rfl, by simp, fun k _ hk => setRow_other w g k _ hk⟩
    · simp [hl]; omega
    · intro i hi
      rw [List.getElem?_toArray, List.take_zero, List.nil_append]
      by_cases him : i < m
      · rw [List.getElem?_append_left (by omega), vals_get e him]; simp [ov, him]
      · rw [List.getElem?_append_right (by omega), hl, List.getElem?_drop, Array.getElem?_toList, show 0 + m + (i - m) = i by omega, hcur i hi]; simp [ov, him]
theorem norm_div {b v : Nat → Int} {m t s : Nat} (nb : Nrm b m) (hm : 0 < m) (hs : s + blen (b (m - 1)) = 30) (nv : Nrm v t) (hv : val v t = val b m * 2 ^ s) : t = m ∧ 536870912 ≤ v (m - 1) := by
  obtain ⟨k, rfl⟩ : ∃ k, m = k + 1 := ⟨m - 1, by omega⟩
  rw [Nat.add_sub_cancel] at hs ⊢
  have hx0 : 0 < b k := by
    have h1 := nb.1 k (by omega)
    rcases nb.2 with e | e
    · omega
    · rw [Nat.add_sub_cancel] at e; omega
  obtain ⟨c1, c2⟩ := blen_pos hx0
  have c3 := blen_lt (b k)
  have lo0 := val_nonneg (nb.1.le (Nat.le_succ k))
  have lo1 := val_lt (nb.1.le (Nat.le_succ k))
  have pk := P_pos k
  have ps := two_pos s
  have e29 : (2 : Int) ^ (blen (b k) - 1) * 2 ^ s = 536870912 := by rw [← Int.pow_add, show blen (b k) - 1 + s = 29 by omega]; rfl
  have e30 : (2 : Int) ^ blen (b k) * 2 ^ s = 1073741824 := by rw [← Int.pow_add, show blen (b k) + s = 30 by omega]; rfl
  have f1 : (2 : Int) ^ (blen (b k) - 1) * 2 ^ s ≤ b k * 2 ^ s := mul_le_r c2 (by omega)
  have f2 : (b k + 1) * 2 ^ s ≤ 2 ^ blen (b k) * 2 ^ s := mul_le_r (by omega) (by omega)
  rw [e29] at f1
  rw [e30] at f2
  have g1 : 536870912 * P k ≤ b k * 2 ^ s * P k := mul_le_r f1 (by omega)
  have g2 : (b k + 1) * 2 ^ s * P k ≤ 1073741824 * P k := mul_le_r f2 (by omega)
  have g3 : 0 ≤ val b k * 2 ^ s := Int.mul_nonneg lo0 (by omega)
  have g4 : (val b k + 1) * 2 ^ s ≤ P k * 2 ^ s := mul_le_r (by omega) (by omega)
  have eV : val v t = val b k * 2 ^ s + b k * 2 ^ s * P k := by rw [hv, val_succ]; grind
  have g5 : (b k + 1) * 2 ^ s * P k = b k * 2 ^ s * P k + P k * 2 ^ s := by grind
  rw [Int.add_mul, Int.one_mul] at g4
  have V1 : 536870912 * P k ≤ val v t := by omega
  have V2 : val v t < P (k + 1) := by rw [P_succ]; omega
  have t1 : t ≤ k + 1 := by
    by_cases h : t ≤ k + 1
    · exact h
    · have a := val_top nv.1 (by omega) nv.2
      have b := P_le (show k + 1 ≤ t - 1 by omega)
      omega
  have t2 : k + 1 ≤ t := by
    by_cases h : k + 1 ≤ t
    · exact h
    · have a := val_lt nv.1
      have b := P_le (show t ≤ k by omega)
      omega
  obtain rfl : t = k + 1 := by omega
  refine ⟨rfl, ?_⟩
  rw [val_succ] at V1
  have w1 := val_lt (nv.1.le (Nat.le_succ k))
  rcases Int.lt_or_le (v k) 536870912 with q | q
  · have : (v k + 1) * P k ≤ 536870912 * P k := mul_le_r (by omega) (by omega)
    rw [Int.add_mul] at this
    omega
  · exact q
theorem dig_zero {f : Nat → Int} {N M : Nat} (h : Dig f N) (hM : M ≤ N) (hv : val f N < P M) : ∀ i, M ≤ i → i < N → f i = 0 := by
  have e := val_split f M (N - M)
  rw [show M + (N - M) = N by omega] at e
  have a := val_nonneg (h.le hM)
  have dh : Dig (fun i => f (M + i)) (N - M) := fun i hi => h (M + i) (by omega)
  have b := val_nonneg dh
  have pm := P_pos M
  have z : val (fun i => f (M + i)) (N - M) = 0 := by
    rcases Int.lt_or_eq_of_le b with q | q
    · have : P M * 1 ≤ P M * val (fun i => f (M + i)) (N - M) := mul_le_l (by omega) (by omega)
      omega
    · exact q.symm
  have z2 : val (fun _ : Nat => (0 : Int)) (N - M) = 0 := val_zeros (Nat.zero_le _) (fun _ _ _ => rfl)
  intro i hi hiN
  have := val_inj dh (zero_dig (N - M)) (z.trans z2.symm) (i - M) (by omega)
  rwa [show M + (i - M) = i by omega] at this
theorem val_mid {r : Nat → Int} {at_ M N : Nat} (h : at_ + M ≤ N) (hz : ∀ i, at_ + M ≤ i → i < N → r i = 0) : val r N = val r at_ + P at_ * val (fun i => r (at_ + i)) M := by
  rw [val_zeros h hz, val_split]
/-- The highest digits, of which a divisor is taken out. -/
theorem div_round {r : Nat → Int} {at_ m N : Nat} {V : Int} (hd : Dig r N) (h : at_ + (m + 1) ≤ N) (hV : V < P m) (hlt : val r N < V * P (at_ + 1)) :
    (∀ i, at_ + (m + 1) ≤ i → i < N → r i = 0) ∧ val r N = val r at_ + P at_ * val (fun i => r (at_ + i)) (m + 1) ∧ val (fun i => r (at_ + i)) (m + 1) < 1073741824 * V := by
  have pa := P_pos at_
  have h1 : V * P (at_ + 1) ≤ P m * P (at_ + 1) := mul_le_r (by omega) (Int.le_of_lt (P_pos _))
  rw [← P_add, show m + (at_ + 1) = at_ + (m + 1) by omega] at h1
  have hz := dig_zero hd h (by omega)
  have e := val_mid h hz
  refine ⟨hz, e, ?_⟩
  have lo := val_nonneg (hd.le (show at_ ≤ N by omega))
  rcases Int.lt_or_le (val (fun i => r (at_ + i)) (m + 1)) (1073741824 * V) with q | q
  · exact q
  · have : P at_ * (1073741824 * V) ≤ P at_ * val (fun i => r (at_ + i)) (m + 1) := mul_le_l q (by omega)
    rw [P_succ] at hlt
    have e2 : V * (P at_ * 1073741824) = P at_ * (1073741824 * V) := by grind
    omega
theorem Num.cut_row {w : World} {ao : Option Addr} {n cap t : Nat} {d : Nat → Int} (h : Row w ao n cap d) (ht : t ≤ n) : ∃ ao' cap', cutV ao t cap = .slice ao' t cap' ∧ Row w ao' t cap' d := by
  unfold cutV
  split
  · rename_i e; subst e; exact ⟨none, 0, rfl, Row.nil _ _⟩
  · exact ⟨ao, cap, rfl, ⟨by have := h.le; omega, h.max, h.nl, fun hn => by
      obtain ⟨b, off, rfl, hlt, hc⟩ := h.spot (by omega)
      exact ⟨b, off, rfl, hlt, fun i hi => hc i (by omega)⟩⟩⟩
theorem cut_block {g t N k : Nat} (h : (cutV (some ⟨g, 0, none⟩) t N).ownBlock = some k) : k = g := by
  unfold cutV at h
  split at h
  · simp [Value.ownBlock] at h
  · simp [Value.ownBlock] at h; exact h.symm
/-- Two answers, in memory of their own each. -/
def Ans2 (w w' : World) (V1 : Int) (v1 : Value) (V2 : Int) (v2 : Value) : Prop := Ans w w' V1 v1 ∧ Ans w w' V2 v2 ∧ ∀ k, v1.ownBlock = some k → v2.ownBlock ≠ some k
/-- A quotient of shifted numbers, and its rest shifted back. -/
theorem div_back {A B Q X : Int} {s : Nat} (h : A * 2 ^ s = Q * (B * 2 ^ s) + X) (h0 : 0 ≤ X) (h1 : X < B * 2 ^ s) : Q = A / B ∧ X / 2 ^ s = A % B := by
  have ps := two_pos s
  have e1 : X = (A - Q * B) * 2 ^ s := by rw [Int.sub_mul]; grind
  have hR : X / 2 ^ s = A - Q * B := by rw [e1, Int.mul_ediv_cancel _ (by omega)]
  have r0 : 0 ≤ A - Q * B := by rw [← hR]; exact Int.ediv_nonneg h0 (by omega)
  have r1 : A - Q * B < B := by
    rcases Int.lt_or_le (A - Q * B) B with q | q
    · exact q
    · have : B * 2 ^ s ≤ (A - Q * B) * 2 ^ s := mul_le_r q (by omega)
      omega
  have := div_of (a := A) (b := B) (q := Q) (r := A - Q * B) (by omega) r0 r1
  exact ⟨this.1, by rw [hR]; exact this.2⟩

/-- Behind k rounds of a long division: the quotient's highest k digits stand, the rest is that much less. -/
def DivR (w0 : World) (g gq n t K : Nat) (v : Nat → Int) (byo : Option Addr) (bcap : Nat) (AA V : Int) (k : Nat) (wr : World) : Prop :=
  ∃ r qf, Blk wr g (n + 1) r ∧ Dig r (n + 1) ∧ Blk wr gq K qf ∧ Dig qf K ∧ (∀ i, i < K - k → qf i = 0) ∧ AA = val qf K * V + val r (n + 1) ∧ val r (n + 1) < V * P (K - k) ∧ RowX g wr byo t bcap v ∧ Below w0.heap.size w0 wr
theorem stp_of {r v : Nat → Int} {n t K L at_ k : Nat} {V : Int} (hK : K = at_ + 1 + k) (hL : t = L + 2) (hK1 : K + t ≤ n + 1) (hDr : Dig r (n + 1)) (hlt : val r (n + 1) < V * P (K - k)) (hV : V = val v t) (hv : Nrm v t) (htop : 536870912 ≤ v (t - 1)) :
    Stp (fun i => r (at_ + i)) v L (val (fun i => r (at_ + i)) (t + 1)) V := by
  subst hL
  have h := div_round (at_ := at_) (m := L + 2) (V := V) hDr (by omega) (by rw [hV]; exact val_lt hv.1) (by rwa [show at_ + 1 = K - k by omega])
  exact ⟨fun i hi => hDr (at_ + i) (by omega), hv.1, htop, rfl, hV, h.2.2⟩
theorem DivR.step {w0 : World} {g gq n t K : Nat} {v r qf : Nat → Int} {byo : Option Addr} {bcap : Nat} {AA V q : Int} {k at_ : Nat} {wr w7 : World} (hK : K = at_ + 1 + k) (hK1 : K + t ≤ n + 1)
    (hBr : Blk wr g (n + 1) r) (hDr : Dig r (n + 1)) (hBq : Blk wr gq K qf) (hDq : Dig qf K) (hzq : ∀ i, i < K - k → qf i = 0) (hA : AA = val qf K * V + val r (n + 1)) (hlt : val r (n + 1) < V * P (K - k)) (hX : RowX g wr byo t bcap v) (hbw : Below w0.heap.size w0 wr)
    (hVt : V < P t) (hne : gq ≠ g) (hg : w0.heap.size ≤ g) (hgq : w0.heap.size ≤ gq) (hne2 : 0 < t → ∀ b off, byo = some ⟨b, off, none⟩ → b ≠ gq) (hT : Tk g (n + 1) at_ t r wr w7 (val (fun i => r (at_ + i)) (t + 1)) V q) :
    DivR w0 g gq n t K v byo bcap AA V (k + 1) (w7.setCell ⟨gq, at_, none⟩ (.int .i64 q)) := by
  obtain ⟨r', hB7, hS7, hD7, hU7, hlt7, hq0, hq1, hw7⟩ := hT
  obtain ⟨hz, e, _⟩ := div_round (at_ := at_) (m := t) hDr (by omega) hVt (by rwa [show at_ + 1 = K - k by omega])
  have hBq7 : Blk w7 gq K qf := hBq.of_block (hw7.block gq hBq.lt hne)
  have hz' : ∀ i, at_ + (t + 1) ≤ i → i < n + 1 → r' i = 0 := fun i a b => by rw [hS7 i (by omega)]; exact hz i a b
  have e' := val_mid (r := r') (show at_ + (t + 1) ≤ n + 1 by omega) hz'
  have elo : val r' at_ = val r at_ := val_congr fun i hi => hS7 i (by omega)
  have hD' : Dig r' (n + 1) := fun i hi => by
    by_cases c : i < at_ ∨ at_ + t < i
    · rw [hS7 i c]; exact hDr i hi
    · have := hD7 (i - at_) (by omega)
      simp only [show at_ + (i - at_) = i by omega] at this
      exact this
  have lo0 := val_lt (hDr.le (show at_ ≤ n + 1 by omega))
  refine ⟨r', upd qf at_ q, hB7.apart (by simpa using hne.symm) _, hD', hBq7.store at_ q, hDq.upd _ ⟨hq0, hq1⟩, fun i hi => ?_, ?_, ?_, ?_, ?_⟩
  · rw [upd_other qf _ (by omega)]; exact hzq i (by omega)
  · rw [hA, val_upd qf q (show at_ < K by omega), hzq at_ (by omega), e, e', elo, hU7]; grind
  · rw [show K - (k + 1) = at_ by omega, e', elo]
    have h1 : (val (fun i => r' (at_ + i)) (t + 1) + 1) * P at_ ≤ V * P at_ := mul_le_r (by omega) (Int.le_of_lt (P_pos _))
    rw [Int.add_mul] at h1
    have h2 : P at_ * val (fun i => r' (at_ + i)) (t + 1) = val (fun i => r' (at_ + i)) (t + 1) * P at_ := Int.mul_comm _ _
    omega
  · have hx := hX.keeps hw7
    refine ⟨hx.le, hx.max, fun hn => ?_⟩
    obtain ⟨b, off, eb, hlt, hbg, hc⟩ := hx.spot hn
    exact ⟨b, off, eb, by simpa using hlt, hbg, fun i hi => by
      have := World.cell?_of_block (w := w7) (a := ⟨b, off + i, none⟩) (heap_setCell_other w7 ⟨gq, at_, none⟩ b (.int .i64 q) (hne2 hn b off eb))
      rw [this]; exact hc i hi⟩
  · exact (hw7.below hbw (by exact hbw.size) hg).setCell hgq _
theorem DivR.done {w0 : World} {g gq n t K : Nat} {v : Nat → Int} {byo : Option Addr} {bcap : Nat} {AA V : Int} {wr : World} (h : DivR w0 g gq n t K v byo bcap AA V K wr) :
    ∃ r qf, Blk wr g (n + 1) r ∧ Dig r (n + 1) ∧ Blk wr gq K qf ∧ Dig qf K ∧ AA = val qf K * V + val r (n + 1) ∧ val r (n + 1) < V ∧ Below w0.heap.size w0 wr := by
  obtain ⟨r, qf, h1, h2, h3, h4, _, h5, h6, _, h7⟩ := h
  rw [Nat.sub_self] at h6
  have e : V * P 0 = V := by show V * 1 = V; omega
  exact ⟨r, qf, h1, h2, h3, h4, h5, by omega, h7⟩
theorem ov_val {d : Nat → Int} {t N : Nat} (h : t ≤ N) : val (ov d t (fun _ => 0)) N = val d t := by
  rw [val_zeros h (fun i a _ => by simp [ov]; omega)]
  exact val_congr fun i hi => by simp [ov, hi]
theorem ov_dig {d : Nat → Int} {t N : Nat} (h : Dig d t) : Dig (ov d t (fun _ => 0)) N := fun i _ => by
  by_cases e : i < t
  · simp only [ov, e, if_true]; exact h i e
  · simp only [ov, e, if_false]; omega
end Go.Proofs.YtcpjdgfnblkfpaaGreatDoor
