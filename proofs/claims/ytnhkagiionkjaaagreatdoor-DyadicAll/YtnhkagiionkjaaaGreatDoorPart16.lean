/-
  plumblaw3.lists: the answers of Sum and Dot, whatever came in.
-/
import Derived.Test.YtnhkagiionkjaaaGreatDoorPart13
import Derived.Test.YtnhkagiionkjaaaGreatDoorPart14
import Derived.Test.YtnhkagiionkjaaaGreatDoorPart15
namespace Go.Proofs.YtnhkagiionkjaaaGreatDoor
open Go Go.RowKit Go.Proofs.YtnhkagiionkjaaaGreatDoor.M
set_option linter.unusedSimpArgs false
set_option linter.unusedVariables false

def Ansd (B : Nat) (w : World) (md : Nat) (V : Int) (v : Value) (er : Int) : Prop := (md = 0 ∧ DFitA B w V v er) ∨ (md = 1 ∧ v = zeroV ∧ er = 11) ∨ (md = 2 ∧ v = zeroV ∧ er = 1)
theorem Ansd.keeps {B : Nat} {w w' : World} {md : Nat} {V er : Int} {v : Value} (h : Ansd B w md V v er) (hb : Below w.heap.size w w') : Ansd B w' md V v er := by
  rcases h with ⟨h1, h2⟩ | h
  · exact .inl ⟨h1, h2.keeps hb⟩
  · exact .inr h
theorem Ansd.wr {B : Nat} {w w' : World} {md : Nat} {V er : Int} {v : Value} {g : Nat} (h : Ansd B w md V v er) (hw : Wr g w w') (hg : g < B) : Ansd B w' md V v er := by
  rcases h with ⟨h1, h2⟩ | h
  · exact .inl ⟨h1, h2.wr hw hg⟩
  · exact .inr h
theorem Ansd.ik {B B' : Nat} {w w' : World} {md : Nat} {V er : Int} {v : Value} (h : Ansd B w md V v er) (k : Ik B' w w') : Ansd B w' md V v er := by
  rcases h with ⟨h1, h2⟩ | h
  · exact .inl ⟨h1, h2.ik k⟩
  · exact .inr h
theorem Ansd.shape {B : Nat} {w : World} {md : Nat} {V er : Int} {v : Value} (h : Ansd B w md V v er) : ∃ ng so sn sc e, v = .agg #[.bool ng, .slice so sn sc, .int .i64 e] := by
  rcases h with ⟨h1, h2⟩ | ⟨_, rfl, _⟩ | ⟨_, rfl, _⟩
  · exact h2.shape
  · exact ⟨_, _, _, _, _, rfl⟩
  · exact ⟨_, _, _, _, _, rfl⟩
theorem Ansd.lies {B : Nat} {w : World} {md : Nat} {ng : Bool} {so : Option Addr} {sn sc : Nat} {e V er : Int} (h : Ansd B w md V (.agg #[.bool ng, .slice so sn sc, .int .i64 e]) er) : Lies (.slice so sn sc) B w.heap.size := by
  have hz : ∀ {ng : Bool} {so : Option Addr} {sn sc : Nat} {e : Int}, (.agg #[.bool ng, .slice so sn sc, .int .i64 e]) = zeroV → Lies (.slice so sn sc) B w.heap.size := by
    intro ng so sn sc e hv
    simp only [zeroV, Value.agg.injEq, Array.mk.injEq, List.cons.injEq, Value.bool.injEq, Value.int.injEq, Value.slice.injEq, and_true, true_and] at hv
    obtain ⟨_, ⟨rfl, _, _⟩, _⟩ := hv
    intro g hg
    simp [Value.ownBlock] at hg
  rcases h with ⟨h1, h2⟩ | ⟨_, hv, _⟩ | ⟨_, hv, _⟩
  · exact h2.ge
  · exact hz hv
  · exact hz hv
theorem Ansd.ok {B : Nat} {w : World} {V er : Int} {v : Value} (h : Ansd B w 0 V v er) : DFitA B w V v er := by
  rcases h with ⟨_, h⟩ | ⟨h, _⟩ | ⟨h, _⟩
  · exact h
  · cases h
  · cases h
theorem zero_parts {ng : Bool} {so : Option Addr} {sn sc : Nat} {e : Int} (hv : (.agg #[.bool ng, .slice so sn sc, .int .i64 e]) = zeroV) : ng = false ∧ so = none ∧ sn = 0 ∧ sc = 0 ∧ e = 0 := by
  simp only [zeroV, Value.agg.injEq, Array.mk.injEq, List.cons.injEq, Value.bool.injEq, Value.int.injEq, Value.slice.injEq, and_true, true_and] at hv
  exact ⟨hv.1, hv.2.1.1, hv.2.1.2.1, hv.2.1.2.2, hv.2.2⟩
theorem Ansd.bad {B : Nat} {w : World} {V er : Int} {ng : Bool} {so : Option Addr} {sn sc : Nat} {e : Int} (h : Ansd B w 1 V (.agg #[.bool ng, .slice so sn sc, .int .i64 e]) er) : (ng = false ∧ so = none ∧ sn = 0 ∧ sc = 0 ∧ e = 0) ∧ er = 11 := by
  rcases h with ⟨h, _⟩ | ⟨_, hv, h⟩ | ⟨h, _⟩
  · cases h
  · exact ⟨zero_parts hv, h⟩
  · cases h
theorem Ansd.arg {B : Nat} {w : World} {V er : Int} {ng : Bool} {so : Option Addr} {sn sc : Nat} {e : Int} (h : Ansd B w 2 V (.agg #[.bool ng, .slice so sn sc, .int .i64 e]) er) : (ng = false ∧ so = none ∧ sn = 0 ∧ sc = 0 ∧ e = 0) ∧ er = 1 := by
  rcases h with ⟨h, _⟩ | ⟨h, _⟩ | ⟨_, hv, h⟩
  · cases h
  · cases h
  · exact ⟨zero_parts hv, h⟩
/-- What Sum and Dot answer. -/
def AnsP (w : World) (md : Nat) (V : Int) (x : Ending) (w' : World) : Prop := ∃ s_g s_o s_n s_c s_e er, x = .returned (.tuple #[.agg #[.bool s_g, .slice s_o s_n s_c, .int .i64 s_e], .int .i64 er]) ∧ Below w.heap.size w w' ∧ Ansd w.heap.size w' md V (.agg #[.bool s_g, .slice s_o s_n s_c, .int .i64 s_e]) er
theorem DFit.ansP {w w' : World} {V er : Int} {v : Value} (h : DFit w w' V v er) : AnsP w 0 V (.returned (.tuple #[v, .int .i64 er])) w' := by
  obtain ⟨ng, so, sn, sc, e, rfl⟩ := h.fitA.shape
  exact ⟨_, _, _, _, _, _, rfl, h.1, .inl ⟨rfl, h.fitA⟩⟩
theorem dsum_md (ao : Option Addr) (n cap : Nat) (r : Nat → NumR) (w : World) (h : Nums w ao n cap r) (hn : n ≤ 100000) (hT : Tab w) (bad : Bool) (hb : bad = !allOk r n) :
    Calls Tryz.prog 44 #[.slice ao n cap] w (AnsP w (cond bad 1 0) (sumV r n)) := by
  cases bad
  · refine (dsum_ok ao n cap r w h (by cases h : allOk r n <;> simp [h] at hb ⊢) hn hT).mono ?_
    rintro _ w' ⟨v, er, rfl, hF⟩
    exact hF.ansP
  · refine (dsum_bad ao n cap r w h (by cases h : allOk r n <;> simp [h] at hb ⊢)).mono ?_
    rintro _ w' ⟨rfl, hb⟩
    exact ⟨_, _, _, _, _, _, rfl, hb, .inr (.inl ⟨rfl, rfl, rfl⟩)⟩
/-- How Dot answers. -/
def mdD (n m : Nat) (bad worse : Bool) : Nat := if n = m then cond (bad || worse) 1 0 else 2
theorem ddot_md (ao bo : Option Addr) (n m ca cb : Nat) (a b : Nat → NumR) (w : World) (ha : Nums w ao n ca a) (hb : Nums w bo m cb b) (hn : n ≤ 100000) (hm : m ≤ 100000) (hT : Tab w) (bad worse : Bool) (h1 : bad = !allOk a n) (h2 : worse = !allOk b m) (la : ∀ i, i < n → okR (a i) = true → Half (a i)) (lb : ∀ i, i < m → okR (b i) = true → Half (b i)) :
    Calls Tryz.prog 45 #[.slice ao n ca, .slice bo m cb] w (AnsP w (mdD n m bad worse) (dotV a b n)) := by
  by_cases e : n = m
  · subst e
    unfold mdD
    rw [if_pos rfl]
    cases hbw : (bad || worse)
    · simp only [Bool.or_eq_false_iff] at hbw
      obtain ⟨rfl, rfl⟩ := hbw
      have oa : allOk a n = true := by cases h : allOk a n <;> simp [h] at h1 ⊢
      have ob : allOk b n = true := by cases h : allOk b n <;> simp [h] at h2 ⊢
      refine (ddot_ok ao bo n ca cb a b w ha hb oa ob (fun i hi => la i hi (allOk_out oa i hi)) (fun i hi => lb i hi (allOk_out ob i hi)) hn hT).mono ?_
      rintro _ w' ⟨v, er, rfl, hF⟩
      exact hF.ansP
    · refine (ddot_bad ao bo n ca cb a b w ha hb (by subst h1 h2; revert hbw; cases allOk a n <;> cases allOk b n <;> simp)).mono ?_
      rintro _ w' ⟨rfl, hb⟩
      exact ⟨_, _, _, _, _, _, rfl, hb, .inr (.inl ⟨rfl, rfl, rfl⟩)⟩
  · unfold mdD
    rw [if_neg e]
    refine (ddot_arg ao bo n m ca cb w (by omega) (by omega) e).mono ?_
    rintro _ w' ⟨rfl, hb⟩
    exact ⟨_, _, _, _, _, _, rfl, hb, .inr (.inr ⟨rfl, rfl, rfl⟩)⟩
theorem law3sum_md {w0 : World} (ao : Option Addr) (n cap : Nat) (r : Nat → NumR) (h : Nums w0 ao n cap r) (ok : allOk r n = true) (la : ∀ i, i < n → Lgt (r i)) (hn : n ≤ 500) (w : World) (hb0 : Below w0.heap.size w0 w) :
    Calls Tryz.prog 46 #[.slice ao n cap, .bool false] w fun x w' => ∃ v_g v_o v_n v_c v_e, x = .returned (.agg #[.bool v_g, .slice v_o v_n v_c, .int .i64 v_e]) ∧ Below w.heap.size w w' ∧ DRd w0.heap.size w' (sumV r n) (.agg #[.bool v_g, .slice v_o v_n v_c, .int .i64 v_e]) := by
  have ok' := allOk_out ok
  refine (law3sum_ok ao n cap r h ok' (fun i hi => by have := (la i hi).2 (ok' i hi); exact bd_light (ok' i hi) this.1 this.2) hn w hb0).mono ?_
  rintro _ w' ⟨v, rfl, hb, hS⟩
  obtain ⟨n_g, n_o, n_n, n_c, n_e, rfl⟩ := src_shape hS
  exact ⟨_, _, _, _, _, rfl, hb, hS.rd h ok' (hb0.trans (hb.mono hb0.size))⟩
theorem rdot3_md {w0 : World} (ao bo : Option Addr) (n ca cb : Nat) (a b : Nat → NumR) (ha : Nums w0 ao n ca a) (hb : Nums w0 bo n cb b) (oa : allOk a n = true) (ob : allOk b n = true) (la : ∀ i, i < n → Lgt (a i)) (lb : ∀ i, i < n → Lgt (b i)) (hn : n ≤ 500) (w : World) (hb0 : Below w0.heap.size w0 w) :
    Calls Tryz.prog 47 #[.slice ao n ca, .slice bo n cb] w fun x w' => ∃ v_g v_o v_n v_c v_e, x = .returned (.agg #[.bool v_g, .slice v_o v_n v_c, .int .i64 v_e]) ∧ Below w.heap.size w w' ∧ DRd w0.heap.size w' (dotV a b n) (.agg #[.bool v_g, .slice v_o v_n v_c, .int .i64 v_e]) := by
  have oa' := allOk_out oa
  have ob' := allOk_out ob
  refine (rdot3_any ao bo n ca cb a b ha hb oa' ob' (fun i hi => by have := (la i hi).2 (oa' i hi); exact ⟨bd_light (oa' i hi) this.1 this.2, by unfold Half; omega⟩) (fun i hi => by have := (lb i hi).2 (ob' i hi); exact ⟨bd_light (ob' i hi) this.1 this.2, by unfold Half; omega⟩) hn w hb0).mono ?_
  rintro _ w' ⟨v, rfl, hb, hD⟩
  obtain ⟨n_g, n_o, n_n, n_c, n_e, rfl⟩ := hD.shape
  exact ⟨_, _, _, _, _, rfl, hb, hD⟩
theorem bad_ok {x : Bool} (h : false = !x) : x = true := by cases x <;> simp at h ⊢
theorem s2_apart {w w5 w6 w7 w11 : World} {s d : Value} {x : Nat} (hs : Lies s x w5.heap.size) (hd : Lies d w6.heap.size w7.heap.size) (h1 : w.heap.size ≤ w6.heap.size) (h2 : w5.heap.size ≤ w6.heap.size) (h3 : w7.heap.size ≤ w11.heap.size) : ∀ g, d.ownBlock = some g → ¬ S2 (fun g => g < w.heap.size) s w11.heap.size g := fun g hg => by
  have hd := hd g hg
  exact notS2 (by omega) (fun hl => by have := hs g hl; omega) (by omega)
end Go.Proofs.YtnhkagiionkjaaaGreatDoor
