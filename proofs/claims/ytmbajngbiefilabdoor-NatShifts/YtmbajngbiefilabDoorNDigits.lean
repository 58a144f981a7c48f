/-
  The statements' own helper digits: a valid list out of any ints, by its contract.
-/
import Derived.Test.YtmbajngbiefilabDoorNLaw
namespace Go.Proofs.YtmbajngbiefilabDoor
open Go Go.RowKit Go.Proofs.YtmbajngbiefilabDoor.M
set_option linter.unusedSimpArgs false
set_option linter.unusedVariables false

theorem Out.cut {B : Nat} {w : World} {ao : Option Addr} {n cap m : Nat} {d : Nat → Int} (h : Out B w (.slice ao n cap) n d) (hm : m ≤ n) : Out B w (.slice ao m cap) m d := by
  refine ⟨by rw [vals_length]; omega, ?_⟩
  rcases h.2 with ⟨hn, h0⟩ | ⟨g, cap', cur, hv, hB, hg, hnc, hcm, hs, ht⟩
  · simp only [Value.slice.injEq] at hn
    obtain ⟨rfl, rfl, rfl⟩ := hn
    obtain rfl : m = 0 := by omega
    exact .inl ⟨rfl, rfl⟩
  · simp only [Value.slice.injEq] at hv
    obtain ⟨rfl, _, rfl⟩ := hv
    refine .inr ⟨g, cap, cur, rfl, hB, hg, by omega, hcm, hs, ?_⟩
    apply vals_ext (by simp; omega)
    intro i hi
    have e : (cur.toList.take (n * 1))[i]? = (vals d n)[i]? := by rw [ht]
    rw [List.getElem?_take, if_pos (by omega), vals_get d (by omega)] at e
    rw [List.getElem?_take, if_pos (by omega)]; exact e

/-- A list of less than N digits. -/
def AnsLt (w w' : World) (N : Nat) (v : Value) : Prop := ∃ V, Ans w w' V v ∧ V < P N
def lenOf : Value → Nat | .slice _ t _ => t | _ => 0
theorem cat_last (f : Nat → Int) (k i : Nat) (hi : i < k + 1) : cat f k (fun _ => f k) i = f i := by
  by_cases h : i < k
  · simp [cat, h]
  · simp [cat, h]; rw [show i = k by omega]
set_option maxHeartbeats 1000000 in
theorem digits_any (ao : Option Addr) (n cap N : Nat) (d : Nat → Int) (w : World) (h : Row w ao n cap d) (hN : N ≤ 1000) :
    Calls Tryd.prog 4 #[.slice ao n cap, .int .i64 N] w fun e w' => ∃ v, e = .returned v ∧ AnsLt w w' N v := by
  have hl := h.le
  have hm := h.max
  go_enter Tryd.func4, Tryd.ntmps4
  go_wp2
  go_loopw [5, 6] (fun v i wr => ∃ k : Nat, k ≤ n ∧ k ≤ N ∧ i = .int .i64 k ∧ Out w.heap.size wr v k (fun i => d i % 1073741824) ∧ Below w.heap.size w wr) (fun _ i _ => n - (intOf i).toNat)
  case atStart => exact ⟨0, Nat.zero_le _, Nat.zero_le _, rfl, Out.nil _ _ _, bel_refl _⟩
  case round =>
    obtain ⟨k, hk, hkN, rfl, hO, hbw⟩ := hrel
    by_cases hlt : k < n ∧ k < N
    · obtain ⟨hlt, hltN⟩ := hlt
      obtain ⟨b, off, rfl, hb, hc⟩ := h.spot (by omega)
      have c := (hbw.cell (p := ⟨b, off + k, none⟩) hb).trans (hc k hlt)
      have h30 := and_30 (d k)
      go_wp2_with (at_builtin; refine wpList_app rfl _ _ rfl w.heap.size _ k _ rfl (hO.stays (bel_alloc _ _)) _ 1 1 (fun _ => d k % 1073741824) rfl (row1 _ _ rfl) (by omega) (by have := hbw.size; simp; omega) ?_; intro v' w1 hO1 hg1)
      have hb1 : Below w.heap.size w w1 := (hbw.alloc hbw.size _).grown hg1 (by have := hbw.size; simp; omega) (own_ge hO)
      go_roundw
      case rel => exact ⟨k + 1, by omega, by omega, by go_num, hO1.congr (fun i hi => cat_last (fun i => d i % 1073741824) k i hi), hb1⟩
      case measure => simp [intOf]; omega
    · obtain ⟨vo, vc, rfl, hR⟩ := hO.row
      have hlr := hR.le
      have hmr := hR.max
      by_cases hlt2 : k < n
      all_goals
        go_wp2
        go_loop [5] (fun v => ∃ t : Nat, t ≤ k ∧ v = .slice vo t vc ∧ Hid (∀ i, t ≤ i → i < k → d i % 1073741824 = 0)) (fun v => lenOf v)
        case atStart => exact ⟨k, Nat.le_refl _, rfl, fun i a b => by omega⟩
        case round =>
          obtain ⟨t, ht, rfl, HZ⟩ := hrel
          by_cases h0 : t = 0
          · subst h0
            go_wp2
            go_ret
            exact ⟨_, rfl, 0, ⟨0, _, hO.cut (Nat.zero_le _), ⟨fun i hi => by omega, .inl rfl⟩, rfl, hbw⟩, P_pos _⟩
          · obtain ⟨b, off, rfl, hb, hc⟩ := hR.spot (by omega)
            have c := hc (t - 1) (by omega)
            by_cases h1 : d (t - 1) % 1073741824 = 0
            · go_wp2
              go_round
              case rel => exact ⟨t - 1, by omega, rfl, fun i a b => by by_cases e : i = t - 1; (· rw [e]; exact h1); (· exact HZ.out i (by omega) b)⟩
              case measure => simp [lenOf]; omega
            · go_wp2
              go_ret
              have D : Dig (fun i => d i % 1073741824) t := fun i hi => mod_dig _
              refine ⟨_, rfl, _, ⟨t, _, hO.cut ht, ⟨D, .inr h1⟩, rfl, hbw⟩, ?_⟩
              have a := val_lt D
              have b := P_le (show t ≤ N by omega)
              omega
end Go.Proofs.YtmbajngbiefilabDoor
