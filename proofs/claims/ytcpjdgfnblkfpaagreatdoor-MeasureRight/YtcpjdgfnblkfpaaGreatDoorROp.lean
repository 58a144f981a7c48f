/-
  Package round: kind.operate in the ways other than Near, product, total, by their contracts.
-/
import Derived.Test.YtcpjdgfnblkfpaaGreatDoorRVals2
import Derived.Test.YtcpjdgfnblkfpaaGreatDoorRAlive
import Derived.Test.YtcpjdgfnblkfpaaGreatDoorRRd
import Derived.Test.YtcpjdgfnblkfpaaGreatDoorDLaw
namespace Go.Proofs.YtcpjdgfnblkfpaaGreatDoor
open Go Go.RowKit Go.Proofs.YtcpjdgfnblkfpaaGreatDoor.M
set_option linter.unusedSimpArgs false
set_option linter.unusedVariables false

/-- What the value of a number is. -/
def vlV (ng : Bool) (m e : Int) (sd : Bool) : Value := valV ng (m / 2 ^ vK m).toNat (e + vK m) (decide (m % 2 ^ vK m ≠ 0)) sd
theorem valueOf_D {w : World} {v : Value} {V : Int} {ng : Bool} {m e : Int} (hx : DNum w v V) (ok : Dok V) (hy : Dy V ng m e) (hT : Tab w) :
    Calls Tryz.prog 157 #[v] w fun r w' => r = .returned (vlV ng m e false) ∧ Below w.heap.size w w' := by
  obtain ⟨x, rfl, hR, hok, rfl⟩ := hx.open ok
  obtain ⟨na, hn, he0, he1⟩ := okR_sane hok
  obtain ⟨rfl, rfl, rfl⟩ := (okR_dy hok).1.unique hy
  exact valueOf_any _ _ _ _ _ _ _ hR na hn ⟨he0, he1⟩ hT
/-- Does the answer to the nearest stand? -/
def opT (er : Int) (mag : Nat) (sd : Bool) (b near : Int) : Int := if er ≠ 0 ∨ (mag = 0 ∧ sd = false) then near else b
set_option maxRecDepth 100000 in
set_option maxHeartbeats 1000000 in
theorem operate_go (way : Int) (hw : 1 ≤ way ∧ way ≤ 3) (near : Int) (F G Rf : Nat) (rc : Array Value) (oo : Option Addr) (n cap : Nat) (w : World) (V : Nat → Int) (ng : Bool) (mag : Nat) (exp : Int) (cut sd : Bool) (er b : Int) (o : Bool)
    (hEG : ∀ (cap : Array Value) (w : World), (callFunc G cap).run Tryz.prog w = .ok (.enter G cap) w)
    (hER : ∀ (cap : Array Value) (w : World), (callFunc Rf cap).run Tryz.prog w = .ok (.enter Rf cap) w)
    (CV : ∀ W, Below w.heap.size w W → Calls Tryz.prog 156 #[.agg #[.func (.func F) #[] #[], .func (.func G) #[] #[]], .slice oo n cap] W fun x w' => ∃ g q, x = .returned (.tuple #[.slice (some ⟨g, 0, none⟩) n n, .bool true]) ∧ W.heap.size ≤ g ∧ Nums w' (some ⟨g, 0, none⟩) n n q ∧ Below W.heap.size W w' ∧ ∀ i, i < n → Nrm (q i).d (q i).n ∧ Dy (V i) (q i).ng (val (q i).d (q i).n) (q i).e)
    (CR : ∀ W g q, Below w.heap.size w W → Nums W (some ⟨g, 0, none⟩) n n q → (∀ i, i < n → Nrm (q i).d (q i).n ∧ Dy (V i) (q i).ng (val (q i).d (q i).n) (q i).e) → Calls Tryz.prog Rf (#[.slice (some ⟨g, 0, none⟩) n n] ++ rc) W fun e w' => e = .returned (.tuple #[valV ng mag exp cut sd, .int .i64 er]) ∧ Below W.heap.size W w')
    (CT : ∀ W, Below w.heap.size w W → Calls Tryz.prog G #[valV ng mag exp cut true, wayV way] W fun e w' => e = .returned (.tuple #[.int .i64 b, .bool o]) ∧ Below W.heap.size W w') :
    Calls Tryz.prog 152 #[.agg #[.func (.func F) #[] #[], .func (.func G) #[] #[]], .int .i64 near, .int .i64 way, .func (.func Rf) #[] rc, .slice oo n cap] w fun e w' => e = .returned (.tuple #[.int .i64 (opT er mag sd b near), .int .i64 0]) ∧ Below w.heap.size w w' := by
  have hst : ∀ (p : Addr) (F : Nat) (m : Mode) (w : World), (store p (.func (.func F) #[] #[]) m).run Tryz.prog w = stored Tryz.prog w p (.func (.func F) #[] #[]) m := fun p F m w => run_store _ w p _ m rfl
  have hw0 : 0 ≤ way ∧ way ≤ 3 := by omega
  have hne : way ≠ 0 := by omega
  unfold valV wayV at *
  have CW := fun W => wayOf_any way W
  rw [if_pos hw0, decide_eq_true hw0] at CW
  unfold wayV at CW
  generalize wayF way = K at *
  have HV : Hid _ := CV
  have HR : Hid _ := CR
  have HT : Hid _ := CT
  clear CV CR CT
  have hb1 := bel_alloc w (.cells #[.func (.func F) #[] #[], .func (.func G) #[] #[]] 164)
  have q1 := heap_alloc_new w (.cells #[.func (.func F) #[] #[], .func (.func G) #[] #[]] 164)
  go_enter Tryz.func152, Tryz.ntmps152
  go_wp2_with fail
  generalize w.alloc (.cells #[.func (.func F) #[] #[], .func (.func G) #[] #[]] 164) = x0 at hb1 q1 ⊢
  refine (CW _).mono ?_
  rintro _ w2 ⟨rfl, hb2⟩
  have q2 := heap_alloc_new w2 (.cells #[.nilFunc] 174)
  have y0 := blkC q2 0 rfl
  have y1 := blkF q2 0
  have p1 := (hb2.block _ (Array.getElem?_eq_some_iff.1 q1).1).trans q1
  have hb3 := bel_alloc w2 (.cells #[.func (.func K) #[] #[]] 174)
  have p2 := (hb3.block _ (Array.getElem?_eq_some_iff.1 p1).1).trans p1
  have q3 := heap_alloc_new w2 (.cells #[.func (.func K) #[] #[]] 174)
  have c0 := blkC p2 0 rfl
  have c1 := blkC p2 1 rfl
  have hbx := bel_trans (bel_trans hb1 hb2) hb3
  clear CW q1 p1
  go_wp2_with fail
  generalize w2.alloc (.cells #[.func (.func K) #[] #[]] 174) = x3 at hb3 p2 q3 c0 c1 hbx ⊢
  refine (HV.out _ hbx).mono ?_
  rintro _ w4 ⟨g, q, rfl, hg, hN, hb4, hf⟩
  have hb5 := bel_trans hbx hb4
  have p2 := (hb4.block _ (Array.getElem?_eq_some_iff.1 p2).1).trans p2
  have q3 := (hb4.block _ (Array.getElem?_eq_some_iff.1 q3).1).trans q3
  clear c0 c1 y0 y1 q2
  go_wp2_with fail
  refine (HR.out _ g q hb5 hN hf).mono ?_
  rintro _ w6 ⟨rfl, hb6⟩
  have hb7 := bel_trans hb5 hb6
  have p2 := (hb6.block _ (Array.getElem?_eq_some_iff.1 p2).1).trans p2
  have q3 := (hb6.block _ (Array.getElem?_eq_some_iff.1 q3).1).trans q3
  clear HV HR hN hf
  have hb8 := bel_alloc w6 (.cells #[.bool ng, .int .u64 mag, .int .i64 exp, .bool cut, .bool sd] 170)
  have q8 := heap_alloc_new w6 (.cells #[.bool ng, .int .u64 mag, .int .i64 exp, .bool cut, .bool sd] 170)
  have x1' := blkC q8 1 rfl
  have x4' := blkC q8 4 rfl
  have z4' := blkF q8 4
  have hb9 := bel_trans hb7 hb8
  have hbX := bel_alloc w6 (.cells #[.bool ng, .int .u64 mag, .int .i64 exp, .bool cut, .bool true] 170)
  have qX := heap_alloc_new w6 (.cells #[.bool ng, .int .u64 mag, .int .i64 exp, .bool cut, .bool true] 170)
  have pX := (hbX.block _ (Array.getElem?_eq_some_iff.1 p2).1).trans p2
  have rX := (hbX.block _ (Array.getElem?_eq_some_iff.1 q3).1).trans q3
  have u1 := blkC pX 1 rfl
  have u2 := blkC rX 0 rfl
  have v0 := blkC qX 0 rfl
  have v1 := blkC qX 1 rfl
  have v2 := blkC qX 2 rfl
  have v3 := blkC qX 3 rfl
  have v4 := blkC qX 4 rfl
  have hbY := bel_trans hb7 hbX
  clear q8 qX pX rX p2 q3 hb8 hbX
  by_cases he : er = 0
  · subst he
    by_cases hm : mag = 0
    · subst hm
      cases sd
      · go_wp2
        all_goals refine bodyPost_ret (v := .tuple #[.int .i64 near, .int .i64 0]) (by simp [results, Tryz.results152, go_sem]) rfl ⟨by simp [opT], hb9⟩
      · have e0 : ((0 : Nat) : Int) = 0 := rfl
        have HT := HT.out
        simp only [e0] at HT hbY u1 u2 v0 v1 v2 v3 v4
        go_wp2_with fail
        refine (HT _ hbY).mono ?_
        rintro _ w10 ⟨rfl, hb10⟩
        go_wp2
        all_goals refine bodyPost_ret (v := .tuple #[.int .i64 b, .int .i64 0]) (by simp [results, Tryz.results152, go_sem]) rfl ⟨by simp [opT], bel_trans hbY hb10⟩
    · have hm' : ¬ ((mag : Int) = 0) := by omega
      go_wp2_with fail
      refine (HT.out _ hbY).mono ?_
      rintro _ w10 ⟨rfl, hb10⟩
      go_wp2
      all_goals refine bodyPost_ret (v := .tuple #[.int .i64 b, .int .i64 0]) (by simp [results, Tryz.results152, go_sem]) rfl ⟨by simp [opT, hm], bel_trans hbY hb10⟩
  · go_wp2
    all_goals refine bodyPost_ret (v := .tuple #[.int .i64 near, .int .i64 0]) (by simp [results, Tryz.results152, go_sem]) rfl ⟨by simp [opT, he], hb9⟩
set_option maxRecDepth 100000 in
set_option maxHeartbeats 1000000 in
theorem operate_not (way : Int) (hw : 1 ≤ way ∧ way ≤ 3) (near : Int) (F G Rf : Nat) (rc : Array Value) (oo : Option Addr) (n cap : Nat) (w : World)
    (CV : ∀ W, Below w.heap.size w W → Calls Tryz.prog 156 #[.agg #[.func (.func F) #[] #[], .func (.func G) #[] #[]], .slice oo n cap] W fun x w' => x = .returned (.tuple #[.slice none 0 0, .bool false]) ∧ Below W.heap.size W w') :
    Calls Tryz.prog 152 #[.agg #[.func (.func F) #[] #[], .func (.func G) #[] #[]], .int .i64 near, .int .i64 way, .func (.func Rf) #[] rc, .slice oo n cap] w fun e w' => e = .returned (.tuple #[.int .i64 near, .int .i64 0]) ∧ Below w.heap.size w w' := by
  have hst : ∀ (p : Addr) (F : Nat) (m : Mode) (w : World), (store p (.func (.func F) #[] #[]) m).run Tryz.prog w = stored Tryz.prog w p (.func (.func F) #[] #[]) m := fun p F m w => run_store _ w p _ m rfl
  have hw0 : 0 ≤ way ∧ way ≤ 3 := by omega
  have hne : way ≠ 0 := by omega
  have CW := fun W => wayOf_any way W
  rw [if_pos hw0, decide_eq_true hw0] at CW
  unfold wayV at CW
  generalize wayF way = K at *
  have HV : Hid _ := CV
  clear CV
  have hb1 := bel_alloc w (.cells #[.func (.func F) #[] #[], .func (.func G) #[] #[]] 164)
  have q1 := heap_alloc_new w (.cells #[.func (.func F) #[] #[], .func (.func G) #[] #[]] 164)
  go_enter Tryz.func152, Tryz.ntmps152
  go_wp2_with fail
  generalize w.alloc (.cells #[.func (.func F) #[] #[], .func (.func G) #[] #[]] 164) = x0 at hb1 q1 ⊢
  refine (CW _).mono ?_
  rintro _ w2 ⟨rfl, hb2⟩
  have q2 := heap_alloc_new w2 (.cells #[.nilFunc] 174)
  have y0 := blkC q2 0 rfl
  have y1 := blkF q2 0
  have p1 := (hb2.block _ (Array.getElem?_eq_some_iff.1 q1).1).trans q1
  have hb3 := bel_alloc w2 (.cells #[.func (.func K) #[] #[]] 174)
  have p2 := (hb3.block _ (Array.getElem?_eq_some_iff.1 p1).1).trans p1
  have c0 := blkC p2 0 rfl
  have c1 := blkC p2 1 rfl
  have hbx := bel_trans (bel_trans hb1 hb2) hb3
  clear CW q1 p1
  go_wp2_with fail
  refine (HV.out _ hbx).mono ?_
  rintro _ w4 ⟨rfl, hb4⟩
  go_wp2
  all_goals refine bodyPost_ret (v := .tuple #[.int .i64 near, .int .i64 0]) (by simp [results, Tryz.results152, go_sem]) rfl ⟨rfl, bel_trans hbx hb4⟩
end Go.Proofs.YtcpjdgfnblkfpaaGreatDoor
