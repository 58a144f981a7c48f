/-
  Package sites, by contracts: put.
-/
import Derived.Test.YtbljcodhcodmkaaDoorTCal
import Derived.Deep.RegionLaw
namespace Go.Proofs.YtbljcodhcodmkaaDoor
open Go Go.RowKit Go.Proofs.YtbljcodhcodmkaaDoor.M
set_option linter.unusedSimpArgs false
set_option linter.unusedVariables false

/-- A point as sites are told: finite, 0 for -0. -/
structure NrmP (x y : Int) : Prop where
  rx : rng x
  ry : rng y
  ox : pok x = true
  oy : pok y = true
  zx : q0 x = x
  zy : q0 y = y
theorem StF.put {n : Nat} {px py : Nat → Int} {al : Nat → Bool} {f : Int → Int → Option Int} (h : StF n px py al f) {x y : Int} (hp : NrmP x y) (hf : f x y = none) : StF (n + 1) (updT px n x) (updT py n y) (updT al n true) (fput f x y n) := by
  refine ⟨fun i hi => ?_, fun i hi ha => ?_, fun a c v hv => ?_⟩
  · by_cases e : i = n
    · subst e; rw [updT_same, updT_same]; exact ⟨hp.rx, hp.ry, hp.ox, hp.oy, hp.zx, hp.zy⟩
    · rw [updT_other _ _ e, updT_other _ _ e]; exact h.nrm i (by omega)
  · by_cases e : i = n
    · subst e; rw [updT_same, updT_same]; exact if_pos ⟨rfl, rfl⟩
    · rw [updT_other _ _ e] at ha
      rw [updT_other _ _ e, updT_other _ _ e]
      have k := h.fnd i (by omega) ha
      unfold fput
      rw [if_neg (fun q => by rw [q.1, q.2, hf] at k; cases k)]
      exact k
  · unfold fput at hv
    by_cases e : a = x ∧ c = y
    · rw [if_pos e] at hv
      cases hv
      exact ⟨n, by omega, rfl, updT_same _ _ _, by rw [updT_same]; exact e.1.symm, by rw [updT_same]; exact e.2.symm⟩
    · rw [if_neg e] at hv
      obtain ⟨i, hi, e1, e2, e3, e4⟩ := h.back a c v hv
      have ne : i ≠ n := by omega
      exact ⟨i, by omega, e1, by rw [updT_other _ _ ne]; exact e2, by rw [updT_other _ _ ne]; exact e3, by rw [updT_other _ _ ne]; exact e4⟩
/-- A set whose map is there. -/
structure SetM (B : Nat) (w : World) (g n s : Nat) (px py : Nat → Int) (al : Nat → Bool) (f : Int → Int → Option Int) (gv : Value) (b : Nat) : Prop where
  blk : w.heap[g]? = some (.cells #[gv, .map (some b)] 49 (0, 0))
  own : OutT B w gv n px py al
  map : Mp w b n f s
theorem SetM.keeps {B : Nat} {w w' : World} {g n s : Nat} {px py : Nat → Int} {al : Nat → Bool} {f : Int → Int → Option Int} {gv : Value} {b : Nat} (h : SetM B w g n s px py al f gv b) (hb : Below w.heap.size w w') : SetM B w' g n s px py al f gv b := by
  obtain ⟨es, c, hc⟩ := h.map.lt
  exact ⟨(hb.block g (Array.getElem?_eq_some_iff.1 h.blk).1).trans h.blk, h.own.of_block fun k hk => hb.block k (h.own.typed hk).2.1, h.map.of_block (hb.block b (Array.getElem?_eq_some_iff.1 hc).1)⟩
/-- What a list that has grown by one leaves of the set. -/
theorem SetM.grown {B : Nat} {w w' : World} {g n s : Nat} {px py : Nat → Int} {al : Nat → Bool} {f : Int → Int → Option Int} {gv : Value} {b : Nat} (h : SetM B w g n s px py al f gv b) (hg : w.grownBy w' gv.ownBlock) :
    w'.heap[g]? = some (.cells #[gv, .map (some b)] 49 (0, 0)) ∧ Mp w' b n f s ∧ FrS B w w' := by
  obtain ⟨es, c, hc⟩ := h.map.lt
  have n1 : some g ≠ gv.ownBlock := fun e => by
    obtain ⟨_, _, cur, z, hz⟩ := h.own.typed e.symm
    rw [h.blk] at hz
    simp at hz
  have n2 : some b ≠ gv.ownBlock := fun e => by
    obtain ⟨_, _, cur, z, hz⟩ := h.own.typed e.symm
    rw [hc] at hz
    cases hz
  refine ⟨(hg.block g (Array.getElem?_eq_some_iff.1 h.blk).1 n1).trans h.blk, h.map.of_block (hg.block b (Array.getElem?_eq_some_iff.1 hc).1 n2), FrS.of_grown hg fun k hk => ?_⟩
  obtain ⟨h1, _, cur, z, hz⟩ := h.own.typed hk
  exact ⟨h1, by rw [hz]; exact fun q => q.2 rfl⟩
set_option maxRecDepth 100000 in
set_option maxHeartbeats 2000000 in
theorem tPut {B : Nat} {w : World} {g n s : Nat} {px py : Nat → Int} {al : Nat → Bool} {f : Int → Int → Option Int} (h : SetR B w g n s px py al f) (hB : B ≤ w.heap.size) (hn : n < 65536) {x y : Int} (hp : NrmP x y) (hf : f x y = none) :
    Calls Tryd.prog 19 #[.pointer (some ⟨g, 0, none⟩), .agg #[.int .i64 x, .int .i64 y]] w fun r w' => r = .returned (.int .i64 n) ∧ SetR B w' g (n + 1) (s + 1) (updT px n x) (updT py n y) (updT al n true) (fput f x y n) ∧ FrS B w w' := by
  obtain ⟨gv, mv, h1, hg, h3, h4, h5, h6⟩ := h
  obtain ⟨xo, xc, rfl, hle, hmx, _⟩ := h3.shape
  have HST : Hid (StF (n + 1) (updT px n x) (updT py n y) (updT al n true) (fput f x y n)) := h4.put hp hf
  have HP : Hid (NrmP x y) := hp
  have HF : Hid (f x y = none) := hf
  have hn0 : (0 : Int) ≤ (n : Int) := by omega
  have hb0 := bel_alloc w (.cells #[.int .i64 x, .int .i64 y] 31)
  have p_k := t_new w (.cells #[.int .i64 x, .int .i64 y] 31)
  have g_k := t_past (.cells #[.int .i64 x, .int .i64 y] 31) h1
  have hO0 : OutT B (w.alloc (.cells #[.int .i64 x, .int .i64 y] 31)) (.slice xo n xc) n px py al := h3.of_block fun k hk => hb0.block k (h3.typed hk).2.1
  have hB0 : B ≤ (w.alloc (.cells #[.int .i64 x, .int .i64 y] 31)).heap.size := Nat.le_trans hB hb0.size
  rcases h6 with ⟨rfl, rfl, rfl, rfl⟩ | ⟨b, rfl, hbb, hM⟩
  · obtain ⟨c0, c1, z0, z1⟩ := t_blkC g_k
    have hmm := @run_makeMap Tryd.prog
    have heq : ∀ w : World, (binOp .eql 47 (.map none) (.map none)).run Tryd.prog w = .ok (.bool true) w := fun _ => by kernel_rfl
    have esz : (w.alloc (.cells #[.int .i64 x, .int .i64 y] 31)).heap.size = w.heap.size + 1 := by simp
    have M0 := Mp.made (w.alloc (.cells #[.int .i64 x, .int .i64 y] 31))
    rw [esz] at M0
    have hbm := bel_alloc (w.alloc (.cells #[.int .i64 x, .int .i64 y] 31)) (.map #[] 0)
    have ng : g ≠ w.heap.size + 1 := fun e => by have := (Array.getElem?_eq_some_iff.1 h1).1; omega
    have np : w.heap.size ≠ g := fun e => by have := (Array.getElem?_eq_some_iff.1 h1).1; omega
    have k2 := q_heap_set (t_past (.map #[] 0) g_k) 1 (.map (some (w.heap.size + 1)))
    have S2 : SetM B (((w.alloc (.cells #[.int .i64 x, .int .i64 y] 31)).alloc (.map #[] 0)).setCell ⟨g, 1, none⟩ (.map (some (w.heap.size + 1)))) g 0 0 px py al (fun _ _ => none) (.slice xo 0 xc) (w.heap.size + 1) := by
      refine ⟨k2, (hO0.of_block fun k hk => hbm.block k (hO0.typed hk).2.1).of_block fun k hk => Below.heap_setCell _ _ _ _ fun e => ?_, M0.of_block (Below.heap_setCell _ _ _ _ fun e => ng e.symm)⟩
      obtain ⟨_, _, cur, z, hz⟩ := hO0.typed hk
      change k = g at e
      rw [e, g_k] at hz
      simp at hz
    have F2 : FrS B w (((w.alloc (.cells #[.int .i64 x, .int .i64 y] 31)).alloc (.map #[] 0)).setCell ⟨g, 1, none⟩ (.map (some (w.heap.size + 1)))) := ((FrS.of_below hb0).trans (FrS.of_below hbm)).trans (FrS.set _ hg (by rw [t_past (.map #[] 0) g_k]; exact fun q => q.1 rfl))
    have p_2 : (((w.alloc (.cells #[.int .i64 x, .int .i64 y] 31)).alloc (.map #[] 0)).setCell ⟨g, 1, none⟩ (.map (some (w.heap.size + 1)))).heap[w.heap.size]? = some (.cells #[.int .i64 x, .int .i64 y] 31 (0, 0)) := (Below.heap_setCell _ _ _ _ np).trans (t_past _ p_k)
    have hB2 : B ≤ (((w.alloc (.cells #[.int .i64 x, .int .i64 y] 31)).alloc (.map #[] 0)).setCell ⟨g, 1, none⟩ (.map (some (w.heap.size + 1)))).heap.size := Nat.le_trans hB F2.size
    have hbb : B ≤ w.heap.size + 1 := by omega
    obtain ⟨d0, d1, _, _⟩ := t_blkC S2.blk
    obtain ⟨f0, f1, y0, y1⟩ := t_blkC (t_past (.map #[] 0) g_k)
    clear h1 h3 h4 M0 hO0 g_k hp hf hb0 esz hbm p_k hB0 k2
    go_enter Tryd.func19, Tryd.ntmps19
    go_wp2_with fail
    clear d0 d1 c0 c1 z0 z1 f0 f1 y0 y1
    generalize (((w.alloc (.cells #[.int .i64 x, .int .i64 y] 31)).alloc (.map #[] 0)).setCell ⟨g, 1, none⟩ (.map (some (w.heap.size + 1)))) = x2 at *
    generalize w.heap.size + 1 = b at *
    have p_k := p_2
    clear p_2
    have HS2 : Hid (SetM B x2 g 0 0 px py al (fun _ _ => none) (.slice xo 0 xc) b) := S2
    have HF2 : Hid (FrS B w x2) := F2
    obtain ⟨c0, c1, z0, z1⟩ := t_blkC S2.blk
    obtain ⟨p0, p1, _, _⟩ := t_blkC p_k
    have HPK : Hid (x2.heap[w.heap.size]? = some (.cells #[.int .i64 x, .int .i64 y] 31 (0, 0))) := p_k
    obtain ⟨y0, y1, _, _⟩ := t_blkC (t_past (.cells #[.int .i64 x, .int .i64 y, .bool true] 54) S2.blk)
    clear S2 F2 p_k
    go_region_law (first
      | (refine step_appT rfl _ _ rfl B (.slice xo 0 xc) 0 px py al rfl ((HS2.out.keeps (bel_alloc x2 _).drew).own) _ x y true rfl (t_new x2 _) (by omega) (Nat.le_trans hB2 (bel_alloc x2 _).size) ?_; intro v4 q4 hO4 hg4 hv4; obtain ⟨vo, vc, rfl, hvl, hvm, hv0⟩ := hO4.shape; obtain ⟨k4, M4, F4⟩ := (HS2.out.keeps (bel_alloc x2 _).drew).grown hg4; obtain ⟨c40, c41, z40, z41⟩ := t_blkC k4))
    all_goals
      have hb2 : Below x2.heap.size x2 (x2.alloc (.cells #[.int .i64 x, .int .i64 y, .bool true] 54)).drew := (bel_alloc x2 _).drew
      have ng4 : ∀ k, (Value.slice vo (1) vc).ownBlock = some k → k ≠ g := fun k hk e => by
        obtain ⟨_, _, cur, z, hz⟩ := hO4.typed hk
        rw [e, k4] at hz
        simp at hz
      obtain ⟨es4, cl4, hc4⟩ := M4.lt
      have nb4 : b ≠ g := fun e => by rw [e, k4] at hc4; cases hc4
      have b4 : (q4.setCell ⟨g, 0, none⟩ (.slice vo (1) vc)).heap[g]? = some (.cells #[.slice vo (1) vc, .map (some b)] 49 (0, 0)) := q_heap_set k4 0 _
      have O4 : OutT B (q4.setCell ⟨g, 0, none⟩ (.slice vo (1) vc)) (.slice vo (1) vc) (1) (updT px 0 x) (updT py 0 y) (updT al 0 true) := hO4.of_block fun k hk => Below.heap_setCell _ _ _ _ (ng4 k hk)
      have M5 : Mp (q4.setCell ⟨g, 0, none⟩ (.slice vo (1) vc)).drew b 0 (fun _ _ => none) 0 := M4.of_block (Below.heap_setCell _ _ _ _ nb4)
      have F42 : FrS B x2 (q4.setCell ⟨g, 0, none⟩ (.slice vo (1) vc)) := ((FrS.of_below hb2).trans F4).trans (FrS.set _ hg (by rw [k4]; exact fun q => q.1 rfl))
      have p4 := F42.blk HPK.out (by decide) (by decide)
      have F5 := HF2.out.trans F42
      have HO5 : Hid (OutT B (q4.setCell ⟨g, 0, none⟩ (.slice vo (1) vc)) (.slice vo (1) vc) (1) (updT px 0 x) (updT py 0 y) (updT al 0 true)) := O4
      have HB5 : Hid ((q4.setCell ⟨g, 0, none⟩ (.slice vo (1) vc)).heap[g]? = some (.cells #[.slice vo (1) vc, .map (some b)] 49 (0, 0))) := b4
      have HF5 : Hid (FrS B w (q4.setCell ⟨g, 0, none⟩ (.slice vo (1) vc))) := F5
      obtain ⟨e0, e1, _, _⟩ := t_blkC b4
      obtain ⟨r0, r1, _, _⟩ := t_blkC p4
      obtain ⟨w5, hr5, hM5, ht5⟩ := M5.store (v := 0) (by omega) HP.out.rx HP.out.ry (show rng 0 from ⟨by omega, by omega⟩)
      have HM5 : Hid (Mp w5 b (1) (fput (fun _ _ => none) x y 0) (0 + 1)) := by
        have := hM5
        rw [(show ((fun _ _ => none : Int → Int → Option Int) x y).isSome = false from rfl), if_neg (by decide)] at this
        exact this
      have HT5 : Hid ((q4.setCell ⟨g, 0, none⟩ (.slice vo (1) vc)).drew.mapTurned w5 b) := ht5
      clear hb2 b4 O4 M5 F42 p4 F5 hM5 ht5 hc4 hg4 hO4 hv4 k4 M4 F4 c40 c41 z40 z41 c0 c1 z0 z1 p0 p1 y0 y1 HS2 HF2 HPK ng4
      generalize q4.setCell ⟨g, 0, none⟩ (.slice vo (1) vc) = x4 at *
      go_wp2_with fail
      go_region
    all_goals
      go_wp2
      go_ret
      have hg5 := HT5.out.grown
      have nb5 : g ≠ b := fun e => nb4 e.symm
      have f5 : FrS B x4 w5 := (FrS.of_below (bel_refl x4).drew).trans (FrS.of_grown hg5 fun k hk => by
        cases hk
        obtain ⟨es, cl, es', cl', hh, _⟩ := HT5.out
        exact ⟨hbb, by rw [hh]; exact fun q => q⟩)
      refine ⟨rfl, ⟨_, _, (hg5.block g (Array.getElem?_eq_some_iff.1 HB5.out).1 (fun e => nb5 (by cases e; rfl))).trans HB5.out, hg, HO5.out.of_block fun k hk => hg5.block k (HO5.out.typed hk).2.1 (fun e => ?_), HST.out, by omega, .inr ⟨b, rfl, hbb, HM5.out⟩⟩, HF5.out.trans f5⟩
      obtain ⟨_, _, cur, z, hz⟩ := HO5.out.typed hk
      obtain ⟨es, cl, es', cl', hh, _⟩ := HT5.out
      cases e
      have hh' : x4.heap[b]? = some (.map es cl) := hh
      rw [hh'] at hz
      cases hz
  · obtain ⟨c0, c1, z0, z1⟩ := t_blkC g_k
    have heq : ∀ w : World, (binOp .eql 47 (.map (some b)) (.map none)).run Tryd.prog w = .ok (.bool false) w := fun _ => by kernel_rfl
    obtain ⟨es, c, hc⟩ := hM.lt
    have S2 : SetM B (w.alloc (.cells #[.int .i64 x, .int .i64 y] 31)) g n s px py al f (.slice xo n xc) b := ⟨g_k, hO0, hM.of_block (hb0.block b (Array.getElem?_eq_some_iff.1 hc).1)⟩
    have F2 : FrS B w (w.alloc (.cells #[.int .i64 x, .int .i64 y] 31)) := FrS.of_below hb0
    clear h1 h3 h4 hM hc hO0 g_k hp hf hb0
    go_enter Tryd.func19, Tryd.ntmps19
    go_wp2_with fail
    clear c0 c1 z0 z1
    generalize w.alloc (.cells #[.int .i64 x, .int .i64 y] 31) = x2 at *
    have hB2 := hB0
    clear hB0
    have HS2 : Hid (SetM B x2 g n s px py al f (.slice xo n xc) b) := S2
    have HF2 : Hid (FrS B w x2) := F2
    obtain ⟨c0, c1, z0, z1⟩ := t_blkC S2.blk
    obtain ⟨p0, p1, _, _⟩ := t_blkC p_k
    have HPK : Hid (x2.heap[w.heap.size]? = some (.cells #[.int .i64 x, .int .i64 y] 31 (0, 0))) := p_k
    obtain ⟨y0, y1, _, _⟩ := t_blkC (t_past (.cells #[.int .i64 x, .int .i64 y, .bool true] 54) S2.blk)
    clear S2 F2 p_k
    go_region_law (first
      | (refine step_appT rfl _ _ rfl B (.slice xo n xc) n px py al rfl ((HS2.out.keeps (bel_alloc x2 _).drew).own) _ x y true rfl (t_new x2 _) (by omega) (Nat.le_trans hB2 (bel_alloc x2 _).size) ?_; intro v4 q4 hO4 hg4 hv4; obtain ⟨vo, vc, rfl, hvl, hvm, hv0⟩ := hO4.shape; obtain ⟨k4, M4, F4⟩ := (HS2.out.keeps (bel_alloc x2 _).drew).grown hg4; obtain ⟨c40, c41, z40, z41⟩ := t_blkC k4))
    all_goals
      have hb2 : Below x2.heap.size x2 (x2.alloc (.cells #[.int .i64 x, .int .i64 y, .bool true] 54)).drew := (bel_alloc x2 _).drew
      have ng4 : ∀ k, (Value.slice vo (n + 1) vc).ownBlock = some k → k ≠ g := fun k hk e => by
        obtain ⟨_, _, cur, z, hz⟩ := hO4.typed hk
        rw [e, k4] at hz
        simp at hz
      obtain ⟨es4, cl4, hc4⟩ := M4.lt
      have nb4 : b ≠ g := fun e => by rw [e, k4] at hc4; cases hc4
      have b4 : (q4.setCell ⟨g, 0, none⟩ (.slice vo (n + 1) vc)).heap[g]? = some (.cells #[.slice vo (n + 1) vc, .map (some b)] 49 (0, 0)) := q_heap_set k4 0 _
      have O4 : OutT B (q4.setCell ⟨g, 0, none⟩ (.slice vo (n + 1) vc)) (.slice vo (n + 1) vc) (n + 1) (updT px n x) (updT py n y) (updT al n true) := hO4.of_block fun k hk => Below.heap_setCell _ _ _ _ (ng4 k hk)
      have M5 : Mp (q4.setCell ⟨g, 0, none⟩ (.slice vo (n + 1) vc)).drew b n f s := M4.of_block (Below.heap_setCell _ _ _ _ nb4)
      have F42 : FrS B x2 (q4.setCell ⟨g, 0, none⟩ (.slice vo (n + 1) vc)) := ((FrS.of_below hb2).trans F4).trans (FrS.set _ hg (by rw [k4]; exact fun q => q.1 rfl))
      have p4 := F42.blk HPK.out (by decide) (by decide)
      have F5 := HF2.out.trans F42
      have HO5 : Hid (OutT B (q4.setCell ⟨g, 0, none⟩ (.slice vo (n + 1) vc)) (.slice vo (n + 1) vc) (n + 1) (updT px n x) (updT py n y) (updT al n true)) := O4
      have HB5 : Hid ((q4.setCell ⟨g, 0, none⟩ (.slice vo (n + 1) vc)).heap[g]? = some (.cells #[.slice vo (n + 1) vc, .map (some b)] 49 (0, 0))) := b4
      have HF5 : Hid (FrS B w (q4.setCell ⟨g, 0, none⟩ (.slice vo (n + 1) vc))) := F5
      obtain ⟨e0, e1, _, _⟩ := t_blkC b4
      obtain ⟨r0, r1, _, _⟩ := t_blkC p4
      obtain ⟨w5, hr5, hM5, ht5⟩ := M5.store (v := (n : Int)) (by omega) HP.out.rx HP.out.ry (show rng (n : Int) from ⟨by omega, by omega⟩)
      have HM5 : Hid (Mp w5 b (n + 1) (fput f x y (n : Int)) (s + 1)) := by
        have := hM5
        rw [(show (f x y).isSome = false by rw [HF.out]; rfl), if_neg (by decide)] at this
        exact this
      have HT5 : Hid ((q4.setCell ⟨g, 0, none⟩ (.slice vo (n + 1) vc)).drew.mapTurned w5 b) := ht5
      clear hb2 b4 O4 M5 F42 p4 F5 hM5 ht5 hc4 hg4 hO4 hv4 k4 M4 F4 c40 c41 z40 z41 c0 c1 z0 z1 p0 p1 y0 y1 HS2 HF2 HPK ng4
      generalize q4.setCell ⟨g, 0, none⟩ (.slice vo (n + 1) vc) = x4 at *
      go_wp2_with fail
      go_region
    all_goals
      go_wp2
      go_ret
      have hg5 := HT5.out.grown
      have nb5 : g ≠ b := fun e => nb4 e.symm
      have f5 : FrS B x4 w5 := (FrS.of_below (bel_refl x4).drew).trans (FrS.of_grown hg5 fun k hk => by
        cases hk
        obtain ⟨es, cl, es', cl', hh, _⟩ := HT5.out
        exact ⟨hbb, by rw [hh]; exact fun q => q⟩)
      refine ⟨rfl, ⟨_, _, (hg5.block g (Array.getElem?_eq_some_iff.1 HB5.out).1 (fun e => nb5 (by cases e; rfl))).trans HB5.out, hg, HO5.out.of_block fun k hk => hg5.block k (HO5.out.typed hk).2.1 (fun e => ?_), HST.out, by omega, .inr ⟨b, rfl, hbb, HM5.out⟩⟩, HF5.out.trans f5⟩
      obtain ⟨_, _, cur, z, hz⟩ := HO5.out.typed hk
      obtain ⟨es, cl, es', cl', hh, _⟩ := HT5.out
      cases e
      have hh' : x4.heap[b]? = some (.map es cl) := hh
      rw [hh'] at hz
      cases hz
end Go.Proofs.YtbljcodhcodmkaaDoor
