/-
  Parts of the proof, one behind another.
-/
import Derived.Test.YtafnigjehkpggaaGreatDoorPart25
import Derived.Test.YtafnigjehkpggaaGreatDoorPart21
import Derived.Test.YtafnigjehkpggaaGreatDoorPart11
import Derived.Deep.RegionHeld3
import Derived.Test.YtafnigjehkpggaaGreatDoorPart20
import Derived.Test.YtafnigjehkpggaaGreatDoorPart7
import Derived.Test.YtafnigjehkpggaaGreatDoorPart19
import Derived.Test.YtafnigjehkpggaaGreatDoorPart8
import Derived.Test.YtafnigjehkpggaaGreatDoorPart17
import Derived.BigQuiet
namespace Go.Proofs.YtafnigjehkpggaaGreatDoor
open Go Go.RowKit Go.Proofs.YtafnigjehkpggaaGreatDoor.M
set_option linter.unusedSimpArgs false
set_option linter.unusedVariables false
theorem cell_set8 {W:World} {p:Addr} {v:Value} (h:W.cell? p=some v) {g:Nat} (x0 x1 x2 x3 x4 x5 x6 x7:Value) (hg:p.block ≠ g):((((((((W.setCell ⟨g,0,none⟩ x0).setCell ⟨g,1,none⟩ x1).setCell ⟨g,2,none⟩ x2).setCell ⟨g,3,none⟩ x3).setCell ⟨g,4,none⟩ x4).setCell ⟨g,5,none⟩ x5).setCell ⟨g,6,none⟩ x6).setCell ⟨g,7,none⟩ x7).cell? p=some v :=
  ((((((((((Wr.refl g W).setCell 0 x0).setCell 1 x1).setCell 2 x2).setCell 3 x3).setCell 4 x4).setCell 5 x5).setCell 6 x6).setCell 7 x7).cell (World.block_lt_of_cell? W _ h) hg).trans h
theorem heap_set8 {W:World} {g T:Nat} {a0 a1 a2 a3 a4 a5 a6 a7:Value} (h:W.heap[g]?=some (.cells #[a0,a1,a2,a3,a4,a5,a6,a7] T)) (x0 x1 x2 x3 x4 x5 x6 x7:Value):((((((((W.setCell ⟨g,0,none⟩ x0).setCell ⟨g,1,none⟩ x1).setCell ⟨g,2,none⟩ x2).setCell ⟨g,3,none⟩ x3).setCell ⟨g,4,none⟩ x4).setCell ⟨g,5,none⟩ x5).setCell ⟨g,6,none⟩ x6).setCell ⟨g,7,none⟩ x7).heap[g]?=some (.cells #[x0,x1,x2,x3,x4,x5,x6,x7] T):=by
  have h0:(W.setCell ⟨g,0,none⟩ x0).heap[g]?=some (.cells #[x0,a1,a2,a3,a4,a5,a6,a7] T):=heap_set h 0 x0
  have h1:((W.setCell ⟨g,0,none⟩ x0).setCell ⟨g,1,none⟩ x1).heap[g]?=some (.cells #[x0,x1,a2,a3,a4,a5,a6,a7] T):=heap_set h0 1 x1
  have h2:(((W.setCell ⟨g,0,none⟩ x0).setCell ⟨g,1,none⟩ x1).setCell ⟨g,2,none⟩ x2).heap[g]?=some (.cells #[x0,x1,x2,a3,a4,a5,a6,a7] T):=heap_set h1 2 x2
  have h3:((((W.setCell ⟨g,0,none⟩ x0).setCell ⟨g,1,none⟩ x1).setCell ⟨g,2,none⟩ x2).setCell ⟨g,3,none⟩ x3).heap[g]?=some (.cells #[x0,x1,x2,x3,a4,a5,a6,a7] T):=heap_set h2 3 x3
  have h4:(((((W.setCell ⟨g,0,none⟩ x0).setCell ⟨g,1,none⟩ x1).setCell ⟨g,2,none⟩ x2).setCell ⟨g,3,none⟩ x3).setCell ⟨g,4,none⟩ x4).heap[g]?=some (.cells #[x0,x1,x2,x3,x4,a5,a6,a7] T):=heap_set h3 4 x4
  have h5:((((((W.setCell ⟨g,0,none⟩ x0).setCell ⟨g,1,none⟩ x1).setCell ⟨g,2,none⟩ x2).setCell ⟨g,3,none⟩ x3).setCell ⟨g,4,none⟩ x4).setCell ⟨g,5,none⟩ x5).heap[g]?=some (.cells #[x0,x1,x2,x3,x4,x5,a6,a7] T):=heap_set h4 5 x5
  have h6:(((((((W.setCell ⟨g,0,none⟩ x0).setCell ⟨g,1,none⟩ x1).setCell ⟨g,2,none⟩ x2).setCell ⟨g,3,none⟩ x3).setCell ⟨g,4,none⟩ x4).setCell ⟨g,5,none⟩ x5).setCell ⟨g,6,none⟩ x6).heap[g]?=some (.cells #[x0,x1,x2,x3,x4,x5,x6,a7] T):=heap_set h5 6 x6
  have h7:((((((((W.setCell ⟨g,0,none⟩ x0).setCell ⟨g,1,none⟩ x1).setCell ⟨g,2,none⟩ x2).setCell ⟨g,3,none⟩ x3).setCell ⟨g,4,none⟩ x4).setCell ⟨g,5,none⟩ x5).setCell ⟨g,6,none⟩ x6).setCell ⟨g,7,none⟩ x7).heap[g]?=some (.cells #[x0,x1,x2,x3,x4,x5,x6,x7] T):=heap_set h6 7 x7
  exact h7
set_option maxRecDepth 100000 in
set_option maxHeartbeats 2000000 in
theorem oFrame {ax ay bx by' cx cy:Int} (hax:Mz ax) (hay:Mz ay) (hbx:Mz bx) (hby:Mz by') (hcx:Mz cx) (hcy:Mz cy) (w:World) (H:Hold4 w) :
    Calls Tryz.prog 28 #[.agg #[.int .i64 ax,.int .i64 ay],.agg #[.int .i64 bx,.int .i64 by'],.agg #[.int .i64 cx,.int .i64 cy]] w fun r w'=>r=.returned (.agg #[.float .f64 (wd (fsum ax (neg cx))),.float .f64 (wd (sL ax (neg cx))),.float .f64 (wd (fsum ay (neg cy))),.float .f64 (wd (sL ay (neg cy))),.float .f64 (wd (fsum bx (neg cx))),.float .f64 (wd (sL bx (neg cx))),.float .f64 (wd (fsum by' (neg cy))),.float .f64 (wd (sL by' (neg cy)))])∧Below w.heap.size w w':=by
  have C1:Hid (∀ W,Hold4 W->Calls Tryz.prog 46 #[.int .i64 ax,.int .i64 cx] W fun r w'=>r=.returned (.agg #[.float .f64 (wd (fsum ax (neg cx))),.float .f64 (wd (sL ax (neg cx)))])∧Below W.heap.size W w'):=fun W h=>oMinus hax hcx W h
  have C2:Hid (∀ W,Hold4 W->Calls Tryz.prog 46 #[.int .i64 ay,.int .i64 cy] W fun r w'=>r=.returned (.agg #[.float .f64 (wd (fsum ay (neg cy))),.float .f64 (wd (sL ay (neg cy)))])∧Below W.heap.size W w'):=fun W h=>oMinus hay hcy W h
  have C3:Hid (∀ W,Hold4 W->Calls Tryz.prog 46 #[.int .i64 bx,.int .i64 cx] W fun r w'=>r=.returned (.agg #[.float .f64 (wd (fsum bx (neg cx))),.float .f64 (wd (sL bx (neg cx)))])∧Below W.heap.size W w'):=fun W h=>oMinus hbx hcx W h
  have C4:Hid (∀ W,Hold4 W->Calls Tryz.prog 46 #[.int .i64 by',.int .i64 cy] W fun r w'=>r=.returned (.agg #[.float .f64 (wd (fsum by' (neg cy))),.float .f64 (wd (sL by' (neg cy)))])∧Below W.heap.size W w'):=fun W h=>oMinus hby hcy W h
  clear hax hay hbx hby hcx hcy
  generalize wd (fsum ax (neg cx))=P1 at *
  generalize wd (sL ax (neg cx))=E1 at *
  generalize wd (fsum ay (neg cy))=P2 at *
  generalize wd (sL ay (neg cy))=E2 at *
  generalize wd (fsum bx (neg cx))=P3 at *
  generalize wd (sL bx (neg cx))=E3 at *
  generalize wd (fsum by' (neg cy))=P4 at *
  generalize wd (sL by' (neg cy))=E4 at *
  have hst:∀ p x m w,(store p (.float .f64 x) m).run Tryz.prog w=stored Tryz.prog w p (.float .f64 x) m:=fun p x m w=>run_store _ w p _ m rfl
  obtain ⟨hb0,a_k,b_k,c_k,r_k,hsz0⟩:=blks4 w (.cells #[.int .i64 ax,.int .i64 ay] 23) (.cells #[.int .i64 bx,.int .i64 by'] 23) (.cells #[.int .i64 cx,.int .i64 cy] 23) (.cells #[.float .f64 0,.float .f64 0,.float .f64 0,.float .f64 0,.float .f64 0,.float .f64 0,.float .f64 0,.float .f64 0] 64)
  clear hsz0
  go_enter Tryz.func28,Tryz.ntmps28
  go_wp2_with fail
  generalize ((((w.alloc (.cells #[.int .i64 ax,.int .i64 ay] 23)).alloc (.cells #[.int .i64 bx,.int .i64 by'] 23)).alloc (.cells #[.int .i64 cx,.int .i64 cy] 23)).alloc (.cells #[.float .f64 0,.float .f64 0,.float .f64 0,.float .f64 0,.float .f64 0,.float .f64 0,.float .f64 0,.float .f64 0] 64))=x0 at hb0 a_k b_k c_k r_k ⊢
  replace H:=H.keeps hb0
  have KK:∀ W,Below x0.heap.size x0 W->W.cell? ⟨w.heap.size,0,none⟩=some (.int .i64 ax)∧W.cell? ⟨w.heap.size,1,none⟩=some (.int .i64 ay)∧W.cell? ⟨w.heap.size + 1,0,none⟩=some (.int .i64 bx)∧W.cell? ⟨w.heap.size + 1,1,none⟩=some (.int .i64 by')∧W.cell? ⟨w.heap.size + 2,0,none⟩=some (.int .i64 cx)∧W.cell? ⟨w.heap.size + 2,1,none⟩=some (.int .i64 cy):=fun W hb=>⟨q_cell (blkC a_k 0 rfl) hb,q_cell (blkC a_k 1 rfl) hb,q_cell (blkC b_k 0 rfl) hb,q_cell (blkC b_k 1 rfl) hb,q_cell (blkC c_k 0 rfl) hb,q_cell (blkC c_k 1 rfl) hb⟩
  have hC0:=(bel_refl x0).drew
  have H0:=H.keeps hC0
  go_region_held3 (fun W=>W.cell? ⟨w.heap.size,0,none⟩=some (.int .i64 ax)∧W.cell? ⟨w.heap.size,1,none⟩=some (.int .i64 ay)∧W.cell? ⟨w.heap.size + 1,0,none⟩=some (.int .i64 bx)∧W.cell? ⟨w.heap.size + 1,1,none⟩=some (.int .i64 by')∧W.cell? ⟨w.heap.size + 2,0,none⟩=some (.int .i64 cx)∧W.cell? ⟨w.heap.size + 2,1,none⟩=some (.int .i64 cy))
    (first | (with_reducible first | assumption | exact KK _ hC0 | exact KK _ hC1 | exact KK _ hC2 | exact KK _ hC3 | exact KK _ hC4) | exact ⟨cell_set8 (KK _ hC4).1 _ _ _ _ _ _ _ _ (by show w.heap.size ≠ w.heap.size + 1 + 1 + 1; omega),cell_set8 (KK _ hC4).2.1 _ _ _ _ _ _ _ _ (by show w.heap.size ≠ w.heap.size + 1 + 1 + 1; omega),cell_set8 (KK _ hC4).2.2.1 _ _ _ _ _ _ _ _ (by show w.heap.size + 1 ≠ w.heap.size + 1 + 1 + 1; omega),cell_set8 (KK _ hC4).2.2.2.1 _ _ _ _ _ _ _ _ (by show w.heap.size + 1 ≠ w.heap.size + 1 + 1 + 1; omega),cell_set8 (KK _ hC4).2.2.2.2.1 _ _ _ _ _ _ _ _ (by show w.heap.size + 2 ≠ w.heap.size + 1 + 1 + 1; omega),cell_set8 (KK _ hC4).2.2.2.2.2 _ _ _ _ _ _ _ _ (by show w.heap.size + 2 ≠ w.heap.size + 1 + 1 + 1; omega)⟩ | fail)
    (first | (go_at_call 46; have _t:=hq3; refine (C4.out _ H3).mono ?_; rintro _ y4 ⟨rfl,hq4⟩; have hC4:=bel_trans hC3 hq4; have H4:=H3.keeps hq4; have r4:=blk_on hC4 r_k; have k0:=blkC r4 0 rfl; have z0:=blkF r4 0; have k1:=blkC r4 1 rfl; have z1:=blkF r4 1; have k2:=blkC r4 2 rfl; have z2:=blkF r4 2; have k3:=blkC r4 3 rfl; have z3:=blkF r4 3; have k4:=blkC r4 4 rfl; have z4:=blkF r4 4; have k5:=blkC r4 5 rfl; have z5:=blkF r4 5; have k6:=blkC r4 6 rfl; have z6:=blkF r4 6; have k7:=blkC r4 7 rfl; have z7:=blkF r4 7) | (go_at_call 46; have _t:=hq2; refine (C3.out _ H2).mono ?_; rintro _ y3 ⟨rfl,hq3⟩; have hC3:=bel_trans hC2 hq3; have H3:=H2.keeps hq3) | (go_at_call 46; have _t:=hq1; refine (C2.out _ H1).mono ?_; rintro _ y2 ⟨rfl,hq2⟩; have hC2:=bel_trans hC1 hq2; have H2:=H1.keeps hq2) | (go_at_call 46; refine (C1.out _ H0).mono ?_; rintro _ y1 ⟨rfl,hq1⟩; have hC1:=bel_trans hC0 hq1; have H1:=H0.keeps hq1))
  all_goals go_wp2
  have q8:=heap_set8 r4 (.float .f64 P1) (.float .f64 E1) (.float .f64 P2) (.float .f64 E2) (.float .f64 P3) (.float .f64 E3) (.float .f64 P4) (.float .f64 E4)
  have e0:=blkC q8 0 rfl
  have e1:=blkC q8 1 rfl
  have e2:=blkC q8 2 rfl
  have e3:=blkC q8 3 rfl
  have e4:=blkC q8 4 rfl
  have e5:=blkC q8 5 rfl
  have e6:=blkC q8 6 rfl
  have e7:=blkC q8 7 rfl
  exact bodyPost_ret (v:=.agg #[.float .f64 P1,.float .f64 E1,.float .f64 P2,.float .f64 E2,.float .f64 P3,.float .f64 E3,.float .f64 P4,.float .f64 E4]) (by simp [results,Tryz.results28,go_sem,e0,e1,e2,e3,e4,e5,e6,e7]) rfl ⟨rfl,(((((((((bel_trans hb0 hC4).setCell (p:=⟨w.heap.size + 3,0,none⟩) (show w.heap.size <= w.heap.size + 3 by omega) _).setCell (p:=⟨w.heap.size + 3,1,none⟩) (show w.heap.size <= w.heap.size + 3 by omega) _).setCell (p:=⟨w.heap.size + 3,2,none⟩) (show w.heap.size <= w.heap.size + 3 by omega) _).setCell (p:=⟨w.heap.size + 3,3,none⟩) (show w.heap.size <= w.heap.size + 3 by omega) _).setCell (p:=⟨w.heap.size + 3,4,none⟩) (show w.heap.size <= w.heap.size + 3 by omega) _).setCell (p:=⟨w.heap.size + 3,5,none⟩) (show w.heap.size <= w.heap.size + 3 by omega) _).setCell (p:=⟨w.heap.size + 3,6,none⟩) (show w.heap.size <= w.heap.size + 3 by omega) _).setCell (p:=⟨w.heap.size + 3,7,none⟩) (show w.heap.size <= w.heap.size + 3 by omega) _)⟩
def sumF (V:Nat->Int):Nat->Int | 0=>0 | m + 1=>sumF V m + V m
theorem bd_zero (K:Nat):Bd K 0:=⟨0,by rw [Int.zero_mul],by have:=two_pos (2 * K); omega,by have:=two_pos (2 * K); omega⟩
theorem dotV_F {a b:Nat->NumR} {V W:Nat->Int}:∀ m,(∀ i,i < m->(a i).V=V i∧Half (a i))->(∀ i,i < m->(b i).V=W i∧Half (b i))->dotV a b m * 2 ^ 4194304=sumF (fun i=>V i * W i) m
  | 0,_,_=>by show 0 * _=(0:Int); rw [Int.zero_mul]
  | m + 1,h,k=>by
    have h1:=h m (by omega)
    have k1:=k m (by omega)
    unfold Half at h1 k1
    show (dotV a b m + mulV (a m) (b m)) * 2 ^ 4194304=sumF (fun i=>V i * W i) m + V m * W m
    rw [Int.add_mul,dotV_F m (fun i hi=>h i (by omega)) (fun i hi=>k i (by omega)),mulV_eq (by omega) (by omega),h1.1,k1.1]
theorem bd_dotV {a b:Nat->NumR} {V W:Nat->Int} {K:Nat} (hK:K <= 10000):∀ m,m <= 1000->(∀ i,i < m->(a i).V=V i∧Half (a i)∧Bd K (V i))->(∀ i,i < m->(b i).V=W i∧Half (b i)∧Bd K (W i))->Bd (2 * K + m) (dotV a b m)
  | 0,_,_,_=>bd_zero _
  | m + 1,hm,h,k=>by
    obtain ⟨h1,h2,h3⟩:=h m (by omega)
    obtain ⟨k1,k2,k3⟩:=k m (by omega)
    unfold Half at h2 k2
    have e:=mulV_eq (x:=a m) (y:=b m) (by omega) (by omega)
    rw [h1,k1] at e
    exact (bd_dotV hK m (by omega) (fun i hi=>h i (by omega)) (fun i hi=>k i (by omega))).add ((h3.mul k3 e (by omega)).up (by omega) (by omega)) (by omega)
theorem num_half {x:NumR} {V:Int} (ok:okR x=true) (hV:x.V=V) (hb:Bd 4000 V):Half x:=by
  have hy:=(okR_dy ok).1
  unfold Half
  rcases hy.form with ⟨_,_,h0⟩ | ⟨h0,_⟩
  . omega
  . rw [hV] at hy
    have:=bd_form hb hy (by omega) h0
    omega
theorem cell_set3 {W:World} {p:Addr} {v:Value} (h:W.cell? p=some v) {g o0 o1 o2:Nat} (x y z:Value) (hg:p.block ≠ g):(((W.setCell ⟨g,o0,none⟩ x).setCell ⟨g,o1,none⟩ y).setCell ⟨g,o2,none⟩ z).cell? p=some v :=
  ((wr3 W g o0 o1 o2 x y z).cell (World.block_lt_of_cell? W _ h) hg).trans h
set_option maxRecDepth 100000 in
set_option maxHeartbeats 2000000 in
theorem numbersF (ao:Option Addr) (n ca:Nat) (d:Nat->Int) (w:World) (hR:Row w ao n ca d) (hn:n <= 100000) (ok:∀ i,i < n->pok (d i)=true) (H:Hold4 w) :
    Calls Tryz.prog 131 #[.agg #[.func (.func 26) #[] #[],.func (.func 49) #[] #[],.func (.func 69) #[] #[],.func (.func 107) #[] #[]],.slice ao n ca] w fun x w'=>∃ g q,x=.returned (.slice (some ⟨g,0,none⟩) n n)∧Nums w' (some ⟨g,0,none⟩) n n q∧Below w.heap.size w w'∧∀ i,i < n->okR (q i)=true∧(q i).V=patV (d i)∧Half (q i):=by
  have hst:∀ p F c m w,(store p (.func (.func F) #[] c) m).run Tryz.prog w=stored Tryz.prog w p (.func (.func F) #[] c) m:=fun p F c m w=>run_store _ w p _ m rfl
  have hE:∀ (cap:Array Value) (w:World),(callFunc 69 cap).run Tryz.prog w=.ok (.enter 69 cap) w:=by intro cap w; simp [go_sem]
  have hla:=hR.le
  have hma:=hR.max
  have hmake:=make_nums n hn
  have hbA:=bel_alloc w (.cells #[.func (.func 26) #[] #[],.func (.func 49) #[] #[],.func (.func 69) #[] #[],.func (.func 107) #[] #[]] 118)
  have gA:=heap_a1 w (.cells #[.func (.func 26) #[] #[],.func (.func 49) #[] #[],.func (.func 69) #[] #[],.func (.func 107) #[] #[]] 118)
  have fA:=blkC gA 2 rfl
  go_enter Tryz.func131,Tryz.ntmps131
  go_wp2_with fail
  clear fA
  have HSA:Hid ((w.alloc (.cells #[.func (.func 26) #[] #[],.func (.func 49) #[] #[],.func (.func 69) #[] #[],.func (.func 107) #[] #[]] 118)).heap.size=w.heap.size + 1):=size_alloc _ _
  generalize w.alloc (.cells #[.func (.func 26) #[] #[],.func (.func 49) #[] #[],.func (.func 69) #[] #[],.func (.func 107) #[] #[]] 118)=wa at hbA gA HSA ⊢
  have hb0:=bel_alloc wa (.cells (madeCells #[.bool false,.slice none 0 0,.int .i64 0] (n * 3)) 32)
  have g0:=heap_a1 wa (.cells (madeCells #[.bool false,.slice none 0 0,.int .i64 0] (n * 3)) 32)
  have HB0:Hid (BlkN (wa.alloc (.cells (madeCells #[.bool false,.slice none 0 0,.int .i64 0] (n * 3)) 32)) wa.heap.size n 0 (fun _=>default)):=⟨_,g0,by rw [size_madeCells],fun i hi=>by omega⟩
  clear g0 hmake
  generalize wa.alloc (.cells (madeCells #[.bool false,.slice none 0 0,.int .i64 0] (n * 3)) 32)=wx at hb0 HB0 ⊢
  rw [HSA.out] at HB0
  go_loopw [12] (fun iv wr=>∃ (k:Nat) (q:Nat->NumR),k <= n∧iv=.int .i64 k∧Hid (BlkN wr (w.heap.size + 1) n k q)∧Hid (∀ i,i < k->okR (q i)=true∧(q i).V=patV (d i)∧Half (q i))∧Hid (∀ i b' off,i < k->(q i).ao=some ⟨b',off,none⟩->0 < (q i).n->(w.heap.size + 1) < b')∧Below wa.heap.size wa wr) (fun iv _=>n - (intOf iv).toNat)
  case atStart=>exact ⟨0,fun _=>default,Nat.zero_le _,(by first | rfl | simp),HB0,fun i hi=>by omega,fun i b' off hi=>by omega,hb0⟩
  case round=>
    obtain ⟨k,q,hk,rfl,HQ,HF,HG,hbw⟩:=hrel
    clear HB0 hb0
    by_cases hlt:k < n
    . obtain ⟨ba,oa,rfl,hba,hca⟩:=hR.spot (by omega)
      have c0:=q_cell (hca k hlt) (bel_trans hbA hbw)
      have c1:=q_cell (blkC gA 2 rfl) hbw
      have HW:=H.keeps (bel_trans hbA hbw)
      have CP:Hid (∀ W,Below wr.heap.size wr W->Calls Tryz.prog 69 #[.int .i64 (d k)] W fun r w'=>∃ v,r=.returned (.tuple #[v,.int .i64 0])∧DAns W w' (patV (d k)) v):=fun W h=>of_ok (ok k hlt) (HW.keeps h)
      obtain ⟨cur,hcur,hsz,hcells⟩:=HQ.out
      have e0:k * 3 < cur.size:=by omega
      have e1:k * 3 + 1 < cur.size:=by omega
      have e2:k * 3 + 2 < cur.size:=by omega
      obtain ⟨v0,hv0⟩:∃ v,cur[k * 3]?=some v:=⟨_,Array.getElem?_eq_getElem e0⟩
      obtain ⟨v1,hv1⟩:∃ v,cur[k * 3 + 1]?=some v:=⟨_,Array.getElem?_eq_getElem e1⟩
      obtain ⟨v2,hv2⟩:∃ v,cur[k * 3 + 2]?=some v:=⟨_,Array.getElem?_eq_getElem e2⟩
      have HV:Hid (cur[k * 3]?=some v0∧cur[k * 3 + 1]?=some v1∧cur[k * 3 + 2]?=some v2):=⟨hv0,hv1,hv2⟩
      have HCUR:Hid (wr.heap[(w.heap.size + 1)]?=some (.cells cur 32 (0,0))):=hcur
      have hgs:(w.heap.size + 1) < wr.heap.size:=(Array.getElem?_eq_some_iff.1 hcur).1
      have HBA:Hid (ba < w.heap.size):=hba
      clear hcells hv0 hv1 hv2 hcur hsz e0 e1 e2 hca hba
      have i0:(0:Int) <= (k:Int):=by omega
      have i1:(k:Int) < (n:Int):=by omega
      have hbp:Hid (Bd 4000 (patV (d k))):=patV_bd (ok k hlt)
      generalize hdk:d k=dk at c0 CP hbp
      generalize hpv:patV dk=pv at CP hbp
      have HPV:Hid (patV (d k)=pv):=by rw [hdk]; exact hpv
      clear hdk hpv
      have kc0:wr.drew.cell? ⟨ba,oa + k,none⟩=some (.int .i64 dk)∧wr.drew.cell? ⟨w.heap.size,2,none⟩=some (.func (.func 69) #[] #[]):=⟨c0,c1⟩
      have hb1:=bel_refl wr
      go_wp2_with fail
      go_region_held3 (fun W=>W.cell? ⟨ba,oa + k,none⟩=some (.int .i64 dk)∧W.cell? ⟨w.heap.size,2,none⟩=some (.func (.func 69) #[] #[]))
        (first | assumption | exact ⟨cell_set3 kc1.1 _ _ _ (show ba ≠ (w.heap.size + 1) by have:=HBA.out; omega),cell_set3 kc1.2 _ _ _ (show w.heap.size ≠ (w.heap.size + 1) by omega)⟩ | fail)
        ((go_at_call 69; refine (CP.out _ hb1.drew).mono ?_; rintro y w3 ⟨s,rfl,hA⟩; have hbv1:=hA.below; have kc1:=And.intro (q_cell kc0.1 hbv1) (q_cell kc0.2 hbv1); obtain ⟨sg0,so,sn,sc,se,rfl⟩:=dans_shape hA; have q0:=(hbv1.block (w.heap.size + 1) hgs).trans HCUR.out; have x0:=blkC q0 (k * 3) HV.out.1; have x1:=blkC q0 (k * 3 + 1) HV.out.2.1; have x2:=blkC q0 (k * 3 + 2) HV.out.2.2; have z0:=blkF q0 (k * 3); have z1:=blkF q0 (k * 3 + 1); have z2:=blkF q0 (k * 3 + 2)))
      all_goals go_wp2
      all_goals
        go_roundw
        case rel=>
          have hfr:∀ b' off,so=some ⟨b',off,none⟩->0 < sn->w.heap.size + 1 < b':=fun b' off he _=>by
            obtain ⟨ng,s,m,e,heq,_,hAn⟩:=hA
            simp only [Value.agg.injEq,Array.mk.injEq,List.cons.injEq,Value.bool.injEq,Value.int.injEq,true_and,and_true] at heq
            obtain ⟨_,rfl,_⟩:=heq
            obtain ⟨_,_,_,_,hgd⟩:=hAn.open
            have h9:=hgd b' off he
            have h8:w.heap.size + 1 < wr.drew.heap.size:=hgs
            omega
          obtain ⟨x,hxv,hxr,hxo,hxV⟩:=hA.num.open (hbp.out.ok (by omega))
          have hxe:x.ng=sg0∧x.ao=so∧x.n=sn∧x.cap=sc∧x.e=se:=by
            unfold NumR.v at hxv
            simp only [Value.agg.injEq,Array.mk.injEq,List.cons.injEq,Value.bool.injEq,Value.int.injEq,Value.slice.injEq,true_and,and_true] at hxv
            obtain ⟨e1,⟨e2,e3,e4⟩,e5⟩:=hxv
            exact ⟨e1.symm,e2.symm,e3.symm,e4.symm,e5.symm⟩
          obtain ⟨rfl,rfl,rfl,rfl,rfl⟩:=hxe
          refine ⟨k + 1,updN q k x,by omega,by go_num,BlkN.step (x:=x) HQ.out (bel_trans hb1.drew hbv1) hxr hlt HG.out hfr,fun i hi=>?_,fun i b' off hi he hn'=>?_,bel_set3' (bel_trans hbw (bel_trans hb1.drew hbv1)) (by have:=HSA.out; omega) _ _ _⟩
          . by_cases e:i=k
            . subst e
              rw [updN_same]
              exact ⟨hxo,hxV.trans HPV.out.symm,num_half hxo hxV hbp.out⟩
            . rw [updN_other _ _ e]
              exact HF.out i (by omega)
          . by_cases e:i=k
            . subst e
              rw [updN_same] at he hn'
              exact hfr b' off he hn'
            . rw [updN_other _ _ e] at he hn'
              exact HG.out i b' off (by omega) he hn'
        case measure=>simp [intOf]; omega
    . obtain rfl:k=n:=by omega
      go_wp2
      go_ret
      exact ⟨_,q,rfl,HQ.out.nums hn,bel_trans hbA hbw,HF.out⟩
set_option maxRecDepth 100000 in
set_option maxHeartbeats 2000000 in
theorem refusal2 {ao bo:Option Addr} {n ca cb g:Nat} (w:World) (hg:w.heap[g]?=some (.cells #[.slice ao n ca,.slice bo n cb] 30 (0,0))) (hn:n <= 4096) (H:Hold4 w) :
    Calls Tryz.prog 104 #[.int .i64 0,.slice (some ⟨g,0,none⟩) 2 2] w fun r w'=>r=.returned (.int .i64 0)∧Below w.heap.size w w':=by
  have CT:Hid (∀ W,Hold4 W->Calls Tryz.prog 107 #[.agg #[.bool false,.slice none 0 0,.int .i64 0],.int .i64 0] W fun r w'=>r=.returned (.tuple #[.int .i64 0,.bool false,.int .i64 0])∧Below W.heap.size W w'):=fun W h=>by
    have ok0:okR ⟨false,none,0,0,fun _=>0,0⟩=true:=by decide
    have:=to_ok 0 ⟨by omega,by omega⟩ ⟨false,none,0,0,fun _=>0,0⟩ W ⟨Nat.le_refl _,by decide,fun _=>rfl,fun q=>by cases q⟩ ok0 h.env h.tab
    have e:=to_zero ok0 rfl 0
    unfold toR at e
    rw [e] at this
    exact this
  have h1:¬ (4096:Int) < (n:Int):=by omega
  go_enter Tryz.func104,Tryz.ntmps104
  go_wp2_with fail
  refine (CT.out _ H).mono ?_
  rintro _ y1 ⟨rfl,hw1⟩
  replace hg:=blk_on hw1 hg
  go_wp2_with fail
  go_loopw [22] (fun iv wr=>∃ k:Nat,k <= 2∧iv=.int .i64 k∧Below y1.heap.size y1 wr) (fun iv _=>2 - (intOf iv).toNat)
  case atStart=>exact ⟨0,by omega,rfl,bel_refl _⟩
  case round=>
    obtain ⟨k,hk,rfl,hbw⟩:=hrel
    have hg':=blk_on hbw hg
    have c0:=blkC hg' 0 rfl
    have c1:=blkC hg' 1 rfl
    rcases (show k=0∨k=1∨k=2 by omega) with rfl | rfl | rfl
    . go_wp2
      go_roundw
      case rel=>exact ⟨0 + 1,by omega,by go_num,hbw⟩
      case measure=>simp [intOf]
    . go_wp2
      go_roundw
      case rel=>exact ⟨1 + 1,by omega,by go_num,hbw⟩
      case measure=>simp [intOf]
    . go_wp2
      go_ret
      exact ⟨rfl,bel_trans hw1 hbw⟩
theorem self_nil {x:Int} (rx:rng x) (px:pok x=true):cls (fsum x (neg x)) ≠ 4∧FloatKind.f64.format.order (wd (fsum x (neg x))) 0=some .eq:=by
  obtain ⟨n1,n2,n3⟩:=neg_facts rx px
  have s:=stp_sum rx n1 px n2
  rw [n3,Int.add_right_neg] at s
  have pk:=s.fin (by have:=maxV_ge; have:=p2 2097; rw [Int.natAbs_zero]; omega)
  have nr:=s.nr pk
  have z:iV (fsum x (neg x))=0:=nr_self ⟨0,⟨0,by rw [Int.mul_zero]⟩,by omega⟩ nr
  have r0:rg (fsum x (neg x))=0:=by
    have k:=iV_key s.rn
    by_cases c:rg (fsum x (neg x))=0
    . exact c
    . exfalso
      have a:=iV_abs (fsum x (neg x))
      rw [z] at a
      have q:=(q_rg s.rn).2
      have:=V_lt Ieee.double (show 0 < (rg (fsum x (neg x))).toNat by omega)
      omega
  exact ⟨q_fin pk,(nil_order s.rn pk).1 r0⟩
set_option maxRecDepth 100000 in
set_option maxHeartbeats 4000000 in
theorem strays2 {ao bo:Option Addr} {n ca cb g:Nat} {a b:Nat->Int} (w:World) (hg:w.heap[g]?=some (.cells #[.slice ao n ca,.slice bo n cb] 30 (0,0))) (ha:Row w ao n ca a) (hb:Row w bo n cb b) (fa:∀ i,i < n->rng (a i)∧pok (a i)=true) (fb:∀ i,i < n->rng (b i)∧pok (b i)=true) :
    Calls Tryz.prog 105 #[.agg #[.func (.func 26) #[] #[],.func (.func 49) #[] #[],.func (.func 69) #[] #[],.func (.func 107) #[] #[]],.slice (some ⟨g,0,none⟩) 2 2] w fun r w'=>r=.returned (.float .f64 0)∧Below w.heap.size w w':=by
  have hst:∀ p F c m w,(store p (.func (.func F) #[] c) m).run Tryz.prog w=stored Tryz.prog w p (.func (.func F) #[] c) m:=fun p F c m w=>run_store _ w p _ m rfl
  have hE:∀ (cap:Array Value) (w:World),(callFunc 26 cap).run Tryz.prog w=.ok (.enter 26 cap) w:=by intro cap w; simp [go_sem]
  have hcv:∀ w,(convert 3 60 (.int .i64 1)).run Tryz.prog w=.ok (.float .f64 4607182418800017408) w:=fun _=>by kernel_rfl
  have hla:=ha.le
  have hma:=ha.max
  have hlb:=hb.le
  have hmb:=hb.max
  have hbA:=bel_alloc w (.cells #[.func (.func 26) #[] #[],.func (.func 49) #[] #[],.func (.func 69) #[] #[],.func (.func 107) #[] #[]] 118)
  have gA:=heap_a1 w (.cells #[.func (.func 26) #[] #[],.func (.func 49) #[] #[],.func (.func 69) #[] #[],.func (.func 107) #[] #[]] 118)
  have fA:=blkC (heap_past (.cells #[.func (.func 26) #[] #[],.func (.func 49) #[] #[],.func (.func 69) #[] #[],.func (.func 107) #[] #[]] 118) hg) 0 rfl
  go_enter Tryz.func105,Tryz.ntmps105
  go_wp2_with fail
  clear fA
  generalize w.alloc (.cells #[.func (.func 26) #[] #[],.func (.func 49) #[] #[],.func (.func 69) #[] #[],.func (.func 107) #[] #[]] 118)=wa at hbA gA ⊢
  go_loopw [5,16] (fun sv iv wr=>∃ k:Nat,k <= n∧iv=.int .i64 k∧sv=.float .f64 0∧Below wa.heap.size wa wr) (fun _ iv _=>n - (intOf iv).toNat)
  case atStart=>exact ⟨0,Nat.zero_le _,rfl,rfl,bel_refl _⟩
  case round=>
    obtain ⟨k,hk,rfl,rfl,hbw⟩:=hrel
    by_cases hlt:k < n
    . have i0:(0:Int) <= (k:Int):=by omega
      have i1:(k:Int) < (n:Int):=by omega
      obtain ⟨ba,oa,rfl,hba,hca⟩:=ha.spot (by omega)
      obtain ⟨bb,ob,rfl,hbb,hcb⟩:=hb.spot (by omega)
      obtain ⟨ra,pa⟩:=fa k hlt
      obtain ⟨rb,pb⟩:=fb k hlt
      have hbq:=bel_trans hbA hbw
      have CA:=q_cell (hca k hlt) hbq
      have CB:=q_cell (hcb k hlt) hbq
      have CF:=q_cell (blkC gA 0 rfl) hbw
      have g':=blk_on hbq hg
      go_wp2_with fail
      go_loopw [7,8,22] (fun tv fv jv wr2=>∃ (j:Nat) (p:Int) (x:Nat),j <= 2∧jv=.int .i64 j∧fv=.bool true∧tv=.float .f64 x∧Hid (FW p x)∧Below wr.heap.size wr wr2) (fun _ _ jv _=>2 - (intOf jv).toNat)
      case atStart=>exact ⟨0,4607182418800017408,4607182418800017408,by omega,rfl,rfl,rfl,(FW.pat (p:=4607182418800017408) (by decide) (by unfold rng; decide)),bel_refl _⟩
      case round=>
        obtain ⟨j,p,x,hj,rfl,rfl,rfl,HX,hbw2⟩:=hrel
        have A0:=q_cell CA hbw2
        have B0:=q_cell CB hbw2
        have F0:=q_cell CF hbw2
        have g2:=blk_on hbw2 g'
        have c0:=blkC g2 0 rfl
        have c1:=blkC g2 1 rfl
        clear g2
        rcases (show j=0∨j=1∨j=2 by omega) with rfl | rfl | rfl
        . have C1:Hid (∀ W,Calls Tryz.prog 26 #[.int .i64 (a k)] W fun e w'=>e=.returned (.float .f64 (wd (a k)))∧w'=W):=fun W=>bitsFloat _ W
          have hz:=self_nil ra pa
          have hd:=fun W=>run_diffN (P:=Tryz.prog) 60 (FW.pat (q_fin pa) ra) (FW.pat (q_fin pa) ra) hz.1 W
          have ho:=hz.2
          have hfx:=FW.pat (q_fin pa) ra
          obtain ⟨fz,fw,hf⟩:∃ (f:World->Nat) (h:World->World),∀ W,(binOp .mul 60 (.float .f64 x) (.float .f64 (wd (a k)))).run Tryz.prog W=.ok (.float .f64 (f W)) (h W)∧FW (fprod p (a k)) (f W)∧(h W=W∨h W=W.drew):=by
            have:=fun W=>run_fprod (P:=Tryz.prog) 60 HX.out hfx W
            obtain ⟨f,h1⟩:=Classical.skolem.1 this
            obtain ⟨h,h2⟩:=Classical.skolem.1 h1
            exact ⟨f,h,h2⟩
          have hm:=fun W=>(hf W).1
          have HM:Hid (∀ W,FW (fprod p (a k)) (fz W)∧(fw W=W∨fw W=W.drew)):=fun W=>(hf W).2
          clear hf hfx hz
          generalize wd (fsum (a k) (neg (a k)))=D at *
          generalize wd (a k)=X at *
          generalize a k=Y at *
          clear B0
          go_wp2_with fail
          go_quiet ((go_at_call 26; with_reducible exact Calls.quiet_of_same (C1.out _)))
          go_wp2
          go_roundw
          case rel=>
            refine ⟨0 + 1,_,_,by omega,by go_num,rfl,rfl,(HM.out _).1,?_⟩
            rcases (HM.out (wr.drewN nq)).2 with e | e <;> rw [e]
            . exact bDrewN hbw2 nq
            . exact (bDrewN hbw2 nq).drew
          case measure=>simp [intOf]
        . have C1:Hid (∀ W,Calls Tryz.prog 26 #[.int .i64 (b k)] W fun e w'=>e=.returned (.float .f64 (wd (b k)))∧w'=W):=fun W=>bitsFloat _ W
          have hz:=self_nil rb pb
          have hd:=fun W=>run_diffN (P:=Tryz.prog) 60 (FW.pat (q_fin pb) rb) (FW.pat (q_fin pb) rb) hz.1 W
          have ho:=hz.2
          have hfx:=FW.pat (q_fin pb) rb
          obtain ⟨fz,fw,hf⟩:∃ (f:World->Nat) (h:World->World),∀ W,(binOp .mul 60 (.float .f64 x) (.float .f64 (wd (b k)))).run Tryz.prog W=.ok (.float .f64 (f W)) (h W)∧FW (fprod p (b k)) (f W)∧(h W=W∨h W=W.drew):=by
            have:=fun W=>run_fprod (P:=Tryz.prog) 60 HX.out hfx W
            obtain ⟨f,h1⟩:=Classical.skolem.1 this
            obtain ⟨h,h2⟩:=Classical.skolem.1 h1
            exact ⟨f,h,h2⟩
          have hm:=fun W=>(hf W).1
          have HM:Hid (∀ W,FW (fprod p (b k)) (fz W)∧(fw W=W∨fw W=W.drew)):=fun W=>(hf W).2
          clear hf hfx hz
          generalize wd (fsum (b k) (neg (b k)))=D at *
          generalize wd (b k)=X at *
          generalize b k=Y at *
          clear A0
          go_wp2_with fail
          go_quiet ((go_at_call 26; with_reducible exact Calls.quiet_of_same (C1.out _)))
          go_wp2
          go_roundw
          case rel=>
            refine ⟨1 + 1,_,_,by omega,by go_num,rfl,rfl,(HM.out _).1,?_⟩
            rcases (HM.out (wr.drewN nq)).2 with e | e <;> rw [e]
            . exact bDrewN hbw2 nq
            . exact (bDrewN hbw2 nq).drew
          case measure=>simp [intOf]
        . clear A0 B0 F0 c0 c1
          go_wp2
          go_roundw
          case rel=>exact ⟨k + 1,by omega,by go_num,rfl,bel_trans hbw hbw2⟩
          case measure=>simp [intOf]; omega
    . obtain rfl:k=n:=by omega
      go_wp2
      go_ret
      exact ⟨rfl,bel_trans hbA hbw⟩
theorem ddot_B {n g1 g2:Nat} {q1 q2:Nat->NumR} {a b:Nat->Int} (w:World) (N1:Nums w (some ⟨g1,0,none⟩) n n q1) (N2:Nums w (some ⟨g2,0,none⟩) n n q2) (F1:∀ i,i < n->okR (q1 i)=true∧(q1 i).V=patV (a i)∧Half (q1 i)) (F2:∀ i,i < n->okR (q2 i)=true∧(q2 i).V=patV (b i)∧Half (q2 i)) (fa:∀ i,i < n->pok (a i)=true) (fb:∀ i,i < n->pok (b i)=true) (hn:n <= 1000) (hT:Tab w) :
    Calls Tryz.prog 132 #[.slice (some ⟨g1,0,none⟩) n n,.slice (some ⟨g2,0,none⟩) n n] w fun r w'=>∃ v V,r=.returned (.tuple #[v,.int .i64 0])∧DAns w w' V v∧V * 2 ^ 4194304=sumF (fun i=>patV (a i) * patV (b i)) n∧Bd 9000 V:=by
  have e:=dotV_F (a:=q1) (b:=q2) n (fun i hi=>(F1 i hi).2) (fun i hi=>(F2 i hi).2)
  have hB:=bd_dotV (a:=q1) (b:=q2) (K:=4000) (by omega) n hn (fun i hi=>⟨(F1 i hi).2.1,(F1 i hi).2.2,patV_bd (fa i hi)⟩) (fun i hi=>⟨(F2 i hi).2.1,(F2 i hi).2.2,patV_bd (fb i hi)⟩)
  have hB':Bd 9000 (dotV q1 q2 n):=hB.up (by omega) (by omega)
  refine (ddot_ok _ _ n n n q1 q2 w N1 N2 (decide_eq_true fun i hi=>(F1 i hi).1) (decide_eq_true fun i hi=>(F2 i hi).1) (fun i hi=>(F1 i hi).2.2) (fun i hi=>(F2 i hi).2.2) (by omega) hT).mono ?_
  rintro _ w' ⟨v,er,rfl,hF⟩
  obtain ⟨rfl,hA⟩:=hF.yes (hB'.ok (by omega))
  exact ⟨v,_,rfl,hA,e,hB'⟩
set_option maxRecDepth 100000 in
set_option maxHeartbeats 8000000 in
theorem totalF {ao bo:Option Addr} {n ca cb gl:Nat} {a b:Nat->Int} (w:World) (l_k:w.heap[gl]?=some (.cells #[.slice ao n ca,.slice bo n cb] 30 (0,0))) (RA:Row w ao n ca a) (RB:Row w bo n cb b) (fa:∀ i,i < n->pok (a i)=true) (fb:∀ i,i < n->pok (b i)=true) (hn:n <= 1000) (H:Hold4 w) :
    Calls Tryz.prog 106 #[.agg #[.func (.func 26) #[] #[],.func (.func 49) #[] #[],.func (.func 69) #[] #[],.func (.func 107) #[] #[]],.slice (some ⟨gl,0,none⟩) 2 2] w fun r w'=>∃ v V,r=.returned v∧DNum w' v V∧V * 2 ^ 4194304=sumF (fun i=>patV (a i) * patV (b i)) n∧Bd 9000 V∧Below w.heap.size w w':=by
  have hst:∀ p F c m w,(store p (.func (.func F) #[] c) m).run Tryz.prog w=stored Tryz.prog w p (.func (.func F) #[] c) m:=fun p F c m w=>run_store _ w p _ m rfl
  have NA:Hid (∀ W,Row W ao n ca a->Hold4 W->Calls Tryz.prog 131 #[.agg #[.func (.func 26) #[] #[],.func (.func 49) #[] #[],.func (.func 69) #[] #[],.func (.func 107) #[] #[]],.slice ao n ca] W fun x w'=>∃ g q,x=.returned (.slice (some ⟨g,0,none⟩) n n)∧Nums w' (some ⟨g,0,none⟩) n n q∧Below W.heap.size W w'∧∀ i,i < n->okR (q i)=true∧(q i).V=patV (a i)∧Half (q i)):=fun W hR h=>numbersF ao n ca a W hR (by omega) fa h
  have NB:Hid (∀ W,Row W bo n cb b->Hold4 W->Calls Tryz.prog 131 #[.agg #[.func (.func 26) #[] #[],.func (.func 49) #[] #[],.func (.func 69) #[] #[],.func (.func 107) #[] #[]],.slice bo n cb] W fun x w'=>∃ g q,x=.returned (.slice (some ⟨g,0,none⟩) n n)∧Nums w' (some ⟨g,0,none⟩) n n q∧Below W.heap.size W w'∧∀ i,i < n->okR (q i)=true∧(q i).V=patV (b i)∧Half (q i)):=fun W hR h=>numbersF bo n cb b W hR (by omega) fb h
  have DB:Hid (∀ (g1 g2:Nat) (q1 q2:Nat->NumR) W,Nums W (some ⟨g1,0,none⟩) n n q1->Nums W (some ⟨g2,0,none⟩) n n q2->(∀ i,i < n->okR (q1 i)=true∧(q1 i).V=patV (a i)∧Half (q1 i))->(∀ i,i < n->okR (q2 i)=true∧(q2 i).V=patV (b i)∧Half (q2 i))->Tab W->Calls Tryz.prog 132 #[.slice (some ⟨g1,0,none⟩) n n,.slice (some ⟨g2,0,none⟩) n n] W fun r w'=>∃ v V,r=.returned (.tuple #[v,.int .i64 0])∧DAns W w' V v∧V * 2 ^ 4194304=sumF (fun i=>patV (a i) * patV (b i)) n∧Bd 9000 V):=fun g1 g2 q1 q2 W N1 N2 F1 F2 hT=>ddot_B W N1 N2 F1 F2 fa fb hn hT
  have hla:=RA.le
  have hma:=RA.max
  have hlb:=RB.le
  have hmb:=RB.max
  clear fa fb
  generalize sumF (fun i=>patV (a i) * patV (b i)) n=sv at *
  replace l_k:=heap_past (.cells #[.bool false,.slice none 0 0,.int .i64 0] 32) (heap_past (.cells #[.func (.func 26) #[] #[],.func (.func 49) #[] #[],.func (.func 69) #[] #[],.func (.func 107) #[] #[]] 118) l_k)
  have k_k:(w.alloc (.cells #[.func (.func 26) #[] #[],.func (.func 49) #[] #[],.func (.func 69) #[] #[],.func (.func 107) #[] #[]] 118)).heap[w.heap.size]?=some (.cells #[.func (.func 26) #[] #[],.func (.func 49) #[] #[],.func (.func 69) #[] #[],.func (.func 107) #[] #[]] 118):=heap_new (.cells #[.func (.func 26) #[] #[],.func (.func 49) #[] #[],.func (.func 69) #[] #[],.func (.func 107) #[] #[]] 118) (by rfl)
  have hb0:=bel_alloc w (.cells #[.func (.func 26) #[] #[],.func (.func 49) #[] #[],.func (.func 69) #[] #[],.func (.func 107) #[] #[]] 118)
  replace k_k:=heap_past (.cells #[.bool false,.slice none 0 0,.int .i64 0] 32) k_k
  have r_k:((w.alloc (.cells #[.func (.func 26) #[] #[],.func (.func 49) #[] #[],.func (.func 69) #[] #[],.func (.func 107) #[] #[]] 118)).alloc (.cells #[.bool false,.slice none 0 0,.int .i64 0] 32)).heap[w.heap.size + 1]?=some (.cells #[.bool false,.slice none 0 0,.int .i64 0] 32):=heap_new (.cells #[.bool false,.slice none 0 0,.int .i64 0] 32) (by simp only [size_alloc])
  replace hb0:=bel_trans hb0 (bel_alloc (w.alloc (.cells #[.func (.func 26) #[] #[],.func (.func 49) #[] #[],.func (.func 69) #[] #[],.func (.func 107) #[] #[]] 118)) (.cells #[.bool false,.slice none 0 0,.int .i64 0] 32))
  go_enter Tryz.func106,Tryz.ntmps106
  go_wp2_with fail
  rename_i Q0 K00 hK00
  generalize ((w.alloc (.cells #[.func (.func 26) #[] #[],.func (.func 49) #[] #[],.func (.func 69) #[] #[],.func (.func 107) #[] #[]] 118)).alloc (.cells #[.bool false,.slice none 0 0,.int .i64 0] 32))=x0 at hb0 k_k r_k l_k ⊢
  have H:=H.keeps hb0
  have RA:=RA.keeps hb0
  have RB:=RB.keeps hb0
  have hK1:=hK00
  have HN1:∀ (g:Nat) (x1:World) (t:Array Value) (x_g:Bool) (x_o:Option Addr) (x_n x_c:Nat) (x_e:Int) (x_V:Int),#[t.getD 0 undef,.slice (some ⟨gl,0,none⟩) 2 2,.pointer (some ⟨w.heap.size,0,none⟩),t.getD 3 undef,.pointer (some ⟨w.heap.size + 1,0,none⟩),t.getD 5 undef,t.getD 6 undef,.pointer (some ⟨g,0,none⟩),t.getD 8 undef,t.getD 9 undef,t.getD 10 undef,t.getD 11 undef,t.getD 12 undef,t.getD 13 undef,t.getD 14 undef,t.getD 15 undef,t.getD 16 undef,t.getD 17 undef,t.getD 18 undef,t.getD 19 undef,t.getD 20 undef,t.getD 21 undef,t.getD 22 undef,t.getD 23 undef,t.getD 24 undef,t.getD 25 undef,t.getD 26 undef,t.getD 27 undef,t.getD 28 undef,t.getD 29 undef,t.getD 30 undef,t.getD 31 undef,t.getD 32 undef,t.getD 33 undef,t.getD 34 undef,t.getD 35 undef,t.getD 36 undef]=t->x0.heap.size <= g->x1.heap[g]?=some (.cells #[.bool x_g,.slice x_o x_n x_c,.int .i64 x_e] 32 (0,0))->Below x0.heap.size x0 x1->DAn w.heap.size x1 x_V (.agg #[.bool x_g,.slice x_o x_n x_c,.int .i64 x_e])->x_V * 2 ^ 4194304=sv->Bd 9000 x_V->Exit.then K00 Q0 Exit.normal { tmps:=t,defers:=[] } x1:=by
    intro g_x x1 t x_g x_o x_n x_c x_e x_V ht x_ge x_k hw1 x_D x_E x_B
    obtain ⟨u1,hu⟩:∃ u:Nat->Value,t=#[u 0,.slice (some ⟨gl,0,none⟩) 2 2,.pointer (some ⟨w.heap.size,0,none⟩),u 3,.pointer (some ⟨w.heap.size + 1,0,none⟩),u 5,u 6,.pointer (some ⟨g_x,0,none⟩),u 8,u 9,u 10,u 11,u 12,u 13,u 14,u 15,u 16,u 17,u 18,u 19,u 20,u 21,u 22,u 23,u 24,u 25,u 26,u 27,u 28,u 29,u 30,u 31,u 32,u 33,u 34,u 35,u 36]:=⟨fun k=>t.getD k undef,ht.symm⟩
    clear ht
    subst hu
    have H:=H.keeps hw1
    have RA:=RA.keeps hw1
    have RB:=RB.keeps hw1
    have k_k:=(hw1.block _ (Array.getElem?_eq_some_iff.1 k_k).1).trans k_k
    have r_k:=(hw1.block _ (Array.getElem?_eq_some_iff.1 r_k).1).trans r_k
    have l_k:=(hw1.block _ (Array.getElem?_eq_some_iff.1 l_k).1).trans l_k
    have hb1:=bel_trans hb0 hw1
    have f0:=blkC x_k 0 rfl
    have f1:=blkC x_k 1 rfl
    have f2:=blkC x_k 2 rfl
    have k0:=blkC r_k 0 rfl
    have k1:=blkC r_k 1 rfl
    have k2:=blkC r_k 2 rfl
    have z0:=blkF r_k 0
    have z1:=blkF r_k 1
    have z2:=blkF r_k 2
    go_wp2
    refine bodyPost_ret (v:=.agg #[.bool x_g,.slice x_o x_n x_c,.int .i64 x_e]) (by simp [results,Tryz.results106,go_sem,k0,k1,k2]) rfl ⟨_,x_V,rfl,?_,x_E,x_B,?_⟩
    . exact (dan_res3 x_D r_k _ _ _).num
    . exact bel_set3' hb1 (by omega) _ _ _
  have KK1:∀ W,Below x0.heap.size x0 W->W.cell? ⟨w.heap.size,0,none⟩=some (.func (.func 26) #[] #[])∧W.cell? ⟨w.heap.size,1,none⟩=some (.func (.func 49) #[] #[])∧W.cell? ⟨w.heap.size,2,none⟩=some (.func (.func 69) #[] #[])∧W.cell? ⟨w.heap.size,3,none⟩=some (.func (.func 107) #[] #[])∧W.cell? ⟨gl,0,none⟩=some (.slice ao n ca)∧W.cell? ⟨gl,1,none⟩=some (.slice bo n cb):=fun W hb=>⟨q_cell (blkC k_k 0 rfl) hb,q_cell (blkC k_k 1 rfl) hb,q_cell (blkC k_k 2 rfl) hb,q_cell (blkC k_k 3 rfl) hb,q_cell (blkC l_k 0 rfl) hb,q_cell (blkC l_k 1 rfl) hb⟩
  have hC1_0:=(bel_refl x0).drew
  have hT1_0:Below w.heap.size w x0.drew:=hb0.drew
  have H_1_0:=H.keeps (bel_refl x0).drew
  have RA_1_0:=RA.keeps (bel_refl x0).drew
  have RB_1_0:=RB.keeps (bel_refl x0).drew
  have hs1_0:=(bel_refl x0).drew
  go_region_held3 (fun W=>W.cell? ⟨w.heap.size,0,none⟩=some (.func (.func 26) #[] #[])∧W.cell? ⟨w.heap.size,1,none⟩=some (.func (.func 49) #[] #[])∧W.cell? ⟨w.heap.size,2,none⟩=some (.func (.func 69) #[] #[])∧W.cell? ⟨w.heap.size,3,none⟩=some (.func (.func 107) #[] #[])∧W.cell? ⟨gl,0,none⟩=some (.slice ao n ca)∧W.cell? ⟨gl,1,none⟩=some (.slice bo n cb))
    (with_reducible first | assumption | exact KK1 _ (bel_alloc _ _).drew | exact KK1 _ hC1_0 | exact KK1 _ hC1_1 | exact KK1 _ hC1_2 | exact KK1 _ hC1_3 | exact KK1 _ (bel_trans hC1_0 (bel_alloc _ _)) | exact KK1 _ (bel_trans hC1_1 (bel_alloc _ _)) | exact KK1 _ (bel_trans hC1_2 (bel_alloc _ _)) | exact KK1 _ (bel_trans hC1_3 (bel_alloc _ _)) | exact KK1 _ (bel_set3' hC1_3 (Nat.le_refl _) _ _ _) | exact KK1 _ (bel_set3' hC1_3 hC1_1.size _ _ _) | exact KK1 _ (bel_set3' hC1_3 hC1_2.size _ _ _) | fail)
    (first
      | (go_at_call 132; have _t:=hs1_2; refine (DB.out _ _ _ _ _ (N1b.keeps (by with_reducible first | exact bel_refl _ | exact bel_alloc _ _ | exact bel_dr _ _)) (N2.keeps (by with_reducible first | exact bel_refl _ | exact bel_alloc _ _ | exact bel_dr _ _)) F1 F2 (H_1_2.keeps (by with_reducible first | exact bel_refl _ | exact bel_alloc _ _ | exact bel_dr _ _)).tab).mono ?_; rintro _ y1_3 ⟨v,x_V,rfl,nm1,x_E,x_B⟩; obtain ⟨x_g,x_o,x_n,x_c,x_e,rfl⟩:=dans_shape nm1; have hq1_3:=nm1.below; have x_A:=nm1.dan.lower (Nat.le_trans hT1_2.size (by with_reducible first | exact Nat.le_refl _ | exact (bel_alloc _ _).size | exact (bel_dr _ _).size)); have hs1_3:Below y1_2.heap.size y1_2 y1_3:=(by with_reducible first | exact hq1_3 | exact bel_trans (bel_alloc _ _) hq1_3 | exact bel_trans (bel_dr _ _) hq1_3); have hT1_3:=bel_trans hT1_2 hs1_3; have hC1_3:=bel_trans hC1_2 hs1_3; have H_1_3:=H_1_2.keeps hs1_3; have RA_1_3:=RA_1_2.keeps hs1_3; have RB_1_3:=RB_1_2.keeps hs1_3; with_reducible first | (have qz1:y1_3.heap[x0.heap.size]?=some (.cells #[.bool false,.slice none 0 0,.int .i64 0] 32 (0,0)):=blk_on hq1_3 (blk_on hq1_2 (blk_on hq1_1 (heap_a1d x0 (.cells #[.bool false,.slice none 0 0,.int .i64 0] 32)))); have cz1_0:=blkC qz1 0 rfl; have zz1_0:=blkF qz1 0; have cz1_1:=blkC qz1 1 rfl; have zz1_1:=blkF qz1 1; have cz1_2:=blkC qz1 2 rfl; have zz1_2:=blkF qz1 2) | (have qz1:y1_3.heap[y1_1.heap.size]?=some (.cells #[.bool false,.slice none 0 0,.int .i64 0] 32 (0,0)):=blk_on hq1_3 (blk_on hq1_2 (heap_a1 _ _)); have cz1_0:=blkC qz1 0 rfl; have zz1_0:=blkF qz1 0; have cz1_1:=blkC qz1 1 rfl; have zz1_1:=blkF qz1 1; have cz1_2:=blkC qz1 2 rfl; have zz1_2:=blkF qz1 2) | (have qz1:y1_3.heap[y1_2.heap.size]?=some (.cells #[.bool false,.slice none 0 0,.int .i64 0] 32 (0,0)):=blk_on hq1_3 (heap_a1 _ _); have cz1_0:=blkC qz1 0 rfl; have zz1_0:=blkF qz1 0; have cz1_1:=blkC qz1 1 rfl; have zz1_1:=blkF qz1 1; have cz1_2:=blkC qz1 2 rfl; have zz1_2:=blkF qz1 2) | skip)
      | (go_at_call 131; have _t:=hs1_1; refine (NB.out _ (RB_1_1.keeps (by with_reducible first | exact bel_refl _ | exact bel_alloc _ _ | exact bel_dr _ _)) (H_1_1.keeps (by with_reducible first | exact bel_refl _ | exact bel_alloc _ _ | exact bel_dr _ _))).mono ?_; rintro _ y1_2 ⟨g2,q2,rfl,N2,hq1_2,F2⟩; have hs1_2:Below y1_1.heap.size y1_1 y1_2:=(by with_reducible first | exact hq1_2 | exact bel_trans (bel_alloc _ _) hq1_2 | exact bel_trans (bel_dr _ _) hq1_2); have hT1_2:=bel_trans hT1_1 hs1_2; have hC1_2:=bel_trans hC1_1 hs1_2; have H_1_2:=H_1_1.keeps hs1_2; have RA_1_2:=RA_1_1.keeps hs1_2; have RB_1_2:=RB_1_1.keeps hs1_2; have N1b:=N1.keeps hs1_2)
      | (go_at_call 131; refine (NA.out _ (RA_1_0.keeps (by with_reducible first | exact bel_refl _ | exact bel_alloc _ _ | exact bel_dr _ _)) (H_1_0.keeps (by with_reducible first | exact bel_refl _ | exact bel_alloc _ _ | exact bel_dr _ _))).mono ?_; rintro _ y1_1 ⟨g1,q1,rfl,N1,hq1_1,F1⟩; have hs1_1:Below x0.drew.heap.size x0.drew y1_1:=(by with_reducible first | exact hq1_1 | exact bel_trans (bel_alloc _ _) hq1_1 | exact bel_trans (bel_dr _ _) hq1_1); have hT1_1:=bel_trans hT1_0 hs1_1; have hC1_1:=bel_trans hC1_0 hs1_1; have H_1_1:=H_1_0.keeps hs1_1; have RA_1_1:=RA_1_0.keeps hs1_1; have RB_1_1:=RB_1_0.keeps hs1_1))
  . exact HN1 y1_3.heap.size _ _ _ _ _ _ _ x_V (by kernel_rfl) ((bel_trans (bel_trans (bel_trans (hs1_0) hs1_1) hs1_2) hs1_3).size) (heap_a1 _ _) (bel_trans (bel_trans (bel_trans (bel_trans (hs1_0) hs1_1) hs1_2) hs1_3) (bel_alloc _ _)) (x_A.keeps (bel_alloc _ _)) x_E x_B
  . exact HN1 y1_2.heap.size _ _ _ _ _ _ _ x_V (by kernel_rfl) ((bel_trans (bel_trans (hs1_0) hs1_1) hs1_2).size) (heap_set (heap_set (heap_set (blk_on hq1_3 (heap_a1 _ _)) 0 _) 1 _) 2 _) (bel_set3' (bel_trans (bel_trans (bel_trans (hs1_0) hs1_1) hs1_2) hs1_3) ((bel_trans (bel_trans (hs1_0) hs1_1) hs1_2).size) _ _ _) (dan_res3 x_A (blk_on hq1_3 (heap_a1 _ _)) _ _ _) x_E x_B
  . exact HN1 y1_1.heap.size _ _ _ _ _ _ _ x_V (by kernel_rfl) ((bel_trans (hs1_0) hs1_1).size) (heap_set (heap_set (heap_set (blk_on hq1_3 (blk_on hq1_2 (heap_a1 _ _))) 0 _) 1 _) 2 _) (bel_set3' (bel_trans (bel_trans (bel_trans (hs1_0) hs1_1) hs1_2) hs1_3) ((bel_trans (hs1_0) hs1_1).size) _ _ _) (dan_res3 x_A (blk_on hq1_3 (blk_on hq1_2 (heap_a1 _ _))) _ _ _) x_E x_B
  . exact HN1 x0.heap.size _ _ _ _ _ _ _ x_V (by kernel_rfl) (Nat.le_refl _) (heap_set (heap_set (heap_set (blk_on hq1_3 (blk_on hq1_2 (blk_on hq1_1 (heap_a1d x0 (.cells #[.bool false,.slice none 0 0,.int .i64 0] 32))))) 0 _) 1 _) 2 _) (bel_set3' (bel_trans (bel_trans (bel_trans (hs1_0) hs1_1) hs1_2) hs1_3) (Nat.le_refl _) _ _ _) (dan_res3 x_A (blk_on hq1_3 (blk_on hq1_2 (blk_on hq1_1 (heap_a1d x0 (.cells #[.bool false,.slice none 0 0,.int .i64 0] 32))))) _ _ _) x_E x_B
theorem binary64F (w:World) :
    Calls Tryz.prog 75 #[] w fun r w'=>r=.returned (.agg #[.func (.func 26) #[] #[],.func (.func 49) #[] #[],.func (.func 69) #[] #[],.func (.func 107) #[] #[]])∧Below w.heap.size w w':=by
  have hst:∀ p F m w,(store p (.func (.func F) #[] #[]) m).run Tryz.prog w=stored Tryz.prog w p (.func (.func F) #[] #[]) m:=fun p F m w=>run_store _ w p _ m rfl
  go_enter Tryz.func75,Tryz.ntmps75
  go_wp2_with fail
  have r_j:=heap_a1 w (.cells #[.func (.func 26) #[] #[],.func (.func 49) #[] #[],.func (.func 69) #[] #[],.func (.func 107) #[] #[]] 118)
  have k0:=blkC r_j 0 rfl
  have k1:=blkC r_j 1 rfl
  have k2:=blkC r_j 2 rfl
  have k3:=blkC r_j 3 rfl
  exact bodyPost_ret (v:=.agg #[.func (.func 26) #[] #[],.func (.func 49) #[] #[],.func (.func 69) #[] #[],.func (.func 107) #[] #[]]) (by simp [results,Tryz.results75,go_sem,k0,k1,k2,k3]) rfl ⟨rfl,bel_alloc _ _⟩
set_option maxRecDepth 100000 in
set_option maxHeartbeats 4000000 in
theorem sumF2 {ao bo:Option Addr} {n ca cb gl:Nat} {a b:Nat->Int} (w:World) (l_k:w.heap[gl]?=some (.cells #[.slice ao n ca,.slice bo n cb] 30 (0,0))) (RA:Row w ao n ca a) (RB:Row w bo n cb b) (fa:∀ i,i < n->rng (a i)∧pok (a i)=true) (fb:∀ i,i < n->rng (b i)∧pok (b i)=true) (hn:n <= 1000) (H:Hold4 w) :
    Calls Tryz.prog 74 #[.agg #[.func (.func 26) #[] #[],.func (.func 49) #[] #[],.func (.func 69) #[] #[],.func (.func 107) #[] #[]],.int .i64 0,.slice (some ⟨gl,0,none⟩) 2 2] w fun r w'=>∃ x:NumR,r=.returned (.tuple #[.int .i64 (toR 0 x).1,.int .i64 0])∧okR x=true∧x.V * 2 ^ 4194304=sumF (fun i=>patV (a i) * patV (b i)) n∧Below w.heap.size w w':=by
  have hst:∀ p F c m w,(store p (.func (.func F) #[] c) m).run Tryz.prog w=stored Tryz.prog w p (.func (.func F) #[] c) m:=fun p F c m w=>run_store _ w p _ m rfl
  have hE:∀ (cap:Array Value) (w:World),(callFunc 107 cap).run Tryz.prog w=.ok (.enter 107 cap) w:=by intro cap w; simp [go_sem]
  have C1:Hid (∀ W,Below w.heap.size w W->Calls Tryz.prog 104 #[.int .i64 0,.slice (some ⟨gl,0,none⟩) 2 2] W fun r w'=>r=.returned (.int .i64 0)∧Below W.heap.size W w'):=fun W h=>refusal2 W (blk_on h l_k) (by omega) (H.keeps h)
  have C2:Hid (∀ W,Below w.heap.size w W->Calls Tryz.prog 105 #[.agg #[.func (.func 26) #[] #[],.func (.func 49) #[] #[],.func (.func 69) #[] #[],.func (.func 107) #[] #[]],.slice (some ⟨gl,0,none⟩) 2 2] W fun r w'=>r=.returned (.float .f64 0)∧Below W.heap.size W w'):=fun W h=>strays2 W (blk_on h l_k) (RA.keeps h) (RB.keeps h) fa fb
  have C3:Hid (∀ W,Below w.heap.size w W->Calls Tryz.prog 106 #[.agg #[.func (.func 26) #[] #[],.func (.func 49) #[] #[],.func (.func 69) #[] #[],.func (.func 107) #[] #[]],.slice (some ⟨gl,0,none⟩) 2 2] W fun r w'=>∃ (x:NumR),r=.returned (.agg #[.bool x.ng,.slice x.ao x.n x.cap,.int .i64 x.e])∧okR x=true∧x.V * 2 ^ 4194304=sumF (fun i=>patV (a i) * patV (b i)) n∧(∀ W2,Below w'.heap.size w' W2->Calls Tryz.prog 107 #[.agg #[.bool x.ng,.slice x.ao x.n x.cap,.int .i64 x.e],.int .i64 0] W2 fun r2 w2=>r2=.returned (.tuple #[.int .i64 (toR 0 x).1,.bool (toR 0 x).2,.int .i64 0])∧Below W2.heap.size W2 w2)∧Below W.heap.size W w'):=fun W h=>by
    refine (totalF W (blk_on h l_k) (RA.keeps h) (RB.keeps h) (fun i hi=>(fa i hi).2) (fun i hi=>(fb i hi).2) hn (H.keeps h)).mono ?_
    rintro _ w' ⟨v,V,rfl,hD,hV,hB,hb⟩
    obtain ⟨x,rfl,hR,ok,rfl⟩:=hD.open (hB.ok (by omega))
    refine ⟨x,rfl,ok,hV,fun W2 h2=>?_,hb⟩
    have H2:=H.keeps (bel_trans h (bel_trans hb h2))
    exact to_ok 0 ⟨by omega,by omega⟩ x W2 (hR.keeps h2) ok H2.env H2.tab
  clear RA RB fa fb H
  generalize sumF (fun i=>patV (a i) * patV (b i)) n=sv at *
  have ho:FloatKind.f64.format.order 0 0=some .eq:=by decide +kernel
  have hb0:=bel_alloc w (.cells #[.func (.func 26) #[] #[],.func (.func 49) #[] #[],.func (.func 69) #[] #[],.func (.func 107) #[] #[]] 118)
  have b_k:=heap_a1 w (.cells #[.func (.func 26) #[] #[],.func (.func 49) #[] #[],.func (.func 69) #[] #[],.func (.func 107) #[] #[]] 118)
  go_enter Tryz.func74,Tryz.ntmps74
  go_wp2_with fail
  generalize w.alloc (.cells #[.func (.func 26) #[] #[],.func (.func 49) #[] #[],.func (.func 69) #[] #[],.func (.func 107) #[] #[]] 118)=x0 at hb0 b_k ⊢
  refine (C1.out _ hb0).mono ?_
  rintro _ y1 ⟨rfl,hw1⟩
  replace b_k:=blk_on hw1 b_k
  replace hb0:=bel_trans hb0 hw1
  have f0:=blkC b_k 0 rfl
  have f1:=blkC b_k 1 rfl
  have f2:=blkC b_k 2 rfl
  have f3:=blkC b_k 3 rfl
  go_wp2_with fail
  clear f0 f1 f2 f3
  refine (C2.out _ hb0).mono ?_
  rintro _ y2 ⟨rfl,hw2⟩
  replace b_k:=blk_on hw2 b_k
  replace hb0:=bel_trans hb0 hw2
  go_wp2_with fail
  have KK:∀ W,Below y2.heap.size y2 W->W.cell? ⟨w.heap.size,0,none⟩=some (.func (.func 26) #[] #[])∧W.cell? ⟨w.heap.size,1,none⟩=some (.func (.func 49) #[] #[])∧W.cell? ⟨w.heap.size,2,none⟩=some (.func (.func 69) #[] #[])∧W.cell? ⟨w.heap.size,3,none⟩=some (.func (.func 107) #[] #[]):=fun W hb=>⟨q_cell (blkC b_k 0 rfl) hb,q_cell (blkC b_k 1 rfl) hb,q_cell (blkC b_k 2 rfl) hb,q_cell (blkC b_k 3 rfl) hb⟩
  have hC0:=(bel_refl y2).drew
  go_region_held3 (fun W=>W.cell? ⟨w.heap.size,0,none⟩=some (.func (.func 26) #[] #[])∧W.cell? ⟨w.heap.size,1,none⟩=some (.func (.func 49) #[] #[])∧W.cell? ⟨w.heap.size,2,none⟩=some (.func (.func 69) #[] #[])∧W.cell? ⟨w.heap.size,3,none⟩=some (.func (.func 107) #[] #[]))
    (with_reducible first | assumption | exact KK _ hC0 | exact KK _ hC1 | exact KK _ hC2 | fail)
    (first
      | (go_at_call 107; refine (CT _ (bel_refl _)).mono ?_; rintro _ y4 ⟨rfl,hq2⟩; have hC2:=bel_trans hC1 hq2)
      | (go_at_call 106; refine (C3.out _ (bel_trans hb0 hC0)).mono ?_; rintro _ y3 ⟨x,rfl,ok,hV,CT,hq1⟩; have hC1:=bel_trans hC0 hq1))
  all_goals go_wp2
  all_goals exact bodyPost_ret (v:=.tuple #[.int .i64 (toR 0 x).1,.int .i64 0]) (by simp [results,Tryz.results74,go_sem]) rfl ⟨x,rfl,ok,hV,bel_trans hb0 hC2⟩
set_option maxRecDepth 100000 in
set_option maxHeartbeats 2000000 in
theorem dotF2 {ao bo:Option Addr} {n ca cb:Nat} {a b:Nat->Int} (w:World) (RA:Row w ao n ca a) (RB:Row w bo n cb b) (fa:∀ i,i < n->rng (a i)∧pok (a i)=true) (fb:∀ i,i < n->rng (b i)∧pok (b i)=true) (hn:n <= 1000) (H:Hold4 w) :
    Calls Tryz.prog 48 #[.slice ao n ca,.slice bo n cb,.int .i64 0] w fun r w'=>∃ x:NumR,r=.returned (.tuple #[.int .i64 (toR 0 x).1,.int .i64 0])∧okR x=true∧x.V * 2 ^ 4194304=sumF (fun i=>patV (a i) * patV (b i)) n∧Below w.heap.size w w':=by
  have C1:Hid (∀ W,Calls Tryz.prog 75 #[] W fun r w'=>r=.returned (.agg #[.func (.func 26) #[] #[],.func (.func 49) #[] #[],.func (.func 69) #[] #[],.func (.func 107) #[] #[]])∧Below W.heap.size W w'):=fun W=>binary64F W
  have C2:Hid (∀ W gl,Below w.heap.size w W->W.heap[gl]?=some (.cells #[.slice ao n ca,.slice bo n cb] 30 (0,0))->Calls Tryz.prog 74 #[.agg #[.func (.func 26) #[] #[],.func (.func 49) #[] #[],.func (.func 69) #[] #[],.func (.func 107) #[] #[]],.int .i64 0,.slice (some ⟨gl,0,none⟩) 2 2] W fun r w'=>∃ x:NumR,r=.returned (.tuple #[.int .i64 (toR 0 x).1,.int .i64 0])∧okR x=true∧x.V * 2 ^ 4194304=sumF (fun i=>patV (a i) * patV (b i)) n∧Below W.heap.size W w'):=fun W gl h hl=>sumF2 W hl (RA.keeps h) (RB.keeps h) fa fb hn (H.keeps h)
  clear RA RB fa fb H
  generalize sumF (fun i=>patV (a i) * patV (b i)) n=sv at *
  go_enter Tryz.func48,Tryz.ntmps48
  go_wp2_with fail
  refine (C1.out _).mono ?_
  rintro _ y1 ⟨rfl,hw1⟩
  go_wp2_with fail
  refine (C2.out _ _ (bel_trans hw1 (bel_alloc y1 (.cells #[.slice ao n ca,.slice bo n cb] 30))) (heap_a1 y1 (.cells #[.slice ao n ca,.slice bo n cb] 30))).mono ?_
  rintro _ y2 ⟨x,rfl,ok,hV,hw2⟩
  go_wp2
  exact bodyPost_ret (v:=.tuple #[.int .i64 (toR 0 x).1,.int .i64 0]) (by simp [results,Tryz.results48,go_sem]) rfl ⟨x,rfl,ok,hV,bel_trans hw1 (bel_trans (bel_alloc y1 (.cells #[.slice ao n ca,.slice bo n cb] 30)) hw2)⟩
end Go.Proofs.YtafnigjehkpggaaGreatDoor
