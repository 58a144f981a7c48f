/- Parts of the proof. -/
import Derived.Test.YtfgapefckpnjjaaGreatDoorPart13
set_option linter.unusedVariables false
set_option linter.unusedSimpArgs false
namespace Go.Proofs.YtfgapefckpnjjaaGreatDoor
open Go Go.RowKit Go.Proofs.YtfgapefckpnjjaaGreatDoor.M
def twoV (ok:Bool) (v:Value):Value:=if ok then v else .agg #[.int .i64 0,.int .i64 0]
def errA (ok:Bool):Int:=if ok then 0 else 1
theorem hl_last {n:Nat} (w:World) (o:Obj) (h:n=w.heap.size):(w.alloc o).heap[n]?=some o:=by
  subst h
  show (w.heap.push o)[w.heap.size]?=_
  simp
theorem hl_drew {n:Nat} {w:World} {x:Obj} (k:w.heap[n]?=some x):w.drew.heap[n]?=some x:=k
theorem hl6 (w:World) (o0 o1 o2 o3 o4 o5:Obj):((((((w.alloc o0).alloc o1).alloc o2).alloc o3).alloc o4).alloc o5).drew.drew.drew.heap=(((((w.heap.push o0).push o1).push o2).push o3).push o4).push o5:=rfl
theorem hl6_0 {n m:Nat} {w:World} {o0 o1 o2 o3 o4 o5:Obj} (hs:w.heap.size=m) (h:n=m + 0):(((((((w.alloc o0).alloc o1).alloc o2).alloc o3).alloc o4).alloc o5).drew.drew.drew).heap[n]?=some o0:=by
  subst hs
  subst h
  rw [hl6]
  rw [Array.getElem?_push,if_neg (by first | (simp; done) | (simp; omega))]
  rw [Array.getElem?_push,if_neg (by first | (simp; done) | (simp; omega))]
  rw [Array.getElem?_push,if_neg (by first | (simp; done) | (simp; omega))]
  rw [Array.getElem?_push,if_neg (by first | (simp; done) | (simp; omega))]
  rw [Array.getElem?_push,if_neg (by first | (simp; done) | (simp; omega))]
  rw [Array.getElem?_push,if_pos (by simp)]
theorem hl6_1 {n m:Nat} {w:World} {o0 o1 o2 o3 o4 o5:Obj} (hs:w.heap.size=m) (h:n=m + 1):(((((((w.alloc o0).alloc o1).alloc o2).alloc o3).alloc o4).alloc o5).drew.drew.drew).heap[n]?=some o1:=by
  subst hs
  subst h
  rw [hl6]
  rw [Array.getElem?_push,if_neg (by first | (simp; done) | (simp; omega))]
  rw [Array.getElem?_push,if_neg (by first | (simp; done) | (simp; omega))]
  rw [Array.getElem?_push,if_neg (by first | (simp; done) | (simp; omega))]
  rw [Array.getElem?_push,if_neg (by first | (simp; done) | (simp; omega))]
  rw [Array.getElem?_push,if_pos (by simp)]
theorem hl6_2 {n m:Nat} {w:World} {o0 o1 o2 o3 o4 o5:Obj} (hs:w.heap.size=m) (h:n=m + 2):(((((((w.alloc o0).alloc o1).alloc o2).alloc o3).alloc o4).alloc o5).drew.drew.drew).heap[n]?=some o2:=by
  subst hs
  subst h
  rw [hl6]
  rw [Array.getElem?_push,if_neg (by first | (simp; done) | (simp; omega))]
  rw [Array.getElem?_push,if_neg (by first | (simp; done) | (simp; omega))]
  rw [Array.getElem?_push,if_neg (by first | (simp; done) | (simp; omega))]
  rw [Array.getElem?_push,if_pos (by simp)]
theorem hl6_3 {n m:Nat} {w:World} {o0 o1 o2 o3 o4 o5:Obj} (hs:w.heap.size=m) (h:n=m + 3):(((((((w.alloc o0).alloc o1).alloc o2).alloc o3).alloc o4).alloc o5).drew.drew.drew).heap[n]?=some o3:=by
  subst hs
  subst h
  rw [hl6]
  rw [Array.getElem?_push,if_neg (by first | (simp; done) | (simp; omega))]
  rw [Array.getElem?_push,if_neg (by first | (simp; done) | (simp; omega))]
  rw [Array.getElem?_push,if_pos (by simp)]
theorem hl6_4 {n m:Nat} {w:World} {o0 o1 o2 o3 o4 o5:Obj} (hs:w.heap.size=m) (h:n=m + 4):(((((((w.alloc o0).alloc o1).alloc o2).alloc o3).alloc o4).alloc o5).drew.drew.drew).heap[n]?=some o4:=by
  subst hs
  subst h
  rw [hl6]
  rw [Array.getElem?_push,if_neg (by first | (simp; done) | (simp; omega))]
  rw [Array.getElem?_push,if_pos (by simp)]
theorem hl6_5 {n m:Nat} {w:World} {o0 o1 o2 o3 o4 o5:Obj} (hs:w.heap.size=m) (h:n=m + 5):(((((((w.alloc o0).alloc o1).alloc o2).alloc o3).alloc o4).alloc o5).drew.drew.drew).heap[n]?=some o5:=by
  subst hs
  subst h
  rw [hl6]
  rw [Array.getElem?_push,if_pos (by simp)]
theorem hl6_b {w:World} {o0 o1 o2 o3 o4 o5:Obj}:Below w.heap.size w (((((((w.alloc o0).alloc o1).alloc o2).alloc o3).alloc o4).alloc o5).drew.drew.drew) :=
  (bel_trans (bel_alloc2 w o0 o1) (bel_trans (bel_alloc2 _ o2 o3) (bel_alloc2 _ o4 o5))).drew.drew.drew
theorem s4_keep {a b B:Nat} {x0 x1 x2 x3:Value} {W W':World} (h:(a < B∧b < B∧B <= W.heap.size)∧W.cell? ⟨a,0,none⟩=some x0∧W.cell? ⟨a,1,none⟩=some x1∧W.cell? ⟨b,0,none⟩=some x2∧W.cell? ⟨b,1,none⟩=some x3) (hb:Below W.heap.size W W') :
    (a < B∧b < B∧B <= W'.heap.size)∧W'.cell? ⟨a,0,none⟩=some x0∧W'.cell? ⟨a,1,none⟩=some x1∧W'.cell? ⟨b,0,none⟩=some x2∧W'.cell? ⟨b,1,none⟩=some x3 :=
  ⟨⟨h.1.1,h.1.2.1,Nat.le_trans h.1.2.2 hb.size⟩,q_cell h.2.1 hb,q_cell h.2.2.1 hb,q_cell h.2.2.2.1 hb,q_cell h.2.2.2.2 hb⟩
theorem s4_alloc {a b B:Nat} {x0 x1 x2 x3:Value} {W:World} (o:Obj) (h:(a < B∧b < B∧B <= W.heap.size)∧W.cell? ⟨a,0,none⟩=some x0∧W.cell? ⟨a,1,none⟩=some x1∧W.cell? ⟨b,0,none⟩=some x2∧W.cell? ⟨b,1,none⟩=some x3) :
    (a < B∧b < B∧B <= (W.alloc o).heap.size)∧(W.alloc o).cell? ⟨a,0,none⟩=some x0∧(W.alloc o).cell? ⟨a,1,none⟩=some x1∧(W.alloc o).cell? ⟨b,0,none⟩=some x2∧(W.alloc o).cell? ⟨b,1,none⟩=some x3:=s4_keep h (bel_alloc _ _)
theorem s4_drew {a b B:Nat} {x0 x1 x2 x3:Value} {W:World} (h:(a < B∧b < B∧B <= W.heap.size)∧W.cell? ⟨a,0,none⟩=some x0∧W.cell? ⟨a,1,none⟩=some x1∧W.cell? ⟨b,0,none⟩=some x2∧W.cell? ⟨b,1,none⟩=some x3) :
    (a < B∧b < B∧B <= W.drew.heap.size)∧W.drew.cell? ⟨a,0,none⟩=some x0∧W.drew.cell? ⟨a,1,none⟩=some x1∧W.drew.cell? ⟨b,0,none⟩=some x2∧W.drew.cell? ⟨b,1,none⟩=some x3:=h
set_option maxRecDepth 100000 in
set_option maxHeartbeats 8000000 in
theorem ofTwo_any (F:Nat) {a b c d x y:Int} (ha:rng a) (hb:rng b) (hc:rng c) (hd:rng d) (w:World) (L:Lays w)
    (hE:∀ (cap:Array Value) (w:World),(callFunc F cap).run Tryz.prog w=.ok (.enter F cap) w)
    (CF:Hid (vld a b=true->vld c d=true->nn x∧nn y∧∀ W,Lays W->Calls Tryz.prog F #[ivl a b,ivl c d] W fun e w'=>e=.returned (ivl x y)∧Below W.heap.size W w')) :
    Calls Tryz.prog 36 #[spn a b,spn c d,.func (.func F) #[] #[]] w fun e w'=>e=.returned (.tuple #[twoV (vld a b && vld c d) (spn (canon x) (canon y)),.int .i64 (errA (vld a b && vld c d))])∧Below w.heap.size w w':=by
  have R1:=fun W=>spanReadX a b W
  have R2:=fun W=>spanReadX c d W
  have V1:Hid (∀ W,Calls Tryz.prog 39 #[ivl a b] W fun e w'=>e=.returned (.bool (vld a b))∧Below W.heap.size W w'):=fun W=>ivlValid ha hb W
  have V2:Hid (∀ W,Calls Tryz.prog 39 #[ivl c d] W fun e w'=>e=.returned (.bool (vld c d))∧Below W.heap.size W w'):=fun W=>ivlValid hc hd W
  unfold spn ivl at *
  obtain ⟨q0,q1,q2,hs,hb3⟩:=heap3 w (.cells #[.int .i64 a,.int .i64 b] 23) (.cells #[.int .i64 c,.int .i64 d] 23) (.cells #[.int .i64 0,.int .i64 0] 23)
  go_enter Tryz.func36,Tryz.ntmps36
  go_wp2_with fail
  have k0:=blkC q0 0 rfl
  have k1:=blkC q0 1 rfl
  have k2:=blkC q1 0 rfl
  have k3:=blkC q1 1 rfl
  generalize ((w.alloc (.cells #[.int .i64 a,.int .i64 b] 23)).alloc (.cells #[.int .i64 c,.int .i64 d] 23)).alloc (.cells #[.int .i64 0,.int .i64 0] 23)=wx at *
  have hst:∀ (p:Addr) (n:Nat) (m:Mode) (w:World),(store p (.float .f64 n) m).run Tryz.prog w=stored Tryz.prog w p (.float .f64 n) m:=fun p n m w=>run_store _ w p _ m rfl
  have hc:(w.heap.size < w.heap.size + 3∧w.heap.size + 1 < w.heap.size + 3∧w.heap.size + 3 <= wx.drew.heap.size)∧wx.drew.cell? ⟨w.heap.size,0,none⟩=some (.int .i64 a)∧wx.drew.cell? ⟨w.heap.size,1,none⟩=some (.int .i64 b)∧wx.drew.cell? ⟨w.heap.size + 1,0,none⟩=some (.int .i64 c)∧wx.drew.cell? ⟨w.heap.size + 1,1,none⟩=some (.int .i64 d):=⟨⟨by omega,by omega,by show _ <= wx.heap.size; omega⟩,k0,k1,k2,k3⟩
  rename_i Q' K haK
  have H:∀ (gi gj:Nat) (W:World),W.heap[gi]?=some (.cells #[.float .f64 (wd a),.float .f64 (wd b)] 64 (0,0))->W.heap[gj]?=some (.cells #[.float .f64 (wd c),.float .f64 (wd d)] 64 (0,0))->Below wx.heap.size wx W ->
      Exit.then K Q' Exit.normal { tmps:=#[.agg #[.int .i64 a,.int .i64 b],.agg #[.int .i64 c,.int .i64 d],.func (.func F) #[] #[],.pointer (some ⟨w.heap.size,0,none⟩),.pointer (some ⟨w.heap.size + 1,0,none⟩),undef,.pointer (some ⟨w.heap.size + 1 + 1,0,none⟩),.int .i64 0,.pointer (some ⟨gi,0,none⟩),.pointer (some ⟨gj,0,none⟩),.agg #[.int .i64 a,.int .i64 b],.agg #[.float .f64 (wd a),.float .f64 (wd b)],.agg #[.int .i64 c,.int .i64 d],.agg #[.float .f64 (wd c),.float .f64 (wd d)],undef,undef,undef,undef,undef,undef,undef,undef,undef,undef,undef,undef,undef,undef],defers:=[] } W:=by
    intro gi gj W hgi hgj hbW
    clear hc k0 k1 k2 k3 q0 q1 R1 R2 hst
    have i0:=blkC hgi 0 rfl
    have i1:=blkC hgi 1 rfl
    have j0:=blkC hgj 0 rfl
    have j1:=blkC hgj 1 rfl
    go_wp2_with fail
    refine (V1.out _).mono ?_
    rintro _ w1 ⟨rfl,hb4⟩
    have hgi1:=(hb4.block _ (Array.getElem?_eq_some_iff.1 hgi).1).trans hgi
    have hgj1:=(hb4.block _ (Array.getElem?_eq_some_iff.1 hgj).1).trans hgj
    clear i0 i1 j0 j1
    have j0:=blkC hgj1 0 rfl
    have j1:=blkC hgj1 1 rfl
    by_cases h1:vld a b=false
    . rw [h1]
      have hbR:=bel_trans hbW hb4
      have d2:=(hbR.block _ (Array.getElem?_eq_some_iff.1 q2).1).trans q2
      have d3:=q_heap_set d2 0 (.int .i64 0)
      have d4:=q_heap_set d3 1 (.int .i64 0)
      have f0:=blkC d2 0 rfl
      have z0:=blkF d2 0
      have f1:=blkC d3 1 rfl
      have z1:=blkF d3 1
      have e0:=blkC d4 0 rfl
      have e1:=blkC d4 1 rfl
      have hbe:=((bel_trans hb3 hbR).setCell (p:=⟨w.heap.size + 1 + 1,0,none⟩) (show w.heap.size <= w.heap.size + 1 + 1 by omega) (.int .i64 0)).setCell (p:=⟨w.heap.size + 1 + 1,1,none⟩) (show w.heap.size <= w.heap.size + 1 + 1 by omega) (.int .i64 0)
      clear d2 d3 d4
      go_wp2
      refine bodyPost_ret (v:=.tuple #[.agg #[.int .i64 0,.int .i64 0],.int .i64 1]) (by simp [results,Tryz.results36,go_sem,e0,e1]) rfl ⟨by rw [h1]; rfl,hbe⟩
    replace h1:vld a b=true:=by simpa using h1
    rw [h1]
    go_wp2_with fail
    refine (V2.out _).mono ?_
    rintro _ w2 ⟨rfl,hb5⟩
    have hgi2:=(hb5.block _ (Array.getElem?_eq_some_iff.1 hgi1).1).trans hgi1
    have hgj2:=(hb5.block _ (Array.getElem?_eq_some_iff.1 hgj1).1).trans hgj1
    clear j0 j1
    have i0:=blkC hgi2 0 rfl
    have i1:=blkC hgi2 1 rfl
    have j0:=blkC hgj2 0 rfl
    have j1:=blkC hgj2 1 rfl
    have hbR:=bel_trans hbW (bel_trans hb4 hb5)
    by_cases h2:vld c d=false
    . rw [h2]
      have d2:=(hbR.block _ (Array.getElem?_eq_some_iff.1 q2).1).trans q2
      have d3:=q_heap_set d2 0 (.int .i64 0)
      have d4:=q_heap_set d3 1 (.int .i64 0)
      have f0:=blkC d2 0 rfl
      have z0:=blkF d2 0
      have f1:=blkC d3 1 rfl
      have z1:=blkF d3 1
      have e0:=blkC d4 0 rfl
      have e1:=blkC d4 1 rfl
      have hbe:=((bel_trans hb3 hbR).setCell (p:=⟨w.heap.size + 1 + 1,0,none⟩) (show w.heap.size <= w.heap.size + 1 + 1 by omega) (.int .i64 0)).setCell (p:=⟨w.heap.size + 1 + 1,1,none⟩) (show w.heap.size <= w.heap.size + 1 + 1 by omega) (.int .i64 0)
      clear d2 d3 d4
      go_wp2
      refine bodyPost_ret (v:=.tuple #[.agg #[.int .i64 0,.int .i64 0],.int .i64 1]) (by simp [results,Tryz.results36,go_sem,e0,e1]) rfl ⟨by rw [h2,Bool.and_false]; rfl,hbe⟩
    replace h2:vld c d=true:=by simpa using h2
    rw [h2]
    obtain ⟨nx,ny,CF'⟩:=CF.out h1 h2
    have L2:=L.below' (bel_trans hb3 hbR)
    have CT:=fun W LW=>spanTold nx ny W LW
    unfold ivl spn at CT
    go_wp2_with fail
    refine (CF' _ L2).mono ?_
    rintro _ w3 ⟨rfl,hb6⟩
    have L3:=L2.below' hb6
    go_wp2_with fail
    refine (CT _ L3).mono ?_
    rintro _ w4 ⟨rfl,hb7⟩
    replace hbR:=bel_trans hbR (bel_trans hb6 hb7)
    have d2:=(hbR.block _ (Array.getElem?_eq_some_iff.1 q2).1).trans q2
    generalize hX:canon x=X at *
    generalize hY:canon y=Y at *
    have d3:=q_heap_set d2 0 (.int .i64 X)
    have d4:=q_heap_set d3 1 (.int .i64 Y)
    have f0:=blkC d2 0 rfl
    have z0:=blkF d2 0
    have f1:=blkC d3 1 rfl
    have z1:=blkF d3 1
    have e0:=blkC d4 0 rfl
    have e1:=blkC d4 1 rfl
    have hbe:=((bel_trans hb3 hbR).setCell (p:=⟨w.heap.size + 1 + 1,0,none⟩) (show w.heap.size <= w.heap.size + 1 + 1 by omega) (.int .i64 X)).setCell (p:=⟨w.heap.size + 1 + 1,1,none⟩) (show w.heap.size <= w.heap.size + 1 + 1 by omega) (.int .i64 Y)
    clear d2 d3 d4 CT CF CF'
    go_wp2
    refine bodyPost_ret (v:=.tuple #[.agg #[.int .i64 X,.int .i64 Y],.int .i64 0]) (by simp [results,Tryz.results36,go_sem,e0,e1]) rfl ⟨by rw [h1,h2,hX,hY]; rfl,hbe⟩
  go_region_held3 (fun W=>(w.heap.size < w.heap.size + 3∧w.heap.size + 1 < w.heap.size + 3∧w.heap.size + 3 <= W.heap.size)∧W.cell? ⟨w.heap.size,0,none⟩=some (.int .i64 a)∧W.cell? ⟨w.heap.size,1,none⟩=some (.int .i64 b)∧W.cell? ⟨w.heap.size + 1,0,none⟩=some (.int .i64 c)∧W.cell? ⟨w.heap.size + 1,1,none⟩=some (.int .i64 d))
    (first | assumption | (repeat (first | exact hc | refine s4_drew ?_ | refine s4_alloc _ ?_ | refine s4_set (by first | omega | (simp; omega)) ?_)))
    (first
      | (go_at_call 38; have _t:=T1; refine (R2 _).mono ?_; rintro _ _ ⟨rfl,rfl⟩)
      | (go_at_call 38; refine (R1 _).mono ?_; rintro _ _ ⟨rfl,rfl⟩; have T1:True:=trivial))
  all_goals
    refine H _ _ _ ?_ ?_ hl6_b
    all_goals first
      | exact hl6_0 hs rfl
      | exact hl6_1 hs rfl
      | exact hl6_2 hs rfl
      | exact hl6_3 hs rfl
      | exact hl6_4 hs rfl
      | exact hl6_5 hs rfl
theorem mulP_dir {p q way:Int} (rp:rng p) (rq:rng q) (hp:pok p=true) (hq:pok q=true) (h:prV p q ≠ 0) (hw:way ≠ 0):mulP way p q=rdP way (prV p q):=by
  unfold mulP
  have n1:¬ (way=0∨(pok p && pok q)=false):=fun k=>by
    rcases k with k | k
    . exact hw k
    . rw [hp,hq] at k; cases k
  rw [if_neg n1,if_pos h]
theorem prLo_nn {p q:Int} (hp:nn p) (hq:nn q):nn (prLo p q)∧nn (prHi p q):=by
  unfold prLo prHi
  by_cases h0:rg p=0∨rg q=0
  . rw [if_pos h0,if_pos h0]; exact ⟨nn0.1,nn0.1⟩
  . rw [if_neg h0,if_neg h0]
    by_cases hi:rg p=9218868437227405312∨rg q=9218868437227405312
    . rw [if_pos hi,if_pos hi]; exact ⟨patS_nn (by decide) (by decide),patS_nn (by decide) (by decide)⟩
    . rw [if_neg hi,if_neg hi]
      have pp:=rg_pat0 hp (fun k=>hi (.inl k))
      have pq:=rg_pat0 hq (fun k=>hi (.inr k))
      have hz:=prV_nz hp.1 hq.1 pp pq (fun k=>h0 (.inl k)) (fun k=>h0 (.inr k))
      exact ⟨⟨(rdP_pat 1 hz).1,(rdP_pat 1 hz).2⟩,⟨(rdP_pat 2 hz).1,(rdP_pat 2 hz).2⟩⟩
theorem spProduct {p q:Int} (hp:nn p) (hq:nn q) (w:World) (H:Hold4 w) :
    Calls Tryz.prog 67 #[.float .f64 (wd p),.float .f64 (wd q)] w fun e w'=>e=.returned (ivl (prLo p q) (prHi p q))∧Below w.heap.size w w':=by
  by_cases h0:rg p=0∨rg q=0
  . have e1:prLo p q=0:=by unfold prLo; rw [if_pos h0]
    have e2:prHi p q=0:=by unfold prHi; rw [if_pos h0]
    rw [e1,e2]
    exact product_zero hp hq h0 w
  . have p0:rg p ≠ 0:=fun k=>h0 (.inl k)
    have q0:rg q ≠ 0:=fun k=>h0 (.inr k)
    by_cases hi:rg p=9218868437227405312∨rg q=9218868437227405312
    . obtain ⟨f1,f2⟩:=pr_infE hp hq p0 q0 hi
      have hn:nn (fprod p q):=by rw [f1]; exact patS_nn (by decide) (by decide)
      have hd:283726776524341248 <= rg (fprod p q):=by rw [f1,(patS_parts (by decide) (by decide)).2.1]; decide
      have:=product_be hp hq p0 q0 hn hd w
      rw [f2,f1] at this
      have e1:prLo p q=patS (xsg p q) 9218868437227405312:=by unfold prLo; rw [if_neg h0,if_pos hi]
      have e2:prHi p q=patS (xsg p q) 9218868437227405312:=by unfold prHi; rw [if_neg h0,if_pos hi]
      have b1:beLo (patS (xsg p q) 9218868437227405312) 9221120237041090561=patS (xsg p q) 9218868437227405312:=by unfold beLo; rw [show less 9221120237041090561 0=false by decide]; rfl
      have b2:beHi (patS (xsg p q) 9218868437227405312) 9221120237041090561=patS (xsg p q) 9218868437227405312:=by unfold beHi; rw [show less 9221120237041090561 0=false by decide,show less 0 9221120237041090561=false by decide]; rfl
      rw [b1,b2] at this
      rw [e1,e2]
      exact this
    . have pp:=rg_pat0 hp (fun k=>hi (.inl k))
      have pq:=rg_pat0 hq (fun k=>hi (.inr k))
      have hz:=prV_nz hp.1 hq.1 pp pq p0 q0
      have e1:prLo p q=rdP 1 (prV p q):=by unfold prLo; rw [if_neg h0,if_neg hi]
      have e2:prHi p q=rdP 2 (prV p q):=by unfold prHi; rw [if_neg h0,if_neg hi]
      have hN:=fprod_fin hp.1 hq.1 pp pq hz
      have hn:nn (fprod p q):=by rw [hN]; exact ⟨(nearP_pat hz).1,(nearP_pat hz).2⟩
      rw [e1,e2]
      by_cases hd:rg (fprod p q) < 283726776524341248
      . have:=product_deep hp hq p0 q0 hn hd w H
        rwa [mulP_dir hp.1 hq.1 pp pq hz (by decide),mulP_dir hp.1 hq.1 pp pq hz (by decide)] at this
      . have:=product_be hp hq p0 q0 hn (by omega) w
        obtain ⟨b1,b2⟩:=pr_fin hp.1 hq.1 pp pq p0 q0 (by omega)
        rwa [b1,b2] at this
theorem al1 {w W:World} (h:Below w.heap.size w W) (o:Obj):Below w.heap.size w (W.alloc o):=h.alloc h.size o
theorem size_drew (w:World):w.drew.heap.size=w.heap.size:=rfl
theorem sz1 (w:World) (a:Obj):w.heap.size + 1=(w.alloc a).heap.size:=(size_alloc _ _).symm
theorem sz2 (w:World) (a b:Obj):w.heap.size + 1 + 1=((w.alloc a).alloc b).heap.size:=by rw [size_alloc,size_alloc]
theorem blk_up {w W:World} (h:Below w.heap.size w W) {g:Nat} {X:Obj} (k:w.heap[g]?=some X):W.heap[g]?=some X:=(h.block _ (Array.getElem?_eq_some_iff.1 k).1).trans k
set_option maxHeartbeats 2000000 in
theorem st8 {W:World} {g:Nat} (h:W.heap[g]?=some (.cells #[.float .f64 0,.float .f64 0,.float .f64 0,.float .f64 0,.float .f64 0,.float .f64 0,.float .f64 0,.float .f64 0] 110 (0,0))) (v0 v1 v2 v3 v4 v5 v6 v7:Nat) :
    (store ⟨g,0,none⟩ (.float .f64 v0)).run Tryz.prog W=.ok () (W.setCell ⟨g,0,none⟩ (.float .f64 v0))∧(store ⟨g,1,none⟩ (.float .f64 v1)).run Tryz.prog (W.setCell ⟨g,0,none⟩ (.float .f64 v0))=.ok () ((W.setCell ⟨g,0,none⟩ (.float .f64 v0)).setCell ⟨g,1,none⟩ (.float .f64 v1))∧(store ⟨g,2,none⟩ (.float .f64 v2)).run Tryz.prog ((W.setCell ⟨g,0,none⟩ (.float .f64 v0)).setCell ⟨g,1,none⟩ (.float .f64 v1))=.ok () (((W.setCell ⟨g,0,none⟩ (.float .f64 v0)).setCell ⟨g,1,none⟩ (.float .f64 v1)).setCell ⟨g,2,none⟩ (.float .f64 v2))∧(store ⟨g,3,none⟩ (.float .f64 v3)).run Tryz.prog (((W.setCell ⟨g,0,none⟩ (.float .f64 v0)).setCell ⟨g,1,none⟩ (.float .f64 v1)).setCell ⟨g,2,none⟩ (.float .f64 v2))=.ok () ((((W.setCell ⟨g,0,none⟩ (.float .f64 v0)).setCell ⟨g,1,none⟩ (.float .f64 v1)).setCell ⟨g,2,none⟩ (.float .f64 v2)).setCell ⟨g,3,none⟩ (.float .f64 v3))∧(store ⟨g,4,none⟩ (.float .f64 v4)).run Tryz.prog ((((W.setCell ⟨g,0,none⟩ (.float .f64 v0)).setCell ⟨g,1,none⟩ (.float .f64 v1)).setCell ⟨g,2,none⟩ (.float .f64 v2)).setCell ⟨g,3,none⟩ (.float .f64 v3))=.ok () (((((W.setCell ⟨g,0,none⟩ (.float .f64 v0)).setCell ⟨g,1,none⟩ (.float .f64 v1)).setCell ⟨g,2,none⟩ (.float .f64 v2)).setCell ⟨g,3,none⟩ (.float .f64 v3)).setCell ⟨g,4,none⟩ (.float .f64 v4))∧(store ⟨g,5,none⟩ (.float .f64 v5)).run Tryz.prog (((((W.setCell ⟨g,0,none⟩ (.float .f64 v0)).setCell ⟨g,1,none⟩ (.float .f64 v1)).setCell ⟨g,2,none⟩ (.float .f64 v2)).setCell ⟨g,3,none⟩ (.float .f64 v3)).setCell ⟨g,4,none⟩ (.float .f64 v4))=.ok () ((((((W.setCell ⟨g,0,none⟩ (.float .f64 v0)).setCell ⟨g,1,none⟩ (.float .f64 v1)).setCell ⟨g,2,none⟩ (.float .f64 v2)).setCell ⟨g,3,none⟩ (.float .f64 v3)).setCell ⟨g,4,none⟩ (.float .f64 v4)).setCell ⟨g,5,none⟩ (.float .f64 v5))∧(store ⟨g,6,none⟩ (.float .f64 v6)).run Tryz.prog ((((((W.setCell ⟨g,0,none⟩ (.float .f64 v0)).setCell ⟨g,1,none⟩ (.float .f64 v1)).setCell ⟨g,2,none⟩ (.float .f64 v2)).setCell ⟨g,3,none⟩ (.float .f64 v3)).setCell ⟨g,4,none⟩ (.float .f64 v4)).setCell ⟨g,5,none⟩ (.float .f64 v5))=.ok () (((((((W.setCell ⟨g,0,none⟩ (.float .f64 v0)).setCell ⟨g,1,none⟩ (.float .f64 v1)).setCell ⟨g,2,none⟩ (.float .f64 v2)).setCell ⟨g,3,none⟩ (.float .f64 v3)).setCell ⟨g,4,none⟩ (.float .f64 v4)).setCell ⟨g,5,none⟩ (.float .f64 v5)).setCell ⟨g,6,none⟩ (.float .f64 v6))∧(store ⟨g,7,none⟩ (.float .f64 v7)).run Tryz.prog (((((((W.setCell ⟨g,0,none⟩ (.float .f64 v0)).setCell ⟨g,1,none⟩ (.float .f64 v1)).setCell ⟨g,2,none⟩ (.float .f64 v2)).setCell ⟨g,3,none⟩ (.float .f64 v3)).setCell ⟨g,4,none⟩ (.float .f64 v4)).setCell ⟨g,5,none⟩ (.float .f64 v5)).setCell ⟨g,6,none⟩ (.float .f64 v6))=.ok () ((((((((W.setCell ⟨g,0,none⟩ (.float .f64 v0)).setCell ⟨g,1,none⟩ (.float .f64 v1)).setCell ⟨g,2,none⟩ (.float .f64 v2)).setCell ⟨g,3,none⟩ (.float .f64 v3)).setCell ⟨g,4,none⟩ (.float .f64 v4)).setCell ⟨g,5,none⟩ (.float .f64 v5)).setCell ⟨g,6,none⟩ (.float .f64 v6)).setCell ⟨g,7,none⟩ (.float .f64 v7))∧((((((((W.setCell ⟨g,0,none⟩ (.float .f64 v0)).setCell ⟨g,1,none⟩ (.float .f64 v1)).setCell ⟨g,2,none⟩ (.float .f64 v2)).setCell ⟨g,3,none⟩ (.float .f64 v3)).setCell ⟨g,4,none⟩ (.float .f64 v4)).setCell ⟨g,5,none⟩ (.float .f64 v5)).setCell ⟨g,6,none⟩ (.float .f64 v6)).setCell ⟨g,7,none⟩ (.float .f64 v7)).heap[g]?=some (.cells #[.float .f64 v0,.float .f64 v1,.float .f64 v2,.float .f64 v3,.float .f64 v4,.float .f64 v5,.float .f64 v6,.float .f64 v7] 110 (0,0)):=by
  have d1:(W.setCell ⟨g,0,none⟩ (.float .f64 v0)).heap[g]?=some (.cells #[.float .f64 v0,.float .f64 0,.float .f64 0,.float .f64 0,.float .f64 0,.float .f64 0,.float .f64 0,.float .f64 0] 110 (0,0)):=q_heap_set h 0 (.float .f64 v0)
  have d2:((W.setCell ⟨g,0,none⟩ (.float .f64 v0)).setCell ⟨g,1,none⟩ (.float .f64 v1)).heap[g]?=some (.cells #[.float .f64 v0,.float .f64 v1,.float .f64 0,.float .f64 0,.float .f64 0,.float .f64 0,.float .f64 0,.float .f64 0] 110 (0,0)):=q_heap_set d1 1 (.float .f64 v1)
  have d3:(((W.setCell ⟨g,0,none⟩ (.float .f64 v0)).setCell ⟨g,1,none⟩ (.float .f64 v1)).setCell ⟨g,2,none⟩ (.float .f64 v2)).heap[g]?=some (.cells #[.float .f64 v0,.float .f64 v1,.float .f64 v2,.float .f64 0,.float .f64 0,.float .f64 0,.float .f64 0,.float .f64 0] 110 (0,0)):=q_heap_set d2 2 (.float .f64 v2)
  have d4:((((W.setCell ⟨g,0,none⟩ (.float .f64 v0)).setCell ⟨g,1,none⟩ (.float .f64 v1)).setCell ⟨g,2,none⟩ (.float .f64 v2)).setCell ⟨g,3,none⟩ (.float .f64 v3)).heap[g]?=some (.cells #[.float .f64 v0,.float .f64 v1,.float .f64 v2,.float .f64 v3,.float .f64 0,.float .f64 0,.float .f64 0,.float .f64 0] 110 (0,0)):=q_heap_set d3 3 (.float .f64 v3)
  have d5:(((((W.setCell ⟨g,0,none⟩ (.float .f64 v0)).setCell ⟨g,1,none⟩ (.float .f64 v1)).setCell ⟨g,2,none⟩ (.float .f64 v2)).setCell ⟨g,3,none⟩ (.float .f64 v3)).setCell ⟨g,4,none⟩ (.float .f64 v4)).heap[g]?=some (.cells #[.float .f64 v0,.float .f64 v1,.float .f64 v2,.float .f64 v3,.float .f64 v4,.float .f64 0,.float .f64 0,.float .f64 0] 110 (0,0)):=q_heap_set d4 4 (.float .f64 v4)
  have d6:((((((W.setCell ⟨g,0,none⟩ (.float .f64 v0)).setCell ⟨g,1,none⟩ (.float .f64 v1)).setCell ⟨g,2,none⟩ (.float .f64 v2)).setCell ⟨g,3,none⟩ (.float .f64 v3)).setCell ⟨g,4,none⟩ (.float .f64 v4)).setCell ⟨g,5,none⟩ (.float .f64 v5)).heap[g]?=some (.cells #[.float .f64 v0,.float .f64 v1,.float .f64 v2,.float .f64 v3,.float .f64 v4,.float .f64 v5,.float .f64 0,.float .f64 0] 110 (0,0)):=q_heap_set d5 5 (.float .f64 v5)
  have d7:(((((((W.setCell ⟨g,0,none⟩ (.float .f64 v0)).setCell ⟨g,1,none⟩ (.float .f64 v1)).setCell ⟨g,2,none⟩ (.float .f64 v2)).setCell ⟨g,3,none⟩ (.float .f64 v3)).setCell ⟨g,4,none⟩ (.float .f64 v4)).setCell ⟨g,5,none⟩ (.float .f64 v5)).setCell ⟨g,6,none⟩ (.float .f64 v6)).heap[g]?=some (.cells #[.float .f64 v0,.float .f64 v1,.float .f64 v2,.float .f64 v3,.float .f64 v4,.float .f64 v5,.float .f64 v6,.float .f64 0] 110 (0,0)):=q_heap_set d6 6 (.float .f64 v6)
  have d8:((((((((W.setCell ⟨g,0,none⟩ (.float .f64 v0)).setCell ⟨g,1,none⟩ (.float .f64 v1)).setCell ⟨g,2,none⟩ (.float .f64 v2)).setCell ⟨g,3,none⟩ (.float .f64 v3)).setCell ⟨g,4,none⟩ (.float .f64 v4)).setCell ⟨g,5,none⟩ (.float .f64 v5)).setCell ⟨g,6,none⟩ (.float .f64 v6)).setCell ⟨g,7,none⟩ (.float .f64 v7)).heap[g]?=some (.cells #[.float .f64 v0,.float .f64 v1,.float .f64 v2,.float .f64 v3,.float .f64 v4,.float .f64 v5,.float .f64 v6,.float .f64 v7] 110 (0,0)):=q_heap_set d7 7 (.float .f64 v7)
  refine ⟨?_,?_,?_,?_,?_,?_,?_,?_,d8⟩
  . have f:=blkC h 0 rfl
    have z:=blkF h 0
    rw [run_store _ _ _ _ _ rfl,f]; simp only [z]; rfl
  . have f:=blkC d1 1 rfl
    have z:=blkF d1 1
    rw [run_store _ _ _ _ _ rfl,f]; simp only [z]; rfl
  . have f:=blkC d2 2 rfl
    have z:=blkF d2 2
    rw [run_store _ _ _ _ _ rfl,f]; simp only [z]; rfl
  . have f:=blkC d3 3 rfl
    have z:=blkF d3 3
    rw [run_store _ _ _ _ _ rfl,f]; simp only [z]; rfl
  . have f:=blkC d4 4 rfl
    have z:=blkF d4 4
    rw [run_store _ _ _ _ _ rfl,f]; simp only [z]; rfl
  . have f:=blkC d5 5 rfl
    have z:=blkF d5 5
    rw [run_store _ _ _ _ _ rfl,f]; simp only [z]; rfl
  . have f:=blkC d6 6 rfl
    have z:=blkF d6 6
    rw [run_store _ _ _ _ _ rfl,f]; simp only [z]; rfl
  . have f:=blkC d7 7 rfl
    have z:=blkF d7 7
    rw [run_store _ _ _ _ _ rfl,f]; simp only [z]; rfl
set_option maxHeartbeats 2000000 in
theorem sa8 (W:World) (v0 v1 v2 v3 v4 v5 v6 v7:Nat) :
    (store ⟨W.heap.size,0,none⟩ (.float .f64 v0)).run Tryz.prog (W.alloc (.cells #[.float .f64 0,.float .f64 0,.float .f64 0,.float .f64 0,.float .f64 0,.float .f64 0,.float .f64 0,.float .f64 0] 110))=.ok () (W.alloc (.cells #[.float .f64 v0,.float .f64 0,.float .f64 0,.float .f64 0,.float .f64 0,.float .f64 0,.float .f64 0,.float .f64 0] 110))∧(store ⟨W.heap.size,1,none⟩ (.float .f64 v1)).run Tryz.prog (W.alloc (.cells #[.float .f64 v0,.float .f64 0,.float .f64 0,.float .f64 0,.float .f64 0,.float .f64 0,.float .f64 0,.float .f64 0] 110))=.ok () (W.alloc (.cells #[.float .f64 v0,.float .f64 v1,.float .f64 0,.float .f64 0,.float .f64 0,.float .f64 0,.float .f64 0,.float .f64 0] 110))∧(store ⟨W.heap.size,2,none⟩ (.float .f64 v2)).run Tryz.prog (W.alloc (.cells #[.float .f64 v0,.float .f64 v1,.float .f64 0,.float .f64 0,.float .f64 0,.float .f64 0,.float .f64 0,.float .f64 0] 110))=.ok () (W.alloc (.cells #[.float .f64 v0,.float .f64 v1,.float .f64 v2,.float .f64 0,.float .f64 0,.float .f64 0,.float .f64 0,.float .f64 0] 110))∧(store ⟨W.heap.size,3,none⟩ (.float .f64 v3)).run Tryz.prog (W.alloc (.cells #[.float .f64 v0,.float .f64 v1,.float .f64 v2,.float .f64 0,.float .f64 0,.float .f64 0,.float .f64 0,.float .f64 0] 110))=.ok () (W.alloc (.cells #[.float .f64 v0,.float .f64 v1,.float .f64 v2,.float .f64 v3,.float .f64 0,.float .f64 0,.float .f64 0,.float .f64 0] 110))∧(store ⟨W.heap.size,4,none⟩ (.float .f64 v4)).run Tryz.prog (W.alloc (.cells #[.float .f64 v0,.float .f64 v1,.float .f64 v2,.float .f64 v3,.float .f64 0,.float .f64 0,.float .f64 0,.float .f64 0] 110))=.ok () (W.alloc (.cells #[.float .f64 v0,.float .f64 v1,.float .f64 v2,.float .f64 v3,.float .f64 v4,.float .f64 0,.float .f64 0,.float .f64 0] 110))∧(store ⟨W.heap.size,5,none⟩ (.float .f64 v5)).run Tryz.prog (W.alloc (.cells #[.float .f64 v0,.float .f64 v1,.float .f64 v2,.float .f64 v3,.float .f64 v4,.float .f64 0,.float .f64 0,.float .f64 0] 110))=.ok () (W.alloc (.cells #[.float .f64 v0,.float .f64 v1,.float .f64 v2,.float .f64 v3,.float .f64 v4,.float .f64 v5,.float .f64 0,.float .f64 0] 110))∧(store ⟨W.heap.size,6,none⟩ (.float .f64 v6)).run Tryz.prog (W.alloc (.cells #[.float .f64 v0,.float .f64 v1,.float .f64 v2,.float .f64 v3,.float .f64 v4,.float .f64 v5,.float .f64 0,.float .f64 0] 110))=.ok () (W.alloc (.cells #[.float .f64 v0,.float .f64 v1,.float .f64 v2,.float .f64 v3,.float .f64 v4,.float .f64 v5,.float .f64 v6,.float .f64 0] 110))∧(store ⟨W.heap.size,7,none⟩ (.float .f64 v7)).run Tryz.prog (W.alloc (.cells #[.float .f64 v0,.float .f64 v1,.float .f64 v2,.float .f64 v3,.float .f64 v4,.float .f64 v5,.float .f64 v6,.float .f64 0] 110))=.ok () (W.alloc (.cells #[.float .f64 v0,.float .f64 v1,.float .f64 v2,.float .f64 v3,.float .f64 v4,.float .f64 v5,.float .f64 v6,.float .f64 v7] 110)):=by
  refine ⟨?_,?_,?_,?_,?_,?_,?_,?_⟩
  . have h:=heap_a1 W (.cells #[.float .f64 0,.float .f64 0,.float .f64 0,.float .f64 0,.float .f64 0,.float .f64 0,.float .f64 0,.float .f64 0] 110)
    have f:=blkC h 0 rfl
    have z:=blkF h 0
    have e:(W.alloc (.cells #[.float .f64 0,.float .f64 0,.float .f64 0,.float .f64 0,.float .f64 0,.float .f64 0,.float .f64 0,.float .f64 0] 110)).setCell ⟨W.heap.size,0,none⟩ (.float .f64 v0)=W.alloc (.cells #[.float .f64 v0,.float .f64 0,.float .f64 0,.float .f64 0,.float .f64 0,.float .f64 0,.float .f64 0,.float .f64 0] 110):=by
      rw [World.setCell_alloc_at _ _ _ _ _ rfl]
      rfl
    rw [run_store _ _ _ _ _ rfl,f]; simp only [z]
    rw [<- e]
    rfl
  . have h:=heap_a1 W (.cells #[.float .f64 v0,.float .f64 0,.float .f64 0,.float .f64 0,.float .f64 0,.float .f64 0,.float .f64 0,.float .f64 0] 110)
    have f:=blkC h 1 rfl
    have z:=blkF h 1
    have e:(W.alloc (.cells #[.float .f64 v0,.float .f64 0,.float .f64 0,.float .f64 0,.float .f64 0,.float .f64 0,.float .f64 0,.float .f64 0] 110)).setCell ⟨W.heap.size,1,none⟩ (.float .f64 v1)=W.alloc (.cells #[.float .f64 v0,.float .f64 v1,.float .f64 0,.float .f64 0,.float .f64 0,.float .f64 0,.float .f64 0,.float .f64 0] 110):=by
      rw [World.setCell_alloc_at _ _ _ _ _ rfl]
      rfl
    rw [run_store _ _ _ _ _ rfl,f]; simp only [z]
    rw [<- e]
    rfl
  . have h:=heap_a1 W (.cells #[.float .f64 v0,.float .f64 v1,.float .f64 0,.float .f64 0,.float .f64 0,.float .f64 0,.float .f64 0,.float .f64 0] 110)
    have f:=blkC h 2 rfl
    have z:=blkF h 2
    have e:(W.alloc (.cells #[.float .f64 v0,.float .f64 v1,.float .f64 0,.float .f64 0,.float .f64 0,.float .f64 0,.float .f64 0,.float .f64 0] 110)).setCell ⟨W.heap.size,2,none⟩ (.float .f64 v2)=W.alloc (.cells #[.float .f64 v0,.float .f64 v1,.float .f64 v2,.float .f64 0,.float .f64 0,.float .f64 0,.float .f64 0,.float .f64 0] 110):=by
      rw [World.setCell_alloc_at _ _ _ _ _ rfl]
      rfl
    rw [run_store _ _ _ _ _ rfl,f]; simp only [z]
    rw [<- e]
    rfl
  . have h:=heap_a1 W (.cells #[.float .f64 v0,.float .f64 v1,.float .f64 v2,.float .f64 0,.float .f64 0,.float .f64 0,.float .f64 0,.float .f64 0] 110)
    have f:=blkC h 3 rfl
    have z:=blkF h 3
    have e:(W.alloc (.cells #[.float .f64 v0,.float .f64 v1,.float .f64 v2,.float .f64 0,.float .f64 0,.float .f64 0,.float .f64 0,.float .f64 0] 110)).setCell ⟨W.heap.size,3,none⟩ (.float .f64 v3)=W.alloc (.cells #[.float .f64 v0,.float .f64 v1,.float .f64 v2,.float .f64 v3,.float .f64 0,.float .f64 0,.float .f64 0,.float .f64 0] 110):=by
      rw [World.setCell_alloc_at _ _ _ _ _ rfl]
      rfl
    rw [run_store _ _ _ _ _ rfl,f]; simp only [z]
    rw [<- e]
    rfl
  . have h:=heap_a1 W (.cells #[.float .f64 v0,.float .f64 v1,.float .f64 v2,.float .f64 v3,.float .f64 0,.float .f64 0,.float .f64 0,.float .f64 0] 110)
    have f:=blkC h 4 rfl
    have z:=blkF h 4
    have e:(W.alloc (.cells #[.float .f64 v0,.float .f64 v1,.float .f64 v2,.float .f64 v3,.float .f64 0,.float .f64 0,.float .f64 0,.float .f64 0] 110)).setCell ⟨W.heap.size,4,none⟩ (.float .f64 v4)=W.alloc (.cells #[.float .f64 v0,.float .f64 v1,.float .f64 v2,.float .f64 v3,.float .f64 v4,.float .f64 0,.float .f64 0,.float .f64 0] 110):=by
      rw [World.setCell_alloc_at _ _ _ _ _ rfl]
      rfl
    rw [run_store _ _ _ _ _ rfl,f]; simp only [z]
    rw [<- e]
    rfl
  . have h:=heap_a1 W (.cells #[.float .f64 v0,.float .f64 v1,.float .f64 v2,.float .f64 v3,.float .f64 v4,.float .f64 0,.float .f64 0,.float .f64 0] 110)
    have f:=blkC h 5 rfl
    have z:=blkF h 5
    have e:(W.alloc (.cells #[.float .f64 v0,.float .f64 v1,.float .f64 v2,.float .f64 v3,.float .f64 v4,.float .f64 0,.float .f64 0,.float .f64 0] 110)).setCell ⟨W.heap.size,5,none⟩ (.float .f64 v5)=W.alloc (.cells #[.float .f64 v0,.float .f64 v1,.float .f64 v2,.float .f64 v3,.float .f64 v4,.float .f64 v5,.float .f64 0,.float .f64 0] 110):=by
      rw [World.setCell_alloc_at _ _ _ _ _ rfl]
      rfl
    rw [run_store _ _ _ _ _ rfl,f]; simp only [z]
    rw [<- e]
    rfl
  . have h:=heap_a1 W (.cells #[.float .f64 v0,.float .f64 v1,.float .f64 v2,.float .f64 v3,.float .f64 v4,.float .f64 v5,.float .f64 0,.float .f64 0] 110)
    have f:=blkC h 6 rfl
    have z:=blkF h 6
    have e:(W.alloc (.cells #[.float .f64 v0,.float .f64 v1,.float .f64 v2,.float .f64 v3,.float .f64 v4,.float .f64 v5,.float .f64 0,.float .f64 0] 110)).setCell ⟨W.heap.size,6,none⟩ (.float .f64 v6)=W.alloc (.cells #[.float .f64 v0,.float .f64 v1,.float .f64 v2,.float .f64 v3,.float .f64 v4,.float .f64 v5,.float .f64 v6,.float .f64 0] 110):=by
      rw [World.setCell_alloc_at _ _ _ _ _ rfl]
      rfl
    rw [run_store _ _ _ _ _ rfl,f]; simp only [z]
    rw [<- e]
    rfl
  . have h:=heap_a1 W (.cells #[.float .f64 v0,.float .f64 v1,.float .f64 v2,.float .f64 v3,.float .f64 v4,.float .f64 v5,.float .f64 v6,.float .f64 0] 110)
    have f:=blkC h 7 rfl
    have z:=blkF h 7
    have e:(W.alloc (.cells #[.float .f64 v0,.float .f64 v1,.float .f64 v2,.float .f64 v3,.float .f64 v4,.float .f64 v5,.float .f64 v6,.float .f64 0] 110)).setCell ⟨W.heap.size,7,none⟩ (.float .f64 v7)=W.alloc (.cells #[.float .f64 v0,.float .f64 v1,.float .f64 v2,.float .f64 v3,.float .f64 v4,.float .f64 v5,.float .f64 v6,.float .f64 v7] 110):=by
      rw [World.setCell_alloc_at _ _ _ _ _ rfl]
      rfl
    rw [run_store _ _ _ _ _ rfl,f]; simp only [z]
    rw [<- e]
    rfl
theorem set8 {w0 w:World} {g:Nat} (h:Below w0.heap.size w0 w) (hg:w0.heap.size <= g) (a b c d e f i j:Value):Below w0.heap.size w0 ((((((((w.setCell ⟨g,0,none⟩ a).setCell ⟨g,1,none⟩ b).setCell ⟨g,2,none⟩ c).setCell ⟨g,3,none⟩ d).setCell ⟨g,4,none⟩ e).setCell ⟨g,5,none⟩ f).setCell ⟨g,6,none⟩ i).setCell ⟨g,7,none⟩ j) :=
  (((((((h.setCell (p:=⟨g,0,none⟩) hg a).setCell (p:=⟨g,1,none⟩) hg b).setCell (p:=⟨g,2,none⟩) hg c).setCell (p:=⟨g,3,none⟩) hg d).setCell (p:=⟨g,4,none⟩) hg e).setCell (p:=⟨g,5,none⟩) hg f).setCell (p:=⟨g,6,none⟩) hg i).setCell (p:=⟨g,7,none⟩) hg j
set_option maxRecDepth 100000 in
set_option maxHeartbeats 4000000 in
theorem times_any {a b c d:Nat} (LO HI EL EH:Nat->Nat) (w:World) (H:Hold4 w)
    (S0:Hid (∀ W,Hold4 W->Calls Tryz.prog 67 #[.float .f64 a,.float .f64 c] W fun e w'=>e=.returned (.agg #[.float .f64 (LO 0),.float .f64 (HI 0)])∧Below W.heap.size W w'))
    (S1:Hid (∀ W,Hold4 W->Calls Tryz.prog 67 #[.float .f64 a,.float .f64 d] W fun e w'=>e=.returned (.agg #[.float .f64 (EL 0),.float .f64 (EH 0)])∧Below W.heap.size W w'))
    (S2:Hid (∀ W,Hold4 W->Calls Tryz.prog 67 #[.float .f64 b,.float .f64 c] W fun e w'=>e=.returned (.agg #[.float .f64 (EL 1),.float .f64 (EH 1)])∧Below W.heap.size W w'))
    (S3:Hid (∀ W,Hold4 W->Calls Tryz.prog 67 #[.float .f64 b,.float .f64 d] W fun e w'=>e=.returned (.agg #[.float .f64 (EL 2),.float .f64 (EH 2)])∧Below W.heap.size W w'))
    (J:Hid (∀ k,k < 3->∀ W,Calls Tryz.prog 49 #[.agg #[.float .f64 (LO k),.float .f64 (HI k)],.agg #[.float .f64 (EL k),.float .f64 (EH k)]] W fun e w'=>e=.returned (.agg #[.float .f64 (LO (k + 1)),.float .f64 (HI (k + 1))])∧Below W.heap.size W w')) :
    Calls Tryz.prog 57 #[.agg #[.float .f64 a,.float .f64 b],.agg #[.float .f64 c,.float .f64 d]] w fun e w'=>e=.returned (.agg #[.float .f64 (LO 3),.float .f64 (HI 3)])∧Below w.heap.size w w':=by
  obtain ⟨q0,q1,q2,hs,hb3⟩:=heap3 w (.cells #[.float .f64 a,.float .f64 b] 64) (.cells #[.float .f64 c,.float .f64 d] 64) (.cells #[.float .f64 0,.float .f64 0] 64)
  go_enter Tryz.func57,Tryz.ntmps57
  go_wp2_with fail
  generalize (((w.alloc (.cells #[.float .f64 a,.float .f64 b] 64)).alloc (.cells #[.float .f64 c,.float .f64 d] 64)).alloc (.cells #[.float .f64 0,.float .f64 0] 64))=wx3 at q0 q1 q2 hs hb3 ⊢
  have KK:∀ W,Below wx3.heap.size wx3 W->W.cell? ⟨w.heap.size,0,none⟩=some (.float .f64 a)∧W.cell? ⟨w.heap.size,1,none⟩=some (.float .f64 b)∧W.cell? ⟨w.heap.size + 1,0,none⟩=some (.float .f64 c)∧W.cell? ⟨w.heap.size + 1,1,none⟩=some (.float .f64 d):=fun W hb=>⟨blkC (blk_up hb q0) 0 rfl,blkC (blk_up hb q0) 1 rfl,blkC (blk_up hb q1) 0 rfl,blkC (blk_up hb q1) 1 rfl⟩
  clear q0 q1 hs
  rename_i Q0 K1 hK1
  have HN:∀ (gE:Nat) (X:World) (t:Array Value),#[t.getD 0 undef,t.getD 1 undef,t.getD 2 undef,t.getD 3 undef,.pointer (some ⟨w.heap.size + 1 + 1,0,none⟩),.pointer (some ⟨gE,0,none⟩),t.getD 6 undef,t.getD 7 undef,t.getD 8 undef,t.getD 9 undef,t.getD 10 undef,t.getD 11 undef,t.getD 12 undef,t.getD 13 undef,t.getD 14 undef,t.getD 15 undef,t.getD 16 undef,t.getD 17 undef,t.getD 18 undef,t.getD 19 undef,t.getD 20 undef,t.getD 21 undef,t.getD 22 undef,t.getD 23 undef,t.getD 24 undef,t.getD 25 undef,t.getD 26 undef,t.getD 27 undef,t.getD 28 undef,t.getD 29 undef,t.getD 30 undef,t.getD 31 undef,t.getD 32 undef,t.getD 33 undef,t.getD 34 undef,t.getD 35 undef,t.getD 36 undef,t.getD 37 undef,t.getD 38 undef,t.getD 39 undef,t.getD 40 undef,t.getD 41 undef,t.getD 42 undef]=t->X.heap[gE]?=some (.cells #[.float .f64 (LO 0),.float .f64 (HI 0),.float .f64 (EL 0),.float .f64 (EH 0),.float .f64 (EL 1),.float .f64 (EH 1),.float .f64 (EL 2),.float .f64 (EH 2)] 110 (0,0))->Below wx3.heap.size wx3 X->wx3.heap.size <= gE->Exit.then K1 Q0 Exit.normal { tmps:=t,defers:=[] } X:=by
    intro gE X t ht n_k hX hgE
    obtain ⟨u,hu⟩:∃ u:Nat->Value,t=#[u 0,u 1,u 2,u 3,.pointer (some ⟨w.heap.size + 1 + 1,0,none⟩),.pointer (some ⟨gE,0,none⟩),u 6,u 7,u 8,u 9,u 10,u 11,u 12,u 13,u 14,u 15,u 16,u 17,u 18,u 19,u 20,u 21,u 22,u 23,u 24,u 25,u 26,u 27,u 28,u 29,u 30,u 31,u 32,u 33,u 34,u 35,u 36,u 37,u 38,u 39,u 40,u 41,u 42]:=⟨fun k=>t.getD k undef,ht.symm⟩
    clear ht
    subst hu
    clear S0 S1 S2 S3 KK
    have hst:∀ (p:Addr) (x:Nat) (m:Mode) (w:World),(store p (.float .f64 x) m).run Tryz.prog w=stored Tryz.prog w p (.float .f64 x) m:=fun p x m w=>run_store _ w p _ m rfl
    have hgl:=(Array.getElem?_eq_some_iff.1 n_k).1
    have c0:=blkC n_k 0 rfl
    have c1:=blkC n_k 1 rfl
    have hA:=heap_a1 X (.cells #[.float .f64 (LO 0),.float .f64 (HI 0)] 64)
    have hE:=heap_past (.cells #[.float .f64 (LO 0),.float .f64 (HI 0)] 64) n_k
    have hB:=al1 hX (.cells #[.float .f64 (LO 0),.float .f64 (HI 0)] 64)
    have hXz:=hX.size
    go_wp2_with fail
    generalize X.alloc (.cells #[.float .f64 (LO 0),.float .f64 (HI 0)] 64)=x5 at hA hE hB ⊢
    clear c0 c1 n_k
    go_loopw [34] (fun iv wr=>∃ k:Nat,k <= 3∧iv=.int .i64 k∧Hid (wr.heap[X.heap.size]?=some (.cells #[.float .f64 (LO k),.float .f64 (HI k)] 64 (0,0)))∧Hid (wr.heap[gE]?=some (.cells #[.float .f64 (LO 0),.float .f64 (HI 0),.float .f64 (EL 0),.float .f64 (EH 0),.float .f64 (EL 1),.float .f64 (EH 1),.float .f64 (EL 2),.float .f64 (EH 2)] 110 (0,0)))∧Hid (Below wx3.heap.size wx3 wr)) (fun iv _=>3 - (intOf iv).toNat)
    case atStart=>exact ⟨0,by omega,rfl,hA,hE,hB⟩
    case round=>
      obtain ⟨k,hk,rfl,HA,HE,HB⟩:=hrel
      clear hA hE hB
      by_cases hlt:k < 3
      . have CJ:Hid _:=J.out k hlt
        have h3:k=0∨k=1∨k=2:=by omega
        rcases h3 with rfl | rfl | rfl
        . have e2:=blkC HE.out 2 rfl
          have e3:=blkC HE.out 3 rfl
          have P0:=heap_a1 wr (.cells #[.float .f64 (EL 0),.float .f64 (EH 0)] 64)
          have A1:=heap_past (.cells #[.float .f64 (EL 0),.float .f64 (EH 0)] 64) HA.out
          have E1:=heap_past (.cells #[.float .f64 (EL 0),.float .f64 (EH 0)] 64) HE.out
          have B1:=al1 HB.out (.cells #[.float .f64 (EL 0),.float .f64 (EH 0)] 64)
          have p0:=blkC P0 0 rfl
          have p1:=blkC P0 1 rfl
          have a0:=blkC A1 0 rfl
          have a1:=blkC A1 1 rfl
          go_wp2_with fail
          refine (CJ.out _).mono ?_
          rintro _ w7 ⟨rfl,hb7⟩
          have A7:=blk_up hb7 A1
          have E7:=blk_up hb7 E1
          have B7:=bel_trans B1 hb7
          have A8:=q_heap_set A7 0 (.float .f64 (LO 1))
          have A9:=q_heap_set A8 1 (.float .f64 (HI 1))
          have f0:=blkC A7 0 rfl
          have z0:=blkF A7 0
          have f1:=blkC A8 1 rfl
          have z1:=blkF A8 1
          have s0:(store ⟨X.heap.size,0,none⟩ (.float .f64 (LO 1))).run Tryz.prog w7=.ok () (w7.setCell ⟨X.heap.size,0,none⟩ (.float .f64 (LO 1))):=by rw [run_store _ _ _ _ _ rfl,f0]; simp only [z0]; rfl
          have s1:(store ⟨X.heap.size,1,none⟩ (.float .f64 (HI 1))).run Tryz.prog (w7.setCell ⟨X.heap.size,0,none⟩ (.float .f64 (LO 1)))=.ok () ((w7.setCell ⟨X.heap.size,0,none⟩ (.float .f64 (LO 1))).setCell ⟨X.heap.size,1,none⟩ (.float .f64 (HI 1))):=by rw [run_store _ _ _ _ _ rfl,f1]; simp only [z1]; rfl
          have HA9:=hideIt A9
          have HE9:Hid (((w7.setCell ⟨X.heap.size,0,none⟩ (.float .f64 (LO 1))).setCell ⟨X.heap.size,1,none⟩ (.float .f64 (HI 1))).heap[gE]?=some (.cells #[.float .f64 (LO 0),.float .f64 (HI 0),.float .f64 (EL 0),.float .f64 (EH 0),.float .f64 (EL 1),.float .f64 (EH 1),.float .f64 (EL 2),.float .f64 (EH 2)] 110 (0,0))):=by
            show _=_
            rw [heap_setCell_other _ ⟨X.heap.size,_,none⟩ gE _ (by show gE ≠ X.heap.size; omega),heap_setCell_other _ ⟨X.heap.size,_,none⟩ gE _ (by show gE ≠ X.heap.size; omega)]
            exact E7
          have HB9:=hideIt ((B7.setCell (p:=⟨X.heap.size,0,none⟩) hXz (.float .f64 (LO 1))).setCell (p:=⟨X.heap.size,1,none⟩) hXz (.float .f64 (HI 1)))
          clear A7 A8 A9 E7 B7 A1 E1 B1 P0
          go_wp2
          go_roundw
          case rel=>exact ⟨1,by omega,by go_num,HA9.out,HE9.out,HB9.out⟩
          case measure=>simp [intOf]
        . have e2:=blkC HE.out 4 rfl
          have e3:=blkC HE.out 5 rfl
          have P0:=heap_a1 wr (.cells #[.float .f64 (EL 1),.float .f64 (EH 1)] 64)
          have A1:=heap_past (.cells #[.float .f64 (EL 1),.float .f64 (EH 1)] 64) HA.out
          have E1:=heap_past (.cells #[.float .f64 (EL 1),.float .f64 (EH 1)] 64) HE.out
          have B1:=al1 HB.out (.cells #[.float .f64 (EL 1),.float .f64 (EH 1)] 64)
          have p0:=blkC P0 0 rfl
          have p1:=blkC P0 1 rfl
          have a0:=blkC A1 0 rfl
          have a1:=blkC A1 1 rfl
          go_wp2_with fail
          refine (CJ.out _).mono ?_
          rintro _ w7 ⟨rfl,hb7⟩
          have A7:=blk_up hb7 A1
          have E7:=blk_up hb7 E1
          have B7:=bel_trans B1 hb7
          have A8:=q_heap_set A7 0 (.float .f64 (LO 2))
          have A9:=q_heap_set A8 1 (.float .f64 (HI 2))
          have f0:=blkC A7 0 rfl
          have z0:=blkF A7 0
          have f1:=blkC A8 1 rfl
          have z1:=blkF A8 1
          have s0:(store ⟨X.heap.size,0,none⟩ (.float .f64 (LO 2))).run Tryz.prog w7=.ok () (w7.setCell ⟨X.heap.size,0,none⟩ (.float .f64 (LO 2))):=by rw [run_store _ _ _ _ _ rfl,f0]; simp only [z0]; rfl
          have s1:(store ⟨X.heap.size,1,none⟩ (.float .f64 (HI 2))).run Tryz.prog (w7.setCell ⟨X.heap.size,0,none⟩ (.float .f64 (LO 2)))=.ok () ((w7.setCell ⟨X.heap.size,0,none⟩ (.float .f64 (LO 2))).setCell ⟨X.heap.size,1,none⟩ (.float .f64 (HI 2))):=by rw [run_store _ _ _ _ _ rfl,f1]; simp only [z1]; rfl
          have HA9:=hideIt A9
          have HE9:Hid (((w7.setCell ⟨X.heap.size,0,none⟩ (.float .f64 (LO 2))).setCell ⟨X.heap.size,1,none⟩ (.float .f64 (HI 2))).heap[gE]?=some (.cells #[.float .f64 (LO 0),.float .f64 (HI 0),.float .f64 (EL 0),.float .f64 (EH 0),.float .f64 (EL 1),.float .f64 (EH 1),.float .f64 (EL 2),.float .f64 (EH 2)] 110 (0,0))):=by
            show _=_
            rw [heap_setCell_other _ ⟨X.heap.size,_,none⟩ gE _ (by show gE ≠ X.heap.size; omega),heap_setCell_other _ ⟨X.heap.size,_,none⟩ gE _ (by show gE ≠ X.heap.size; omega)]
            exact E7
          have HB9:=hideIt ((B7.setCell (p:=⟨X.heap.size,0,none⟩) hXz (.float .f64 (LO 2))).setCell (p:=⟨X.heap.size,1,none⟩) hXz (.float .f64 (HI 2)))
          clear A7 A8 A9 E7 B7 A1 E1 B1 P0
          go_wp2
          go_roundw
          case rel=>exact ⟨2,by omega,by go_num,HA9.out,HE9.out,HB9.out⟩
          case measure=>simp [intOf]
        . have e2:=blkC HE.out 6 rfl
          have e3:=blkC HE.out 7 rfl
          have P0:=heap_a1 wr (.cells #[.float .f64 (EL 2),.float .f64 (EH 2)] 64)
          have A1:=heap_past (.cells #[.float .f64 (EL 2),.float .f64 (EH 2)] 64) HA.out
          have E1:=heap_past (.cells #[.float .f64 (EL 2),.float .f64 (EH 2)] 64) HE.out
          have B1:=al1 HB.out (.cells #[.float .f64 (EL 2),.float .f64 (EH 2)] 64)
          have p0:=blkC P0 0 rfl
          have p1:=blkC P0 1 rfl
          have a0:=blkC A1 0 rfl
          have a1:=blkC A1 1 rfl
          go_wp2_with fail
          refine (CJ.out _).mono ?_
          rintro _ w7 ⟨rfl,hb7⟩
          have A7:=blk_up hb7 A1
          have E7:=blk_up hb7 E1
          have B7:=bel_trans B1 hb7
          have A8:=q_heap_set A7 0 (.float .f64 (LO 3))
          have A9:=q_heap_set A8 1 (.float .f64 (HI 3))
          have f0:=blkC A7 0 rfl
          have z0:=blkF A7 0
          have f1:=blkC A8 1 rfl
          have z1:=blkF A8 1
          have s0:(store ⟨X.heap.size,0,none⟩ (.float .f64 (LO 3))).run Tryz.prog w7=.ok () (w7.setCell ⟨X.heap.size,0,none⟩ (.float .f64 (LO 3))):=by rw [run_store _ _ _ _ _ rfl,f0]; simp only [z0]; rfl
          have s1:(store ⟨X.heap.size,1,none⟩ (.float .f64 (HI 3))).run Tryz.prog (w7.setCell ⟨X.heap.size,0,none⟩ (.float .f64 (LO 3)))=.ok () ((w7.setCell ⟨X.heap.size,0,none⟩ (.float .f64 (LO 3))).setCell ⟨X.heap.size,1,none⟩ (.float .f64 (HI 3))):=by rw [run_store _ _ _ _ _ rfl,f1]; simp only [z1]; rfl
          have HA9:=hideIt A9
          have HE9:Hid (((w7.setCell ⟨X.heap.size,0,none⟩ (.float .f64 (LO 3))).setCell ⟨X.heap.size,1,none⟩ (.float .f64 (HI 3))).heap[gE]?=some (.cells #[.float .f64 (LO 0),.float .f64 (HI 0),.float .f64 (EL 0),.float .f64 (EH 0),.float .f64 (EL 1),.float .f64 (EH 1),.float .f64 (EL 2),.float .f64 (EH 2)] 110 (0,0))):=by
            show _=_
            rw [heap_setCell_other _ ⟨X.heap.size,_,none⟩ gE _ (by show gE ≠ X.heap.size; omega),heap_setCell_other _ ⟨X.heap.size,_,none⟩ gE _ (by show gE ≠ X.heap.size; omega)]
            exact E7
          have HB9:=hideIt ((B7.setCell (p:=⟨X.heap.size,0,none⟩) hXz (.float .f64 (LO 3))).setCell (p:=⟨X.heap.size,1,none⟩) hXz (.float .f64 (HI 3)))
          clear A7 A8 A9 E7 B7 A1 E1 B1 P0
          go_wp2
          go_roundw
          case rel=>exact ⟨3,by omega,by go_num,HA9.out,HE9.out,HB9.out⟩
          case measure=>simp [intOf]
      . obtain rfl:k=3:=by omega
        have a0:=blkC HA.out 0 rfl
        have a1:=blkC HA.out 1 rfl
        have r_k:=blk_up HB.out q2
        have d3:=q_heap_set r_k 0 (.float .f64 (LO 3))
        have d4:=q_heap_set d3 1 (.float .f64 (HI 3))
        have f0:=blkC r_k 0 rfl
        have z0:=blkF r_k 0
        have f1:=blkC d3 1 rfl
        have z1:=blkF d3 1
        have e0:=blkC d4 0 rfl
        have e1:=blkC d4 1 rfl
        have s0:(store ⟨w.heap.size + 1 + 1,0,none⟩ (.float .f64 (LO 3))).run Tryz.prog wr=.ok () (wr.setCell ⟨w.heap.size + 1 + 1,0,none⟩ (.float .f64 (LO 3))):=by rw [run_store _ _ _ _ _ rfl,f0]; simp only [z0]; rfl
        have s1:(store ⟨w.heap.size + 1 + 1,1,none⟩ (.float .f64 (HI 3))).run Tryz.prog (wr.setCell ⟨w.heap.size + 1 + 1,0,none⟩ (.float .f64 (LO 3)))=.ok () ((wr.setCell ⟨w.heap.size + 1 + 1,0,none⟩ (.float .f64 (LO 3))).setCell ⟨w.heap.size + 1 + 1,1,none⟩ (.float .f64 (HI 3))):=by rw [run_store _ _ _ _ _ rfl,f1]; simp only [z1]; rfl
        have hbe:=((bel_trans hb3 HB.out).setCell (p:=⟨w.heap.size + 1 + 1,0,none⟩) (show w.heap.size <= w.heap.size + 1 + 1 by omega) (.float .f64 (LO 3))).setCell (p:=⟨w.heap.size + 1 + 1,1,none⟩) (show w.heap.size <= w.heap.size + 1 + 1 by omega) (.float .f64 (HI 3))
        clear d3 d4 r_k
        go_wp2
        refine bodyPost_ret (v:=.agg #[.float .f64 (LO 3),.float .f64 (HI 3)]) (by simp [results,Tryz.results57,go_sem,e0,e1]) rfl ⟨rfl,hbe⟩
  have hxr:=bel_refl wx3
  have hx0:=(bel_refl wx3).drew
  go_region_held3 (fun W=>W.cell? ⟨w.heap.size,0,none⟩=some (.float .f64 a)∧W.cell? ⟨w.heap.size,1,none⟩=some (.float .f64 b)∧W.cell? ⟨w.heap.size + 1,0,none⟩=some (.float .f64 c)∧W.cell? ⟨w.heap.size + 1,1,none⟩=some (.float .f64 d))
    (first | with_reducible assumption | with_reducible exact KK _ (hx0) | with_reducible exact KK _ ((al1 hxr _).drew) | with_reducible exact KK _ (al1 hx0 _) | with_reducible exact KK _ (hw1) | with_reducible exact KK _ (al1 hw1 _) | with_reducible exact KK _ (hw2) | with_reducible exact KK _ (al1 hw2 _) | with_reducible exact KK _ (hw3) | with_reducible exact KK _ (al1 hw3 _) | with_reducible exact KK _ (hw4) | with_reducible exact KK _ (al1 hw4 _) | with_reducible exact KK _ (set8 (g:=y3.heap.size) hw4 (hw3.size) _ _ _ _ _ _ _ _) | with_reducible exact KK _ (set8 (g:=y2.heap.size) hw4 (hw2.size) _ _ _ _ _ _ _ _) | with_reducible exact KK _ (set8 (g:=y1.heap.size) hw4 (hw1.size) _ _ _ _ _ _ _ _) | with_reducible exact KK _ (set8 (g:=wx3.heap.size) hw4 (Nat.le_refl _) _ _ _ _ _ _ _ _) | fail)
    (first
      | (go_at_call 67; have _t:=T3; refine (S3.out _ (H.keeps (bel_trans hb3 (by first | with_reducible exact hw3 | with_reducible exact al1 hw3 _)))).mono ?_; rintro _ y4 ⟨rfl,hc4⟩; have hw4:Below wx3.heap.size wx3 y4:=bel_trans (by first | with_reducible exact hw3 | with_reducible exact al1 hw3 _) hc4; have T4:True:=trivial; first | (have hg:Below (y3.alloc (.cells #[.float .f64 0,.float .f64 0,.float .f64 0,.float .f64 0,.float .f64 0,.float .f64 0,.float .f64 0,.float .f64 0] 110)).heap.size (y3.alloc (.cells #[.float .f64 0,.float .f64 0,.float .f64 0,.float .f64 0,.float .f64 0,.float .f64 0,.float .f64 0,.float .f64 0] 110)) y4:=(by with_reducible exact hc4); have qz:y4.heap[y3.heap.size]?=some (.cells #[.float .f64 0,.float .f64 0,.float .f64 0,.float .f64 0,.float .f64 0,.float .f64 0,.float .f64 0,.float .f64 0] 110 (0,0)):=blk_up hg (show (y3.alloc (.cells #[.float .f64 0,.float .f64 0,.float .f64 0,.float .f64 0,.float .f64 0,.float .f64 0,.float .f64 0,.float .f64 0] 110)).heap[y3.heap.size]?=_ from heap_a1 y3 (.cells #[.float .f64 0,.float .f64 0,.float .f64 0,.float .f64 0,.float .f64 0,.float .f64 0,.float .f64 0,.float .f64 0] 110)); obtain ⟨s_0,s_1,s_2,s_3,s_4,s_5,s_6,s_7,qf⟩:=st8 (qz) (LO 0) (HI 0) (EL 0) (EH 0) (EL 1) (EH 1) (EL 2) (EH 2)) | (have hg:Below (y2.alloc (.cells #[.float .f64 0,.float .f64 0,.float .f64 0,.float .f64 0,.float .f64 0,.float .f64 0,.float .f64 0,.float .f64 0] 110)).heap.size (y2.alloc (.cells #[.float .f64 0,.float .f64 0,.float .f64 0,.float .f64 0,.float .f64 0,.float .f64 0,.float .f64 0,.float .f64 0] 110)) y3:=(by with_reducible exact hc3); have qz:y4.heap[y2.heap.size]?=some (.cells #[.float .f64 0,.float .f64 0,.float .f64 0,.float .f64 0,.float .f64 0,.float .f64 0,.float .f64 0,.float .f64 0] 110 (0,0)):=blk_up hc4 (blk_up hg (show (y2.alloc (.cells #[.float .f64 0,.float .f64 0,.float .f64 0,.float .f64 0,.float .f64 0,.float .f64 0,.float .f64 0,.float .f64 0] 110)).heap[y2.heap.size]?=_ from heap_a1 y2 (.cells #[.float .f64 0,.float .f64 0,.float .f64 0,.float .f64 0,.float .f64 0,.float .f64 0,.float .f64 0,.float .f64 0] 110))); obtain ⟨s_0,s_1,s_2,s_3,s_4,s_5,s_6,s_7,qf⟩:=st8 (qz) (LO 0) (HI 0) (EL 0) (EH 0) (EL 1) (EH 1) (EL 2) (EH 2)) | (have hg:Below (y1.alloc (.cells #[.float .f64 0,.float .f64 0,.float .f64 0,.float .f64 0,.float .f64 0,.float .f64 0,.float .f64 0,.float .f64 0] 110)).heap.size (y1.alloc (.cells #[.float .f64 0,.float .f64 0,.float .f64 0,.float .f64 0,.float .f64 0,.float .f64 0,.float .f64 0,.float .f64 0] 110)) y2:=(by with_reducible exact hc2); have qz:y4.heap[y1.heap.size]?=some (.cells #[.float .f64 0,.float .f64 0,.float .f64 0,.float .f64 0,.float .f64 0,.float .f64 0,.float .f64 0,.float .f64 0] 110 (0,0)):=blk_up hc4 (blk_up hc3 (blk_up hg (show (y1.alloc (.cells #[.float .f64 0,.float .f64 0,.float .f64 0,.float .f64 0,.float .f64 0,.float .f64 0,.float .f64 0,.float .f64 0] 110)).heap[y1.heap.size]?=_ from heap_a1 y1 (.cells #[.float .f64 0,.float .f64 0,.float .f64 0,.float .f64 0,.float .f64 0,.float .f64 0,.float .f64 0,.float .f64 0] 110)))); obtain ⟨s_0,s_1,s_2,s_3,s_4,s_5,s_6,s_7,qf⟩:=st8 (qz) (LO 0) (HI 0) (EL 0) (EH 0) (EL 1) (EH 1) (EL 2) (EH 2)) | (have hg:Below (wx3.alloc (.cells #[.float .f64 0,.float .f64 0,.float .f64 0,.float .f64 0,.float .f64 0,.float .f64 0,.float .f64 0,.float .f64 0] 110)).drew.heap.size (wx3.alloc (.cells #[.float .f64 0,.float .f64 0,.float .f64 0,.float .f64 0,.float .f64 0,.float .f64 0,.float .f64 0,.float .f64 0] 110)).drew y1:=(by with_reducible exact hc1); have qz:y4.heap[wx3.heap.size]?=some (.cells #[.float .f64 0,.float .f64 0,.float .f64 0,.float .f64 0,.float .f64 0,.float .f64 0,.float .f64 0,.float .f64 0] 110 (0,0)):=blk_up hc4 (blk_up hc3 (blk_up hc2 (blk_up hg (show (wx3.alloc (.cells #[.float .f64 0,.float .f64 0,.float .f64 0,.float .f64 0,.float .f64 0,.float .f64 0,.float .f64 0,.float .f64 0] 110)).drew.heap[wx3.heap.size]?=_ from heap_a1 wx3 (.cells #[.float .f64 0,.float .f64 0,.float .f64 0,.float .f64 0,.float .f64 0,.float .f64 0,.float .f64 0,.float .f64 0] 110))))); obtain ⟨s_0,s_1,s_2,s_3,s_4,s_5,s_6,s_7,qf⟩:=st8 (qz) (LO 0) (HI 0) (EL 0) (EH 0) (EL 1) (EH 1) (EL 2) (EH 2)) | (obtain ⟨s_0,s_1,s_2,s_3,s_4,s_5,s_6,s_7⟩:=sa8 y4 (LO 0) (HI 0) (EL 0) (EH 0) (EL 1) (EH 1) (EL 2) (EH 2)))
      | (go_at_call 67; have _t:=T2; refine (S2.out _ (H.keeps (bel_trans hb3 (by first | with_reducible exact hw2 | with_reducible exact al1 hw2 _)))).mono ?_; rintro _ y3 ⟨rfl,hc3⟩; have hw3:Below wx3.heap.size wx3 y3:=bel_trans (by first | with_reducible exact hw2 | with_reducible exact al1 hw2 _) hc3; have T3:True:=trivial)
      | (go_at_call 67; have _t:=T1; refine (S1.out _ (H.keeps (bel_trans hb3 (by first | with_reducible exact hw1 | with_reducible exact al1 hw1 _)))).mono ?_; rintro _ y2 ⟨rfl,hc2⟩; have hw2:Below wx3.heap.size wx3 y2:=bel_trans (by first | with_reducible exact hw1 | with_reducible exact al1 hw1 _) hc2; have T2:True:=trivial)
      | (go_at_call 67; refine (S0.out _ (H.keeps (bel_trans hb3 (by first | with_reducible exact hx0 | with_reducible exact (al1 hxr _).drew | with_reducible exact al1 hx0 _)))).mono ?_; rintro _ y1 ⟨rfl,hc1⟩; have hw1:Below wx3.heap.size wx3 y1:=bel_trans (by first | with_reducible exact hx0 | with_reducible exact (al1 hxr _).drew | with_reducible exact al1 hx0 _) hc1; have T1:True:=trivial))
  . exact HN y4.heap.size _ _ (by kernel_rfl) (heap_a1 _ _) (al1 hw4 _) hw4.size
  . exact HN (y3.heap.size) _ _ (by kernel_rfl) qf (set8 hw4 (hw3.size) _ _ _ _ _ _ _ _) (hw3.size)
  . exact HN (y2.heap.size) _ _ (by kernel_rfl) qf (set8 hw4 (hw2.size) _ _ _ _ _ _ _ _) (hw2.size)
  . exact HN (y1.heap.size) _ _ (by kernel_rfl) qf (set8 hw4 (hw1.size) _ _ _ _ _ _ _ _) (hw1.size)
  . exact HN (wx3.heap.size) _ _ (by kernel_rfl) qf (set8 hw4 (Nat.le_refl _) _ _ _ _ _ _ _ _) (Nat.le_refl _)
end Go.Proofs.YtfgapefckpnjjaaGreatDoor
