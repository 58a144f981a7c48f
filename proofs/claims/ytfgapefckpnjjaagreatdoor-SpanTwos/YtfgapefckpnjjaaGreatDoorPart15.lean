/- Parts of the proof. -/
import Derived.Test.YtfgapefckpnjjaaGreatDoorPart14
import Derived.Test.YtfgapefckpnjjaaGreatDoorPart8
import Derived.Test.YtfgapefckpnjjaaGreatDoorPart12
import Derived.Test.YtfgapefckpnjjaaGreatDoorPart9
import Derived.Test.YtfgapefckpnjjaaGreatDoorPart13
set_option linter.unusedVariables false
set_option linter.unusedSimpArgs false
namespace Go.Proofs.YtfgapefckpnjjaaGreatDoor
open Go Go.RowKit Go.Proofs.YtfgapefckpnjjaaGreatDoor.M
set_option maxRecDepth 100000 in
set_option maxHeartbeats 8000000 in
theorem ofTwo_H (F:Nat) {a b c d x y:Int} (ha:rng a) (hb:rng b) (hc:rng c) (hd:rng d) (w:World) (HH:Hold4 w)
    (hE:∀ (cap:Array Value) (w:World),(callFunc F cap).run Tryz.prog w=.ok (.enter F cap) w)
    (CF:Hid (vld a b=true->vld c d=true->nn x∧nn y∧∀ W,Hold4 W->Calls Tryz.prog F #[ivl a b,ivl c d] W fun e w'=>e=.returned (ivl x y)∧Below W.heap.size W w')) :
    Calls Tryz.prog 36 #[spn a b,spn c d,.func (.func F) #[] #[]] w fun e w'=>e=.returned (.tuple #[twoV (vld a b && vld c d) (spn (canon x) (canon y)),.int .i64 (errA (vld a b && vld c d))])∧Below w.heap.size w w':=by
  have R1:=fun W=>spanReadX a b W
  have R2:=fun W=>spanReadX c d W
  have V1:Hid (∀ W,Calls Tryz.prog 39 #[ivl a b] W fun e w'=>e=.returned (.bool (vld a b))∧Below W.heap.size W w'):=fun W=>ivlValid ha hb W
  have V2:Hid (∀ W,Calls Tryz.prog 39 #[ivl c d] W fun e w'=>e=.returned (.bool (vld c d))∧Below W.heap.size W w'):=fun W=>ivlValid hc hd W
  unfold spn ivl at *
  obtain ⟨q0,q1,q2,hs,hb3⟩:=heap3 w (.cells #[.int .i64 a,.int .i64 b] 23) (.cells #[.int .i64 c,.int .i64 d] 23) (.cells #[.int .i64 0,.int .i64 0] 23)
  go_enter Tryz.func36,Tryz.ntmps36
  go_wp2_with fail
  have k0:=blkC q0 0 rfl
  have k1:=blkC q0 1 rfl
  have k2:=blkC q1 0 rfl
  have k3:=blkC q1 1 rfl
  generalize ((w.alloc (.cells #[.int .i64 a,.int .i64 b] 23)).alloc (.cells #[.int .i64 c,.int .i64 d] 23)).alloc (.cells #[.int .i64 0,.int .i64 0] 23)=wx at *
  have hst:∀ (p:Addr) (n:Nat) (m:Mode) (w:World),(store p (.float .f64 n) m).run Tryz.prog w=stored Tryz.prog w p (.float .f64 n) m:=fun p n m w=>run_store _ w p _ m rfl
  have hc:(w.heap.size < w.heap.size + 3∧w.heap.size + 1 < w.heap.size + 3∧w.heap.size + 3 <= wx.drew.heap.size)∧wx.drew.cell? ⟨w.heap.size,0,none⟩=some (.int .i64 a)∧wx.drew.cell? ⟨w.heap.size,1,none⟩=some (.int .i64 b)∧wx.drew.cell? ⟨w.heap.size + 1,0,none⟩=some (.int .i64 c)∧wx.drew.cell? ⟨w.heap.size + 1,1,none⟩=some (.int .i64 d):=⟨⟨by omega,by omega,by show _ <= wx.heap.size; omega⟩,k0,k1,k2,k3⟩
  rename_i Q' K haK
  have H:∀ (gi gj:Nat) (W:World),W.heap[gi]?=some (.cells #[.float .f64 (wd a),.float .f64 (wd b)] 64 (0,0))->W.heap[gj]?=some (.cells #[.float .f64 (wd c),.float .f64 (wd d)] 64 (0,0))->Below wx.heap.size wx W ->
      Exit.then K Q' Exit.normal { tmps:=#[.agg #[.int .i64 a,.int .i64 b],.agg #[.int .i64 c,.int .i64 d],.func (.func F) #[] #[],.pointer (some ⟨w.heap.size,0,none⟩),.pointer (some ⟨w.heap.size + 1,0,none⟩),undef,.pointer (some ⟨w.heap.size + 1 + 1,0,none⟩),.int .i64 0,.pointer (some ⟨gi,0,none⟩),.pointer (some ⟨gj,0,none⟩),.agg #[.int .i64 a,.int .i64 b],.agg #[.float .f64 (wd a),.float .f64 (wd b)],.agg #[.int .i64 c,.int .i64 d],.agg #[.float .f64 (wd c),.float .f64 (wd d)],undef,undef,undef,undef,undef,undef,undef,undef,undef,undef,undef,undef,undef,undef],defers:=[] } W:=by
    intro gi gj W hgi hgj hbW
    clear hc k0 k1 k2 k3 q0 q1 R1 R2 hst
    have i0:=blkC hgi 0 rfl
    have i1:=blkC hgi 1 rfl
    have j0:=blkC hgj 0 rfl
    have j1:=blkC hgj 1 rfl
    go_wp2_with fail
    refine (V1.out _).mono ?_
    rintro _ w1 ⟨rfl,hb4⟩
    have hgi1:=(hb4.block _ (Array.getElem?_eq_some_iff.1 hgi).1).trans hgi
    have hgj1:=(hb4.block _ (Array.getElem?_eq_some_iff.1 hgj).1).trans hgj
    clear i0 i1 j0 j1
    have j0:=blkC hgj1 0 rfl
    have j1:=blkC hgj1 1 rfl
    by_cases h1:vld a b=false
    . rw [h1]
      have hbR:=bel_trans hbW hb4
      have d2:=(hbR.block _ (Array.getElem?_eq_some_iff.1 q2).1).trans q2
      have d3:=q_heap_set d2 0 (.int .i64 0)
      have d4:=q_heap_set d3 1 (.int .i64 0)
      have f0:=blkC d2 0 rfl
      have z0:=blkF d2 0
      have f1:=blkC d3 1 rfl
      have z1:=blkF d3 1
      have e0:=blkC d4 0 rfl
      have e1:=blkC d4 1 rfl
      have hbe:=((bel_trans hb3 hbR).setCell (p:=⟨w.heap.size + 1 + 1,0,none⟩) (show w.heap.size <= w.heap.size + 1 + 1 by omega) (.int .i64 0)).setCell (p:=⟨w.heap.size + 1 + 1,1,none⟩) (show w.heap.size <= w.heap.size + 1 + 1 by omega) (.int .i64 0)
      clear d2 d3 d4
      go_wp2
      refine bodyPost_ret (v:=.tuple #[.agg #[.int .i64 0,.int .i64 0],.int .i64 1]) (by simp [results,Tryz.results36,go_sem,e0,e1]) rfl ⟨by rw [h1]; rfl,hbe⟩
    replace h1:vld a b=true:=by simpa using h1
    rw [h1]
    go_wp2_with fail
    refine (V2.out _).mono ?_
    rintro _ w2 ⟨rfl,hb5⟩
    have hgi2:=(hb5.block _ (Array.getElem?_eq_some_iff.1 hgi1).1).trans hgi1
    have hgj2:=(hb5.block _ (Array.getElem?_eq_some_iff.1 hgj1).1).trans hgj1
    clear j0 j1
    have i0:=blkC hgi2 0 rfl
    have i1:=blkC hgi2 1 rfl
    have j0:=blkC hgj2 0 rfl
    have j1:=blkC hgj2 1 rfl
    have hbR:=bel_trans hbW (bel_trans hb4 hb5)
    by_cases h2:vld c d=false
    . rw [h2]
      have d2:=(hbR.block _ (Array.getElem?_eq_some_iff.1 q2).1).trans q2
      have d3:=q_heap_set d2 0 (.int .i64 0)
      have d4:=q_heap_set d3 1 (.int .i64 0)
      have f0:=blkC d2 0 rfl
      have z0:=blkF d2 0
      have f1:=blkC d3 1 rfl
      have z1:=blkF d3 1
      have e0:=blkC d4 0 rfl
      have e1:=blkC d4 1 rfl
      have hbe:=((bel_trans hb3 hbR).setCell (p:=⟨w.heap.size + 1 + 1,0,none⟩) (show w.heap.size <= w.heap.size + 1 + 1 by omega) (.int .i64 0)).setCell (p:=⟨w.heap.size + 1 + 1,1,none⟩) (show w.heap.size <= w.heap.size + 1 + 1 by omega) (.int .i64 0)
      clear d2 d3 d4
      go_wp2
      refine bodyPost_ret (v:=.tuple #[.agg #[.int .i64 0,.int .i64 0],.int .i64 1]) (by simp [results,Tryz.results36,go_sem,e0,e1]) rfl ⟨by rw [h2,Bool.and_false]; rfl,hbe⟩
    replace h2:vld c d=true:=by simpa using h2
    rw [h2]
    obtain ⟨nx,ny,CF'⟩:=CF.out h1 h2
    have L2:=HH.keeps (bel_trans hb3 hbR)
    have CT:=fun W LW=>spanTold nx ny W LW
    unfold ivl spn at CT
    go_wp2_with fail
    refine (CF' _ L2).mono ?_
    rintro _ w3 ⟨rfl,hb6⟩
    have L3:=L2.keeps hb6
    go_wp2_with fail
    refine (CT _ L3.env.lays).mono ?_
    rintro _ w4 ⟨rfl,hb7⟩
    replace hbR:=bel_trans hbR (bel_trans hb6 hb7)
    have d2:=(hbR.block _ (Array.getElem?_eq_some_iff.1 q2).1).trans q2
    generalize hX:canon x=X at *
    generalize hY:canon y=Y at *
    have d3:=q_heap_set d2 0 (.int .i64 X)
    have d4:=q_heap_set d3 1 (.int .i64 Y)
    have f0:=blkC d2 0 rfl
    have z0:=blkF d2 0
    have f1:=blkC d3 1 rfl
    have z1:=blkF d3 1
    have e0:=blkC d4 0 rfl
    have e1:=blkC d4 1 rfl
    have hbe:=((bel_trans hb3 hbR).setCell (p:=⟨w.heap.size + 1 + 1,0,none⟩) (show w.heap.size <= w.heap.size + 1 + 1 by omega) (.int .i64 X)).setCell (p:=⟨w.heap.size + 1 + 1,1,none⟩) (show w.heap.size <= w.heap.size + 1 + 1 by omega) (.int .i64 Y)
    clear d2 d3 d4 CT CF CF'
    go_wp2
    refine bodyPost_ret (v:=.tuple #[.agg #[.int .i64 X,.int .i64 Y],.int .i64 0]) (by simp [results,Tryz.results36,go_sem,e0,e1]) rfl ⟨by rw [h1,h2,hX,hY]; rfl,hbe⟩
  go_region_held3 (fun W=>(w.heap.size < w.heap.size + 3∧w.heap.size + 1 < w.heap.size + 3∧w.heap.size + 3 <= W.heap.size)∧W.cell? ⟨w.heap.size,0,none⟩=some (.int .i64 a)∧W.cell? ⟨w.heap.size,1,none⟩=some (.int .i64 b)∧W.cell? ⟨w.heap.size + 1,0,none⟩=some (.int .i64 c)∧W.cell? ⟨w.heap.size + 1,1,none⟩=some (.int .i64 d))
    (first | assumption | (repeat (first | exact hc | refine s4_drew ?_ | refine s4_alloc _ ?_ | refine s4_set (by first | omega | (simp; omega)) ?_)))
    (first
      | (go_at_call 38; have _t:=T1; refine (R2 _).mono ?_; rintro _ _ ⟨rfl,rfl⟩)
      | (go_at_call 38; refine (R1 _).mono ?_; rintro _ _ ⟨rfl,rfl⟩; have T1:True:=trivial))
  all_goals
    refine H _ _ _ ?_ ?_ hl6_b
    all_goals first
      | exact hl6_0 hs rfl
      | exact hl6_1 hs rfl
      | exact hl6_2 hs rfl
      | exact hl6_3 hs rfl
      | exact hl6_4 hs rfl
      | exact hl6_5 hs rfl
set_option maxRecDepth 100000 in
theorem spanJoin {a b c d:Int} (ha:rng a) (hb:rng b) (hc:rng c) (hd:rng d) (w:World) (L:Lays w) :
    Calls Tryz.prog 30 #[spn a b,spn c d] w fun e w'=>e=.returned (.tuple #[twoV (vld a b && vld c d) (spn (canon (minP a c)) (canon (maxP b d))),.int .i64 (errA (vld a b && vld c d))])∧Below w.heap.size w w':=by
  have hE:∀ (cap:Array Value) (w:World),(callFunc 49 cap).run Tryz.prog w=.ok (.enter 49 cap) w:=by
    intro cap w
    simp [go_sem]
  have CJ:Hid (∀ W,Lays W->Calls Tryz.prog 36 #[spn a b,spn c d,.func (.func 49) #[] #[]] W fun e w'=>e=.returned (.tuple #[twoV (vld a b && vld c d) (spn (canon (minP a c)) (canon (maxP b d))),.int .i64 (errA (vld a b && vld c d))])∧Below W.heap.size W w'):=fun W LW=>
    ofTwo_any _ ha hb hc hd W LW hE (fun h1 h2=>by
      obtain ⟨va,vb,_,_,_⟩:=vld_iff.1 h1
      obtain ⟨vc,vd,_,_,_⟩:=vld_iff.1 h2
      exact ⟨(minP_nn ⟨ha,va⟩ ⟨hc,vc⟩).1,(maxP_nn ⟨hb,vb⟩ ⟨hd,vd⟩).1,fun W' _=>ivlJoined ⟨ha,va⟩ ⟨hb,vb⟩ ⟨hc,vc⟩ ⟨hd,vd⟩ W'⟩)
  have hx:∃ X Y,twoV (vld a b && vld c d) (spn (canon (minP a c)) (canon (maxP b d)))=.agg #[.int .i64 X,.int .i64 Y]:=by
    unfold twoV spn; split
    . exact ⟨_,_,rfl⟩
    . exact ⟨_,_,rfl⟩
  obtain ⟨X,Y,hXY⟩:=hx
  rw [hXY] at CJ ⊢
  clear hXY
  unfold spn at *
  generalize errA (vld a b && vld c d)=E at *
  obtain ⟨q0,q1,q2,hs,hb3⟩:=heap3 w (.cells #[.int .i64 a,.int .i64 b] 23) (.cells #[.int .i64 c,.int .i64 d] 23) (.cells #[.int .i64 0,.int .i64 0] 23)
  have L2:=L.below' hb3
  go_enter Tryz.func30,Tryz.ntmps30
  go_wp2_with fail
  generalize ((w.alloc (.cells #[.int .i64 a,.int .i64 b] 23)).alloc (.cells #[.int .i64 c,.int .i64 d] 23)).alloc (.cells #[.int .i64 0,.int .i64 0] 23)=wx at *
  refine (CJ.out _ L2).mono ?_
  rintro _ w1 ⟨rfl,hb4⟩
  have d2:=(hb4.block _ (Array.getElem?_eq_some_iff.1 q2).1).trans q2
  have d3:=q_heap_set d2 0 (.int .i64 X)
  have d4:=q_heap_set d3 1 (.int .i64 Y)
  have f0:=blkC d2 0 rfl
  have z0:=blkF d2 0
  have f1:=blkC d3 1 rfl
  have z1:=blkF d3 1
  have e0:=blkC d4 0 rfl
  have e1:=blkC d4 1 rfl
  have hbe:=((bel_trans hb3 hb4).setCell (p:=⟨w.heap.size + 1 + 1,0,none⟩) (show w.heap.size <= w.heap.size + 1 + 1 by omega) (.int .i64 X)).setCell (p:=⟨w.heap.size + 1 + 1,1,none⟩) (show w.heap.size <= w.heap.size + 1 + 1 by omega) (.int .i64 Y)
  clear d2 d3 d4 q0 q1 q2
  go_wp2
  refine bodyPost_ret (v:=.tuple #[.agg #[.int .i64 X,.int .i64 Y],.int .i64 E]) (by simp [results,Tryz.results30,go_sem,e0,e1]) rfl ⟨rfl,hbe⟩
set_option maxRecDepth 100000 in
theorem besideZ (x:Nat) (w:World) :
    Calls Tryz.prog 79 #[.float .f64 x,.float .f64 0] w fun e w'=>e=.returned (.agg #[.float .f64 x,.float .f64 x])∧w'=w.alloc (.cells #[.float .f64 x,.float .f64 x] 64):=by
  have hst:∀ (p:Addr) (n:Nat) (m:Mode) (w:World),(store p (.float .f64 n) m).run Tryz.prog w=stored Tryz.prog w p (.float .f64 n) m:=fun p n m w=>run_store _ w p _ m rfl
  have o:FloatKind.f64.format.order 0 0=some .eq:=by decide +kernel
  have hg:(w.alloc (.cells #[.float .f64 x,.float .f64 x] 64)).heap[w.heap.size]?=some (.cells #[.float .f64 x,.float .f64 x] 64 (0,0)):=hl_last _ _ rfl
  have e0:=blkC hg 0 rfl
  have e1:=blkC hg 1 rfl
  go_enter Tryz.func79,Tryz.ntmps79
  go_wp2
  refine bodyPost_ret (v:=.agg #[.float .f64 x,.float .f64 x]) (by simp [results,Tryz.results79,go_sem,e0,e1]) rfl ⟨rfl,rfl⟩
def tmLo (a b c d:Int):Int:=minP (minP (minP (prLo a c) (prLo a d)) (prLo b c)) (prLo b d)
def tmHi (a b c d:Int):Int:=maxP (maxP (maxP (prHi a c) (prHi a d)) (prHi b c)) (prHi b d)
theorem tm_nn {a b c d:Int} (ha:nn a) (hb:nn b) (hc:nn c) (hd:nn d):nn (tmLo a b c d)∧nn (tmHi a b c d) :=
  ⟨(minP_nn (minP_nn (minP_nn (prLo_nn ha hc).1 (prLo_nn ha hd).1).1 (prLo_nn hb hc).1).1 (prLo_nn hb hd).1).1,(maxP_nn (maxP_nn (maxP_nn (prLo_nn ha hc).2 (prLo_nn ha hd).2).1 (prLo_nn hb hc).2).1 (prLo_nn hb hd).2).1⟩
theorem ivlTimes {a b c d:Int} (ha:nn a) (hb:nn b) (hc:nn c) (hd:nn d) (w:World) (H:Hold4 w) :
    Calls Tryz.prog 57 #[ivl a b,ivl c d] w fun e w'=>e=.returned (ivl (tmLo a b c d) (tmHi a b c d))∧Below w.heap.size w w':=by
  obtain ⟨n0,n0'⟩:=prLo_nn ha hc
  obtain ⟨n1,n1'⟩:=prLo_nn ha hd
  obtain ⟨n2,n2'⟩:=prLo_nn hb hc
  obtain ⟨n3,n3'⟩:=prLo_nn hb hd
  have m1:=(minP_nn n0 n1).1
  have m1':=(maxP_nn n0' n1').1
  have m2:=(minP_nn m1 n2).1
  have m2':=(maxP_nn m1' n2').1
  exact times_any (fun k=>match k with | 0=>wd (prLo a c) | 1=>wd (minP (prLo a c) (prLo a d)) | 2=>wd (minP (minP (prLo a c) (prLo a d)) (prLo b c)) | _=>wd (tmLo a b c d))
    (fun k=>match k with | 0=>wd (prHi a c) | 1=>wd (maxP (prHi a c) (prHi a d)) | 2=>wd (maxP (maxP (prHi a c) (prHi a d)) (prHi b c)) | _=>wd (tmHi a b c d))
    (fun k=>match k with | 0=>wd (prLo a d) | 1=>wd (prLo b c) | _=>wd (prLo b d))
    (fun k=>match k with | 0=>wd (prHi a d) | 1=>wd (prHi b c) | _=>wd (prHi b d)) w H
    (fun W hW=>spProduct ha hc W hW) (fun W hW=>spProduct ha hd W hW) (fun W hW=>spProduct hb hc W hW) (fun W hW=>spProduct hb hd W hW)
    (fun k hk W=>by
      match k,hk with
      | 0,_=>exact ivlJoined n0 n0' n1 n1' W
      | 1,_=>exact ivlJoined m1 m1' n2 n2' W
      | 2,_=>exact ivlJoined m2 m2' n3 n3' W)
set_option maxRecDepth 100000 in
theorem spanMulH {a b c d:Int} (ha:rng a) (hb:rng b) (hc:rng c) (hd:rng d) (w:World) (H:Hold4 w) :
    Calls Tryz.prog 28 #[spn a b,spn c d] w fun e w'=>e=.returned (.tuple #[twoV (vld a b && vld c d) (spn (canon (tmLo a b c d)) (canon (tmHi a b c d))),.int .i64 (errA (vld a b && vld c d))])∧Below w.heap.size w w':=by
  have hE:∀ (cap:Array Value) (w:World),(callFunc 57 cap).run Tryz.prog w=.ok (.enter 57 cap) w:=by
    intro cap w
    simp [go_sem]
  have CJ:Hid (∀ W,Hold4 W->Calls Tryz.prog 36 #[spn a b,spn c d,.func (.func 57) #[] #[]] W fun e w'=>e=.returned (.tuple #[twoV (vld a b && vld c d) (spn (canon (tmLo a b c d)) (canon (tmHi a b c d))),.int .i64 (errA (vld a b && vld c d))])∧Below W.heap.size W w'):=fun W LW=>
    ofTwo_H _ ha hb hc hd W LW hE (fun h1 h2=>by
      obtain ⟨va,vb,_,_,_⟩:=vld_iff.1 h1
      obtain ⟨vc,vd,_,_,_⟩:=vld_iff.1 h2
      exact ⟨(tm_nn ⟨ha,va⟩ ⟨hb,vb⟩ ⟨hc,vc⟩ ⟨hd,vd⟩).1,(tm_nn ⟨ha,va⟩ ⟨hb,vb⟩ ⟨hc,vc⟩ ⟨hd,vd⟩).2,fun W' hW=>ivlTimes ⟨ha,va⟩ ⟨hb,vb⟩ ⟨hc,vc⟩ ⟨hd,vd⟩ W' hW⟩)
  have hx:∃ X Y,twoV (vld a b && vld c d) (spn (canon (tmLo a b c d)) (canon (tmHi a b c d)))=.agg #[.int .i64 X,.int .i64 Y]:=by
    unfold twoV spn; split
    . exact ⟨_,_,rfl⟩
    . exact ⟨_,_,rfl⟩
  obtain ⟨X,Y,hXY⟩:=hx
  rw [hXY] at CJ ⊢
  clear hXY
  unfold spn at *
  generalize errA (vld a b && vld c d)=E at *
  obtain ⟨q0,q1,q2,hs,hb3⟩:=heap3 w (.cells #[.int .i64 a,.int .i64 b] 23) (.cells #[.int .i64 c,.int .i64 d] 23) (.cells #[.int .i64 0,.int .i64 0] 23)
  have L2:=H.keeps hb3
  go_enter Tryz.func28,Tryz.ntmps28
  go_wp2_with fail
  generalize ((w.alloc (.cells #[.int .i64 a,.int .i64 b] 23)).alloc (.cells #[.int .i64 c,.int .i64 d] 23)).alloc (.cells #[.int .i64 0,.int .i64 0] 23)=wx at *
  refine (CJ.out _ L2).mono ?_
  rintro _ w1 ⟨rfl,hb4⟩
  have d2:=(hb4.block _ (Array.getElem?_eq_some_iff.1 q2).1).trans q2
  have d3:=q_heap_set d2 0 (.int .i64 X)
  have d4:=q_heap_set d3 1 (.int .i64 Y)
  have f0:=blkC d2 0 rfl
  have z0:=blkF d2 0
  have f1:=blkC d3 1 rfl
  have z1:=blkF d3 1
  have e0:=blkC d4 0 rfl
  have e1:=blkC d4 1 rfl
  have hbe:=((bel_trans hb3 hb4).setCell (p:=⟨w.heap.size + 1 + 1,0,none⟩) (show w.heap.size <= w.heap.size + 1 + 1 by omega) (.int .i64 X)).setCell (p:=⟨w.heap.size + 1 + 1,1,none⟩) (show w.heap.size <= w.heap.size + 1 + 1 by omega) (.int .i64 Y)
  clear d2 d3 d4 q0 q1 q2
  go_wp2
  refine bodyPost_ret (v:=.tuple #[.agg #[.int .i64 X,.int .i64 Y],.int .i64 E]) (by simp [results,Tryz.results28,go_sem,e0,e1]) rfl ⟨rfl,hbe⟩
structure En where
  i:Int
  v:Int
def En.le (a b:En):Prop:=a.i < b.i∨(a.i=b.i∧a.v <= b.v)
def En.ok (a:En):Prop:=a.i=0∨((a.i=1∨a.i=-1)∧a.v=0)
def eLo (a:En):Int:=if 0 < a.i then 9218868437227405312 else if a.i < 0 then -4503599627370496 else cLo a.v
def eHi (a:En):Int:=if 0 < a.i then 9218868437227405312 else if a.i < 0 then -4503599627370496 else cHi a.v
def eOf (p:Int):En:=if rg p=9218868437227405312 then ⟨if p < 0 then -1 else 1,0⟩ else ⟨0,patV p⟩
theorem En.eq {a b:En} (h:a.i=b.i) (k:a.v=b.v):a=b:=by cases a; cases b; cases h; cases k; rfl
theorem En.le_refl (a:En):a.le a:=.inr ⟨rfl,Int.le_refl _⟩
theorem En.le_trans {a b c:En} (h:a.le b) (k:b.le c):a.le c:=by
  unfold En.le at *
  omega
theorem En.le.le_trans {a b c:En} (h:a.le b) (k:b.le c):a.le c:=En.le_trans h k
theorem En.le_total (a b:En):a.le b∨b.le a:=by
  unfold En.le
  omega
theorem rdof_ex (V:Int):∃ (ng:Bool) (f:Int->Int × Bool),RdOf V ng f:=by
  by_cases h0:V=0
  . subst h0
    exact ⟨false,fun way=>(patS (false && decide (0 < rTo way false 0 0)) (rTo way false 0 0),decide ((0:Int) ≠ 0) || decide (9218868437227405312 <= ((0:Nat):Int))),0,0,0,rfl,(fun h=>by cases h),rung_zero,fun way=>rfl⟩
  . obtain ⟨g,A,r0,left,e,hA,hR,_,_⟩:=c_rung h0
    exact ⟨g,fun way=>(patS (g && decide (0 < rTo way g r0 left)) (rTo way g r0 left),decide (left ≠ 0) || decide (9218868437227405312 <= (r0:Int))),A,r0,left,e,fun _=>hA,hR,fun way=>rfl⟩
theorem c_nn (V:Int):nn (cLo V)∧nn (cHi V):=by
  obtain ⟨ng,f,h⟩:=rdof_ex V
  obtain ⟨c1,c2⟩:=around_c h
  obtain ⟨A,r0,left,e,hn,hR,hf⟩:=h
  obtain ⟨_,a2,a3⟩:=RdOf.key (V:=V) (A:=A) (hf 1)
  obtain ⟨_,b2,b3⟩:=RdOf.key (V:=V) (A:=A) (hf 2)
  rw [c1] at a2 a3
  rw [c2] at b2 b3
  exact ⟨⟨a3,a2⟩,⟨b3,b2⟩⟩
theorem not_less {a b:Int} (ha:nn a) (hb:nn b) (h:less a b=false):key b <= key a:=by
  unfold less at h
  simp [ha.2,hb.2] at h
  exact h
theorem c_mono {V U:Int} (h:V <= U):key (cLo V) <= key (cLo U)∧key (cHi V) <= key (cHi U):=by
  obtain ⟨ng,f,k⟩:=rdof_ex V
  obtain ⟨mg,g,l⟩:=rdof_ex U
  obtain ⟨c1,c2⟩:=around_c k
  obtain ⟨d1,d2⟩:=around_c l
  have m1:=rd_mono k l h 1
  have m2:=rd_mono k l h 2
  rw [c1,d1] at m1
  rw [c2,d2] at m2
  exact ⟨not_less (c_nn U).1 (c_nn V).1 m1,not_less (c_nn U).2 (c_nn V).2 m2⟩
theorem nn_inf:nn 9218868437227405312∧nn (-4503599627370496):=⟨⟨by unfold rng; omega,by decide⟩,⟨by unfold rng; omega,by decide⟩⟩
theorem key_bd {p:Int} (h:nn p):-9218868437227405312 <= key p∧key p <= 9218868437227405312:=by
  have:=nn_rg h
  unfold rg at this
  unfold key
  split at this <;> (split <;> omega)
theorem e_nn (a:En):nn (eLo a)∧nn (eHi a):=by
  unfold eLo eHi
  split
  . exact ⟨nn_inf.1,nn_inf.1⟩
  . split
    . exact ⟨nn_inf.2,nn_inf.2⟩
    . exact c_nn _
theorem key_infs:key 9218868437227405312=9218868437227405312∧key (-4503599627370496)=-9218868437227405312:=⟨by decide,by decide⟩
theorem e_mono {a b:En} (h:a.le b):key (eLo a) <= key (eLo b)∧key (eHi a) <= key (eHi b):=by
  obtain ⟨k1,k2⟩:=key_infs
  have n1:=key_bd (c_nn a.v).1
  have n2:=key_bd (c_nn a.v).2
  have n3:=key_bd (c_nn b.v).1
  have n4:=key_bd (c_nn b.v).2
  have m:=fun q=>@c_mono a.v b.v q
  unfold eLo eHi
  rcases h with h | ⟨h,h'⟩
  . by_cases p1:0 < a.i
    . have p2:0 < b.i:=by omega
      rw [if_pos p1,if_pos p1,if_pos p2,if_pos p2]
      exact ⟨Int.le_refl _,Int.le_refl _⟩
    . by_cases p2:0 < b.i
      . rw [if_neg p1,if_neg p1,if_pos p2,if_pos p2]
        split <;> (rw [k1]; first | (rw [k2]; omega) | omega)
      . have p3:a.i < 0:=by omega
        rw [if_neg p1,if_neg p1,if_pos p3,if_pos p3,if_neg p2,if_neg p2]
        split <;> (rw [k2]; first | omega | skip)
  . rw [h]
    split
    . exact ⟨Int.le_refl _,Int.le_refl _⟩
    . split
      . exact ⟨Int.le_refl _,Int.le_refl _⟩
      . exact m h'
theorem canon_canon (p:Int):canon (canon p)=canon p:=by
  have c1:canon 9221120237041090561=9221120237041090561:=by decide
  have c2:canon 0=0:=by decide
  by_cases h4:cls p=4
  . have:canon p=9221120237041090561:=by unfold canon; rw [if_pos h4]
    rw [this,c1]
  . by_cases h0:cls p=0
    . have:canon p=0:=by unfold canon; rw [if_neg h4,if_pos h0]
      rw [this,c2]
    . have:canon p=p:=by unfold canon; rw [if_neg h4,if_neg h0]
      rw [this,this]
theorem e_canon (a:En):canon (eLo a)=eLo a∧canon (eHi a)=eHi a:=by
  unfold eLo eHi
  split
  . exact ⟨by decide,by decide⟩
  . split
    . exact ⟨by decide,by decide⟩
    . unfold cLo cHi
      split
      . exact ⟨by decide,by decide⟩
      . exact ⟨canon_canon _,canon_canon _⟩
theorem canon_key {p q:Int} (hp:nn p) (hq:nn q) (h:key p=key q):canon p=canon q:=by
  by_cases e:p=q
  . rw [e]
  . rcases key_zeros hp.1 hq.1 h e with ⟨rfl,rfl⟩ | ⟨rfl,rfl⟩ <;> decide
theorem lo_of {p:Int} {a:En} (hp:nn p) (h:key p=key (eLo a)):canon p=eLo a:=(canon_key hp (e_nn a).1 h).trans (e_canon a).1
theorem hi_of {p:Int} {a:En} (hp:nn p) (h:key p=key (eHi a)):canon p=eHi a:=(canon_key hp (e_nn a).2 h).trans (e_canon a).2
theorem of_lo {p:Int} {a:En} (hp:nn p) (h:canon p=eLo a):key p=key (eLo a):=by rw [<- h,(key_canon hp).1]
theorem of_hi {p:Int} {a:En} (hp:nn p) (h:canon p=eHi a):key p=key (eHi a):=by rw [<- h,(key_canon hp).1]
theorem pat_of {p:Int} (hp:rng p):p=patS (decide (p < 0)) (rg p):=by
  unfold rng at hp
  unfold patS rg
  by_cases h:p < 0
  . rw [if_pos h,decide_eq_true h]; simp
  . rw [if_neg h,decide_eq_false h]; simp
theorem rg_zero {p:Int} (hp:rng p) (h:rg p=0):p=0∨p=-9223372036854775808:=by
  unfold rg at h
  split at h <;> omega
theorem patV_zeroE:patV 0=0∧patV (-9223372036854775808)=0:=by
  refine ⟨?_,?_⟩
  . unfold patV
    rw [show pmag 0=0 by decide,show pneg 0=false by decide]
    exact Int.zero_mul _
  . unfold patV
    rw [show pmag (-9223372036854775808)=0 by decide]
    show sg (pneg (-9223372036854775808)) 0 * _=0
    cases pneg (-9223372036854775808) <;> exact Int.zero_mul _
theorem c_zero:cLo 0=0∧cHi 0=0:=by unfold cLo cHi; rw [if_pos rfl,if_pos rfl]; exact ⟨rfl,rfl⟩
theorem e_of {p:Int} (hp:nn p):eLo (eOf p)=canon p∧eHi (eOf p)=canon p:=by
  have hr:=nn_rg hp
  obtain ⟨c1,c2⟩:=cls_rg hp.1
  unfold eOf
  by_cases hi:rg p=9218868437227405312
  . rw [if_pos hi]
    have hc:canon p=p:=by
      unfold canon
      rw [if_neg hp.2,if_neg (fun k=>by have:=c2.1 k; omega)]
    rw [hc]
    have h2:=hp.1
    unfold rng at h2
    unfold rg at hi
    unfold eLo eHi
    by_cases h0:p < 0
    . rw [if_pos h0] at hi
      simp only [if_pos h0]
      exact ⟨by simp; omega,by simp; omega⟩
    . rw [if_neg h0] at hi
      simp only [if_neg h0]
      exact ⟨by simp; omega,by simp; omega⟩
  . rw [if_neg hi]
    have hf:pok p=true:=rg_pat0 hp hi
    unfold eLo eHi
    simp only [Int.lt_irrefl,if_false]
    by_cases h0:rg p=0
    . have hz:=rg_zero hp.1 h0
      have hc:canon p=0:=by
        unfold canon
        rw [if_neg hp.2,if_pos (c2.2 h0)]
      have hv:patV p=0:=by
        rcases hz with rfl | rfl
        . exact patV_zeroE.1
        . exact patV_zeroE.2
      rw [hv,hc]
      exact c_zero
    . have hc:canon p=p:=by
        unfold canon
        rw [if_neg hp.2,if_neg (fun k=>h0 (c2.1 k))]
      have hv:=patV_dec hp.1 hf
      have hn:((rg p).toNat:Int)=rg p:=Int.toNat_of_nonneg hr.1
      obtain ⟨a1,a2⟩:=c_at (g:=decide (p < 0)) (r:=(rg p).toNat) (by omega) (by omega)
      rw [<- hv,hn,<- pat_of hp.1] at a1 a2
      rw [hc]
      exact ⟨a1,a2⟩
theorem key_rg {p:Int} (hp:rng p):key p=if p < 0 then - rg p else rg p:=by
  unfold key rg
  split <;> rfl
theorem iV_le {p q:Int} (hp:rng p) (hq:rng q) (h:key p <= key q):iV p <= iV q:=by
  rcases Int.lt_or_eq_of_le h with h | h
  . exact Int.le_of_lt (iV_mono hp hq h)
  . by_cases e:p=q
    . rw [e]; exact Int.le_refl _
    . rcases key_zeros hp hq h e with ⟨rfl,rfl⟩ | ⟨rfl,rfl⟩ <;> decide
theorem patV_le {p q:Int} (hp:rng p) (hq:rng q) (pp:pok p=true) (pq:pok q=true) (h:key p <= key q):patV p <= patV q:=by
  rw [patV_iV hp pp,patV_iV hq pq]
  exact Int.mul_le_mul_of_nonneg_right (iV_le hp hq h) (Int.le_of_lt (pw_pos _))
theorem of_le {p q:Int} (hp:nn p) (hq:nn q) (h:key p <= key q):(eOf p).le (eOf q):=by
  have kp:=key_rg hp.1
  have kq:=key_rg hq.1
  have rp:=nn_rg hp
  have rq:=nn_rg hq
  unfold eOf
  by_cases ip:rg p=9218868437227405312
  . by_cases iq:rg q=9218868437227405312
    . rw [if_pos ip,if_pos iq]
      unfold En.le
      show (if p < 0 then (-1:Int) else 1) < (if q < 0 then (-1:Int) else 1)∨((if p < 0 then (-1:Int) else 1)=(if q < 0 then (-1:Int) else 1)∧(0:Int) <= 0)
      split at kp <;> split at kq <;> simp_all <;> omega
    . rw [if_pos ip,if_neg iq]
      unfold En.le
      show (if p < 0 then (-1:Int) else 1) < 0∨_
      split at kp
      . rw [if_pos (by assumption)]; exact .inl (by decide)
      . exfalso; split at kq <;> omega
  . by_cases iq:rg q=9218868437227405312
    . rw [if_neg ip,if_pos iq]
      unfold En.le
      show 0 < (if q < 0 then (-1:Int) else 1)∨_
      split at kq
      . exfalso; split at kp <;> omega
      . rw [if_neg (by assumption)]; exact .inl (by decide)
    . rw [if_neg ip,if_neg iq]
      exact .inr ⟨rfl,patV_le hp.1 hq.1 (rg_pat0 hp ip) (rg_pat0 hq iq) h⟩
theorem eOf_ok (p:Int):(eOf p).ok:=by
  unfold eOf En.ok
  split
  . show (if p < 0 then (-1:Int) else 1)=0∨_
    split
    . exact .inr ⟨.inr rfl,rfl⟩
    . exact .inr ⟨.inl rfl,rfl⟩
  . exact .inl rfl
def ePlus (a b:En):En:=if a.i ≠ 0 then a else if b.i ≠ 0 then b else ⟨0,a.v + b.v⟩
theorem of_fin {p:Int} (h:¬ rg p=9218868437227405312):eOf p=⟨0,patV p⟩:=if_neg h
theorem of_inf {p:Int} (h:rg p=9218868437227405312):eOf p=⟨if p < 0 then -1 else 1,0⟩:=if_pos h
theorem infs {p:Int} (h:rg p=9218868437227405312):(if p < 0 then (-1:Int) else 1) ≠ 0:=by split <;> decide
theorem plus_e {p q:Int} (hp:nn p) (hq:nn q) (hno:¬ (rg p=9218868437227405312∧rg q=9218868437227405312∧decide (p < 0) ≠ decide (q < 0))) :
    nn (suN p q)∧canon (beLo (suN p q) (suL p q))=eLo (ePlus (eOf p) (eOf q))∧canon (beHi (suN p q) (suL p q))=eHi (ePlus (eOf p) (eOf q)):=by
  have rp:=nn_rg hp
  have rq:=nn_rg hq
  by_cases ip:rg p=9218868437227405312
  . have hE:ePlus (eOf p) (eOf q)=eOf p:=by
      rw [of_inf ip]; unfold ePlus; exact if_pos (infs ip)
    rw [hE]
    by_cases iq:rg q=9218868437227405312
    . have hpq:p=q:=by
        have hd:decide (p < 0)=decide (q < 0):=Classical.byContradiction fun c=>hno ⟨ip,iq,c⟩
        rw [pat_of hp.1,pat_of hq.1,ip,iq,hd]
      subst hpq
      have hh:hiM p p=p:=by unfold hiM; split <;> rfl
      obtain ⟨e1,e2,e3⟩:=su_infEnd hp hp (by rw [hh]; exact ip) hno
      rw [e2,e3,e1,hh]
      exact ⟨hp,(e_of hp).1.symm,(e_of hp).2.symm⟩
    . have hh:hiM p q=p:=by unfold hiM; rw [if_neg (by omega)]
      obtain ⟨e1,e2,e3⟩:=su_infEnd hp hq (by rw [hh]; exact ip) hno
      rw [e2,e3,e1,hh]
      exact ⟨hp,(e_of hp).1.symm,(e_of hp).2.symm⟩
  . by_cases iq:rg q=9218868437227405312
    . have hE:ePlus (eOf p) (eOf q)=eOf q:=by
        rw [of_fin ip,of_inf iq]; unfold ePlus
        rw [if_neg (by simp),if_pos (infs iq)]
      rw [hE]
      have hh:hiM p q=q:=by unfold hiM; rw [if_pos (by omega)]
      obtain ⟨e1,e2,e3⟩:=su_infEnd hp hq (by rw [hh]; exact iq) hno
      rw [e2,e3,e1,hh]
      exact ⟨hq,(e_of hq).1.symm,(e_of hq).2.symm⟩
    . have hE:ePlus (eOf p) (eOf q)=⟨0,patV p + patV q⟩:=by
        rw [of_fin ip,of_fin iq]; unfold ePlus
        rw [if_neg (by simp),if_neg (by simp)]
      rw [hE]
      obtain ⟨a,b,c⟩:=sum_c hp.1 hq.1 (rg_pat0 hp ip) (rg_pat0 hq iq)
      unfold eLo eHi
      simp only [Int.lt_irrefl,if_false]
      exact ⟨a,b,c⟩
def sig (v:Int):Int:=if v < 0 then -1 else if 0 < v then 1 else 0
def eSg (a:En):Int:=if a.i ≠ 0 then a.i else sig a.v
def mulS (x y:Int):Int:=x * y / 2 ^ 4194304
theorem mulS_comm (x y:Int):mulS x y=mulS y x:=by unfold mulS; rw [Int.mul_comm]
theorem mulS_zero (y:Int):mulS 0 y=0:=by unfold mulS; rw [Int.zero_mul]; exact Int.zero_ediv _
theorem div_mono {D x y:Int} (hD:0 < D) (h:x <= y):x / D <= y / D:=Int.ediv_le_ediv hD h
theorem mulS_mono {x y c:Int} (h:x <= y) (hc:0 <= c):mulS x c <= mulS y c:=div_mono (two_pos _) (Int.mul_le_mul_of_nonneg_right h hc)
theorem mulS_anti {x y c:Int} (h:x <= y) (hc:c <= 0):mulS y c <= mulS x c:=div_mono (two_pos _) (Int.mul_le_mul_of_nonpos_right h hc)
def eTimes (a b:En):En:=if eSg a * eSg b=0 then ⟨0,0⟩ else if a.i ≠ 0∨b.i ≠ 0 then ⟨eSg a * eSg b,0⟩ else ⟨0,mulS a.v b.v⟩
theorem sig_zero {v:Int} (h:sig v=0):v=0:=by unfold sig at h; split at h; (· omega); split at h <;> omega
theorem sig_le {v u:Int} (h:v <= u):sig v <= sig u:=by unfold sig; repeat' split; all_goals omega
theorem sig_bd (v:Int):-1 <= sig v∧sig v <= 1∧(0 <= sig v ↔ 0 <= v)∧(sig v <= 0 ↔ v <= 0):=by unfold sig; repeat' split; all_goals omega
theorem eSg_bd {a:En} (h:a.ok):-1 <= eSg a∧eSg a <= 1:=by
  unfold eSg
  have:=sig_bd a.v
  rcases h with h | ⟨h,_⟩
  . rw [if_neg (by omega)]; exact ⟨this.1,this.2.1⟩
  . rw [if_pos (by omega)]; omega
theorem sg_fin {a:En} (h:a.i=0):eSg a=sig a.v:=if_neg (fun k=>k h)
theorem sg_inf {a:En} (h:a.i ≠ 0):eSg a=a.i:=if_pos h
theorem eSg_mono {a b:En} (ha:a.ok) (hb:b.ok) (h:a.le b):eSg a <= eSg b:=by
  have b1:=eSg_bd ha
  have b2:=eSg_bd hb
  unfold En.le at h
  by_cases ia:a.i=0
  . by_cases ib:b.i=0
    . rw [sg_fin ia,sg_fin ib]
      exact sig_le (by omega)
    . have:b.i=1:=by unfold En.ok at hb; omega
      rw [sg_inf ib]; omega
  . by_cases ib:b.i=0
    . have:a.i=-1:=by unfold En.ok at ha; omega
      rw [sg_inf ia]; omega
    . rw [sg_inf ia,sg_inf ib]; omega
theorem times_fin {a b:En} (ha:a.i=0) (hb:b.i=0):eTimes a b=⟨0,mulS a.v b.v⟩:=by
  unfold eTimes
  rw [sg_fin ha,sg_fin hb]
  by_cases h:sig a.v * sig b.v=0
  . rw [if_pos h]
    rcases Int.mul_eq_zero.1 h with k | k
    . rw [sig_zero k,mulS_zero]
    . rw [sig_zero k,mulS_comm,mulS_zero]
  . rw [if_neg h,if_neg (by omega)]
theorem times_infr {a c:En} (hc:c.i ≠ 0):eTimes a c=⟨eSg a * c.i,0⟩:=by
  unfold eTimes
  rw [sg_inf hc]
  by_cases h:eSg a * c.i=0
  . rw [if_pos h,h]
  . rw [if_neg h,if_pos (.inr hc)]
theorem times_comm (a b:En):eTimes a b=eTimes b a:=by
  unfold eTimes
  rw [Int.mul_comm (eSg a),mulS_comm a.v]
  by_cases h:eSg b * eSg a=0
  . rw [if_pos h,if_pos h]
  . rw [if_neg h,if_neg h]
    by_cases k:a.i ≠ 0∨b.i ≠ 0
    . rw [if_pos k,if_pos k.symm]
    . rw [if_neg k,if_neg (fun q=>k q.symm)]
theorem times_infl {a c:En} (ha:a.i ≠ 0):eTimes a c=⟨eSg c * a.i,0⟩:=by rw [times_comm,times_infr ha]
theorem times_zero (a:En):eTimes ⟨0,0⟩ a=⟨0,0⟩:=by
  unfold eTimes
  have:eSg ⟨0,0⟩=0:=rfl
  rw [this,Int.zero_mul,if_pos rfl]
theorem times_ok {a b:En} (ha:a.ok) (hb:b.ok):(eTimes a b).ok:=by
  have b1:=eSg_bd ha
  have b2:=eSg_bd hb
  by_cases ib:b.i=0
  . by_cases ia:a.i=0
    . rw [times_fin ia ib]; exact .inl rfl
    . rw [times_infl ia]
      unfold En.ok at *
      show eSg b * a.i=0∨_ 
      have:a.i=1∨a.i=-1:=by omega
      rcases this with e | e <;> (rw [e]; show eSg b * _=0∨(eSg b * _=1∨eSg b * _=-1)∧(0:Int)=0; simp only [and_true]; omega)
  . rw [times_infr ib]
    unfold En.ok at *
    show eSg a * b.i=0∨_ 
    have:b.i=1∨b.i=-1:=by omega
    rcases this with e | e <;> (rw [e]; show eSg a * _=0∨(eSg a * _=1∨eSg a * _=-1)∧(0:Int)=0; simp only [and_true]; omega)
theorem times_mono {a b c:En} (ha:a.ok) (hb:b.ok) (hc:c.ok) (h:a.le b) (hs:0 <= eSg c):(eTimes a c).le (eTimes b c):=by
  have hm:=eSg_mono ha hb h
  by_cases ic:c.i=0
  . rw [sg_fin ic] at hs
    have hv:=(sig_bd c.v).2.2.1.1 hs
    by_cases ia:a.i=0
    . by_cases ib:b.i=0
      . rw [times_fin ia ic,times_fin ib ic]
        exact .inr ⟨rfl,mulS_mono (by unfold En.le at h; omega) hv⟩
      . have eb:b.i=1:=by unfold En.ok En.le at *; omega
        rw [times_fin ia ic,times_infl ib,eb,sg_fin ic]
        rcases Int.lt_or_eq_of_le hs with q | q
        . exact .inl (by show 0 < sig c.v * 1; omega)
        . exact .inr ⟨by show 0=sig c.v * 1; omega,by show mulS _ _ <= 0; rw [sig_zero q.symm,mulS_comm,mulS_zero]; exact Int.le_refl _⟩
    . by_cases ib:b.i=0
      . have ea:a.i=-1:=by unfold En.ok En.le at *; omega
        rw [times_fin ib ic,times_infl ia,ea,sg_fin ic]
        rcases Int.lt_or_eq_of_le hs with q | q
        . exact .inl (by show sig c.v * -1 < 0; omega)
        . exact .inr ⟨by show sig c.v * -1=0; omega,by show 0 <= mulS _ _; rw [sig_zero q.symm,mulS_comm,mulS_zero]; exact Int.le_refl _⟩
      . rw [times_infl ia,times_infl ib]
        have:a.i <= b.i:=by unfold En.le at h; omega
        have hq:eSg c * a.i <= eSg c * b.i:=Int.mul_le_mul_of_nonneg_left this (by rw [sg_fin ic]; exact hs)
        rcases Int.lt_or_eq_of_le hq with q | q
        . exact .inl q
        . exact .inr ⟨q,Int.le_refl _⟩
  . rw [sg_inf ic] at hs
    rw [times_infr ic,times_infr ic]
    have hq:eSg a * c.i <= eSg b * c.i:=Int.mul_le_mul_of_nonneg_right hm hs
    rcases Int.lt_or_eq_of_le hq with q | q
    . exact .inl q
    . exact .inr ⟨q,Int.le_refl _⟩
theorem times_anti {a b c:En} (ha:a.ok) (hb:b.ok) (hc:c.ok) (h:a.le b) (hs:eSg c <= 0):(eTimes b c).le (eTimes a c):=by
  have hm:=eSg_mono ha hb h
  by_cases ic:c.i=0
  . rw [sg_fin ic] at hs
    have hv:=(sig_bd c.v).2.2.2.1 hs
    by_cases ia:a.i=0
    . by_cases ib:b.i=0
      . rw [times_fin ia ic,times_fin ib ic]
        exact .inr ⟨rfl,mulS_anti (by unfold En.le at h; omega) hv⟩
      . have eb:b.i=1:=by unfold En.ok En.le at *; omega
        rw [times_fin ia ic,times_infl ib,eb,sg_fin ic]
        rcases Int.lt_or_eq_of_le hs with q | q
        . exact .inl (by show sig c.v * 1 < 0; omega)
        . exact .inr ⟨by show sig c.v * 1=0; omega,by show 0 <= mulS _ _; rw [sig_zero q,mulS_comm,mulS_zero]; exact Int.le_refl _⟩
    . by_cases ib:b.i=0
      . have ea:a.i=-1:=by unfold En.ok En.le at *; omega
        rw [times_fin ib ic,times_infl ia,ea,sg_fin ic]
        rcases Int.lt_or_eq_of_le hs with q | q
        . exact .inl (by show 0 < sig c.v * -1; omega)
        . exact .inr ⟨by show 0=sig c.v * -1; omega,by show mulS _ _ <= 0; rw [sig_zero q,mulS_comm,mulS_zero]; exact Int.le_refl _⟩
      . rw [times_infl ia,times_infl ib]
        have:a.i <= b.i:=by unfold En.le at h; omega
        have hq:eSg c * b.i <= eSg c * a.i:=Int.mul_le_mul_of_nonpos_left (by rw [sg_fin ic]; exact hs) this
        rcases Int.lt_or_eq_of_le hq with q | q
        . exact .inl q
        . exact .inr ⟨q,Int.le_refl _⟩
  . rw [sg_inf ic] at hs
    rw [times_infr ic,times_infr ic]
    have hq:eSg b * c.i <= eSg a * c.i:=Int.mul_le_mul_of_nonpos_right hm hs
    rcases Int.lt_or_eq_of_le hq with q | q
    . exact .inl q
    . exact .inr ⟨q,Int.le_refl _⟩
def eMin (a b:En):En:=if b.i < a.i∨(b.i=a.i∧b.v < a.v) then b else a
def eMax (a b:En):En:=if a.i < b.i∨(a.i=b.i∧a.v < b.v) then b else a
theorem eMin_le (a b:En):(eMin a b).le a∧(eMin a b).le b∧(eMin a b=a∨eMin a b=b):=by
  unfold eMin
  split
  . rename_i h
    exact ⟨by unfold En.le; omega,En.le_refl _,.inr rfl⟩
  . rename_i h
    exact ⟨En.le_refl _,by unfold En.le; omega,.inl rfl⟩
theorem eMax_le (a b:En):a.le (eMax a b)∧b.le (eMax a b)∧(eMax a b=a∨eMax a b=b):=by
  unfold eMax
  split
  . rename_i h
    exact ⟨by unfold En.le; omega,En.le_refl _,.inr rfl⟩
  . rename_i h
    exact ⟨En.le_refl _,by unfold En.le; omega,.inl rfl⟩
theorem lo_min {x y:Int} {e f:En} (hx:nn x) (hy:nn y) (kx:key x=key (eLo e)) (ky:key y=key (eLo f)):nn (minP x y)∧key (minP x y)=key (eLo (eMin e f)):=by
  obtain ⟨a,b,c,d⟩:=minP_nn hx hy
  obtain ⟨l1,l2,l3⟩:=eMin_le e f
  have m1:=(e_mono l1).1
  have m2:=(e_mono l2).1
  refine ⟨a,?_⟩
  rcases l3 with q | q <;> (rw [q] at m1 m2 ⊢; omega)
theorem hi_max {x y:Int} {e f:En} (hx:nn x) (hy:nn y) (kx:key x=key (eHi e)) (ky:key y=key (eHi f)):nn (maxP x y)∧key (maxP x y)=key (eHi (eMax e f)):=by
  obtain ⟨a,b,c,d⟩:=maxP_nn hx hy
  obtain ⟨l1,l2,l3⟩:=eMax_le e f
  have m1:=(e_mono l1).2
  have m2:=(e_mono l2).2
  refine ⟨a,?_⟩
  rcases l3 with q | q <;> (rw [q] at m1 m2 ⊢; omega)
theorem times_btw {a b x c:En} (ha:a.ok) (hb:b.ok) (hx:x.ok) (hc:c.ok) (h1:a.le x) (h2:x.le b):(eMin (eTimes a c) (eTimes b c)).le (eTimes x c)∧(eTimes x c).le (eMax (eTimes a c) (eTimes b c)):=by
  obtain ⟨l1,l2,_⟩:=eMin_le (eTimes a c) (eTimes b c)
  obtain ⟨g1,g2,_⟩:=eMax_le (eTimes a c) (eTimes b c)
  rcases Int.le_total 0 (eSg c) with s | s
  . exact ⟨l1.le_trans (times_mono ha hx hc h1 s),(times_mono hx hb hc h2 s).le_trans g2⟩
  . exact ⟨l2.le_trans (times_anti hx hb hc h2 s),(times_anti ha hx hc h1 s).le_trans g1⟩
def eTmLo (a b c d:En):En:=eMin (eMin (eMin (eTimes a c) (eTimes a d)) (eTimes b c)) (eTimes b d)
def eTmHi (a b c d:En):En:=eMax (eMax (eMax (eTimes a c) (eTimes a d)) (eTimes b c)) (eTimes b d)
theorem eTmLo_le (a b c d:En):(eTmLo a b c d).le (eTimes a c)∧(eTmLo a b c d).le (eTimes a d)∧(eTmLo a b c d).le (eTimes b c)∧(eTmLo a b c d).le (eTimes b d):=by
  unfold eTmLo
  have h1:=eMin_le (eTimes a c) (eTimes a d)
  have h2:=eMin_le (eMin (eTimes a c) (eTimes a d)) (eTimes b c)
  have h3:=eMin_le (eMin (eMin (eTimes a c) (eTimes a d)) (eTimes b c)) (eTimes b d)
  exact ⟨h3.1.le_trans (h2.1.le_trans h1.1),h3.1.le_trans (h2.1.le_trans h1.2.1),h3.1.le_trans h2.2.1,h3.2.1⟩
theorem eTmHi_le (a b c d:En):(eTimes a c).le (eTmHi a b c d)∧(eTimes a d).le (eTmHi a b c d)∧(eTimes b c).le (eTmHi a b c d)∧(eTimes b d).le (eTmHi a b c d):=by
  unfold eTmHi
  have h1:=eMax_le (eTimes a c) (eTimes a d)
  have h2:=eMax_le (eMax (eTimes a c) (eTimes a d)) (eTimes b c)
  have h3:=eMax_le (eMax (eMax (eTimes a c) (eTimes a d)) (eTimes b c)) (eTimes b d)
  exact ⟨(h1.1.le_trans h2.1).le_trans h3.1,(h1.2.1.le_trans h2.1).le_trans h3.1,h2.2.1.le_trans h3.1,h3.2.1⟩
theorem min_ge {a b x:En} (h:x.le a) (k:x.le b):x.le (eMin a b):=by rcases (eMin_le a b).2.2 with q | q <;> (rw [q]; assumption)
theorem max_le {a b x:En} (h:a.le x) (k:b.le x):(eMax a b).le x:=by rcases (eMax_le a b).2.2 with q | q <;> (rw [q]; assumption)
theorem tm_btw {a b c d x y:En} (ha:a.ok) (hb:b.ok) (hc:c.ok) (hd:d.ok) (hx:x.ok) (hy:y.ok) (h1:a.le x) (h2:x.le b) (h3:c.le y) (h4:y.le d) :
    (eTmLo a b c d).le (eTimes x y)∧(eTimes x y).le (eTmHi a b c d):=by
  obtain ⟨l1,l2,l3,l4⟩:=eTmLo_le a b c d
  obtain ⟨g1,g2,g3,g4⟩:=eTmHi_le a b c d
  have p:=times_btw hc hd hy hx h3 h4
  rw [times_comm c,times_comm d,times_comm y] at p
  have pc:=times_btw ha hb hx hc h1 h2
  have pd:=times_btw ha hb hx hd h1 h2
  exact ⟨(min_ge ((min_ge l1 l3).le_trans pc.1) ((min_ge l2 l4).le_trans pd.1)).le_trans p.1,p.2.le_trans (max_le (pc.2.le_trans (max_le g1 g3)) (pd.2.le_trans (max_le g2 g4)))⟩
def eSqLo (a b:En):En:=if eSg a <= 0∧0 <= eSg b then ⟨0,0⟩ else eMin (eTimes a a) (eTimes b b)
def eSqHi (a b:En):En:=eMax (eTimes a a) (eTimes b b)
theorem sq_pos {a:En} (h:a.ok):(⟨0,0⟩:En).le (eTimes a a):=by
  rcases Int.le_total 0 (eSg a) with s | s
  . have hz:(⟨0,0⟩:En).le a:=by
      by_cases ia:a.i=0
      . rw [sg_fin ia] at s
        exact .inr ⟨ia.symm,(sig_bd a.v).2.2.1.1 s⟩
      . rw [sg_inf ia] at s
        exact .inl (by show 0 < a.i; omega)
    have:=times_mono (.inl rfl) h h hz s
    rw [times_zero] at this
    exact this
  . have hz:a.le (⟨0,0⟩:En):=by
      by_cases ia:a.i=0
      . rw [sg_fin ia] at s
        exact .inr ⟨ia,(sig_bd a.v).2.2.2.1 s⟩
      . rw [sg_inf ia] at s
        exact .inl (by show a.i < 0; omega)
    have:=times_anti h (.inl rfl) h hz s
    rw [times_zero] at this
    exact this
theorem sq_btw {a b x:En} (ha:a.ok) (hb:b.ok) (hx:x.ok) (h1:a.le x) (h2:x.le b):(eSqLo a b).le (eTimes x x)∧(eTimes x x).le (eSqHi a b):=by
  have m1:=eSg_mono ha hx h1
  have m2:=eSg_mono hx hb h2
  obtain ⟨l1,l2,_⟩:=eMin_le (eTimes a a) (eTimes b b)
  obtain ⟨g1,g2,_⟩:=eMax_le (eTimes a a) (eTimes b b)
  have hi:(eTimes x x).le (eSqHi a b):=by
    unfold eSqHi
    rcases Int.le_total 0 (eSg x) with s | s
    . have p1:=times_mono hx hb hx h2 s
      have p2:=times_mono hx hb hb h2 (by omega)
      rw [times_comm x b] at p2
      exact (p1.le_trans p2).le_trans g2
    . have p1:=times_anti ha hx hx h1 s
      have p2:=times_anti ha hx ha h1 (by omega)
      rw [times_comm x a] at p2
      exact (p1.le_trans p2).le_trans g1
  refine ⟨?_,hi⟩
  unfold eSqLo
  split
  . exact sq_pos hx
  . rename_i hs
    by_cases s:0 < eSg a
    . have p1:=times_mono ha hx ha h1 (by omega)
      have p2:=times_mono ha hx hx h1 (by omega)
      rw [times_comm x a] at p1
      exact l1.le_trans (p1.le_trans p2)
    . have s2:eSg b < 0:=by omega
      have p1:=times_anti hx hb hb h2 (by omega)
      have p2:=times_anti hx hb hx h2 (by omega)
      rw [times_comm x b] at p1
      exact l2.le_trans (p1.le_trans p2)
theorem sg_of {p:Int} (hp:nn p):eSg (eOf p)=if rg p=0 then 0 else if p < 0 then -1 else 1:=by
  by_cases hi:rg p=9218868437227405312
  . have h0:¬ rg p=0:=by omega
    rw [of_inf hi,sg_inf (by exact infs hi),if_neg h0]
  . rw [of_fin hi,sg_fin rfl]
    show sig (patV p)=_
    have hv:=patV_iV hp.1 (rg_pat0 hp hi)
    obtain ⟨k1,k2⟩:=iV_key hp.1
    have hk:=key_rg hp.1
    have hr:=nn_rg hp
    have hpw:=pw_pos (-1074)
    unfold sig
    by_cases h0:rg p=0
    . have hz:iV p=0:=by
        have:key p=0:=by rw [hk,h0]; split <;> rfl
        omega
      rw [if_pos h0,hv,hz,Int.zero_mul]
      simp
    . rw [if_neg h0]
      by_cases hn:p < 0
      . have:iV p < 0:=k1.2 (by rw [hk,if_pos hn]; omega)
        have:patV p < 0:=by rw [hv]; exact Int.mul_neg_of_neg_of_pos this hpw
        rw [if_pos this,if_pos hn]
      . have:0 < iV p:=k2.2 (by rw [hk,if_neg hn]; omega)
        have:0 < patV p:=by rw [hv]; exact Int.mul_pos this hpw
        rw [if_neg (by omega),if_pos this,if_neg hn]
theorem prod_e {p q:Int} (hp:nn p) (hq:nn q):canon (prLo p q)=eLo (eTimes (eOf p) (eOf q))∧canon (prHi p q)=eHi (eTimes (eOf p) (eOf q)):=by
  have sp:=sg_of hp
  have sq:=sg_of hq
  have c0:canon 0=0:=by decide
  have c1:canon 9218868437227405312=9218868437227405312:=by decide
  have c2:canon (-4503599627370496)=-4503599627370496:=by decide
  by_cases h0:rg p=0∨rg q=0
  . have hE:eTimes (eOf p) (eOf q)=⟨0,0⟩:=by
      unfold eTimes
      rw [sp,sq]
      rw [if_pos]
      rcases h0 with h | h
      . rw [if_pos h]; exact Int.zero_mul _
      . rw [if_pos h]; exact Int.mul_zero _
    rw [hE]
    unfold prLo prHi eLo eHi
    rw [if_pos h0,if_pos h0]
    simp only [Int.lt_irrefl,if_false]
    rw [c0]
    exact ⟨c_zero.1.symm,c_zero.2.symm⟩
  . by_cases hi:rg p=9218868437227405312∨rg q=9218868437227405312
    . have hn1:rg p ≠ 0:=fun k=>h0 (.inl k)
      have hn2:rg q ≠ 0:=fun k=>h0 (.inr k)
      rw [if_neg hn1] at sp
      rw [if_neg hn2] at sq
      have hE:eTimes (eOf p) (eOf q)=⟨(if p < 0 then -1 else 1) * (if q < 0 then -1 else 1),0⟩:=by
        unfold eTimes
        rw [sp,sq]
        rw [if_neg (by split <;> split <;> decide),if_pos]
        rcases hi with h | h
        . left; rw [of_inf h]; exact infs h
        . right; rw [of_inf h]; exact infs h
      rw [hE]
      unfold prLo prHi eLo eHi
      rw [if_neg h0,if_pos hi,if_neg h0,if_pos hi]
      unfold xsg patS
      by_cases a:p < 0 <;> by_cases b:q < 0 <;> simp [a,b] <;> decide
    . have ip:¬ rg p=9218868437227405312:=fun k=>hi (.inl k)
      have iq:¬ rg q=9218868437227405312:=fun k=>hi (.inr k)
      obtain ⟨e1,e2⟩:=prod_c hp.1 hq.1 (rg_pat0 hp ip) (rg_pat0 hq iq)
      rw [of_fin ip,of_fin iq,times_fin rfl rfl]
      have hm:mulS (patV p) (patV q)=prV p q:=prV_eq.symm
      unfold eLo eHi
      simp only [Int.lt_irrefl,if_false]
      rw [hm]
      exact ⟨e1,e2⟩
theorem pr_keys {p q:Int} (hp:nn p) (hq:nn q):key (prLo p q)=key (eLo (eTimes (eOf p) (eOf q)))∧key (prHi p q)=key (eHi (eTimes (eOf p) (eOf q))) :=
  ⟨of_lo (prLo_nn hp hq).1 (prod_e hp hq).1,of_hi (prLo_nn hp hq).2 (prod_e hp hq).2⟩
theorem tm_e {a b c d:Int} (ha:nn a) (hb:nn b) (hc:nn c) (hd:nn d):canon (tmLo a b c d)=eLo (eTmLo (eOf a) (eOf b) (eOf c) (eOf d))∧canon (tmHi a b c d)=eHi (eTmHi (eOf a) (eOf b) (eOf c) (eOf d)):=by
  obtain ⟨n1,m1⟩:=prLo_nn ha hc
  obtain ⟨n2,m2⟩:=prLo_nn ha hd
  obtain ⟨n3,m3⟩:=prLo_nn hb hc
  obtain ⟨n4,m4⟩:=prLo_nn hb hd
  obtain ⟨k1,l1⟩:=pr_keys ha hc
  obtain ⟨k2,l2⟩:=pr_keys ha hd
  obtain ⟨k3,l3⟩:=pr_keys hb hc
  obtain ⟨k4,l4⟩:=pr_keys hb hd
  have A1:=lo_min n1 n2 k1 k2
  have A2:=lo_min A1.1 n3 A1.2 k3
  have A3:=lo_min A2.1 n4 A2.2 k4
  have B1:=hi_max m1 m2 l1 l2
  have B2:=hi_max B1.1 m3 B1.2 l3
  have B3:=hi_max B2.1 m4 B2.2 l4
  exact ⟨lo_of A3.1 A3.2,hi_of B3.1 B3.2⟩
def eNeg (a:En):En:=⟨-a.i,-a.v⟩
theorem sg_flip {a b:Bool} (h:a ≠ b) (X:Int):sg a X=- sg b X:=by
  cases a <;> cases b <;> simp [sg] at h ⊢
theorem patV_negP {p:Int} (hp:nn p) (hf:pok p=true) (hn:pok (neg p)=true):patV (neg p)=- patV p:=by
  obtain ⟨g1,g2⟩:=su_neg hp
  rw [patV_dec hp.1 hf,patV_dec (nn_neg hp).1.1 hn,g1]
  exact sg_flip g2 _
theorem neg_mk (x:Int):eNeg ⟨0,x⟩=⟨0,-x⟩:=rfl
theorem of_neg {p:Int} (hp:nn p):eOf (neg p)=eNeg (eOf p):=by
  obtain ⟨hn,hk⟩:=nn_neg hp
  obtain ⟨g1,g2⟩:=su_neg hp
  by_cases hi:rg p=9218868437227405312
  . rw [of_inf hi,of_inf (by rw [g1]; exact hi)]
    unfold eNeg
    have:(neg p < 0) ↔ ¬ p < 0:=by
      by_cases a:neg p < 0 <;> by_cases b:p < 0 <;> simp [a,b] at g2 ⊢
    by_cases b:p < 0
    . rw [if_pos b,if_neg (fun k=>this.1 k b)]; rfl
    . rw [if_neg b,if_pos (this.2 b)]; rfl
  . have hi':¬ rg (neg p)=9218868437227405312:=by rw [g1]; exact hi
    rw [of_fin hi,of_fin hi',neg_mk,patV_negP hp (rg_pat0 hp hi) (rg_pat0 hn hi')]
end Go.Proofs.YtfgapefckpnjjaaGreatDoor
