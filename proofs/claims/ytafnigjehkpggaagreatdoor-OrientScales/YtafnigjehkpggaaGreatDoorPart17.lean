/-
  Parts of the proof, one behind another.
-/
import Derived.Test.YtafnigjehkpggaaGreatDoorPart16
import Derived.Test.YtafnigjehkpggaaGreatDoorPart9
import Derived.Test.YtafnigjehkpggaaGreatDoorPart11
import Derived.Test.YtafnigjehkpggaaGreatDoorPart4
namespace Go.Proofs.YtafnigjehkpggaaGreatDoor
open Go Go.RowKit Go.Proofs.YtafnigjehkpggaaGreatDoor.M
set_option linter.unusedSimpArgs false
set_option linter.unusedVariables false
def ivl (lo hi:Int):Value:=.agg #[.float .f64 (wd lo),.float .f64 (wd hi)]
def spn (lo hi:Int):Value:=.agg #[.int .i64 lo,.int .i64 hi]
set_option maxRecDepth 100000 in
theorem spanReadX (x y:Int) (w:World) :
    Calls Tryz.prog 60 #[spn x y] w fun e w'=>e=.returned (ivl x y)∧w'=((w.alloc (.cells #[.int .i64 x,.int .i64 y] 73)).alloc (.cells #[.float .f64 (wd x),.float .f64 (wd y)] 100)).drew:=by
  unfold spn ivl
  have hx:Hid ((((w.alloc (.cells #[.int .i64 x,.int .i64 y] 73)).alloc (.cells #[.float .f64 0,.float .f64 0] 100)).setCell ⟨w.heap.size + 1,0,none⟩ (.float .f64 (wd x))).setCell ⟨w.heap.size + 1,1,none⟩ (.float .f64 (wd y))=(w.alloc (.cells #[.int .i64 x,.int .i64 y] 73)).alloc (.cells #[.float .f64 (wd x),.float .f64 (wd y)] 100)):=by
    unfold Hid
    rw [World.setCell_alloc_at _ _ _ _ _ (by simp),World.setCell_alloc_at _ _ _ _ _ (by simp)]
    rfl
  have hb2:=bel_alloc2 w (.cells #[.int .i64 x,.int .i64 y] 73) (.cells #[.float .f64 0,.float .f64 0] 100)
  have q0:=heap_a2 w (.cells #[.int .i64 x,.int .i64 y] 73) (.cells #[.float .f64 0,.float .f64 0] 100)
  have q1:=heap_b2 w (.cells #[.int .i64 x,.int .i64 y] 73) (.cells #[.float .f64 0,.float .f64 0] 100)
  have hs:=size2 w (.cells #[.int .i64 x,.int .i64 y] 73) (.cells #[.float .f64 0,.float .f64 0] 100)
  have k0:=blkC q0 0 rfl
  have k1:=blkC q0 1 rfl
  go_enter Tryz.func60,Tryz.ntmps60
  go_wp2_with fail
  generalize hwx:(w.alloc (.cells #[.int .i64 x,.int .i64 y] 73)).alloc (.cells #[.float .f64 0,.float .f64 0] 100)=wx at hb2 q0 q1 hs k0 k1 hx ⊢
  clear hwx
  have hc:w.heap.size < w.heap.size + 1∧w.heap.size + 1 <= wx.drew.heap.size∧wx.drew.cell? ⟨w.heap.size,0,none⟩=some (.int .i64 x)∧wx.drew.cell? ⟨w.heap.size,1,none⟩=some (.int .i64 y):=⟨by omega,by show _ <= wx.heap.size; omega,k0,k1⟩
  have d1:wx.drew.heap[w.heap.size + 1]?=some (.cells #[.float .f64 0,.float .f64 0] 100 (0,0)):=q1
  have d2:((wx.setCell ⟨w.heap.size + 1,0,none⟩ (.float .f64 (wd x))).drew).heap[w.heap.size + 1]?=some (.cells #[.float .f64 (wd x),.float .f64 0] 100 (0,0)):=q_heap_set d1 0 (.float .f64 (wd x))
  have d3:(((wx.setCell ⟨w.heap.size + 1,0,none⟩ (.float .f64 (wd x))).setCell ⟨w.heap.size + 1,1,none⟩ (.float .f64 (wd y))).drew).heap[w.heap.size + 1]?=some (.cells #[.float .f64 (wd x),.float .f64 (wd y)] 100 (0,0)):=q_heap_set d2 1 (.float .f64 (wd y))
  have f0:=blkC d1 0 rfl
  have z0:=blkF d1 0
  have f1:=blkC d2 1 rfl
  have z1:=blkF d2 1
  have s0:(store ⟨w.heap.size + 1,0,none⟩ (.float .f64 (wd x))).run Tryz.prog wx.drew=.ok () ((wx.setCell ⟨w.heap.size + 1,0,none⟩ (.float .f64 (wd x))).drew):=by rw [run_store _ _ _ _ _ rfl,f0]; simp only [z0]; rfl
  have s1:(store ⟨w.heap.size + 1,1,none⟩ (.float .f64 (wd y))).run Tryz.prog ((wx.setCell ⟨w.heap.size + 1,0,none⟩ (.float .f64 (wd x))).drew)=.ok () (((wx.setCell ⟨w.heap.size + 1,0,none⟩ (.float .f64 (wd x))).setCell ⟨w.heap.size + 1,1,none⟩ (.float .f64 (wd y))).drew):=by rw [run_store _ _ _ _ _ rfl,f1]; simp only [z1]; rfl
  go_region_held3 (fun W=>w.heap.size < w.heap.size + 1∧w.heap.size + 1 <= W.heap.size∧W.cell? ⟨w.heap.size,0,none⟩=some (.int .i64 x)∧W.cell? ⟨w.heap.size,1,none⟩=some (.int .i64 y))
    (first | assumption | (repeat (first | exact hc | refine q_two_set (by omega) ?_)))
    ((go_at_call 26; refine (bitsFloat _ _).mono ?_; rintro _ _ ⟨rfl,rfl⟩))
  have e0:=blkC d3 0 rfl
  have e1:=blkC d3 1 rfl
  clear s0 s1 f0 f1 z0 z1 d1 d2 d3
  generalize (wx.setCell ⟨w.heap.size + 1,0,none⟩ (.float .f64 (wd x))).setCell ⟨w.heap.size + 1,1,none⟩ (.float .f64 (wd y))=wy at *
  go_wp2
  refine bodyPost_ret (v:=.agg #[.float .f64 (wd x),.float .f64 (wd y)]) (by simp [results,Tryz.results60,go_sem,e0,e1]) rfl ⟨rfl,by rw [hx.out]⟩
theorem spanRead (x y:Int) (w:World) :
    Calls Tryz.prog 60 #[spn x y] w fun e w'=>e=.returned (ivl x y)∧Below w.heap.size w w' :=
  (spanReadX x y w).mono fun _ _ ⟨h1,h2⟩=>⟨h1,by rw [h2]; exact (bel_alloc2 w _ _).drew⟩
theorem isInf_up {p:Int} (h:nn p) (w:World) :
    Calls Tryz.prog 88 #[.float .f64 (wd p),.int .i64 1] w fun e w'=>e=.returned (.bool (decide (9218868437227405312 <= key p)))∧w'=w:=by
  have r:rng 9218868437227405311:=by unfold rng; omega
  have c:¬ cls 9218868437227405311=4:=by decide
  have k:key 9218868437227405311=9218868437227405311:=by decide
  have e:wd 9218868437227405311=9218868437227405311:=by decide
  rcases Int.lt_trichotomy (key p) 9218868437227405311 with g | g | g
  . have o:=q_lt h.1 r h.2 c (by rw [k]; exact g)
    rw [e] at o
    rw [decide_eq_false (by omega)]
    go_enter Tryz.func88,Tryz.ntmps88
    go_wp2
    go_ret
    exact ⟨rfl,rfl⟩
  . have o:=q_eq h.1 r h.2 c (by rw [k]; exact g)
    rw [e] at o
    rw [decide_eq_false (by omega)]
    go_enter Tryz.func88,Tryz.ntmps88
    go_wp2
    go_ret
    exact ⟨rfl,rfl⟩
  . have o:=q_gt h.1 r h.2 c (by rw [k]; exact g)
    rw [e] at o
    rw [decide_eq_true (by omega)]
    go_enter Tryz.func88,Tryz.ntmps88
    go_wp2
    go_ret
    exact ⟨rfl,rfl⟩
theorem neg_wd {p:Int} (h:nn p):Op.negFloat .f64 (wd p)=wd (neg p):=by
  have hr:=h.1
  unfold Op.negFloat
  show wd p ^^^ 2 ^ 63=_
  unfold neg
  rw [if_neg h.2]
  unfold rng at hr
  by_cases h0:p < 0
  . rw [if_pos h0]
    have e:wd p=2 ^ 63 + wd (p + 9223372036854775808):=by unfold wd; omega
    rw [e,xor_top' 63 _ (by unfold wd; omega)]
  . rw [if_neg h0,Nat.xor_comm,xor_top 63 _ (by unfold wd; omega)]
    unfold wd; omega
theorem run_negF {P:Program} {p:Int} (h:nn p) (w:World):(Op.unary UnOp.neg (.float .f64 (wd p))).run P w=.ok (.float .f64 (wd (neg p))) w:=by
  show (pure (Value.float .f64 (Op.negFloat .f64 (wd p))):Sem Value).run P w=_
  rw [neg_wd h]
  rfl
theorem nn_neg {p:Int} (h:nn p):nn (neg p)∧key (neg p)=- key p:=by
  obtain ⟨a,b⟩:=key_neg h.1 h.2
  exact ⟨⟨rng_neg h.1,b⟩,a⟩
theorem isInf_down {p:Int} (h:nn p) (w:World) :
    Calls Tryz.prog 88 #[.float .f64 (wd p),.int .i64 (-1)] w fun e w'=>e=.returned (.bool (decide (key p <= -9218868437227405312)))∧w'=w:=by
  have r:rng 9218868437227405311:=by unfold rng; omega
  have c:¬ cls 9218868437227405311=4:=by decide
  have k:key 9218868437227405311=9218868437227405311:=by decide
  have e:wd 9218868437227405311=9218868437227405311:=by decide
  have hN:=fun W=>run_negF (P:=Tryz.prog) h W
  obtain ⟨g0,g1⟩:=nn_neg h
  rcases Int.lt_trichotomy (key (neg p)) 9218868437227405311 with g | g | g
  . have o:=q_lt g0.1 r g0.2 c (by rw [k]; exact g)
    rw [e] at o
    rw [decide_eq_false (by omega)]
    clear g1 g
    go_enter Tryz.func88,Tryz.ntmps88
    go_wp2
    go_ret
    exact ⟨rfl,rfl⟩
  . have o:=q_eq g0.1 r g0.2 c (by rw [k]; exact g)
    rw [e] at o
    rw [decide_eq_false (by omega)]
    clear g1 g
    go_enter Tryz.func88,Tryz.ntmps88
    go_wp2
    go_ret
    exact ⟨rfl,rfl⟩
  . have o:=q_gt g0.1 r g0.2 c (by rw [k]; exact g)
    rw [e] at o
    rw [decide_eq_true (by omega)]
    clear g1 g
    go_enter Tryz.func88,Tryz.ntmps88
    go_wp2
    go_ret
    exact ⟨rfl,rfl⟩
set_option maxRecDepth 100000 in
theorem ivlValid {lo hi:Int} (hl:rng lo) (hh:rng hi) (w:World) :
    Calls Tryz.prog 61 #[ivl lo hi] w fun e w'=>e=.returned (.bool (vld lo hi))∧Below w.heap.size w w':=by
  unfold ivl
  by_cases h4:cls lo=4∨cls hi=4
  . have o:=order64_nan hl hh h4
    rw [show vld lo hi=false from decide_eq_false (fun h=>by rcases h4 with g | g; exact h.1 g; exact h.2.1 g)]
    go_enter Tryz.func61,Tryz.ntmps61
    go_wp2
    go_ret
    exact ⟨rfl,bel_alloc _ _⟩
  have h1:¬ cls lo=4:=fun h=>h4 (.inl h)
  have h2:¬ cls hi=4:=fun h=>h4 (.inr h)
  have CU:Hid (∀ W,Calls Tryz.prog 88 #[.float .f64 (wd lo),.int .i64 1] W fun e w'=>e=.returned (.bool (decide (9218868437227405312 <= key lo)))∧w'=W):=fun W=>isInf_up ⟨hl,h1⟩ W
  have CD:Hid (∀ W,Calls Tryz.prog 88 #[.float .f64 (wd hi),.int .i64 (-1)] W fun e w'=>e=.returned (.bool (decide (key hi <= -9218868437227405312)))∧w'=W):=fun W=>isInf_down ⟨hh,h2⟩ W
  have q0:(w.alloc (.cells #[.float .f64 (wd lo),.float .f64 (wd hi)] 100)).heap[w.heap.size]?=some (.cells #[.float .f64 (wd lo),.float .f64 (wd hi)] 100 (0,0)):=by show (w.heap.push _)[w.heap.size]?=_; simp
  have k0:=blkC q0 0 rfl
  have k1:=blkC q0 1 rfl
  have hb:=bel_alloc w (.cells #[.float .f64 (wd lo),.float .f64 (wd hi)] 100)
  by_cases g:key hi < key lo
  . have o:=q_gt hl hh h1 h2 g
    rw [show vld lo hi=false from decide_eq_false (fun h=>by omega)]
    clear CU CD
    go_enter Tryz.func61,Tryz.ntmps61
    go_wp2
    go_ret
    exact ⟨rfl,bel_alloc _ _⟩
  have o:FloatKind.f64.format.order (wd lo) (wd hi)=some .lt∨FloatKind.f64.format.order (wd lo) (wd hi)=some .eq:=by
    by_cases e:key lo=key hi
    . exact .inr (q_eq hl hh h1 h2 e)
    . exact .inl (q_lt hl hh h1 h2 (by omega))
  by_cases a:9218868437227405312 <= key lo
  . rw [show vld lo hi=false from decide_eq_false (fun h=>by omega)]
    rw [decide_eq_true a] at CU
    clear h4 g a CD q0 k0 k1
    rcases o with o | o
    all_goals
      go_enter Tryz.func61,Tryz.ntmps61
      go_wp2_with (go_at_call 88; refine (CU.out _).mono ?_; rintro _ _ ⟨rfl,rfl⟩)
      go_ret
      exact ⟨rfl,hb⟩
  rw [decide_eq_false a] at CU
  by_cases b:key hi <= -9218868437227405312
  . rw [show vld lo hi=false from decide_eq_false (fun h=>by omega)]
    rw [decide_eq_true b] at CD
    clear h4 g a b q0 k0 k1
    rcases o with o | o
    all_goals
      go_enter Tryz.func61,Tryz.ntmps61
      go_wp2_with fail
      refine (CU.out _).mono ?_
      rintro _ _ ⟨rfl,rfl⟩
      go_wp2_with fail
      refine (CD.out _).mono ?_
      rintro _ _ ⟨rfl,rfl⟩
      go_wp2
      go_ret
      exact ⟨rfl,hb⟩
  . rw [show vld lo hi=true from decide_eq_true ⟨h1,h2,by omega,by omega,by omega⟩]
    rw [decide_eq_false b] at CD
    clear h4 g a b q0 k0 k1
    rcases o with o | o
    all_goals
      go_enter Tryz.func61,Tryz.ntmps61
      go_wp2_with fail
      refine (CU.out _).mono ?_
      rintro _ _ ⟨rfl,rfl⟩
      go_wp2_with fail
      refine (CD.out _).mono ?_
      rintro _ _ ⟨rfl,rfl⟩
      go_wp2
      go_ret
      exact ⟨rfl,hb⟩
theorem eq_neg {a b:Int} (ha:nn a) (hb:nn b) (h:key a=key b):(if (FloatKind.f64.decode (wd a)).neg then wd a else wd b)=wd (if a=b then a else -9223372036854775808):=by
  by_cases e:a=b
  . subst e; rw [if_pos rfl]; split <;> rfl
  . rw [if_neg e]
    rcases key_zeros ha.1 hb.1 h e with ⟨rfl,rfl⟩ | ⟨rfl,rfl⟩
    . rfl
    . rfl
theorem eq_pos {a b:Int} (ha:nn a) (hb:nn b) (h:key a=key b):(if (FloatKind.f64.decode (wd a)).neg then wd b else wd a)=wd (if a=b then a else 0):=by
  by_cases e:a=b
  . subst e; rw [if_pos rfl]; split <;> rfl
  . rw [if_neg e]
    rcases key_zeros ha.1 hb.1 h e with ⟨rfl,rfl⟩ | ⟨rfl,rfl⟩
    . rfl
    . rfl
theorem run_minF {P:Program} {a b:Int} (ha:nn a) (hb:nn b) (ts:Array TypeId) (t:TypeId) (w:World):(Builtin.min_ ts t #[.float .f64 (wd a),.float .f64 (wd b)]).run P w=.ok (.float .f64 (wd (minP a b))) w:=by
  have hf:(Builtin.min_ ts t #[.float .f64 (wd a),.float .f64 (wd b)])=(Builtin.min2 (.float .f64 (wd a)) (.float .f64 (wd b))):=by simp [Builtin.min_]
  rw [hf]
  unfold Builtin.min2 minP
  rcases Int.lt_trichotomy (key a) (key b) with h | h | h
  . rw [if_pos h]
    simp only [q_lt ha.1 hb.1 ha.2 hb.2 h]
    rfl
  . rw [if_neg (by omega),if_neg (by omega)]
    simp only [q_eq ha.1 hb.1 ha.2 hb.2 h]
    rw [eq_neg ha hb h]
    rfl
  . rw [if_neg (by omega),if_pos h]
    simp only [q_gt ha.1 hb.1 ha.2 hb.2 h]
    rfl
theorem run_maxF {P:Program} {a b:Int} (ha:nn a) (hb:nn b) (ts:Array TypeId) (t:TypeId) (w:World):(Builtin.max_ ts t #[.float .f64 (wd a),.float .f64 (wd b)]).run P w=.ok (.float .f64 (wd (maxP a b))) w:=by
  have hf:(Builtin.max_ ts t #[.float .f64 (wd a),.float .f64 (wd b)])=(Builtin.max2 (.float .f64 (wd a)) (.float .f64 (wd b))):=by simp [Builtin.max_]
  rw [hf]
  unfold Builtin.max2 maxP
  rcases Int.lt_trichotomy (key a) (key b) with h | h | h
  . rw [if_pos h]
    simp only [q_lt ha.1 hb.1 ha.2 hb.2 h]
    rfl
  . rw [if_neg (by omega),if_neg (by omega)]
    simp only [q_eq ha.1 hb.1 ha.2 hb.2 h]
    rw [eq_pos ha hb h]
    rfl
  . rw [if_neg (by omega),if_pos h]
    simp only [q_gt ha.1 hb.1 ha.2 hb.2 h]
    rfl
theorem s4_set {a b B g o:Nat} {v x0 x1 x2 x3:Value} {W:World} (hg:B <= g) (h:(a < B∧b < B∧B <= W.heap.size)∧W.cell? ⟨a,0,none⟩=some x0∧W.cell? ⟨a,1,none⟩=some x1∧W.cell? ⟨b,0,none⟩=some x2∧W.cell? ⟨b,1,none⟩=some x3) :
    (a < B∧b < B∧B <= (W.setCell ⟨g,o,none⟩ v).heap.size)∧(W.setCell ⟨g,o,none⟩ v).cell? ⟨a,0,none⟩=some x0∧(W.setCell ⟨g,o,none⟩ v).cell? ⟨a,1,none⟩=some x1∧(W.setCell ⟨g,o,none⟩ v).cell? ⟨b,0,none⟩=some x2∧(W.setCell ⟨g,o,none⟩ v).cell? ⟨b,1,none⟩=some x3:=by
  have hw:Wr g W (W.setCell ⟨g,o,none⟩ v):=(Wr.refl g W).setCell o v
  obtain ⟨⟨h1,h2,h3⟩,a0,a1,a2,a3⟩:=h
  exact ⟨⟨h1,h2,Nat.le_trans h3 hw.size⟩,(hw.cell (show a < W.heap.size by omega) (show a ≠ g by omega)).trans a0,(hw.cell (show a < W.heap.size by omega) (show a ≠ g by omega)).trans a1,(hw.cell (show b < W.heap.size by omega) (show b ≠ g by omega)).trans a2,(hw.cell (show b < W.heap.size by omega) (show b ≠ g by omega)).trans a3⟩
theorem heap3 (w:World) (a b c:Obj):(((w.alloc a).alloc b).alloc c).heap[w.heap.size]?=some a∧(((w.alloc a).alloc b).alloc c).heap[w.heap.size + 1]?=some b∧(((w.alloc a).alloc b).alloc c).heap[w.heap.size + 2]?=some c∧(((w.alloc a).alloc b).alloc c).heap.size=w.heap.size + 3∧Below w.heap.size w (((w.alloc a).alloc b).alloc c):=by
  have h:(((w.alloc a).alloc b).alloc c).heap=((w.heap.push a).push b).push c:=rfl
  rw [h]
  refine ⟨?_,?_,?_,by simp,bel_trans (bel_alloc2 w a b) (bel_alloc _ _)⟩
  . simp [Array.getElem?_push]
    omega
  . rw [Array.getElem?_push,if_neg (by simp),Array.getElem?_push,if_pos (by simp)]
  . rw [Array.getElem?_push,if_pos (by simp)]
set_option maxRecDepth 100000 in
theorem ivlJoined {a b c d:Int} (ha:nn a) (hb:nn b) (hc:nn c) (hd:nn d) (w:World) :
    Calls Tryz.prog 84 #[ivl a b,ivl c d] w fun e w'=>e=.returned (ivl (minP a c) (maxP b d))∧Below w.heap.size w w':=by
  unfold ivl
  have RM:=fun ts t W=>run_minF (P:=Tryz.prog) ha hc ts t W
  have RX:=fun ts t W=>run_maxF (P:=Tryz.prog) hb hd ts t W
  generalize wd (minP a c)=X at *
  generalize wd (maxP b d)=Y at *
  generalize wd a=A at *
  generalize wd b=B at *
  generalize wd c=C at *
  generalize wd d=D at *
  obtain ⟨q0,q1,q2,hs,hb3⟩:=heap3 w (.cells #[.float .f64 A,.float .f64 B] 100) (.cells #[.float .f64 C,.float .f64 D] 100) (.cells #[.float .f64 0,.float .f64 0] 100)
  have k0:=blkC q0 0 rfl
  have k1:=blkC q0 1 rfl
  have k2:=blkC q1 0 rfl
  have k3:=blkC q1 1 rfl
  replace q2:(((w.alloc (.cells #[.float .f64 A,.float .f64 B] 100)).alloc (.cells #[.float .f64 C,.float .f64 D] 100)).alloc (.cells #[.float .f64 0,.float .f64 0] 100)).heap[w.heap.size + 1 + 1]?=some (.cells #[.float .f64 0,.float .f64 0] 100 (0,0)):=q2
  go_enter Tryz.func84,Tryz.ntmps84
  go_wp2_with fail
  clear q0 q1 k0 k1 k2 k3 hs RM RX
  generalize ((w.alloc (.cells #[.float .f64 A,.float .f64 B] 100)).alloc (.cells #[.float .f64 C,.float .f64 D] 100)).alloc (.cells #[.float .f64 0,.float .f64 0] 100)=wx at *
  obtain ⟨g,hg⟩:∃ g,w.heap.size + 1 + 1=g:=⟨_,rfl⟩
  have hwg:w.heap.size <= g:=by omega
  rw [hg] at q2
  simp only [hg]
  clear hg
  have d2:=q_heap_set q2 0 (.float .f64 X)
  have d3:=q_heap_set d2 1 (.float .f64 Y)
  have f0:=blkC q2 0 rfl
  have z0:=blkF q2 0
  have f1:=blkC d2 1 rfl
  have z1:=blkF d2 1
  have hbe:=(hb3.setCell (p:=⟨g,0,none⟩) hwg (.float .f64 X)).setCell (p:=⟨g,1,none⟩) hwg (.float .f64 Y)
  have s0:(store ⟨g,0,none⟩ (.float .f64 X)).run Tryz.prog wx=.ok () (wx.setCell ⟨g,0,none⟩ (.float .f64 X)):=by rw [run_store _ _ _ _ _ rfl,f0]; simp only [z0]; rfl
  have s1:(store ⟨g,1,none⟩ (.float .f64 Y)).run Tryz.prog (wx.setCell ⟨g,0,none⟩ (.float .f64 X))=.ok () ((wx.setCell ⟨g,0,none⟩ (.float .f64 X)).setCell ⟨g,1,none⟩ (.float .f64 Y)):=by rw [run_store _ _ _ _ _ rfl,f1]; simp only [z1]; rfl
  have e0:=blkC d3 0 rfl
  have e1:=blkC d3 1 rfl
  clear f0 z0 f1 z1 d2 d3 q2
  simp only [s0,s1,Result.andThen]
  go_wp2
  refine bodyPost_ret (v:=.agg #[.float .f64 X,.float .f64 Y]) (by simp [results,Tryz.results84,go_sem,e0,e1]) rfl ⟨rfl,hbe⟩
theorem isNaN_no {p:Int} (h:nn p) (w:World) :
    Calls Tryz.prog 166 #[.float .f64 (wd p)] w fun e w'=>e=.returned (.bool false)∧w'=w:=by
  have n0:=no64 h.1
  rw [decide_eq_false h.2] at n0
  go_enter Tryz.func166,Tryz.ntmps166
  go_wp2
  go_ret
  exact ⟨rfl,rfl⟩
theorem infUp (w:World) :
    Calls Tryz.prog 149 #[.int .i64 1] w fun e w'=>e=.returned (.float .f64 9218868437227405312)∧w'=w:=by
  have hd:=run_from64
  go_enter Tryz.func149,Tryz.ntmps149
  go_wp2
  go_ret
  exact ⟨rfl,rfl⟩
theorem infDown (w:World) :
    Calls Tryz.prog 149 #[.int .i64 (-1)] w fun e w'=>e=.returned (.float .f64 18442240474082181120)∧w'=w:=by
  have hd:=run_from64
  go_enter Tryz.func149,Tryz.ntmps149
  go_wp2
  go_ret
  exact ⟨rfl,rfl⟩
theorem copyUp (w:World) :
    Calls Tryz.prog 168 #[.float .f64 1,.float .f64 9218868437227405312] w fun e w'=>e=.returned (.float .f64 1)∧w'=w:=by
  have hd:=run_from64
  have hb:=run_bits64
  have e1:bits .andNot .u64 1 9223372036854775808=1:=by decide
  have e2:bits .and .u64 9218868437227405312 9223372036854775808=0:=by decide
  have e3:bits .or .u64 1 0=1:=by decide
  go_enter Tryz.func168,Tryz.ntmps168
  go_wp2
  go_ret
  exact ⟨rfl,rfl⟩
theorem copyDown (w:World) :
    Calls Tryz.prog 168 #[.float .f64 1,.float .f64 18442240474082181120] w fun e w'=>e=.returned (.float .f64 9223372036854775809)∧w'=w:=by
  have hd:=run_from64
  have hb:=run_bits64
  have e1:bits .andNot .u64 1 9223372036854775808=1:=by decide
  have e2:bits .and .u64 18442240474082181120 9223372036854775808=9223372036854775808:=by decide
  have e3:bits .or .u64 1 9223372036854775808=9223372036854775809:=by decide
  go_enter Tryz.func168,Tryz.ntmps168
  go_wp2
  go_ret
  exact ⟨rfl,rfl⟩
set_option maxRecDepth 100000 in
theorem nextUp {p:Int} (h:nn p) (w:World) :
    Calls Tryz.prog 148 #[.float .f64 (wd p),.float .f64 9218868437227405312] w fun e w'=>e=.returned (.float .f64 (wd (next p)))∧w'=w:=by
  have hd:=run_from64
  have hbt:=run_bits64
  have ey:wd 9218868437227405312=9218868437227405312:=by decide
  have ny:nn 9218868437227405312:=⟨by unfold rng; omega,by decide⟩
  have ky:key 9218868437227405312=9218868437227405312:=by decide
  have n0:nn 0:=nn0.1
  have k0:key 0=0:=by decide
  have e0:wd 0=0:=by decide
  have hr:=h.1
  unfold rng at hr
  have CX:Hid (∀ W,Calls Tryz.prog 166 #[.float .f64 (wd p)] W fun e w'=>e=.returned (.bool false)∧w'=W):=fun W=>isNaN_no h W
  have CY:Hid (∀ W,Calls Tryz.prog 166 #[.float .f64 9218868437227405312] W fun e w'=>e=.returned (.bool false)∧w'=W):=fun W=>by rw [<- ey]; exact isNaN_no ny W
  have hw:=q_wdlt p
  by_cases a1:p=9218868437227405312
  . subst a1
    have o1:=q_eq h.1 ny.1 h.2 ny.2 rfl
    rw [ey] at o1 CX ⊢
    clear hr
    go_enter Tryz.func148,Tryz.ntmps148
    go_wp2_with fail
    refine (CX.out _).mono ?_
    rintro _ _ ⟨rfl,rfl⟩
    go_wp2_with fail
    refine (CY.out _).mono ?_
    rintro _ _ ⟨rfl,rfl⟩
    go_wp2
    go_ret
    exact ⟨ret_float (by first | rfl | (rw [next_inf,ey]) | (rw [next_inf]; exact ey.symm)),rfl⟩
  have kp:key p < 9218868437227405312:=by
    have h4:=cls4_not h.2
    unfold key fld frc at *
    split <;> omega
  have o1:=q_lt h.1 ny.1 h.2 ny.2 (by rw [ky]; exact kp)
  have o2:=q_gt ny.1 h.1 ny.2 h.2 (by rw [ky]; exact kp)
  rw [ey] at o1 o2
  rcases Int.lt_trichotomy (key p) 0 with g | g | g
  . have o3:=q_lt h.1 n0.1 h.2 n0.2 (by rw [k0]; exact g)
    rw [e0] at o3
    have hp:p < 0∧p ≠ -9223372036854775808:=by unfold key at g; split at g <;> omega
    have hn:next p=p - 1:=by unfold next; rw [if_neg h.2,if_neg a1,if_neg hp.2,if_pos hp.1]
    have hv:wd (p - 1)=wd p - 1∧1 <= wd p:=by unfold wd; omega
    clear hr
    go_enter Tryz.func148,Tryz.ntmps148
    go_wp2_with fail
    refine (CX.out _).mono ?_
    rintro _ _ ⟨rfl,rfl⟩
    go_wp2_with fail
    refine (CY.out _).mono ?_
    rintro _ _ ⟨rfl,rfl⟩
    go_wp2
    go_ret
    exact ⟨ret_float (by rw [hn,hv.1]),rfl⟩
  . have o3:=q_eq h.1 n0.1 h.2 n0.2 (by rw [k0]; exact g)
    rw [e0] at o3
    have hp:p=0∨p=-9223372036854775808:=by unfold key at g; split at g <;> omega
    have hn:next p=1:=by rcases hp with rfl | rfl <;> decide
    have e1:wd 1=1:=by decide
    clear hr
    go_enter Tryz.func148,Tryz.ntmps148
    go_wp2_with fail
    refine (CX.out _).mono ?_
    rintro _ _ ⟨rfl,rfl⟩
    go_wp2_with fail
    refine (CY.out _).mono ?_
    rintro _ _ ⟨rfl,rfl⟩
    go_wp2_with (go_at_call 168; refine (copyUp _).mono ?_; rintro _ _ ⟨rfl,rfl⟩)
    go_ret
    exact ⟨ret_float (by rw [hn]; exact e1.symm),rfl⟩
  . have o3:=q_gt h.1 n0.1 h.2 n0.2 (by rw [k0]; exact g)
    rw [e0] at o3
    have hp:0 < p:=by unfold key at g; split at g <;> omega
    have hn:next p=p + 1:=by unfold next; rw [if_neg h.2,if_neg a1,if_neg (by omega),if_neg (by omega)]
    have hv:wd (p + 1)=wd p + 1∧wd p < 9223372036854775808:=by unfold wd; unfold key at kp; split at kp <;> omega
    clear hr
    go_enter Tryz.func148,Tryz.ntmps148
    go_wp2_with fail
    refine (CX.out _).mono ?_
    rintro _ _ ⟨rfl,rfl⟩
    go_wp2_with fail
    refine (CY.out _).mono ?_
    rintro _ _ ⟨rfl,rfl⟩
    go_wp2
    go_ret
    exact ⟨ret_float (by rw [hn,hv.1]),rfl⟩
theorem prev_down {p:Int} (h:nn p) (a1:¬ p=-4503599627370496):prev p=if p=0∨p=-9223372036854775808 then -9223372036854775807 else if p < 0 then p + 1 else p - 1:=by
  have hr:=h.1
  have h4:=cls4_not h.2
  unfold rng at hr
  by_cases z:p=0∨p=-9223372036854775808
  . rw [if_pos z]; rcases z with rfl | rfl <;> decide
  rw [if_neg z]
  obtain ⟨n1,k1⟩:=nn_neg h
  have e1:neg p=if p < 0 then p + 9223372036854775808 else p - 9223372036854775808:=by unfold neg; rw [if_neg h.2]
  have i1:¬ neg p=9218868437227405312:=by rw [e1]; split <;> omega
  obtain ⟨_,n2,_,_⟩:=key_next n1.1 n1.2 i1
  have e2:next (neg p)=if neg p < 0 then neg p - 1 else neg p + 1:=by unfold next; rw [if_neg n1.2,if_neg i1,if_neg (by rw [e1]; split <;> omega)]
  unfold prev
  unfold neg
  rw [if_neg (by exact n2)]
  show (if next (neg p) < 0 then next (neg p) + 9223372036854775808 else next (neg p) - 9223372036854775808)=_
  rw [e2,e1]
  unfold fld frc at h4
  repeat' split
  all_goals omega
set_option maxRecDepth 100000 in
theorem nextDown {p:Int} (h:nn p) (w:World) :
    Calls Tryz.prog 148 #[.float .f64 (wd p),.float .f64 18442240474082181120] w fun e w'=>e=.returned (.float .f64 (wd (prev p)))∧w'=w:=by
  have hd:=run_from64
  have hbt:=run_bits64
  have ey:wd (-4503599627370496)=18442240474082181120:=by decide
  have ny:nn (-4503599627370496):=⟨by unfold rng; omega,by decide⟩
  have ky:key (-4503599627370496)=-9218868437227405312:=by decide
  have n0:nn 0:=nn0.1
  have k0:key 0=0:=by decide
  have e0:wd 0=0:=by decide
  have hr:=h.1
  unfold rng at hr
  have CX:Hid (∀ W,Calls Tryz.prog 166 #[.float .f64 (wd p)] W fun e w'=>e=.returned (.bool false)∧w'=W):=fun W=>isNaN_no h W
  have CY:Hid (∀ W,Calls Tryz.prog 166 #[.float .f64 18442240474082181120] W fun e w'=>e=.returned (.bool false)∧w'=W):=fun W=>by rw [<- ey]; exact isNaN_no ny W
  have hw:=q_wdlt p
  by_cases a1:p=-4503599627370496
  . subst a1
    have o1:=q_eq h.1 ny.1 h.2 ny.2 rfl
    rw [ey] at o1 CX ⊢
    clear hr
    go_enter Tryz.func148,Tryz.ntmps148
    go_wp2_with fail
    refine (CX.out _).mono ?_
    rintro _ _ ⟨rfl,rfl⟩
    go_wp2_with fail
    refine (CY.out _).mono ?_
    rintro _ _ ⟨rfl,rfl⟩
    go_wp2
    go_ret
    exact ⟨ret_float (by rw [show prev (-4503599627370496)=-4503599627370496 by decide]; exact ey.symm),rfl⟩
  have kp:-9218868437227405312 < key p:=by
    have h4:=cls4_not h.2
    unfold key fld frc at *
    split <;> omega
  have o1:=q_gt h.1 ny.1 h.2 ny.2 (by rw [ky]; exact kp)
  have o2:=q_lt ny.1 h.1 ny.2 h.2 (by rw [ky]; exact kp)
  rw [ey] at o1 o2
  rcases Int.lt_trichotomy (key p) 0 with g | g | g
  . have o3:=q_lt h.1 n0.1 h.2 n0.2 (by rw [k0]; exact g)
    rw [e0] at o3
    have hp:p < 0∧p ≠ -9223372036854775808:=by unfold key at g; split at g <;> omega
    have hn:prev p=p + 1:=by have:=key_prev h.1 h.2 a1; have hq:=prev_down h a1; rw [hq,if_neg (by omega),if_pos hp.1]
    have hv:wd (p + 1)=wd p + 1∧wd p < 18446744073709551615:=by unfold wd; unfold key at kp; split at kp <;> omega
    clear hr
    go_enter Tryz.func148,Tryz.ntmps148
    go_wp2_with fail
    refine (CX.out _).mono ?_
    rintro _ _ ⟨rfl,rfl⟩
    go_wp2_with fail
    refine (CY.out _).mono ?_
    rintro _ _ ⟨rfl,rfl⟩
    go_wp2
    go_ret
    exact ⟨ret_float (by rw [hn,hv.1]),rfl⟩
  . have o3:=q_eq h.1 n0.1 h.2 n0.2 (by rw [k0]; exact g)
    rw [e0] at o3
    have hp:p=0∨p=-9223372036854775808:=by unfold key at g; split at g <;> omega
    have hn:prev p=-9223372036854775807:=by rcases hp with rfl | rfl <;> decide
    have e1:wd (-9223372036854775807)=9223372036854775809:=by decide
    clear hr
    go_enter Tryz.func148,Tryz.ntmps148
    go_wp2_with fail
    refine (CX.out _).mono ?_
    rintro _ _ ⟨rfl,rfl⟩
    go_wp2_with fail
    refine (CY.out _).mono ?_
    rintro _ _ ⟨rfl,rfl⟩
    go_wp2_with (go_at_call 168; refine (copyDown _).mono ?_; rintro _ _ ⟨rfl,rfl⟩)
    go_ret
    exact ⟨ret_float (by rw [hn]; exact e1.symm),rfl⟩
  . have o3:=q_gt h.1 n0.1 h.2 n0.2 (by rw [k0]; exact g)
    rw [e0] at o3
    have hp:0 < p:=by unfold key at g; split at g <;> omega
    have hn:prev p=p - 1:=by rw [prev_down h a1,if_neg (by omega),if_neg (by omega)]
    have hv:wd (p - 1)=wd p - 1∧1 <= wd p:=by unfold wd; omega
    clear hr
    go_enter Tryz.func148,Tryz.ntmps148
    go_wp2_with fail
    refine (CX.out _).mono ?_
    rintro _ _ ⟨rfl,rfl⟩
    go_wp2_with fail
    refine (CY.out _).mono ?_
    rintro _ _ ⟨rfl,rfl⟩
    go_wp2
    go_ret
    exact ⟨ret_float (by rw [hn,hv.1]),rfl⟩
set_option maxRecDepth 100000 in
theorem besideDown {p:Int} (h:nn p) (l:Nat) (o:FloatKind.f64.format.order l 0=some .lt) (w:World) :
    Calls Tryz.prog 119 #[.float .f64 (wd p),.float .f64 l] w fun e w'=>e=.returned (.agg #[.float .f64 (wd (prev p)),.float .f64 (wd p)])∧w'=w.alloc (.cells #[.float .f64 (wd (prev p)),.float .f64 (wd p)] 100):=by
  have hst:∀ (p:Addr) (n:Nat) (m:Mode) (w:World),(store p (.float .f64 n) m).run Tryz.prog w=stored Tryz.prog w p (.float .f64 n) m:=fun p n m w=>run_store _ w p _ m rfl
  have CI:Hid (∀ W,Calls Tryz.prog 149 #[.int .i64 (-1)] W fun e w'=>e=.returned (.float .f64 18442240474082181120)∧w'=W):=fun W=>infDown W
  have CN:Hid (∀ W,Calls Tryz.prog 148 #[.float .f64 (wd p),.float .f64 18442240474082181120] W fun e w'=>e=.returned (.float .f64 (wd (prev p)))∧w'=W):=fun W=>nextDown h W
  have hg:(w.alloc (.cells #[.float .f64 (wd (prev p)),.float .f64 (wd p)] 100)).heap[w.heap.size]?=some (.cells #[.float .f64 (wd (prev p)),.float .f64 (wd p)] 100 (0,0)):=by show (w.heap.push _)[w.heap.size]?=_; simp
  have e0:=blkC hg 0 rfl
  have e1:=blkC hg 1 rfl
  clear h
  go_enter Tryz.func119,Tryz.ntmps119
  go_wp2_with fail
  refine (CI.out _).mono ?_
  rintro _ _ ⟨rfl,rfl⟩
  go_wp2_with fail
  refine (CN.out _).mono ?_
  rintro _ _ ⟨rfl,rfl⟩
  go_wp2
  refine bodyPost_ret (v:=.agg #[.float .f64 (wd (prev p)),.float .f64 (wd p)]) (by simp [results,Tryz.results119,go_sem,e0,e1]) rfl ⟨rfl,rfl⟩
set_option maxRecDepth 100000 in
theorem besideUp {p:Int} (h:nn p) (l:Nat) (o:FloatKind.f64.format.order l 0=some .gt) (w:World) :
    Calls Tryz.prog 119 #[.float .f64 (wd p),.float .f64 l] w fun e w'=>e=.returned (.agg #[.float .f64 (wd p),.float .f64 (wd (next p))])∧w'=w.alloc (.cells #[.float .f64 (wd p),.float .f64 (wd (next p))] 100):=by
  have hst:∀ (p:Addr) (n:Nat) (m:Mode) (w:World),(store p (.float .f64 n) m).run Tryz.prog w=stored Tryz.prog w p (.float .f64 n) m:=fun p n m w=>run_store _ w p _ m rfl
  have CI:Hid (∀ W,Calls Tryz.prog 149 #[.int .i64 1] W fun e w'=>e=.returned (.float .f64 9218868437227405312)∧w'=W):=fun W=>infUp W
  have CN:Hid (∀ W,Calls Tryz.prog 148 #[.float .f64 (wd p),.float .f64 9218868437227405312] W fun e w'=>e=.returned (.float .f64 (wd (next p)))∧w'=W):=fun W=>nextUp h W
  have hg:(w.alloc (.cells #[.float .f64 (wd p),.float .f64 (wd (next p))] 100)).heap[w.heap.size]?=some (.cells #[.float .f64 (wd p),.float .f64 (wd (next p))] 100 (0,0)):=by show (w.heap.push _)[w.heap.size]?=_; simp
  have e0:=blkC hg 0 rfl
  have e1:=blkC hg 1 rfl
  clear h
  go_enter Tryz.func119,Tryz.ntmps119
  go_wp2_with fail
  refine (CI.out _).mono ?_
  rintro _ _ ⟨rfl,rfl⟩
  go_wp2_with fail
  refine (CN.out _).mono ?_
  rintro _ _ ⟨rfl,rfl⟩
  go_wp2
  refine bodyPost_ret (v:=.agg #[.float .f64 (wd p),.float .f64 (wd (next p))]) (by simp [results,Tryz.results119,go_sem,e0,e1]) rfl ⟨rfl,rfl⟩
set_option maxRecDepth 100000 in
theorem besideSame (p l:Nat) (o:FloatKind.f64.format.order l 0=some .eq∨FloatKind.f64.format.order l 0=none) (w:World) :
    Calls Tryz.prog 119 #[.float .f64 p,.float .f64 l] w fun e w'=>e=.returned (.agg #[.float .f64 p,.float .f64 p])∧w'=w.alloc (.cells #[.float .f64 p,.float .f64 p] 100):=by
  have hst:∀ (p:Addr) (n:Nat) (m:Mode) (w:World),(store p (.float .f64 n) m).run Tryz.prog w=stored Tryz.prog w p (.float .f64 n) m:=fun p n m w=>run_store _ w p _ m rfl
  have hg:(w.alloc (.cells #[.float .f64 p,.float .f64 p] 100)).heap[w.heap.size]?=some (.cells #[.float .f64 p,.float .f64 p] 100 (0,0)):=by show (w.heap.push _)[w.heap.size]?=_; simp
  have e0:=blkC hg 0 rfl
  have e1:=blkC hg 1 rfl
  rcases o with o | o
  all_goals
    go_enter Tryz.func119,Tryz.ntmps119
    go_wp2
    refine bodyPost_ret (v:=.agg #[.float .f64 p,.float .f64 p]) (by simp [results,Tryz.results119,go_sem,e0,e1]) rfl ⟨rfl,rfl⟩
theorem run_sumN {P:Program} (t:TypeId) {p q:Int} {x y:Nat} (hx:FW p x) (hy:FW q y) (h:cls (fsum p q) ≠ 4) (w:World) :
    (binOp .add t (.float .f64 x) (.float .f64 y)).run P w=.ok (.float .f64 (wd (fsum p q))) w:=by
  obtain ⟨z,w',hr,hz⟩:=run_farith (P:=P) .add (.inl rfl) t x y w
  have hf:floatBits .add .f64 x y=Ieee.double.add x y:=rfl
  rw [hf] at hz
  rcases add_FW hx hy with ⟨z',e1,e2⟩ | ⟨e1,e2⟩
  . rcases hz with ⟨h1,h2⟩ | ⟨h1,_⟩
    . rw [e1] at h1; cases h1
      rw [hr,h2,(e2.of h).2.1]
    . rw [e1] at h1; cases h1
  . exact absurd (by rw [e2]; exact nan_canon) h
theorem run_diffN {P:Program} (t:TypeId) {p q:Int} {x y:Nat} (hx:FW p x) (hy:FW q y) (h:cls (fsum p (neg q)) ≠ 4) (w:World) :
    (binOp .sub t (.float .f64 x) (.float .f64 y)).run P w=.ok (.float .f64 (wd (fsum p (neg q)))) w:=by
  obtain ⟨z,w',hr,hz⟩:=run_farith (P:=P) .sub (.inr (.inl rfl)) t x y w
  have hf:floatBits .sub .f64 x y=Ieee.double.sub x y:=rfl
  rw [hf] at hz
  rcases sub_FW hx hy with ⟨z',e1,e2⟩ | ⟨e1,e2⟩
  . rcases hz with ⟨h1,h2⟩ | ⟨h1,_⟩
    . rw [e1] at h1; cases h1
      rw [hr,h2,(e2.of h).2.1]
    . rw [e1] at h1; cases h1
  . exact absurd (by rw [e2]; exact nan_canon) h
theorem fw_order {l:Int} {L:Nat} (h:FW l L):(less l 0=true->FloatKind.f64.format.order L 0=some .lt)∧(less 0 l=true->FloatKind.f64.format.order L 0=some .gt)∧(less l 0=false->less 0 l=false->FloatKind.f64.format.order L 0=some .eq∨FloatKind.f64.format.order L 0=none):=by
  have n0:=nn0.1
  have k0:key 0=0:=by decide
  have e0:wd 0=0:=by decide
  have c0:¬ cls 0=4:=by decide
  by_cases h4:cls l=4
  . have ho:FloatKind.f64.format.order L 0=none:=by
      rcases h with ⟨a,_,_⟩ | ⟨rfl,hN⟩
      . exact absurd h4 a
      . exact order_nan Ieee.double dOk L 0 (.inl (by rw [dInf,dSign]; exact hN.2))
    have l1:less l 0=false:=by unfold less; simp [h4]
    have l2:less 0 l=false:=by unfold less; simp [h4]
    exact ⟨fun h=>by (rw [l1] at h; cases h),fun h=>by (rw [l2] at h; cases h),fun _ _=>.inr ho⟩
  . obtain ⟨hr,rfl,_,_⟩:=h.of h4
    have l1:less l 0=decide (key l < 0):=by unfold less; simp [h4,c0,k0]
    have l2:less 0 l=decide (0 < key l):=by unfold less; simp [h4,c0,k0]
    rw [l1,l2]
    refine ⟨fun g=>?_,fun g=>?_,fun g1 g2=>?_⟩
    . have:=q_lt hr n0.1 h4 n0.2 (by rw [k0]; exact of_decide_eq_true g)
      rwa [e0] at this
    . have:=q_gt hr n0.1 h4 n0.2 (by rw [k0]; exact of_decide_eq_true g)
      rwa [e0] at this
    . have g1':=of_decide_eq_false g1
      have g2':=of_decide_eq_false g2
      have:=q_eq hr n0.1 h4 n0.2 (by rw [k0]; omega)
      rw [e0] at this
      exact .inl this
def beLo (n l:Int):Int:=if less l 0 then prev n else n
def beHi (n l:Int):Int:=if less l 0 then n else if less 0 l then next n else n
theorem beside_any {n l:Int} {L:Nat} (hn:nn n) (hl:FW l L) (w:World) :
    Calls Tryz.prog 119 #[.float .f64 (wd n),.float .f64 L] w fun e w'=>e=.returned (.agg #[.float .f64 (wd (beLo n l)),.float .f64 (wd (beHi n l))])∧Below w.heap.size w w':=by
  obtain ⟨o1,o2,o3⟩:=fw_order hl
  unfold beLo beHi
  cases h1:less l 0
  . cases h2:less 0 l
    . exact (besideSame (wd n) L (o3 h1 h2) w).mono fun _ _ ⟨a,b⟩=>⟨a,by rw [b]; exact bel_alloc _ _⟩
    . exact (besideUp hn L (o2 h2) w).mono fun _ _ ⟨a,b⟩=>⟨a,by rw [b]; exact bel_alloc _ _⟩
  . exact (besideDown hn L (o1 h1) w).mono fun _ _ ⟨a,b⟩=>⟨a,by rw [b]; exact bel_alloc _ _⟩
theorem q_heap_last (w:World) (o:Obj):(w.alloc o).heap[w.heap.size]?=some o:=by
  show (w.heap.push o)[w.heap.size]?=_
  simp
def hiM (p q:Int):Int:=if rg p < rg q then q else p
def loM (p q:Int):Int:=if rg p < rg q then p else q
def suN (p q:Int):Int:=fsum (hiM p q) (loM p q)
def suL (p q:Int):Int:=fsum (loM p q) (neg (fsum (suN p q) (neg (hiM p q))))
set_option maxRecDepth 100000 in
set_option maxHeartbeats 1000000 in
theorem sum_core {p q x y n l:Int} (hp:nn p) (hq:nn q) (hx:nn x) (hy:nn y) (hn:nn n) (en:n=fsum x y) (el:l=fsum y (neg (fsum n (neg x)))) (w:World)
    (hsw:(FloatKind.f64.format.order (wd (rg p)) (wd (rg q))=some .lt∧x=q∧y=p)∨((FloatKind.f64.format.order (wd (rg p)) (wd (rg q))=some .gt∨FloatKind.f64.format.order (wd (rg p)) (wd (rg q))=some .eq)∧x=p∧y=q)) :
    Calls Tryz.prog 122 #[.float .f64 (wd p),.float .f64 (wd q)] w fun e w'=>e=.returned (.agg #[.float .f64 (wd (beLo n l)),.float .f64 (wd (beHi n l))])∧Below w.heap.size w w':=by
  have CP:Hid (∀ W,Calls Tryz.prog 27 #[.float .f64 (wd p)] W fun e w'=>e=.returned (.float .f64 (wd (rg p)))∧w'=W):=fun W=>mathAbs hp.1 W
  have CQ:Hid (∀ W,Calls Tryz.prog 27 #[.float .f64 (wd q)] W fun e w'=>e=.returned (.float .f64 (wd (rg q)))∧w'=W):=fun W=>mathAbs hq.1 W
  have fx:FW x (wd x):=.inl ⟨hx.2,hx.1,rfl⟩
  have fy:FW y (wd y):=.inl ⟨hy.2,hy.1,rfl⟩
  have fn:FW n (wd n):=.inl ⟨hn.2,hn.1,rfl⟩
  have h1:∀ W,(binOp .add 60 (.float .f64 (wd x)) (.float .f64 (wd y))).run Tryz.prog W=.ok (.float .f64 (wd n)) W:=fun W=>by rw [en]; exact run_sumN _ fx fy (by rw [<- en]; exact hn.2) W
  have hg:=q_heap_last w (.cells #[.float .f64 0,.float .f64 0] 100)
  have hba:=bel_alloc w (.cells #[.float .f64 0,.float .f64 0] 100)
  obtain ⟨D,W1,r1,fD,hW1⟩:=run_fdiff (P:=Tryz.prog) 60 fn fx (w.alloc (.cells #[.float .f64 0,.float .f64 0] 100))
  obtain ⟨L,W2,r2,fL,hW2⟩:=run_fdiff (P:=Tryz.prog) 60 fy fD W1
  rw [<- el] at fL
  have b1:Below (w.alloc (.cells #[.float .f64 0,.float .f64 0] 100)).heap.size (w.alloc (.cells #[.float .f64 0,.float .f64 0] 100)) W1:=by
    rcases hW1 with rfl | rfl
    . exact bel_refl _
    . exact (bel_refl _).drew
  have b2:Below W1.heap.size W1 W2:=by
    rcases hW2 with rfl | rfl
    . exact bel_refl _
    . exact (bel_refl _).drew
  have CB:Hid (∀ W,Calls Tryz.prog 119 #[.float .f64 (wd n),.float .f64 L] W fun e w'=>e=.returned (.agg #[.float .f64 (wd (beLo n l)),.float .f64 (wd (beHi n l))])∧Below W.heap.size W w'):=fun W=>beside_any hn fL W
  generalize wd (beLo n l)=U at *
  generalize wd (beHi n l)=V at *
  clear fx fy fn fD fL hW1 hW2 en el hx hy hn hp hq
  have fin:∀ (w3:World),Below W2.heap.size W2 w3->(store ⟨w.heap.size,0,none⟩ (.float .f64 U)).run Tryz.prog w3=.ok () (w3.setCell ⟨w.heap.size,0,none⟩ (.float .f64 U))∧(store ⟨w.heap.size,1,none⟩ (.float .f64 V)).run Tryz.prog (w3.setCell ⟨w.heap.size,0,none⟩ (.float .f64 U))=.ok () ((w3.setCell ⟨w.heap.size,0,none⟩ (.float .f64 U)).setCell ⟨w.heap.size,1,none⟩ (.float .f64 V))∧((w3.setCell ⟨w.heap.size,0,none⟩ (.float .f64 U)).setCell ⟨w.heap.size,1,none⟩ (.float .f64 V)).cell? ⟨w.heap.size,0,none⟩=some (.float .f64 U)∧((w3.setCell ⟨w.heap.size,0,none⟩ (.float .f64 U)).setCell ⟨w.heap.size,1,none⟩ (.float .f64 V)).cell? ⟨w.heap.size,1,none⟩=some (.float .f64 V)∧Below w.heap.size w ((w3.setCell ⟨w.heap.size,0,none⟩ (.float .f64 U)).setCell ⟨w.heap.size,1,none⟩ (.float .f64 V)):=by
    intro w3 hb3
    have hbb:=bel_trans b1 (bel_trans b2 hb3)
    have d2:=(hbb.block _ (Array.getElem?_eq_some_iff.1 hg).1).trans hg
    have d3:=q_heap_set d2 0 (.float .f64 U)
    have d4:=q_heap_set d3 1 (.float .f64 V)
    have f0:=blkC d2 0 rfl
    have z0:=blkF d2 0
    have f1:=blkC d3 1 rfl
    have z1:=blkF d3 1
    refine ⟨?_,?_,blkC d4 0 rfl,blkC d4 1 rfl,?_⟩
    . rw [run_store _ _ _ _ _ rfl,f0]; simp only [z0]; rfl
    . rw [run_store _ _ _ _ _ rfl,f1]; simp only [z1]; rfl
    . exact ((bel_trans hba hbb).setCell (p:=⟨w.heap.size,0,none⟩) (Nat.le_refl _) _).setCell (p:=⟨w.heap.size,1,none⟩) (Nat.le_refl _) _
  have FIN:=hideIt fin
  clear fin b1 b2 hba hg
  rcases hsw with ⟨o,rfl,rfl⟩ | ⟨o | o,rfl,rfl⟩
  all_goals
    go_enter Tryz.func122,Tryz.ntmps122
    go_wp2_with fail
    refine (CP.out _).mono ?_
    rintro _ _ ⟨rfl,rfl⟩
    go_wp2_with fail
    refine (CQ.out _).mono ?_
    rintro _ _ ⟨rfl,rfl⟩
    go_wp2_with fail
    refine (CB.out _).mono ?_
    rintro _ w3 ⟨rfl,hb3⟩
    obtain ⟨s0,s1,e0,e1,hbe⟩:=FIN.out w3 hb3
    go_wp2
    refine bodyPost_ret (v:=.agg #[.float .f64 U,.float .f64 V]) (by simp [results,Tryz.results122,go_sem,e0,e1]) rfl ⟨rfl,hbe⟩
theorem spanSum {p q:Int} (hp:nn p) (hq:nn q) (hn:nn (suN p q)) (w:World) :
    Calls Tryz.prog 122 #[.float .f64 (wd p),.float .f64 (wd q)] w fun e w'=>e=.returned (ivl (beLo (suN p q) (suL p q)) (beHi (suN p q) (suL p q)))∧Below w.heap.size w w':=by
  obtain ⟨a1,a2⟩:=q_rg hp.1
  obtain ⟨b1,b2⟩:=q_rg hq.1
  have ca:¬ cls (rg p)=4:=by rw [q_cls hp.1]; exact hp.2
  have cb:¬ cls (rg q)=4:=by rw [q_cls hq.1]; exact hq.2
  have ka:=q_key a2
  have kb:=q_key b2
  by_cases h:rg p < rg q
  . have ex:hiM p q=q:=if_pos h
    have ey:loM p q=p:=if_pos h
    refine sum_core hp hq hq hp hn (by unfold suN; rw [ex,ey]) (by unfold suL; rw [ex,ey]) w (.inl ⟨q_lt a1 b1 ca cb (by rw [ka,kb]; exact h),rfl,rfl⟩)
  . have ex:hiM p q=p:=if_neg h
    have ey:loM p q=q:=if_neg h
    refine sum_core hp hq hp hq hn (by unfold suN; rw [ex,ey]) (by unfold suL; rw [ex,ey]) w (.inr ⟨?_,rfl,rfl⟩)
    by_cases e:rg p=rg q
    . exact .inr (q_eq a1 b1 ca cb (by rw [ka,kb]; exact e))
    . exact .inl (q_gt a1 b1 ca cb (by rw [ka,kb]; omega))
theorem rg_iV {p q:Int} (h:rg p <= rg q) (hp:0 <= rg p):(iV p).natAbs <= (iV q).natAbs:=by
  have a:=iV_abs p
  have b:=iV_abs q
  have c:=V_le (show (rg p).toNat <= (rg q).toNat by omega)
  omega
theorem su_exact {p q:Int} (hp:rng p) (hq:rng q) (pp:pok p=true) (pq:pok q=true) (hf:pok (suN p q)=true):pok (suL p q)=true∧iV (suN p q) + iV (suL p q)=iV p + iV q:=by
  by_cases h:rg p < rg q
  . have ex:hiM p q=q:=if_pos h
    have ey:loM p q=p:=if_pos h
    unfold suL suN at *
    rw [ex,ey] at hf ⊢
    obtain ⟨a,b⟩:=fL_fin hq hp pq pp hf (rg_iV (by omega) (q_rg hp).2)
    exact ⟨a,by unfold fL at b; omega⟩
  . have ex:hiM p q=p:=if_neg h
    have ey:loM p q=q:=if_neg h
    unfold suL suN at *
    rw [ex,ey] at hf ⊢
    obtain ⟨a,b⟩:=fL_fin hp hq pp pq hf (rg_iV (by omega) (q_rg hq).2)
    exact ⟨a,by unfold fL at b; omega⟩
theorem V_zero_iff {r:Nat}:(V Ieee.double r:Int)=0 ↔ r=0:=by
  constructor
  . intro h
    by_cases h0:r=0
    . exact h0
    . have:=V_lt Ieee.double (show 0 < r by omega)
      rw [V_zero] at this
      omega
  . rintro rfl
    rw [V_zero]
    rfl
theorem iV_key {p:Int} (hp:rng p):(iV p < 0 ↔ key p < 0)∧(0 < iV p ↔ 0 < key p):=by
  have hz:=@V_zero_iff (rg p).toNat
  have hr:=q_rg hp
  unfold rng at hp
  have hv:(0:Int) <= (V Ieee.double (rg p).toNat:Int):=by omega
  by_cases h:p < 0
  . have e1:iV p=-(V Ieee.double (rg p).toNat:Int):=by unfold iV sg; simp [h]
    have e2:key p=-(rg p):=by unfold key rg; rw [if_pos h,if_pos h]
    rw [e1,e2]
    constructor <;> constructor <;> intro g <;> omega
  . have e1:iV p=(V Ieee.double (rg p).toNat:Int):=by unfold iV sg; simp [h]
    have e2:key p=rg p:=by unfold key rg; rw [if_neg h,if_neg h]
    rw [e1,e2]
    constructor <;> constructor <;> intro g <;> omega
theorem iV_mono {p q:Int} (hp:rng p) (hq:rng q) (h:key p < key q):iV p < iV q:=by
  have rp:=q_rg hp
  have rq:=q_rg hq
  have ep:iV p=if p < 0 then -(V Ieee.double (rg p).toNat:Int) else (V Ieee.double (rg p).toNat:Int):=by unfold iV sg; by_cases g:p < 0 <;> simp [g]
  have eq':iV q=if q < 0 then -(V Ieee.double (rg q).toNat:Int) else (V Ieee.double (rg q).toNat:Int):=by unfold iV sg; by_cases g:q < 0 <;> simp [g]
  have kp:key p=if p < 0 then -(rg p) else rg p:=by unfold key rg; by_cases g:p < 0 <;> simp [g]
  have kq:key q=if q < 0 then -(rg q) else rg q:=by unfold key rg; by_cases g:q < 0 <;> simp [g]
  have zp:=@V_zero_iff (rg p).toNat
  have zq:=@V_zero_iff (rg q).toNat
  have m1:rg p < rg q->(V Ieee.double (rg p).toNat:Int) < V Ieee.double (rg q).toNat:=fun g=>by
    have:=V_lt Ieee.double (show (rg p).toNat < (rg q).toNat by omega)
    omega
  have m2:rg q < rg p->(V Ieee.double (rg q).toNat:Int) < V Ieee.double (rg p).toNat:=fun g=>by
    have:=V_lt Ieee.double (show (rg q).toNat < (rg p).toNat by omega)
    omega
  rw [kp,kq] at h
  rw [ep,eq']
  have hA0:(0:Int) <= (V Ieee.double (rg p).toNat:Int):=by omega
  have hB0:(0:Int) <= (V Ieee.double (rg q).toNat:Int):=by omega
  clear ep eq' kp kq
  generalize (V Ieee.double (rg p).toNat:Int)=A at *
  generalize (V Ieee.double (rg q).toNat:Int)=B at *
  by_cases a:p < 0 <;> by_cases b:q < 0 <;> simp only [a,b,if_true,if_false] at h ⊢ <;> omega
theorem nr_prev {n S:Int} (hn:nn n) (hi:¬ n=-4503599627370496) (hp:rng (prev n)) (h:Nr S (iV n)) (g:S < iV n):iV (prev n) <= S:=by
  obtain ⟨k1,_⟩:=key_prev hn.1 hn.2 hi
  have m:=iV_mono hp hn.1 (by omega)
  have:=h.2 (iV (prev n)) (fl_iV _)
  omega
theorem nr_next {n S:Int} (hn:nn n) (hi:¬ n=9218868437227405312) (hp:rng (next n)) (h:Nr S (iV n)) (g:iV n < S):S <= iV (next n):=by
  obtain ⟨k1,_,_,_⟩:=key_next hn.1 hn.2 hi
  have m:=iV_mono hn.1 hp (by omega)
  have:=h.2 (iV (next n)) (fl_iV _)
  omega
theorem rng_prev' {p:Int} (h:rng p):rng (prev p):=by unfold prev; exact rng_neg (rng_next (rng_neg h))
theorem su_btw {p q:Int} (hp:rng p) (hq:rng q) (pp:pok p=true) (pq:pok q=true) (hf:pok (suN p q)=true) (hn:nn (suN p q)) :
    iV (beLo (suN p q) (suL p q)) <= iV p + iV q∧iV p + iV q <= iV (beHi (suN p q) (suL p q))∧((iV (suN p q)=iV p + iV q∧beLo (suN p q) (suL p q)=suN p q∧beHi (suN p q) (suL p q)=suN p q)∨(iV p + iV q < iV (suN p q)∧beLo (suN p q) (suL p q)=prev (suN p q)∧beHi (suN p q) (suL p q)=suN p q)∨(iV (suN p q) < iV p + iV q∧beLo (suN p q) (suL p q)=suN p q∧beHi (suN p q) (suL p q)=next (suN p q))):=by
  obtain ⟨pl,he⟩:=su_exact hp hq pp pq hf
  have hNr:Nr (iV p + iV q) (iV (suN p q)):=by
    by_cases h:rg p < rg q
    . have ex:hiM p q=q:=if_pos h
      have ey:loM p q=p:=if_pos h
      unfold suN at hf ⊢
      rw [ex,ey] at hf ⊢
      have:=(stp_sum hq hp pq pp).nr hf
      rwa [Int.add_comm] at this
    . have ex:hiM p q=p:=if_neg h
      have ey:loM p q=q:=if_neg h
      unfold suN at hf ⊢
      rw [ex,ey] at hf ⊢
      exact (stp_sum hp hq pp pq).nr hf
  have i1:¬ suN p q=-4503599627370496:=fun e=>by rw [e] at hf; revert hf; decide
  have i2:¬ suN p q=9218868437227405312:=fun e=>by rw [e] at hf; revert hf; decide
  have rl:rng (suL p q):=by
    unfold suL
    have a1:rng (hiM p q):=by unfold hiM; split <;> assumption
    have a2:rng (loM p q):=by unfold loM; split <;> assumption
    exact fsum_rng a2 (rng_neg (fsum_rng hn.1 (rng_neg a1)))
  obtain ⟨kl1,kl2⟩:=iV_key rl
  have c0:¬ cls 0=4:=by decide
  have k0:key 0=0:=by decide
  have cl:=q_fin pl
  have l1:less (suL p q) 0=decide (key (suL p q) < 0):=by unfold less; simp [cl,c0,k0]
  have l2:less 0 (suL p q)=decide (0 < key (suL p q)):=by unfold less; simp [cl,c0,k0]
  unfold beLo beHi
  rw [l1,l2]
  generalize suN p q=n at *
  generalize suL p q=l at *
  by_cases a:key l < 0
  . have al:iV l < 0:=kl1.2 a
    simp only [a,decide_true,if_true]
    exact ⟨nr_prev hn i1 (rng_prev' hn.1) hNr (by omega),by omega,.inr (.inl ⟨by omega,by trivial,by trivial⟩)⟩
  . by_cases b:0 < key l
    . have bl:0 < iV l:=kl2.2 b
      simp only [a,b,decide_true,decide_false,if_true,if_false,Bool.false_eq_true]
      exact ⟨by omega,nr_next hn i2 (rng_next hn.1) hNr (by omega),.inr (.inr ⟨by omega,by trivial,by trivial⟩)⟩
    . have z1:¬ iV l < 0:=fun h=>a (kl1.1 h)
      have z2:¬ 0 < iV l:=fun h=>b (kl2.1 h)
      simp only [a,b,decide_false,if_false,Bool.false_eq_true]
      exact ⟨by omega,by omega,.inl ⟨by omega,by trivial,by trivial⟩⟩
structure Pts (w:World) (ao:Option Addr) (n cap:Nat) (px py:Nat->Int):Prop where
  le:n <= cap
  max:cap <= 9223372036854775807
  spot:0 < n->∃ b off,ao=some ⟨b,off,none⟩∧b < w.heap.size∧∀ i,i < n->w.cell? ⟨b,off + i * 2,none⟩=some (.int .i64 (px i))∧w.cell? ⟨b,off + i * 2 + 1,none⟩=some (.int .i64 (py i))
theorem Pts.keeps {w w':World} {ao:Option Addr} {n cap:Nat} {px py:Nat->Int} (h:Pts w ao n cap px py) (hb:Below w.heap.size w w'):Pts w' ao n cap px py :=
  ⟨h.le,h.max,fun hn=>by
    obtain ⟨b,off,rfl,hlt,hc⟩:=h.spot hn
    exact ⟨b,off,rfl,Nat.lt_of_lt_of_le hlt hb.size,fun i hi=>⟨(hb.cell (p:=⟨b,off + i * 2,none⟩) hlt).trans (hc i hi).1,(hb.cell (p:=⟨b,off + i * 2 + 1,none⟩) hlt).trans (hc i hi).2⟩⟩⟩
def l2 (a b:Int) (i:Nat):Int:=if i=0 then a else b
def l3 (a b c:Int) (i:Nat):Int:=if i=0 then a else if i=1 then b else c
def l4 (a b c d:Int) (i:Nat):Int:=if i=0 then a else if i=1 then b else if i=2 then c else d
def pttame (x y:Int):Bool:=tame x && tame y
end Go.Proofs.YtafnigjehkpggaaGreatDoor
namespace Go.Proofs.YtafnigjehkpggaaGreatDoor
open Go Go.RowKit Go.Proofs.YtafnigjehkpggaaGreatDoor.M Ieee
set_option linter.unusedSimpArgs false
set_option linter.unusedVariables false
theorem log2_fin {b:Int} {m u:Nat} (hb:rng b) (hp:pok b=true) (h:Ieee.double.read (wd b)=.number (decide (b < 0)) m (-1074 + (u:Int))):m < 9007199254740992∧u <= 2046:=by
  obtain ⟨h0,h1⟩:=rg_lt hb hp
  have hw:((wd b % 9223372036854775808:Nat):Int)=rg b:=wd_rung hb
  unfold Format.read at h
  rw [dSign,dBin,dInf,dLeast] at h
  dsimp only at h
  split at h
  . rename_i h2
    simp only [Datum.number.injEq] at h
    obtain ⟨_,h3,h4⟩:=h
    exact ⟨by omega,by omega⟩
  . rw [if_pos (by omega)] at h
    have hm:=Nat.mod_lt (wd b % 9223372036854775808) (show 0 < 4503599627370496 by decide)
    have hd:wd b % 9223372036854775808 / 4503599627370496 <= 2047:=by omega
    simp only [Datum.number.injEq] at h
    obtain ⟨_,h3,h4⟩:=h
    exact ⟨by omega,by omega⟩
theorem nearest_nearP {S t base:Int} (hb:-4194304 <= base) (hS:t * pw base=S) (h0:S ≠ 0):Ieee.double.nearest (decide (t < 0)) t.natAbs base=wd (nearP S):=by
  obtain ⟨A,r0,left,a1,a2,a3⟩:=write_near hb hS h0
  obtain ⟨B,s0,k,b1,b2,b3⟩:=nearP_rung h0
  have hAB:=sg_inj (a1.symm.trans b1)
  subst hAB
  obtain ⟨h2,h3⟩:=a2.unique b2
  subst h2 h3
  rw [a3,b3]
def fmaS (p q r:Int):Int:=sg (xsg p q) (fsize p q) + patV r
theorem ffma_fin {p q r:Int} (hp:rng p) (hq:rng q) (hr:rng r) (pp:pok p=true) (pq:pok q=true) (pr:pok r=true) :
    Ieee.double.fma (wd p) (wd q) (wd r)=some (wd (if fmaS p q r=0 then patS (xsg p q && decide (r < 0)) 0 else nearP (fmaS p q r))):=by
  obtain ⟨m,u,h1,v1⟩:=read_wd hp pp
  obtain ⟨n,v,h2,v2⟩:=read_wd hq pq
  obtain ⟨l,x,h3,v3⟩:=read_wd hr pr
  obtain ⟨i,hi⟩:∃ i:Int,-1074 + (u:Int) + (-1074 + (v:Int))=i:=⟨_,rfl⟩
  obtain ⟨j,hj⟩:∃ j:Int,-1074 + (x:Int)=j:=⟨_,rfl⟩
  have hpm:=pw_mul (a:=-1074 + (u:Int)) (b:=-1074 + (v:Int)) (by omega) (by omega)
  have hC:=fmul_core (g:=decide (p < 0)) (h:=decide (q < 0)) (x:=(m:Int)) (y:=(n:Int)) hpm
  rw [<- v1,<- v2,hi] at hC
  have hcast:((m * n:Nat):Int)=(m:Int) * (n:Int):=by push_cast; rfl
  have hf:fsize p q=((m * n:Nat):Int) * pw i:=by rw [hcast]; exact fsize_of (two_pos 4194304) hC
  obtain ⟨base,hbase⟩:∃ base,min i j=base:=⟨_,rfl⟩
  have hB:-4194304 <= base:=by omega
  obtain ⟨t,ht⟩:∃ t,signed (xsg p q) (m * n) (i - base).toNat + signed (decide (r < 0)) l (j - base).toNat=t:=⟨_,rfl⟩
  have hfma:Ieee.double.fma (wd p) (wd q) (wd r)=some (Ieee.double.nearest (if t=0 then xsg p q && decide (r < 0) else decide (t < 0)) t.natAbs base):=by
    unfold Format.fma
    rw [h1,h2,h3]
    unfold Datum.product
    dsimp only
    rw [hi,hj,xor_ne]
    show Option.map Ieee.double.write (Datum.sum (.number (xsg p q) (m * n) i) (.number (decide (r < 0)) l j))=_
    unfold Datum.sum
    dsimp only
    rw [hbase,ht]
    rfl
  have s1:=signed_pw (xsg p q) (m * n) (i - base).toNat (i:=i) (base:=base) (by omega) hB
  have s2:=signed_pw (decide (r < 0)) l (j - base).toNat (i:=j) (base:=base) (by omega) hB
  rw [hj] at v3
  rw [<- hf] at s1
  rw [<- v3] at s2
  have hS:t * pw base=fmaS p q r:=by
    unfold fmaS
    rw [<- ht,Int.add_mul,s1,s2]
  rw [hfma]
  by_cases h:fmaS p q r=0
  . have ht0:t=0:=(eq_zero_iff (pw_pos base)).2 (hS.trans h)
    rw [if_pos h,ht0,if_pos rfl]
    unfold Format.nearest
    rw [if_pos (show Int.natAbs 0=0 from rfl)]
    have:=wd_word (ng:=xsg p q && decide (r < 0)) (r:=0) (by decide) (by decide)
    rw [<- this]
    rfl
  . have ht0:t ≠ 0:=fun e=>h (by rw [<- hS,e,Int.zero_mul])
    rw [if_neg h,if_neg ht0,nearest_nearP hB hS h]
end Go.Proofs.YtafnigjehkpggaaGreatDoor
