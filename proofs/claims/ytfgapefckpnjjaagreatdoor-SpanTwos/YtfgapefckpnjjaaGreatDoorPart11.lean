/- Parts of the proof. -/
import Derived.Test.YtfgapefckpnjjaaGreatDoorPart10
import Derived.Test.YtfgapefckpnjjaaGreatDoorPart9
import Derived.Test.YtfgapefckpnjjaaGreatDoorPart2
import Derived.Test.YtfgapefckpnjjaaGreatDoorPart8
set_option linter.unusedVariables false
set_option linter.unusedSimpArgs false
namespace Go.Proofs.YtfgapefckpnjjaaGreatDoor
open Go Go.RowKit Go.Proofs.YtfgapefckpnjjaaGreatDoor.M
theorem eq_neg {a b:Int} (ha:nn a) (hb:nn b) (h:key a=key b):(if (FloatKind.f64.decode (wd a)).neg then wd a else wd b)=wd (if a=b then a else -9223372036854775808):=by
  by_cases e:a=b
  . subst e; rw [if_pos rfl]; split <;> rfl
  . rw [if_neg e]
    rcases key_zeros ha.1 hb.1 h e with ⟨rfl,rfl⟩ | ⟨rfl,rfl⟩
    . rfl
    . rfl
theorem eq_pos {a b:Int} (ha:nn a) (hb:nn b) (h:key a=key b):(if (FloatKind.f64.decode (wd a)).neg then wd b else wd a)=wd (if a=b then a else 0):=by
  by_cases e:a=b
  . subst e; rw [if_pos rfl]; split <;> rfl
  . rw [if_neg e]
    rcases key_zeros ha.1 hb.1 h e with ⟨rfl,rfl⟩ | ⟨rfl,rfl⟩
    . rfl
    . rfl
theorem run_minF {P:Program} {a b:Int} (ha:nn a) (hb:nn b) (ts:Array TypeId) (t:TypeId) (w:World):(Builtin.min_ ts t #[.float .f64 (wd a),.float .f64 (wd b)]).run P w=.ok (.float .f64 (wd (minP a b))) w:=by
  have hf:(Builtin.min_ ts t #[.float .f64 (wd a),.float .f64 (wd b)])=(Builtin.min2 (.float .f64 (wd a)) (.float .f64 (wd b))):=by simp [Builtin.min_]
  rw [hf]
  unfold Builtin.min2 minP
  rcases Int.lt_trichotomy (key a) (key b) with h | h | h
  . rw [if_pos h]
    simp only [q_lt ha.1 hb.1 ha.2 hb.2 h]
    rfl
  . rw [if_neg (by omega),if_neg (by omega)]
    simp only [q_eq ha.1 hb.1 ha.2 hb.2 h]
    rw [eq_neg ha hb h]
    rfl
  . rw [if_neg (by omega),if_pos h]
    simp only [q_gt ha.1 hb.1 ha.2 hb.2 h]
    rfl
theorem run_maxF {P:Program} {a b:Int} (ha:nn a) (hb:nn b) (ts:Array TypeId) (t:TypeId) (w:World):(Builtin.max_ ts t #[.float .f64 (wd a),.float .f64 (wd b)]).run P w=.ok (.float .f64 (wd (maxP a b))) w:=by
  have hf:(Builtin.max_ ts t #[.float .f64 (wd a),.float .f64 (wd b)])=(Builtin.max2 (.float .f64 (wd a)) (.float .f64 (wd b))):=by simp [Builtin.max_]
  rw [hf]
  unfold Builtin.max2 maxP
  rcases Int.lt_trichotomy (key a) (key b) with h | h | h
  . rw [if_pos h]
    simp only [q_lt ha.1 hb.1 ha.2 hb.2 h]
    rfl
  . rw [if_neg (by omega),if_neg (by omega)]
    simp only [q_eq ha.1 hb.1 ha.2 hb.2 h]
    rw [eq_pos ha hb h]
    rfl
  . rw [if_neg (by omega),if_pos h]
    simp only [q_gt ha.1 hb.1 ha.2 hb.2 h]
    rfl
theorem s4_set {a b B g o:Nat} {v x0 x1 x2 x3:Value} {W:World} (hg:B <= g) (h:(a < B∧b < B∧B <= W.heap.size)∧W.cell? ⟨a,0,none⟩=some x0∧W.cell? ⟨a,1,none⟩=some x1∧W.cell? ⟨b,0,none⟩=some x2∧W.cell? ⟨b,1,none⟩=some x3) :
    (a < B∧b < B∧B <= (W.setCell ⟨g,o,none⟩ v).heap.size)∧(W.setCell ⟨g,o,none⟩ v).cell? ⟨a,0,none⟩=some x0∧(W.setCell ⟨g,o,none⟩ v).cell? ⟨a,1,none⟩=some x1∧(W.setCell ⟨g,o,none⟩ v).cell? ⟨b,0,none⟩=some x2∧(W.setCell ⟨g,o,none⟩ v).cell? ⟨b,1,none⟩=some x3:=by
  have hw:Wr g W (W.setCell ⟨g,o,none⟩ v):=(Wr.refl g W).setCell o v
  obtain ⟨⟨h1,h2,h3⟩,a0,a1,a2,a3⟩:=h
  exact ⟨⟨h1,h2,Nat.le_trans h3 hw.size⟩,(hw.cell (show a < W.heap.size by omega) (show a ≠ g by omega)).trans a0,(hw.cell (show a < W.heap.size by omega) (show a ≠ g by omega)).trans a1,(hw.cell (show b < W.heap.size by omega) (show b ≠ g by omega)).trans a2,(hw.cell (show b < W.heap.size by omega) (show b ≠ g by omega)).trans a3⟩
theorem heap3 (w:World) (a b c:Obj):(((w.alloc a).alloc b).alloc c).heap[w.heap.size]?=some a∧(((w.alloc a).alloc b).alloc c).heap[w.heap.size + 1]?=some b∧(((w.alloc a).alloc b).alloc c).heap[w.heap.size + 2]?=some c∧(((w.alloc a).alloc b).alloc c).heap.size=w.heap.size + 3∧Below w.heap.size w (((w.alloc a).alloc b).alloc c):=by
  have h:(((w.alloc a).alloc b).alloc c).heap=((w.heap.push a).push b).push c:=rfl
  rw [h]
  refine ⟨?_,?_,?_,by simp,bel_trans (bel_alloc2 w a b) (bel_alloc _ _)⟩
  . simp [Array.getElem?_push]
    omega
  . rw [Array.getElem?_push,if_neg (by simp),Array.getElem?_push,if_pos (by simp)]
  . rw [Array.getElem?_push,if_pos (by simp)]
set_option maxRecDepth 100000 in
theorem ivlJoined {a b c d:Int} (ha:nn a) (hb:nn b) (hc:nn c) (hd:nn d) (w:World) :
    Calls Tryz.prog 49 #[ivl a b,ivl c d] w fun e w'=>e=.returned (ivl (minP a c) (maxP b d))∧Below w.heap.size w w':=by
  unfold ivl
  have RM:=fun ts t W=>run_minF (P:=Tryz.prog) ha hc ts t W
  have RX:=fun ts t W=>run_maxF (P:=Tryz.prog) hb hd ts t W
  generalize wd (minP a c)=X at *
  generalize wd (maxP b d)=Y at *
  generalize wd a=A at *
  generalize wd b=B at *
  generalize wd c=C at *
  generalize wd d=D at *
  obtain ⟨q0,q1,q2,hs,hb3⟩:=heap3 w (.cells #[.float .f64 A,.float .f64 B] 64) (.cells #[.float .f64 C,.float .f64 D] 64) (.cells #[.float .f64 0,.float .f64 0] 64)
  have k0:=blkC q0 0 rfl
  have k1:=blkC q0 1 rfl
  have k2:=blkC q1 0 rfl
  have k3:=blkC q1 1 rfl
  replace q2:(((w.alloc (.cells #[.float .f64 A,.float .f64 B] 64)).alloc (.cells #[.float .f64 C,.float .f64 D] 64)).alloc (.cells #[.float .f64 0,.float .f64 0] 64)).heap[w.heap.size + 1 + 1]?=some (.cells #[.float .f64 0,.float .f64 0] 64 (0,0)):=q2
  go_enter Tryz.func49,Tryz.ntmps49
  go_wp2_with fail
  clear q0 q1 k0 k1 k2 k3 hs RM RX
  generalize ((w.alloc (.cells #[.float .f64 A,.float .f64 B] 64)).alloc (.cells #[.float .f64 C,.float .f64 D] 64)).alloc (.cells #[.float .f64 0,.float .f64 0] 64)=wx at *
  obtain ⟨g,hg⟩:∃ g,w.heap.size + 1 + 1=g:=⟨_,rfl⟩
  have hwg:w.heap.size <= g:=by omega
  rw [hg] at q2
  simp only [hg]
  clear hg
  have d2:=q_heap_set q2 0 (.float .f64 X)
  have d3:=q_heap_set d2 1 (.float .f64 Y)
  have f0:=blkC q2 0 rfl
  have z0:=blkF q2 0
  have f1:=blkC d2 1 rfl
  have z1:=blkF d2 1
  have hbe:=(hb3.setCell (p:=⟨g,0,none⟩) hwg (.float .f64 X)).setCell (p:=⟨g,1,none⟩) hwg (.float .f64 Y)
  have s0:(store ⟨g,0,none⟩ (.float .f64 X)).run Tryz.prog wx=.ok () (wx.setCell ⟨g,0,none⟩ (.float .f64 X)):=by rw [run_store _ _ _ _ _ rfl,f0]; simp only [z0]; rfl
  have s1:(store ⟨g,1,none⟩ (.float .f64 Y)).run Tryz.prog (wx.setCell ⟨g,0,none⟩ (.float .f64 X))=.ok () ((wx.setCell ⟨g,0,none⟩ (.float .f64 X)).setCell ⟨g,1,none⟩ (.float .f64 Y)):=by rw [run_store _ _ _ _ _ rfl,f1]; simp only [z1]; rfl
  have e0:=blkC d3 0 rfl
  have e1:=blkC d3 1 rfl
  clear f0 z0 f1 z1 d2 d3 q2
  simp only [s0,s1,Result.andThen]
  go_wp2
  refine bodyPost_ret (v:=.agg #[.float .f64 X,.float .f64 Y]) (by simp [results,Tryz.results49,go_sem,e0,e1]) rfl ⟨rfl,hbe⟩
theorem isNaN_no {p:Int} (h:nn p) (w:World) :
    Calls Tryz.prog 122 #[.float .f64 (wd p)] w fun e w'=>e=.returned (.bool false)∧w'=w:=by
  have n0:=no64 h.1
  rw [decide_eq_false h.2] at n0
  go_enter Tryz.func122,Tryz.ntmps122
  go_wp2
  go_ret
  exact ⟨rfl,rfl⟩
theorem infUp (w:World) :
    Calls Tryz.prog 103 #[.int .i64 1] w fun e w'=>e=.returned (.float .f64 9218868437227405312)∧w'=w:=by
  have hd:=run_from64
  go_enter Tryz.func103,Tryz.ntmps103
  go_wp2
  go_ret
  exact ⟨rfl,rfl⟩
theorem infDown (w:World) :
    Calls Tryz.prog 103 #[.int .i64 (-1)] w fun e w'=>e=.returned (.float .f64 18442240474082181120)∧w'=w:=by
  have hd:=run_from64
  go_enter Tryz.func103,Tryz.ntmps103
  go_wp2
  go_ret
  exact ⟨rfl,rfl⟩
theorem copyUp (w:World) :
    Calls Tryz.prog 124 #[.float .f64 1,.float .f64 9218868437227405312] w fun e w'=>e=.returned (.float .f64 1)∧w'=w:=by
  have hd:=run_from64
  have hb:=run_bits64
  have e1:bits .andNot .u64 1 9223372036854775808=1:=by decide
  have e2:bits .and .u64 9218868437227405312 9223372036854775808=0:=by decide
  have e3:bits .or .u64 1 0=1:=by decide
  go_enter Tryz.func124,Tryz.ntmps124
  go_wp2
  go_ret
  exact ⟨rfl,rfl⟩
theorem copyDown (w:World) :
    Calls Tryz.prog 124 #[.float .f64 1,.float .f64 18442240474082181120] w fun e w'=>e=.returned (.float .f64 9223372036854775809)∧w'=w:=by
  have hd:=run_from64
  have hb:=run_bits64
  have e1:bits .andNot .u64 1 9223372036854775808=1:=by decide
  have e2:bits .and .u64 18442240474082181120 9223372036854775808=9223372036854775808:=by decide
  have e3:bits .or .u64 1 9223372036854775808=9223372036854775809:=by decide
  go_enter Tryz.func124,Tryz.ntmps124
  go_wp2
  go_ret
  exact ⟨rfl,rfl⟩
set_option maxRecDepth 100000 in
theorem nextUp {p:Int} (h:nn p) (w:World) :
    Calls Tryz.prog 102 #[.float .f64 (wd p),.float .f64 9218868437227405312] w fun e w'=>e=.returned (.float .f64 (wd (next p)))∧w'=w:=by
  have hd:=run_from64
  have hbt:=run_bits64
  have ey:wd 9218868437227405312=9218868437227405312:=by decide
  have ny:nn 9218868437227405312:=⟨by unfold rng; omega,by decide⟩
  have ky:key 9218868437227405312=9218868437227405312:=by decide
  have n0:nn 0:=nn0.1
  have k0:key 0=0:=by decide
  have e0:wd 0=0:=by decide
  have hr:=h.1
  unfold rng at hr
  have CX:Hid (∀ W,Calls Tryz.prog 122 #[.float .f64 (wd p)] W fun e w'=>e=.returned (.bool false)∧w'=W):=fun W=>isNaN_no h W
  have CY:Hid (∀ W,Calls Tryz.prog 122 #[.float .f64 9218868437227405312] W fun e w'=>e=.returned (.bool false)∧w'=W):=fun W=>by rw [<- ey]; exact isNaN_no ny W
  have hw:=q_wdlt p
  by_cases a1:p=9218868437227405312
  . subst a1
    have o1:=q_eq h.1 ny.1 h.2 ny.2 rfl
    rw [ey] at o1 CX ⊢
    clear hr
    go_enter Tryz.func102,Tryz.ntmps102
    go_wp2_with fail
    refine (CX.out _).mono ?_
    rintro _ _ ⟨rfl,rfl⟩
    go_wp2_with fail
    refine (CY.out _).mono ?_
    rintro _ _ ⟨rfl,rfl⟩
    go_wp2
    go_ret
    exact ⟨ret_float (by first | rfl | (rw [next_inf,ey]) | (rw [next_inf]; exact ey.symm)),rfl⟩
  have kp:key p < 9218868437227405312:=by
    have h4:=cls4_not h.2
    unfold key fld frc at *
    split <;> omega
  have o1:=q_lt h.1 ny.1 h.2 ny.2 (by rw [ky]; exact kp)
  have o2:=q_gt ny.1 h.1 ny.2 h.2 (by rw [ky]; exact kp)
  rw [ey] at o1 o2
  rcases Int.lt_trichotomy (key p) 0 with g | g | g
  . have o3:=q_lt h.1 n0.1 h.2 n0.2 (by rw [k0]; exact g)
    rw [e0] at o3
    have hp:p < 0∧p ≠ -9223372036854775808:=by unfold key at g; split at g <;> omega
    have hn:next p=p - 1:=by unfold next; rw [if_neg h.2,if_neg a1,if_neg hp.2,if_pos hp.1]
    have hv:wd (p - 1)=wd p - 1∧1 <= wd p:=by unfold wd; omega
    clear hr
    go_enter Tryz.func102,Tryz.ntmps102
    go_wp2_with fail
    refine (CX.out _).mono ?_
    rintro _ _ ⟨rfl,rfl⟩
    go_wp2_with fail
    refine (CY.out _).mono ?_
    rintro _ _ ⟨rfl,rfl⟩
    go_wp2
    go_ret
    exact ⟨ret_float (by rw [hn,hv.1]),rfl⟩
  . have o3:=q_eq h.1 n0.1 h.2 n0.2 (by rw [k0]; exact g)
    rw [e0] at o3
    have hp:p=0∨p=-9223372036854775808:=by unfold key at g; split at g <;> omega
    have hn:next p=1:=by rcases hp with rfl | rfl <;> decide
    have e1:wd 1=1:=by decide
    clear hr
    go_enter Tryz.func102,Tryz.ntmps102
    go_wp2_with fail
    refine (CX.out _).mono ?_
    rintro _ _ ⟨rfl,rfl⟩
    go_wp2_with fail
    refine (CY.out _).mono ?_
    rintro _ _ ⟨rfl,rfl⟩
    go_wp2_with (go_at_call 124; refine (copyUp _).mono ?_; rintro _ _ ⟨rfl,rfl⟩)
    go_ret
    exact ⟨ret_float (by rw [hn]; exact e1.symm),rfl⟩
  . have o3:=q_gt h.1 n0.1 h.2 n0.2 (by rw [k0]; exact g)
    rw [e0] at o3
    have hp:0 < p:=by unfold key at g; split at g <;> omega
    have hn:next p=p + 1:=by unfold next; rw [if_neg h.2,if_neg a1,if_neg (by omega),if_neg (by omega)]
    have hv:wd (p + 1)=wd p + 1∧wd p < 9223372036854775808:=by unfold wd; unfold key at kp; split at kp <;> omega
    clear hr
    go_enter Tryz.func102,Tryz.ntmps102
    go_wp2_with fail
    refine (CX.out _).mono ?_
    rintro _ _ ⟨rfl,rfl⟩
    go_wp2_with fail
    refine (CY.out _).mono ?_
    rintro _ _ ⟨rfl,rfl⟩
    go_wp2
    go_ret
    exact ⟨ret_float (by rw [hn,hv.1]),rfl⟩
theorem prev_down {p:Int} (h:nn p) (a1:¬ p=-4503599627370496):prev p=if p=0∨p=-9223372036854775808 then -9223372036854775807 else if p < 0 then p + 1 else p - 1:=by
  have hr:=h.1
  have h4:=cls4_not h.2
  unfold rng at hr
  by_cases z:p=0∨p=-9223372036854775808
  . rw [if_pos z]; rcases z with rfl | rfl <;> decide
  rw [if_neg z]
  obtain ⟨n1,k1⟩:=nn_neg h
  have e1:neg p=if p < 0 then p + 9223372036854775808 else p - 9223372036854775808:=by unfold neg; rw [if_neg h.2]
  have i1:¬ neg p=9218868437227405312:=by rw [e1]; split <;> omega
  obtain ⟨_,n2,_,_⟩:=key_next n1.1 n1.2 i1
  have e2:next (neg p)=if neg p < 0 then neg p - 1 else neg p + 1:=by unfold next; rw [if_neg n1.2,if_neg i1,if_neg (by rw [e1]; split <;> omega)]
  unfold prev
  unfold neg
  rw [if_neg (by exact n2)]
  show (if next (neg p) < 0 then next (neg p) + 9223372036854775808 else next (neg p) - 9223372036854775808)=_
  rw [e2,e1]
  unfold fld frc at h4
  repeat' split
  all_goals omega
set_option maxRecDepth 100000 in
theorem nextDown {p:Int} (h:nn p) (w:World) :
    Calls Tryz.prog 102 #[.float .f64 (wd p),.float .f64 18442240474082181120] w fun e w'=>e=.returned (.float .f64 (wd (prev p)))∧w'=w:=by
  have hd:=run_from64
  have hbt:=run_bits64
  have ey:wd (-4503599627370496)=18442240474082181120:=by decide
  have ny:nn (-4503599627370496):=⟨by unfold rng; omega,by decide⟩
  have ky:key (-4503599627370496)=-9218868437227405312:=by decide
  have n0:nn 0:=nn0.1
  have k0:key 0=0:=by decide
  have e0:wd 0=0:=by decide
  have hr:=h.1
  unfold rng at hr
  have CX:Hid (∀ W,Calls Tryz.prog 122 #[.float .f64 (wd p)] W fun e w'=>e=.returned (.bool false)∧w'=W):=fun W=>isNaN_no h W
  have CY:Hid (∀ W,Calls Tryz.prog 122 #[.float .f64 18442240474082181120] W fun e w'=>e=.returned (.bool false)∧w'=W):=fun W=>by rw [<- ey]; exact isNaN_no ny W
  have hw:=q_wdlt p
  by_cases a1:p=-4503599627370496
  . subst a1
    have o1:=q_eq h.1 ny.1 h.2 ny.2 rfl
    rw [ey] at o1 CX ⊢
    clear hr
    go_enter Tryz.func102,Tryz.ntmps102
    go_wp2_with fail
    refine (CX.out _).mono ?_
    rintro _ _ ⟨rfl,rfl⟩
    go_wp2_with fail
    refine (CY.out _).mono ?_
    rintro _ _ ⟨rfl,rfl⟩
    go_wp2
    go_ret
    exact ⟨ret_float (by rw [show prev (-4503599627370496)=-4503599627370496 by decide]; exact ey.symm),rfl⟩
  have kp:-9218868437227405312 < key p:=by
    have h4:=cls4_not h.2
    unfold key fld frc at *
    split <;> omega
  have o1:=q_gt h.1 ny.1 h.2 ny.2 (by rw [ky]; exact kp)
  have o2:=q_lt ny.1 h.1 ny.2 h.2 (by rw [ky]; exact kp)
  rw [ey] at o1 o2
  rcases Int.lt_trichotomy (key p) 0 with g | g | g
  . have o3:=q_lt h.1 n0.1 h.2 n0.2 (by rw [k0]; exact g)
    rw [e0] at o3
    have hp:p < 0∧p ≠ -9223372036854775808:=by unfold key at g; split at g <;> omega
    have hn:prev p=p + 1:=by have:=key_prev h.1 h.2 a1; have hq:=prev_down h a1; rw [hq,if_neg (by omega),if_pos hp.1]
    have hv:wd (p + 1)=wd p + 1∧wd p < 18446744073709551615:=by unfold wd; unfold key at kp; split at kp <;> omega
    clear hr
    go_enter Tryz.func102,Tryz.ntmps102
    go_wp2_with fail
    refine (CX.out _).mono ?_
    rintro _ _ ⟨rfl,rfl⟩
    go_wp2_with fail
    refine (CY.out _).mono ?_
    rintro _ _ ⟨rfl,rfl⟩
    go_wp2
    go_ret
    exact ⟨ret_float (by rw [hn,hv.1]),rfl⟩
  . have o3:=q_eq h.1 n0.1 h.2 n0.2 (by rw [k0]; exact g)
    rw [e0] at o3
    have hp:p=0∨p=-9223372036854775808:=by unfold key at g; split at g <;> omega
    have hn:prev p=-9223372036854775807:=by rcases hp with rfl | rfl <;> decide
    have e1:wd (-9223372036854775807)=9223372036854775809:=by decide
    clear hr
    go_enter Tryz.func102,Tryz.ntmps102
    go_wp2_with fail
    refine (CX.out _).mono ?_
    rintro _ _ ⟨rfl,rfl⟩
    go_wp2_with fail
    refine (CY.out _).mono ?_
    rintro _ _ ⟨rfl,rfl⟩
    go_wp2_with (go_at_call 124; refine (copyDown _).mono ?_; rintro _ _ ⟨rfl,rfl⟩)
    go_ret
    exact ⟨ret_float (by rw [hn]; exact e1.symm),rfl⟩
  . have o3:=q_gt h.1 n0.1 h.2 n0.2 (by rw [k0]; exact g)
    rw [e0] at o3
    have hp:0 < p:=by unfold key at g; split at g <;> omega
    have hn:prev p=p - 1:=by rw [prev_down h a1,if_neg (by omega),if_neg (by omega)]
    have hv:wd (p - 1)=wd p - 1∧1 <= wd p:=by unfold wd; omega
    clear hr
    go_enter Tryz.func102,Tryz.ntmps102
    go_wp2_with fail
    refine (CX.out _).mono ?_
    rintro _ _ ⟨rfl,rfl⟩
    go_wp2_with fail
    refine (CY.out _).mono ?_
    rintro _ _ ⟨rfl,rfl⟩
    go_wp2
    go_ret
    exact ⟨ret_float (by rw [hn,hv.1]),rfl⟩
set_option maxRecDepth 100000 in
theorem besideDown {p:Int} (h:nn p) (l:Nat) (o:FloatKind.f64.format.order l 0=some .lt) (w:World) :
    Calls Tryz.prog 79 #[.float .f64 (wd p),.float .f64 l] w fun e w'=>e=.returned (.agg #[.float .f64 (wd (prev p)),.float .f64 (wd p)])∧w'=w.alloc (.cells #[.float .f64 (wd (prev p)),.float .f64 (wd p)] 64):=by
  have hst:∀ (p:Addr) (n:Nat) (m:Mode) (w:World),(store p (.float .f64 n) m).run Tryz.prog w=stored Tryz.prog w p (.float .f64 n) m:=fun p n m w=>run_store _ w p _ m rfl
  have CI:Hid (∀ W,Calls Tryz.prog 103 #[.int .i64 (-1)] W fun e w'=>e=.returned (.float .f64 18442240474082181120)∧w'=W):=fun W=>infDown W
  have CN:Hid (∀ W,Calls Tryz.prog 102 #[.float .f64 (wd p),.float .f64 18442240474082181120] W fun e w'=>e=.returned (.float .f64 (wd (prev p)))∧w'=W):=fun W=>nextDown h W
  have hg:(w.alloc (.cells #[.float .f64 (wd (prev p)),.float .f64 (wd p)] 64)).heap[w.heap.size]?=some (.cells #[.float .f64 (wd (prev p)),.float .f64 (wd p)] 64 (0,0)):=by show (w.heap.push _)[w.heap.size]?=_; simp
  have e0:=blkC hg 0 rfl
  have e1:=blkC hg 1 rfl
  clear h
  go_enter Tryz.func79,Tryz.ntmps79
  go_wp2_with fail
  refine (CI.out _).mono ?_
  rintro _ _ ⟨rfl,rfl⟩
  go_wp2_with fail
  refine (CN.out _).mono ?_
  rintro _ _ ⟨rfl,rfl⟩
  go_wp2
  refine bodyPost_ret (v:=.agg #[.float .f64 (wd (prev p)),.float .f64 (wd p)]) (by simp [results,Tryz.results79,go_sem,e0,e1]) rfl ⟨rfl,rfl⟩
set_option maxRecDepth 100000 in
theorem besideUp {p:Int} (h:nn p) (l:Nat) (o:FloatKind.f64.format.order l 0=some .gt) (w:World) :
    Calls Tryz.prog 79 #[.float .f64 (wd p),.float .f64 l] w fun e w'=>e=.returned (.agg #[.float .f64 (wd p),.float .f64 (wd (next p))])∧w'=w.alloc (.cells #[.float .f64 (wd p),.float .f64 (wd (next p))] 64):=by
  have hst:∀ (p:Addr) (n:Nat) (m:Mode) (w:World),(store p (.float .f64 n) m).run Tryz.prog w=stored Tryz.prog w p (.float .f64 n) m:=fun p n m w=>run_store _ w p _ m rfl
  have CI:Hid (∀ W,Calls Tryz.prog 103 #[.int .i64 1] W fun e w'=>e=.returned (.float .f64 9218868437227405312)∧w'=W):=fun W=>infUp W
  have CN:Hid (∀ W,Calls Tryz.prog 102 #[.float .f64 (wd p),.float .f64 9218868437227405312] W fun e w'=>e=.returned (.float .f64 (wd (next p)))∧w'=W):=fun W=>nextUp h W
  have hg:(w.alloc (.cells #[.float .f64 (wd p),.float .f64 (wd (next p))] 64)).heap[w.heap.size]?=some (.cells #[.float .f64 (wd p),.float .f64 (wd (next p))] 64 (0,0)):=by show (w.heap.push _)[w.heap.size]?=_; simp
  have e0:=blkC hg 0 rfl
  have e1:=blkC hg 1 rfl
  clear h
  go_enter Tryz.func79,Tryz.ntmps79
  go_wp2_with fail
  refine (CI.out _).mono ?_
  rintro _ _ ⟨rfl,rfl⟩
  go_wp2_with fail
  refine (CN.out _).mono ?_
  rintro _ _ ⟨rfl,rfl⟩
  go_wp2
  refine bodyPost_ret (v:=.agg #[.float .f64 (wd p),.float .f64 (wd (next p))]) (by simp [results,Tryz.results79,go_sem,e0,e1]) rfl ⟨rfl,rfl⟩
set_option maxRecDepth 100000 in
theorem besideSame (p l:Nat) (o:FloatKind.f64.format.order l 0=some .eq∨FloatKind.f64.format.order l 0=none) (w:World) :
    Calls Tryz.prog 79 #[.float .f64 p,.float .f64 l] w fun e w'=>e=.returned (.agg #[.float .f64 p,.float .f64 p])∧w'=w.alloc (.cells #[.float .f64 p,.float .f64 p] 64):=by
  have hst:∀ (p:Addr) (n:Nat) (m:Mode) (w:World),(store p (.float .f64 n) m).run Tryz.prog w=stored Tryz.prog w p (.float .f64 n) m:=fun p n m w=>run_store _ w p _ m rfl
  have hg:(w.alloc (.cells #[.float .f64 p,.float .f64 p] 64)).heap[w.heap.size]?=some (.cells #[.float .f64 p,.float .f64 p] 64 (0,0)):=by show (w.heap.push _)[w.heap.size]?=_; simp
  have e0:=blkC hg 0 rfl
  have e1:=blkC hg 1 rfl
  rcases o with o | o
  all_goals
    go_enter Tryz.func79,Tryz.ntmps79
    go_wp2
    refine bodyPost_ret (v:=.agg #[.float .f64 p,.float .f64 p]) (by simp [results,Tryz.results79,go_sem,e0,e1]) rfl ⟨rfl,rfl⟩
theorem sgTT (x:Int):sg true x=-x:=rfl
theorem sgFF (x:Int):sg false x=x:=rfl
theorem rTo_low {ng:Bool} {r0:Nat} {left:Int} (way:Int) (h:(r0:Int) < 9218868437227405312):rTo way ng r0 left=(r0:Int) + (if rUp way ng (decide (r0 % 2=1)) left then 1 else 0):=by
  unfold rTo; rw [if_pos h]
theorem dir_cases {V:Int} (h0:V ≠ 0):∃ (g:Bool) (A:Int) (r0:Nat) (left:Int),V=sg g A∧0 < A∧Rung A r0 left∧nearP V=patS g (rTo 0 g r0 left)∧rdP 1 V=patS g (rTo 1 g r0 left)∧rdP 2 V=patS g (rTo 2 g r0 left):=by
  obtain ⟨A,r0,left,e1,hR,e2⟩:=nearP_rung h0
  have hA:0 < A:=by
    by_cases hn:V < 0
    . rw [decide_eq_true hn] at e1
      have:V=-A:=e1
      omega
    . rw [decide_eq_false hn] at e1
      have:V=A:=e1
      omega
  exact ⟨decide (V < 0),A,r0,left,e1,hA,hR,e2,rdP_eq h0 ⟨A,r0,left,e1,hR,rfl⟩,rdP_eq h0 ⟨A,r0,left,e1,hR,rfl⟩⟩
theorem patS_nn {g:Bool} {r:Int} (h0:0 <= r) (h1:r <= 9218868437227405312):nn (patS g r):=by
  obtain ⟨a,b⟩:=patS_rng (ng:=g) h0 h1
  exact ⟨a,b⟩
theorem nextS_pos {r:Int} (h0:0 <= r) (h1:r < 9218868437227405312):next (patS false r)=patS false (r + 1):=by
  have hn:=patS_nn (g:=false) h0 (by omega)
  unfold next
  rw [if_neg hn.2]
  show (if r=9218868437227405312 then r else if r=-9223372036854775808 then 1 else if r < 0 then r - 1 else r + 1)=r + 1
  rw [if_neg (by omega),if_neg (by omega),if_neg (by omega)]
theorem nextS_neg {r:Int} (h0:0 <= r) (h1:r < 9218868437227405312):next (patS true (r + 1))=patS true r:=by
  have hn:=patS_nn (g:=true) (show 0 <= r + 1 by omega) (by omega)
  unfold next
  rw [if_neg hn.2]
  show (if r + 1 - 9223372036854775808=9218868437227405312 then r + 1 - 9223372036854775808 else if r + 1 - 9223372036854775808=-9223372036854775808 then 1 else if r + 1 - 9223372036854775808 < 0 then r + 1 - 9223372036854775808 - 1 else r + 1 - 9223372036854775808 + 1)=r - 9223372036854775808
  rw [if_neg (by omega),if_neg (by omega),if_pos (by omega)]
  omega
theorem prevS_pos {r:Int} (h0:0 <= r) (h1:r < 9218868437227405312):prev (patS false (r + 1))=patS false r:=by
  have hn:=patS_nn (g:=false) (show 0 <= r + 1 by omega) (by omega)
  rw [prev_down hn (show ¬ r + 1=-4503599627370496 by omega)]
  show (if r + 1=0∨r + 1=-9223372036854775808 then (-9223372036854775807:Int) else if r + 1 < 0 then r + 1 + 1 else r + 1 - 1)=r
  rw [if_neg (by omega),if_neg (by omega)]
  omega
theorem prevS_neg {r:Int} (h0:0 <= r) (h1:r < 9218868437227405312):prev (patS true r)=patS true (r + 1):=by
  have hn:=patS_nn (g:=true) h0 (by omega)
  rw [prev_down hn (show ¬ r - 9223372036854775808=-4503599627370496 by omega)]
  show (if r - 9223372036854775808=0∨r - 9223372036854775808=-9223372036854775808 then (-9223372036854775807:Int) else if r - 9223372036854775808 < 0 then r - 9223372036854775808 + 1 else r - 9223372036854775808 - 1)=r + 1 - 9223372036854775808
  by_cases hr:r=0
  . rw [if_pos (by omega)]; omega
  . rw [if_neg (by omega),if_pos (by omega)]; omega
theorem rUp_dn (odd:Bool) (left:Int):rUp 1 false odd left=false∧(left ≠ 0->rUp 1 true odd left=true)∧rUp 2 true odd left=false∧(left ≠ 0->rUp 2 false odd left=true)∧(∀ way g,left=0->rUp way g odd left=false):=by
  refine ⟨?_,fun h=>?_,?_,fun h=>?_,fun way g h=>?_⟩
  . unfold rUp; simp
  . unfold rUp; simp [h]
  . unfold rUp; simp
  . unfold rUp; simp [h]
  . cases hu:rUp way g odd left
    . rfl
    . rw [h] at hu; exact absurd hu (fun q=>rUp_left q)
theorem dir_fin {V:Int} (h0:V ≠ 0) (hf:pok (nearP V)=true) :
    (V < patV (nearP V)->prev (nearP V)=rdP 1 V∧nearP V=rdP 2 V)∧(patV (nearP V) < V->nearP V=rdP 1 V∧next (nearP V)=rdP 2 V)∧(V=patV (nearP V)->nearP V=rdP 1 V∧nearP V=rdP 2 V):=by
  obtain ⟨g,A,r0,left,e,hA,hR,en,e1,e2⟩:=dir_cases h0
  have hrr:=rTo_range 0 g r0 left
  rw [en,patS_fin hrr.1 hrr.2] at hf
  have hf:=of_decide_eq_true hf
  have hr0:(r0:Int) < 9218868437227405312:=by
    rcases Int.lt_or_le (r0:Int) 9218868437227405312 with q | q
    . exact q
    . exfalso
      unfold rTo at hf
      rw [if_neg (by omega)] at hf
      unfold bRung at hf
      rw [show rUp 0 g true 3=true by cases g <;> decide,if_pos rfl] at hf
      omega
  obtain ⟨lo,hi,l0,l1,l2,l3⟩:=hR
  obtain ⟨u1,u2,u3,u4,u5⟩:=rUp_dn (decide (r0 % 2=1)) left
  rw [en,e1,e2,rTo_low 1 hr0,rTo_low 2 hr0]
  rw [rTo_low 0 hr0] at hf ⊢
  have pv:∀ r:Nat,(r:Int) < 9218868437227405312->patV (patS g (r:Int))=sg g (vS r):=fun r hr=>by
    cases g
    . exact patV_patS hr (fun q=>by cases q)
    . exact patV_neg hr
  have pv0:=pv r0 hr0
  have pv1:=pv (r0 + 1)
  clear pv l1 l2 l3
  generalize vS r0=a at *
  generalize vS (r0 + 1)=b at *
  by_cases hl:left=0
  . have ha:=l0.1 hl
    rw [u5 0 g hl,u5 1 g hl,u5 2 g hl]
    simp only [Bool.false_eq_true,if_false,Int.add_zero] at hf ⊢
    rw [pv0,e,ha]
    clear pv0 pv1 en e1 e2 e h0
    exact ⟨fun q=>absurd q (by omega),fun q=>absurd q (by omega),fun _=>⟨trivial,trivial⟩⟩
  . have hlt:a < A:=by
      have:A ≠ a:=fun q=>hl (l0.2 q)
      omega
    cases hu:rUp 0 g (decide (r0 % 2=1)) left
    . rw [hu] at hf
      simp only [Bool.false_eq_true,if_false,Int.add_zero] at hf ⊢
      rw [pv0,e]
      clear pv0 pv1 en e1 e2 e h0
      cases g
      . rw [u1,u4 hl]
        simp only [Bool.false_eq_true,if_false,if_true,Int.add_zero]
        refine ⟨fun q=>?_,fun _=>⟨trivial,nextS_pos (by omega) hr0⟩,fun q=>?_⟩
        . rw [sgFF,sgFF] at q
          omega
        . rw [sgFF,sgFF] at q
          omega
      . rw [u2 hl,u3]
        simp only [Bool.false_eq_true,if_false,if_true,Int.add_zero]
        refine ⟨fun _=>⟨prevS_neg (by omega) hr0,trivial⟩,fun q=>?_,fun q=>?_⟩
        . rw [sgTT,sgTT] at q
          omega
        . rw [sgTT,sgTT] at q
          omega
    . rw [hu] at hf
      simp only [if_true] at hf ⊢
      rw [show (r0:Int) + 1=((r0 + 1:Nat):Int) by push_cast; rfl] at hf ⊢
      rw [pv1 hf,e]
      clear pv0 pv1 en e1 e2 e h0
      rw [show ((r0 + 1:Nat):Int)=(r0:Int) + 1 by push_cast; rfl]
      cases g
      . rw [u1,u4 hl]
        simp only [Bool.false_eq_true,if_false,if_true,Int.add_zero]
        refine ⟨fun _=>⟨prevS_pos (by omega) hr0,trivial⟩,fun q=>?_,fun q=>?_⟩
        . rw [sgFF,sgFF] at q
          omega
        . rw [sgFF,sgFF] at q
          omega
      . rw [u2 hl,u3]
        simp only [Bool.false_eq_true,if_false,if_true,Int.add_zero]
        refine ⟨fun q=>?_,fun _=>⟨trivial,nextS_neg (by omega) hr0⟩,fun q=>?_⟩
        . rw [sgTT,sgTT] at q
          omega
        . rw [sgTT,sgTT] at q
          omega
theorem dir_inf {V:Int} (h0:V ≠ 0) (hf:pok (nearP V)=false) :
    (0 < V->nearP V=9218868437227405312∧rdP 1 V=9218868437227405311∧rdP 2 V=9218868437227405312)∧(V < 0->nearP V=-4503599627370496∧rdP 1 V=-4503599627370496∧rdP 2 V=-4503599627370497):=by
  obtain ⟨g,A,r0,left,e,hA,hR,en,e1,e2⟩:=dir_cases h0
  have hrr:=rTo_range 0 g r0 left
  rw [en,patS_fin hrr.1 hrr.2] at hf
  have hf:=of_decide_eq_false hf
  obtain ⟨u1,u2,u3,u4,u5⟩:=rUp_dn (decide (r0 % 2=1)) left
  have hr:rTo 0 g r0 left=9218868437227405312:=by omega
  have key:(∀ g',g=g'->rTo 1 g r0 left=if g' then 9218868437227405312 else 9218868437227405311)∧(∀ g',g=g'->rTo 2 g r0 left=if g' then 9218868437227405311 else 9218868437227405312):=by
    by_cases hr0:(r0:Int) < 9218868437227405312
    . rw [rTo_low 0 hr0] at hr
      have hl:left ≠ 0:=fun q=>by
        rw [u5 0 g q] at hr
        simp at hr
        omega
      have hrv:(r0:Int)=9218868437227405311:=by
        split at hr <;> omega
      rw [rTo_low 1 hr0,rTo_low 2 hr0]
      cases g
      . rw [u1,u4 hl]
        constructor
        . intro g' hg; subst hg; simp; omega
        . intro g' hg; subst hg; simp; omega
      . rw [u2 hl,u3]
        constructor
        . intro g' hg; subst hg; simp; omega
        . intro g' hg; subst hg; simp; omega
    . unfold rTo bRung
      rw [if_neg hr0,if_neg hr0]
      cases g
      . constructor
        . intro g' hg; subst hg; decide
        . intro g' hg; subst hg; decide
      . constructor
        . intro g' hg; subst hg; decide
        . intro g' hg; subst hg; decide
  cases g
  . refine ⟨fun _=>⟨?_,?_,?_⟩,fun q=>?_⟩
    . rw [en,hr]; rfl
    . rw [e1,key.1 false rfl]; rfl
    . rw [e2,key.2 false rfl]; rfl
    . have:V=A:=e
      omega
  . refine ⟨fun q=>?_,fun _=>⟨?_,?_,?_⟩⟩
    . have:V=-A:=e
      omega
    . rw [en,hr]; rfl
    . rw [e1,key.1 true rfl]; rfl
    . rw [e2,key.2 true rfl]; rfl
def prV (a b:Int):Int:=sg (xsg a b) (fsize a b)
theorem prV_eq {a b:Int}:prV a b=patV a * patV b / 2 ^ 4194304:=by
  unfold prV fsize
  cases xsg a b
  . rfl
  . show - -_=_; rw [Int.neg_neg]
theorem prV_parts {a b:Int} (ra:rng a) (rb:rng b) (pa:pok a=true) (pb:pok b=true) :
    ∃ N t:Nat,fsize a b=(N:Int) * pw (-2148 + (t:Int))∧N < 2 ^ 106∧prV a b * 2 ^ 4194304=patV a * patV b:=by
  obtain ⟨m,u,h1,v1⟩:=read_wd ra pa
  obtain ⟨n,v,h2,v2⟩:=read_wd rb pb
  have b1:=log2_fin ra pa h1
  have b2:=log2_fin rb pb h2
  have hpm:=pw_mul (a:=-1074 + (u:Int)) (b:=-1074 + (v:Int)) (by omega) (by omega)
  have hC:=fmul_core (g:=decide (a < 0)) (h:=decide (b < 0)) (x:=(m:Int)) (y:=(n:Int)) hpm
  rw [<- v1,<- v2] at hC
  have hcast:((m * n:Nat):Int)=(m:Int) * (n:Int):=by push_cast; rfl
  have hf:fsize a b=((m * n:Nat):Int) * pw (-1074 + (u:Int) + (-1074 + (v:Int))):=by rw [hcast]; exact fsize_of (two_pos 4194304) hC
  refine ⟨m * n,u + v,?_,?_,?_⟩
  . rw [hf,show -1074 + (u:Int) + (-1074 + (v:Int))=-2148 + ((u + v:Nat):Int) by push_cast; omega]
  . have e:(2:Nat) ^ 106=9007199254740992 * 9007199254740992:=by decide
    rw [e]
    exact Nat.lt_of_le_of_lt (Nat.mul_le_mul_left m (Nat.le_of_lt b2.1)) (Nat.mul_lt_mul_of_pos_right b1.1 (by decide))
  . rw [<- hC]
    unfold prV
    rw [hf,hcast]
    rfl
theorem fus_core {N U s t q Z E:Nat} (hE:E=1074) (hZ:Z=2 ^ E) (hq:0 < q) (hN:N < 2 ^ 106) (hU:4503599627370496 <= U) (lo:U * 2 ^ s * (q * Z) <= N * (q * 2 ^ t)):s + 1021 <= t:=by
  have e52:(2:Nat) ^ 52=4503599627370496:=by decide
  have hB:=Nat.two_pow_pos s
  have hC:=Nat.two_pow_pos t
  have hZ0:0 < Z:=by rw [hZ]; exact Nat.two_pow_pos _
  have l1:4503599627370496 * (2 ^ s * Z * q) <= U * 2 ^ s * (q * Z):=by
    rw [show U * 2 ^ s * (q * Z)=U * (2 ^ s * Z * q) by generalize (2:Nat) ^ s=B; grind]
    exact Nat.mul_le_mul_right _ hU
  have l2:N * (q * 2 ^ t) < 2 ^ 106 * 2 ^ t * q:=by
    rw [show 2 ^ 106 * 2 ^ t * q=2 ^ 106 * (q * 2 ^ t) by generalize (2:Nat) ^ 106=A; generalize (2:Nat) ^ t=B; grind]
    exact Nat.mul_lt_mul_of_pos_right hN (Nat.mul_pos hq hC)
  have l3:(4503599627370496 * 2 ^ s * Z) * q < (2 ^ 106 * 2 ^ t) * q:=by
    have:4503599627370496 * 2 ^ s * Z * q=4503599627370496 * (2 ^ s * Z * q):=by generalize (2:Nat) ^ s=B; grind
    rw [this]
    exact Nat.lt_of_le_of_lt (Nat.le_trans l1 lo) l2
  have l4:=Nat.lt_of_mul_lt_mul_right l3
  rw [<- e52,hZ,<- Nat.pow_add,<- Nat.pow_add,<- Nat.pow_add] at l4
  have h3:=(Nat.pow_lt_pow_iff_right (by decide:1 < 2)).1 l4
  omega
theorem fus_fl {N U s k:Nat} {S:Int} (hk:s <= k + 53) (h:S=(N:Int) * 2 ^ k - (U:Int) * 2 ^ s∨S=(N:Int) * 2 ^ k - ((U:Int) + 1) * 2 ^ s) (hS:(S.natAbs:Int) < 2 ^ s):Fl S:=by
  rcases Nat.lt_or_ge k s with g | g
  . refine fl_of (k:=k) ?_ ?_
    . obtain ⟨d,hd⟩:=p2dvd (Nat.le_of_lt g)
      rcases h with h | h
      . exact ⟨N - U * d,by rw [h,hd]; grind⟩
      . exact ⟨N - (U + 1) * d,by rw [h,hd]; grind⟩
    . have h1:=p2le hk
      rw [Int.pow_add,show (2:Int) ^ 53=9007199254740992 by decide,Int.mul_comm] at h1
      omega
  . obtain ⟨d,hd⟩:=p2dvd g
    have hdv:(2 ^ s:Int) ∣ S:=by
      rcases h with h | h
      . exact ⟨N * d - U,by rw [h,hd]; grind⟩
      . exact ⟨N * d - (U + 1),by rw [h,hd]; grind⟩
    have h0:S=0:=by
      obtain ⟨c,hc⟩:=hdv
      have hp:=p2 s
      rcases Int.lt_trichotomy c 0 with hn | hn | hn
      . have:2 ^ s * c <= 2 ^ s * (-1):=Int.mul_le_mul_of_nonneg_left (by omega) (Int.le_of_lt hp)
        omega
      . rw [hc,hn,Int.mul_zero]
      . have:2 ^ s * 1 <= 2 ^ s * c:=Int.mul_le_mul_of_nonneg_left (by omega) (Int.le_of_lt hp)
        omega
    rw [h0]; exact fl_zero
theorem nsn (a b:Int):-a - -b=-(a - b):=by omega
theorem fus_all {N U s t E:Nat} {z q pt W:Int} (hE:E=1074) (hz:0 < z) (et:pt=z * 2 ^ t) (eq:q=z * 2 ^ E) (hN:N < 2 ^ 106) (hU0:4503599627370496 <= U) (hs0:60 <= s) (Rlo:(U:Int) * 2 ^ s * q <= (N:Int) * pt) (Rhi:(N:Int) * pt < ((U:Int) + 1) * 2 ^ s * q)
    (hW:W=(U:Int) * 2 ^ s∨(W=((U:Int) + 1) * 2 ^ s∧(N:Int) * pt ≠ (U:Int) * 2 ^ s * q)) (hmax:(U:Int) * 2 ^ s <= maxV):∃ S:Int,(N:Int) * pt - W * q=S * q∧Fl S∧(S.natAbs:Int) <= maxV:=by
  have hts:s + 1021 <= t:=by
    obtain ⟨Z,hZ⟩:∃ Z:Nat,Z=2 ^ E:=⟨_,rfl⟩
    have hZi:(2:Int) ^ E=(Z:Int):=by rw [hZ]; push_cast; rfl
    obtain ⟨n,rfl⟩:∃ n:Nat,z=n:=⟨z.toNat,by omega⟩
    rw [et,eq,hZi] at Rlo
    refine fus_core (N:=N) (U:=U) (q:=n) hE hZ (by omega) hN hU0 ?_
    exact_mod_cast Rlo
  obtain ⟨k,rfl⟩:∃ k,t=E + k:=⟨t - E,by omega⟩
  have eA:pt=2 ^ k * q:=by
    rw [et,eq,Nat.add_comm,Int.pow_add]
    generalize (2:Int) ^ E=X
    generalize (2:Int) ^ k=Y
    grind
  have hq:0 < q:=by rw [eq]; exact Int.mul_pos hz (p2 E)
  clear et eq
  rw [eA,<- Int.mul_assoc] at Rlo Rhi hW
  rw [eA,<- Int.mul_assoc]
  have Rlo:=Int.le_of_mul_le_mul_right Rlo hq
  have Rhi:=Int.lt_of_mul_lt_mul_right Rhi (Int.le_of_lt hq)
  have hp:=p2 s
  have hU2:2 ^ s <= (U:Int) * 2 ^ s:=by
    have:=Int.mul_le_mul_of_nonneg_right (show (1:Int) <= U by omega) (Int.le_of_lt hp)
    rwa [Int.one_mul] at this
  have hW2:W=(U:Int) * 2 ^ s∨(W=((U:Int) + 1) * 2 ^ s∧(N:Int) * 2 ^ k ≠ (U:Int) * 2 ^ s):=by
    rcases hW with h | ⟨h,g⟩
    . exact .inl h
    . exact .inr ⟨h,fun e=>g (by rw [e])⟩
  clear hW
  have hS:(((N:Int) * 2 ^ k - W).natAbs:Int) < 2 ^ s:=by
    rw [Int.add_mul,Int.one_mul] at Rhi hW2
    clear hmax
    generalize (N:Int) * 2 ^ k=x at *
    generalize (2:Int) ^ s=y at *
    generalize (U:Int) * y=z' at *
    rcases hW2 with hW | ⟨hW,g⟩ <;> omega
  have hF:Fl ((N:Int) * 2 ^ k - W):=fus_fl (N:=N) (k:=k) (U:=U) (s:=s) (by omega) (by rcases hW2 with hW | ⟨hW,_⟩; exact .inl (by rw [hW]); exact .inr (by rw [hW])) hS
  refine ⟨(N:Int) * 2 ^ k - W,by rw [Int.sub_mul],hF,?_⟩
  exact Int.le_trans (Int.le_of_lt hS) (Int.le_trans hU2 hmax)
theorem eq1074:pw (-1074)=pw (-2148) * 2 ^ 1074:=by
  obtain ⟨E,hE⟩:∃ E:Nat,E=1074:=⟨_,rfl⟩
  have:=pw_add (e:=-2148) (by decide) E
  rw [show (-2148:Int) + (E:Int)=-1074 by rw [hE]; decide] at this
  rw [<- hE]
  exact this
theorem fused_any {a b way:Int} (ra:rng a) (rb:rng b) (pa:pok a=true) (pb:pok b=true) (h:prV a b ≠ 0) (lo:283726776524341248 <= rg (rdP way (prV a b))) (hi:rg (rdP way (prV a b)) <= 9209861237972664320∨(way=0∧rg (rdP way (prV a b)) < 9218868437227405312)) :
    ∃ S:Int,prV a b - patV (rdP way (prV a b))=S * pw (-1074)∧Fl S∧(S.natAbs:Int) <= maxV:=by
  obtain ⟨N,t,hf,hN,hX⟩:=prV_parts ra rb pa pb
  clear hX
  obtain ⟨A,r0,left,e1,hR,e2⟩:=rdP_is way h
  generalize rdP way (prV a b)=p at *
  have hA:A=(N:Int) * pw (-2148 + (t:Int))∧decide (prV a b < 0)=xsg a b:=by
    have hp:0 < fsize a b:=by
      have h0:0 <= fsize a b:=by rw [hf]; exact Int.mul_nonneg (by omega) (Int.le_of_lt (pw_pos _))
      have h1:fsize a b ≠ 0:=fun e=>h (by unfold prV; rw [e]; cases xsg a b <;> rfl)
      omega
    have hs:decide (prV a b < 0)=xsg a b:=sg_lt hp
    rw [hs] at e1
    exact ⟨(sg_inj e1).symm.trans hf,hs⟩
  obtain ⟨hA,hs⟩:=hA
  rw [hs] at e1 e2
  have hrr:=rTo_range way (xsg a b) r0 left
  obtain ⟨rp,hrg,hng⟩:=patS_parts (ng:=xsg a b) hrr.1 hrr.2
  rw [<- e2] at rp hrg hng
  have hpp:pok p=true:=(pok_rg rp).2 (by omega)
  have hr0:(r0:Int) < 9218868437227405312:=by
    rcases Int.lt_or_le (r0:Int) 9218868437227405312 with g | g
    . exact g
    . exfalso
      rw [hrg] at hi
      unfold rTo at hi
      rw [if_neg (by omega)] at hi
      unfold bRung at hi
      rcases hi with hi | ⟨hw,hi⟩
      . split at hi <;> omega
      . rw [hw,show rUp 0 (xsg a b) true 3=true by cases xsg a b <;> decide,if_pos rfl] at hi
        omega
  have hrt:rTo way (xsg a b) r0 left=(r0:Int)∨(rTo way (xsg a b) r0 left=(r0:Int) + 1∧left ≠ 0):=by
    unfold rTo
    rw [if_pos hr0]
    by_cases hu:rUp way (xsg a b) (decide (r0 % 2=1)) left=true
    . right
      rw [if_pos hu]
      exact ⟨rfl,fun e=>by rw [e] at hu; exact rUp_left hu⟩
    . left
      rw [if_neg hu]; omega
  obtain ⟨Rlo,Rhi,l0,_,_,_⟩:=hR
  obtain ⟨s,U,hsU,hU0,hU1,hs0,hs1⟩:∃ s U:Nat,r0=s * 4503599627370496 + U∧4503599627370496 <= U∧U < 9007199254740992∧60 <= s∧s <= 2045:=by
    refine ⟨r0 / 4503599627370496 - 1,r0 - (r0 / 4503599627370496 - 1) * 4503599627370496,?_,?_,?_,?_,?_⟩
    all_goals (rcases hrt with g | ⟨g,_⟩ <;> omega)
  obtain ⟨V0,V1⟩:=V_rung Ieee.double s U (by rw [dBin]; omega) (fun _=>by rw [dBin]; omega)
  rw [dBin,<- hsU] at V0 V1
  have hmax:(U:Int) * 2 ^ s <= maxV:=by
    have:=V_le (show r0 <= 9218868437227405311 by omega)
    rw [V0] at this
    push_cast at this
    exact this
  have hrt:∃ W:Int,(W=(U:Int) * 2 ^ s∨(W=((U:Int) + 1) * 2 ^ s∧left ≠ 0))∧(V Ieee.double (rTo way (xsg a b) r0 left).toNat:Int)=W:=by
    rcases hrt with g | ⟨g,g2⟩
    . refine ⟨_,.inl ?_,rfl⟩
      rw [g,Int.toNat_natCast,V0]; push_cast; rfl
    . refine ⟨_,.inr ⟨?_,g2⟩,rfl⟩
      rw [g,show ((r0:Int) + 1).toNat=r0 + 1 by omega,V1]; push_cast; rfl
  obtain ⟨W,hW,hVW⟩:=hrt
  unfold vS at Rlo Rhi l0
  rw [V0] at Rlo l0
  rw [V1] at Rhi
  push_cast at Rlo Rhi l0
  rw [hA] at Rlo Rhi l0
  have hpv:patV p=sg (xsg a b) W * pw (-1074):=by
    rw [patV_iV rp hpp]
    unfold iV
    rw [hng,hrg,hVW]
  obtain ⟨S,h1,h2,h3⟩:=fus_all (E:=1074) rfl (pw_pos (-2148)) (pw_add (by decide) t) eq1074 hN hU0 hs0 Rlo Rhi (by rcases hW with h | ⟨h,g⟩; exact .inl h; exact .inr ⟨h,fun e=>g (l0.2 e)⟩) hmax
  refine ⟨sg (xsg a b) S,?_,?_,?_⟩
  . rw [e1,hpv,hA,sg_prod,sg_prod,<- h1]
    cases xsg a b
    . rfl
    . exact nsn _ _
  . cases xsg a b
    . exact h2
    . exact h2.neg
  . have hn:(sg (xsg a b) S).natAbs=S.natAbs:=by
      cases xsg a b
      . rfl
      . exact Int.natAbs_neg _
    rw [hn]
    exact h3
theorem fmaS_pr (p q r:Int):fmaS p q r=prV p q + patV r:=rfl
theorem pok_clsF {a:Int} (ra:rng a) (h:pok a=true):cls a ≠ 4:=fun e=>by
  have hf:=pparts h
  unfold cls at e
  rw [if_neg hf] at e
  split at e
  . split at e <;> omega
  . omega
theorem near_exact {S:Int} (hF:Fl S) (h0:S ≠ 0) (hb:(S.natAbs:Int) <= maxV):rng (nearP (S * pw (-1074)))∧pok (nearP (S * pw (-1074)))=true∧iV (nearP (S * pw (-1074)))=S:=by
  obtain ⟨h1,h2,h3⟩:=near_iV h0
  exact ⟨h1,h3 hb,nr_self hF (h2 (h3 hb))⟩
def mulP (way a b:Int):Int:=if way=0∨(pok a && pok b)=false then fprod (told a) (told b) else if prV a b ≠ 0 then rdP way (prV a b) else fprod (told a) (told b)
theorem fma_zero {a b c:Int} (ra:rng a) (rb:rng b) (rc:rng c) (pa:pok a=true) (pb:pok b=true) (pc:pok c=true) (h:fmaS a b c=0):ffma a b c=patS (xsg a b && decide (c < 0)) 0:=by
  have h1:=(pok_rg ra).1 pa
  have h2:=(pok_rg rb).1 pb
  have h3:=(pok_rg rc).1 pc
  unfold ffma
  have n4:¬ (cls a=4∨cls b=4∨cls c=4):=fun q=>by rcases q with q | q | q; exact pok_clsF ra pa q; exact pok_clsF rb pb q; exact pok_clsF rc pc q
  have i2:¬ (rg a=9218868437227405312∨rg b=9218868437227405312):=by omega
  have i3:¬ rg c=9218868437227405312:=by omega
  rw [if_neg n4,if_neg i2,if_neg i3,if_pos h]
end Go.Proofs.YtfgapefckpnjjaaGreatDoor
namespace Go.Proofs.YtfgapefckpnjjaaGreatDoor
open Go Go.RowKit Go.Proofs.YtfgapefckpnjjaaGreatDoor.M Ieee
theorem nan_rng:rng 9221120237041090561:=by unfold rng; decide
theorem pok_of {p:Int} (hp:rng p) (h4:¬ cls p=4) (hi:¬ rg p=9218868437227405312):pok p=true:=by
  have:=(cls_rg hp).1
  rw [pok_rg hp]
  have:¬ 9218868437227405312 < rg p:=fun c=>h4 (this.2 c)
  omega
theorem fin_cls {p:Int} (hp:rng p) (h:pok p=true):¬ cls p=4∧¬ rg p=9218868437227405312:=by
  have h1:=(pok_rg hp).1 h
  exact ⟨fun c=>by have:=(cls_rg hp).1.1 c; omega,by omega⟩
theorem zero_facts (g:Bool):rng (patS g 0)∧pok (patS g 0)=true∧iV (patS g 0)=0:=by
  refine ⟨(patS_parts (by decide) (by decide)).1,?_,?_⟩
  . rw [patS_fin (by decide) (by decide)]; decide
  . rw [iV_patS (by decide) (by decide)]
    show sg g (V Ieee.double 0:Int)=0
    rw [V_zero]
    exact sg_zero g
structure EStp (S p:Int):Prop where
  rn:rng p
  nr:pok p=true->Nr S (iV p)
  fin:(S.natAbs:Int) <= maxV->pok p=true
theorem stp_zero (g:Bool):EStp 0 (patS g 0):=by
  obtain ⟨a,b,c⟩:=zero_facts g
  exact ⟨a,fun _=>by rw [c]; exact nr_zero,fun _=>b⟩
theorem stp_near {S:Int} (h:S ≠ 0):EStp S (nearP (S * pw (-1074))):=by
  obtain ⟨a,b,c⟩:=near_iV h
  exact ⟨a,b,c⟩
theorem k_zero0 {T w:Int} (hw:0 < w) (d:T * w=0):T=0:=by
  rcases Int.mul_eq_zero.1 d with g | g <;> omega
theorem stp_sum {p q:Int} (hp:rng p) (hq:rng q) (pp:pok p=true) (pq:pok q=true):EStp (iV p + iV q) (fsum p q):=by
  obtain ⟨a1,a2⟩:=fin_cls hp pp
  obtain ⟨b1,b2⟩:=fin_cls hq pq
  have e:fsum p q=if iV p + iV q=0 then patS (decide (p < 0) && decide (q < 0)) 0 else nearP ((iV p + iV q) * pw (-1074)):=by
    unfold fsum
    rw [if_neg (fun c=>c.elim a1 b1),if_neg a2,if_neg b2,patV_iV hp pp,patV_iV hq pq,<- Int.add_mul]
    have hq:=pw_pos (-1074)
    by_cases c:iV p + iV q=0
    . rw [if_pos c,if_pos (by rw [c,Int.zero_mul])]
    . rw [if_neg c,if_neg (fun d=>c (k_zero0 hq d))]
  rw [e]
  by_cases c:iV p + iV q=0
  . rw [if_pos c,c]; exact stp_zero _
  . rw [if_neg c]; exact stp_near c
theorem neg_facts {q:Int} (hq:rng q) (h:pok q=true):rng (neg q)∧pok (neg q)=true∧iV (neg q)=-iV q:=by
  obtain ⟨b1,b2⟩:=fin_cls hq h
  have h1:=(pok_rg hq).1 h
  have e:neg q=patS (!decide (q < 0)) (rg q):=by
    unfold neg patS rg
    rw [if_neg b1]
    by_cases c:q < 0
    . rw [if_pos c,if_pos c,decide_eq_true c]; rfl
    . rw [if_neg c,if_neg c,decide_eq_false c]; rfl
  have h0:0 <= rg q:=by unfold rg; unfold rng at hq; split <;> omega
  obtain ⟨c1,c2,c3⟩:=patS_parts (ng:=!decide (q < 0)) h0 (by omega)
  refine ⟨by rw [e]; exact c1,by rw [e,patS_fin h0 (by omega)]; exact decide_eq_true h1,?_⟩
  rw [e,iV_patS h0 (by omega)]
  unfold iV
  rw [sg_not]
theorem neg_rng {q:Int} (hq:rng q):rng (neg q):=by
  unfold neg rng at *
  split
  . omega
  . split <;> omega
theorem stp_diff {p q:Int} (hp:rng p) (hq:rng q) (pp:pok p=true) (pq:pok q=true):EStp (iV p - iV q) (fsum p (neg q)):=by
  obtain ⟨a,b,c⟩:=neg_facts hq pq
  have:=stp_sum hp a pp b
  rw [c] at this
  exact this
theorem fsum_rng {p q:Int} (hp:rng p) (hq:rng q):rng (fsum p q):=by
  by_cases h:pok p=true∧pok q=true
  . exact (stp_sum hp hq h.1 h.2).rn
  . unfold fsum
    by_cases c4:cls p=4∨cls q=4
    . rw [if_pos c4]; exact nan_rng
    rw [if_neg c4]
    by_cases ci:rg p=9218868437227405312
    . rw [if_pos ci]; split
      . exact nan_rng
      . exact hp
    rw [if_neg ci]
    by_cases cj:rg q=9218868437227405312
    . rw [if_pos cj]; exact hq
    exact absurd ⟨pok_of hp (fun c=>c4 (.inl c)) ci,pok_of hq (fun c=>c4 (.inr c)) cj⟩ h
end Go.Proofs.YtfgapefckpnjjaaGreatDoor
namespace Go.Proofs.YtfgapefckpnjjaaGreatDoor
open Go Go.RowKit Go.Proofs.YtfgapefckpnjjaaGreatDoor.M
theorem patV_opp {p:Int} (rp:rng p) (hp:pok p=true):patV (neg p)=-patV p:=by
  obtain ⟨n1,n2,n3⟩:=neg_facts rp hp
  rw [patV_iV n1 n2,patV_iV rp hp,n3,Int.neg_mul]
theorem run_sumN {P:Program} (t:TypeId) {p q:Int} {x y:Nat} (hx:FW p x) (hy:FW q y) (h:cls (fsum p q) ≠ 4) (w:World) :
    (binOp .add t (.float .f64 x) (.float .f64 y)).run P w=.ok (.float .f64 (wd (fsum p q))) w:=by
  obtain ⟨z,w',hr,hz⟩:=run_farith (P:=P) .add (.inl rfl) t x y w
  have hf:floatBits .add .f64 x y=Ieee.double.add x y:=rfl
  rw [hf] at hz
  rcases add_FW hx hy with ⟨z',e1,e2⟩ | ⟨e1,e2⟩
  . rcases hz with ⟨h1,h2⟩ | ⟨h1,_⟩
    . rw [e1] at h1; cases h1
      rw [hr,h2,(e2.of h).2.1]
    . rw [e1] at h1; cases h1
  . exact absurd (by rw [e2]; exact nan_canon) h
theorem fw_order {l:Int} {L:Nat} (h:FW l L):(less l 0=true->FloatKind.f64.format.order L 0=some .lt)∧(less 0 l=true->FloatKind.f64.format.order L 0=some .gt)∧(less l 0=false->less 0 l=false->FloatKind.f64.format.order L 0=some .eq∨FloatKind.f64.format.order L 0=none):=by
  have n0:=nn0.1
  have k0:key 0=0:=by decide
  have e0:wd 0=0:=by decide
  have c0:¬ cls 0=4:=by decide
  by_cases h4:cls l=4
  . have ho:FloatKind.f64.format.order L 0=none:=by
      rcases h with ⟨a,_,_⟩ | ⟨rfl,hN⟩
      . exact absurd h4 a
      . exact order_nan Ieee.double dOk L 0 (.inl (by rw [dInf,dSign]; exact hN.2))
    have l1:less l 0=false:=by unfold less; simp [h4]
    have l2:less 0 l=false:=by unfold less; simp [h4]
    exact ⟨fun h=>by (rw [l1] at h; cases h),fun h=>by (rw [l2] at h; cases h),fun _ _=>.inr ho⟩
  . obtain ⟨hr,rfl,_,_⟩:=h.of h4
    have l1:less l 0=decide (key l < 0):=by unfold less; simp [h4,c0,k0]
    have l2:less 0 l=decide (0 < key l):=by unfold less; simp [h4,c0,k0]
    rw [l1,l2]
    refine ⟨fun g=>?_,fun g=>?_,fun g1 g2=>?_⟩
    . have:=q_lt hr n0.1 h4 n0.2 (by rw [k0]; exact of_decide_eq_true g)
      rwa [e0] at this
    . have:=q_gt hr n0.1 h4 n0.2 (by rw [k0]; exact of_decide_eq_true g)
      rwa [e0] at this
    . have g1':=of_decide_eq_false g1
      have g2':=of_decide_eq_false g2
      have:=q_eq hr n0.1 h4 n0.2 (by rw [k0]; omega)
      rw [e0] at this
      exact .inl this
def beLo (n l:Int):Int:=if less l 0 then prev n else n
def beHi (n l:Int):Int:=if less l 0 then n else if less 0 l then next n else n
theorem beside_any {n l:Int} {L:Nat} (hn:nn n) (hl:FW l L) (w:World) :
    Calls Tryz.prog 79 #[.float .f64 (wd n),.float .f64 L] w fun e w'=>e=.returned (.agg #[.float .f64 (wd (beLo n l)),.float .f64 (wd (beHi n l))])∧Below w.heap.size w w':=by
  obtain ⟨o1,o2,o3⟩:=fw_order hl
  unfold beLo beHi
  cases h1:less l 0
  . cases h2:less 0 l
    . exact (besideSame (wd n) L (o3 h1 h2) w).mono fun _ _ ⟨a,b⟩=>⟨a,by rw [b]; exact bel_alloc _ _⟩
    . exact (besideUp hn L (o2 h2) w).mono fun _ _ ⟨a,b⟩=>⟨a,by rw [b]; exact bel_alloc _ _⟩
  . exact (besideDown hn L (o1 h1) w).mono fun _ _ ⟨a,b⟩=>⟨a,by rw [b]; exact bel_alloc _ _⟩
end Go.Proofs.YtfgapefckpnjjaaGreatDoor
