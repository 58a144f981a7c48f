/- Parts of the proof. -/
import Derived.Test.YtjjihmnbdeeedaaGreatDoorMa8
import Derived.Test.YtjjihmnbdeeedaaGreatDoorMa6
import Derived.Test.YtjjihmnbdeeedaaGreatDoorMa5
import Derived.Test.YtjjihmnbdeeedaaGreatDoorMa7
import Derived.Laws.Externs
import Derived.Test.YtjjihmnbdeeedaaGreatDoorMa4
import Derived.Laws.MakeOwn
set_option maxRecDepth 100000
set_option maxHeartbeats 8000000
set_option linter.unusedVariables false
set_option linter.unusedSimpArgs false
namespace Go.Proofs.YtjjihmnbdeeedaaGreatDoor
open Go Go.Proofs.Tryz Go.RowKit Go.Proofs.YtjjihmnbdeeedaaGreatDoor.M
def gk (lo hi:Int):Value:=.agg #[G7 (wd lo),G7 (wd hi)]
def ek (lo hi:Int):Value:=.agg #[G6 lo,G6 hi]
theorem tc (x y:Int) (w:World) :
  Calls prog 133 #[ek x y] w fun e w'=>e=.returned (gk x y)∧w'=((w.alloc (.cells #[G6 x,G6 y] 72)).alloc (.cells #[G7 (wd x),G7 (wd y)] 160)).drew:=by
 unfold ek gk
 have hx:Hid ((((w.alloc (.cells #[G6 x,G6 y] 72)).alloc (.cells #[G7 0,G7 0] 160)).setCell ⟨w.heap.size+1,0,none⟩ (G7 (wd x))).setCell ⟨w.heap.size+1,1,none⟩ (G7 (wd y))=(w.alloc (.cells #[G6 x,G6 y] 72)).alloc (.cells #[G7 (wd x),G7 (wd y)] 160)):=by
  unfold Hid
  rw[World.setCell_alloc_at _ _ _ _ _ (by simp),World.setCell_alloc_at _ _ _ _ _ (by simp)]
  rfl
 have hb2:=aM w (.cells #[G6 x,G6 y] 72) (.cells #[G7 0,G7 0] 160)
 have q0:=ew w (.cells #[G6 x,G6 y] 72) (.cells #[G7 0,G7 0] 160)
 have q1:=cZ w (.cells #[G6 x,G6 y] 72) (.cells #[G7 0,G7 0] 160)
 have hs:=jR w (.cells #[G6 x,G6 y] 72) (.cells #[G7 0,G7 0] 160)
 have k0:=ae q0 0 rfl
 have k1:=ae q0 1 rfl
 go_enter func133,ntmps133
 go_wp2_with fail
 generalize hwx:(w.alloc (.cells #[G6 x,G6 y] 72)).alloc (.cells #[G7 0,G7 0] 160)=wx at hb2 q0 q1 hs k0 k1 hx ⊢
 clear hwx
 have hc:w.heap.size<w.heap.size+1∧w.heap.size+1<=wx.drew.heap.size∧wx.drew.cell? ⟨w.heap.size,0,none⟩=some (G6 x)∧wx.drew.cell? ⟨w.heap.size,1,none⟩=some (G6 y):=⟨by omega,by show _<=wx.heap.size;omega,k0,k1⟩
 have d1:wx.drew.heap[w.heap.size+1]?=some (.cells #[G7 0,G7 0] 160 (0,0)):=q1
 have d2:((wx.setCell ⟨w.heap.size+1,0,none⟩ (G7 (wd x))).drew).heap[w.heap.size+1]?=some (.cells #[G7 (wd x),G7 0] 160 (0,0)):=az d1 0 (G7 (wd x))
 have d3:(((wx.setCell ⟨w.heap.size+1,0,none⟩ (G7 (wd x))).setCell ⟨w.heap.size+1,1,none⟩ (G7 (wd y))).drew).heap[w.heap.size+1]?=some (.cells #[G7 (wd x),G7 (wd y)] 160 (0,0)):=az d2 1 (G7 (wd y))
 have f0:=ae d1 0 rfl
 have z0:=ah d1 0
 have f1:=ae d2 1 rfl
 have z1:=ah d2 1
 have s0:(store ⟨w.heap.size+1,0,none⟩ (G7 (wd x))).run prog wx.drew=.ok () ((wx.setCell ⟨w.heap.size+1,0,none⟩ (G7 (wd x))).drew):=by rw[run_store _ _ _ _ _ rfl,f0];simp only[z0];rfl
 have s1:(store ⟨w.heap.size+1,1,none⟩ (G7 (wd y))).run prog ((wx.setCell ⟨w.heap.size+1,0,none⟩ (G7 (wd x))).drew)=.ok () (((wx.setCell ⟨w.heap.size+1,0,none⟩ (G7 (wd x))).setCell ⟨w.heap.size+1,1,none⟩ (G7 (wd y))).drew):=by rw[run_store _ _ _ _ _ rfl,f1];simp only[z1];rfl
 go_region_held3 (fun W=>w.heap.size<w.heap.size+1∧w.heap.size+1<=W.heap.size∧W.cell? ⟨w.heap.size,0,none⟩=some (G6 x)∧W.cell? ⟨w.heap.size,1,none⟩=some (G6 y))
  (first|assumption|(repeat (first|exact hc|refine xB (by omega) ?_)))
  ((go_at_call 58;refine(bU _ _).mono ?_;rintro _ _ ⟨rfl,rfl⟩))
 have e0:=ae d3 0 rfl
 have e1:=ae d3 1 rfl
 clear s0 s1 f0 f1 z0 z1 d1 d2 d3
 generalize (wx.setCell ⟨w.heap.size+1,0,none⟩ (G7 (wd x))).setCell ⟨w.heap.size+1,1,none⟩ (G7 (wd y))=wy at *
 go_wp2
 refine bodyPost_ret (v:=.agg #[G7 (wd x),G7 (wd y)]) (by simp[results,results133,go_sem,e0,e1]) rfl ⟨rfl,by rw[hx.out]⟩
theorem Ke (x y:Int) (w:World) :
  Calls prog 133 #[ek x y] w fun e w'=>e=.returned (gk x y)∧Below w.heap.size w w' :=
 (tc x y w).mono fun _ _ ⟨h1,h2⟩=>⟨h1,by rw[h2];exact(aM w _ _).drew⟩
theorem Kf {p:Int} (h:nn p) (w:World) :
  Calls prog 192 #[G7 (wd p),G6 1] w fun e w'=>e=.returned (.bool (decide (9218868437227405312<=au p)))∧w'=w:=by
 have r:ag 9218868437227405311:=by unfold ag;omega
 have c:¬ aH 9218868437227405311=4:=by decide
 have k:au 9218868437227405311=9218868437227405311:=by decide
 have e:wd 9218868437227405311=9218868437227405311:=by decide
 rcases Int.lt_trichotomy (au p) 9218868437227405311 with g|g|g
 ·have o:=iG h.1 r h.2 c (by rw[k];exact g)
  rw[e] at o
  rw[decide_eq_false (by omega)]
  go_enter func192,ntmps192
  go_wp2
  go_ret
  exact⟨rfl,rfl⟩
 ·have o:=ii h.1 r h.2 c (by rw[k];exact g)
  rw[e] at o
  rw[decide_eq_false (by omega)]
  go_enter func192,ntmps192
  go_wp2
  go_ret
  exact⟨rfl,rfl⟩
 ·have o:=iH h.1 r h.2 c (by rw[k];exact g)
  rw[e] at o
  rw[decide_eq_true (by omega)]
  go_enter func192,ntmps192
  go_wp2
  go_ret
  exact⟨rfl,rfl⟩
theorem Pj {p:Int} (h:nn p):Op.negFloat .f64 (wd p)=wd (neg p):=by
 have hr:=h.1
 unfold Op.negFloat
 show wd p ^^^ 2^63=_
 unfold neg
 rw[if_neg h.2]
 unfold ag at hr
 by_cases h0:p<0
 ·rw[if_pos h0]
  have e:wd p=2^63+wd (p+9223372036854775808):=by unfold wd;omega
  rw[e,zf 63 _ (by unfold wd;omega)]
 ·rw[if_neg h0,Nat.xor_comm,wA 63 _ (by unfold wd;omega)]
  unfold wd;omega
theorem ry {P:Program} {p:Int} (h:nn p) (w:World):(Op.unary UnOp.neg (G7 (wd p))).run P w=.ok (G7 (wd (neg p))) w:=by
 show(pure (Value.float .f64 (Op.negFloat .f64 (wd p))):Sem Value).run P w=_
 rw[Pj h]
 rfl
theorem ff {p:Int} (h:nn p):nn (neg p)∧au (neg p)=- au p:=by
 obtain⟨a,b⟩:=wH h.1 h.2
 exact⟨⟨kt h.1,b⟩,a⟩
theorem EP {p:Int} (h:nn p) (w:World) :
  Calls prog 192 #[G7 (wd p),G6 (-1)] w fun e w'=>e=.returned (.bool (decide (au p <= -9218868437227405312)))∧w'=w:=by
 have r:ag 9218868437227405311:=by unfold ag;omega
 have c:¬ aH 9218868437227405311=4:=by decide
 have k:au 9218868437227405311=9218868437227405311:=by decide
 have e:wd 9218868437227405311=9218868437227405311:=by decide
 have hN:=fun W=>ry (P:=prog) h W
 obtain⟨g0,g1⟩:=ff h
 rcases Int.lt_trichotomy (au (neg p)) 9218868437227405311 with g|g|g
 ·have o:=iG g0.1 r g0.2 c (by rw[k];exact g)
  rw[e] at o
  rw[decide_eq_false (by omega)]
  clear g1 g
  go_enter func192,ntmps192
  go_wp2
  go_ret
  exact⟨rfl,rfl⟩
 ·have o:=ii g0.1 r g0.2 c (by rw[k];exact g)
  rw[e] at o
  rw[decide_eq_false (by omega)]
  clear g1 g
  go_enter func192,ntmps192
  go_wp2
  go_ret
  exact⟨rfl,rfl⟩
 ·have o:=iH g0.1 r g0.2 c (by rw[k];exact g)
  rw[e] at o
  rw[decide_eq_true (by omega)]
  clear g1 g
  go_enter func192,ntmps192
  go_wp2
  go_ret
  exact⟨rfl,rfl⟩
theorem uN {lo hi:Int} (hl:ag lo) (hh:ag hi) (w:World) :
  Calls prog 134 #[gk lo hi] w fun e w'=>e=.returned (.bool (cf lo hi))∧Below w.heap.size w w':=by
 unfold gk
 by_cases h4:aH lo=4∨aH hi=4
 ·have o:=gH hl hh h4
  rw[show cf lo hi=false from decide_eq_false (fun h=>by rcases h4 with g|g;exact h.1 g;exact h.2.1 g)]
  go_enter func134,ntmps134
  go_wp2
  go_ret
  exact⟨rfl,af _ _⟩
 have h1:¬ aH lo=4:=fun h=>h4 (.inl h)
 have h2:¬ aH hi=4:=fun h=>h4 (.inr h)
 have CU:Hid (∀ W,Calls prog 192 #[G7 (wd lo),G6 1] W fun e w'=>e=.returned (.bool (decide (9218868437227405312<=au lo)))∧w'=W):=fun W=>Kf ⟨hl,h1⟩ W
 have CD:Hid (∀ W,Calls prog 192 #[G7 (wd hi),G6 (-1)] W fun e w'=>e=.returned (.bool (decide (au hi <= -9218868437227405312)))∧w'=W):=fun W=>EP ⟨hh,h2⟩ W
 have q0:(w.alloc (.cells #[G7 (wd lo),G7 (wd hi)] 160)).heap[w.heap.size]?=some (.cells #[G7 (wd lo),G7 (wd hi)] 160 (0,0)):=by show(w.heap.push _)[w.heap.size]?=_;simp
 have k0:=ae q0 0 rfl
 have k1:=ae q0 1 rfl
 have hb:=af w (.cells #[G7 (wd lo),G7 (wd hi)] 160)
 by_cases g:au hi<au lo
 ·have o:=iH hl hh h1 h2 g
  rw[show cf lo hi=false from decide_eq_false (fun h=>by omega)]
  clear CU CD
  go_enter func134,ntmps134
  go_wp2
  go_ret
  exact⟨rfl,af _ _⟩
 have o:FloatKind.f64.format.order (wd lo) (wd hi)=some .lt∨FloatKind.f64.format.order (wd lo) (wd hi)=some .eq:=by
  by_cases e:au lo=au hi
  ·exact .inr (ii hl hh h1 h2 e)
  ·exact .inl (iG hl hh h1 h2 (by omega))
 by_cases a:9218868437227405312<=au lo
 ·rw[show cf lo hi=false from decide_eq_false (fun h=>by omega)]
  rw[decide_eq_true a] at CU
  clear h4 g a CD q0 k0 k1
  rcases o with o|o
  all_goals
   go_enter func134,ntmps134
   go_wp2_with (go_at_call 192;refine(CU.out _).mono ?_;rintro _ _ ⟨rfl,rfl⟩)
   go_ret
   exact⟨rfl,hb⟩
 rw[decide_eq_false a] at CU
 by_cases b:au hi <= -9218868437227405312
 ·rw[show cf lo hi=false from decide_eq_false (fun h=>by omega)]
  rw[decide_eq_true b] at CD
  clear h4 g a b q0 k0 k1
  rcases o with o|o
  all_goals
   go_enter func134,ntmps134
   go_wp2_with fail
   refine(CU.out _).mono ?_
   rintro _ _ ⟨rfl,rfl⟩
   go_wp2_with fail
   refine(CD.out _).mono ?_
   rintro _ _ ⟨rfl,rfl⟩
   go_wp2
   go_ret
   exact⟨rfl,hb⟩
 ·rw[show cf lo hi=true from decide_eq_true ⟨h1,h2,by omega,by omega,by omega⟩]
  rw[decide_eq_false b] at CD
  clear h4 g a b q0 k0 k1
  rcases o with o|o
  all_goals
   go_enter func134,ntmps134
   go_wp2_with fail
   refine(CU.out _).mono ?_
   rintro _ _ ⟨rfl,rfl⟩
   go_wp2_with fail
   refine(CD.out _).mono ?_
   rintro _ _ ⟨rfl,rfl⟩
   go_wp2
   go_ret
   exact⟨rfl,hb⟩
theorem Pk {a b:Int} (ha:nn a) (hb:nn b) (h:au a=au b):(if (FloatKind.f64.decode (wd a)).neg then wd a else wd b)=wd (if a=b then a else -9223372036854775808):=by
 by_cases e:a=b
 ·subst e;rw[if_pos rfl];split<;>rfl
 ·rw[if_neg e]
  rcases lz ha.1 hb.1 h e with⟨rfl,rfl⟩|⟨rfl,rfl⟩
  ·rfl
  ·rfl
theorem Pl {a b:Int} (ha:nn a) (hb:nn b) (h:au a=au b):(if (FloatKind.f64.decode (wd a)).neg then wd b else wd a)=wd (if a=b then a else 0):=by
 by_cases e:a=b
 ·subst e;rw[if_pos rfl];split<;>rfl
 ·rw[if_neg e]
  rcases lz ha.1 hb.1 h e with⟨rfl,rfl⟩|⟨rfl,rfl⟩
  ·rfl
  ·rfl
theorem Kg {P:Program} {a b:Int} (ha:nn a) (hb:nn b) (ts:Array TypeId) (t:TypeId) (w:World):(Builtin.min_ ts t #[G7 (wd a),G7 (wd b)]).run P w=.ok (G7 (wd (jP a b))) w:=by
 have hf:(Builtin.min_ ts t #[G7 (wd a),G7 (wd b)])=(Builtin.min2 (G7 (wd a)) (G7 (wd b))):=by simp[Builtin.min_]
 rw[hf]
 unfold Builtin.min2 jP
 rcases Int.lt_trichotomy (au a) (au b) with h|h|h
 ·rw[if_pos h]
  simp only[iG ha.1 hb.1 ha.2 hb.2 h]
  rfl
 ·rw[if_neg (by omega),if_neg (by omega)]
  simp only[ii ha.1 hb.1 ha.2 hb.2 h]
  rw[Pk ha hb h]
  rfl
 ·rw[if_neg (by omega),if_pos h]
  simp only[iH ha.1 hb.1 ha.2 hb.2 h]
  rfl
theorem Kh {P:Program} {a b:Int} (ha:nn a) (hb:nn b) (ts:Array TypeId) (t:TypeId) (w:World):(Builtin.max_ ts t #[G7 (wd a),G7 (wd b)]).run P w=.ok (G7 (wd (jQ a b))) w:=by
 have hf:(Builtin.max_ ts t #[G7 (wd a),G7 (wd b)])=(Builtin.max2 (G7 (wd a)) (G7 (wd b))):=by simp[Builtin.max_]
 rw[hf]
 unfold Builtin.max2 jQ
 rcases Int.lt_trichotomy (au a) (au b) with h|h|h
 ·rw[if_pos h]
  simp only[iG ha.1 hb.1 ha.2 hb.2 h]
  rfl
 ·rw[if_neg (by omega),if_neg (by omega)]
  simp only[ii ha.1 hb.1 ha.2 hb.2 h]
  rw[Pl ha hb h]
  rfl
 ·rw[if_neg (by omega),if_pos h]
  simp only[iH ha.1 hb.1 ha.2 hb.2 h]
  rfl
theorem AM {a b B g o:Nat} {v x0 x1 x2 x3:Value} {W:World} (hg:B<=g) (h:(a<B∧b<B∧B<=W.heap.size)∧W.cell? ⟨a,0,none⟩=some x0∧W.cell? ⟨a,1,none⟩=some x1∧W.cell? ⟨b,0,none⟩=some x2∧W.cell? ⟨b,1,none⟩=some x3) :
  (a<B∧b<B∧B<=(W.setCell ⟨g,o,none⟩ v).heap.size)∧(W.setCell ⟨g,o,none⟩ v).cell? ⟨a,0,none⟩=some x0∧(W.setCell ⟨g,o,none⟩ v).cell? ⟨a,1,none⟩=some x1∧(W.setCell ⟨g,o,none⟩ v).cell? ⟨b,0,none⟩=some x2∧(W.setCell ⟨g,o,none⟩ v).cell? ⟨b,1,none⟩=some x3:=by
 have hw:Wr g W (W.setCell ⟨g,o,none⟩ v):=(Wr.refl g W).setCell o v
 obtain⟨⟨h1,h2,h3⟩,a0,a1,a2,a3⟩:=h
 exact⟨⟨h1,h2,Nat.le_trans h3 hw.size⟩,(hw.cell (show a<W.heap.size by omega) (show a≠g by omega)).trans a0,(hw.cell (show a<W.heap.size by omega) (show a≠g by omega)).trans a1,(hw.cell (show b<W.heap.size by omega) (show b≠g by omega)).trans a2,(hw.cell (show b<W.heap.size by omega) (show b≠g by omega)).trans a3⟩
theorem oW (w:World) (a b c:Obj):(((w.alloc a).alloc b).alloc c).heap[w.heap.size]?=some a∧(((w.alloc a).alloc b).alloc c).heap[w.heap.size+1]?=some b∧(((w.alloc a).alloc b).alloc c).heap[w.heap.size+2]?=some c∧(((w.alloc a).alloc b).alloc c).heap.size=w.heap.size+3∧Below w.heap.size w (((w.alloc a).alloc b).alloc c):=by
 have h:(((w.alloc a).alloc b).alloc c).heap=((w.heap.push a).push b).push c:=rfl
 rw[h]
 refine⟨?_,?_,?_,by simp,ac (aM w a b) (af _ _)⟩
 ·simp[Array.getElem?_push]
  omega
 ·rw[Array.getElem?_push,if_neg (by simp),Array.getElem?_push,if_pos (by simp)]
 ·rw[Array.getElem?_push,if_pos (by simp)]
theorem td {a b c d:Int} (ha:nn a) (hb:nn b) (hc:nn c) (hd:nn d) (w:World) :
  Calls prog 189 #[gk a b,gk c d] w fun e w'=>e=.returned (gk (jP a c) (jQ b d))∧Below w.heap.size w w':=by
 unfold gk
 have RM:=fun ts t W=>Kg (P:=prog) ha hc ts t W
 have RX:=fun ts t W=>Kh (P:=prog) hb hd ts t W
 generalize wd (jP a c)=X at *
 generalize wd (jQ b d)=Y at *
 generalize wd a=A at *
 generalize wd b=B at *
 generalize wd c=C at *
 generalize wd d=D at *
 obtain⟨q0,q1,q2,hs,hb3⟩:=oW w (.cells #[G7 A,G7 B] 160) (.cells #[G7 C,G7 D] 160) (.cells #[G7 0,G7 0] 160)
 have k0:=ae q0 0 rfl
 have k1:=ae q0 1 rfl
 have k2:=ae q1 0 rfl
 have k3:=ae q1 1 rfl
 replace q2:(((w.alloc (.cells #[G7 A,G7 B] 160)).alloc (.cells #[G7 C,G7 D] 160)).alloc (.cells #[G7 0,G7 0] 160)).heap[w.heap.size+1+1]?=some (.cells #[G7 0,G7 0] 160 (0,0)):=q2
 go_enter func189,ntmps189
 go_wp2_with fail
 clear q0 q1 k0 k1 k2 k3 hs RM RX
 generalize ((w.alloc (.cells #[G7 A,G7 B] 160)).alloc (.cells #[G7 C,G7 D] 160)).alloc (.cells #[G7 0,G7 0] 160)=wx at *
 obtain⟨g,hg⟩:∃ g,w.heap.size+1+1=g:=⟨_,rfl⟩
 have hwg:w.heap.size<=g:=by omega
 rw[hg] at q2
 simp only[hg]
 clear hg
 have d2:=az q2 0 (G7 X)
 have d3:=az d2 1 (G7 Y)
 have f0:=ae q2 0 rfl
 have z0:=ah q2 0
 have f1:=ae d2 1 rfl
 have z1:=ah d2 1
 have hbe:=(hb3.setCell (p:=⟨g,0,none⟩) hwg (G7 X)).setCell (p:=⟨g,1,none⟩) hwg (G7 Y)
 have s0:(store ⟨g,0,none⟩ (G7 X)).run prog wx=.ok () (wx.setCell ⟨g,0,none⟩ (G7 X)):=by rw[run_store _ _ _ _ _ rfl,f0];simp only[z0];rfl
 have s1:(store ⟨g,1,none⟩ (G7 Y)).run prog (wx.setCell ⟨g,0,none⟩ (G7 X))=.ok () ((wx.setCell ⟨g,0,none⟩ (G7 X)).setCell ⟨g,1,none⟩ (G7 Y)):=by rw[run_store _ _ _ _ _ rfl,f1];simp only[z1];rfl
 have e0:=ae d3 0 rfl
 have e1:=ae d3 1 rfl
 clear f0 z0 f1 z1 d2 d3 q2
 simp only[s0,s1,Result.andThen]
 go_wp2
 refine bodyPost_ret (v:=.agg #[G7 X,G7 Y]) (by simp[results,results189,go_sem,e0,e1]) rfl ⟨rfl,hbe⟩
theorem rz {p:Int} (h:nn p) (w:World) :
  Calls prog 316 #[G7 (wd p)] w fun e w'=>e=.returned (.bool false)∧w'=w:=by
 have n0:=IP h.1
 rw[decide_eq_false h.2] at n0
 go_enter func316,ntmps316
 go_wp2
 go_ret
 exact⟨rfl,rfl⟩
theorem QP (w:World) :
  Calls prog 291 #[G6 1] w fun e w'=>e=.returned (G7 9218868437227405312)∧w'=w:=by
 have hd:=gB
 go_enter func291,ntmps291
 go_wp2
 go_ret
 exact⟨rfl,rfl⟩
theorem Nl (w:World) :
  Calls prog 291 #[G6 (-1)] w fun e w'=>e=.returned (G7 18442240474082181120)∧w'=w:=by
 have hd:=gB
 go_enter func291,ntmps291
 go_wp2
 go_ret
 exact⟨rfl,rfl⟩
theorem Pm (w:World) :
  Calls prog 318 #[G7 1,G7 9218868437227405312] w fun e w'=>e=.returned (G7 1)∧w'=w:=by
 have hd:=gB
 have hb:=jt
 have e1:bits .andNot .u64 1 9223372036854775808=1:=by decide
 have e2:bits .and .u64 9218868437227405312 9223372036854775808=0:=by decide
 have e3:bits .or .u64 1 0=1:=by decide
 go_enter func318,ntmps318
 go_wp2
 go_ret
 exact⟨rfl,rfl⟩
theorem Ki (w:World) :
  Calls prog 318 #[G7 1,G7 18442240474082181120] w fun e w'=>e=.returned (G7 9223372036854775809)∧w'=w:=by
 have hd:=gB
 have hb:=jt
 have e1:bits .andNot .u64 1 9223372036854775808=1:=by decide
 have e2:bits .and .u64 18442240474082181120 9223372036854775808=9223372036854775808:=by decide
 have e3:bits .or .u64 1 9223372036854775808=9223372036854775809:=by decide
 go_enter func318,ntmps318
 go_wp2
 go_ret
 exact⟨rfl,rfl⟩
theorem Po {p:Int} (h:nn p) (w:World) :
  Calls prog 290 #[G7 (wd p),G7 9218868437227405312] w fun e w'=>e=.returned (G7 (wd (next p)))∧w'=w:=by
 have hd:=gB
 have hbt:=jt
 have ey:wd 9218868437227405312=9218868437227405312:=by decide
 have ny:nn 9218868437227405312:=⟨by unfold ag;omega,by decide⟩
 have ky:au 9218868437227405312=9218868437227405312:=by decide
 have n0:nn 0:=kK.1
 have k0:au 0=0:=by decide
 have e0:wd 0=0:=by decide
 have hr:=h.1
 unfold ag at hr
 have CX:Hid (∀ W,Calls prog 316 #[G7 (wd p)] W fun e w'=>e=.returned (.bool false)∧w'=W):=fun W=>rz h W
 have CY:Hid (∀ W,Calls prog 316 #[G7 9218868437227405312] W fun e w'=>e=.returned (.bool false)∧w'=W):=fun W=>by rw[<- ey];exact rz ny W
 have hw:=zn p
 by_cases a1:p=9218868437227405312
 ·subst a1
  have o1:=ii h.1 ny.1 h.2 ny.2 rfl
  rw[ey] at o1 CX ⊢
  clear hr
  go_enter func290,ntmps290
  go_wp2_with fail
  refine(CX.out _).mono ?_
  rintro _ _ ⟨rfl,rfl⟩
  go_wp2_with fail
  refine(CY.out _).mono ?_
  rintro _ _ ⟨rfl,rfl⟩
  go_wp2
  go_ret
  exact⟨gI (by first|rfl|(rw[zZ,ey])|(rw[zZ];exact ey.symm)),rfl⟩
 have kp:au p<9218868437227405312:=by
  have h4:=mh h.2
  unfold au bQ cA at *
  split<;>omega
 have o1:=iG h.1 ny.1 h.2 ny.2 (by rw[ky];exact kp)
 have o2:=iH ny.1 h.1 ny.2 h.2 (by rw[ky];exact kp)
 rw[ey] at o1 o2
 rcases Int.lt_trichotomy (au p) 0 with g|g|g
 ·have o3:=iG h.1 n0.1 h.2 n0.2 (by rw[k0];exact g)
  rw[e0] at o3
  have hp:p<0∧p ≠ -9223372036854775808:=by unfold au at g;split at g<;>omega
  have hn:next p=p-1:=by unfold next;rw[if_neg h.2,if_neg a1,if_neg hp.2,if_pos hp.1]
  have hv:wd (p-1)=wd p-1∧1<=wd p:=by unfold wd;omega
  clear hr
  go_enter func290,ntmps290
  go_wp2_with fail
  refine(CX.out _).mono ?_
  rintro _ _ ⟨rfl,rfl⟩
  go_wp2_with fail
  refine(CY.out _).mono ?_
  rintro _ _ ⟨rfl,rfl⟩
  go_wp2
  go_ret
  exact⟨gI (by rw[hn,hv.1]),rfl⟩
 ·have o3:=ii h.1 n0.1 h.2 n0.2 (by rw[k0];exact g)
  rw[e0] at o3
  have hp:p=0∨p=-9223372036854775808:=by unfold au at g;split at g<;>omega
  have hn:next p=1:=by rcases hp with rfl|rfl<;>decide
  have e1:wd 1=1:=by decide
  clear hr
  go_enter func290,ntmps290
  go_wp2_with fail
  refine(CX.out _).mono ?_
  rintro _ _ ⟨rfl,rfl⟩
  go_wp2_with fail
  refine(CY.out _).mono ?_
  rintro _ _ ⟨rfl,rfl⟩
  go_wp2_with (go_at_call 318;refine(Pm _).mono ?_;rintro _ _ ⟨rfl,rfl⟩)
  go_ret
  exact⟨gI (by rw[hn];exact e1.symm),rfl⟩
 ·have o3:=iH h.1 n0.1 h.2 n0.2 (by rw[k0];exact g)
  rw[e0] at o3
  have hp:0<p:=by unfold au at g;split at g<;>omega
  have hn:next p=p+1:=by unfold next;rw[if_neg h.2,if_neg a1,if_neg (by omega),if_neg (by omega)]
  have hv:wd (p+1)=wd p+1∧wd p<9223372036854775808:=by unfold wd;unfold au at kp;split at kp<;>omega
  clear hr
  go_enter func290,ntmps290
  go_wp2_with fail
  refine(CX.out _).mono ?_
  rintro _ _ ⟨rfl,rfl⟩
  go_wp2_with fail
  refine(CY.out _).mono ?_
  rintro _ _ ⟨rfl,rfl⟩
  go_wp2
  go_ret
  exact⟨gI (by rw[hn,hv.1]),rfl⟩
theorem oX {p:Int} (h:nn p) (a1:¬ p=-4503599627370496):fm p=if p=0∨p=-9223372036854775808 then -9223372036854775807 else if p<0 then p+1 else p-1:=by
 have hr:=h.1
 have h4:=mh h.2
 unfold ag at hr
 by_cases z:p=0∨p=-9223372036854775808
 ·rw[if_pos z];rcases z with rfl|rfl<;>decide
 rw[if_neg z]
 obtain⟨n1,k1⟩:=ff h
 have e1:neg p=if p<0 then p+9223372036854775808 else p-9223372036854775808:=by unfold neg;rw[if_neg h.2]
 have i1:¬ neg p=9218868437227405312:=by rw[e1];split<;>omega
 obtain⟨_,n2,_,_⟩:=uD n1.1 n1.2 i1
 have e2:next (neg p)=if neg p<0 then neg p-1 else neg p+1:=by unfold next;rw[if_neg n1.2,if_neg i1,if_neg (by rw[e1];split<;>omega)]
 unfold fm
 unfold neg
 rw[if_neg (by exact n2)]
 show(if next (neg p)<0 then next (neg p)+9223372036854775808 else next (neg p)-9223372036854775808)=_
 rw[e2,e1]
 unfold bQ cA at h4
 repeat' split
 all_goals omega
theorem Kj {p:Int} (h:nn p) (w:World) :
  Calls prog 290 #[G7 (wd p),G7 18442240474082181120] w fun e w'=>e=.returned (G7 (wd (fm p)))∧w'=w:=by
 have hd:=gB
 have hbt:=jt
 have ey:wd (-4503599627370496)=18442240474082181120:=by decide
 have ny:nn (-4503599627370496):=⟨by unfold ag;omega,by decide⟩
 have ky:au (-4503599627370496)=-9218868437227405312:=by decide
 have n0:nn 0:=kK.1
 have k0:au 0=0:=by decide
 have e0:wd 0=0:=by decide
 have hr:=h.1
 unfold ag at hr
 have CX:Hid (∀ W,Calls prog 316 #[G7 (wd p)] W fun e w'=>e=.returned (.bool false)∧w'=W):=fun W=>rz h W
 have CY:Hid (∀ W,Calls prog 316 #[G7 18442240474082181120] W fun e w'=>e=.returned (.bool false)∧w'=W):=fun W=>by rw[<- ey];exact rz ny W
 have hw:=zn p
 by_cases a1:p=-4503599627370496
 ·subst a1
  have o1:=ii h.1 ny.1 h.2 ny.2 rfl
  rw[ey] at o1 CX ⊢
  clear hr
  go_enter func290,ntmps290
  go_wp2_with fail
  refine(CX.out _).mono ?_
  rintro _ _ ⟨rfl,rfl⟩
  go_wp2_with fail
  refine(CY.out _).mono ?_
  rintro _ _ ⟨rfl,rfl⟩
  go_wp2
  go_ret
  exact⟨gI (by rw[show fm (-4503599627370496)=-4503599627370496 by decide];exact ey.symm),rfl⟩
 have kp:-9218868437227405312<au p:=by
  have h4:=mh h.2
  unfold au bQ cA at *
  split<;>omega
 have o1:=iH h.1 ny.1 h.2 ny.2 (by rw[ky];exact kp)
 have o2:=iG ny.1 h.1 ny.2 h.2 (by rw[ky];exact kp)
 rw[ey] at o1 o2
 rcases Int.lt_trichotomy (au p) 0 with g|g|g
 ·have o3:=iG h.1 n0.1 h.2 n0.2 (by rw[k0];exact g)
  rw[e0] at o3
  have hp:p<0∧p ≠ -9223372036854775808:=by unfold au at g;split at g<;>omega
  have hn:fm p=p+1:=by have:=zY h.1 h.2 a1;have hq:=oX h a1;rw[hq,if_neg (by omega),if_pos hp.1]
  have hv:wd (p+1)=wd p+1∧wd p<18446744073709551615:=by unfold wd;unfold au at kp;split at kp<;>omega
  clear hr
  go_enter func290,ntmps290
  go_wp2_with fail
  refine(CX.out _).mono ?_
  rintro _ _ ⟨rfl,rfl⟩
  go_wp2_with fail
  refine(CY.out _).mono ?_
  rintro _ _ ⟨rfl,rfl⟩
  go_wp2
  go_ret
  exact⟨gI (by rw[hn,hv.1]),rfl⟩
 ·have o3:=ii h.1 n0.1 h.2 n0.2 (by rw[k0];exact g)
  rw[e0] at o3
  have hp:p=0∨p=-9223372036854775808:=by unfold au at g;split at g<;>omega
  have hn:fm p=-9223372036854775807:=by rcases hp with rfl|rfl<;>decide
  have e1:wd (-9223372036854775807)=9223372036854775809:=by decide
  clear hr
  go_enter func290,ntmps290
  go_wp2_with fail
  refine(CX.out _).mono ?_
  rintro _ _ ⟨rfl,rfl⟩
  go_wp2_with fail
  refine(CY.out _).mono ?_
  rintro _ _ ⟨rfl,rfl⟩
  go_wp2_with (go_at_call 318;refine(Ki _).mono ?_;rintro _ _ ⟨rfl,rfl⟩)
  go_ret
  exact⟨gI (by rw[hn];exact e1.symm),rfl⟩
 ·have o3:=iH h.1 n0.1 h.2 n0.2 (by rw[k0];exact g)
  rw[e0] at o3
  have hp:0<p:=by unfold au at g;split at g<;>omega
  have hn:fm p=p-1:=by rw[oX h a1,if_neg (by omega),if_neg (by omega)]
  have hv:wd (p-1)=wd p-1∧1<=wd p:=by unfold wd;omega
  clear hr
  go_enter func290,ntmps290
  go_wp2_with fail
  refine(CX.out _).mono ?_
  rintro _ _ ⟨rfl,rfl⟩
  go_wp2_with fail
  refine(CY.out _).mono ?_
  rintro _ _ ⟨rfl,rfl⟩
  go_wp2
  go_ret
  exact⟨gI (by rw[hn,hv.1]),rfl⟩
theorem EQ {p:Int} (h:nn p) (l:Nat) (o:FloatKind.f64.format.order l 0=some .lt) (w:World) :
  Calls prog 248 #[G7 (wd p),G7 l] w fun e w'=>e=.returned (.agg #[G7 (wd (fm p)),G7 (wd p)])∧w'=w.alloc (.cells #[G7 (wd (fm p)),G7 (wd p)] 160):=by
 have hst:∀ (p:Addr) (n:Nat) (m:Mode) (w:World),(store p (G7 n) m).run prog w=stored prog w p (G7 n) m:=fun p n m w=>run_store _ w p _ m rfl
 have CI:Hid (∀ W,Calls prog 291 #[G6 (-1)] W fun e w'=>e=.returned (G7 18442240474082181120)∧w'=W):=fun W=>Nl W
 have CN:Hid (∀ W,Calls prog 290 #[G7 (wd p),G7 18442240474082181120] W fun e w'=>e=.returned (G7 (wd (fm p)))∧w'=W):=fun W=>Kj h W
 have hg:(w.alloc (.cells #[G7 (wd (fm p)),G7 (wd p)] 160)).heap[w.heap.size]?=some (.cells #[G7 (wd (fm p)),G7 (wd p)] 160 (0,0)):=by show(w.heap.push _)[w.heap.size]?=_;simp
 have e0:=ae hg 0 rfl
 have e1:=ae hg 1 rfl
 clear h
 go_enter func248,ntmps248
 go_wp2_with fail
 refine(CI.out _).mono ?_
 rintro _ _ ⟨rfl,rfl⟩
 go_wp2_with fail
 refine(CN.out _).mono ?_
 rintro _ _ ⟨rfl,rfl⟩
 go_wp2
 refine bodyPost_ret (v:=.agg #[G7 (wd (fm p)),G7 (wd p)]) (by simp[results,results248,go_sem,e0,e1]) rfl ⟨rfl,rfl⟩
theorem Kk {p:Int} (h:nn p) (l:Nat) (o:FloatKind.f64.format.order l 0=some .gt) (w:World) :
  Calls prog 248 #[G7 (wd p),G7 l] w fun e w'=>e=.returned (.agg #[G7 (wd p),G7 (wd (next p))])∧w'=w.alloc (.cells #[G7 (wd p),G7 (wd (next p))] 160):=by
 have hst:∀ (p:Addr) (n:Nat) (m:Mode) (w:World),(store p (G7 n) m).run prog w=stored prog w p (G7 n) m:=fun p n m w=>run_store _ w p _ m rfl
 have CI:Hid (∀ W,Calls prog 291 #[G6 1] W fun e w'=>e=.returned (G7 9218868437227405312)∧w'=W):=fun W=>QP W
 have CN:Hid (∀ W,Calls prog 290 #[G7 (wd p),G7 9218868437227405312] W fun e w'=>e=.returned (G7 (wd (next p)))∧w'=W):=fun W=>Po h W
 have hg:(w.alloc (.cells #[G7 (wd p),G7 (wd (next p))] 160)).heap[w.heap.size]?=some (.cells #[G7 (wd p),G7 (wd (next p))] 160 (0,0)):=by show(w.heap.push _)[w.heap.size]?=_;simp
 have e0:=ae hg 0 rfl
 have e1:=ae hg 1 rfl
 clear h
 go_enter func248,ntmps248
 go_wp2_with fail
 refine(CI.out _).mono ?_
 rintro _ _ ⟨rfl,rfl⟩
 go_wp2_with fail
 refine(CN.out _).mono ?_
 rintro _ _ ⟨rfl,rfl⟩
 go_wp2
 refine bodyPost_ret (v:=.agg #[G7 (wd p),G7 (wd (next p))]) (by simp[results,results248,go_sem,e0,e1]) rfl ⟨rfl,rfl⟩
theorem ER (p l:Nat) (o:FloatKind.f64.format.order l 0=some .eq∨FloatKind.f64.format.order l 0=none) (w:World) :
  Calls prog 248 #[G7 p,G7 l] w fun e w'=>e=.returned (.agg #[G7 p,G7 p])∧w'=w.alloc (.cells #[G7 p,G7 p] 160):=by
 have hst:∀ (p:Addr) (n:Nat) (m:Mode) (w:World),(store p (G7 n) m).run prog w=stored prog w p (G7 n) m:=fun p n m w=>run_store _ w p _ m rfl
 have hg:(w.alloc (.cells #[G7 p,G7 p] 160)).heap[w.heap.size]?=some (.cells #[G7 p,G7 p] 160 (0,0)):=by show(w.heap.push _)[w.heap.size]?=_;simp
 have e0:=ae hg 0 rfl
 have e1:=ae hg 1 rfl
 rcases o with o|o
 all_goals
  go_enter func248,ntmps248
  go_wp2
  refine bodyPost_ret (v:=.agg #[G7 p,G7 p]) (by simp[results,results248,go_sem,e0,e1]) rfl ⟨rfl,rfl⟩
theorem rA (x:Int):sg true x=-x:=rfl
theorem rB (x:Int):sg false x=x:=rfl
theorem kH {ng:Bool} {r0:Nat} {left:Int} (way:Int) (h:(r0:Int)<9218868437227405312):bF way ng r0 left=(r0:Int)+(if bX way ng (decide (r0 % 2=1)) left then 1 else 0):=by
 unfold bF;rw[if_pos h]
theorem te {V:Int} (h0:V≠0):∃ (g:Bool) (A:Int) (r0:Nat) (left:Int),V=sg g A∧0<A∧fi A r0 left∧bT V=aG g (bF 0 g r0 left)∧fH 1 V=aG g (bF 1 g r0 left)∧fH 2 V=aG g (bF 2 g r0 left):=by
 obtain⟨A,r0,left,e1,hR,e2⟩:=iA h0
 have hA:0<A:=by
  by_cases hn:V<0
  ·rw[decide_eq_true hn] at e1
   have:V=-A:=e1
   omega
  ·rw[decide_eq_false hn] at e1
   have:V=A:=e1
   omega
 exact⟨decide (V<0),A,r0,left,e1,hA,hR,e2,tb h0 ⟨A,r0,left,e1,hR,rfl⟩,tb h0 ⟨A,r0,left,e1,hR,rfl⟩⟩
theorem lA {g:Bool} {r:Int} (h0:0<=r) (h1:r<=9218868437227405312):nn (aG g r):=by
 obtain⟨a,b⟩:=jA (ng:=g) h0 h1
 exact⟨a,b⟩
theorem Hl {r:Int} (h0:0<=r) (h1:r<9218868437227405312):next (aG false r)=aG false (r+1):=by
 have hn:=lA (g:=false) h0 (by omega)
 unfold next
 rw[if_neg hn.2]
 show(if r=9218868437227405312 then r else if r=-9223372036854775808 then 1 else if r<0 then r-1 else r+1)=r+1
 rw[if_neg (by omega),if_neg (by omega),if_neg (by omega)]
theorem Hm {r:Int} (h0:0<=r) (h1:r<9218868437227405312):next (aG true (r+1))=aG true r:=by
 have hn:=lA (g:=true) (show 0<=r+1 by omega) (by omega)
 unfold next
 rw[if_neg hn.2]
 show(if r+1-9223372036854775808=9218868437227405312 then r+1-9223372036854775808 else if r+1-9223372036854775808=-9223372036854775808 then 1 else if r+1-9223372036854775808<0 then r+1-9223372036854775808-1 else r+1-9223372036854775808+1)=r-9223372036854775808
 rw[if_neg (by omega),if_neg (by omega),if_pos (by omega)]
 omega
theorem Hn {r:Int} (h0:0<=r) (h1:r<9218868437227405312):fm (aG false (r+1))=aG false r:=by
 have hn:=lA (g:=false) (show 0<=r+1 by omega) (by omega)
 rw[oX hn (show ¬ r+1=-4503599627370496 by omega)]
 show(if r+1=0∨r+1=-9223372036854775808 then (-9223372036854775807:Int) else if r+1<0 then r+1+1 else r+1-1)=r
 rw[if_neg (by omega),if_neg (by omega)]
 omega
theorem Hp {r:Int} (h0:0<=r) (h1:r<9218868437227405312):fm (aG true r)=aG true (r+1):=by
 have hn:=lA (g:=true) h0 (by omega)
 rw[oX hn (show ¬ r-9223372036854775808=-4503599627370496 by omega)]
 show(if r-9223372036854775808=0∨r-9223372036854775808=-9223372036854775808 then (-9223372036854775807:Int) else if r-9223372036854775808<0 then r-9223372036854775808+1 else r-9223372036854775808-1)=r+1-9223372036854775808
 by_cases hr:r=0
 ·rw[if_pos (by omega)];omega
 ·rw[if_neg (by omega),if_pos (by omega)];omega
theorem vR (odd:Bool) (left:Int):bX 1 false odd left=false∧(left≠0->bX 1 true odd left=true)∧bX 2 true odd left=false∧(left≠0->bX 2 false odd left=true)∧(∀ way g,left=0->bX way g odd left=false):=by
 refine⟨?_,fun h=>?_,?_,fun h=>?_,fun way g h=>?_⟩
 ·unfold bX;simp
 ·unfold bX;simp[h]
 ·unfold bX;simp
 ·unfold bX;simp[h]
 ·cases hu:bX way g odd left
  ·rfl
  ·rw[h] at hu;exact absurd hu (fun q=>jy q)
theorem DC {V:Int} (h0:V≠0) (hf:ak (bT V)=true) :
  (V<aq (bT V)->fm (bT V)=fH 1 V∧bT V=fH 2 V)∧(aq (bT V)<V->bT V=fH 1 V∧next (bT V)=fH 2 V)∧(V=aq (bT V)->bT V=fH 1 V∧bT V=fH 2 V):=by
 obtain⟨g,A,r0,left,e,hA,hR,en,e1,e2⟩:=te h0
 have hrr:=dJ 0 g r0 left
 rw[en,ki hrr.1 hrr.2] at hf
 have hf:=of_decide_eq_true hf
 have hr0:(r0:Int)<9218868437227405312:=by
  rcases Int.lt_or_le (r0:Int) 9218868437227405312 with q|q
  ·exact q
  ·exfalso
   unfold bF at hf
   rw[if_neg (by omega)] at hf
   unfold eL at hf
   rw[show bX 0 g true 3=true by cases g<;>decide,if_pos rfl] at hf
   omega
 obtain⟨lo,hi,l0,l1,l2,l3⟩:=hR
 obtain⟨u1,u2,u3,u4,u5⟩:=vR (decide (r0 % 2=1)) left
 rw[en,e1,e2,kH 1 hr0,kH 2 hr0]
 rw[kH 0 hr0] at hf ⊢
 have pv:∀ r:Nat,(r:Int)<9218868437227405312->aq (aG g (r:Int))=sg g (vS r):=fun r hr=>by
  cases g
  ·exact jZ hr (fun q=>by cases q)
  ·exact uE hr
 have pv0:=pv r0 hr0
 have pv1:=pv (r0+1)
 clear pv l1 l2 l3
 generalize vS r0=a at *
 generalize vS (r0+1)=b at *
 by_cases hl:left=0
 ·have ha:=l0.1 hl
  rw[u5 0 g hl,u5 1 g hl,u5 2 g hl]
  simp only[Bool.false_eq_true,if_false,Int.add_zero] at hf ⊢
  rw[pv0,e,ha]
  clear pv0 pv1 en e1 e2 e h0
  exact⟨fun q=>absurd q (by omega),fun q=>absurd q (by omega),fun _=>⟨trivial,trivial⟩⟩
 ·have hlt:a<A:=by
   have:A≠a:=fun q=>hl (l0.2 q)
   omega
  cases hu:bX 0 g (decide (r0 % 2=1)) left
  ·rw[hu] at hf
   simp only[Bool.false_eq_true,if_false,Int.add_zero] at hf ⊢
   rw[pv0,e]
   clear pv0 pv1 en e1 e2 e h0
   cases g
   ·rw[u1,u4 hl]
    simp only[Bool.false_eq_true,if_false,if_true,Int.add_zero]
    refine⟨fun q=>?_,fun _=>⟨trivial,Hl (by omega) hr0⟩,fun q=>?_⟩
    ·rw[rB,rB] at q
     omega
    ·rw[rB,rB] at q
     omega
   ·rw[u2 hl,u3]
    simp only[Bool.false_eq_true,if_false,if_true,Int.add_zero]
    refine⟨fun _=>⟨Hp (by omega) hr0,trivial⟩,fun q=>?_,fun q=>?_⟩
    ·rw[rA,rA] at q
     omega
    ·rw[rA,rA] at q
     omega
  ·rw[hu] at hf
   simp only[if_true] at hf ⊢
   rw[show(r0:Int)+1=((r0+1:Nat):Int) by push_cast;rfl] at hf ⊢
   rw[pv1 hf,e]
   clear pv0 pv1 en e1 e2 e h0
   rw[show((r0+1:Nat):Int)=(r0:Int)+1 by push_cast;rfl]
   cases g
   ·rw[u1,u4 hl]
    simp only[Bool.false_eq_true,if_false,if_true,Int.add_zero]
    refine⟨fun _=>⟨Hn (by omega) hr0,trivial⟩,fun q=>?_,fun q=>?_⟩
    ·rw[rB,rB] at q
     omega
    ·rw[rB,rB] at q
     omega
   ·rw[u2 hl,u3]
    simp only[Bool.false_eq_true,if_false,if_true,Int.add_zero]
    refine⟨fun q=>?_,fun _=>⟨trivial,Hm (by omega) hr0⟩,fun q=>?_⟩
    ·rw[rA,rA] at q
     omega
    ·rw[rA,rA] at q
     omega
theorem DD {V:Int} (h0:V≠0) (hf:ak (bT V)=false) :
  (0<V->bT V=9218868437227405312∧fH 1 V=9218868437227405311∧fH 2 V=9218868437227405312)∧(V<0->bT V=-4503599627370496∧fH 1 V=-4503599627370496∧fH 2 V=-4503599627370497):=by
 obtain⟨g,A,r0,left,e,hA,hR,en,e1,e2⟩:=te h0
 have hrr:=dJ 0 g r0 left
 rw[en,ki hrr.1 hrr.2] at hf
 have hf:=of_decide_eq_false hf
 obtain⟨u1,u2,u3,u4,u5⟩:=vR (decide (r0 % 2=1)) left
 have hr:bF 0 g r0 left=9218868437227405312:=by omega
 have au:(∀ g',g=g'->bF 1 g r0 left=if g' then 9218868437227405312 else 9218868437227405311)∧(∀ g',g=g'->bF 2 g r0 left=if g' then 9218868437227405311 else 9218868437227405312):=by
  by_cases hr0:(r0:Int)<9218868437227405312
  ·rw[kH 0 hr0] at hr
   have hl:left≠0:=fun q=>by
    rw[u5 0 g q] at hr
    simp at hr
    omega
   have hrv:(r0:Int)=9218868437227405311:=by
    split at hr<;>omega
   rw[kH 1 hr0,kH 2 hr0]
   cases g
   ·rw[u1,u4 hl]
    constructor
    ·intro g' hg;subst hg;simp;omega
    ·intro g' hg;subst hg;simp;omega
   ·rw[u2 hl,u3]
    constructor
    ·intro g' hg;subst hg;simp;omega
    ·intro g' hg;subst hg;simp;omega
  ·unfold bF eL
   rw[if_neg hr0,if_neg hr0]
   cases g
   ·constructor
    ·intro g' hg;subst hg;decide
    ·intro g' hg;subst hg;decide
   ·constructor
    ·intro g' hg;subst hg;decide
    ·intro g' hg;subst hg;decide
 cases g
 ·refine⟨fun _=>⟨?_,?_,?_⟩,fun q=>?_⟩
  ·rw[en,hr];rfl
  ·rw[e1,au.1 false rfl];rfl
  ·rw[e2,au.2 false rfl];rfl
  ·have:V=A:=e
   omega
 ·refine⟨fun q=>?_,fun _=>⟨?_,?_,?_⟩⟩
  ·have:V=-A:=e
   omega
  ·rw[en,hr];rfl
  ·rw[e1,au.1 true rfl];rfl
  ·rw[e2,au.2 true rfl];rfl
def dr (a b:Int):Int:=sg (bN a b) (fV a b)
theorem Pp {a b:Int}:dr a b=aq a*aq b/2^4194304:=by
 unfold dr fV
 cases bN a b
 ·rfl
 ·show - -_=_;rw[Int.neg_neg]
theorem mT {a b:Int} (ra:ag a) (rb:ag b) (pa:ak a=true) (pb:ak b=true) :
  ∃ N t:Nat,fV a b=(N:Int)*pw (-2148+(t:Int))∧N<2^106∧dr a b*2^4194304=aq a*aq b:=by
 obtain⟨m,u,h1,v1⟩:=dV ra pa
 obtain⟨n,v,h2,v2⟩:=dV rb pb
 have b1:=AK ra pa h1
 have b2:=AK rb pb h2
 have hpm:=oh (a:=-1074+(u:Int)) (b:=-1074+(v:Int)) (by omega) (by omega)
 have hC:=sU (g:=decide (a<0)) (h:=decide (b<0)) (x:=(m:Int)) (y:=(n:Int)) hpm
 rw[<- v1,<- v2] at hC
 have hcast:((m*n:Nat):Int)=(m:Int)*(n:Int):=by push_cast;rfl
 have hf:fV a b=((m*n:Nat):Int)*pw (-1074+(u:Int)+(-1074+(v:Int))):=by rw[hcast];exact uG (aR 4194304) hC
 refine⟨m*n,u+v,?_,?_,?_⟩
 ·rw[hf,show -1074+(u:Int)+(-1074+(v:Int))=-2148+((u+v:Nat):Int) by push_cast;omega]
 ·have e:(2:Nat)^106=9007199254740992*9007199254740992:=by decide
  rw[e]
  exact Nat.lt_of_le_of_lt (Nat.mul_le_mul_left m (Nat.le_of_lt b2.1)) (Nat.mul_lt_mul_of_pos_right b1.1 (by decide))
 ·rw[<- hC]
  unfold dr
  rw[hf,hcast]
  rfl
theorem Kl {N U s t q Z E:Nat} (hE:E=1074) (hZ:Z=2^E) (hq:0<q) (hN:N<2^106) (hU:4503599627370496<=U) (lo:U*2^s*(q*Z)<=N*(q*2^t)):s+1021<=t:=by
 have e52:(2:Nat)^52=4503599627370496:=by decide
 have hB:=Nat.two_pow_pos s
 have hC:=Nat.two_pow_pos t
 have hZ0:0<Z:=by rw[hZ];exact Nat.two_pow_pos _
 have l1:4503599627370496*(2^s*Z*q)<=U*2^s*(q*Z):=by
  rw[show U*2^s*(q*Z)=U*(2^s*Z*q) by generalize (2:Nat)^s=B;grind]
  exact Nat.mul_le_mul_right _ hU
 have l2:N*(q*2^t)<2^106*2^t*q:=by
  rw[show 2^106*2^t*q=2^106*(q*2^t) by generalize (2:Nat)^106=A;generalize (2:Nat)^t=B;grind]
  exact Nat.mul_lt_mul_of_pos_right hN (Nat.mul_pos hq hC)
 have l3:(4503599627370496*2^s*Z)*q<(2^106*2^t)*q:=by
  have:4503599627370496*2^s*Z*q=4503599627370496*(2^s*Z*q):=by generalize (2:Nat)^s=B;grind
  rw[this]
  exact Nat.lt_of_le_of_lt (Nat.le_trans l1 lo) l2
 have l4:=Nat.lt_of_mul_lt_mul_right l3
 rw[<- e52,hZ,<- Nat.pow_add,<- Nat.pow_add,<- Nat.pow_add] at l4
 have h3:=(Nat.pow_lt_pow_iff_right (by decide:1<2)).1 l4
 omega
theorem Pq {N U s k:Nat} {S:Int} (hk:s<=k+53) (h:S=(N:Int)*2^k-(U:Int)*2^s∨S=(N:Int)*2^k-((U:Int)+1)*2^s) (hS:(S.natAbs:Int)<2^s):Fl S:=by
 rcases Nat.lt_or_ge k s with g|g
 ·refine iB (k:=k) ?_ ?_
  ·obtain⟨d,hd⟩:=dI (Nat.le_of_lt g)
   rcases h with h|h
   ·exact⟨N-U*d,by rw[h,hd];grind⟩
   ·exact⟨N-(U+1)*d,by rw[h,hd];grind⟩
  ·have h1:=jB hk
   rw[Int.pow_add,show(2:Int)^53=9007199254740992 by decide,Int.mul_comm] at h1
   omega
 ·obtain⟨d,hd⟩:=dI g
  have hdv:(2^s:Int) ∣ S:=by
   rcases h with h|h
   ·exact⟨N*d-U,by rw[h,hd];grind⟩
   ·exact⟨N*d-(U+1),by rw[h,hd];grind⟩
  have h0:S=0:=by
   obtain⟨c,hc⟩:=hdv
   have hp:=p2 s
   rcases Int.lt_trichotomy c 0 with hn|hn|hn
   ·have:2^s*c<=2^s*(-1):=Int.mul_le_mul_of_nonneg_left (by omega) (Int.le_of_lt hp)
    omega
   ·rw[hc,hn,Int.mul_zero]
   ·have:2^s*1<=2^s*c:=Int.mul_le_mul_of_nonneg_left (by omega) (Int.le_of_lt hp)
    omega
  rw[h0];exact dA
theorem SO (a b:Int):-a - -b=-(a-b):=by omega
theorem Nm {N U s t E:Nat} {z q pt W:Int} (hE:E=1074) (hz:0<z) (et:pt=z*2^t) (eq:q=z*2^E) (hN:N<2^106) (hU0:4503599627370496<=U) (hs0:60<=s) (Rlo:(U:Int)*2^s*q<=(N:Int)*pt) (Rhi:(N:Int)*pt<((U:Int)+1)*2^s*q)
  (hW:W=(U:Int)*2^s∨(W=((U:Int)+1)*2^s∧(N:Int)*pt≠(U:Int)*2^s*q)) (hmax:(U:Int)*2^s<=jO):∃ S:Int,(N:Int)*pt-W*q=S*q∧Fl S∧(S.natAbs:Int)<=jO:=by
 have hts:s+1021<=t:=by
  obtain⟨Z,hZ⟩:∃ Z:Nat,Z=2^E:=⟨_,rfl⟩
  have hZi:(2:Int)^E=(Z:Int):=by rw[hZ];push_cast;rfl
  obtain⟨n,rfl⟩:∃ n:Nat,z=n:=⟨z.toNat,by omega⟩
  rw[et,eq,hZi] at Rlo
  refine Kl (N:=N) (U:=U) (q:=n) hE hZ (by omega) hN hU0 ?_
  exact_mod_cast Rlo
 obtain⟨k,rfl⟩:∃ k,t=E+k:=⟨t-E,by omega⟩
 have eA:pt=2^k*q:=by
  rw[et,eq,Nat.add_comm,Int.pow_add]
  generalize (2:Int)^E=X
  generalize (2:Int)^k=Y
  grind
 have hq:0<q:=by rw[eq];exact Int.mul_pos hz (p2 E)
 clear et eq
 rw[eA,<- Int.mul_assoc] at Rlo Rhi hW
 rw[eA,<- Int.mul_assoc]
 have Rlo:=Int.le_of_mul_le_mul_right Rlo hq
 have Rhi:=Int.lt_of_mul_lt_mul_right Rhi (Int.le_of_lt hq)
 have hp:=p2 s
 have hU2:2^s<=(U:Int)*2^s:=by
  have:=Int.mul_le_mul_of_nonneg_right (show(1:Int)<=U by omega) (Int.le_of_lt hp)
  rwa [Int.one_mul] at this
 have hW2:W=(U:Int)*2^s∨(W=((U:Int)+1)*2^s∧(N:Int)*2^k≠(U:Int)*2^s):=by
  rcases hW with h|⟨h,g⟩
  ·exact .inl h
  ·exact .inr ⟨h,fun e=>g (by rw[e])⟩
 clear hW
 have hS:(((N:Int)*2^k-W).natAbs:Int)<2^s:=by
  rw[Int.add_mul,Int.one_mul] at Rhi hW2
  clear hmax
  generalize (N:Int)*2^k=x at *
  generalize (2:Int)^s=y at *
  generalize (U:Int)*y=z' at *
  rcases hW2 with hW|⟨hW,g⟩<;>omega
 have hF:Fl ((N:Int)*2^k-W):=Pq (N:=N) (k:=k) (U:=U) (s:=s) (by omega) (by rcases hW2 with hW|⟨hW,_⟩;exact .inl (by rw[hW]);exact .inr (by rw[hW])) hS
 refine⟨(N:Int)*2^k-W,by rw[Int.sub_mul],hF,?_⟩
 exact Int.le_trans (Int.le_of_lt hS) (Int.le_trans hU2 hmax)
theorem Pr:pw (-1074)=pw (-2148)*2^1074:=by
 obtain⟨E,hE⟩:∃ E:Nat,E=1074:=⟨_,rfl⟩
 have:=gW (e:=-2148) (by decide) E
 rw[show(-2148:Int)+(E:Int)=-1074 by rw[hE];decide] at this
 rw[<- hE]
 exact this
theorem Hq {a b way:Int} (ra:ag a) (rb:ag b) (pa:ak a=true) (pb:ak b=true) (h:dr a b≠0) (lo:283726776524341248<=rg (fH way (dr a b))) (hi:rg (fH way (dr a b))<=9209861237972664320∨(way=0∧rg (fH way (dr a b))<9218868437227405312)) :
  ∃ S:Int,dr a b-aq (fH way (dr a b))=S*pw (-1074)∧Fl S∧(S.natAbs:Int)<=jO:=by
 obtain⟨N,t,hf,hN,hX⟩:=mT ra rb pa pb
 clear hX
 obtain⟨A,r0,left,e1,hR,e2⟩:=AL way h
 generalize fH way (dr a b)=p at *
 have hA:A=(N:Int)*pw (-2148+(t:Int))∧decide (dr a b<0)=bN a b:=by
  have hp:0<fV a b:=by
   have h0:0<=fV a b:=by rw[hf];exact Int.mul_nonneg (by omega) (Int.le_of_lt (bR _))
   have h1:fV a b≠0:=fun e=>h (by unfold dr;rw[e];cases bN a b<;>rfl)
   omega
  have hs:decide (dr a b<0)=bN a b:=tK hp
  rw[hs] at e1
  exact⟨(lR e1).symm.trans hf,hs⟩
 obtain⟨hA,hs⟩:=hA
 rw[hs] at e1 e2
 have hrr:=dJ way (bN a b) r0 left
 obtain⟨rp,hrg,hng⟩:=eM (ng:=bN a b) hrr.1 hrr.2
 rw[<- e2] at rp hrg hng
 have hpp:ak p=true:=(bM rp).2 (by omega)
 have hr0:(r0:Int)<9218868437227405312:=by
  rcases Int.lt_or_le (r0:Int) 9218868437227405312 with g|g
  ·exact g
  ·exfalso
   rw[hrg] at hi
   unfold bF at hi
   rw[if_neg (by omega)] at hi
   unfold eL at hi
   rcases hi with hi|⟨hw,hi⟩
   ·split at hi<;>omega
   ·rw[hw,show bX 0 (bN a b) true 3=true by cases bN a b<;>decide,if_pos rfl] at hi
    omega
 have hrt:bF way (bN a b) r0 left=(r0:Int)∨(bF way (bN a b) r0 left=(r0:Int)+1∧left≠0):=by
  unfold bF
  rw[if_pos hr0]
  by_cases hu:bX way (bN a b) (decide (r0 % 2=1)) left=true
  ·right
   rw[if_pos hu]
   exact⟨rfl,fun e=>by rw[e] at hu;exact jy hu⟩
  ·left
   rw[if_neg hu];omega
 obtain⟨Rlo,Rhi,l0,_,_,_⟩:=hR
 obtain⟨s,U,hsU,hU0,hU1,hs0,hs1⟩:∃ s U:Nat,r0=s*4503599627370496+U∧4503599627370496<=U∧U<9007199254740992∧60<=s∧s<=2045:=by
  refine⟨r0/4503599627370496-1,r0-(r0/4503599627370496-1)*4503599627370496,?_,?_,?_,?_,?_⟩
  all_goals (rcases hrt with g|⟨g,_⟩<;>omega)
 obtain⟨V0,V1⟩:=pO Ieee.double s U (by rw[mu];omega) (fun _=>by rw[mu];omega)
 rw[mu,<- hsU] at V0 V1
 have hmax:(U:Int)*2^s<=jO:=by
  have:=wM (show r0<=9218868437227405311 by omega)
  rw[V0] at this
  push_cast at this
  exact this
 have hrt:∃ W:Int,(W=(U:Int)*2^s∨(W=((U:Int)+1)*2^s∧left≠0))∧(V Ieee.double (bF way (bN a b) r0 left).toNat:Int)=W:=by
  rcases hrt with g|⟨g,g2⟩
  ·refine⟨_,.inl ?_,rfl⟩
   rw[g,Int.toNat_natCast,V0];push_cast;rfl
  ·refine⟨_,.inr ⟨?_,g2⟩,rfl⟩
   rw[g,show((r0:Int)+1).toNat=r0+1 by omega,V1];push_cast;rfl
 obtain⟨W,hW,hVW⟩:=hrt
 unfold vS at Rlo Rhi l0
 rw[V0] at Rlo l0
 rw[V1] at Rhi
 push_cast at Rlo Rhi l0
 rw[hA] at Rlo Rhi l0
 have hpv:aq p=sg (bN a b) W*pw (-1074):=by
  rw[cQ rp hpp]
  unfold iV
  rw[hng,hrg,hVW]
 obtain⟨S,h1,h2,h3⟩:=Nm (E:=1074) rfl (bR (-2148)) (gW (by decide) t) Pr hN hU0 hs0 Rlo Rhi (by rcases hW with h|⟨h,g⟩;exact .inl h;exact .inr ⟨h,fun e=>g (l0.2 e)⟩) hmax
 refine⟨sg (bN a b) S,?_,?_,?_⟩
 ·rw[e1,hpv,hA,pV,pV,<- h1]
  cases bN a b
  ·rfl
  ·exact SO _ _
 ·cases bN a b
  ·exact h2
  ·exact h2.neg
 ·have hn:(sg (bN a b) S).natAbs=S.natAbs:=by
   cases bN a b
   ·rfl
   ·exact Int.natAbs_neg _
  rw[hn]
  exact h3
theorem Nn (p q r:Int):oD p q r=dr p q+aq r:=rfl
theorem eN {a:Int} (ra:ag a) (h:ak a=true):aH a≠4:=fun e=>by
 have hf:=vf h
 unfold aH at e
 rw[if_neg hf] at e
 split at e
 ·split at e<;>omega
 ·omega
theorem ES {S:Int} (hF:Fl S) (h0:S≠0) (hb:(S.natAbs:Int)<=jO):ag (bT (S*pw (-1074)))∧ak (bT (S*pw (-1074)))=true∧iV (bT (S*pw (-1074)))=S:=by
 obtain⟨h1,h2,h3⟩:=Dm h0
 exact⟨h1,h3 hb,bt hF (h2 (h3 hb))⟩
def iM (way a b:Int):Int:=if way=0∨(ak a&&ak b)=false then aC (aY a) (aY b) else if dr a b≠0 then fH way (dr a b) else aC (aY a) (aY b)
theorem Km {a b c:Int} (ra:ag a) (rb:ag b) (rc:ag c) (pa:ak a=true) (pb:ak b=true) (pc:ak c=true) (h:oD a b c=0):gC a b c=aG (bN a b&&decide (c<0)) 0:=by
 have h1:=(bM ra).1 pa
 have h2:=(bM rb).1 pb
 have h3:=(bM rc).1 pc
 unfold gC
 have n4:¬ (aH a=4∨aH b=4∨aH c=4):=fun q=>by rcases q with q|q|q;exact eN ra pa q;exact eN rb pb q;exact eN rc pc q
 have i2:¬ (rg a=9218868437227405312∨rg b=9218868437227405312):=by omega
 have i3:¬ rg c=9218868437227405312:=by omega
 rw[if_neg n4,if_neg i2,if_neg i3,if_pos h]
theorem Kn {p:Int} (rp:ag p) (hp:ak p=true):aq (neg p)=-aq p:=by
 obtain⟨n1,n2,n3⟩:=gM rp hp
 rw[cQ n1 n2,cQ rp hp,n3,Int.neg_mul]
theorem uO {P:Program} (t:TypeId) {p q:Int} {x y:Nat} (hx:FW p x) (hy:FW q y) (h:aH (aF p q)≠4) (w:World) :
  (binOp .add t (G7 x) (G7 y)).run P w=.ok (G7 (wd (aF p q))) w:=by
 obtain⟨z,w',hr,hz⟩:=kD (P:=P) .add (.inl rfl) t x y w
 have hf:floatBits .add .f64 x y=Ieee.double.add x y:=rfl
 rw[hf] at hz
 rcases Af hx hy with⟨z',e1,e2⟩|⟨e1,e2⟩
 ·rcases hz with⟨h1,h2⟩|⟨h1,_⟩
  ·rw[e1] at h1;cases h1
   rw[hr,h2,(e2.of h).2.1]
  ·rw[e1] at h1;cases h1
 ·exact absurd (by rw[e2];exact ke) h
theorem Hr {P:Program} (t:TypeId) {p q:Int} {x y:Nat} (hx:FW p x) (hy:FW q y) (h:aH (aF p (neg q))≠4) (w:World) :
  (binOp .sub t (G7 x) (G7 y)).run P w=.ok (G7 (wd (aF p (neg q)))) w:=by
 obtain⟨z,w',hr,hz⟩:=kD (P:=P) .sub (.inr (.inl rfl)) t x y w
 have hf:floatBits .sub .f64 x y=Ieee.double.sub x y:=rfl
 rw[hf] at hz
 rcases Gx hx hy with⟨z',e1,e2⟩|⟨e1,e2⟩
 ·rcases hz with⟨h1,h2⟩|⟨h1,_⟩
  ·rw[e1] at h1;cases h1
   rw[hr,h2,(e2.of h).2.1]
  ·rw[e1] at h1;cases h1
 ·exact absurd (by rw[e2];exact ke) h
theorem Ko {l:Int} {L:Nat} (h:FW l L):(cm l 0=true->FloatKind.f64.format.order L 0=some .lt)∧(cm 0 l=true->FloatKind.f64.format.order L 0=some .gt)∧(cm l 0=false->cm 0 l=false->FloatKind.f64.format.order L 0=some .eq∨FloatKind.f64.format.order L 0=none):=by
 have n0:=kK.1
 have k0:au 0=0:=by decide
 have e0:wd 0=0:=by decide
 have c0:¬ aH 0=4:=by decide
 by_cases h4:aH l=4
 ·have ho:FloatKind.f64.format.order L 0=none:=by
   rcases h with⟨a,_,_⟩|⟨rfl,hN⟩
   ·exact absurd h4 a
   ·exact xw Ieee.double Fy L 0 (.inl (by rw[oe,js];exact hN.2))
  have l1:cm l 0=false:=by unfold cm;simp[h4]
  have l2:cm 0 l=false:=by unfold cm;simp[h4]
  exact⟨fun h=>by (rw[l1] at h;cases h),fun h=>by (rw[l2] at h;cases h),fun _ _=>.inr ho⟩
 ·obtain⟨hr,rfl,_,_⟩:=h.of h4
  have l1:cm l 0=decide (au l<0):=by unfold cm;simp[h4,c0,k0]
  have l2:cm 0 l=decide (0<au l):=by unfold cm;simp[h4,c0,k0]
  rw[l1,l2]
  refine⟨fun g=>?_,fun g=>?_,fun g1 g2=>?_⟩
  ·have:=iG hr n0.1 h4 n0.2 (by rw[k0];exact of_decide_eq_true g)
   rwa [e0] at this
  ·have:=iH hr n0.1 h4 n0.2 (by rw[k0];exact of_decide_eq_true g)
   rwa [e0] at this
  ·have g1':=of_decide_eq_false g1
   have g2':=of_decide_eq_false g2
   have:=ii hr n0.1 h4 n0.2 (by rw[k0];omega)
   rw[e0] at this
   exact .inl this
def fj (n l:Int):Int:=if cm l 0 then fm n else n
def fl (n l:Int):Int:=if cm l 0 then n else if cm 0 l then next n else n
theorem vT {n l:Int} {L:Nat} (hn:nn n) (hl:FW l L) (w:World) :
  Calls prog 248 #[G7 (wd n),G7 L] w fun e w'=>e=.returned (.agg #[G7 (wd (fj n l)),G7 (wd (fl n l))])∧Below w.heap.size w w':=by
 obtain⟨o1,o2,o3⟩:=Ko hl
 unfold fj fl
 cases h1:cm l 0
 ·cases h2:cm 0 l
  ·exact(ER (wd n) L (o3 h1 h2) w).mono fun _ _ ⟨a,b⟩=>⟨a,by rw[b];exact af _ _⟩
  ·exact(Kk hn L (o2 h2) w).mono fun _ _ ⟨a,b⟩=>⟨a,by rw[b];exact af _ _⟩
 ·exact(EQ hn L (o1 h1) w).mono fun _ _ ⟨a,b⟩=>⟨a,by rw[b];exact af _ _⟩
theorem ud (w:World) (o:Obj):(w.alloc o).heap[w.heap.size]?=some o:=by
 show(w.heap.push o)[w.heap.size]?=_
 simp
def fN (p q:Int):Int:=if rg p<rg q then q else p
def jT (p q:Int):Int:=if rg p<rg q then p else q
def ck (p q:Int):Int:=aF (fN p q) (jT p q)
def eJ (p q:Int):Int:=aF (jT p q) (neg (aF (ck p q) (neg (fN p q))))
theorem AN {p q x y n l:Int} (hp:nn p) (hq:nn q) (hx:nn x) (hy:nn y) (hn:nn n) (en:n=aF x y) (el:l=aF y (neg (aF n (neg x)))) (w:World)
  (hsw:(FloatKind.f64.format.order (wd (rg p)) (wd (rg q))=some .lt∧x=q∧y=p)∨((FloatKind.f64.format.order (wd (rg p)) (wd (rg q))=some .gt∨FloatKind.f64.format.order (wd (rg p)) (wd (rg q))=some .eq)∧x=p∧y=q)) :
  Calls prog 217 #[G7 (wd p),G7 (wd q)] w fun e w'=>e=.returned (.agg #[G7 (wd (fj n l)),G7 (wd (fl n l))])∧Below w.heap.size w w':=by
 have CP:Hid (∀ W,Calls prog 34 #[G7 (wd p)] W fun e w'=>e=.returned (G7 (wd (rg p)))∧w'=W):=fun W=>eE hp.1 W
 have CQ:Hid (∀ W,Calls prog 34 #[G7 (wd q)] W fun e w'=>e=.returned (G7 (wd (rg q)))∧w'=W):=fun W=>eE hq.1 W
 have fx:FW x (wd x):=.inl ⟨hx.2,hx.1,rfl⟩
 have fy:FW y (wd y):=.inl ⟨hy.2,hy.1,rfl⟩
 have fn:FW n (wd n):=.inl ⟨hn.2,hn.1,rfl⟩
 have h1:∀ W,(binOp .add 59 (G7 (wd x)) (G7 (wd y))).run prog W=.ok (G7 (wd n)) W:=fun W=>by rw[en];exact uO _ fx fy (by rw[<- en];exact hn.2) W
 have hg:=ud w (.cells #[G7 0,G7 0] 160)
 have hba:=af w (.cells #[G7 0,G7 0] 160)
 obtain⟨D,W1,r1,fD,hW1⟩:=dK (P:=prog) 59 fn fx (w.alloc (.cells #[G7 0,G7 0] 160))
 obtain⟨L,W2,r2,fL,hW2⟩:=dK (P:=prog) 59 fy fD W1
 rw[<- el] at fL
 have b1:Below (w.alloc (.cells #[G7 0,G7 0] 160)).heap.size (w.alloc (.cells #[G7 0,G7 0] 160)) W1:=by
  rcases hW1 with rfl|rfl
  ·exact ap _
  ·exact(ap _).drew
 have b2:Below W1.heap.size W1 W2:=by
  rcases hW2 with rfl|rfl
  ·exact ap _
  ·exact(ap _).drew
 have CB:Hid (∀ W,Calls prog 248 #[G7 (wd n),G7 L] W fun e w'=>e=.returned (.agg #[G7 (wd (fj n l)),G7 (wd (fl n l))])∧Below W.heap.size W w'):=fun W=>vT hn fL W
 generalize wd (fj n l)=U at *
 generalize wd (fl n l)=V at *
 clear fx fy fn fD fL hW1 hW2 en el hx hy hn hp hq
 have fin:∀ (w3:World),Below W2.heap.size W2 w3->(store ⟨w.heap.size,0,none⟩ (G7 U)).run prog w3=.ok () (w3.setCell ⟨w.heap.size,0,none⟩ (G7 U))∧(store ⟨w.heap.size,1,none⟩ (G7 V)).run prog (w3.setCell ⟨w.heap.size,0,none⟩ (G7 U))=.ok () ((w3.setCell ⟨w.heap.size,0,none⟩ (G7 U)).setCell ⟨w.heap.size,1,none⟩ (G7 V))∧((w3.setCell ⟨w.heap.size,0,none⟩ (G7 U)).setCell ⟨w.heap.size,1,none⟩ (G7 V)).cell? ⟨w.heap.size,0,none⟩=some (G7 U)∧((w3.setCell ⟨w.heap.size,0,none⟩ (G7 U)).setCell ⟨w.heap.size,1,none⟩ (G7 V)).cell? ⟨w.heap.size,1,none⟩=some (G7 V)∧Below w.heap.size w ((w3.setCell ⟨w.heap.size,0,none⟩ (G7 U)).setCell ⟨w.heap.size,1,none⟩ (G7 V)):=by
  intro w3 hb3
  have hbb:=ac b1 (ac b2 hb3)
  have d2:=(hbb.block _ (aGe hg).1).trans hg
  have d3:=az d2 0 (G7 U)
  have d4:=az d3 1 (G7 V)
  have f0:=ae d2 0 rfl
  have z0:=ah d2 0
  have f1:=ae d3 1 rfl
  have z1:=ah d3 1
  refine⟨?_,?_,ae d4 0 rfl,ae d4 1 rfl,?_⟩
  ·rw[run_store _ _ _ _ _ rfl,f0];simp only[z0];rfl
  ·rw[run_store _ _ _ _ _ rfl,f1];simp only[z1];rfl
  ·exact((ac hba hbb).setCell (p:=⟨w.heap.size,0,none⟩) (Nat.le_refl _) _).setCell (p:=⟨w.heap.size,1,none⟩) (Nat.le_refl _) _
 have FIN:=aK fin
 clear fin b1 b2 hba hg
 rcases hsw with⟨o,rfl,rfl⟩|⟨o|o,rfl,rfl⟩
 all_goals
  go_enter func217,ntmps217
  go_wp2_with fail
  refine(CP.out _).mono ?_
  rintro _ _ ⟨rfl,rfl⟩
  go_wp2_with fail
  refine(CQ.out _).mono ?_
  rintro _ _ ⟨rfl,rfl⟩
  go_wp2_with fail
  refine(CB.out _).mono ?_
  rintro _ w3 ⟨rfl,hb3⟩
  obtain⟨s0,s1,e0,e1,hbe⟩:=FIN.out w3 hb3
  go_wp2
  refine bodyPost_ret (v:=.agg #[G7 U,G7 V]) (by simp[results,results217,go_sem,e0,e1]) rfl ⟨rfl,hbe⟩
theorem tL {p q:Int} (hp:nn p) (hq:nn q) (hn:nn (ck p q)) (w:World) :
  Calls prog 217 #[G7 (wd p),G7 (wd q)] w fun e w'=>e=.returned (gk (fj (ck p q) (eJ p q)) (fl (ck p q) (eJ p q)))∧Below w.heap.size w w':=by
 obtain⟨a1,a2⟩:=jN hp.1
 obtain⟨b1,b2⟩:=jN hq.1
 have ca:¬ aH (rg p)=4:=by rw[oO hp.1];exact hp.2
 have cb:¬ aH (rg q)=4:=by rw[oO hq.1];exact hq.2
 have ka:=lK a2
 have kb:=lK b2
 by_cases h:rg p<rg q
 ·have ex:fN p q=q:=if_pos h
  have ey:jT p q=p:=if_pos h
  refine AN hp hq hq hp hn (by unfold ck;rw[ex,ey]) (by unfold eJ;rw[ex,ey]) w (.inl ⟨iG a1 b1 ca cb (by rw[ka,kb];exact h),rfl,rfl⟩)
 ·have ex:fN p q=p:=if_neg h
  have ey:jT p q=q:=if_neg h
  refine AN hp hq hp hq hn (by unfold ck;rw[ex,ey]) (by unfold eJ;rw[ex,ey]) w (.inr ⟨?_,rfl,rfl⟩)
  by_cases e:rg p=rg q
  ·exact .inr (ii a1 b1 ca cb (by rw[ka,kb];exact e))
  ·exact .inl (iH a1 b1 ca cb (by rw[ka,kb];omega))
theorem Lz {p q:Int} (h:rg p<=rg q) (hp:0<=rg p):(iV p).natAbs<=(iV q).natAbs:=by
 have a:=mR p
 have b:=mR q
 have c:=wM (show(rg p).toNat<=(rg q).toNat by omega)
 omega
theorem Kq {p q:Int} (hp:ag p) (hq:ag q) (pp:ak p=true) (pq:ak q=true) (hf:ak (ck p q)=true):ak (eJ p q)=true∧iV (ck p q)+iV (eJ p q)=iV p+iV q:=by
 by_cases h:rg p<rg q
 ·have ex:fN p q=q:=if_pos h
  have ey:jT p q=p:=if_pos h
  unfold eJ ck at *
  rw[ex,ey] at hf ⊢
  obtain⟨a,b⟩:=qb hq hp pq pp hf (Lz (by omega) (jN hp).2)
  exact⟨a,by unfold fL at b;omega⟩
 ·have ex:fN p q=p:=if_neg h
  have ey:jT p q=q:=if_neg h
  unfold eJ ck at *
  rw[ex,ey] at hf ⊢
  obtain⟨a,b⟩:=qb hp hq pp pq hf (Lz (by omega) (jN hq).2)
  exact⟨a,by unfold fL at b;omega⟩
theorem rC {r:Nat}:(V Ieee.double r:Int)=0↔r=0:=by
 constructor
 ·intro h
  by_cases h0:r=0
  ·exact h0
  ·have:=oc Ieee.double (show 0<r by omega)
   rw[pJ] at this
   omega
 ·rintro rfl
  rw[pJ]
  rfl
theorem tf {p:Int} (hp:ag p):(iV p<0↔au p<0)∧(0<iV p↔0<au p):=by
 have hz:=@rC (rg p).toNat
 have hr:=jN hp
 unfold ag at hp
 have hv:(0:Int)<=(V Ieee.double (rg p).toNat:Int):=by omega
 by_cases h:p<0
 ·have e1:iV p=-(V Ieee.double (rg p).toNat:Int):=by unfold iV sg;simp[h]
  have e2:au p=-(rg p):=by unfold au rg;rw[if_pos h,if_pos h]
  rw[e1,e2]
  constructor<;>constructor<;>intro g<;>omega
 ·have e1:iV p=(V Ieee.double (rg p).toNat:Int):=by unfold iV sg;simp[h]
  have e2:au p=rg p:=by unfold au rg;rw[if_neg h,if_neg h]
  rw[e1,e2]
  constructor<;>constructor<;>intro g<;>omega
theorem xh {p q:Int} (hp:ag p) (hq:ag q) (h:au p<au q):iV p<iV q:=by
 have rp:=jN hp
 have rq:=jN hq
 have ep:iV p=if p<0 then -(V Ieee.double (rg p).toNat:Int) else (V Ieee.double (rg p).toNat:Int):=by unfold iV sg;by_cases g:p<0<;>simp[g]
 have eq':iV q=if q<0 then -(V Ieee.double (rg q).toNat:Int) else (V Ieee.double (rg q).toNat:Int):=by unfold iV sg;by_cases g:q<0<;>simp[g]
 have kp:au p=if p<0 then -(rg p) else rg p:=by unfold au rg;by_cases g:p<0<;>simp[g]
 have kq:au q=if q<0 then -(rg q) else rg q:=by unfold au rg;by_cases g:q<0<;>simp[g]
 have zp:=@rC (rg p).toNat
 have zq:=@rC (rg q).toNat
 have m1:rg p<rg q->(V Ieee.double (rg p).toNat:Int)<V Ieee.double (rg q).toNat:=fun g=>by
  have:=oc Ieee.double (show(rg p).toNat<(rg q).toNat by omega)
  omega
 have m2:rg q<rg p->(V Ieee.double (rg q).toNat:Int)<V Ieee.double (rg p).toNat:=fun g=>by
  have:=oc Ieee.double (show(rg q).toNat<(rg p).toNat by omega)
  omega
 rw[kp,kq] at h
 rw[ep,eq']
 have hA0:(0:Int)<=(V Ieee.double (rg p).toNat:Int):=by omega
 have hB0:(0:Int)<=(V Ieee.double (rg q).toNat:Int):=by omega
 clear ep eq' kp kq
 generalize (V Ieee.double (rg p).toNat:Int)=A at *
 generalize (V Ieee.double (rg q).toNat:Int)=B at *
 by_cases a:p<0<;>by_cases b:q<0<;>simp only[a,b,if_true,if_false] at h ⊢<;>omega
theorem Np {n S:Int} (hn:nn n) (hi:¬ n=-4503599627370496) (hp:ag (fm n)) (h:Nr S (iV n)) (g:S<iV n):iV (fm n)<=S:=by
 obtain⟨k1,_⟩:=zY hn.1 hn.2 hi
 have m:=xh hp hn.1 (by omega)
 have:=h.2 (iV (fm n)) (fJ _)
 omega
theorem Nq {n S:Int} (hn:nn n) (hi:¬ n=9218868437227405312) (hp:ag (next n)) (h:Nr S (iV n)) (g:iV n<S):S<=iV (next n):=by
 obtain⟨k1,_,_,_⟩:=uD hn.1 hn.2 hi
 have m:=xh hn.1 hp (by omega)
 have:=h.2 (iV (next n)) (fJ _)
 omega
theorem Hs {p:Int} (h:ag p):ag (fm p):=by unfold fm;exact kt (um (kt h))
theorem Ht {p q:Int} (hp:ag p) (hq:ag q) (pp:ak p=true) (pq:ak q=true) (hf:ak (ck p q)=true) (hn:nn (ck p q)) :
  iV (fj (ck p q) (eJ p q))<=iV p+iV q∧iV p+iV q<=iV (fl (ck p q) (eJ p q))∧((iV (ck p q)=iV p+iV q∧fj (ck p q) (eJ p q)=ck p q∧fl (ck p q) (eJ p q)=ck p q)∨(iV p+iV q<iV (ck p q)∧fj (ck p q) (eJ p q)=fm (ck p q)∧fl (ck p q) (eJ p q)=ck p q)∨(iV (ck p q)<iV p+iV q∧fj (ck p q) (eJ p q)=ck p q∧fl (ck p q) (eJ p q)=next (ck p q))):=by
 obtain⟨pl,he⟩:=Kq hp hq pp pq hf
 have hNr:Nr (iV p+iV q) (iV (ck p q)):=by
  by_cases h:rg p<rg q
  ·have ex:fN p q=q:=if_pos h
   have ey:jT p q=p:=if_pos h
   unfold ck at hf ⊢
   rw[ex,ey] at hf ⊢
   have:=(il hq hp pq pp).nr hf
   rwa [Int.add_comm] at this
  ·have ex:fN p q=p:=if_neg h
   have ey:jT p q=q:=if_neg h
   unfold ck at hf ⊢
   rw[ex,ey] at hf ⊢
   exact(il hp hq pp pq).nr hf
 have i1:¬ ck p q=-4503599627370496:=fun e=>by rw[e] at hf;revert hf;decide
 have i2:¬ ck p q=9218868437227405312:=fun e=>by rw[e] at hf;revert hf;decide
 have rl:ag (eJ p q):=by
  unfold eJ
  have a1:ag (fN p q):=by unfold fN;split<;>assumption
  have a2:ag (jT p q):=by unfold jT;split<;>assumption
  exact aT a2 (kt (aT hn.1 (kt a1)))
 obtain⟨kl1,kl2⟩:=tf rl
 have c0:¬ aH 0=4:=by decide
 have k0:au 0=0:=by decide
 have cl:=bW pl
 have l1:cm (eJ p q) 0=decide (au (eJ p q)<0):=by unfold cm;simp[cl,c0,k0]
 have l2:cm 0 (eJ p q)=decide (0<au (eJ p q)):=by unfold cm;simp[cl,c0,k0]
 unfold fj fl
 rw[l1,l2]
 generalize ck p q=n at *
 generalize eJ p q=l at *
 by_cases a:au l<0
 ·have al:iV l<0:=kl1.2 a
  simp only[a,decide_true,if_true]
  exact⟨Np hn i1 (Hs hn.1) hNr (by omega),by omega,.inr (.inl ⟨by omega,by trivial,by trivial⟩)⟩
 ·by_cases b:0<au l
  ·have bl:0<iV l:=kl2.2 b
   simp only[a,b,decide_true,decide_false,if_true,if_false,Bool.false_eq_true]
   exact⟨by omega,Nq hn i2 (um hn.1) hNr (by omega),.inr (.inr ⟨by omega,by trivial,by trivial⟩)⟩
  ·have z1:¬ iV l<0:=fun h=>a (kl1.1 h)
   have z2:¬ 0<iV l:=fun h=>b (kl2.1 h)
   simp only[a,b,decide_false,if_false,Bool.false_eq_true]
   exact⟨by omega,by omega,.inl ⟨by omega,by trivial,by trivial⟩⟩
theorem qe {p:Int} (h:nn p):rg (neg p)=rg p∧(decide (neg p<0)≠decide (p<0)):=by
 have hr:=h.1
 unfold ag at hr
 unfold neg
 rw[if_neg h.2]
 unfold rg
 by_cases g:p<0
 ·rw[if_pos g,if_neg (by omega)]
  refine⟨by rw[if_pos g],?_⟩
  rw[decide_eq_false (by omega),decide_eq_true g]
  decide
 ·rw[if_neg g,if_pos (by omega)]
  refine⟨by rw[if_neg g];omega,?_⟩
  rw[decide_eq_true (by omega),decide_eq_false g]
  decide
theorem Kr (p:Int):aF p 9221120237041090561=9221120237041090561:=by
 unfold aF
 rw[if_pos (.inr ke)]
theorem LC {p q:Int} (hp:nn p) (hq:nn q):nn (fN p q)∧nn (jT p q)∧(fN p q=p∧jT p q=q∨fN p q=q∧jT p q=p)∧rg (jT p q)<=rg (fN p q):=by
 unfold fN jT
 by_cases h:rg p<rg q
 ·rw[if_pos h,if_pos h];exact⟨hq,hp,.inr ⟨rfl,rfl⟩,by omega⟩
 ·rw[if_neg h,if_neg h];exact⟨hp,hq,.inl ⟨rfl,rfl⟩,by omega⟩
theorem tg {p q:Int} (hp:nn p) (hq:nn q) (h:rg (fN p q)=9218868437227405312) (hno:¬ (rg p=9218868437227405312∧rg q=9218868437227405312∧decide (p<0)≠decide (q<0))) :
  ck p q=fN p q∧fj (ck p q) (eJ p q)=fN p q∧fl (ck p q) (eJ p q)=fN p q:=by
 obtain⟨nx,ny,hxy,_⟩:=LC hp hq
 have hno':¬ (rg (jT p q)=9218868437227405312∧decide (fN p q<0)≠decide (jT p q<0)):=by
  rintro⟨a,b⟩
  rcases hxy with⟨e1,e2⟩|⟨e1,e2⟩
  ·rw[e1] at h b;rw[e2] at a b;exact hno ⟨h,a,b⟩
  ·rw[e1] at h b;rw[e2] at a b;exact hno ⟨a,h,fun c=>b c.symm⟩
 have e1:ck p q=fN p q:=by
  unfold ck aF
  rw[if_neg (by rintro(c|c);exact nx.2 c;exact ny.2 c),if_pos h,if_neg hno']
 have e2:eJ p q=9221120237041090561:=by
  unfold eJ
  rw[e1]
  obtain⟨g1,g2⟩:=qe nx
  obtain⟨n1,_⟩:=ff nx
  have:aF (fN p q) (neg (fN p q))=9221120237041090561:=by
   unfold aF
   rw[if_neg (by rintro(c|c);exact nx.2 c;exact n1.2 c),if_pos h,if_pos ⟨by rw[g1];exact h,fun c=>g2 c.symm⟩]
  rw[this,Dl ke]
  exact Kr _
 have l1:cm 9221120237041090561 0=false:=by decide
 have l2:cm 0 9221120237041090561=false:=by decide
 rw[e1,e2]
 unfold fj fl
 rw[l1,l2]
 exact⟨rfl,rfl,rfl⟩
theorem Ns {p q:Int} (hp:nn p) (hq:nn q) (pp:¬ rg p=9218868437227405312) (pq:¬ rg q=9218868437227405312) (hn:nn (ck p q)) (h:rg (ck p q)=9218868437227405312) :
  (0<au (ck p q)->fj (ck p q) (eJ p q)=fm (ck p q)∧fl (ck p q) (eJ p q)=ck p q)∧(au (ck p q)<0->fj (ck p q) (eJ p q)=ck p q∧fl (ck p q) (eJ p q)=next (ck p q)):=by
 obtain⟨nx,ny,hxy,_⟩:=LC hp hq
 have fx:¬ rg (fN p q)=9218868437227405312:=by rcases hxy with⟨e1,_⟩|⟨e1,_⟩<;>rw[e1]<;>assumption
 have fy:¬ rg (jT p q)=9218868437227405312:=by rcases hxy with⟨_,e1⟩|⟨_,e1⟩<;>rw[e1]<;>assumption
 obtain⟨n1,_⟩:=ff nx
 obtain⟨m1,k1⟩:=ff hn
 have e1:aF (ck p q) (neg (fN p q))=ck p q:=by
  unfold aF
  rw[if_neg (by rintro(c|c);exact hn.2 c;exact n1.2 c),if_pos h,if_neg (by rintro⟨c,_⟩;rw[(qe nx).1] at c;exact fx c)]
 have e2:eJ p q=neg (ck p q):=by
  unfold eJ
  rw[e1]
  unfold aF
  rw[if_neg (by rintro(c|c);exact ny.2 c;exact m1.2 c),if_neg fy,if_pos (by rw[(qe hn).1];exact h)]
 have c0:¬ aH 0=4:=by decide
 have k0:au 0=0:=by decide
 have l1:cm (eJ p q) 0=decide (0<au (ck p q)):=by
  rw[e2];unfold cm
  simp only[m1.2,c0,k0,k1,decide_false,Bool.not_false,Bool.true_and]
  exact decide_eq_decide.2 (by omega)
 have l2:cm 0 (eJ p q)=decide (au (ck p q)<0):=by
  rw[e2];unfold cm
  simp only[m1.2,c0,k0,k1,decide_false,Bool.not_false,Bool.true_and]
  exact decide_eq_decide.2 (by omega)
 unfold fj fl
 rw[l1,l2]
 refine⟨fun g=>?_,fun g=>?_⟩
 ·rw[decide_eq_true g];exact⟨rfl,rfl⟩
 ·rw[decide_eq_false (by omega),decide_eq_true g];exact⟨rfl,rfl⟩
def fA (p q:Int):Int:=if rg p=0∨rg q=0 then 0 else if rg p=9218868437227405312∨rg q=9218868437227405312 then aG (bN p q) 9218868437227405312 else fH 1 (dr p q)
def fB (p q:Int):Int:=if rg p=0∨rg q=0 then 0 else if rg p=9218868437227405312∨rg q=9218868437227405312 then aG (bN p q) 9218868437227405312 else fH 2 (dr p q)
theorem kI {p:Int} (h:nn p):0<=rg p∧rg p<=9218868437227405312:=by
 have:=(FW.pat h.2 h.1).of h.2
 exact this.2.2
theorem fh {p:Int} (h:nn p) (hf:rg p≠9218868437227405312):ak p=true:=(bM h.1).2 (by have:=kI h;omega)
theorem DE {p:Int} (h:ag p) (hp:ak p=true) (h0:rg p≠0):aq p≠0:=fun e=>by
 have hv:=cQ h hp
 have hi:iV p=0:=by
  rcases Int.mul_eq_zero.1 (hv.symm.trans e) with q|q
  ·exact q
  ·have:=bR (-1074);omega
 have h5:=(gU h).1
 unfold iV at hi
 have hV:(V Ieee.double (rg p).toNat:Int)=0:=by
  cases hd:decide (p<0)<;>rw[hd] at hi
  ·exact hi
  ·have:-(V Ieee.double (rg p).toNat:Int)=0:=hi
   omega
 rcases Nat.eq_zero_or_pos (rg p).toNat with q|q
 ·omega
 ·have:=oc Ieee.double q
  omega
theorem vU {p q:Int} (rp:ag p) (rq:ag q) (hp:ak p=true) (hq:ak q=true) (p0:rg p≠0) (q0:rg q≠0):dr p q≠0:=fun e=>by
 obtain⟨_,_,_,_,hC⟩:=mT rp rq hp hq
 rw[e,Int.zero_mul] at hC
 rcases Int.mul_eq_zero.1 hC.symm with h|h
 ·exact DE rp hp p0 h
 ·exact DE rq hq q0 h
theorem yt {p q:Int} (rp:ag p) (rq:ag q) (hp:ak p=true) (hq:ak q=true) (h:dr p q≠0):aC p q=bT (dr p q):=by
 have h1:=(bM rp).1 hp
 have h2:=(bM rq).1 hq
 have hz:fV p q≠0:=fun e=>h (by unfold dr;rw[e];cases bN p q<;>rfl)
 have n4:¬ (aH p=4∨aH q=4):=fun k=>by rcases k with k|k;exact eN rp hp k;exact eN rq hq k
 have i2:¬ (rg p=9218868437227405312∨rg q=9218868437227405312):=by omega
 unfold aC
 rw[if_neg n4,if_neg i2,if_neg hz]
 rfl
theorem Ks {l:Int} (h:aH l≠4):(cm l 0=true↔au l<0)∧(cm 0 l=true↔0<au l):=by
 have c0:¬ aH 0=4:=by decide
 have k0:au 0=0:=by decide
 unfold cm
 rw[k0]
 simp[h,c0]
theorem Pu {p q:Int} (rp:ag p) (rq:ag q) (hp:ak p=true) (hq:ak q=true) (p0:rg p≠0) (q0:rg q≠0) (hd:283726776524341248<=rg (aC p q)) :
  fj (aC p q) (gC p q (neg (aC p q)))=fH 1 (dr p q)∧fl (aC p q) (gC p q (neg (aC p q)))=fH 2 (dr p q):=by
 have hV:=vU rp rq hp hq p0 q0
 have hN:=yt rp rq hp hq hV
 rw[hN] at hd ⊢
 obtain⟨rn,cn⟩:=gh hV
 cases hf:ak (bT (dr p q))
 ·have hi:=DD hV hf
  have hm:∀ r,ag r->rg r=9218868437227405312->aH r≠4->gC p q r=r:=fun r hr h1 h4=>by
   have h5:=(bM rp).1 hp
   have h6:=(bM rq).1 hq
   have n4:¬ (aH p=4∨aH q=4∨aH r=4):=fun k=>by rcases k with k|k|k;exact eN rp hp k;exact eN rq hq k;exact h4 k
   have i2:¬ (rg p=9218868437227405312∨rg q=9218868437227405312):=by omega
   unfold gC
   rw[if_neg n4,if_neg i2,if_pos h1]
  rcases Int.lt_or_gt_of_ne hV with hn|hn
  ·obtain⟨e0,e1,e2⟩:=hi.2 hn
   rw[e0,e1,e2,show neg (-4503599627370496)=9218868437227405312 by decide,hm _ (by unfold ag;omega) (by decide) (by decide)]
   exact⟨by decide,by decide⟩
  ·obtain⟨e0,e1,e2⟩:=hi.1 hn
   rw[e0,e1,e2,show neg 9218868437227405312=-4503599627370496 by decide,hm _ (by unfold ag;omega) (by decide) (by decide)]
   exact⟨by decide,by decide⟩
 ·obtain⟨d1,d2,d3⟩:=DC hV hf
  have e0:=Kd hV
  have hr:=(bM rn).1 hf
  obtain⟨S,hS,hF,hb⟩:=Hq (way:=0) rp rq hp hq hV (by rw[e0];exact hd) (.inr ⟨rfl,by rw[e0];exact hr⟩)
  rw[e0] at hS
  generalize bT (dr p q)=n at *
  obtain⟨rm,pm,im⟩:=gM rn hf
  have hfS:oD p q (neg n)=dr p q-aq n:=by
   rw[Nn,Kn rn hf]
   omega
  by_cases h0:dr p q-aq n=0
  ·have hl:gC p q (neg n)=aG (bN p q&&decide (neg n<0)) 0:=Km rp rq rm hp hq pm (hfS.trans h0)
   have h1:cm (gC p q (neg n)) 0=false:=by rw[hl];cases (bN p q&&decide (neg n<0))<;>decide
   have h2:cm 0 (gC p q (neg n))=false:=by rw[hl];cases (bN p q&&decide (neg n<0))<;>decide
   unfold fj fl
   rw[h1,h2]
   have:=d3 (by omega)
   exact⟨this.1,this.2⟩
  ·have hS0:S≠0:=fun e=>h0 (by rw[hS,e,Int.zero_mul])
   obtain⟨g1,g2,g3⟩:=ES hF hS0 hb
   have hl:gC p q (neg n)=bT (S*pw (-1074)):=by
    have h5:=(bM rp).1 hp
    have h6:=(bM rq).1 hq
    have h7:=(bM rm).1 pm
    have n4:¬ (aH p=4∨aH q=4∨aH (neg n)=4):=fun k=>by rcases k with k|k|k;exact eN rp hp k;exact eN rq hq k;exact eN rm pm k
    have i2:¬ (rg p=9218868437227405312∨rg q=9218868437227405312):=by omega
    have i3:¬ rg (neg n)=9218868437227405312:=by omega
    unfold gC
    rw[if_neg n4,if_neg i2,if_neg i3,hfS,if_neg h0,hS]
   rw[hl]
   generalize bT (S*pw (-1074))=l at *
   obtain⟨k1,k2⟩:=tf g1
   rw[g3] at k1 k2
   obtain⟨l1,l2⟩:=Ks (eN g1 g2)
   have hq2:=bR (-1074)
   unfold fj fl
   rcases Int.lt_or_gt_of_ne hS0 with hn|hn
   ·have hD:dr p q-aq n<0:=by rw[hS];exact Int.mul_neg_of_neg_of_pos hn hq2
    rw[l1.2 (k1.1 hn)]
    clear hS hq2
    have:=d1 (by omega)
    exact⟨this.1,this.2⟩
   ·have hD:0<dr p q-aq n:=by rw[hS];exact Int.mul_pos hn hq2
    have hno:cm l 0=false:=by
     cases h:cm l 0
     ·rfl
     ·have:=k1.2 (l1.1 h);omega
    rw[hno,l2.2 (k2.1 hn)]
    clear hS hq2
    have:=d2 (by omega)
    exact⟨this.1,this.2⟩
theorem Nt {p q:Int} (hp:nn p) (hq:nn q) (p0:rg p≠0) (q0:rg q≠0) (hi:rg p=9218868437227405312∨rg q=9218868437227405312) :
  aC p q=aG (bN p q) 9218868437227405312∧gC p q (neg (aC p q))=9221120237041090561:=by
 have n4:¬ (aH p=4∨aH q=4):=fun k=>by rcases k with k|k;exact hp.2 k;exact hq.2 k
 have i2:¬ (rg p=0∨rg q=0):=by omega
 have e:aC p q=aG (bN p q) 9218868437227405312:=by
  unfold aC
  rw[if_neg n4,if_pos hi,if_neg i2]
 refine⟨e,?_⟩
 rw[e]
 have hneg:neg (aG (bN p q) 9218868437227405312)=aG (!bN p q) 9218868437227405312:=by cases bN p q<;>decide
 rw[hneg]
 have c4:¬ aH (aG (!bN p q) 9218868437227405312)=4:=by cases bN p q<;>decide
 have r4:rg (aG (!bN p q) 9218868437227405312)=9218868437227405312:=by cases bN p q<;>decide
 have s4:decide (aG (!bN p q) 9218868437227405312<0)=!bN p q:=by cases bN p q<;>decide
 have n5:¬ (aH p=4∨aH q=4∨aH (aG (!bN p q) 9218868437227405312)=4):=fun k=>by rcases k with k|k|k;exact hp.2 k;exact hq.2 k;exact c4 k
 have n6:rg (aG (!bN p q) 9218868437227405312)=9218868437227405312∧¬ bN p q=decide (aG (!bN p q) 9218868437227405312<0):=⟨r4,by rw[s4];cases bN p q<;>decide⟩
 unfold gC
 rw[if_neg n5,if_pos hi,if_neg i2,if_pos n6]
end Go.Proofs.YtjjihmnbdeeedaaGreatDoor
namespace Go.Proofs.YtjjihmnbdeeedaaGreatDoor
open Go Go.Proofs.Tryz Go.RowKit Go.Proofs.YtjjihmnbdeeedaaGreatDoor.M Ieee
theorem Nu (x y z:Nat):∃ a b,Extern.MathFMA.fma #[G7 x,G7 y,G7 z]=Option.casesOn (motive:=fun _=>Sem Value) (FloatKind.f64.format.fma x y z) (do pure (G7 (<- choose (.nanBits .f64 a b)))) (fun r=>pure (G7 r)):=by
  cases h1:Extern.MathFMA.isNaN x with
  | true=>exact ⟨x,y,by
      have:Extern.MathFMA.fma #[G7 x,G7 y,G7 z]=Option.casesOn (motive:=fun _=>Sem Value) (FloatKind.f64.format.fma x y z) (match (if Extern.MathFMA.isNaN x then (x,y) else if Extern.MathFMA.isNaN y then (y,z) else (z,z)) with|(a,b)=>do pure (G7 (<- choose (.nanBits .f64 a b)))) (fun r=>pure (G7 r)):=by kernel_rfl
      rw [this,h1]; rfl⟩
  | false=>
    cases h2:Extern.MathFMA.isNaN y with
    | true=>exact ⟨y,z,by
        have:Extern.MathFMA.fma #[G7 x,G7 y,G7 z]=Option.casesOn (motive:=fun _=>Sem Value) (FloatKind.f64.format.fma x y z) (match (if Extern.MathFMA.isNaN x then (x,y) else if Extern.MathFMA.isNaN y then (y,z) else (z,z)) with|(a,b)=>do pure (G7 (<- choose (.nanBits .f64 a b)))) (fun r=>pure (G7 r)):=by kernel_rfl
        rw [this,h1,h2]; rfl⟩
    | false=>exact ⟨z,z,by
        have:Extern.MathFMA.fma #[G7 x,G7 y,G7 z]=Option.casesOn (motive:=fun _=>Sem Value) (FloatKind.f64.format.fma x y z) (match (if Extern.MathFMA.isNaN x then (x,y) else if Extern.MathFMA.isNaN y then (y,z) else (z,z)) with|(a,b)=>do pure (G7 (<- choose (.nanBits .f64 a b)))) (fun r=>pure (G7 r)):=by kernel_rfl
        rw [this,h1,h2]; rfl⟩
theorem Kt {p q r:Int} {x y z:Nat} (hx:FW p x) (hy:FW q y) (hz:FW r z) (w:World) :
  ∃ t w',(callFunc 249 #[G7 x,G7 y,G7 z]).run prog w=.ok (.value (G7 t)) w'∧FW (gC p q r) t∧(w'=w∨w'=w.drew):=by
 rw[run_callFunc_extern func249 (by kernel_rfl) (by kernel_rfl) (by kernel_rfl) (e:=Extern.MathFMA.fma) (by kernel_rfl)]
 obtain⟨a,b,hab⟩:=Nu x y z
 rw[hab]
 rcases Pi hx hy hz with⟨t,e1,e2⟩|⟨e1,e2⟩
 ·refine⟨t,w,?_,e2,.inl rfl⟩
  have e1':FloatKind.f64.format.fma x y z=some t:=e1
  rw[e1']
  simp
 ·have e1':FloatKind.f64.format.fma x y z=none:=e1
  rw[e1']
  refine⟨(Question.nanBits .f64 a b).cut (w.tape w.drawn (.nanBits .f64 a b)),w.drew,?_,?_,.inr rfl⟩
  ·simp
   exact fun hf=>absurd (show false=true from hf) (by decide)
  ·rw[e2]
   exact FW.nan (Dk a b (w.tape w.drawn (.nanBits .f64 a b)))
end Go.Proofs.YtjjihmnbdeeedaaGreatDoor
namespace Go.Proofs.YtjjihmnbdeeedaaGreatDoor
open Go Go.Proofs.Tryz Go.RowKit Go.Proofs.YtjjihmnbdeeedaaGreatDoor.M
def oF (w:World) (g N k:Nat) (q:Nat->aW):Prop :=
 ∃ cur:Array Value,w.heap[g]?=some (.cells cur 40 (0,0))∧cur.size=N*3∧∀ i,i<k->(cur[i*3]?=some (.bool (q i).ng)∧cur[i*3+1]?=some (.slice (q i).ao (q i).n (q i).cap)∧cur[i*3+2]?=some (G6 (q i).e))∧aU w (q i).ao (q i).n (q i).cap (q i).d
theorem Ku:∃ i,prog.info? 40=some i∧i.zero=some (.agg #[.bool false,.slice none 0 0,G6 0])∧i.size=3∧i.bytes=40:=by
 have h:(prog.info? 40).map (fun i=>(i.zero,i.size,i.bytes))=some (some (.agg #[.bool false,.slice none 0 0,G6 0]),3,40):=by kernel_rfl
 obtain⟨i,hi,hzz⟩:=Option.map_eq_some_iff.1 h
 simp only[Prod.mk.injEq] at hzz
 exact⟨i,hi,hzz⟩
theorem yu (n:Nat) (hn:n<=100000) (w:World) :
  (Instr.makeSlice 231 (G6 (n:Int)) (G6 (n:Int))).run prog w=.ok (.slice (some ⟨w.heap.size,0,none⟩) n n) (w.alloc (.cells (madeCells #[.bool false,.slice none 0 0,G6 0] (n*3)) 40)):=by
 obtain⟨i,hi,hz,hs,hb⟩:=Ku
 have:=run_make (P:=prog) w 231 40 i _ underlying231 hi hz .i64 .i64 n n (by omega) (Int.le_refl _) (by rw[hb];omega) (by omega)
 simp only[Int.toNat_natCast,hs] at this
 exact this
def uP (q:Nat->aW) (k:Nat) (x:aW):Nat->aW:=fun j=>if j=k then x else q j
theorem mU (q:Nat->aW) (k:Nat) (x:aW):uP q k x k=x:=by simp[uP]
theorem lU (q:Nat->aW) {k j:Nat} (x:aW) (h:j≠k):uP q k x j=q j:=by simp[uP,h]
theorem RE (W:World) (g o0 o1 o2:Nat) (x y z:Value):Wr g W (((W.setCell ⟨g,o0,none⟩ x).setCell ⟨g,o1,none⟩ y).setCell ⟨g,o2,none⟩ z):=(((Wr.refl g W).setCell o0 x).setCell o1 y).setCell o2 z
theorem aU.wrN {w w':World} {g:Nat} {ao:Option Addr} {n cap:Nat} {d:Nat->Int} (h:aU w ao n cap d) (hw:Wr g w w') {cur:Array Value} {z:Nat × Nat} (hg:w.heap[g]?=some (.cells cur 40 z)) (ht:∀ b off,ao=some ⟨b,off,none⟩->0<n->b≠g):aU w' ao n cap d :=
  ⟨h.le,h.max,h.nl,fun hn=>by
    obtain⟨b,off,rfl,hlt,hc⟩:=h.spot hn
    exact ⟨b,off,rfl,Nat.lt_of_lt_of_le hlt hw.size,fun i hi=>(hw.cell (p:=⟨b,off+i,none⟩) hlt (ht b off rfl hn)).trans (hc i hi)⟩⟩
theorem dE.open {w w':World} {V:Int} {so:Option Addr} {sn sc:Nat} (h:dE w w' V (.slice so sn sc)):∃ d,aU w' so sn sc d∧cT d sn∧val d sn=V∧∀ b off,so=some ⟨b,off,none⟩->w.heap.size<=b:=by
 obtain⟨t,d,hO,hN,hV,_⟩:=h
 have hge:=gy hO
 obtain⟨so',sc',e,hR⟩:=hO.row
 simp only[Value.slice.injEq] at e
 obtain⟨rfl,rfl,rfl⟩:=e
 exact⟨d,hR,hN,hV,fun b off hb=>hge b (by rw[hb];rfl)⟩
theorem bv {w0 w:World} {g o0 o1 o2:Nat} (h:Below w0.heap.size w0 w) (hg:w0.heap.size<=g) (x y z:Value):Below w0.heap.size w0 (((w.setCell ⟨g,o0,none⟩ x).setCell ⟨g,o1,none⟩ y).setCell ⟨g,o2,none⟩ z):=((h.setCell (p:=⟨g,o0,none⟩) hg x).setCell (p:=⟨g,o1,none⟩) hg y).setCell (p:=⟨g,o2,none⟩) hg z
theorem Kv {cur:Array Value} {k:Nat} {x y z:Value} (h:k*3+2<cur.size) (i:Nat) :
  let c:=((cur.setIfInBounds (k*3) x).setIfInBounds (k*3+1) y).setIfInBounds (k*3+2) z
  (i=k->c[i*3]?=some x∧c[i*3+1]?=some y∧c[i*3+2]?=some z)∧(i≠k->c[i*3]?=cur[i*3]?∧c[i*3+1]?=cur[i*3+1]?∧c[i*3+2]?=cur[i*3+2]?):=by
 intro c
 refine⟨fun e=>?_,fun e=>?_⟩
 ·subst e
  refine⟨?_,?_,?_⟩
  ·show(((cur.setIfInBounds (i*3) x).setIfInBounds (i*3+1) y).setIfInBounds (i*3+2) z)[i*3]?=some x
   rw[Array.getElem?_setIfInBounds_ne (by omega),Array.getElem?_setIfInBounds_ne (by omega),Array.getElem?_setIfInBounds_self_of_lt (by omega)]
  ·show(((cur.setIfInBounds (i*3) x).setIfInBounds (i*3+1) y).setIfInBounds (i*3+2) z)[i*3+1]?=some y
   rw[Array.getElem?_setIfInBounds_ne (by omega),Array.getElem?_setIfInBounds_self_of_lt (by simp;omega)]
  ·show(((cur.setIfInBounds (i*3) x).setIfInBounds (i*3+1) y).setIfInBounds (i*3+2) z)[i*3+2]?=some z
   rw[Array.getElem?_setIfInBounds_self_of_lt (by simp;omega)]
 ·refine⟨?_,?_,?_⟩
  all_goals
   show(((cur.setIfInBounds (k*3) x).setIfInBounds (k*3+1) y).setIfInBounds (k*3+2) z)[_]?=_
   rw[Array.getElem?_setIfInBounds_ne (by omega),Array.getElem?_setIfInBounds_ne (by omega),Array.getElem?_setIfInBounds_ne (by omega)]
theorem oF.step {wr w3:World} {g N k:Nat} {q:Nat->aW} (h:oF wr g N k q) (hb:Below wr.heap.size wr w3) (x:aW) (hx:aU w3 x.ao x.n x.cap x.d) (hk:k<N) (hg:∀ i b' off,i<k->(q i).ao=some ⟨b',off,none⟩->0<(q i).n->g<b') (hg2:∀ b' off,x.ao=some ⟨b',off,none⟩->0<x.n->g<b') :
  oF (((w3.setCell ⟨g,k*3,none⟩ (.bool x.ng)).setCell ⟨g,k*3+1,none⟩ (.slice x.ao x.n x.cap)).setCell ⟨g,k*3+2,none⟩ (G6 x.e)) g N (k+1) (uP q k x):=by
 obtain⟨cur,hcur,hsz,hc⟩:=h
 have q0:=(hb.block g (aGe hcur).1).trans hcur
 have q1:=aI (aI (aI q0 (k*3) (.bool x.ng)) (k*3+1) (.slice x.ao x.n x.cap)) (k*3+2) (G6 x.e)
 have hw:=RE w3 g (k*3) (k*3+1) (k*3+2) (.bool x.ng) (.slice x.ao x.n x.cap) (G6 x.e)
 refine⟨_,q1,by simp[hsz],fun i hi=>?_⟩
 have hs:=Kv (cur:=cur) (k:=k) (x:=.bool x.ng) (y:=.slice x.ao x.n x.cap) (z:=G6 x.e) (by omega) i
 by_cases e:i=k
 ·subst e
  rw[mU]
  exact⟨hs.1 rfl,hx.wrN hw q0 fun b' off he hn=>by have:=hg2 b' off he hn;omega⟩
 ·rw[lU q x e]
  obtain⟨s0,s1,s2⟩:=hs.2 e
  obtain⟨⟨c0,c1,c2⟩,hR⟩:=hc i (by omega)
  refine⟨⟨s0.trans c0,s1.trans c1,s2.trans c2⟩,(hR.keeps hb).wrN hw q0 fun b' off he hn=>?_⟩
  have:=hg i b' off (by omega) he hn
  omega
theorem oF.nums {w:World} {g N:Nat} {q:Nat->aW} (h:oF w g N N q) (hN:N<=100000):kL w (some ⟨g,0,none⟩) N N q:=by
 obtain⟨cur,hcur,hsz,hc⟩:=h
 refine⟨Nat.le_refl _,by omega,fun _=>⟨g,0,rfl,(aGe hcur).1,fun i hi=>?_⟩⟩
 obtain⟨⟨c0,c1,c2⟩,hR⟩:=hc i hi
 rw[Nat.zero_add]
 exact⟨ae hcur _ c0,ae hcur _ c1,ae hcur _ c2,hR⟩
theorem Hu (F G:Nat) (oo:Option Addr) (n cap:Nat) (d V:Nat->Int) (w:World) (hR:aU w oo n cap d) (hn:n<=100000)
  (hEF:∀ (cap:Array Value) (w:World),(callFunc F cap).run prog w=.ok (.enter F cap) w)
  (C:∀ i,i<n->∀ W,Below w.heap.size w W->Calls prog F #[G6 (d i)] W fun r w'=>∃ v,r=.returned (.tuple #[v,G6 0])∧bw W w' (V i) v) :
  Calls prog 329 #[.agg #[.func (.func F) #[] #[],.func (.func G) #[] #[]],.slice oo n cap] w fun x w'=>∃ g q,x=.returned (.tuple #[.slice (some ⟨g,0,none⟩) n n,.bool true])∧w.heap.size<=g∧kL w' (some ⟨g,0,none⟩) n n q∧Below w.heap.size w w'∧∀ i,i<n->cT (q i).d (q i).n∧Dy (V i) (q i).ng (val (q i).d (q i).n) (q i).e:=by
 have hle:=hR.le
 have hma:=hR.max
 have hmake:=yu n hn
 have hst:∀ (p:Addr) (F:Nat) (m:Mode) (w:World),(store p (.func (.func F) #[] #[]) m).run prog w=stored prog w p (.func (.func F) #[] #[]) m:=fun p F m w=>run_store _ w p _ m rfl
 have ha1:=af w (.cells #[.func (.func F) #[] #[],.func (.func G) #[] #[]] 294)
 have q1:=heap_alloc_new w (.cells #[.func (.func F) #[] #[],.func (.func G) #[] #[]] 294)
 have k0:=ae q1 0 rfl
 have k1:=ae q1 1 rfl
 go_enter func329,ntmps329
 go_wp2_with fail
 have hb0:=aM w (.cells #[.func (.func F) #[] #[],.func (.func G) #[] #[]] 294) (.cells (madeCells #[.bool false,.slice none 0 0,G6 0] (n*3)) 40)
 have g1:=cZ w (.cells #[.func (.func F) #[] #[],.func (.func G) #[] #[]] 294) (.cells (madeCells #[.bool false,.slice none 0 0,G6 0] (n*3)) 40)
 have g0:=ew w (.cells #[.func (.func F) #[] #[],.func (.func G) #[] #[]] 294) (.cells (madeCells #[.bool false,.slice none 0 0,G6 0] (n*3)) 40)
 have HB0:Hid (oF ((w.alloc (.cells #[.func (.func F) #[] #[],.func (.func G) #[] #[]] 294)).alloc (.cells (madeCells #[.bool false,.slice none 0 0,G6 0] (n*3)) 40)) (w.heap.size+1) n 0 (fun _=>⟨false,none,0,0,fun _=>0,0⟩)):=⟨_,g1,by rw[size_madeCells],fun i hi=>by omega⟩
 clear g1 hmake q1 k0 k1 ha1
 generalize (w.alloc (.cells #[.func (.func F) #[] #[],.func (.func G) #[] #[]] 294)).alloc (.cells (madeCells #[.bool false,.slice none 0 0,G6 0] (n*3)) 40)=wx at hb0 HB0 g0 ⊢
 go_loopw [16] (fun iv wr=>∃ (k:Nat) (q:Nat->aW),k<=n∧iv=G6 k∧Hid (oF wr (w.heap.size+1) n k q)∧Hid (∀ i,i<k->cT (q i).d (q i).n∧Dy (V i) (q i).ng (val (q i).d (q i).n) (q i).e)∧Hid (∀ i b' off,i<k->(q i).ao=some ⟨b',off,none⟩->0<(q i).n->w.heap.size+1<b')∧Hid (wr.heap[w.heap.size]?=some (.cells #[.func (.func F) #[] #[],.func (.func G) #[] #[]] 294 (0,0)))∧Below w.heap.size w wr) (fun iv _=>n-(intOf iv).toNat)
 case atStart=>exact⟨0,_,Nat.zero_le _,rfl,HB0,fun i hi=>by omega,fun i b' off hi=>by omega,g0,hb0⟩
 case round=>
  obtain⟨k,q,hk,rfl,HQ,HF,HG,HK,hbw⟩:=hrel
  clear HB0 hb0 g0
  by_cases hlt:k<n
  ·obtain⟨ba,oa,rfl,hba,hca⟩:=hR.spot (by omega)
   have c0:=(hbw.cell (p:=⟨ba,oa+k,none⟩) hba).trans (hca k hlt)
   have CF:=C k hlt
   have kf:=ae HK.out 0 rfl
   obtain⟨cur,hcur,hsz,hcells⟩:=HQ.out
   have e0:k*3<cur.size:=by omega
   have e1:k*3+1<cur.size:=by omega
   have e2:k*3+2<cur.size:=by omega
   obtain⟨v0,hv0⟩:∃ v,cur[k*3]?=some v:=⟨_,Array.getElem?_eq_getElem e0⟩
   obtain⟨v1,hv1⟩:∃ v,cur[k*3+1]?=some v:=⟨_,Array.getElem?_eq_getElem e1⟩
   obtain⟨v2,hv2⟩:∃ v,cur[k*3+2]?=some v:=⟨_,Array.getElem?_eq_getElem e2⟩
   have HV:Hid (cur[k*3]?=some v0∧cur[k*3+1]?=some v1∧cur[k*3+2]?=some v2):=⟨hv0,hv1,hv2⟩
   have HCUR:Hid (wr.heap[w.heap.size+1]?=some (.cells cur 40 (0,0))):=hcur
   have hgs:w.heap.size+1<wr.heap.size:=(aGe hcur).1
   clear hcells hv0 hv1 hv2 hcur hsz e0 e1 e2 hca C
   have i0:(0:Int)<=(k:Int):=by omega
   have i1:(k:Int)<(n:Int):=by omega
   generalize d k=x at *
   go_wp2_with fail
   refine(CF _ hbw).mono ?_
   rintro _ w3 ⟨v,rfl,hD⟩
   have hb3:=hD.below
   have HD:Hid (bw wr w3 (V k) v):=hD
   obtain⟨g,s0,m0,e,rfl,_,hA0⟩:=id hD
   obtain⟨so,sn,sc,rfl⟩:=hA0.num.shape
   clear hD CF hA0
   have hb4:=ac hb3 (af w3 (.cells #[.bool g,.slice so sn sc,G6 e] 40))
   have q0:=(hb4.block (w.heap.size+1) hgs).trans HCUR.out
   have HK4:Hid ((w3.alloc (.cells #[.bool g,.slice so sn sc,G6 e] 40)).heap[w.heap.size]?=some (.cells #[.func (.func F) #[] #[],.func (.func G) #[] #[]] 294 (0,0))):=(hb4.block _ (aGe HK.out).1).trans HK.out
   have qx:=aD w3 (.cells #[.bool g,.slice so sn sc,G6 e] 40)
   have t0:=ae qx 0 rfl
   have t1:=ae qx 1 rfl
   have t2:=ae qx 2 rfl
   have x0:=ae q0 (k*3) HV.out.1
   have x1:=ae q0 (k*3+1) HV.out.2.1
   have x2:=ae q0 (k*3+2) HV.out.2.2
   have f0:=ah q0 (k*3)
   have f1:=ah q0 (k*3+1)
   have f2:=ah q0 (k*3+2)
   have hn1:w.heap.size+1≠w.heap.size:=by omega
   clear q0 qx kf
   go_wp2
   all_goals
    go_roundw
    case rel=>
     obtain⟨ng,s,m,e',h1,hyy,hA⟩:=HD.out
     simp only[Value.agg.injEq,Array.mk.injEq,List.cons.injEq,Value.bool.injEq,Value.int.injEq,true_and,and_true] at h1
     obtain⟨rfl,rfl,rfl⟩:=h1
     obtain⟨dd,hRd,hNd,hVd,hgd⟩:=hA.open
     have hgs2:∀ b' off,so=some ⟨b',off,none⟩->0<sn->w.heap.size+1<b':=fun b' off he _=>by
      have h9:=hgd b' off he
      omega
     refine⟨k+1,uP q k ⟨g,so,sn,sc,dd,e⟩,by omega,by go_num,oF.step (x:=⟨g,so,sn,sc,dd,e⟩) HQ.out hb4 (hRd.keeps (af _ _)) hlt HG.out hgs2,fun i hi=>?_,fun i b' off hi he hn'=>?_,?_,bv (ac hbw hb4) (by omega) _ _ _⟩
     ·by_cases ei:i=k
      ·subst ei
       rw[mU]
       exact⟨hNd,by rw[hVd];exact hyy⟩
      ·rw[lU _ _ ei]
       exact HF.out i (by omega)
     ·by_cases ei:i=k
      ·subst ei
       rw[mU] at he hn'
       exact hgs2 b' off he hn'
      ·rw[lU _ _ ei] at he hn'
       exact HG.out i b' off (by omega) he hn'
     ·show _=_
      rw[heap_setCell_other _ ⟨w.heap.size+1,_,none⟩ w.heap.size _ (Ne.symm hn1),heap_setCell_other _ ⟨w.heap.size+1,_,none⟩ w.heap.size _ (Ne.symm hn1),heap_setCell_other _ ⟨w.heap.size+1,_,none⟩ w.heap.size _ (Ne.symm hn1)]
      exact HK4.out
    case measure=>simp[intOf];omega
  ·obtain rfl:k=n:=by omega
   go_wp2
   all_goals refine bodyPost_ret (v:=.tuple #[.slice (some ⟨w.heap.size+1,0,none⟩) k k,.bool true]) (by simp[results,results329,go_sem]) rfl ⟨_,q,rfl,by omega,HQ.out.nums hn,hbw,HF.out⟩
end Go.Proofs.YtjjihmnbdeeedaaGreatDoor
