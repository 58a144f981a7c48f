/- Parts of the proof. -/
import Derived.Test.YtjjihmnbdeeedaaGreatDoorKn8
import Derived.Test.YtjjihmnbdeeedaaGreatDoorKn6
import Derived.Test.YtjjihmnbdeeedaaGreatDoorKn5
import Derived.Test.YtjjihmnbdeeedaaGreatDoorKn2
import Derived.Test.YtjjihmnbdeeedaaGreatDoorKn7
set_option maxRecDepth 100000
set_option maxHeartbeats 40000000
set_option linter.unusedVariables false
set_option linter.unusedSimpArgs false
namespace Go.Proofs.YtjjihmnbdeeedaaGreatDoor
open Go Go.RowKit Go.Proofs.YtjjihmnbdeeedaaGreatDoor.M
theorem t_c {x w y:Int} (hw:0<=w) (hx:x=81129638414606681695789005144064*562949953421312*w) (hy:y=5066549580791812*w):9*x<=81129638414606681695789005144064*y:=by
 subst hx hy
 omega
theorem t_k {x w y:Int} (hw:0<=w) (hx:x=9007199254740992*2251799813685248*w) (hy:y=6755399441055746*w):3*x<=9007199254740992*y:=by
 subst hx hy
 omega
theorem t_nn {T M:Int} (h:Un T M) (t:0<=T):0<=M:=by
 have:=g_low h t
 omega
theorem tlT {u1 v1 u2 v2 e1 f1 e2 f2:Int} (h1:Fx 872 1226 u1) (h2:Fx 872 1226 v1) (h3:Fx 872 1226 u2) (h4:Fx 872 1226 v2) (g1:Fx 872 1226 e1) (g2:Fx 872 1226 f1) (g3:Fx 872 1226 e2) (g4:Fx 872 1226 f2)
  (a1:9007199254740992*((iV e1).natAbs:Int)<=((iV u1).natAbs:Int)) (b1:9007199254740992*((iV f1).natAbs:Int)<=((iV v1).natAbs:Int)) (a2:9007199254740992*((iV e2).natAbs:Int)<=((iV u2).natAbs:Int)) (b2:9007199254740992*((iV f2).natAbs:Int)<=((iV v2).natAbs:Int)) {T:Int}
  (eT:T=fsum (fsum (fprod u1 f2) (fprod v2 e1)) (neg (fsum (fprod v1 e2) (fprod u2 f1)))) :
  Fx 670 1383 T∧100*(81129638414606681695789005144064*((((iV u1+iV e1)*(iV v2+iV f2)-(iV v1+iV f1)*(iV u2+iV e2))-((iV u1*iV v2-iV v1*iV u2)+2^1074*iV T)).natAbs:Int))<=703*(((iV u1*iV v2).natAbs:Int)+((iV v1*iV u2).natAbs:Int)):=by
 obtain ⟨p1,p1u,_⟩:=h1.prod g4 (by decide) (by decide) (by decide)
 obtain ⟨p2',p2u,_⟩:=h4.prod g1 (by decide) (by decide) (by decide)
 obtain ⟨q1,q1u,_⟩:=h2.prod g3 (by decide) (by decide) (by decide)
 obtain ⟨q2,q2u,_⟩:=h3.prod g2 (by decide) (by decide) (by decide)
 obtain ⟨l,lu⟩:=p1.sum p2' (by decide)
 obtain ⟨r,ru⟩:=q1.sum q2 (by decide)
 obtain ⟨nr,ne⟩:=r.neg
 obtain ⟨t,tu⟩:=l.sum nr (by decide)
 have q0:=Int.le_of_lt (p2 1074)
 have lu':=lu.scale q0
 have ru':=ru.scale q0
 rw [Int.mul_add] at lu' ru'
 have tu':=tu.scale q0
 rw [ne,<- Int.sub_eq_add_neg,Int.mul_sub] at tu'
 rw [eT]
 exact ⟨t,dev_tails a1 b1 a2 b2 p1u p2u q1u q2u lu' ru' tu'⟩
theorem tls_pat {ax ay bx by' cx cy:Int} (hax:Mz ax) (hay:Mz ay) (hbx:Mz bx) (hby:Mz by') (hcx:Mz cx) (hcy:Mz cy) {u1 v1 u2 v2 L R S h T d:Int} (e1:u1=fsum ax (neg cx)) (e2:v1=fsum ay (neg cy)) (e3:u2=fsum bx (neg cx)) (e4:v2=fsum by' (neg cy))
  (eL:L=fprod u1 v2) (eR:R=fprod v1 u2) (eS:S=fsum (rg L) (rg R)) (fh:Fx 670 1383 h) (hh:Un (iV u1*iV v2-iV v1*iV u2) (2^1074*iV h))
  (eT:T=fsum (fsum (fprod u1 (sL by' (neg cy))) (fprod v2 (sL ax (neg cx)))) (neg (fsum (fprod v1 (sL bx (neg cx))) (fprod u2 (sL ay (neg cy)))))) (ed:d=fsum h T) (hS:0<iV S)
  (hE:iV (fsum (fprod oC S) (fprod oK (rg h)))<=((iV d).natAbs:Int)) :
  (0<(iV ax-iV cx)*(iV by'-iV cy)-(iV ay-iV cy)*(iV bx-iV cx) ↔ 0<iV d)∧((iV ax-iV cx)*(iV by'-iV cy)-(iV ay-iV cy)*(iV bx-iV cx)<0 ↔ iV d<0):=by
 obtain ⟨F,a0,s0,s1,_⟩:=flt_dev hax hay hbx hby hcx hcy e1 e2 e3 e4 eL eR eS
 obtain ⟨l1,x1,k1⟩:=hax.lost hcx
 obtain ⟨l2,x2,k2⟩:=hay.lost hcy
 obtain ⟨l3,x3,k3⟩:=hbx.lost hcx
 obtain ⟨l4,x4,k4⟩:=hby.lost hcy
 have f1:=(hax.diff hcx).1
 have f2:=(hay.diff hcy).1
 have f3:=(hbx.diff hcx).1
 have f4:=(hby.diff hcy).1
 rw [<- e1] at f1 x1 k1
 rw [<- e2] at f2 x2 k2
 rw [<- e3] at f3 x3 k3
 rw [<- e4] at f4 x4 k4
 obtain ⟨fT,hX⟩:=tlT f1 f2 f3 f4 l1 l2 l3 l4 k1 k2 k3 k4 eT
 rw [<- x1,<- x2,<- x3,<- x4] at hX
 have q:=p2 1074
 have q0:=Int.le_of_lt q
 have fS:Fx 670 1381 S:=by rw [eS,eL,eR]; exact F.s
 obtain ⟨fa,fe⟩:=fh.abs
 obtain ⟨c1,_,T1,hT1,uT1⟩:=fx_oC.prod fS (by decide) (by decide) (by decide)
 obtain ⟨c2,_,T2,hT2,uT2⟩:=fx_oK.prod fa (by decide) (by decide) (by decide)
 obtain ⟨_,uE⟩:=(c1.up (b':=1400) (by decide)).sum ((c2.dn (a':=919+670-1074) (by decide)).up (by decide)) (by decide)
 obtain ⟨_,ud⟩:=fh.sum fT (by decide)
 rw [<- ed] at ud
 have hc:9*(2^1074*iV S)<=81129638414606681695789005144064*(2^1074*T1):=by
  refine t_c (w:=2^919*iV S) (Int.mul_nonneg (Int.le_of_lt (p2 919)) (by omega)) ?_ ?_
  ·rw [<- Int.mul_assoc,show (81129638414606681695789005144064*562949953421312:Int)=2^155 by decide,<- Int.pow_add]
  ·rw [hT1,iV_oC,Int.mul_assoc]
 have hk:3*((2^1074*iV h).natAbs:Int)<=9007199254740992*(2^1074*T2):=by
  refine t_k (w:=2^970*((iV h).natAbs:Int)) (Int.mul_nonneg (Int.le_of_lt (p2 970)) (by omega)) ?_ ?_
  ·rw [sc_abs q0,<- Int.mul_assoc,show (9007199254740992*2251799813685248:Int)=2^104 by decide,<- Int.pow_add]
  ·rw [hT2,iV_oK,fe,Int.mul_assoc]
 have sp:0<2^1074*iV S:=Int.mul_pos q hS
 have t1:0<=2^1074*T1:=Int.le_of_lt (kf_pos (by decide) (by decide) hc sp)
 have t2:0<=2^1074*T2:=by
  generalize 2^1074*T2=z at *
  clear hX a0 s0 hc
  omega
 have uc:=uT1.scale q0
 have uk:=uT2.scale q0
 have uE':=uE.scale q0
 rw [Int.mul_add] at uE'
 have ud':=ud.scale q0
 rw [Int.mul_add] at ud'
 have hE':2^1074*iV (fsum (fprod oC S) (fprod oK (rg h)))<=((2^1074*iV d).natAbs:Int):=by
  rw [sc_abs q0]
  exact Int.mul_le_mul_of_nonneg_left hE q0
 obtain ⟨r1,r2⟩:=tls_sign hX a0 s0 (Int.add_nonneg (Int.natCast_nonneg _) (Int.natCast_nonneg _)) sp hh ud' hc hk t1 t2 uc uk (t_nn uc t1) (t_nn uk t2) uE' hE'
 rw [r1,r2]
 exact sc_sgn q
end Go.Proofs.YtjjihmnbdeeedaaGreatDoor
namespace Go.Proofs.YtjjihmnbdeeedaaGreatDoor.M
open Go Ieee
def nn (p:Int):Prop:=rng p∧¬ cls p=4
def minP (a b:Int):Int:=if key a<key b then a else if key b<key a then b else if a=b then a else -9223372036854775808
def maxP (a b:Int):Int:=if key a<key b then b else if key b<key a then a else if a=b then a else 0
theorem key_zeros {a b:Int} (ha:rng a) (hb:rng b) (h:key a=key b) (hn:¬ a=b):(a=0∧b=-9223372036854775808)∨(a=-9223372036854775808∧b=0):=by
 unfold key rng at *
 split at h <;> split at h <;> omega
theorem nn0:nn 0∧nn (-9223372036854775808):=by refine ⟨⟨?_,by decide⟩,⟨?_,by decide⟩⟩ <;> (unfold rng; omega)
theorem minP_nn {a b:Int} (ha:nn a) (hb:nn b):nn (minP a b)∧key (minP a b)<=key a∧key (minP a b)<=key b∧(key (minP a b)=key a∨key (minP a b)=key b):=by
 unfold minP
 split
 ·exact ⟨ha,by omega,by omega,.inl rfl⟩
 ·split
  ·exact ⟨hb,by omega,by omega,.inr rfl⟩
  ·split
   ·exact ⟨ha,by omega,by omega,.inl rfl⟩
   ·have e:key a=key b:=by omega
    have e0:key (-9223372036854775808)=0:=by decide
    have e1:key 0=0:=by decide
    rcases key_zeros ha.1 hb.1 e (by assumption) with ⟨rfl,rfl⟩ | ⟨rfl,rfl⟩
    ·exact ⟨nn0.2,by omega,by omega,.inr rfl⟩
    ·exact ⟨nn0.2,by omega,by omega,.inl rfl⟩
theorem maxP_nn {a b:Int} (ha:nn a) (hb:nn b):nn (maxP a b)∧key a<=key (maxP a b)∧key b<=key (maxP a b)∧(key (maxP a b)=key a∨key (maxP a b)=key b):=by
 unfold maxP
 split
 ·exact ⟨hb,by omega,by omega,.inr rfl⟩
 ·split
  ·exact ⟨ha,by omega,by omega,.inl rfl⟩
  ·split
   ·exact ⟨ha,by omega,by omega,.inl rfl⟩
   ·have e:key a=key b:=by omega
    have e0:key (-9223372036854775808)=0:=by decide
    have e1:key 0=0:=by decide
    rcases key_zeros ha.1 hb.1 e (by assumption) with ⟨rfl,rfl⟩ | ⟨rfl,rfl⟩
    ·exact ⟨nn0.1,by omega,by omega,.inl rfl⟩
    ·exact ⟨nn0.1,by omega,by omega,.inr rfl⟩
def vld (lo hi:Int):Bool:=decide (¬ cls lo=4∧¬ cls hi=4∧key lo<=key hi∧key lo<9218868437227405312∧-9218868437227405312<key hi)
theorem vld_iff {lo hi:Int}:vld lo hi=true ↔ ¬ cls lo=4∧¬ cls hi=4∧key lo<=key hi∧key lo<9218868437227405312∧-9218868437227405312<key hi:=by unfold vld; exact decide_eq_true_iff
theorem key_canon {p:Int} (h:nn p):key (canon p)=key p∧nn (canon p):=by
 have h0:=cls0 h.1
 unfold canon
 rw [if_neg h.2]
 split
 ·rename_i hz
  rcases h0.1 hz with rfl | rfl
  ·exact ⟨rfl,nn0.1⟩
  ·exact ⟨by decide,nn0.1⟩
 ·exact ⟨rfl,h⟩
end Go.Proofs.YtjjihmnbdeeedaaGreatDoor.M
namespace Go.Proofs.YtjjihmnbdeeedaaGreatDoor
open Go Go.RowKit Go.Proofs.YtjjihmnbdeeedaaGreatDoor.M
def q0 (b:Int):Int:=if b=-9223372036854775808 then 0 else b
theorem q_cell {w w':World} {p:Addr} {v:Value} (h:w.cell? p=some v) (hb:Below w.heap.size w w'):w'.cell? p=some v :=
 (hb.cell (World.block_lt_of_cell? w _ h)).trans h
theorem Q4.keeps {a b:Nat} {x0 x1 x2 x3:Value} {W W':World} (h:W.cell? ⟨a,0,none⟩=some x0∧W.cell? ⟨a,1,none⟩=some x1∧W.cell? ⟨b,0,none⟩=some x2∧W.cell? ⟨b,1,none⟩=some x3) (hb:Below W.heap.size W W') :
  W'.cell? ⟨a,0,none⟩=some x0∧W'.cell? ⟨a,1,none⟩=some x1∧W'.cell? ⟨b,0,none⟩=some x2∧W'.cell? ⟨b,1,none⟩=some x3 :=
 ⟨q_cell h.1 hb,q_cell h.2.1 hb,q_cell h.2.2.1 hb,q_cell h.2.2.2 hb⟩
def ivl (lo hi:Int):Value:=.agg #[.float .f64 (wd lo),.float .f64 (wd hi)]
def spn (lo hi:Int):Value:=.agg #[.int .i64 lo,.int .i64 hi]
theorem spanReadX (x y:Int) (w:World) :
  Calls Tryz.prog 133 #[spn x y] w fun e w'=>e=.returned (ivl x y)∧w'=((w.alloc (.cells #[.int .i64 x,.int .i64 y] 72)).alloc (.cells #[.float .f64 (wd x),.float .f64 (wd y)] 160)).drew:=by
 unfold spn ivl
 have hx:Hid ((((w.alloc (.cells #[.int .i64 x,.int .i64 y] 72)).alloc (.cells #[.float .f64 0,.float .f64 0] 160)).setCell ⟨w.heap.size+1,0,none⟩ (.float .f64 (wd x))).setCell ⟨w.heap.size+1,1,none⟩ (.float .f64 (wd y))=(w.alloc (.cells #[.int .i64 x,.int .i64 y] 72)).alloc (.cells #[.float .f64 (wd x),.float .f64 (wd y)] 160)):=by
  unfold Hid
  rw [World.setCell_alloc_at _ _ _ _ _ (by simp),World.setCell_alloc_at _ _ _ _ _ (by simp)]
  rfl
 have hb2:=bel_alloc2 w (.cells #[.int .i64 x,.int .i64 y] 72) (.cells #[.float .f64 0,.float .f64 0] 160)
 have q0:=heap_a2 w (.cells #[.int .i64 x,.int .i64 y] 72) (.cells #[.float .f64 0,.float .f64 0] 160)
 have q1:=heap_b2 w (.cells #[.int .i64 x,.int .i64 y] 72) (.cells #[.float .f64 0,.float .f64 0] 160)
 have hs:=size2 w (.cells #[.int .i64 x,.int .i64 y] 72) (.cells #[.float .f64 0,.float .f64 0] 160)
 have k0:=blkC q0 0 rfl
 have k1:=blkC q0 1 rfl
 go_enter Tryz.func133,Tryz.ntmps133
 go_wp2_with fail
 generalize hwx:(w.alloc (.cells #[.int .i64 x,.int .i64 y] 72)).alloc (.cells #[.float .f64 0,.float .f64 0] 160)=wx at hb2 q0 q1 hs k0 k1 hx ⊢
 clear hwx
 have hc:w.heap.size<w.heap.size+1∧w.heap.size+1<=wx.drew.heap.size∧wx.drew.cell? ⟨w.heap.size,0,none⟩=some (.int .i64 x)∧wx.drew.cell? ⟨w.heap.size,1,none⟩=some (.int .i64 y):=⟨by omega,by show _<=wx.heap.size; omega,k0,k1⟩
 have d1:wx.drew.heap[w.heap.size+1]?=some (.cells #[.float .f64 0,.float .f64 0] 160 (0,0)):=q1
 have d2:((wx.setCell ⟨w.heap.size+1,0,none⟩ (.float .f64 (wd x))).drew).heap[w.heap.size+1]?=some (.cells #[.float .f64 (wd x),.float .f64 0] 160 (0,0)):=q_heap_set d1 0 (.float .f64 (wd x))
 have d3:(((wx.setCell ⟨w.heap.size+1,0,none⟩ (.float .f64 (wd x))).setCell ⟨w.heap.size+1,1,none⟩ (.float .f64 (wd y))).drew).heap[w.heap.size+1]?=some (.cells #[.float .f64 (wd x),.float .f64 (wd y)] 160 (0,0)):=q_heap_set d2 1 (.float .f64 (wd y))
 have f0:=blkC d1 0 rfl
 have z0:=blkF d1 0
 have f1:=blkC d2 1 rfl
 have z1:=blkF d2 1
 have s0:(store ⟨w.heap.size+1,0,none⟩ (.float .f64 (wd x))).run Tryz.prog wx.drew=.ok () ((wx.setCell ⟨w.heap.size+1,0,none⟩ (.float .f64 (wd x))).drew):=by rw [run_store _ _ _ _ _ rfl,f0]; simp only [z0]; rfl
 have s1:(store ⟨w.heap.size+1,1,none⟩ (.float .f64 (wd y))).run Tryz.prog ((wx.setCell ⟨w.heap.size+1,0,none⟩ (.float .f64 (wd x))).drew)=.ok () (((wx.setCell ⟨w.heap.size+1,0,none⟩ (.float .f64 (wd x))).setCell ⟨w.heap.size+1,1,none⟩ (.float .f64 (wd y))).drew):=by rw [run_store _ _ _ _ _ rfl,f1]; simp only [z1]; rfl
 go_region_held3 (fun W=>w.heap.size<w.heap.size+1∧w.heap.size+1<=W.heap.size∧W.cell? ⟨w.heap.size,0,none⟩=some (.int .i64 x)∧W.cell? ⟨w.heap.size,1,none⟩=some (.int .i64 y))
  (first | assumption | (repeat (first | exact hc | refine q_two_set (by omega) ?_)))
  ((go_at_call 58; refine (bitsFloat _ _).mono ?_; rintro _ _ ⟨rfl,rfl⟩))
 have e0:=blkC d3 0 rfl
 have e1:=blkC d3 1 rfl
 clear s0 s1 f0 f1 z0 z1 d1 d2 d3
 generalize (wx.setCell ⟨w.heap.size+1,0,none⟩ (.float .f64 (wd x))).setCell ⟨w.heap.size+1,1,none⟩ (.float .f64 (wd y))=wy at *
 go_wp2
 refine bodyPost_ret (v:=.agg #[.float .f64 (wd x),.float .f64 (wd y)]) (by simp [results,Tryz.results133,go_sem,e0,e1]) rfl ⟨rfl,by rw [hx.out]⟩
theorem spanRead (x y:Int) (w:World) :
  Calls Tryz.prog 133 #[spn x y] w fun e w'=>e=.returned (ivl x y)∧Below w.heap.size w w' :=
 (spanReadX x y w).mono fun _ _ ⟨h1,h2⟩=>⟨h1,by rw [h2]; exact (bel_alloc2 w _ _).drew⟩
theorem isInf_up {p:Int} (h:nn p) (w:World) :
  Calls Tryz.prog 192 #[.float .f64 (wd p),.int .i64 1] w fun e w'=>e=.returned (.bool (decide (9218868437227405312<=key p)))∧w'=w:=by
 have r:rng 9218868437227405311:=by unfold rng; omega
 have c:¬ cls 9218868437227405311=4:=by decide
 have k:key 9218868437227405311=9218868437227405311:=by decide
 have e:wd 9218868437227405311=9218868437227405311:=by decide
 rcases Int.lt_trichotomy (key p) 9218868437227405311 with g | g | g
 ·have o:=q_lt h.1 r h.2 c (by rw [k]; exact g)
  rw [e] at o
  rw [decide_eq_false (by omega)]
  go_enter Tryz.func192,Tryz.ntmps192
  go_wp2
  go_ret
  exact ⟨rfl,rfl⟩
 ·have o:=q_eq h.1 r h.2 c (by rw [k]; exact g)
  rw [e] at o
  rw [decide_eq_false (by omega)]
  go_enter Tryz.func192,Tryz.ntmps192
  go_wp2
  go_ret
  exact ⟨rfl,rfl⟩
 ·have o:=q_gt h.1 r h.2 c (by rw [k]; exact g)
  rw [e] at o
  rw [decide_eq_true (by omega)]
  go_enter Tryz.func192,Tryz.ntmps192
  go_wp2
  go_ret
  exact ⟨rfl,rfl⟩
theorem neg_wd {p:Int} (h:nn p):Op.negFloat .f64 (wd p)=wd (neg p):=by
 have hr:=h.1
 unfold Op.negFloat
 show wd p ^^^ 2^63=_
 unfold neg
 rw [if_neg h.2]
 unfold rng at hr
 by_cases h0:p<0
 ·rw [if_pos h0]
  have e:wd p=2^63+wd (p+9223372036854775808):=by unfold wd; omega
  rw [e,xor_top' 63 _ (by unfold wd; omega)]
 ·rw [if_neg h0,Nat.xor_comm,xor_top 63 _ (by unfold wd; omega)]
  unfold wd; omega
theorem run_negF {P:Program} {p:Int} (h:nn p) (w:World):(Op.unary UnOp.neg (.float .f64 (wd p))).run P w=.ok (.float .f64 (wd (neg p))) w:=by
 show (pure (Value.float .f64 (Op.negFloat .f64 (wd p))):Sem Value).run P w=_
 rw [neg_wd h]
 rfl
theorem nn_neg {p:Int} (h:nn p):nn (neg p)∧key (neg p)=- key p:=by
 obtain ⟨a,b⟩:=key_neg h.1 h.2
 exact ⟨⟨rng_neg h.1,b⟩,a⟩
theorem isInf_down {p:Int} (h:nn p) (w:World) :
  Calls Tryz.prog 192 #[.float .f64 (wd p),.int .i64 (-1)] w fun e w'=>e=.returned (.bool (decide (key p <= -9218868437227405312)))∧w'=w:=by
 have r:rng 9218868437227405311:=by unfold rng; omega
 have c:¬ cls 9218868437227405311=4:=by decide
 have k:key 9218868437227405311=9218868437227405311:=by decide
 have e:wd 9218868437227405311=9218868437227405311:=by decide
 have hN:=fun W=>run_negF (P:=Tryz.prog) h W
 obtain ⟨g0,g1⟩:=nn_neg h
 rcases Int.lt_trichotomy (key (neg p)) 9218868437227405311 with g | g | g
 ·have o:=q_lt g0.1 r g0.2 c (by rw [k]; exact g)
  rw [e] at o
  rw [decide_eq_false (by omega)]
  clear g1 g
  go_enter Tryz.func192,Tryz.ntmps192
  go_wp2
  go_ret
  exact ⟨rfl,rfl⟩
 ·have o:=q_eq g0.1 r g0.2 c (by rw [k]; exact g)
  rw [e] at o
  rw [decide_eq_false (by omega)]
  clear g1 g
  go_enter Tryz.func192,Tryz.ntmps192
  go_wp2
  go_ret
  exact ⟨rfl,rfl⟩
 ·have o:=q_gt g0.1 r g0.2 c (by rw [k]; exact g)
  rw [e] at o
  rw [decide_eq_true (by omega)]
  clear g1 g
  go_enter Tryz.func192,Tryz.ntmps192
  go_wp2
  go_ret
  exact ⟨rfl,rfl⟩
theorem ivlValid {lo hi:Int} (hl:rng lo) (hh:rng hi) (w:World) :
  Calls Tryz.prog 134 #[ivl lo hi] w fun e w'=>e=.returned (.bool (vld lo hi))∧Below w.heap.size w w':=by
 unfold ivl
 by_cases h4:cls lo=4∨cls hi=4
 ·have o:=order64_nan hl hh h4
  rw [show vld lo hi=false from decide_eq_false (fun h=>by rcases h4 with g | g; exact h.1 g; exact h.2.1 g)]
  go_enter Tryz.func134,Tryz.ntmps134
  go_wp2
  go_ret
  exact ⟨rfl,bel_alloc _ _⟩
 have h1:¬ cls lo=4:=fun h=>h4 (.inl h)
 have h2:¬ cls hi=4:=fun h=>h4 (.inr h)
 have CU:Hid (∀ W,Calls Tryz.prog 192 #[.float .f64 (wd lo),.int .i64 1] W fun e w'=>e=.returned (.bool (decide (9218868437227405312<=key lo)))∧w'=W):=fun W=>isInf_up ⟨hl,h1⟩ W
 have CD:Hid (∀ W,Calls Tryz.prog 192 #[.float .f64 (wd hi),.int .i64 (-1)] W fun e w'=>e=.returned (.bool (decide (key hi <= -9218868437227405312)))∧w'=W):=fun W=>isInf_down ⟨hh,h2⟩ W
 have q0:(w.alloc (.cells #[.float .f64 (wd lo),.float .f64 (wd hi)] 160)).heap[w.heap.size]?=some (.cells #[.float .f64 (wd lo),.float .f64 (wd hi)] 160 (0,0)):=by show (w.heap.push _)[w.heap.size]?=_; simp
 have k0:=blkC q0 0 rfl
 have k1:=blkC q0 1 rfl
 have hb:=bel_alloc w (.cells #[.float .f64 (wd lo),.float .f64 (wd hi)] 160)
 by_cases g:key hi<key lo
 ·have o:=q_gt hl hh h1 h2 g
  rw [show vld lo hi=false from decide_eq_false (fun h=>by omega)]
  clear CU CD
  go_enter Tryz.func134,Tryz.ntmps134
  go_wp2
  go_ret
  exact ⟨rfl,bel_alloc _ _⟩
 have o:FloatKind.f64.format.order (wd lo) (wd hi)=some .lt∨FloatKind.f64.format.order (wd lo) (wd hi)=some .eq:=by
  by_cases e:key lo=key hi
  ·exact .inr (q_eq hl hh h1 h2 e)
  ·exact .inl (q_lt hl hh h1 h2 (by omega))
 by_cases a:9218868437227405312<=key lo
 ·rw [show vld lo hi=false from decide_eq_false (fun h=>by omega)]
  rw [decide_eq_true a] at CU
  clear h4 g a CD q0 k0 k1
  rcases o with o | o
  all_goals
   go_enter Tryz.func134,Tryz.ntmps134
   go_wp2_with (go_at_call 192; refine (CU.out _).mono ?_; rintro _ _ ⟨rfl,rfl⟩)
   go_ret
   exact ⟨rfl,hb⟩
 rw [decide_eq_false a] at CU
 by_cases b:key hi <= -9218868437227405312
 ·rw [show vld lo hi=false from decide_eq_false (fun h=>by omega)]
  rw [decide_eq_true b] at CD
  clear h4 g a b q0 k0 k1
  rcases o with o | o
  all_goals
   go_enter Tryz.func134,Tryz.ntmps134
   go_wp2_with fail
   refine (CU.out _).mono ?_
   rintro _ _ ⟨rfl,rfl⟩
   go_wp2_with fail
   refine (CD.out _).mono ?_
   rintro _ _ ⟨rfl,rfl⟩
   go_wp2
   go_ret
   exact ⟨rfl,hb⟩
 ·rw [show vld lo hi=true from decide_eq_true ⟨h1,h2,by omega,by omega,by omega⟩]
  rw [decide_eq_false b] at CD
  clear h4 g a b q0 k0 k1
  rcases o with o | o
  all_goals
   go_enter Tryz.func134,Tryz.ntmps134
   go_wp2_with fail
   refine (CU.out _).mono ?_
   rintro _ _ ⟨rfl,rfl⟩
   go_wp2_with fail
   refine (CD.out _).mono ?_
   rintro _ _ ⟨rfl,rfl⟩
   go_wp2
   go_ret
   exact ⟨rfl,hb⟩
theorem eq_neg {a b:Int} (ha:nn a) (hb:nn b) (h:key a=key b):(if (FloatKind.f64.decode (wd a)).neg then wd a else wd b)=wd (if a=b then a else -9223372036854775808):=by
 by_cases e:a=b
 ·subst e; rw [if_pos rfl]; split <;> rfl
 ·rw [if_neg e]
  rcases key_zeros ha.1 hb.1 h e with ⟨rfl,rfl⟩ | ⟨rfl,rfl⟩
  ·rfl
  ·rfl
theorem eq_pos {a b:Int} (ha:nn a) (hb:nn b) (h:key a=key b):(if (FloatKind.f64.decode (wd a)).neg then wd b else wd a)=wd (if a=b then a else 0):=by
 by_cases e:a=b
 ·subst e; rw [if_pos rfl]; split <;> rfl
 ·rw [if_neg e]
  rcases key_zeros ha.1 hb.1 h e with ⟨rfl,rfl⟩ | ⟨rfl,rfl⟩
  ·rfl
  ·rfl
theorem run_minF {P:Program} {a b:Int} (ha:nn a) (hb:nn b) (ts:Array TypeId) (t:TypeId) (w:World):(Builtin.min_ ts t #[.float .f64 (wd a),.float .f64 (wd b)]).run P w=.ok (.float .f64 (wd (minP a b))) w:=by
 have hf:(Builtin.min_ ts t #[.float .f64 (wd a),.float .f64 (wd b)])=(Builtin.min2 (.float .f64 (wd a)) (.float .f64 (wd b))):=by simp [Builtin.min_]
 rw [hf]
 unfold Builtin.min2 minP
 rcases Int.lt_trichotomy (key a) (key b) with h | h | h
 ·rw [if_pos h]
  simp only [q_lt ha.1 hb.1 ha.2 hb.2 h]
  rfl
 ·rw [if_neg (by omega),if_neg (by omega)]
  simp only [q_eq ha.1 hb.1 ha.2 hb.2 h]
  rw [eq_neg ha hb h]
  rfl
 ·rw [if_neg (by omega),if_pos h]
  simp only [q_gt ha.1 hb.1 ha.2 hb.2 h]
  rfl
theorem run_maxF {P:Program} {a b:Int} (ha:nn a) (hb:nn b) (ts:Array TypeId) (t:TypeId) (w:World):(Builtin.max_ ts t #[.float .f64 (wd a),.float .f64 (wd b)]).run P w=.ok (.float .f64 (wd (maxP a b))) w:=by
 have hf:(Builtin.max_ ts t #[.float .f64 (wd a),.float .f64 (wd b)])=(Builtin.max2 (.float .f64 (wd a)) (.float .f64 (wd b))):=by simp [Builtin.max_]
 rw [hf]
 unfold Builtin.max2 maxP
 rcases Int.lt_trichotomy (key a) (key b) with h | h | h
 ·rw [if_pos h]
  simp only [q_lt ha.1 hb.1 ha.2 hb.2 h]
  rfl
 ·rw [if_neg (by omega),if_neg (by omega)]
  simp only [q_eq ha.1 hb.1 ha.2 hb.2 h]
  rw [eq_pos ha hb h]
  rfl
 ·rw [if_neg (by omega),if_pos h]
  simp only [q_gt ha.1 hb.1 ha.2 hb.2 h]
  rfl
theorem s4_set {a b B g o:Nat} {v x0 x1 x2 x3:Value} {W:World} (hg:B<=g) (h:(a<B∧b<B∧B<=W.heap.size)∧W.cell? ⟨a,0,none⟩=some x0∧W.cell? ⟨a,1,none⟩=some x1∧W.cell? ⟨b,0,none⟩=some x2∧W.cell? ⟨b,1,none⟩=some x3) :
  (a<B∧b<B∧B<=(W.setCell ⟨g,o,none⟩ v).heap.size)∧(W.setCell ⟨g,o,none⟩ v).cell? ⟨a,0,none⟩=some x0∧(W.setCell ⟨g,o,none⟩ v).cell? ⟨a,1,none⟩=some x1∧(W.setCell ⟨g,o,none⟩ v).cell? ⟨b,0,none⟩=some x2∧(W.setCell ⟨g,o,none⟩ v).cell? ⟨b,1,none⟩=some x3:=by
 have hw:Wr g W (W.setCell ⟨g,o,none⟩ v):=(Wr.refl g W).setCell o v
 obtain ⟨⟨h1,h2,h3⟩,a0,a1,a2,a3⟩:=h
 exact ⟨⟨h1,h2,Nat.le_trans h3 hw.size⟩,(hw.cell (show a<W.heap.size by omega) (show a≠g by omega)).trans a0,(hw.cell (show a<W.heap.size by omega) (show a≠g by omega)).trans a1,(hw.cell (show b<W.heap.size by omega) (show b≠g by omega)).trans a2,(hw.cell (show b<W.heap.size by omega) (show b≠g by omega)).trans a3⟩
theorem heap3 (w:World) (a b c:Obj):(((w.alloc a).alloc b).alloc c).heap[w.heap.size]?=some a∧(((w.alloc a).alloc b).alloc c).heap[w.heap.size+1]?=some b∧(((w.alloc a).alloc b).alloc c).heap[w.heap.size+2]?=some c∧(((w.alloc a).alloc b).alloc c).heap.size=w.heap.size+3∧Below w.heap.size w (((w.alloc a).alloc b).alloc c):=by
 have h:(((w.alloc a).alloc b).alloc c).heap=((w.heap.push a).push b).push c:=rfl
 rw [h]
 refine ⟨?_,?_,?_,by simp,bel_trans (bel_alloc2 w a b) (bel_alloc _ _)⟩
 ·simp [Array.getElem?_push]
  omega
 ·rw [Array.getElem?_push,if_neg (by simp),Array.getElem?_push,if_pos (by simp)]
 ·rw [Array.getElem?_push,if_pos (by simp)]
theorem ivlJoined {a b c d:Int} (ha:nn a) (hb:nn b) (hc:nn c) (hd:nn d) (w:World) :
  Calls Tryz.prog 189 #[ivl a b,ivl c d] w fun e w'=>e=.returned (ivl (minP a c) (maxP b d))∧Below w.heap.size w w':=by
 unfold ivl
 have RM:=fun ts t W=>run_minF (P:=Tryz.prog) ha hc ts t W
 have RX:=fun ts t W=>run_maxF (P:=Tryz.prog) hb hd ts t W
 generalize wd (minP a c)=X at *
 generalize wd (maxP b d)=Y at *
 generalize wd a=A at *
 generalize wd b=B at *
 generalize wd c=C at *
 generalize wd d=D at *
 obtain ⟨q0,q1,q2,hs,hb3⟩:=heap3 w (.cells #[.float .f64 A,.float .f64 B] 160) (.cells #[.float .f64 C,.float .f64 D] 160) (.cells #[.float .f64 0,.float .f64 0] 160)
 have k0:=blkC q0 0 rfl
 have k1:=blkC q0 1 rfl
 have k2:=blkC q1 0 rfl
 have k3:=blkC q1 1 rfl
 replace q2:(((w.alloc (.cells #[.float .f64 A,.float .f64 B] 160)).alloc (.cells #[.float .f64 C,.float .f64 D] 160)).alloc (.cells #[.float .f64 0,.float .f64 0] 160)).heap[w.heap.size+1+1]?=some (.cells #[.float .f64 0,.float .f64 0] 160 (0,0)):=q2
 go_enter Tryz.func189,Tryz.ntmps189
 go_wp2_with fail
 clear q0 q1 k0 k1 k2 k3 hs RM RX
 generalize ((w.alloc (.cells #[.float .f64 A,.float .f64 B] 160)).alloc (.cells #[.float .f64 C,.float .f64 D] 160)).alloc (.cells #[.float .f64 0,.float .f64 0] 160)=wx at *
 obtain ⟨g,hg⟩:∃ g,w.heap.size+1+1=g:=⟨_,rfl⟩
 have hwg:w.heap.size<=g:=by omega
 rw [hg] at q2
 simp only [hg]
 clear hg
 have d2:=q_heap_set q2 0 (.float .f64 X)
 have d3:=q_heap_set d2 1 (.float .f64 Y)
 have f0:=blkC q2 0 rfl
 have z0:=blkF q2 0
 have f1:=blkC d2 1 rfl
 have z1:=blkF d2 1
 have hbe:=(hb3.setCell (p:=⟨g,0,none⟩) hwg (.float .f64 X)).setCell (p:=⟨g,1,none⟩) hwg (.float .f64 Y)
 have s0:(store ⟨g,0,none⟩ (.float .f64 X)).run Tryz.prog wx=.ok () (wx.setCell ⟨g,0,none⟩ (.float .f64 X)):=by rw [run_store _ _ _ _ _ rfl,f0]; simp only [z0]; rfl
 have s1:(store ⟨g,1,none⟩ (.float .f64 Y)).run Tryz.prog (wx.setCell ⟨g,0,none⟩ (.float .f64 X))=.ok () ((wx.setCell ⟨g,0,none⟩ (.float .f64 X)).setCell ⟨g,1,none⟩ (.float .f64 Y)):=by rw [run_store _ _ _ _ _ rfl,f1]; simp only [z1]; rfl
 have e0:=blkC d3 0 rfl
 have e1:=blkC d3 1 rfl
 clear f0 z0 f1 z1 d2 d3 q2
 simp only [s0,s1,Result.andThen]
 go_wp2
 refine bodyPost_ret (v:=.agg #[.float .f64 X,.float .f64 Y]) (by simp [results,Tryz.results189,go_sem,e0,e1]) rfl ⟨rfl,hbe⟩
theorem isNaN_no {p:Int} (h:nn p) (w:World) :
  Calls Tryz.prog 316 #[.float .f64 (wd p)] w fun e w'=>e=.returned (.bool false)∧w'=w:=by
 have n0:=no64 h.1
 rw [decide_eq_false h.2] at n0
 go_enter Tryz.func316,Tryz.ntmps316
 go_wp2
 go_ret
 exact ⟨rfl,rfl⟩
theorem infUp (w:World) :
  Calls Tryz.prog 291 #[.int .i64 1] w fun e w'=>e=.returned (.float .f64 9218868437227405312)∧w'=w:=by
 have hd:=run_from64
 go_enter Tryz.func291,Tryz.ntmps291
 go_wp2
 go_ret
 exact ⟨rfl,rfl⟩
theorem infDown (w:World) :
  Calls Tryz.prog 291 #[.int .i64 (-1)] w fun e w'=>e=.returned (.float .f64 18442240474082181120)∧w'=w:=by
 have hd:=run_from64
 go_enter Tryz.func291,Tryz.ntmps291
 go_wp2
 go_ret
 exact ⟨rfl,rfl⟩
theorem copyUp (w:World) :
  Calls Tryz.prog 318 #[.float .f64 1,.float .f64 9218868437227405312] w fun e w'=>e=.returned (.float .f64 1)∧w'=w:=by
 have hd:=run_from64
 have hb:=run_bits64
 have e1:bits .andNot .u64 1 9223372036854775808=1:=by decide
 have e2:bits .and .u64 9218868437227405312 9223372036854775808=0:=by decide
 have e3:bits .or .u64 1 0=1:=by decide
 go_enter Tryz.func318,Tryz.ntmps318
 go_wp2
 go_ret
 exact ⟨rfl,rfl⟩
theorem copyDown (w:World) :
  Calls Tryz.prog 318 #[.float .f64 1,.float .f64 18442240474082181120] w fun e w'=>e=.returned (.float .f64 9223372036854775809)∧w'=w:=by
 have hd:=run_from64
 have hb:=run_bits64
 have e1:bits .andNot .u64 1 9223372036854775808=1:=by decide
 have e2:bits .and .u64 18442240474082181120 9223372036854775808=9223372036854775808:=by decide
 have e3:bits .or .u64 1 9223372036854775808=9223372036854775809:=by decide
 go_enter Tryz.func318,Tryz.ntmps318
 go_wp2
 go_ret
 exact ⟨rfl,rfl⟩
theorem nextUp {p:Int} (h:nn p) (w:World) :
  Calls Tryz.prog 290 #[.float .f64 (wd p),.float .f64 9218868437227405312] w fun e w'=>e=.returned (.float .f64 (wd (next p)))∧w'=w:=by
 have hd:=run_from64
 have hbt:=run_bits64
 have ey:wd 9218868437227405312=9218868437227405312:=by decide
 have ny:nn 9218868437227405312:=⟨by unfold rng; omega,by decide⟩
 have ky:key 9218868437227405312=9218868437227405312:=by decide
 have n0:nn 0:=nn0.1
 have k0:key 0=0:=by decide
 have e0:wd 0=0:=by decide
 have hr:=h.1
 unfold rng at hr
 have CX:Hid (∀ W,Calls Tryz.prog 316 #[.float .f64 (wd p)] W fun e w'=>e=.returned (.bool false)∧w'=W):=fun W=>isNaN_no h W
 have CY:Hid (∀ W,Calls Tryz.prog 316 #[.float .f64 9218868437227405312] W fun e w'=>e=.returned (.bool false)∧w'=W):=fun W=>by rw [<- ey]; exact isNaN_no ny W
 have hw:=q_wdlt p
 by_cases a1:p=9218868437227405312
 ·subst a1
  have o1:=q_eq h.1 ny.1 h.2 ny.2 rfl
  rw [ey] at o1 CX ⊢
  clear hr
  go_enter Tryz.func290,Tryz.ntmps290
  go_wp2_with fail
  refine (CX.out _).mono ?_
  rintro _ _ ⟨rfl,rfl⟩
  go_wp2_with fail
  refine (CY.out _).mono ?_
  rintro _ _ ⟨rfl,rfl⟩
  go_wp2
  go_ret
  exact ⟨ret_float (by first | rfl | (rw [next_inf,ey]) | (rw [next_inf]; exact ey.symm)),rfl⟩
 have kp:key p<9218868437227405312:=by
  have h4:=cls4_not h.2
  unfold key fld frc at *
  split <;> omega
 have o1:=q_lt h.1 ny.1 h.2 ny.2 (by rw [ky]; exact kp)
 have o2:=q_gt ny.1 h.1 ny.2 h.2 (by rw [ky]; exact kp)
 rw [ey] at o1 o2
 rcases Int.lt_trichotomy (key p) 0 with g | g | g
 ·have o3:=q_lt h.1 n0.1 h.2 n0.2 (by rw [k0]; exact g)
  rw [e0] at o3
  have hp:p<0∧p ≠ -9223372036854775808:=by unfold key at g; split at g <;> omega
  have hn:next p=p-1:=by unfold next; rw [if_neg h.2,if_neg a1,if_neg hp.2,if_pos hp.1]
  have hv:wd (p-1)=wd p-1∧1<=wd p:=by unfold wd; omega
  clear hr
  go_enter Tryz.func290,Tryz.ntmps290
  go_wp2_with fail
  refine (CX.out _).mono ?_
  rintro _ _ ⟨rfl,rfl⟩
  go_wp2_with fail
  refine (CY.out _).mono ?_
  rintro _ _ ⟨rfl,rfl⟩
  go_wp2
  go_ret
  exact ⟨ret_float (by rw [hn,hv.1]),rfl⟩
 ·have o3:=q_eq h.1 n0.1 h.2 n0.2 (by rw [k0]; exact g)
  rw [e0] at o3
  have hp:p=0∨p=-9223372036854775808:=by unfold key at g; split at g <;> omega
  have hn:next p=1:=by rcases hp with rfl | rfl <;> decide
  have e1:wd 1=1:=by decide
  clear hr
  go_enter Tryz.func290,Tryz.ntmps290
  go_wp2_with fail
  refine (CX.out _).mono ?_
  rintro _ _ ⟨rfl,rfl⟩
  go_wp2_with fail
  refine (CY.out _).mono ?_
  rintro _ _ ⟨rfl,rfl⟩
  go_wp2_with (go_at_call 318; refine (copyUp _).mono ?_; rintro _ _ ⟨rfl,rfl⟩)
  go_ret
  exact ⟨ret_float (by rw [hn]; exact e1.symm),rfl⟩
 ·have o3:=q_gt h.1 n0.1 h.2 n0.2 (by rw [k0]; exact g)
  rw [e0] at o3
  have hp:0<p:=by unfold key at g; split at g <;> omega
  have hn:next p=p+1:=by unfold next; rw [if_neg h.2,if_neg a1,if_neg (by omega),if_neg (by omega)]
  have hv:wd (p+1)=wd p+1∧wd p<9223372036854775808:=by unfold wd; unfold key at kp; split at kp <;> omega
  clear hr
  go_enter Tryz.func290,Tryz.ntmps290
  go_wp2_with fail
  refine (CX.out _).mono ?_
  rintro _ _ ⟨rfl,rfl⟩
  go_wp2_with fail
  refine (CY.out _).mono ?_
  rintro _ _ ⟨rfl,rfl⟩
  go_wp2
  go_ret
  exact ⟨ret_float (by rw [hn,hv.1]),rfl⟩
theorem prev_down {p:Int} (h:nn p) (a1:¬ p=-4503599627370496):prev p=if p=0∨p=-9223372036854775808 then -9223372036854775807 else if p<0 then p+1 else p-1:=by
 have hr:=h.1
 have h4:=cls4_not h.2
 unfold rng at hr
 by_cases z:p=0∨p=-9223372036854775808
 ·rw [if_pos z]; rcases z with rfl | rfl <;> decide
 rw [if_neg z]
 obtain ⟨n1,k1⟩:=nn_neg h
 have e1:neg p=if p<0 then p+9223372036854775808 else p-9223372036854775808:=by unfold neg; rw [if_neg h.2]
 have i1:¬ neg p=9218868437227405312:=by rw [e1]; split <;> omega
 obtain ⟨_,n2,_,_⟩:=key_next n1.1 n1.2 i1
 have e2:next (neg p)=if neg p<0 then neg p-1 else neg p+1:=by unfold next; rw [if_neg n1.2,if_neg i1,if_neg (by rw [e1]; split <;> omega)]
 unfold prev
 unfold neg
 rw [if_neg (by exact n2)]
 show (if next (neg p)<0 then next (neg p)+9223372036854775808 else next (neg p)-9223372036854775808)=_
 rw [e2,e1]
 unfold fld frc at h4
 repeat' split
 all_goals omega
theorem nextDown {p:Int} (h:nn p) (w:World) :
  Calls Tryz.prog 290 #[.float .f64 (wd p),.float .f64 18442240474082181120] w fun e w'=>e=.returned (.float .f64 (wd (prev p)))∧w'=w:=by
 have hd:=run_from64
 have hbt:=run_bits64
 have ey:wd (-4503599627370496)=18442240474082181120:=by decide
 have ny:nn (-4503599627370496):=⟨by unfold rng; omega,by decide⟩
 have ky:key (-4503599627370496)=-9218868437227405312:=by decide
 have n0:nn 0:=nn0.1
 have k0:key 0=0:=by decide
 have e0:wd 0=0:=by decide
 have hr:=h.1
 unfold rng at hr
 have CX:Hid (∀ W,Calls Tryz.prog 316 #[.float .f64 (wd p)] W fun e w'=>e=.returned (.bool false)∧w'=W):=fun W=>isNaN_no h W
 have CY:Hid (∀ W,Calls Tryz.prog 316 #[.float .f64 18442240474082181120] W fun e w'=>e=.returned (.bool false)∧w'=W):=fun W=>by rw [<- ey]; exact isNaN_no ny W
 have hw:=q_wdlt p
 by_cases a1:p=-4503599627370496
 ·subst a1
  have o1:=q_eq h.1 ny.1 h.2 ny.2 rfl
  rw [ey] at o1 CX ⊢
  clear hr
  go_enter Tryz.func290,Tryz.ntmps290
  go_wp2_with fail
  refine (CX.out _).mono ?_
  rintro _ _ ⟨rfl,rfl⟩
  go_wp2_with fail
  refine (CY.out _).mono ?_
  rintro _ _ ⟨rfl,rfl⟩
  go_wp2
  go_ret
  exact ⟨ret_float (by rw [show prev (-4503599627370496)=-4503599627370496 by decide]; exact ey.symm),rfl⟩
 have kp:-9218868437227405312<key p:=by
  have h4:=cls4_not h.2
  unfold key fld frc at *
  split <;> omega
 have o1:=q_gt h.1 ny.1 h.2 ny.2 (by rw [ky]; exact kp)
 have o2:=q_lt ny.1 h.1 ny.2 h.2 (by rw [ky]; exact kp)
 rw [ey] at o1 o2
 rcases Int.lt_trichotomy (key p) 0 with g | g | g
 ·have o3:=q_lt h.1 n0.1 h.2 n0.2 (by rw [k0]; exact g)
  rw [e0] at o3
  have hp:p<0∧p ≠ -9223372036854775808:=by unfold key at g; split at g <;> omega
  have hn:prev p=p+1:=by have:=key_prev h.1 h.2 a1; have hq:=prev_down h a1; rw [hq,if_neg (by omega),if_pos hp.1]
  have hv:wd (p+1)=wd p+1∧wd p<18446744073709551615:=by unfold wd; unfold key at kp; split at kp <;> omega
  clear hr
  go_enter Tryz.func290,Tryz.ntmps290
  go_wp2_with fail
  refine (CX.out _).mono ?_
  rintro _ _ ⟨rfl,rfl⟩
  go_wp2_with fail
  refine (CY.out _).mono ?_
  rintro _ _ ⟨rfl,rfl⟩
  go_wp2
  go_ret
  exact ⟨ret_float (by rw [hn,hv.1]),rfl⟩
 ·have o3:=q_eq h.1 n0.1 h.2 n0.2 (by rw [k0]; exact g)
  rw [e0] at o3
  have hp:p=0∨p=-9223372036854775808:=by unfold key at g; split at g <;> omega
  have hn:prev p=-9223372036854775807:=by rcases hp with rfl | rfl <;> decide
  have e1:wd (-9223372036854775807)=9223372036854775809:=by decide
  clear hr
  go_enter Tryz.func290,Tryz.ntmps290
  go_wp2_with fail
  refine (CX.out _).mono ?_
  rintro _ _ ⟨rfl,rfl⟩
  go_wp2_with fail
  refine (CY.out _).mono ?_
  rintro _ _ ⟨rfl,rfl⟩
  go_wp2_with (go_at_call 318; refine (copyDown _).mono ?_; rintro _ _ ⟨rfl,rfl⟩)
  go_ret
  exact ⟨ret_float (by rw [hn]; exact e1.symm),rfl⟩
 ·have o3:=q_gt h.1 n0.1 h.2 n0.2 (by rw [k0]; exact g)
  rw [e0] at o3
  have hp:0<p:=by unfold key at g; split at g <;> omega
  have hn:prev p=p-1:=by rw [prev_down h a1,if_neg (by omega),if_neg (by omega)]
  have hv:wd (p-1)=wd p-1∧1<=wd p:=by unfold wd; omega
  clear hr
  go_enter Tryz.func290,Tryz.ntmps290
  go_wp2_with fail
  refine (CX.out _).mono ?_
  rintro _ _ ⟨rfl,rfl⟩
  go_wp2_with fail
  refine (CY.out _).mono ?_
  rintro _ _ ⟨rfl,rfl⟩
  go_wp2
  go_ret
  exact ⟨ret_float (by rw [hn,hv.1]),rfl⟩
theorem besideDown {p:Int} (h:nn p) (l:Nat) (o:FloatKind.f64.format.order l 0=some .lt) (w:World) :
  Calls Tryz.prog 248 #[.float .f64 (wd p),.float .f64 l] w fun e w'=>e=.returned (.agg #[.float .f64 (wd (prev p)),.float .f64 (wd p)])∧w'=w.alloc (.cells #[.float .f64 (wd (prev p)),.float .f64 (wd p)] 160):=by
 have hst:∀ (p:Addr) (n:Nat) (m:Mode) (w:World),(store p (.float .f64 n) m).run Tryz.prog w=stored Tryz.prog w p (.float .f64 n) m:=fun p n m w=>run_store _ w p _ m rfl
 have CI:Hid (∀ W,Calls Tryz.prog 291 #[.int .i64 (-1)] W fun e w'=>e=.returned (.float .f64 18442240474082181120)∧w'=W):=fun W=>infDown W
 have CN:Hid (∀ W,Calls Tryz.prog 290 #[.float .f64 (wd p),.float .f64 18442240474082181120] W fun e w'=>e=.returned (.float .f64 (wd (prev p)))∧w'=W):=fun W=>nextDown h W
 have hg:(w.alloc (.cells #[.float .f64 (wd (prev p)),.float .f64 (wd p)] 160)).heap[w.heap.size]?=some (.cells #[.float .f64 (wd (prev p)),.float .f64 (wd p)] 160 (0,0)):=by show (w.heap.push _)[w.heap.size]?=_; simp
 have e0:=blkC hg 0 rfl
 have e1:=blkC hg 1 rfl
 clear h
 go_enter Tryz.func248,Tryz.ntmps248
 go_wp2_with fail
 refine (CI.out _).mono ?_
 rintro _ _ ⟨rfl,rfl⟩
 go_wp2_with fail
 refine (CN.out _).mono ?_
 rintro _ _ ⟨rfl,rfl⟩
 go_wp2
 refine bodyPost_ret (v:=.agg #[.float .f64 (wd (prev p)),.float .f64 (wd p)]) (by simp [results,Tryz.results248,go_sem,e0,e1]) rfl ⟨rfl,rfl⟩
theorem besideUp {p:Int} (h:nn p) (l:Nat) (o:FloatKind.f64.format.order l 0=some .gt) (w:World) :
  Calls Tryz.prog 248 #[.float .f64 (wd p),.float .f64 l] w fun e w'=>e=.returned (.agg #[.float .f64 (wd p),.float .f64 (wd (next p))])∧w'=w.alloc (.cells #[.float .f64 (wd p),.float .f64 (wd (next p))] 160):=by
 have hst:∀ (p:Addr) (n:Nat) (m:Mode) (w:World),(store p (.float .f64 n) m).run Tryz.prog w=stored Tryz.prog w p (.float .f64 n) m:=fun p n m w=>run_store _ w p _ m rfl
 have CI:Hid (∀ W,Calls Tryz.prog 291 #[.int .i64 1] W fun e w'=>e=.returned (.float .f64 9218868437227405312)∧w'=W):=fun W=>infUp W
 have CN:Hid (∀ W,Calls Tryz.prog 290 #[.float .f64 (wd p),.float .f64 9218868437227405312] W fun e w'=>e=.returned (.float .f64 (wd (next p)))∧w'=W):=fun W=>nextUp h W
 have hg:(w.alloc (.cells #[.float .f64 (wd p),.float .f64 (wd (next p))] 160)).heap[w.heap.size]?=some (.cells #[.float .f64 (wd p),.float .f64 (wd (next p))] 160 (0,0)):=by show (w.heap.push _)[w.heap.size]?=_; simp
 have e0:=blkC hg 0 rfl
 have e1:=blkC hg 1 rfl
 clear h
 go_enter Tryz.func248,Tryz.ntmps248
 go_wp2_with fail
 refine (CI.out _).mono ?_
 rintro _ _ ⟨rfl,rfl⟩
 go_wp2_with fail
 refine (CN.out _).mono ?_
 rintro _ _ ⟨rfl,rfl⟩
 go_wp2
 refine bodyPost_ret (v:=.agg #[.float .f64 (wd p),.float .f64 (wd (next p))]) (by simp [results,Tryz.results248,go_sem,e0,e1]) rfl ⟨rfl,rfl⟩
theorem besideSame (p l:Nat) (o:FloatKind.f64.format.order l 0=some .eq∨FloatKind.f64.format.order l 0=none) (w:World) :
  Calls Tryz.prog 248 #[.float .f64 p,.float .f64 l] w fun e w'=>e=.returned (.agg #[.float .f64 p,.float .f64 p])∧w'=w.alloc (.cells #[.float .f64 p,.float .f64 p] 160):=by
 have hst:∀ (p:Addr) (n:Nat) (m:Mode) (w:World),(store p (.float .f64 n) m).run Tryz.prog w=stored Tryz.prog w p (.float .f64 n) m:=fun p n m w=>run_store _ w p _ m rfl
 have hg:(w.alloc (.cells #[.float .f64 p,.float .f64 p] 160)).heap[w.heap.size]?=some (.cells #[.float .f64 p,.float .f64 p] 160 (0,0)):=by show (w.heap.push _)[w.heap.size]?=_; simp
 have e0:=blkC hg 0 rfl
 have e1:=blkC hg 1 rfl
 rcases o with o | o
 all_goals
  go_enter Tryz.func248,Tryz.ntmps248
  go_wp2
  refine bodyPost_ret (v:=.agg #[.float .f64 p,.float .f64 p]) (by simp [results,Tryz.results248,go_sem,e0,e1]) rfl ⟨rfl,rfl⟩
theorem run_sumN {P:Program} (t:TypeId) {p q:Int} {x y:Nat} (hx:FW p x) (hy:FW q y) (h:cls (fsum p q)≠4) (w:World) :
  (binOp .add t (.float .f64 x) (.float .f64 y)).run P w=.ok (.float .f64 (wd (fsum p q))) w:=by
 obtain ⟨z,w',hr,hz⟩:=run_farith (P:=P) .add (.inl rfl) t x y w
 have hf:floatBits .add .f64 x y=Ieee.double.add x y:=rfl
 rw [hf] at hz
 rcases add_FW hx hy with ⟨z',e1,e2⟩ | ⟨e1,e2⟩
 ·rcases hz with ⟨h1,h2⟩ | ⟨h1,_⟩
  ·rw [e1] at h1; cases h1
   rw [hr,h2,(e2.of h).2.1]
  ·rw [e1] at h1; cases h1
 ·exact absurd (by rw [e2]; exact nan_canon) h
theorem run_diffN {P:Program} (t:TypeId) {p q:Int} {x y:Nat} (hx:FW p x) (hy:FW q y) (h:cls (fsum p (neg q))≠4) (w:World) :
  (binOp .sub t (.float .f64 x) (.float .f64 y)).run P w=.ok (.float .f64 (wd (fsum p (neg q)))) w:=by
 obtain ⟨z,w',hr,hz⟩:=run_farith (P:=P) .sub (.inr (.inl rfl)) t x y w
 have hf:floatBits .sub .f64 x y=Ieee.double.sub x y:=rfl
 rw [hf] at hz
 rcases sub_FW hx hy with ⟨z',e1,e2⟩ | ⟨e1,e2⟩
 ·rcases hz with ⟨h1,h2⟩ | ⟨h1,_⟩
  ·rw [e1] at h1; cases h1
   rw [hr,h2,(e2.of h).2.1]
  ·rw [e1] at h1; cases h1
 ·exact absurd (by rw [e2]; exact nan_canon) h
theorem fw_order {l:Int} {L:Nat} (h:FW l L):(less l 0=true->FloatKind.f64.format.order L 0=some .lt)∧(less 0 l=true->FloatKind.f64.format.order L 0=some .gt)∧(less l 0=false->less 0 l=false->FloatKind.f64.format.order L 0=some .eq∨FloatKind.f64.format.order L 0=none):=by
 have n0:=nn0.1
 have k0:key 0=0:=by decide
 have e0:wd 0=0:=by decide
 have c0:¬ cls 0=4:=by decide
 by_cases h4:cls l=4
 ·have ho:FloatKind.f64.format.order L 0=none:=by
   rcases h with ⟨a,_,_⟩ | ⟨rfl,hN⟩
   ·exact absurd h4 a
   ·exact order_nan Ieee.double dOk L 0 (.inl (by rw [dInf,dSign]; exact hN.2))
  have l1:less l 0=false:=by unfold less; simp [h4]
  have l2:less 0 l=false:=by unfold less; simp [h4]
  exact ⟨fun h=>by (rw [l1] at h; cases h),fun h=>by (rw [l2] at h; cases h),fun _ _=>.inr ho⟩
 ·obtain ⟨hr,rfl,_,_⟩:=h.of h4
  have l1:less l 0=decide (key l<0):=by unfold less; simp [h4,c0,k0]
  have l2:less 0 l=decide (0<key l):=by unfold less; simp [h4,c0,k0]
  rw [l1,l2]
  refine ⟨fun g=>?_,fun g=>?_,fun g1 g2=>?_⟩
  ·have:=q_lt hr n0.1 h4 n0.2 (by rw [k0]; exact of_decide_eq_true g)
   rwa [e0] at this
  ·have:=q_gt hr n0.1 h4 n0.2 (by rw [k0]; exact of_decide_eq_true g)
   rwa [e0] at this
  ·have g1':=of_decide_eq_false g1
   have g2':=of_decide_eq_false g2
   have:=q_eq hr n0.1 h4 n0.2 (by rw [k0]; omega)
   rw [e0] at this
   exact .inl this
def beLo (n l:Int):Int:=if less l 0 then prev n else n
def beHi (n l:Int):Int:=if less l 0 then n else if less 0 l then next n else n
theorem beside_any {n l:Int} {L:Nat} (hn:nn n) (hl:FW l L) (w:World) :
  Calls Tryz.prog 248 #[.float .f64 (wd n),.float .f64 L] w fun e w'=>e=.returned (.agg #[.float .f64 (wd (beLo n l)),.float .f64 (wd (beHi n l))])∧Below w.heap.size w w':=by
 obtain ⟨o1,o2,o3⟩:=fw_order hl
 unfold beLo beHi
 cases h1:less l 0
 ·cases h2:less 0 l
  ·exact (besideSame (wd n) L (o3 h1 h2) w).mono fun _ _ ⟨a,b⟩=>⟨a,by rw [b]; exact bel_alloc _ _⟩
  ·exact (besideUp hn L (o2 h2) w).mono fun _ _ ⟨a,b⟩=>⟨a,by rw [b]; exact bel_alloc _ _⟩
 ·exact (besideDown hn L (o1 h1) w).mono fun _ _ ⟨a,b⟩=>⟨a,by rw [b]; exact bel_alloc _ _⟩
theorem q_heap_last (w:World) (o:Obj):(w.alloc o).heap[w.heap.size]?=some o:=by
 show (w.heap.push o)[w.heap.size]?=_
 simp
def hiM (p q:Int):Int:=if rg p<rg q then q else p
def loM (p q:Int):Int:=if rg p<rg q then p else q
def suN (p q:Int):Int:=fsum (hiM p q) (loM p q)
def suL (p q:Int):Int:=fsum (loM p q) (neg (fsum (suN p q) (neg (hiM p q))))
theorem sum_core {p q x y n l:Int} (hp:nn p) (hq:nn q) (hx:nn x) (hy:nn y) (hn:nn n) (en:n=fsum x y) (el:l=fsum y (neg (fsum n (neg x)))) (w:World)
  (hsw:(FloatKind.f64.format.order (wd (rg p)) (wd (rg q))=some .lt∧x=q∧y=p)∨((FloatKind.f64.format.order (wd (rg p)) (wd (rg q))=some .gt∨FloatKind.f64.format.order (wd (rg p)) (wd (rg q))=some .eq)∧x=p∧y=q)) :
  Calls Tryz.prog 217 #[.float .f64 (wd p),.float .f64 (wd q)] w fun e w'=>e=.returned (.agg #[.float .f64 (wd (beLo n l)),.float .f64 (wd (beHi n l))])∧Below w.heap.size w w':=by
 have CP:Hid (∀ W,Calls Tryz.prog 34 #[.float .f64 (wd p)] W fun e w'=>e=.returned (.float .f64 (wd (rg p)))∧w'=W):=fun W=>mathAbs hp.1 W
 have CQ:Hid (∀ W,Calls Tryz.prog 34 #[.float .f64 (wd q)] W fun e w'=>e=.returned (.float .f64 (wd (rg q)))∧w'=W):=fun W=>mathAbs hq.1 W
 have fx:FW x (wd x):=.inl ⟨hx.2,hx.1,rfl⟩
 have fy:FW y (wd y):=.inl ⟨hy.2,hy.1,rfl⟩
 have fn:FW n (wd n):=.inl ⟨hn.2,hn.1,rfl⟩
 have h1:∀ W,(binOp .add 59 (.float .f64 (wd x)) (.float .f64 (wd y))).run Tryz.prog W=.ok (.float .f64 (wd n)) W:=fun W=>by rw [en]; exact run_sumN _ fx fy (by rw [<- en]; exact hn.2) W
 have hg:=q_heap_last w (.cells #[.float .f64 0,.float .f64 0] 160)
 have hba:=bel_alloc w (.cells #[.float .f64 0,.float .f64 0] 160)
 obtain ⟨D,W1,r1,fD,hW1⟩:=run_fdiff (P:=Tryz.prog) 59 fn fx (w.alloc (.cells #[.float .f64 0,.float .f64 0] 160))
 obtain ⟨L,W2,r2,fL,hW2⟩:=run_fdiff (P:=Tryz.prog) 59 fy fD W1
 rw [<- el] at fL
 have b1:Below (w.alloc (.cells #[.float .f64 0,.float .f64 0] 160)).heap.size (w.alloc (.cells #[.float .f64 0,.float .f64 0] 160)) W1:=by
  rcases hW1 with rfl | rfl
  ·exact bel_refl _
  ·exact (bel_refl _).drew
 have b2:Below W1.heap.size W1 W2:=by
  rcases hW2 with rfl | rfl
  ·exact bel_refl _
  ·exact (bel_refl _).drew
 have CB:Hid (∀ W,Calls Tryz.prog 248 #[.float .f64 (wd n),.float .f64 L] W fun e w'=>e=.returned (.agg #[.float .f64 (wd (beLo n l)),.float .f64 (wd (beHi n l))])∧Below W.heap.size W w'):=fun W=>beside_any hn fL W
 generalize wd (beLo n l)=U at *
 generalize wd (beHi n l)=V at *
 clear fx fy fn fD fL hW1 hW2 en el hx hy hn hp hq
 have fin:∀ (w3:World),Below W2.heap.size W2 w3->(store ⟨w.heap.size,0,none⟩ (.float .f64 U)).run Tryz.prog w3=.ok () (w3.setCell ⟨w.heap.size,0,none⟩ (.float .f64 U))∧(store ⟨w.heap.size,1,none⟩ (.float .f64 V)).run Tryz.prog (w3.setCell ⟨w.heap.size,0,none⟩ (.float .f64 U))=.ok () ((w3.setCell ⟨w.heap.size,0,none⟩ (.float .f64 U)).setCell ⟨w.heap.size,1,none⟩ (.float .f64 V))∧((w3.setCell ⟨w.heap.size,0,none⟩ (.float .f64 U)).setCell ⟨w.heap.size,1,none⟩ (.float .f64 V)).cell? ⟨w.heap.size,0,none⟩=some (.float .f64 U)∧((w3.setCell ⟨w.heap.size,0,none⟩ (.float .f64 U)).setCell ⟨w.heap.size,1,none⟩ (.float .f64 V)).cell? ⟨w.heap.size,1,none⟩=some (.float .f64 V)∧Below w.heap.size w ((w3.setCell ⟨w.heap.size,0,none⟩ (.float .f64 U)).setCell ⟨w.heap.size,1,none⟩ (.float .f64 V)):=by
  intro w3 hb3
  have hbb:=bel_trans b1 (bel_trans b2 hb3)
  have d2:=(hbb.block _ (Array.getElem?_eq_some_iff.1 hg).1).trans hg
  have d3:=q_heap_set d2 0 (.float .f64 U)
  have d4:=q_heap_set d3 1 (.float .f64 V)
  have f0:=blkC d2 0 rfl
  have z0:=blkF d2 0
  have f1:=blkC d3 1 rfl
  have z1:=blkF d3 1
  refine ⟨?_,?_,blkC d4 0 rfl,blkC d4 1 rfl,?_⟩
  ·rw [run_store _ _ _ _ _ rfl,f0]; simp only [z0]; rfl
  ·rw [run_store _ _ _ _ _ rfl,f1]; simp only [z1]; rfl
  ·exact ((bel_trans hba hbb).setCell (p:=⟨w.heap.size,0,none⟩) (Nat.le_refl _) _).setCell (p:=⟨w.heap.size,1,none⟩) (Nat.le_refl _) _
 have FIN:=hideIt fin
 clear fin b1 b2 hba hg
 rcases hsw with ⟨o,rfl,rfl⟩ | ⟨o | o,rfl,rfl⟩
 all_goals
  go_enter Tryz.func217,Tryz.ntmps217
  go_wp2_with fail
  refine (CP.out _).mono ?_
  rintro _ _ ⟨rfl,rfl⟩
  go_wp2_with fail
  refine (CQ.out _).mono ?_
  rintro _ _ ⟨rfl,rfl⟩
  go_wp2_with fail
  refine (CB.out _).mono ?_
  rintro _ w3 ⟨rfl,hb3⟩
  obtain ⟨s0,s1,e0,e1,hbe⟩:=FIN.out w3 hb3
  go_wp2
  refine bodyPost_ret (v:=.agg #[.float .f64 U,.float .f64 V]) (by simp [results,Tryz.results217,go_sem,e0,e1]) rfl ⟨rfl,hbe⟩
theorem spanSum {p q:Int} (hp:nn p) (hq:nn q) (hn:nn (suN p q)) (w:World) :
  Calls Tryz.prog 217 #[.float .f64 (wd p),.float .f64 (wd q)] w fun e w'=>e=.returned (ivl (beLo (suN p q) (suL p q)) (beHi (suN p q) (suL p q)))∧Below w.heap.size w w':=by
 obtain ⟨a1,a2⟩:=q_rg hp.1
 obtain ⟨b1,b2⟩:=q_rg hq.1
 have ca:¬ cls (rg p)=4:=by rw [q_cls hp.1]; exact hp.2
 have cb:¬ cls (rg q)=4:=by rw [q_cls hq.1]; exact hq.2
 have ka:=q_key a2
 have kb:=q_key b2
 by_cases h:rg p<rg q
 ·have ex:hiM p q=q:=if_pos h
  have ey:loM p q=p:=if_pos h
  refine sum_core hp hq hq hp hn (by unfold suN; rw [ex,ey]) (by unfold suL; rw [ex,ey]) w (.inl ⟨q_lt a1 b1 ca cb (by rw [ka,kb]; exact h),rfl,rfl⟩)
 ·have ex:hiM p q=p:=if_neg h
  have ey:loM p q=q:=if_neg h
  refine sum_core hp hq hp hq hn (by unfold suN; rw [ex,ey]) (by unfold suL; rw [ex,ey]) w (.inr ⟨?_,rfl,rfl⟩)
  by_cases e:rg p=rg q
  ·exact .inr (q_eq a1 b1 ca cb (by rw [ka,kb]; exact e))
  ·exact .inl (q_gt a1 b1 ca cb (by rw [ka,kb]; omega))
theorem rg_iV {p q:Int} (h:rg p<=rg q) (hp:0<=rg p):(iV p).natAbs<=(iV q).natAbs:=by
 have a:=iV_abs p
 have b:=iV_abs q
 have c:=V_le (show (rg p).toNat<=(rg q).toNat by omega)
 omega
theorem su_exact {p q:Int} (hp:rng p) (hq:rng q) (pp:pok p=true) (pq:pok q=true) (hf:pok (suN p q)=true):pok (suL p q)=true∧iV (suN p q)+iV (suL p q)=iV p+iV q:=by
 by_cases h:rg p<rg q
 ·have ex:hiM p q=q:=if_pos h
  have ey:loM p q=p:=if_pos h
  unfold suL suN at *
  rw [ex,ey] at hf ⊢
  obtain ⟨a,b⟩:=fL_fin hq hp pq pp hf (rg_iV (by omega) (q_rg hp).2)
  exact ⟨a,by unfold fL at b; omega⟩
 ·have ex:hiM p q=p:=if_neg h
  have ey:loM p q=q:=if_neg h
  unfold suL suN at *
  rw [ex,ey] at hf ⊢
  obtain ⟨a,b⟩:=fL_fin hp hq pp pq hf (rg_iV (by omega) (q_rg hq).2)
  exact ⟨a,by unfold fL at b; omega⟩
theorem V_zero_iff {r:Nat}:(V Ieee.double r:Int)=0 ↔ r=0:=by
 constructor
 ·intro h
  by_cases h0:r=0
  ·exact h0
  ·have:=V_lt Ieee.double (show 0<r by omega)
   rw [V_zero] at this
   omega
 ·rintro rfl
  rw [V_zero]
  rfl
theorem iV_key {p:Int} (hp:rng p):(iV p<0 ↔ key p<0)∧(0<iV p ↔ 0<key p):=by
 have hz:=@V_zero_iff (rg p).toNat
 have hr:=q_rg hp
 unfold rng at hp
 have hv:(0:Int)<=(V Ieee.double (rg p).toNat:Int):=by omega
 by_cases h:p<0
 ·have e1:iV p=-(V Ieee.double (rg p).toNat:Int):=by unfold iV sg; simp [h]
  have e2:key p=-(rg p):=by unfold key rg; rw [if_pos h,if_pos h]
  rw [e1,e2]
  constructor <;> constructor <;> intro g <;> omega
 ·have e1:iV p=(V Ieee.double (rg p).toNat:Int):=by unfold iV sg; simp [h]
  have e2:key p=rg p:=by unfold key rg; rw [if_neg h,if_neg h]
  rw [e1,e2]
  constructor <;> constructor <;> intro g <;> omega
theorem iV_mono {p q:Int} (hp:rng p) (hq:rng q) (h:key p<key q):iV p<iV q:=by
 have rp:=q_rg hp
 have rq:=q_rg hq
 have ep:iV p=if p<0 then -(V Ieee.double (rg p).toNat:Int) else (V Ieee.double (rg p).toNat:Int):=by unfold iV sg; by_cases g:p<0 <;> simp [g]
 have eq':iV q=if q<0 then -(V Ieee.double (rg q).toNat:Int) else (V Ieee.double (rg q).toNat:Int):=by unfold iV sg; by_cases g:q<0 <;> simp [g]
 have kp:key p=if p<0 then -(rg p) else rg p:=by unfold key rg; by_cases g:p<0 <;> simp [g]
 have kq:key q=if q<0 then -(rg q) else rg q:=by unfold key rg; by_cases g:q<0 <;> simp [g]
 have zp:=@V_zero_iff (rg p).toNat
 have zq:=@V_zero_iff (rg q).toNat
 have m1:rg p<rg q->(V Ieee.double (rg p).toNat:Int)<V Ieee.double (rg q).toNat:=fun g=>by
  have:=V_lt Ieee.double (show (rg p).toNat<(rg q).toNat by omega)
  omega
 have m2:rg q<rg p->(V Ieee.double (rg q).toNat:Int)<V Ieee.double (rg p).toNat:=fun g=>by
  have:=V_lt Ieee.double (show (rg q).toNat<(rg p).toNat by omega)
  omega
 rw [kp,kq] at h
 rw [ep,eq']
 have hA0:(0:Int)<=(V Ieee.double (rg p).toNat:Int):=by omega
 have hB0:(0:Int)<=(V Ieee.double (rg q).toNat:Int):=by omega
 clear ep eq' kp kq
 generalize (V Ieee.double (rg p).toNat:Int)=A at *
 generalize (V Ieee.double (rg q).toNat:Int)=B at *
 by_cases a:p<0 <;> by_cases b:q<0 <;> simp only [a,b,if_true,if_false] at h ⊢ <;> omega
theorem nr_prev {n S:Int} (hn:nn n) (hi:¬ n=-4503599627370496) (hp:rng (prev n)) (h:Nr S (iV n)) (g:S<iV n):iV (prev n)<=S:=by
 obtain ⟨k1,_⟩:=key_prev hn.1 hn.2 hi
 have m:=iV_mono hp hn.1 (by omega)
 have:=h.2 (iV (prev n)) (fl_iV _)
 omega
theorem nr_next {n S:Int} (hn:nn n) (hi:¬ n=9218868437227405312) (hp:rng (next n)) (h:Nr S (iV n)) (g:iV n<S):S<=iV (next n):=by
 obtain ⟨k1,_,_,_⟩:=key_next hn.1 hn.2 hi
 have m:=iV_mono hn.1 hp (by omega)
 have:=h.2 (iV (next n)) (fl_iV _)
 omega
theorem rng_prev' {p:Int} (h:rng p):rng (prev p):=by unfold prev; exact rng_neg (rng_next (rng_neg h))
theorem su_btw {p q:Int} (hp:rng p) (hq:rng q) (pp:pok p=true) (pq:pok q=true) (hf:pok (suN p q)=true) (hn:nn (suN p q)) :
  iV (beLo (suN p q) (suL p q))<=iV p+iV q∧iV p+iV q<=iV (beHi (suN p q) (suL p q))∧((iV (suN p q)=iV p+iV q∧beLo (suN p q) (suL p q)=suN p q∧beHi (suN p q) (suL p q)=suN p q)∨(iV p+iV q<iV (suN p q)∧beLo (suN p q) (suL p q)=prev (suN p q)∧beHi (suN p q) (suL p q)=suN p q)∨(iV (suN p q)<iV p+iV q∧beLo (suN p q) (suL p q)=suN p q∧beHi (suN p q) (suL p q)=next (suN p q))):=by
 obtain ⟨pl,he⟩:=su_exact hp hq pp pq hf
 have hNr:Nr (iV p+iV q) (iV (suN p q)):=by
  by_cases h:rg p<rg q
  ·have ex:hiM p q=q:=if_pos h
   have ey:loM p q=p:=if_pos h
   unfold suN at hf ⊢
   rw [ex,ey] at hf ⊢
   have:=(stp_sum hq hp pq pp).nr hf
   rwa [Int.add_comm] at this
  ·have ex:hiM p q=p:=if_neg h
   have ey:loM p q=q:=if_neg h
   unfold suN at hf ⊢
   rw [ex,ey] at hf ⊢
   exact (stp_sum hp hq pp pq).nr hf
 have i1:¬ suN p q=-4503599627370496:=fun e=>by rw [e] at hf; revert hf; decide
 have i2:¬ suN p q=9218868437227405312:=fun e=>by rw [e] at hf; revert hf; decide
 have rl:rng (suL p q):=by
  unfold suL
  have a1:rng (hiM p q):=by unfold hiM; split <;> assumption
  have a2:rng (loM p q):=by unfold loM; split <;> assumption
  exact fsum_rng a2 (rng_neg (fsum_rng hn.1 (rng_neg a1)))
 obtain ⟨kl1,kl2⟩:=iV_key rl
 have c0:¬ cls 0=4:=by decide
 have k0:key 0=0:=by decide
 have cl:=q_fin pl
 have l1:less (suL p q) 0=decide (key (suL p q)<0):=by unfold less; simp [cl,c0,k0]
 have l2:less 0 (suL p q)=decide (0<key (suL p q)):=by unfold less; simp [cl,c0,k0]
 unfold beLo beHi
 rw [l1,l2]
 generalize suN p q=n at *
 generalize suL p q=l at *
 by_cases a:key l<0
 ·have al:iV l<0:=kl1.2 a
  simp only [a,decide_true,if_true]
  exact ⟨nr_prev hn i1 (rng_prev' hn.1) hNr (by omega),by omega,.inr (.inl ⟨by omega,by trivial,by trivial⟩)⟩
 ·by_cases b:0<key l
  ·have bl:0<iV l:=kl2.2 b
   simp only [a,b,decide_true,decide_false,if_true,if_false,Bool.false_eq_true]
   exact ⟨by omega,nr_next hn i2 (rng_next hn.1) hNr (by omega),.inr (.inr ⟨by omega,by trivial,by trivial⟩)⟩
  ·have z1:¬ iV l<0:=fun h=>a (kl1.1 h)
   have z2:¬ 0<iV l:=fun h=>b (kl2.1 h)
   simp only [a,b,decide_false,if_false,Bool.false_eq_true]
   exact ⟨by omega,by omega,.inl ⟨by omega,by trivial,by trivial⟩⟩
structure Pts (w:World) (ao:Option Addr) (n cap:Nat) (px py:Nat->Int):Prop where
 le:n<=cap
 max:cap<=9223372036854775807
 spot:0<n->∃ b off,ao=some ⟨b,off,none⟩∧b<w.heap.size∧∀ i,i<n->w.cell? ⟨b,off+i*2,none⟩=some (.int .i64 (px i))∧w.cell? ⟨b,off+i*2+1,none⟩=some (.int .i64 (py i))
theorem Pts.keeps {w w':World} {ao:Option Addr} {n cap:Nat} {px py:Nat->Int} (h:Pts w ao n cap px py) (hb:Below w.heap.size w w'):Pts w' ao n cap px py :=
  ⟨h.le,h.max,fun hn=>by
    obtain ⟨b,off,rfl,hlt,hc⟩:=h.spot hn
    exact ⟨b,off,rfl,Nat.lt_of_lt_of_le hlt hb.size,fun i hi=>⟨(hb.cell (p:=⟨b,off+i*2,none⟩) hlt).trans (hc i hi).1,(hb.cell (p:=⟨b,off+i*2+1,none⟩) hlt).trans (hc i hi).2⟩⟩⟩
def l2 (a b:Int) (i:Nat):Int:=if i=0 then a else b
def l3 (a b c:Int) (i:Nat):Int:=if i=0 then a else if i=1 then b else c
def l4 (a b c d:Int) (i:Nat):Int:=if i=0 then a else if i=1 then b else if i=2 then c else d
def pttame (x y:Int):Bool:=tame x && tame y
end Go.Proofs.YtjjihmnbdeeedaaGreatDoor
namespace Go.Proofs.YtjjihmnbdeeedaaGreatDoor
open Go Go.RowKit Go.Proofs.YtjjihmnbdeeedaaGreatDoor.M Ieee
theorem log2_fin {b:Int} {m u:Nat} (hb:rng b) (hp:pok b=true) (h:Ieee.double.read (wd b)=.number (decide (b<0)) m (-1074+(u:Int))):m<9007199254740992∧u<=2046:=by
 obtain ⟨h0,h1⟩:=rg_lt hb hp
 have hw:((wd b % 9223372036854775808:Nat):Int)=rg b:=wd_rung hb
 unfold Format.read at h
 rw [dSign,dBin,dInf,dLeast] at h
 dsimp only at h
 split at h
 ·rename_i h2
  simp only [Datum.number.injEq] at h
  obtain ⟨_,h3,h4⟩:=h
  exact ⟨by omega,by omega⟩
 ·rw [if_pos (by omega)] at h
  have hm:=Nat.mod_lt (wd b % 9223372036854775808) (show 0<4503599627370496 by decide)
  have hd:wd b % 9223372036854775808/4503599627370496<=2047:=by omega
  simp only [Datum.number.injEq] at h
  obtain ⟨_,h3,h4⟩:=h
  exact ⟨by omega,by omega⟩
theorem nearest_nearP {S t base:Int} (hb:-4194304<=base) (hS:t*pw base=S) (h0:S≠0):Ieee.double.nearest (decide (t<0)) t.natAbs base=wd (nearP S):=by
 obtain ⟨A,r0,left,a1,a2,a3⟩:=write_near hb hS h0
 obtain ⟨B,s0,k,b1,b2,b3⟩:=nearP_rung h0
 have hAB:=sg_inj (a1.symm.trans b1)
 subst hAB
 obtain ⟨h2,h3⟩:=a2.unique b2
 subst h2 h3
 rw [a3,b3]
def fmaS (p q r:Int):Int:=sg (xsg p q) (fsize p q)+patV r
theorem ffma_fin {p q r:Int} (hp:rng p) (hq:rng q) (hr:rng r) (pp:pok p=true) (pq:pok q=true) (pr:pok r=true) :
  Ieee.double.fma (wd p) (wd q) (wd r)=some (wd (if fmaS p q r=0 then patS (xsg p q && decide (r<0)) 0 else nearP (fmaS p q r))):=by
 obtain ⟨m,u,h1,v1⟩:=read_wd hp pp
 obtain ⟨n,v,h2,v2⟩:=read_wd hq pq
 obtain ⟨l,x,h3,v3⟩:=read_wd hr pr
 obtain ⟨i,hi⟩:∃ i:Int,-1074+(u:Int)+(-1074+(v:Int))=i:=⟨_,rfl⟩
 obtain ⟨j,hj⟩:∃ j:Int,-1074+(x:Int)=j:=⟨_,rfl⟩
 have hpm:=pw_mul (a:=-1074+(u:Int)) (b:=-1074+(v:Int)) (by omega) (by omega)
 have hC:=fmul_core (g:=decide (p<0)) (h:=decide (q<0)) (x:=(m:Int)) (y:=(n:Int)) hpm
 rw [<- v1,<- v2,hi] at hC
 have hcast:((m*n:Nat):Int)=(m:Int)*(n:Int):=by push_cast; rfl
 have hf:fsize p q=((m*n:Nat):Int)*pw i:=by rw [hcast]; exact fsize_of (two_pos 4194304) hC
 obtain ⟨base,hbase⟩:∃ base,min i j=base:=⟨_,rfl⟩
 have hB:-4194304<=base:=by omega
 obtain ⟨t,ht⟩:∃ t,signed (xsg p q) (m*n) (i-base).toNat+signed (decide (r<0)) l (j-base).toNat=t:=⟨_,rfl⟩
 have hfma:Ieee.double.fma (wd p) (wd q) (wd r)=some (Ieee.double.nearest (if t=0 then xsg p q && decide (r<0) else decide (t<0)) t.natAbs base):=by
  unfold Format.fma
  rw [h1,h2,h3]
  unfold Datum.product
  dsimp only
  rw [hi,hj,xor_ne]
  show Option.map Ieee.double.write (Datum.sum (.number (xsg p q) (m*n) i) (.number (decide (r<0)) l j))=_
  unfold Datum.sum
  dsimp only
  rw [hbase,ht]
  rfl
 have s1:=signed_pw (xsg p q) (m*n) (i-base).toNat (i:=i) (base:=base) (by omega) hB
 have s2:=signed_pw (decide (r<0)) l (j-base).toNat (i:=j) (base:=base) (by omega) hB
 rw [hj] at v3
 rw [<- hf] at s1
 rw [<- v3] at s2
 have hS:t*pw base=fmaS p q r:=by
  unfold fmaS
  rw [<- ht,Int.add_mul,s1,s2]
 rw [hfma]
 by_cases h:fmaS p q r=0
 ·have ht0:t=0:=(eq_zero_iff (pw_pos base)).2 (hS.trans h)
  rw [if_pos h,ht0,if_pos rfl]
  unfold Format.nearest
  rw [if_pos (show Int.natAbs 0=0 from rfl)]
  have:=wd_word (ng:=xsg p q && decide (r<0)) (r:=0) (by decide) (by decide)
  rw [<- this]
  rfl
 ·have ht0:t≠0:=fun e=>h (by rw [<- hS,e,Int.zero_mul])
  rw [if_neg h,if_neg ht0,nearest_nearP hB hS h]
def RdP (way V p:Int):Prop:=∃ (A:Int) (r0:Nat) (left:Int),V=sg (decide (V<0)) A∧Rung A r0 left∧p=patS (decide (V<0)) (rTo way (decide (V<0)) r0 left)
theorem RdP.unique {way V p q:Int} (h:RdP way V p) (k:RdP way V q):p=q:=by
 obtain ⟨A,r0,l,h1,h2,h3⟩:=h
 obtain ⟨B,s0,m,k1,k2,k3⟩:=k
 have hAB:=sg_inj (h1.symm.trans k1)
 subst hAB
 obtain ⟨e1,e2⟩:=h2.unique k2
 subst e1 e2
 rw [h3,k3]
theorem r64_num {way:Int} {ng sd:Bool} {M e:Int} (hv:0<M) (he:-4194304<=e) :
  ∃ (r0:Nat) (left:Int),Rung (M*pw e) r0 left∧r64 way ng sd (M/2^vK M).toNat (e+vK M) (decide (M % 2^vK M≠0))=(patS (ng && (decide (0<rTo way ng r0 left) || sd)) (rTo way ng r0 left),decide (left≠0) || decide (9218868437227405312<=(r0:Int))):=by
 have hsm:=vK_small (Int.le_of_lt hv)
 have hb:=blen_pos hv
 have hp:=two_pos (vK M)
 have hge:2^(blen M-1-vK M)<=M/2^vK M:=by
  rw [Int.le_ediv_iff_mul_le hp,<- Int.pow_add]
  by_cases hk:vK M<=blen M-1
  ·rw [show blen M-1-vK M+vK M=blen M-1 by omega]
   exact hb.2
  ·exfalso; unfold vK at hk; omega
 have hpos:=two_pos (blen M-1-vK M)
 have e64:(2:Nat)^64=18446744073709551616:=by decide
 have e60:(2:Nat)^60=1152921504606846976:=by decide
 refine r64_spec (held_cut (Int.le_of_lt hv) (by omega) _) (by omega) (by omega) (by omega) (fun hc=>?_)
 have hk0:0<vK M:=by
  rcases Nat.eq_zero_or_pos (vK M) with h | h
  ·rw [h,Int.pow_zero,Int.emod_one] at hc; simp at hc
  ·exact h
 have h61:blen M-1-vK M=61:=by unfold vK at hk0 ⊢; omega
 rw [h61] at hge
 have e61:(2:Int)^61=2305843009213693952:=by decide
 rw [e61] at hge
 omega
theorem sg_lt {ng:Bool} {A:Int} (h:0<A):decide (sg ng A<0)=ng:=by
 cases ng
 ·exact decide_eq_false (by show ¬ A<0; omega)
 ·exact decide_eq_true (by show -A<0; omega)
theorem rd_of {way V:Int} {ng:Bool} {M e:Int} (hV:V=sg ng (M*pw e)) (hv:0<M) (he:-4194304<=e) :
  RdP way V (r64 way ng true (M/2^vK M).toNat (e+vK M) (decide (M % 2^vK M≠0))).1:=by
 obtain ⟨r0,left,h1,h2⟩:=r64_num (way:=way) (ng:=ng) (sd:=true) hv he
 have hA:0<M*pw e:=Int.mul_pos hv (pw_pos e)
 have hn:decide (V<0)=ng:=by rw [hV]; exact sg_lt hA
 refine ⟨M*pw e,r0,left,by rw [hn]; exact hV,h1,?_⟩
 rw [h2,hn]
 simp
def rdP (way V:Int):Int:=(r64 way (decide (V<0)) true ((V.natAbs:Int)/2^vK (V.natAbs:Int)).toNat (-4194304+vK (V.natAbs:Int)) (decide ((V.natAbs:Int) % 2^vK (V.natAbs:Int)≠0))).1
theorem rdP_is (way:Int) {V:Int} (h:V≠0):RdP way V (rdP way V):=by
 refine rd_of ?_ (by omega) (Int.le_refl _)
 rw [pw_least,Int.mul_one]
 by_cases hn:V<0
 ·rw [decide_eq_true hn]; show V=-(V.natAbs:Int); omega
 ·rw [decide_eq_false hn]; show V=(V.natAbs:Int); omega
theorem rdP_eq {way V p:Int} (h0:V≠0) (h:RdP way V p):rdP way V=p:=(rdP_is way h0).unique h
theorem rdP_near {V:Int} (h:V≠0):rdP 0 V=nearP V:=by
 obtain ⟨A,r0,left,h1,h2,h3⟩:=nearP_rung h
 exact rdP_eq h ⟨A,r0,left,h1,h2,h3⟩
theorem r64_dy {way V:Int} {ng:Bool} {m e:Int} (hy:Dy V ng m e) (h0:V≠0) (he:-4194304<=e) :
  (r64 way ng true (m/2^vK m).toNat (e+vK m) (decide (m % 2^vK m≠0))).1=rdP way V:=by
 have hm:0<m:=by
  rcases hy.form with ⟨f1,_⟩ | ⟨f1,_⟩
  ·exact absurd (hy.eq_zero.2 f1) h0
  ·exact f1
 refine (rdP_eq h0 (rd_of ?_ hm he)).symm
 rw [hy.val]
 cases ng
 ·rfl
 ·show -m*pw e=-(m*pw e); rw [Int.neg_mul]
theorem rdP_pat (way:Int) {V:Int} (h:V≠0):rng (rdP way V)∧cls (rdP way V)≠4:=by
 obtain ⟨A,r0,left,_,_,h3⟩:=rdP_is way h
 rw [h3]
 have:=rTo_range way (decide (V<0)) r0 left
 exact patS_rng this.1 this.2
theorem prod_infD {p q:Int} (rp:rng p) (rq:rng q) (p0:0<=rg p) (p1:rg p<=9218868437227405312) (q0:0<=rg q) (q1:rg q<=9218868437227405312) (h:rg p=9218868437227405312∨rg q=9218868437227405312) :
  Datum.product (Ieee.double.read (wd p)) (Ieee.double.read (wd q))=if rg p=0∨rg q=0 then none else some (.infinity (xsg p q)):=by
 have hX:(decide (p<0) ^^ decide (q<0))=xsg p q:=xor_ne _ _
 have hX2:(decide (q<0) ^^ decide (p<0))=xsg p q:=by rw [<- hX]; cases decide (p<0) <;> cases decide (q<0) <;> rfl
 by_cases ip:rg p=9218868437227405312
 ·have ep:=read_inf64 rp ip
  by_cases iq:rg q=9218868437227405312
  ·rw [if_neg (by omega),ep,read_inf64 rq iq,<- hX]
   rfl
  ·have pq:=(pok_rg rq).2 (by omega)
   obtain ⟨m,u,eq,vq⟩:=read_wd rq pq
   have hz:=mag_zero rq pq vq
   rw [ep,eq]
   unfold Datum.product
   dsimp only
   by_cases hm:m=0
   ·rw [if_pos hm,if_pos (.inr (hz.1 hm))]
   ·rw [if_neg hm,if_neg (fun h=>by rcases h with h | h; omega; exact hm (hz.2 h)),hX]
 ·have iq:rg q=9218868437227405312:=by omega
  have pp:=(pok_rg rp).2 (by omega)
  obtain ⟨m,u,ep,vp⟩:=read_wd rp pp
  have hz:=mag_zero rp pp vp
  have eq:=read_inf64 rq iq
  rw [ep,eq]
  unfold Datum.product
  dsimp only
  by_cases hm:m=0
  ·rw [if_pos hm,if_pos (.inl (hz.1 hm))]
  ·rw [if_neg hm,if_neg (fun h=>by rcases h with h | h; exact hm (hz.2 h); omega),hX2]
def ffma (p q r:Int):Int :=
 if cls p=4∨cls q=4∨cls r=4 then 9221120237041090561
 else if rg p=9218868437227405312∨rg q=9218868437227405312 then
  if rg p=0∨rg q=0 then 9221120237041090561
  else if rg r=9218868437227405312∧¬ xsg p q=decide (r<0) then 9221120237041090561 else patS (xsg p q) 9218868437227405312
 else if rg r=9218868437227405312 then r
 else if fmaS p q r=0 then patS (xsg p q && decide (r<0)) 0 else nearP (fmaS p q r)
theorem fma_FW {p q r:Int} {x y z:Nat} (hx:FW p x) (hy:FW q y) (hz:FW r z):(∃ t,Ieee.double.fma x y z=some t∧FW (ffma p q r) t)∨(Ieee.double.fma x y z=none∧ffma p q r=9221120237041090561):=by
 by_cases h4:cls p=4∨cls q=4∨cls r=4
 ·right
  refine ⟨?_,by unfold ffma; rw [if_pos h4]⟩
  unfold Format.fma
  rcases h4 with h | h | h
  ·obtain ⟨s,t,e⟩:=hx.read_nan h
   rw [e]
   rfl
  ·obtain ⟨s,t,e⟩:=hy.read_nan h
   rw [e]
   cases Ieee.double.read x <;> rfl
  ·obtain ⟨s,t,e⟩:=hz.read_nan h
   rw [e]
   cases Datum.product (Ieee.double.read x) (Ieee.double.read y) with
   | none=>rfl
   | some d=>cases d <;> rfl
 ·have h4p:cls p≠4:=fun h=>h4 (.inl h)
  have h4q:cls q≠4:=fun h=>h4 (.inr (.inl h))
  have h4r:cls r≠4:=fun h=>h4 (.inr (.inr h))
  obtain ⟨rp,rfl,p0,p1⟩:=hx.of h4p
  obtain ⟨rq,rfl,q0,q1⟩:=hy.of h4q
  obtain ⟨rr,rfl,r0,r1⟩:=hz.of h4r
  have hI:=patS_rng (ng:=xsg p q) (r:=9218868437227405312) (by decide) (by decide)
  unfold ffma
  rw [if_neg h4]
  by_cases hi:rg p=9218868437227405312∨rg q=9218868437227405312
  ·rw [if_pos hi]
   have hP:=prod_infD rp rq p0 p1 q0 q1 hi
   by_cases h0:rg p=0∨rg q=0
   ·right
    rw [if_pos h0] at hP ⊢
    refine ⟨?_,rfl⟩
    unfold Format.fma
    rw [hP]
    rfl
   ·rw [if_neg h0] at hP ⊢
    by_cases ir:rg r=9218868437227405312
    ·have er:=read_inf64 rr ir
     by_cases hs:xsg p q=decide (r<0)
     ·left
      rw [if_neg (fun h=>h.2 hs)]
      refine ⟨_,?_,FW.pat hI.2 hI.1⟩
      unfold Format.fma
      rw [hP,er]
      show Option.map Ieee.double.write (Datum.sum (.infinity (xsg p q)) (.infinity (decide (r<0))))=_
      unfold Datum.sum
      dsimp only
      rw [if_pos hs]
      show some (Ieee.double.write (.infinity (xsg p q)))=_
      rw [write_infS]
     ·right
      rw [if_pos ⟨ir,hs⟩]
      refine ⟨?_,rfl⟩
      unfold Format.fma
      rw [hP,er]
      show Option.map Ieee.double.write (Datum.sum (.infinity (xsg p q)) (.infinity (decide (r<0))))=_
      unfold Datum.sum
      dsimp only
      rw [if_neg hs]
      rfl
    ·left
     obtain ⟨l,v,er,_⟩:=read_wd rr ((pok_rg rr).2 (by omega))
     rw [if_neg (fun h=>ir h.1)]
     refine ⟨_,?_,FW.pat hI.2 hI.1⟩
     unfold Format.fma
     rw [hP,er]
     show some (Ieee.double.write (.infinity (xsg p q)))=_
     rw [write_infS]
  ·rw [if_neg hi]
   have pp:=(pok_rg rp).2 (by omega)
   have pq:=(pok_rg rq).2 (by omega)
   by_cases ir:rg r=9218868437227405312
   ·left
    rw [if_pos ir]
    obtain ⟨m,u,ep,_⟩:=read_wd rp pp
    obtain ⟨n,v,eq,_⟩:=read_wd rq pq
    refine ⟨wd r,?_,FW.pat h4r rr⟩
    unfold Format.fma
    rw [ep,eq,read_inf64 rr ir]
    show some (Ieee.double.write (.infinity (decide (r<0))))=_
    rw [write_inf64 rr ir]
   ·left
    rw [if_neg ir]
    refine ⟨_,ffma_fin rp rq rr pp pq ((pok_rg rr).2 (by omega)),?_⟩
    by_cases hS:fmaS p q r=0
    ·rw [if_pos hS]
     obtain ⟨g1,g2⟩:=patS_rng (ng:=xsg p q && decide (r<0)) (r:=0) (by decide) (by decide)
     exact FW.pat g2 g1
    ·rw [if_neg hS]
     exact FW.pat (nearP_pat hS).2 (nearP_pat hS).1
end Go.Proofs.YtjjihmnbdeeedaaGreatDoor
namespace Go.Proofs.YtjjihmnbdeeedaaGreatDoor
open Go Go.RowKit Go.Proofs.YtjjihmnbdeeedaaGreatDoor.M
theorem sgTT (x:Int):sg true x=-x:=rfl
theorem sgFF (x:Int):sg false x=x:=rfl
theorem rTo_low {ng:Bool} {r0:Nat} {left:Int} (way:Int) (h:(r0:Int)<9218868437227405312):rTo way ng r0 left=(r0:Int)+(if rUp way ng (decide (r0 % 2=1)) left then 1 else 0):=by
 unfold rTo; rw [if_pos h]
theorem dir_cases {V:Int} (h0:V≠0):∃ (g:Bool) (A:Int) (r0:Nat) (left:Int),V=sg g A∧0<A∧Rung A r0 left∧nearP V=patS g (rTo 0 g r0 left)∧rdP 1 V=patS g (rTo 1 g r0 left)∧rdP 2 V=patS g (rTo 2 g r0 left):=by
 obtain ⟨A,r0,left,e1,hR,e2⟩:=nearP_rung h0
 have hA:0<A:=by
  by_cases hn:V<0
  ·rw [decide_eq_true hn] at e1
   have:V=-A:=e1
   omega
  ·rw [decide_eq_false hn] at e1
   have:V=A:=e1
   omega
 exact ⟨decide (V<0),A,r0,left,e1,hA,hR,e2,rdP_eq h0 ⟨A,r0,left,e1,hR,rfl⟩,rdP_eq h0 ⟨A,r0,left,e1,hR,rfl⟩⟩
theorem patS_nn {g:Bool} {r:Int} (h0:0<=r) (h1:r<=9218868437227405312):nn (patS g r):=by
 obtain ⟨a,b⟩:=patS_rng (ng:=g) h0 h1
 exact ⟨a,b⟩
theorem nextS_pos {r:Int} (h0:0<=r) (h1:r<9218868437227405312):next (patS false r)=patS false (r+1):=by
 have hn:=patS_nn (g:=false) h0 (by omega)
 unfold next
 rw [if_neg hn.2]
 show (if r=9218868437227405312 then r else if r=-9223372036854775808 then 1 else if r<0 then r-1 else r+1)=r+1
 rw [if_neg (by omega),if_neg (by omega),if_neg (by omega)]
theorem nextS_neg {r:Int} (h0:0<=r) (h1:r<9218868437227405312):next (patS true (r+1))=patS true r:=by
 have hn:=patS_nn (g:=true) (show 0<=r+1 by omega) (by omega)
 unfold next
 rw [if_neg hn.2]
 show (if r+1-9223372036854775808=9218868437227405312 then r+1-9223372036854775808 else if r+1-9223372036854775808=-9223372036854775808 then 1 else if r+1-9223372036854775808<0 then r+1-9223372036854775808-1 else r+1-9223372036854775808+1)=r-9223372036854775808
 rw [if_neg (by omega),if_neg (by omega),if_pos (by omega)]
 omega
theorem prevS_pos {r:Int} (h0:0<=r) (h1:r<9218868437227405312):prev (patS false (r+1))=patS false r:=by
 have hn:=patS_nn (g:=false) (show 0<=r+1 by omega) (by omega)
 rw [prev_down hn (show ¬ r+1=-4503599627370496 by omega)]
 show (if r+1=0∨r+1=-9223372036854775808 then (-9223372036854775807:Int) else if r+1<0 then r+1+1 else r+1-1)=r
 rw [if_neg (by omega),if_neg (by omega)]
 omega
theorem prevS_neg {r:Int} (h0:0<=r) (h1:r<9218868437227405312):prev (patS true r)=patS true (r+1):=by
 have hn:=patS_nn (g:=true) h0 (by omega)
 rw [prev_down hn (show ¬ r-9223372036854775808=-4503599627370496 by omega)]
 show (if r-9223372036854775808=0∨r-9223372036854775808=-9223372036854775808 then (-9223372036854775807:Int) else if r-9223372036854775808<0 then r-9223372036854775808+1 else r-9223372036854775808-1)=r+1-9223372036854775808
 by_cases hr:r=0
 ·rw [if_pos (by omega)]; omega
 ·rw [if_neg (by omega),if_pos (by omega)]; omega
theorem rUp_dn (odd:Bool) (left:Int):rUp 1 false odd left=false∧(left≠0->rUp 1 true odd left=true)∧rUp 2 true odd left=false∧(left≠0->rUp 2 false odd left=true)∧(∀ way g,left=0->rUp way g odd left=false):=by
 refine ⟨?_,fun h=>?_,?_,fun h=>?_,fun way g h=>?_⟩
 ·unfold rUp; simp
 ·unfold rUp; simp [h]
 ·unfold rUp; simp
 ·unfold rUp; simp [h]
 ·cases hu:rUp way g odd left
  ·rfl
  ·rw [h] at hu; exact absurd hu (fun q=>rUp_left q)
theorem dir_fin {V:Int} (h0:V≠0) (hf:pok (nearP V)=true) :
  (V<patV (nearP V)->prev (nearP V)=rdP 1 V∧nearP V=rdP 2 V)∧(patV (nearP V)<V->nearP V=rdP 1 V∧next (nearP V)=rdP 2 V)∧(V=patV (nearP V)->nearP V=rdP 1 V∧nearP V=rdP 2 V):=by
 obtain ⟨g,A,r0,left,e,hA,hR,en,e1,e2⟩:=dir_cases h0
 have hrr:=rTo_range 0 g r0 left
 rw [en,patS_fin hrr.1 hrr.2] at hf
 have hf:=of_decide_eq_true hf
 have hr0:(r0:Int)<9218868437227405312:=by
  rcases Int.lt_or_le (r0:Int) 9218868437227405312 with q | q
  ·exact q
  ·exfalso
   unfold rTo at hf
   rw [if_neg (by omega)] at hf
   unfold bRung at hf
   rw [show rUp 0 g true 3=true by cases g <;> decide,if_pos rfl] at hf
   omega
 obtain ⟨lo,hi,l0,l1,l2,l3⟩:=hR
 obtain ⟨u1,u2,u3,u4,u5⟩:=rUp_dn (decide (r0 % 2=1)) left
 rw [en,e1,e2,rTo_low 1 hr0,rTo_low 2 hr0]
 rw [rTo_low 0 hr0] at hf ⊢
 have pv:∀ r:Nat,(r:Int)<9218868437227405312->patV (patS g (r:Int))=sg g (vS r):=fun r hr=>by
  cases g
  ·exact patV_patS hr (fun q=>by cases q)
  ·exact patV_neg hr
 have pv0:=pv r0 hr0
 have pv1:=pv (r0+1)
 clear pv l1 l2 l3
 generalize vS r0=a at *
 generalize vS (r0+1)=b at *
 by_cases hl:left=0
 ·have ha:=l0.1 hl
  rw [u5 0 g hl,u5 1 g hl,u5 2 g hl]
  simp only [Bool.false_eq_true,if_false,Int.add_zero] at hf ⊢
  rw [pv0,e,ha]
  clear pv0 pv1 en e1 e2 e h0
  exact ⟨fun q=>absurd q (by omega),fun q=>absurd q (by omega),fun _=>⟨trivial,trivial⟩⟩
 ·have hlt:a<A:=by
   have:A≠a:=fun q=>hl (l0.2 q)
   omega
  cases hu:rUp 0 g (decide (r0 % 2=1)) left
  ·rw [hu] at hf
   simp only [Bool.false_eq_true,if_false,Int.add_zero] at hf ⊢
   rw [pv0,e]
   clear pv0 pv1 en e1 e2 e h0
   cases g
   ·rw [u1,u4 hl]
    simp only [Bool.false_eq_true,if_false,if_true,Int.add_zero]
    refine ⟨fun q=>?_,fun _=>⟨trivial,nextS_pos (by omega) hr0⟩,fun q=>?_⟩
    ·rw [sgFF,sgFF] at q
     omega
    ·rw [sgFF,sgFF] at q
     omega
   ·rw [u2 hl,u3]
    simp only [Bool.false_eq_true,if_false,if_true,Int.add_zero]
    refine ⟨fun _=>⟨prevS_neg (by omega) hr0,trivial⟩,fun q=>?_,fun q=>?_⟩
    ·rw [sgTT,sgTT] at q
     omega
    ·rw [sgTT,sgTT] at q
     omega
  ·rw [hu] at hf
   simp only [if_true] at hf ⊢
   rw [show (r0:Int)+1=((r0+1:Nat):Int) by push_cast; rfl] at hf ⊢
   rw [pv1 hf,e]
   clear pv0 pv1 en e1 e2 e h0
   rw [show ((r0+1:Nat):Int)=(r0:Int)+1 by push_cast; rfl]
   cases g
   ·rw [u1,u4 hl]
    simp only [Bool.false_eq_true,if_false,if_true,Int.add_zero]
    refine ⟨fun _=>⟨prevS_pos (by omega) hr0,trivial⟩,fun q=>?_,fun q=>?_⟩
    ·rw [sgFF,sgFF] at q
     omega
    ·rw [sgFF,sgFF] at q
     omega
   ·rw [u2 hl,u3]
    simp only [Bool.false_eq_true,if_false,if_true,Int.add_zero]
    refine ⟨fun q=>?_,fun _=>⟨trivial,nextS_neg (by omega) hr0⟩,fun q=>?_⟩
    ·rw [sgTT,sgTT] at q
     omega
    ·rw [sgTT,sgTT] at q
     omega
theorem dir_inf {V:Int} (h0:V≠0) (hf:pok (nearP V)=false) :
  (0<V->nearP V=9218868437227405312∧rdP 1 V=9218868437227405311∧rdP 2 V=9218868437227405312)∧(V<0->nearP V=-4503599627370496∧rdP 1 V=-4503599627370496∧rdP 2 V=-4503599627370497):=by
 obtain ⟨g,A,r0,left,e,hA,hR,en,e1,e2⟩:=dir_cases h0
 have hrr:=rTo_range 0 g r0 left
 rw [en,patS_fin hrr.1 hrr.2] at hf
 have hf:=of_decide_eq_false hf
 obtain ⟨u1,u2,u3,u4,u5⟩:=rUp_dn (decide (r0 % 2=1)) left
 have hr:rTo 0 g r0 left=9218868437227405312:=by omega
 have key:(∀ g',g=g'->rTo 1 g r0 left=if g' then 9218868437227405312 else 9218868437227405311)∧(∀ g',g=g'->rTo 2 g r0 left=if g' then 9218868437227405311 else 9218868437227405312):=by
  by_cases hr0:(r0:Int)<9218868437227405312
  ·rw [rTo_low 0 hr0] at hr
   have hl:left≠0:=fun q=>by
    rw [u5 0 g q] at hr
    simp at hr
    omega
   have hrv:(r0:Int)=9218868437227405311:=by
    split at hr <;> omega
   rw [rTo_low 1 hr0,rTo_low 2 hr0]
   cases g
   ·rw [u1,u4 hl]
    constructor
    ·intro g' hg; subst hg; simp; omega
    ·intro g' hg; subst hg; simp; omega
   ·rw [u2 hl,u3]
    constructor
    ·intro g' hg; subst hg; simp; omega
    ·intro g' hg; subst hg; simp; omega
  ·unfold rTo bRung
   rw [if_neg hr0,if_neg hr0]
   cases g
   ·constructor
    ·intro g' hg; subst hg; decide
    ·intro g' hg; subst hg; decide
   ·constructor
    ·intro g' hg; subst hg; decide
    ·intro g' hg; subst hg; decide
 cases g
 ·refine ⟨fun _=>⟨?_,?_,?_⟩,fun q=>?_⟩
  ·rw [en,hr]; rfl
  ·rw [e1,key.1 false rfl]; rfl
  ·rw [e2,key.2 false rfl]; rfl
  ·have:V=A:=e
   omega
 ·refine ⟨fun q=>?_,fun _=>⟨?_,?_,?_⟩⟩
  ·have:V=-A:=e
   omega
  ·rw [en,hr]; rfl
  ·rw [e1,key.1 true rfl]; rfl
  ·rw [e2,key.2 true rfl]; rfl
def prV (a b:Int):Int:=sg (xsg a b) (fsize a b)
theorem prV_eq {a b:Int}:prV a b=patV a*patV b/2^4194304:=by
 unfold prV fsize
 cases xsg a b
 ·rfl
 ·show - -_=_; rw [Int.neg_neg]
theorem prV_parts {a b:Int} (ra:rng a) (rb:rng b) (pa:pok a=true) (pb:pok b=true) :
  ∃ N t:Nat,fsize a b=(N:Int)*pw (-2148+(t:Int))∧N<2^106∧prV a b*2^4194304=patV a*patV b:=by
 obtain ⟨m,u,h1,v1⟩:=read_wd ra pa
 obtain ⟨n,v,h2,v2⟩:=read_wd rb pb
 have b1:=log2_fin ra pa h1
 have b2:=log2_fin rb pb h2
 have hpm:=pw_mul (a:=-1074+(u:Int)) (b:=-1074+(v:Int)) (by omega) (by omega)
 have hC:=fmul_core (g:=decide (a<0)) (h:=decide (b<0)) (x:=(m:Int)) (y:=(n:Int)) hpm
 rw [<- v1,<- v2] at hC
 have hcast:((m*n:Nat):Int)=(m:Int)*(n:Int):=by push_cast; rfl
 have hf:fsize a b=((m*n:Nat):Int)*pw (-1074+(u:Int)+(-1074+(v:Int))):=by rw [hcast]; exact fsize_of (two_pos 4194304) hC
 refine ⟨m*n,u+v,?_,?_,?_⟩
 ·rw [hf,show -1074+(u:Int)+(-1074+(v:Int))=-2148+((u+v:Nat):Int) by push_cast; omega]
 ·have e:(2:Nat)^106=9007199254740992*9007199254740992:=by decide
  rw [e]
  exact Nat.lt_of_le_of_lt (Nat.mul_le_mul_left m (Nat.le_of_lt b2.1)) (Nat.mul_lt_mul_of_pos_right b1.1 (by decide))
 ·rw [<- hC]
  unfold prV
  rw [hf,hcast]
  rfl
theorem fus_core {N U s t q Z E:Nat} (hE:E=1074) (hZ:Z=2^E) (hq:0<q) (hN:N<2^106) (hU:4503599627370496<=U) (lo:U*2^s*(q*Z)<=N*(q*2^t)):s+1021<=t:=by
 have e52:(2:Nat)^52=4503599627370496:=by decide
 have hB:=Nat.two_pow_pos s
 have hC:=Nat.two_pow_pos t
 have hZ0:0<Z:=by rw [hZ]; exact Nat.two_pow_pos _
 have l1:4503599627370496*(2^s*Z*q)<=U*2^s*(q*Z):=by
  rw [show U*2^s*(q*Z)=U*(2^s*Z*q) by generalize (2:Nat)^s=B; grind]
  exact Nat.mul_le_mul_right _ hU
 have l2:N*(q*2^t)<2^106*2^t*q:=by
  rw [show 2^106*2^t*q=2^106*(q*2^t) by generalize (2:Nat)^106=A; generalize (2:Nat)^t=B; grind]
  exact Nat.mul_lt_mul_of_pos_right hN (Nat.mul_pos hq hC)
 have l3:(4503599627370496*2^s*Z)*q<(2^106*2^t)*q:=by
  have:4503599627370496*2^s*Z*q=4503599627370496*(2^s*Z*q):=by generalize (2:Nat)^s=B; grind
  rw [this]
  exact Nat.lt_of_le_of_lt (Nat.le_trans l1 lo) l2
 have l4:=Nat.lt_of_mul_lt_mul_right l3
 rw [<- e52,hZ,<- Nat.pow_add,<- Nat.pow_add,<- Nat.pow_add] at l4
 have h3:=(Nat.pow_lt_pow_iff_right (by decide:1<2)).1 l4
 omega
theorem fus_fl {N U s k:Nat} {S:Int} (hk:s<=k+53) (h:S=(N:Int)*2^k-(U:Int)*2^s∨S=(N:Int)*2^k-((U:Int)+1)*2^s) (hS:(S.natAbs:Int)<2^s):Fl S:=by
 rcases Nat.lt_or_ge k s with g | g
 ·refine fl_of (k:=k) ?_ ?_
  ·obtain ⟨d,hd⟩:=p2dvd (Nat.le_of_lt g)
   rcases h with h | h
   ·exact ⟨N-U*d,by rw [h,hd]; grind⟩
   ·exact ⟨N-(U+1)*d,by rw [h,hd]; grind⟩
  ·have h1:=p2le hk
   rw [Int.pow_add,show (2:Int)^53=9007199254740992 by decide,Int.mul_comm] at h1
   omega
 ·obtain ⟨d,hd⟩:=p2dvd g
  have hdv:(2^s:Int) ∣ S:=by
   rcases h with h | h
   ·exact ⟨N*d-U,by rw [h,hd]; grind⟩
   ·exact ⟨N*d-(U+1),by rw [h,hd]; grind⟩
  have h0:S=0:=by
   obtain ⟨c,hc⟩:=hdv
   have hp:=p2 s
   rcases Int.lt_trichotomy c 0 with hn | hn | hn
   ·have:2^s*c<=2^s*(-1):=Int.mul_le_mul_of_nonneg_left (by omega) (Int.le_of_lt hp)
    omega
   ·rw [hc,hn,Int.mul_zero]
   ·have:2^s*1<=2^s*c:=Int.mul_le_mul_of_nonneg_left (by omega) (Int.le_of_lt hp)
    omega
  rw [h0]; exact fl_zero
theorem nsn (a b:Int):-a - -b=-(a-b):=by omega
theorem fus_all {N U s t E:Nat} {z q pt W:Int} (hE:E=1074) (hz:0<z) (et:pt=z*2^t) (eq:q=z*2^E) (hN:N<2^106) (hU0:4503599627370496<=U) (hs0:60<=s) (Rlo:(U:Int)*2^s*q<=(N:Int)*pt) (Rhi:(N:Int)*pt<((U:Int)+1)*2^s*q)
  (hW:W=(U:Int)*2^s∨(W=((U:Int)+1)*2^s∧(N:Int)*pt≠(U:Int)*2^s*q)) (hmax:(U:Int)*2^s<=maxV):∃ S:Int,(N:Int)*pt-W*q=S*q∧Fl S∧(S.natAbs:Int)<=maxV:=by
 have hts:s+1021<=t:=by
  obtain ⟨Z,hZ⟩:∃ Z:Nat,Z=2^E:=⟨_,rfl⟩
  have hZi:(2:Int)^E=(Z:Int):=by rw [hZ]; push_cast; rfl
  obtain ⟨n,rfl⟩:∃ n:Nat,z=n:=⟨z.toNat,by omega⟩
  rw [et,eq,hZi] at Rlo
  refine fus_core (N:=N) (U:=U) (q:=n) hE hZ (by omega) hN hU0 ?_
  exact_mod_cast Rlo
 obtain ⟨k,rfl⟩:∃ k,t=E+k:=⟨t-E,by omega⟩
 have eA:pt=2^k*q:=by
  rw [et,eq,Nat.add_comm,Int.pow_add]
  generalize (2:Int)^E=X
  generalize (2:Int)^k=Y
  grind
 have hq:0<q:=by rw [eq]; exact Int.mul_pos hz (p2 E)
 clear et eq
 rw [eA,<- Int.mul_assoc] at Rlo Rhi hW
 rw [eA,<- Int.mul_assoc]
 have Rlo:=Int.le_of_mul_le_mul_right Rlo hq
 have Rhi:=Int.lt_of_mul_lt_mul_right Rhi (Int.le_of_lt hq)
 have hp:=p2 s
 have hU2:2^s<=(U:Int)*2^s:=by
  have:=Int.mul_le_mul_of_nonneg_right (show (1:Int)<=U by omega) (Int.le_of_lt hp)
  rwa [Int.one_mul] at this
 have hW2:W=(U:Int)*2^s∨(W=((U:Int)+1)*2^s∧(N:Int)*2^k≠(U:Int)*2^s):=by
  rcases hW with h | ⟨h,g⟩
  ·exact .inl h
  ·exact .inr ⟨h,fun e=>g (by rw [e])⟩
 clear hW
 have hS:(((N:Int)*2^k-W).natAbs:Int)<2^s:=by
  rw [Int.add_mul,Int.one_mul] at Rhi hW2
  clear hmax
  generalize (N:Int)*2^k=x at *
  generalize (2:Int)^s=y at *
  generalize (U:Int)*y=z' at *
  rcases hW2 with hW | ⟨hW,g⟩ <;> omega
 have hF:Fl ((N:Int)*2^k-W):=fus_fl (N:=N) (k:=k) (U:=U) (s:=s) (by omega) (by rcases hW2 with hW | ⟨hW,_⟩; exact .inl (by rw [hW]); exact .inr (by rw [hW])) hS
 refine ⟨(N:Int)*2^k-W,by rw [Int.sub_mul],hF,?_⟩
 exact Int.le_trans (Int.le_of_lt hS) (Int.le_trans hU2 hmax)
theorem eq1074:pw (-1074)=pw (-2148)*2^1074:=by
 obtain ⟨E,hE⟩:∃ E:Nat,E=1074:=⟨_,rfl⟩
 have:=pw_add (e:=-2148) (by decide) E
 rw [show (-2148:Int)+(E:Int)=-1074 by rw [hE]; decide] at this
 rw [<- hE]
 exact this
theorem fused_any {a b way:Int} (ra:rng a) (rb:rng b) (pa:pok a=true) (pb:pok b=true) (h:prV a b≠0) (lo:283726776524341248<=rg (rdP way (prV a b))) (hi:rg (rdP way (prV a b))<=9209861237972664320∨(way=0∧rg (rdP way (prV a b))<9218868437227405312)) :
  ∃ S:Int,prV a b-patV (rdP way (prV a b))=S*pw (-1074)∧Fl S∧(S.natAbs:Int)<=maxV:=by
 obtain ⟨N,t,hf,hN,hX⟩:=prV_parts ra rb pa pb
 clear hX
 obtain ⟨A,r0,left,e1,hR,e2⟩:=rdP_is way h
 generalize rdP way (prV a b)=p at *
 have hA:A=(N:Int)*pw (-2148+(t:Int))∧decide (prV a b<0)=xsg a b:=by
  have hp:0<fsize a b:=by
   have h0:0<=fsize a b:=by rw [hf]; exact Int.mul_nonneg (by omega) (Int.le_of_lt (pw_pos _))
   have h1:fsize a b≠0:=fun e=>h (by unfold prV; rw [e]; cases xsg a b <;> rfl)
   omega
  have hs:decide (prV a b<0)=xsg a b:=sg_lt hp
  rw [hs] at e1
  exact ⟨(sg_inj e1).symm.trans hf,hs⟩
 obtain ⟨hA,hs⟩:=hA
 rw [hs] at e1 e2
 have hrr:=rTo_range way (xsg a b) r0 left
 obtain ⟨rp,hrg,hng⟩:=patS_parts (ng:=xsg a b) hrr.1 hrr.2
 rw [<- e2] at rp hrg hng
 have hpp:pok p=true:=(pok_rg rp).2 (by omega)
 have hr0:(r0:Int)<9218868437227405312:=by
  rcases Int.lt_or_le (r0:Int) 9218868437227405312 with g | g
  ·exact g
  ·exfalso
   rw [hrg] at hi
   unfold rTo at hi
   rw [if_neg (by omega)] at hi
   unfold bRung at hi
   rcases hi with hi | ⟨hw,hi⟩
   ·split at hi <;> omega
   ·rw [hw,show rUp 0 (xsg a b) true 3=true by cases xsg a b <;> decide,if_pos rfl] at hi
    omega
 have hrt:rTo way (xsg a b) r0 left=(r0:Int)∨(rTo way (xsg a b) r0 left=(r0:Int)+1∧left≠0):=by
  unfold rTo
  rw [if_pos hr0]
  by_cases hu:rUp way (xsg a b) (decide (r0 % 2=1)) left=true
  ·right
   rw [if_pos hu]
   exact ⟨rfl,fun e=>by rw [e] at hu; exact rUp_left hu⟩
  ·left
   rw [if_neg hu]; omega
 obtain ⟨Rlo,Rhi,l0,_,_,_⟩:=hR
 obtain ⟨s,U,hsU,hU0,hU1,hs0,hs1⟩:∃ s U:Nat,r0=s*4503599627370496+U∧4503599627370496<=U∧U<9007199254740992∧60<=s∧s<=2045:=by
  refine ⟨r0/4503599627370496-1,r0-(r0/4503599627370496-1)*4503599627370496,?_,?_,?_,?_,?_⟩
  all_goals (rcases hrt with g | ⟨g,_⟩ <;> omega)
 obtain ⟨V0,V1⟩:=V_rung Ieee.double s U (by rw [dBin]; omega) (fun _=>by rw [dBin]; omega)
 rw [dBin,<- hsU] at V0 V1
 have hmax:(U:Int)*2^s<=maxV:=by
  have:=V_le (show r0<=9218868437227405311 by omega)
  rw [V0] at this
  push_cast at this
  exact this
 have hrt:∃ W:Int,(W=(U:Int)*2^s∨(W=((U:Int)+1)*2^s∧left≠0))∧(V Ieee.double (rTo way (xsg a b) r0 left).toNat:Int)=W:=by
  rcases hrt with g | ⟨g,g2⟩
  ·refine ⟨_,.inl ?_,rfl⟩
   rw [g,Int.toNat_natCast,V0]; push_cast; rfl
  ·refine ⟨_,.inr ⟨?_,g2⟩,rfl⟩
   rw [g,show ((r0:Int)+1).toNat=r0+1 by omega,V1]; push_cast; rfl
 obtain ⟨W,hW,hVW⟩:=hrt
 unfold vS at Rlo Rhi l0
 rw [V0] at Rlo l0
 rw [V1] at Rhi
 push_cast at Rlo Rhi l0
 rw [hA] at Rlo Rhi l0
 have hpv:patV p=sg (xsg a b) W*pw (-1074):=by
  rw [patV_iV rp hpp]
  unfold iV
  rw [hng,hrg,hVW]
 obtain ⟨S,h1,h2,h3⟩:=fus_all (E:=1074) rfl (pw_pos (-2148)) (pw_add (by decide) t) eq1074 hN hU0 hs0 Rlo Rhi (by rcases hW with h | ⟨h,g⟩; exact .inl h; exact .inr ⟨h,fun e=>g (l0.2 e)⟩) hmax
 refine ⟨sg (xsg a b) S,?_,?_,?_⟩
 ·rw [e1,hpv,hA,sg_prod,sg_prod,<- h1]
  cases xsg a b
  ·rfl
  ·exact nsn _ _
 ·cases xsg a b
  ·exact h2
  ·exact h2.neg
 ·have hn:(sg (xsg a b) S).natAbs=S.natAbs:=by
   cases xsg a b
   ·rfl
   ·exact Int.natAbs_neg _
  rw [hn]
  exact h3
theorem fmaS_pr (p q r:Int):fmaS p q r=prV p q+patV r:=rfl
theorem pok_clsF {a:Int} (ra:rng a) (h:pok a=true):cls a≠4:=fun e=>by
 have hf:=pparts h
 unfold cls at e
 rw [if_neg hf] at e
 split at e
 ·split at e <;> omega
 ·omega
theorem near_exact {S:Int} (hF:Fl S) (h0:S≠0) (hb:(S.natAbs:Int)<=maxV):rng (nearP (S*pw (-1074)))∧pok (nearP (S*pw (-1074)))=true∧iV (nearP (S*pw (-1074)))=S:=by
 obtain ⟨h1,h2,h3⟩:=near_iV h0
 exact ⟨h1,h3 hb,nr_self hF (h2 (h3 hb))⟩
def mulP (way a b:Int):Int:=if way=0∨(pok a && pok b)=false then fprod (told a) (told b) else if prV a b≠0 then rdP way (prV a b) else fprod (told a) (told b)
theorem fma_zero {a b c:Int} (ra:rng a) (rb:rng b) (rc:rng c) (pa:pok a=true) (pb:pok b=true) (pc:pok c=true) (h:fmaS a b c=0):ffma a b c=patS (xsg a b && decide (c<0)) 0:=by
 have h1:=(pok_rg ra).1 pa
 have h2:=(pok_rg rb).1 pb
 have h3:=(pok_rg rc).1 pc
 unfold ffma
 have n4:¬ (cls a=4∨cls b=4∨cls c=4):=fun q=>by rcases q with q | q | q; exact pok_clsF ra pa q; exact pok_clsF rb pb q; exact pok_clsF rc pc q
 have i2:¬ (rg a=9218868437227405312∨rg b=9218868437227405312):=by omega
 have i3:¬ rg c=9218868437227405312:=by omega
 rw [if_neg n4,if_neg i2,if_neg i3,if_pos h]
theorem patV_opp {p:Int} (rp:rng p) (hp:pok p=true):patV (neg p)=-patV p:=by
 obtain ⟨n1,n2,n3⟩:=neg_facts rp hp
 rw [patV_iV n1 n2,patV_iV rp hp,n3,Int.neg_mul]
theorem su_neg {p:Int} (h:nn p):rg (neg p)=rg p∧(decide (neg p<0)≠decide (p<0)):=by
 have hr:=h.1
 unfold rng at hr
 unfold neg
 rw [if_neg h.2]
 unfold rg
 by_cases g:p<0
 ·rw [if_pos g,if_neg (by omega)]
  refine ⟨by rw [if_pos g],?_⟩
  rw [decide_eq_false (by omega),decide_eq_true g]
  decide
 ·rw [if_neg g,if_pos (by omega)]
  refine ⟨by rw [if_neg g]; omega,?_⟩
  rw [decide_eq_true (by omega),decide_eq_false g]
  decide
theorem fsum_nan (p:Int):fsum p 9221120237041090561=9221120237041090561:=by
 unfold fsum
 rw [if_pos (.inr nan_canon)]
theorem hl_nn {p q:Int} (hp:nn p) (hq:nn q):nn (hiM p q)∧nn (loM p q)∧(hiM p q=p∧loM p q=q∨hiM p q=q∧loM p q=p)∧rg (loM p q)<=rg (hiM p q):=by
 unfold hiM loM
 by_cases h:rg p<rg q
 ·rw [if_pos h,if_pos h]; exact ⟨hq,hp,.inr ⟨rfl,rfl⟩,by omega⟩
 ·rw [if_neg h,if_neg h]; exact ⟨hp,hq,.inl ⟨rfl,rfl⟩,by omega⟩
theorem su_infEnd {p q:Int} (hp:nn p) (hq:nn q) (h:rg (hiM p q)=9218868437227405312) (hno:¬ (rg p=9218868437227405312∧rg q=9218868437227405312∧decide (p<0)≠decide (q<0))) :
  suN p q=hiM p q∧beLo (suN p q) (suL p q)=hiM p q∧beHi (suN p q) (suL p q)=hiM p q:=by
 obtain ⟨nx,ny,hxy,_⟩:=hl_nn hp hq
 have hno':¬ (rg (loM p q)=9218868437227405312∧decide (hiM p q<0)≠decide (loM p q<0)):=by
  rintro ⟨a,b⟩
  rcases hxy with ⟨e1,e2⟩ | ⟨e1,e2⟩
  ·rw [e1] at h b; rw [e2] at a b; exact hno ⟨h,a,b⟩
  ·rw [e1] at h b; rw [e2] at a b; exact hno ⟨a,h,fun c=>b c.symm⟩
 have e1:suN p q=hiM p q:=by
  unfold suN fsum
  rw [if_neg (by rintro (c | c); exact nx.2 c; exact ny.2 c),if_pos h,if_neg hno']
 have e2:suL p q=9221120237041090561:=by
  unfold suL
  rw [e1]
  obtain ⟨g1,g2⟩:=su_neg nx
  obtain ⟨n1,_⟩:=nn_neg nx
  have:fsum (hiM p q) (neg (hiM p q))=9221120237041090561:=by
   unfold fsum
   rw [if_neg (by rintro (c | c); exact nx.2 c; exact n1.2 c),if_pos h,if_pos ⟨by rw [g1]; exact h,fun c=>g2 c.symm⟩]
  rw [this,neg_nan nan_canon]
  exact fsum_nan _
 have l1:less 9221120237041090561 0=false:=by decide
 have l2:less 0 9221120237041090561=false:=by decide
 rw [e1,e2]
 unfold beLo beHi
 rw [l1,l2]
 exact ⟨rfl,rfl,rfl⟩
theorem su_over {p q:Int} (hp:nn p) (hq:nn q) (pp:¬ rg p=9218868437227405312) (pq:¬ rg q=9218868437227405312) (hn:nn (suN p q)) (h:rg (suN p q)=9218868437227405312) :
  (0<key (suN p q)->beLo (suN p q) (suL p q)=prev (suN p q)∧beHi (suN p q) (suL p q)=suN p q)∧(key (suN p q)<0->beLo (suN p q) (suL p q)=suN p q∧beHi (suN p q) (suL p q)=next (suN p q)):=by
 obtain ⟨nx,ny,hxy,_⟩:=hl_nn hp hq
 have fx:¬ rg (hiM p q)=9218868437227405312:=by rcases hxy with ⟨e1,_⟩ | ⟨e1,_⟩ <;> rw [e1] <;> assumption
 have fy:¬ rg (loM p q)=9218868437227405312:=by rcases hxy with ⟨_,e1⟩ | ⟨_,e1⟩ <;> rw [e1] <;> assumption
 obtain ⟨n1,_⟩:=nn_neg nx
 obtain ⟨m1,k1⟩:=nn_neg hn
 have e1:fsum (suN p q) (neg (hiM p q))=suN p q:=by
  unfold fsum
  rw [if_neg (by rintro (c | c); exact hn.2 c; exact n1.2 c),if_pos h,if_neg (by rintro ⟨c,_⟩; rw [(su_neg nx).1] at c; exact fx c)]
 have e2:suL p q=neg (suN p q):=by
  unfold suL
  rw [e1]
  unfold fsum
  rw [if_neg (by rintro (c | c); exact ny.2 c; exact m1.2 c),if_neg fy,if_pos (by rw [(su_neg hn).1]; exact h)]
 have c0:¬ cls 0=4:=by decide
 have k0:key 0=0:=by decide
 have l1:less (suL p q) 0=decide (0<key (suN p q)):=by
  rw [e2]; unfold less
  simp only [m1.2,c0,k0,k1,decide_false,Bool.not_false,Bool.true_and]
  exact decide_eq_decide.2 (by omega)
 have l2:less 0 (suL p q)=decide (key (suN p q)<0):=by
  rw [e2]; unfold less
  simp only [m1.2,c0,k0,k1,decide_false,Bool.not_false,Bool.true_and]
  exact decide_eq_decide.2 (by omega)
 unfold beLo beHi
 rw [l1,l2]
 refine ⟨fun g=>?_,fun g=>?_⟩
 ·rw [decide_eq_true g]; exact ⟨rfl,rfl⟩
 ·rw [decide_eq_false (by omega),decide_eq_true g]; exact ⟨rfl,rfl⟩
end Go.Proofs.YtjjihmnbdeeedaaGreatDoor
