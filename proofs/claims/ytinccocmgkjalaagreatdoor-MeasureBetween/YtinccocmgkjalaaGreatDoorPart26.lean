/-
  Parts of the proof, one behind another.
-/
import Derived.Test.YtinccocmgkjalaaGreatDoorPart25
import Derived.Deep.RegionHeld3
import Derived.Test.YtinccocmgkjalaaGreatDoorPart7
import Derived.Test.YtinccocmgkjalaaGreatDoorPart10
import Derived.Test.YtinccocmgkjalaaGreatDoorPart23
import Derived.Test.YtinccocmgkjalaaGreatDoorPart24
import Derived.Test.YtinccocmgkjalaaGreatDoorPart22
import Derived.Test.YtinccocmgkjalaaGreatDoorPart6
set_option linter.unusedVariables false
set_option linter.unusedSimpArgs false
namespace Go.Proofs.YtinccocmgkjalaaGreatDoor
open Go Go.RowKit Go.Proofs.YtinccocmgkjalaaGreatDoor.M
set_option maxRecDepth 100000 in
theorem ivlTurned {a b:Int} (ha:nn a) (hb:nn b) (w:World) :
  Calls Tryz.prog 102 #[ivl a b] w fun e w'=>e=.returned (ivl (neg b) (neg a))∧Below w.heap.size w w':=by
 unfold ivl
 have RM:=fun W=>run_negF (P:=Tryz.prog) hb W
 have RX:=fun W=>run_negF (P:=Tryz.prog) ha W
 generalize wd (neg b)=X at *
 generalize wd (neg a)=Y at *
 generalize wd a=A at *
 generalize wd b=B at *
 have hb2:=bel_alloc2 w (.cells #[.float .f64 A,.float .f64 B] 103) (.cells #[.float .f64 0,.float .f64 0] 103)
 have q0:=heap_a2 w (.cells #[.float .f64 A,.float .f64 B] 103) (.cells #[.float .f64 0,.float .f64 0] 103)
 have q1:=heap_b2 w (.cells #[.float .f64 A,.float .f64 B] 103) (.cells #[.float .f64 0,.float .f64 0] 103)
 have k0:=blkC q0 0 rfl
 have k1:=blkC q0 1 rfl
 go_enter Tryz.func102,Tryz.ntmps102
 go_wp2_with fail
 clear q0 k0 k1 RM RX
 generalize (w.alloc (.cells #[.float .f64 A,.float .f64 B] 103)).alloc (.cells #[.float .f64 0,.float .f64 0] 103)=wx at *
 obtain ⟨g,hg⟩:∃ g,w.heap.size + 1=g:=⟨_,rfl⟩
 have hwg:w.heap.size <= g:=by omega
 rw [hg] at q1
 simp only [hg]
 clear hg
 have d2:=q_heap_set q1 0 (.float .f64 X)
 have d3:=q_heap_set d2 1 (.float .f64 Y)
 have f0:=blkC q1 0 rfl
 have z0:=blkF q1 0
 have f1:=blkC d2 1 rfl
 have z1:=blkF d2 1
 have hbe:=(hb2.setCell (p:=⟨g,0,none⟩) hwg (.float .f64 X)).setCell (p:=⟨g,1,none⟩) hwg (.float .f64 Y)
 have s0:(store ⟨g,0,none⟩ (.float .f64 X)).run Tryz.prog wx=.ok () (wx.setCell ⟨g,0,none⟩ (.float .f64 X)):=by rw [run_store _ _ _ _ _ rfl,f0]; simp only [z0]; rfl
 have s1:(store ⟨g,1,none⟩ (.float .f64 Y)).run Tryz.prog (wx.setCell ⟨g,0,none⟩ (.float .f64 X))=.ok () ((wx.setCell ⟨g,0,none⟩ (.float .f64 X)).setCell ⟨g,1,none⟩ (.float .f64 Y)):=by rw [run_store _ _ _ _ _ rfl,f1]; simp only [z1]; rfl
 have e0:=blkC d3 0 rfl
 have e1:=blkC d3 1 rfl
 clear f0 z0 f1 z1 d2 d3 q1
 simp only [s0,s1,Result.andThen]
 go_wp2
 refine bodyPost_ret (v:=.agg #[.float .f64 X,.float .f64 Y]) (by simp [results,Tryz.results102,go_sem,e0,e1]) rfl ⟨rfl,hbe⟩
set_option maxRecDepth 100000 in
set_option maxHeartbeats 1000000 in
theorem minus_any {a b c d t u l h:Nat} (w:World)
  (S1:Hid (∀ W,Calls Tryz.prog 102 #[.agg #[.float .f64 c,.float .f64 d]] W fun e w'=>e=.returned (.agg #[.float .f64 t,.float .f64 u])∧Below W.heap.size W w'))
  (S2:Hid (∀ W,Calls Tryz.prog 101 #[.agg #[.float .f64 a,.float .f64 b],.agg #[.float .f64 t,.float .f64 u]] W fun e w'=>e=.returned (.agg #[.float .f64 l,.float .f64 h])∧Below W.heap.size W w')) :
  Calls Tryz.prog 71 #[.agg #[.float .f64 a,.float .f64 b],.agg #[.float .f64 c,.float .f64 d]] w fun e w'=>e=.returned (.agg #[.float .f64 l,.float .f64 h])∧Below w.heap.size w w':=by
 obtain ⟨q0,q1,q2,hs,hb3⟩:=heap3 w (.cells #[.float .f64 a,.float .f64 b] 103) (.cells #[.float .f64 c,.float .f64 d] 103) (.cells #[.float .f64 0,.float .f64 0] 103)
 have k0:=blkC q0 0 rfl
 have k1:=blkC q0 1 rfl
 have k2:=blkC q1 0 rfl
 have k3:=blkC q1 1 rfl
 go_enter Tryz.func71,Tryz.ntmps71
 go_wp2_with fail
 generalize ((w.alloc (.cells #[.float .f64 a,.float .f64 b] 103)).alloc (.cells #[.float .f64 c,.float .f64 d] 103)).alloc (.cells #[.float .f64 0,.float .f64 0] 103)=wx at *
 obtain ⟨g,hg⟩:∃ g,w.heap.size + 1 + 1=g:=⟨_,rfl⟩
 have hwg:w.heap.size + 2 <= g:=by omega
 replace q2:wx.drew.heap[g]?=some (.cells #[.float .f64 0,.float .f64 0] 103 (0,0)):=by rw [<- hg]; exact q2
 simp only [hg]
 clear hg
 have hc:(w.heap.size < w.heap.size + 2∧w.heap.size + 1 < w.heap.size + 2∧w.heap.size + 2 <= wx.drew.heap.size)∧wx.drew.cell? ⟨w.heap.size,0,none⟩=some (.float .f64 a)∧wx.drew.cell? ⟨w.heap.size,1,none⟩=some (.float .f64 b)∧wx.drew.cell? ⟨w.heap.size + 1,0,none⟩=some (.float .f64 c)∧wx.drew.cell? ⟨w.heap.size + 1,1,none⟩=some (.float .f64 d):=⟨⟨by omega,by omega,by show _ <= wx.heap.size; omega⟩,k0,k1,k2,k3⟩
 have hbd:=hb3.drew
 clear q0 q1 k0 k1 k2 k3
 go_region_held3 (fun W=>(w.heap.size < w.heap.size + 2∧w.heap.size + 1 < w.heap.size + 2∧w.heap.size + 2 <= W.heap.size)∧W.cell? ⟨w.heap.size,0,none⟩=some (.float .f64 a)∧W.cell? ⟨w.heap.size,1,none⟩=some (.float .f64 b)∧W.cell? ⟨w.heap.size + 1,0,none⟩=some (.float .f64 c)∧W.cell? ⟨w.heap.size + 1,1,none⟩=some (.float .f64 d))
  (first | assumption | (repeat (first | exact hc | exact hc1 | exact hc2 | refine s4_drew ?_ | refine s4_set (by omega) ?_)))
  (first
   | (go_at_call 101; have _t:=hb4; refine (S2.out _).mono ?_; rintro _ w2 ⟨rfl,hb5⟩; have hc2:=s4_keep hc1 hb5; have d2:=((bel_trans hb4 hb5).block _ (Array.getElem?_eq_some_iff.1 q2).1).trans q2; have d3:=q_heap_set d2 0 (.float .f64 l); have d4:=q_heap_set d3 1 (.float .f64 h); have f0:=blkC d2 0 rfl; have z0:=blkF d2 0; have f1:=blkC d3 1 rfl; have z1:=blkF d3 1; have s0:(store ⟨g,0,none⟩ (.float .f64 l)).run Tryz.prog w2=.ok () (w2.setCell ⟨g,0,none⟩ (.float .f64 l)):=(by rw [run_store _ _ _ _ _ rfl,f0]; simp only [z0]; rfl); have s1:(store ⟨g,1,none⟩ (.float .f64 h)).run Tryz.prog (w2.setCell ⟨g,0,none⟩ (.float .f64 l))=.ok () ((w2.setCell ⟨g,0,none⟩ (.float .f64 l)).setCell ⟨g,1,none⟩ (.float .f64 h)):=(by rw [run_store _ _ _ _ _ rfl,f1]; simp only [z1]; rfl))
   | (go_at_call 102; refine (S1.out _).mono ?_; rintro _ w1 ⟨rfl,hb4⟩; have hc1:=s4_keep hc hb4))
 have e0:=blkC d4 0 rfl
 have e1:=blkC d4 1 rfl
 have hbe:=((bel_trans hbd (bel_trans hb4 hb5)).setCell (p:=⟨g,0,none⟩) (show w.heap.size <= g by omega) (.float .f64 l)).setCell (p:=⟨g,1,none⟩) (show w.heap.size <= g by omega) (.float .f64 h)
 clear d2 d3 d4 f0 f1 z0 z1 s0 s1 hc hc1 hc2
 generalize (w2.setCell ⟨g,0,none⟩ (.float .f64 l)).setCell ⟨g,1,none⟩ (.float .f64 h)=wy at *
 go_wp2
 refine bodyPost_ret (v:=.agg #[.float .f64 l,.float .f64 h]) (by simp [results,Tryz.results71,go_sem,e0,e1]) rfl ⟨rfl,hbe⟩
theorem vld_self {a:Int} (ha:rng a) (pa:pok a=true):vld a a=true:=by
 have h1:=(pok_rg ha).1 pa
 have h4:=pok_clsF ha pa
 refine vld_iff.2 ⟨h4,h4,Int.le_refl _,?_,?_⟩
 ·unfold key; unfold rg at h1; unfold rng at ha; split at h1 <;> split <;> omega
 ·unfold key; unfold rg at h1; unfold rng at ha; split at h1 <;> split <;> omega
theorem vld_lo {a b:Int} (ha:rng a) (hb:rng b) (h:vld a b=true):nn a∧nn b∧(rg a=9218868437227405312->a < 0)∧(rg b=9218868437227405312->¬ b < 0)∧key a <= key b:=by
 obtain ⟨va,vb,h1,h2,h3⟩:=vld_iff.1 h
 refine ⟨⟨ha,va⟩,⟨hb,vb⟩,fun q=>?_,fun q k=>?_,h1⟩
 ·rw [key_rg ha] at h2
  split at h2
  ·assumption
  ·omega
 ·rw [key_rg hb,if_pos k] at h3
  omega
theorem no_lo {a c:Int} (h:rg a=9218868437227405312->a < 0) (k:rg c=9218868437227405312->c < 0):¬ (rg a=9218868437227405312∧rg c=9218868437227405312∧decide (a < 0) ≠ decide (c < 0)):=by
 rintro ⟨h1,h2,h3⟩
 exact h3 (by rw [decide_eq_true (h h1),decide_eq_true (k h2)])
theorem no_hi {a c:Int} (h:rg a=9218868437227405312->¬ a < 0) (k:rg c=9218868437227405312->¬ c < 0):¬ (rg a=9218868437227405312∧rg c=9218868437227405312∧decide (a < 0) ≠ decide (c < 0)):=by
 rintro ⟨h1,h2,h3⟩
 exact h3 (by rw [decide_eq_false (h h1),decide_eq_false (k h2)])
theorem neg_sides {p:Int} (hp:nn p):(rg (neg p)=9218868437227405312 ↔ rg p=9218868437227405312)∧(neg p < 0 ↔ ¬ p < 0):=by
 obtain ⟨g1,g2⟩:=su_neg hp
 refine ⟨by rw [g1],?_⟩
 by_cases a:neg p < 0 <;> by_cases b:p < 0 <;> simp [a,b] at g2 ⊢
theorem two_eq {ok:Bool} {v v':Value} (h:ok=true->v=v'):twoV ok v=twoV ok v':=by
 cases ok
 ·rfl
 ·rw [h rfl]
set_option maxRecDepth 100000 in
theorem spanSubE {a b c d:Int} (ha:rng a) (hb:rng b) (hc:rng c) (hd:rng d) (w:World) (H:Hold4 w) :
  Calls Tryz.prog 43 #[spn a b,spn c d] w fun e w'=>e=.returned (.tuple #[twoV (vld a b && vld c d) (spn (eLo (ePlus (eOf a) (eNeg (eOf d)))) (eHi (ePlus (eOf b) (eNeg (eOf c))))),.int .i64 (errA (vld a b && vld c d))])∧Below w.heap.size w w':=by
 have hE:∀ (cap:Array Value) (w:World),(callFunc 71 cap).run Tryz.prog w=.ok (.enter 71 cap) w:=by
  intro cap w
  simp [go_sem]
 have CJ:Hid (∀ W,Hold4 W->Calls Tryz.prog 68 #[spn a b,spn c d,.func (.func 71) #[] #[]] W fun e w'=>e=.returned (.tuple #[twoV (vld a b && vld c d) (spn (eLo (ePlus (eOf a) (eNeg (eOf d)))) (eHi (ePlus (eOf b) (eNeg (eOf c))))),.int .i64 (errA (vld a b && vld c d))])∧Below W.heap.size W w'):=fun W LW=>by
  have:=ofTwo_H 71 (x:=beLo (suN a (neg d)) (suL a (neg d))) (y:=beHi (suN b (neg c)) (suL b (neg c))) ha hb hc hd W LW hE (fun h1 h2=>by
   obtain ⟨na,nb,a1,b1,_⟩:=vld_lo ha hb h1
   obtain ⟨nc,nd,c1,d1,_⟩:=vld_lo hc hd h2
   obtain ⟨g1,g2⟩:=neg_sides nc
   obtain ⟨g3,g4⟩:=neg_sides nd
   have p1:=plus_e na (nn_neg nd).1 (no_lo a1 (fun q=>g4.2 (d1 (g3.1 q))))
   have p2:=plus_e nb (nn_neg nc).1 (no_hi b1 (fun q k=>(g2.1 k) (c1 (g1.1 q))))
   exact ⟨(be_nn p1.1).1,(be_nn p2.1).2,fun W' _=>minus_any W' (fun W''=>ivlTurned nc nd W'') (fun W''=>plus_any W'' (fun W3=>spanSum na (nn_neg nd).1 p1.1 W3) (fun W3=>spanSum nb (nn_neg nc).1 p2.1 W3))⟩)
  rw [two_eq (v':=spn (eLo (ePlus (eOf a) (eNeg (eOf d)))) (eHi (ePlus (eOf b) (eNeg (eOf c)))))] at this
  ·exact this
  ·intro hok
   rw [Bool.and_eq_true] at hok
   obtain ⟨na,nb,a1,b1,_⟩:=vld_lo ha hb hok.1
   obtain ⟨nc,nd,c1,d1,_⟩:=vld_lo hc hd hok.2
   obtain ⟨g1,g2⟩:=neg_sides nc
   obtain ⟨g3,g4⟩:=neg_sides nd
   rw [(plus_e na (nn_neg nd).1 (no_lo a1 (fun q=>g4.2 (d1 (g3.1 q))))).2.1,(plus_e nb (nn_neg nc).1 (no_hi b1 (fun q k=>(g2.1 k) (c1 (g1.1 q))))).2.2,of_neg nd,of_neg nc]
 have hx:∃ X Y,twoV (vld a b && vld c d) (spn (eLo (ePlus (eOf a) (eNeg (eOf d)))) (eHi (ePlus (eOf b) (eNeg (eOf c)))))=.agg #[.int .i64 X,.int .i64 Y]:=by
  unfold twoV spn; split
  ·exact ⟨_,_,rfl⟩
  ·exact ⟨_,_,rfl⟩
 obtain ⟨X,Y,hXY⟩:=hx
 rw [hXY] at CJ ⊢
 clear hXY
 unfold spn at *
 generalize errA (vld a b && vld c d)=E at *
 obtain ⟨q0,q1,q2,hs,hb3⟩:=heap3 w (.cells #[.int .i64 a,.int .i64 b] 77) (.cells #[.int .i64 c,.int .i64 d] 77) (.cells #[.int .i64 0,.int .i64 0] 77)
 have L2:=H.keeps hb3
 go_enter Tryz.func43,Tryz.ntmps43
 go_wp2_with fail
 generalize ((w.alloc (.cells #[.int .i64 a,.int .i64 b] 77)).alloc (.cells #[.int .i64 c,.int .i64 d] 77)).alloc (.cells #[.int .i64 0,.int .i64 0] 77)=wx at *
 refine (CJ.out _ L2).mono ?_
 rintro _ w1 ⟨rfl,hb4⟩
 have d2:=(hb4.block _ (Array.getElem?_eq_some_iff.1 q2).1).trans q2
 have d3:=q_heap_set d2 0 (.int .i64 X)
 have d4:=q_heap_set d3 1 (.int .i64 Y)
 have f0:=blkC d2 0 rfl
 have z0:=blkF d2 0
 have f1:=blkC d3 1 rfl
 have z1:=blkF d3 1
 have e0:=blkC d4 0 rfl
 have e1:=blkC d4 1 rfl
 have hbe:=((bel_trans hb3 hb4).setCell (p:=⟨w.heap.size + 1 + 1,0,none⟩) (show w.heap.size <= w.heap.size + 1 + 1 by omega) (.int .i64 X)).setCell (p:=⟨w.heap.size + 1 + 1,1,none⟩) (show w.heap.size <= w.heap.size + 1 + 1 by omega) (.int .i64 Y)
 clear d2 d3 d4 q0 q1 q2
 go_wp2
 refine bodyPost_ret (v:=.tuple #[.agg #[.int .i64 X,.int .i64 Y],.int .i64 E]) (by simp [results,Tryz.results43,go_sem,e0,e1]) rfl ⟨rfl,hbe⟩
theorem spanMulE {a b c d:Int} (ha:rng a) (hb:rng b) (hc:rng c) (hd:rng d) (w:World) (H:Hold4 w) :
  Calls Tryz.prog 41 #[spn a b,spn c d] w fun e w'=>e=.returned (.tuple #[twoV (vld a b && vld c d) (spn (eLo (eTmLo (eOf a) (eOf b) (eOf c) (eOf d))) (eHi (eTmHi (eOf a) (eOf b) (eOf c) (eOf d)))),.int .i64 (errA (vld a b && vld c d))])∧Below w.heap.size w w':=by
 have:=spanMulH ha hb hc hd w H
 rw [two_eq (v':=spn (eLo (eTmLo (eOf a) (eOf b) (eOf c) (eOf d))) (eHi (eTmHi (eOf a) (eOf b) (eOf c) (eOf d))))] at this
 ·exact this
 ·intro hok
  rw [Bool.and_eq_true] at hok
  obtain ⟨na,nb,_⟩:=vld_lo ha hb hok.1
  obtain ⟨nc,nd,_⟩:=vld_lo hc hd hok.2
  rw [(tm_e na nb nc nd).1,(tm_e na nb nc nd).2]
structure Okk (c d V:Int):Prop where
 lo:nn c
 hi:nn d
 cl:canon c=c
 ch:canon d=d
 ok:vld c d=true
 kl:key c <= key (cLo V)
 kh:key (cHi V) <= key d
theorem Holds.okk {e f:En} {V:Int} (h:Holds e f V):Okk (eLo e) (eHi f) V :=
 ⟨(e_nn e).1,(e_nn f).2,(e_canon e).1,(e_canon f).2,h.vld,h.keys.1,h.keys.2⟩
theorem mulS_of {A B C:Int} (h:C * 2 ^ 4194304=A * B):C=mulS A B:=by
 unfold mulS
 rw [<- h]
 exact (Int.mul_ediv_cancel _ (Int.ne_of_gt (two_pos _))).symm
structure Pin2 (s t x:Int):Prop where
 lo:nn s
 hi:nn t
 h:Holds (eOf s) (eOf t) x
theorem Pin2.v {s t x:Int} (h:Pin2 s t x):vld s t=true:=h.h.vldP h.lo h.hi
theorem Pin2.of {lo hi b:Int} (rb:rng b) (pb:pok b=true) (h1:nn lo∧key lo <= key b) (h2:nn hi∧key b <= key hi):Pin2 lo hi (patV b) :=
 ⟨h1.1,h2.1,Holds.of h1.1 h2.1 ⟨rb,pok_clsF rb pb⟩ pb h1.2 h2.2⟩
theorem sgn_has {c d V:Int} (h:Okk c d V):sgK c d=true->sgV c d=ord V 0:=by
 intro hk
 obtain ⟨c1,c2,c3⟩:=c_sign V
 have hl:=h.kl
 have hh:=h.kh
 have hle:=c_le V
 unfold sgK at hk
 unfold sgV
 rw [h.ok] at hk ⊢
 simp only [Bool.true_and,if_true,Bool.or_eq_true,Bool.and_eq_true,decide_eq_true_eq] at hk ⊢
 by_cases p1:0 < key c
 ·rw [if_pos p1]
  exact (ord_gt (c1 (by omega))).symm
 ·rw [if_neg p1]
  by_cases p2:key d < 0
  ·rw [if_pos p2]
   exact (ord_lt (c2 (by omega))).symm
  ·rw [if_neg p2]
   have hz:key c=0∧key d=0:=by omega
   exact (ord_eq (c3 (by omega) (by omega) (by omega) (by omega))).symm
theorem bel_set2q {w0 w:World} {g:Nat} (h:Below w0.heap.size w0 w) (hg:w0.heap.size <= g) (x y:Value):Below w0.heap.size w0 ((w.setCell ⟨g,0,none⟩ x).setCell ⟨g,1,none⟩ y):=(h.setCell (p:=⟨g,0,none⟩) hg x).setCell (p:=⟨g,1,none⟩) hg y
def gLo (p q:Int):Int:=eLo (ePlus (eOf p) (eNeg (eOf q)))
def gHi (p q:Int):Int:=eHi (ePlus (eOf p) (eNeg (eOf q)))
theorem okk_pin {c d V:Int} (h:Okk c d V):Pin2 c d V :=
 ⟨h.lo,h.hi,En.le_trans (of_le h.lo (c_nn V).1 h.kl) (c_btw V).1,En.le_trans (c_btw V).2 (of_le (c_nn V).2 h.hi h.kh)⟩
theorem pin_point {p:Int} (rp:rng p) (pp:pok p=true):Pin2 p p (patV p):=Pin2.of rp pp ⟨⟨rp,q_fin pp⟩,Int.le_refl _⟩ ⟨⟨rp,q_fin pp⟩,Int.le_refl _⟩
theorem canon_facts {p:Int} (h:nn p) (pp:pok p=true):rng (canon p)∧pok (canon p)=true:=by
 refine ⟨rng_canon h.1,?_⟩
 unfold canon
 rw [if_neg h.2]
 split
 ·decide
 ·exact pp
theorem gap_okk {p q:Int} (rp:rng p) (rq:rng q) (pp:pok p=true) (pq:pok q=true):Okk (gLo p q) (gHi p q) (patV p - patV q) :=
 ((show patV p + -patV q=patV p - patV q from rfl) ▸ (pin_point rp pp).h.plus (pin_point rq pq).h.neg).okk
set_option maxRecDepth 100000 in
set_option maxHeartbeats 1000000 in
theorem spanOf {b:Int} (rb:rng b) (pb:pok b=true) (w:World) (H:Hold4 w) :
  Calls Tryz.prog 70 #[.int .i64 b] w fun r w'=>r=.returned (.tuple #[.agg #[.int .i64 (canon b),.int .i64 (canon b)],.int .i64 0])∧Below w.heap.size w w':=by
 have CP:Hid (∀ W,Hold4 W->Calls Tryz.prog 100 #[.int .i64 b] W fun e w'=>e=.returned (.tuple #[.bool (pneg b),.int .i64 (pmag b),.int .i64 (pexp b),.bool true])∧Below W.heap.size W w'):=fun W h=>by
  have:=bitsPartsA b W h.lay
  rw [pb] at this
  exact this
 have CF:Hid (∀ W,Calls Tryz.prog 32 #[.int .i64 b] W fun e w'=>e=.returned (.float .f64 (wd b))∧w'=W):=fun W=>bitsFloat b W
 have CT:Hid (∀ W,Hold4 W->Calls Tryz.prog 97 #[.agg #[.float .f64 (wd b),.float .f64 (wd b)]] W fun e w'=>e=.returned (.agg #[.int .i64 (canon b),.int .i64 (canon b)])∧Below W.heap.size W w'):=fun W h=>spanTold ⟨rb,q_fin pb⟩ ⟨rb,q_fin pb⟩ W h.env.lays
 clear rb pb
 generalize canon b=cb at *
 generalize wd b=B at *
 generalize pneg b=b1 at *
 generalize pmag b=b2 at *
 generalize pexp b=b3 at *
 have r_k:(w.alloc (.cells #[.int .i64 0,.int .i64 0] 77)).heap[w.heap.size]?=some (.cells #[.int .i64 0,.int .i64 0] 77):=heap_new (.cells #[.int .i64 0,.int .i64 0] 77) (by rfl)
 have hb0:=bel_alloc w (.cells #[.int .i64 0,.int .i64 0] 77)
 go_enter Tryz.func70,Tryz.ntmps70
 go_wp2_with fail
 generalize (w.alloc (.cells #[.int .i64 0,.int .i64 0] 77))=x0 at hb0 r_k ⊢
 replace H:=H.keeps hb0
 refine (CP.out _ H).mono ?_
 rintro _ y1 ⟨rfl,hw1⟩
 replace r_k:=blk_on hw1 r_k
 replace hb0:=bel_trans hb0 hw1
 replace H:=H.keeps hw1
 go_wp2_with fail
 refine (CF.out _).mono ?_
 rintro _ wz ⟨rfl,hwz⟩
 replace hwz:=hwz.symm
 subst hwz
 go_wp2_with fail
 refine (CT.out _ H).mono ?_
 rintro _ y2 ⟨rfl,hw2⟩
 replace r_k:=blk_on hw2 r_k
 replace hb0:=bel_trans hb0 hw2
 have k0:=blkC r_k 0 rfl
 have k1:=blkC r_k 1 rfl
 have z0:=blkF r_k 0
 have z1:=blkF r_k 1
 go_wp2
 exact bodyPost_ret (v:=.tuple #[.agg #[.int .i64 cb,.int .i64 cb],.int .i64 0]) (by simp [results,Tryz.results70,go_sem,k0,k1]) rfl ⟨rfl,((hb0.setCell (p:=⟨w.heap.size,0,none⟩) (show w.heap.size <= w.heap.size by omega) _).setCell (p:=⟨w.heap.size,1,none⟩) (show w.heap.size <= w.heap.size by omega) _)⟩
set_option maxRecDepth 100000 in
set_option maxHeartbeats 1000000 in
theorem apartSpan {p q:Int} (rp:rng p) (rq:rng q) (pp:pok p=true) (pq:pok q=true) (w:World) (H:Hold4 w) :
  Calls Tryz.prog 42 #[.int .i64 p,.int .i64 q] w fun r w'=>r=.returned (.agg #[.int .i64 (gLo p q),.int .i64 (gHi p q)])∧Below w.heap.size w w':=by
 have C1:Hid (∀ W,Hold4 W->Calls Tryz.prog 70 #[.int .i64 p] W fun r w'=>r=.returned (.tuple #[.agg #[.int .i64 (canon p),.int .i64 (canon p)],.int .i64 0])∧Below W.heap.size W w'):=fun W h=>spanOf rp pp W h
 have C2:Hid (∀ W,Hold4 W->Calls Tryz.prog 70 #[.int .i64 q] W fun r w'=>r=.returned (.tuple #[.agg #[.int .i64 (canon q),.int .i64 (canon q)],.int .i64 0])∧Below W.heap.size W w'):=fun W h=>spanOf rq pq W h
 have C3:Hid (∀ W,Hold4 W->Calls Tryz.prog 43 #[.agg #[.int .i64 (canon p),.int .i64 (canon p)],.agg #[.int .i64 (canon q),.int .i64 (canon q)]] W fun e w'=>e=.returned (.tuple #[.agg #[.int .i64 (gLo p q),.int .i64 (gHi p q)],.int .i64 0])∧Below W.heap.size W w'):=fun W h=>by
  have n1:nn p:=⟨rp,q_fin pp⟩
  have n2:nn q:=⟨rq,q_fin pq⟩
  have k1:=canon_facts n1 pp
  have k2:=canon_facts n2 pq
  have:=spanSubE k1.1 k1.1 k2.1 k2.1 W h
  rw [vld_self k1.1 k1.2,vld_self k2.1 k2.2,of_canon n1,of_canon n2] at this
  exact this
 clear rp rq pp pq
 generalize canon p=cp at *
 generalize canon q=cq at *
 generalize gLo p q=lo at *
 generalize gHi p q=hi at *
 have r_k:(w.alloc (.cells #[.int .i64 0,.int .i64 0] 77)).heap[w.heap.size]?=some (.cells #[.int .i64 0,.int .i64 0] 77):=heap_new (.cells #[.int .i64 0,.int .i64 0] 77) (by rfl)
 have hb0:=bel_alloc w (.cells #[.int .i64 0,.int .i64 0] 77)
 go_enter Tryz.func42,Tryz.ntmps42
 go_wp2_with fail
 generalize (w.alloc (.cells #[.int .i64 0,.int .i64 0] 77))=x0 at hb0 r_k ⊢
 replace H:=H.keeps hb0
 refine (C1.out _ H).mono ?_
 rintro _ y1 ⟨rfl,hw1⟩
 replace r_k:=heap_past (.cells #[.int .i64 cp,.int .i64 cp] 77) (blk_on hw1 r_k)
 have p_k:=heap_a1 y1 (.cells #[.int .i64 cp,.int .i64 cp] 77)
 replace hb0:=bel_trans (bel_trans hb0 hw1) (bel_alloc y1 (.cells #[.int .i64 cp,.int .i64 cp] 77))
 replace H:=(H.keeps hw1).keeps (bel_alloc y1 (.cells #[.int .i64 cp,.int .i64 cp] 77))
 go_wp2_with fail
 generalize y1.alloc (.cells #[.int .i64 cp,.int .i64 cp] 77)=x1 at r_k p_k hb0 H ⊢
 refine (C2.out _ H).mono ?_
 rintro _ y2 ⟨rfl,hw2⟩
 replace r_k:=heap_past (.cells #[.int .i64 cq,.int .i64 cq] 77) (blk_on hw2 r_k)
 replace p_k:=heap_past (.cells #[.int .i64 cq,.int .i64 cq] 77) (blk_on hw2 p_k)
 have q_k:=heap_a1 y2 (.cells #[.int .i64 cq,.int .i64 cq] 77)
 replace hb0:=bel_trans (bel_trans hb0 hw2) (bel_alloc y2 (.cells #[.int .i64 cq,.int .i64 cq] 77))
 replace H:=(H.keeps hw2).keeps (bel_alloc y2 (.cells #[.int .i64 cq,.int .i64 cq] 77))
 have f_p0:=blkC p_k 0 rfl
 have f_p1:=blkC p_k 1 rfl
 go_wp2_with fail
 clear f_p0 f_p1
 generalize y2.alloc (.cells #[.int .i64 cq,.int .i64 cq] 77)=x2 at r_k p_k q_k hb0 H ⊢
 refine (C3.out _ H).mono ?_
 rintro _ y3 ⟨rfl,hw3⟩
 replace r_k:=heap_past (.cells #[.int .i64 lo,.int .i64 hi] 77) (blk_on hw3 r_k)
 replace hb0:=bel_trans (bel_trans hb0 hw3) (bel_alloc y3 (.cells #[.int .i64 lo,.int .i64 hi] 77))
 have k0:=blkC r_k 0 rfl
 have k1:=blkC r_k 1 rfl
 have z0:=blkF r_k 0
 have z1:=blkF r_k 1
 go_wp2
 exact bodyPost_ret (v:=.agg #[.int .i64 lo,.int .i64 hi]) (by simp [results,Tryz.results42,go_sem,k0,k1]) rfl ⟨rfl,((hb0.setCell (p:=⟨w.heap.size,0,none⟩) (show w.heap.size <= w.heap.size by omega) _).setCell (p:=⟨w.heap.size,1,none⟩) (show w.heap.size <= w.heap.size by omega) _)⟩
end Go.Proofs.YtinccocmgkjalaaGreatDoor
