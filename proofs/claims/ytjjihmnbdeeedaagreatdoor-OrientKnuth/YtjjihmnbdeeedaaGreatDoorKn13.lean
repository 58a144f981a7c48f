/- Parts of the proof. -/
import Derived.Test.YtjjihmnbdeeedaaGreatDoorKn11
import Derived.Test.YtjjihmnbdeeedaaGreatDoorKn12
import Derived.Test.YtjjihmnbdeeedaaGreatDoorKn9
import Derived.Deep.RegionHeld3
import Derived.Test.YtjjihmnbdeeedaaGreatDoorKn4
import Derived.Test.YtjjihmnbdeeedaaGreatDoorKn5
import Derived.Test.YtjjihmnbdeeedaaGreatDoorKn3
import Derived.Test.YtjjihmnbdeeedaaGreatDoorKn10
import Derived.Test.YtjjihmnbdeeedaaGreatDoorKn6
import Derived.BigQuiet
set_option maxRecDepth 100000
set_option maxHeartbeats 40000000
set_option linter.unusedVariables false
set_option linter.unusedSimpArgs false
namespace Go.Proofs.YtjjihmnbdeeedaaGreatDoor
open Go Go.RowKit Go.Proofs.YtjjihmnbdeeedaaGreatDoor.M
theorem plus_any {a b c d l l' h' h:Nat} (w:World)
    (S1:Hid (∀ W,Calls Tryz.prog 217 #[.float .f64 a,.float .f64 c] W fun e w'=>e=.returned (.agg #[.float .f64 l,.float .f64 l'])∧Below W.heap.size W w'))
    (S2:Hid (∀ W,Calls Tryz.prog 217 #[.float .f64 b,.float .f64 d] W fun e w'=>e=.returned (.agg #[.float .f64 h',.float .f64 h])∧Below W.heap.size W w')) :
    Calls Tryz.prog 161 #[.agg #[.float .f64 a,.float .f64 b],.agg #[.float .f64 c,.float .f64 d]] w fun e w'=>e=.returned (.agg #[.float .f64 l,.float .f64 h])∧Below w.heap.size w w':=by
  obtain ⟨q0,q1,q2,hs,hb3⟩:=heap3 w (.cells #[.float .f64 a,.float .f64 b] 160) (.cells #[.float .f64 c,.float .f64 d] 160) (.cells #[.float .f64 0,.float .f64 0] 160)
  have k0:=blkC q0 0 rfl
  have k1:=blkC q0 1 rfl
  have k2:=blkC q1 0 rfl
  have k3:=blkC q1 1 rfl
  go_enter Tryz.func161,Tryz.ntmps161
  go_wp2_with fail
  generalize ((w.alloc (.cells #[.float .f64 a,.float .f64 b] 160)).alloc (.cells #[.float .f64 c,.float .f64 d] 160)).alloc (.cells #[.float .f64 0,.float .f64 0] 160)=wx at *
  obtain ⟨g,hg⟩:∃ g,w.heap.size+1+1=g:=⟨_,rfl⟩
  have hwg:w.heap.size+2<=g:=by omega
  replace q2:wx.drew.heap[g]?=some (.cells #[.float .f64 0,.float .f64 0] 160 (0,0)):=by rw [<- hg]; exact q2
  simp only [hg]
  clear hg
  have hc:(w.heap.size<w.heap.size+2∧w.heap.size+1<w.heap.size+2∧w.heap.size+2<=wx.drew.heap.size)∧wx.drew.cell? ⟨w.heap.size,0,none⟩=some (.float .f64 a)∧wx.drew.cell? ⟨w.heap.size,1,none⟩=some (.float .f64 b)∧wx.drew.cell? ⟨w.heap.size+1,0,none⟩=some (.float .f64 c)∧wx.drew.cell? ⟨w.heap.size+1,1,none⟩=some (.float .f64 d):=⟨⟨by omega,by omega,by show _<=wx.heap.size; omega⟩,k0,k1,k2,k3⟩
  have hbd:=hb3.drew
  have fl0:∀ w:World,(Instr.field 160 (.agg #[.float .f64 l,.float .f64 l']) 0).run Tryz.prog w=.ok (.float .f64 l) w:=fun w=>by kernel_rfl
  have fl1:∀ w:World,(Instr.field 160 (.agg #[.float .f64 h',.float .f64 h]) 1).run Tryz.prog w=.ok (.float .f64 h) w:=fun w=>by kernel_rfl
  clear q0 q1 k0 k1 k2 k3
  go_region_held3 (fun W=>(w.heap.size<w.heap.size+2∧w.heap.size+1<w.heap.size+2∧w.heap.size+2<=W.heap.size)∧W.cell? ⟨w.heap.size,0,none⟩=some (.float .f64 a)∧W.cell? ⟨w.heap.size,1,none⟩=some (.float .f64 b)∧W.cell? ⟨w.heap.size+1,0,none⟩=some (.float .f64 c)∧W.cell? ⟨w.heap.size+1,1,none⟩=some (.float .f64 d))
    (first | assumption | (repeat (first | exact hc | exact hc1 | exact hc2 | refine s4_drew ?_ | refine s4_set (by omega) ?_)))
    (first
      | (go_at_call 217; have _t:=hb4; refine (S2.out _).mono ?_; rintro _ w2 ⟨rfl,hb5⟩; have hc2:=s4_keep hc1 hb5; have d2:=((bel_trans hb4 hb5).block _ (Array.getElem?_eq_some_iff.1 q2).1).trans q2; have d3:=q_heap_set d2 0 (.float .f64 l); have d4:=q_heap_set d3 1 (.float .f64 h); have f0:=blkC d2 0 rfl; have z0:=blkF d2 0; have f1:=blkC d3 1 rfl; have z1:=blkF d3 1; have s0:(store ⟨g,0,none⟩ (.float .f64 l)).run Tryz.prog w2=.ok () (w2.setCell ⟨g,0,none⟩ (.float .f64 l)):=(by rw [run_store _ _ _ _ _ rfl,f0]; simp only [z0]; rfl); have s1:(store ⟨g,1,none⟩ (.float .f64 h)).run Tryz.prog (w2.setCell ⟨g,0,none⟩ (.float .f64 l))=.ok () ((w2.setCell ⟨g,0,none⟩ (.float .f64 l)).setCell ⟨g,1,none⟩ (.float .f64 h)):=(by rw [run_store _ _ _ _ _ rfl,f1]; simp only [z1]; rfl))
      | (go_at_call 217; refine (S1.out _).mono ?_; rintro _ w1 ⟨rfl,hb4⟩; have hc1:=s4_keep hc hb4))
  have e0:=blkC d4 0 rfl
  have e1:=blkC d4 1 rfl
  have hbe:=((bel_trans hbd (bel_trans hb4 hb5)).setCell (p:=⟨g,0,none⟩) (show w.heap.size<=g by omega) (.float .f64 l)).setCell (p:=⟨g,1,none⟩) (show w.heap.size<=g by omega) (.float .f64 h)
  clear d2 d3 d4 f0 f1 z0 z1 s0 s1 hc hc1 hc2
  generalize (w2.setCell ⟨g,0,none⟩ (.float .f64 l)).setCell ⟨g,1,none⟩ (.float .f64 h)=wy at *
  go_wp2
  refine bodyPost_ret (v:=.agg #[.float .f64 l,.float .f64 h]) (by simp [results,Tryz.results161,go_sem,e0,e1]) rfl ⟨rfl,hbe⟩
theorem nn_of {p:Int} (h:rng p) (hr:rg p<=9218868437227405312):nn p:=⟨h,fun e=>by have:=(cls_rg h).1.1 e; omega⟩
theorem nn_nextS {p:Int} (h:nn p):nn (next p):=by
 have h1:=nn_rg h
 have h2:=h.1
 unfold rng at h2
 unfold next
 rw [if_neg h.2]
 unfold rg at h1
 split
 ·exact h
 ·split
  ·exact nn_of (by unfold rng; omega) (by decide)
  ·split
   ·rename_i h4 h5 h6
    rw [if_pos h6] at h1
    exact nn_of (by unfold rng; omega) (by unfold rg; split <;> omega)
   ·rename_i h4 h5 h6
    rw [if_neg h6] at h1
    exact nn_of (by unfold rng; omega) (by unfold rg; split <;> omega)
theorem nn_prevS {p:Int} (h:nn p):nn (prev p):=by
 unfold prev
 exact (nn_neg (nn_nextS (nn_neg h).1)).1
theorem be_nn {n l:Int} (h:nn n):nn (beLo n l)∧nn (beHi n l):=by
 unfold beLo beHi
 refine ⟨?_,?_⟩
 ·split
  ·exact nn_prevS h
  ·exact h
 ·split
  ·exact h
  ·split
   ·exact nn_nextS h
   ·exact h
theorem ivlTurned {a b:Int} (ha:nn a) (hb:nn b) (w:World) :
  Calls Tryz.prog 191 #[ivl a b] w fun e w'=>e=.returned (ivl (neg b) (neg a))∧Below w.heap.size w w':=by
 unfold ivl
 have RM:=fun W=>run_negF (P:=Tryz.prog) hb W
 have RX:=fun W=>run_negF (P:=Tryz.prog) ha W
 generalize wd (neg b)=X at *
 generalize wd (neg a)=Y at *
 generalize wd a=A at *
 generalize wd b=B at *
 have hb2:=bel_alloc2 w (.cells #[.float .f64 A,.float .f64 B] 160) (.cells #[.float .f64 0,.float .f64 0] 160)
 have q0:=heap_a2 w (.cells #[.float .f64 A,.float .f64 B] 160) (.cells #[.float .f64 0,.float .f64 0] 160)
 have q1:=heap_b2 w (.cells #[.float .f64 A,.float .f64 B] 160) (.cells #[.float .f64 0,.float .f64 0] 160)
 have k0:=blkC q0 0 rfl
 have k1:=blkC q0 1 rfl
 go_enter Tryz.func191,Tryz.ntmps191
 go_wp2_with fail
 clear q0 k0 k1 RM RX
 generalize (w.alloc (.cells #[.float .f64 A,.float .f64 B] 160)).alloc (.cells #[.float .f64 0,.float .f64 0] 160)=wx at *
 obtain ⟨g,hg⟩:∃ g,w.heap.size+1=g:=⟨_,rfl⟩
 have hwg:w.heap.size<=g:=by omega
 rw [hg] at q1
 simp only [hg]
 clear hg
 have d2:=q_heap_set q1 0 (.float .f64 X)
 have d3:=q_heap_set d2 1 (.float .f64 Y)
 have f0:=blkC q1 0 rfl
 have z0:=blkF q1 0
 have f1:=blkC d2 1 rfl
 have z1:=blkF d2 1
 have hbe:=(hb2.setCell (p:=⟨g,0,none⟩) hwg (.float .f64 X)).setCell (p:=⟨g,1,none⟩) hwg (.float .f64 Y)
 have s0:(store ⟨g,0,none⟩ (.float .f64 X)).run Tryz.prog wx=.ok () (wx.setCell ⟨g,0,none⟩ (.float .f64 X)):=by rw [run_store _ _ _ _ _ rfl,f0]; simp only [z0]; rfl
 have s1:(store ⟨g,1,none⟩ (.float .f64 Y)).run Tryz.prog (wx.setCell ⟨g,0,none⟩ (.float .f64 X))=.ok () ((wx.setCell ⟨g,0,none⟩ (.float .f64 X)).setCell ⟨g,1,none⟩ (.float .f64 Y)):=by rw [run_store _ _ _ _ _ rfl,f1]; simp only [z1]; rfl
 have e0:=blkC d3 0 rfl
 have e1:=blkC d3 1 rfl
 clear f0 z0 f1 z1 d2 d3 q1
 simp only [s0,s1,Result.andThen]
 go_wp2
 refine bodyPost_ret (v:=.agg #[.float .f64 X,.float .f64 Y]) (by simp [results,Tryz.results191,go_sem,e0,e1]) rfl ⟨rfl,hbe⟩
theorem minus_any {a b c d t u l h:Nat} (w:World)
    (S1:Hid (∀ W,Calls Tryz.prog 191 #[.agg #[.float .f64 c,.float .f64 d]] W fun e w'=>e=.returned (.agg #[.float .f64 t,.float .f64 u])∧Below W.heap.size W w'))
    (S2:Hid (∀ W,Calls Tryz.prog 161 #[.agg #[.float .f64 a,.float .f64 b],.agg #[.float .f64 t,.float .f64 u]] W fun e w'=>e=.returned (.agg #[.float .f64 l,.float .f64 h])∧Below W.heap.size W w')) :
    Calls Tryz.prog 132 #[.agg #[.float .f64 a,.float .f64 b],.agg #[.float .f64 c,.float .f64 d]] w fun e w'=>e=.returned (.agg #[.float .f64 l,.float .f64 h])∧Below w.heap.size w w':=by
  obtain ⟨q0,q1,q2,hs,hb3⟩:=heap3 w (.cells #[.float .f64 a,.float .f64 b] 160) (.cells #[.float .f64 c,.float .f64 d] 160) (.cells #[.float .f64 0,.float .f64 0] 160)
  have k0:=blkC q0 0 rfl
  have k1:=blkC q0 1 rfl
  have k2:=blkC q1 0 rfl
  have k3:=blkC q1 1 rfl
  go_enter Tryz.func132,Tryz.ntmps132
  go_wp2_with fail
  generalize ((w.alloc (.cells #[.float .f64 a,.float .f64 b] 160)).alloc (.cells #[.float .f64 c,.float .f64 d] 160)).alloc (.cells #[.float .f64 0,.float .f64 0] 160)=wx at *
  obtain ⟨g,hg⟩:∃ g,w.heap.size+1+1=g:=⟨_,rfl⟩
  have hwg:w.heap.size+2<=g:=by omega
  replace q2:wx.drew.heap[g]?=some (.cells #[.float .f64 0,.float .f64 0] 160 (0,0)):=by rw [<- hg]; exact q2
  simp only [hg]
  clear hg
  have hc:(w.heap.size<w.heap.size+2∧w.heap.size+1<w.heap.size+2∧w.heap.size+2<=wx.drew.heap.size)∧wx.drew.cell? ⟨w.heap.size,0,none⟩=some (.float .f64 a)∧wx.drew.cell? ⟨w.heap.size,1,none⟩=some (.float .f64 b)∧wx.drew.cell? ⟨w.heap.size+1,0,none⟩=some (.float .f64 c)∧wx.drew.cell? ⟨w.heap.size+1,1,none⟩=some (.float .f64 d):=⟨⟨by omega,by omega,by show _<=wx.heap.size; omega⟩,k0,k1,k2,k3⟩
  have hbd:=hb3.drew
  clear q0 q1 k0 k1 k2 k3
  go_region_held3 (fun W=>(w.heap.size<w.heap.size+2∧w.heap.size+1<w.heap.size+2∧w.heap.size+2<=W.heap.size)∧W.cell? ⟨w.heap.size,0,none⟩=some (.float .f64 a)∧W.cell? ⟨w.heap.size,1,none⟩=some (.float .f64 b)∧W.cell? ⟨w.heap.size+1,0,none⟩=some (.float .f64 c)∧W.cell? ⟨w.heap.size+1,1,none⟩=some (.float .f64 d))
    (first | assumption | (repeat (first | exact hc | exact hc1 | exact hc2 | refine s4_drew ?_ | refine s4_set (by omega) ?_)))
    (first
      | (go_at_call 161; have _t:=hb4; refine (S2.out _).mono ?_; rintro _ w2 ⟨rfl,hb5⟩; have hc2:=s4_keep hc1 hb5; have d2:=((bel_trans hb4 hb5).block _ (Array.getElem?_eq_some_iff.1 q2).1).trans q2; have d3:=q_heap_set d2 0 (.float .f64 l); have d4:=q_heap_set d3 1 (.float .f64 h); have f0:=blkC d2 0 rfl; have z0:=blkF d2 0; have f1:=blkC d3 1 rfl; have z1:=blkF d3 1; have s0:(store ⟨g,0,none⟩ (.float .f64 l)).run Tryz.prog w2=.ok () (w2.setCell ⟨g,0,none⟩ (.float .f64 l)):=(by rw [run_store _ _ _ _ _ rfl,f0]; simp only [z0]; rfl); have s1:(store ⟨g,1,none⟩ (.float .f64 h)).run Tryz.prog (w2.setCell ⟨g,0,none⟩ (.float .f64 l))=.ok () ((w2.setCell ⟨g,0,none⟩ (.float .f64 l)).setCell ⟨g,1,none⟩ (.float .f64 h)):=(by rw [run_store _ _ _ _ _ rfl,f1]; simp only [z1]; rfl))
      | (go_at_call 191; refine (S1.out _).mono ?_; rintro _ w1 ⟨rfl,hb4⟩; have hc1:=s4_keep hc hb4))
  have e0:=blkC d4 0 rfl
  have e1:=blkC d4 1 rfl
  have hbe:=((bel_trans hbd (bel_trans hb4 hb5)).setCell (p:=⟨g,0,none⟩) (show w.heap.size<=g by omega) (.float .f64 l)).setCell (p:=⟨g,1,none⟩) (show w.heap.size<=g by omega) (.float .f64 h)
  clear d2 d3 d4 f0 f1 z0 z1 s0 s1 hc hc1 hc2
  generalize (w2.setCell ⟨g,0,none⟩ (.float .f64 l)).setCell ⟨g,1,none⟩ (.float .f64 h)=wy at *
  go_wp2
  refine bodyPost_ret (v:=.agg #[.float .f64 l,.float .f64 h]) (by simp [results,Tryz.results132,go_sem,e0,e1]) rfl ⟨rfl,hbe⟩
theorem vld_self {a:Int} (ha:rng a) (pa:pok a=true):vld a a=true:=by
 have h1:=(pok_rg ha).1 pa
 have h4:=pok_clsF ha pa
 refine vld_iff.2 ⟨h4,h4,Int.le_refl _,?_,?_⟩
 ·unfold key; unfold rg at h1; unfold rng at ha; split at h1 <;> split <;> omega
 ·unfold key; unfold rg at h1; unfold rng at ha; split at h1 <;> split <;> omega
theorem vld_lo {a b:Int} (ha:rng a) (hb:rng b) (h:vld a b=true):nn a∧nn b∧(rg a=9218868437227405312->a<0)∧(rg b=9218868437227405312->¬ b<0)∧key a<=key b:=by
 obtain ⟨va,vb,h1,h2,h3⟩:=vld_iff.1 h
 refine ⟨⟨ha,va⟩,⟨hb,vb⟩,fun q=>?_,fun q k=>?_,h1⟩
 ·rw [key_rg ha] at h2
  split at h2
  ·assumption
  ·omega
 ·rw [key_rg hb,if_pos k] at h3
  omega
theorem no_lo {a c:Int} (h:rg a=9218868437227405312->a<0) (k:rg c=9218868437227405312->c<0):¬ (rg a=9218868437227405312∧rg c=9218868437227405312∧decide (a<0)≠decide (c<0)):=by
 rintro ⟨h1,h2,h3⟩
 exact h3 (by rw [decide_eq_true (h h1),decide_eq_true (k h2)])
theorem no_hi {a c:Int} (h:rg a=9218868437227405312->¬ a<0) (k:rg c=9218868437227405312->¬ c<0):¬ (rg a=9218868437227405312∧rg c=9218868437227405312∧decide (a<0)≠decide (c<0)):=by
 rintro ⟨h1,h2,h3⟩
 exact h3 (by rw [decide_eq_false (h h1),decide_eq_false (k h2)])
theorem neg_sides {p:Int} (hp:nn p):(rg (neg p)=9218868437227405312 ↔ rg p=9218868437227405312)∧(neg p<0 ↔ ¬ p<0):=by
 obtain ⟨g1,g2⟩:=su_neg hp
 refine ⟨by rw [g1],?_⟩
 by_cases a:neg p<0 <;> by_cases b:p<0 <;> simp [a,b] at g2 ⊢
theorem two_eq {ok:Bool} {v v':Value} (h:ok=true->v=v'):twoV ok v=twoV ok v':=by
 cases ok
 ·rfl
 ·rw [h rfl]
theorem spanSubE {a b c d:Int} (ha:rng a) (hb:rng b) (hc:rng c) (hd:rng d) (w:World) (H:Hold4 w) :
    Calls Tryz.prog 68 #[spn a b,spn c d] w fun e w'=>e=.returned (.tuple #[twoV (vld a b && vld c d) (spn (eLo (ePlus (eOf a) (eNeg (eOf d)))) (eHi (ePlus (eOf b) (eNeg (eOf c))))),.int .i64 (errA (vld a b && vld c d))])∧Below w.heap.size w w':=by
  have hE:∀ (cap:Array Value) (w:World),(callFunc 132 cap).run Tryz.prog w=.ok (.enter 132 cap) w:=by
    intro cap w
    simp [go_sem]
  have CJ:Hid (∀ W,Hold4 W->Calls Tryz.prog 129 #[spn a b,spn c d,.func (.func 132) #[] #[]] W fun e w'=>e=.returned (.tuple #[twoV (vld a b && vld c d) (spn (eLo (ePlus (eOf a) (eNeg (eOf d)))) (eHi (ePlus (eOf b) (eNeg (eOf c))))),.int .i64 (errA (vld a b && vld c d))])∧Below W.heap.size W w'):=fun W LW=>by
    have:=ofTwo_H 132 (x:=beLo (suN a (neg d)) (suL a (neg d))) (y:=beHi (suN b (neg c)) (suL b (neg c))) ha hb hc hd W LW hE (fun h1 h2=>by
      obtain ⟨na,nb,a1,b1,_⟩:=vld_lo ha hb h1
      obtain ⟨nc,nd,c1,d1,_⟩:=vld_lo hc hd h2
      obtain ⟨g1,g2⟩:=neg_sides nc
      obtain ⟨g3,g4⟩:=neg_sides nd
      have p1:=plus_e na (nn_neg nd).1 (no_lo a1 (fun q=>g4.2 (d1 (g3.1 q))))
      have p2:=plus_e nb (nn_neg nc).1 (no_hi b1 (fun q k=>(g2.1 k) (c1 (g1.1 q))))
      exact ⟨(be_nn p1.1).1,(be_nn p2.1).2,fun W' _=>minus_any W' (fun W''=>ivlTurned nc nd W'') (fun W''=>plus_any W'' (fun W3=>spanSum na (nn_neg nd).1 p1.1 W3) (fun W3=>spanSum nb (nn_neg nc).1 p2.1 W3))⟩)
    rw [two_eq (v':=spn (eLo (ePlus (eOf a) (eNeg (eOf d)))) (eHi (ePlus (eOf b) (eNeg (eOf c)))))] at this
    · exact this
    · intro hok
      rw [Bool.and_eq_true] at hok
      obtain ⟨na,nb,a1,b1,_⟩:=vld_lo ha hb hok.1
      obtain ⟨nc,nd,c1,d1,_⟩:=vld_lo hc hd hok.2
      obtain ⟨g1,g2⟩:=neg_sides nc
      obtain ⟨g3,g4⟩:=neg_sides nd
      rw [(plus_e na (nn_neg nd).1 (no_lo a1 (fun q=>g4.2 (d1 (g3.1 q))))).2.1,(plus_e nb (nn_neg nc).1 (no_hi b1 (fun q k=>(g2.1 k) (c1 (g1.1 q))))).2.2,of_neg nd,of_neg nc]
  have hx:∃ X Y,twoV (vld a b && vld c d) (spn (eLo (ePlus (eOf a) (eNeg (eOf d)))) (eHi (ePlus (eOf b) (eNeg (eOf c)))))=.agg #[.int .i64 X,.int .i64 Y]:=by
    unfold twoV spn; split
    · exact ⟨_,_,rfl⟩
    · exact ⟨_,_,rfl⟩
  obtain ⟨X,Y,hXY⟩:=hx
  rw [hXY] at CJ ⊢
  clear hXY
  unfold spn at *
  generalize errA (vld a b && vld c d)=E at *
  obtain ⟨q0,q1,q2,hs,hb3⟩:=heap3 w (.cells #[.int .i64 a,.int .i64 b] 72) (.cells #[.int .i64 c,.int .i64 d] 72) (.cells #[.int .i64 0,.int .i64 0] 72)
  have L2:=H.keeps hb3
  go_enter Tryz.func68,Tryz.ntmps68
  go_wp2_with fail
  generalize ((w.alloc (.cells #[.int .i64 a,.int .i64 b] 72)).alloc (.cells #[.int .i64 c,.int .i64 d] 72)).alloc (.cells #[.int .i64 0,.int .i64 0] 72)=wx at *
  refine (CJ.out _ L2).mono ?_
  rintro _ w1 ⟨rfl,hb4⟩
  have d2:=(hb4.block _ (Array.getElem?_eq_some_iff.1 q2).1).trans q2
  have d3:=q_heap_set d2 0 (.int .i64 X)
  have d4:=q_heap_set d3 1 (.int .i64 Y)
  have f0:=blkC d2 0 rfl
  have z0:=blkF d2 0
  have f1:=blkC d3 1 rfl
  have z1:=blkF d3 1
  have e0:=blkC d4 0 rfl
  have e1:=blkC d4 1 rfl
  have hbe:=((bel_trans hb3 hb4).setCell (p:=⟨w.heap.size+1+1,0,none⟩) (show w.heap.size<=w.heap.size+1+1 by omega) (.int .i64 X)).setCell (p:=⟨w.heap.size+1+1,1,none⟩) (show w.heap.size<=w.heap.size+1+1 by omega) (.int .i64 Y)
  clear d2 d3 d4 q0 q1 q2
  go_wp2
  refine bodyPost_ret (v:=.tuple #[.agg #[.int .i64 X,.int .i64 Y],.int .i64 E]) (by simp [results,Tryz.results68,go_sem,e0,e1]) rfl ⟨rfl,hbe⟩
theorem spanMulE {a b c d:Int} (ha:rng a) (hb:rng b) (hc:rng c) (hd:rng d) (w:World) (H:Hold4 w) :
  Calls Tryz.prog 66 #[spn a b,spn c d] w fun e w'=>e=.returned (.tuple #[twoV (vld a b && vld c d) (spn (eLo (eTmLo (eOf a) (eOf b) (eOf c) (eOf d))) (eHi (eTmHi (eOf a) (eOf b) (eOf c) (eOf d)))),.int .i64 (errA (vld a b && vld c d))])∧Below w.heap.size w w':=by
 have:=spanMulH ha hb hc hd w H
 rw [two_eq (v':=spn (eLo (eTmLo (eOf a) (eOf b) (eOf c) (eOf d))) (eHi (eTmHi (eOf a) (eOf b) (eOf c) (eOf d))))] at this
 ·exact this
 ·intro hok
  rw [Bool.and_eq_true] at hok
  obtain ⟨na,nb,_⟩:=vld_lo ha hb hok.1
  obtain ⟨nc,nd,_⟩:=vld_lo hc hd hok.2
  rw [(tm_e na nb nc nd).1,(tm_e na nb nc nd).2]
structure Okk (c d V:Int):Prop where
 lo:nn c
 hi:nn d
 cl:canon c=c
 ch:canon d=d
 ok:vld c d=true
 kl:key c<=key (cLo V)
 kh:key (cHi V)<=key d
theorem Holds.okk {e f:En} {V:Int} (h:Holds e f V):Okk (eLo e) (eHi f) V :=
 ⟨(e_nn e).1,(e_nn f).2,(e_canon e).1,(e_canon f).2,h.vld,h.keys.1,h.keys.2⟩
theorem mulS_of {A B C:Int} (h:C*2^4194304=A*B):C=mulS A B:=by
 unfold mulS
 rw [<- h]
 exact (Int.mul_ediv_cancel _ (Int.ne_of_gt (two_pos _))).symm
structure Pin2 (s t x:Int):Prop where
 lo:nn s
 hi:nn t
 h:Holds (eOf s) (eOf t) x
theorem Pin2.v {s t x:Int} (h:Pin2 s t x):vld s t=true:=h.h.vldP h.lo h.hi
theorem Pin2.of {lo hi b:Int} (rb:rng b) (pb:pok b=true) (h1:nn lo∧key lo<=key b) (h2:nn hi∧key b<=key hi):Pin2 lo hi (patV b) :=
 ⟨h1.1,h2.1,Holds.of h1.1 h2.1 ⟨rb,pok_clsF rb pb⟩ pb h1.2 h2.2⟩
theorem sgn_has {c d V:Int} (h:Okk c d V):sgK c d=true->sgV c d=ord V 0:=by
 intro hk
 obtain ⟨c1,c2,c3⟩:=c_sign V
 have hl:=h.kl
 have hh:=h.kh
 have hle:=c_le V
 unfold sgK at hk
 unfold sgV
 rw [h.ok] at hk ⊢
 simp only [Bool.true_and,if_true,Bool.or_eq_true,Bool.and_eq_true,decide_eq_true_eq] at hk ⊢
 by_cases p1:0<key c
 ·rw [if_pos p1]
  exact (ord_gt (c1 (by omega))).symm
 ·rw [if_neg p1]
  by_cases p2:key d<0
  ·rw [if_pos p2]
   exact (ord_lt (c2 (by omega))).symm
  ·rw [if_neg p2]
   have hz:key c=0∧key d=0:=by omega
   exact (ord_eq (c3 (by omega) (by omega) (by omega) (by omega))).symm
theorem bel_set2q {w0 w:World} {g:Nat} (h:Below w0.heap.size w0 w) (hg:w0.heap.size<=g) (x y:Value):Below w0.heap.size w0 ((w.setCell ⟨g,0,none⟩ x).setCell ⟨g,1,none⟩ y):=(h.setCell (p:=⟨g,0,none⟩) hg x).setCell (p:=⟨g,1,none⟩) hg y
def gLo (p q:Int):Int:=eLo (ePlus (eOf p) (eNeg (eOf q)))
def gHi (p q:Int):Int:=eHi (ePlus (eOf p) (eNeg (eOf q)))
theorem okk_pin {c d V:Int} (h:Okk c d V):Pin2 c d V :=
 ⟨h.lo,h.hi,En.le_trans (of_le h.lo (c_nn V).1 h.kl) (c_btw V).1,En.le_trans (c_btw V).2 (of_le (c_nn V).2 h.hi h.kh)⟩
theorem pin_point {p:Int} (rp:rng p) (pp:pok p=true):Pin2 p p (patV p):=Pin2.of rp pp ⟨⟨rp,q_fin pp⟩,Int.le_refl _⟩ ⟨⟨rp,q_fin pp⟩,Int.le_refl _⟩
theorem canon_facts {p:Int} (h:nn p) (pp:pok p=true):rng (canon p)∧pok (canon p)=true:=by
 refine ⟨rng_canon h.1,?_⟩
 unfold canon
 rw [if_neg h.2]
 split
 ·decide
 ·exact pp
theorem gap_okk {p q:Int} (rp:rng p) (rq:rng q) (pp:pok p=true) (pq:pok q=true):Okk (gLo p q) (gHi p q) (patV p-patV q) :=
 ((show patV p + -patV q=patV p-patV q from rfl) ▸ (pin_point rp pp).h.plus (pin_point rq pq).h.neg).okk
theorem spanOf {b:Int} (rb:rng b) (pb:pok b=true) (w:World) (H:Hold4 w) :
  Calls Tryz.prog 131 #[.int .i64 b] w fun r w'=>r=.returned (.tuple #[.agg #[.int .i64 (canon b),.int .i64 (canon b)],.int .i64 0])∧Below w.heap.size w w':=by
 have CP:Hid (∀ W,Hold4 W->Calls Tryz.prog 190 #[.int .i64 b] W fun e w'=>e=.returned (.tuple #[.bool (pneg b),.int .i64 (pmag b),.int .i64 (pexp b),.bool true])∧Below W.heap.size W w'):=fun W h=>by
  have:=bitsPartsA b W h.lay
  rw [pb] at this
  exact this
 have CF:Hid (∀ W,Calls Tryz.prog 58 #[.int .i64 b] W fun e w'=>e=.returned (.float .f64 (wd b))∧w'=W):=fun W=>bitsFloat b W
 have CT:Hid (∀ W,Hold4 W->Calls Tryz.prog 187 #[.agg #[.float .f64 (wd b),.float .f64 (wd b)]] W fun e w'=>e=.returned (.agg #[.int .i64 (canon b),.int .i64 (canon b)])∧Below W.heap.size W w'):=fun W h=>spanTold ⟨rb,q_fin pb⟩ ⟨rb,q_fin pb⟩ W h.env.lays
 clear rb pb
 generalize canon b=cb at *
 generalize wd b=B at *
 generalize pneg b=b1 at *
 generalize pmag b=b2 at *
 generalize pexp b=b3 at *
 have r_k:(w.alloc (.cells #[.int .i64 0,.int .i64 0] 72)).heap[w.heap.size]?=some (.cells #[.int .i64 0,.int .i64 0] 72):=heap_new (.cells #[.int .i64 0,.int .i64 0] 72) (by rfl)
 have hb0:=bel_alloc w (.cells #[.int .i64 0,.int .i64 0] 72)
 go_enter Tryz.func131,Tryz.ntmps131
 go_wp2_with fail
 generalize (w.alloc (.cells #[.int .i64 0,.int .i64 0] 72))=x0 at hb0 r_k ⊢
 replace H:=H.keeps hb0
 refine (CP.out _ H).mono ?_
 rintro _ y1 ⟨rfl,hw1⟩
 replace r_k:=blk_on hw1 r_k
 replace hb0:=bel_trans hb0 hw1
 replace H:=H.keeps hw1
 go_wp2_with fail
 refine (CF.out _).mono ?_
 rintro _ wz ⟨rfl,hwz⟩
 replace hwz:=hwz.symm
 subst hwz
 go_wp2_with fail
 refine (CT.out _ H).mono ?_
 rintro _ y2 ⟨rfl,hw2⟩
 replace r_k:=blk_on hw2 r_k
 replace hb0:=bel_trans hb0 hw2
 have k0:=blkC r_k 0 rfl
 have k1:=blkC r_k 1 rfl
 have z0:=blkF r_k 0
 have z1:=blkF r_k 1
 go_wp2
 exact bodyPost_ret (v:=.tuple #[.agg #[.int .i64 cb,.int .i64 cb],.int .i64 0]) (by simp [results,Tryz.results131,go_sem,k0,k1]) rfl ⟨rfl,((hb0.setCell (p:=⟨w.heap.size,0,none⟩) (show w.heap.size<=w.heap.size by omega) _).setCell (p:=⟨w.heap.size,1,none⟩) (show w.heap.size<=w.heap.size by omega) _)⟩
theorem apartSpan {p q:Int} (rp:rng p) (rq:rng q) (pp:pok p=true) (pq:pok q=true) (w:World) (H:Hold4 w) :
  Calls Tryz.prog 67 #[.int .i64 p,.int .i64 q] w fun r w'=>r=.returned (.agg #[.int .i64 (gLo p q),.int .i64 (gHi p q)])∧Below w.heap.size w w':=by
 have C1:Hid (∀ W,Hold4 W->Calls Tryz.prog 131 #[.int .i64 p] W fun r w'=>r=.returned (.tuple #[.agg #[.int .i64 (canon p),.int .i64 (canon p)],.int .i64 0])∧Below W.heap.size W w'):=fun W h=>spanOf rp pp W h
 have C2:Hid (∀ W,Hold4 W->Calls Tryz.prog 131 #[.int .i64 q] W fun r w'=>r=.returned (.tuple #[.agg #[.int .i64 (canon q),.int .i64 (canon q)],.int .i64 0])∧Below W.heap.size W w'):=fun W h=>spanOf rq pq W h
 have C3:Hid (∀ W,Hold4 W->Calls Tryz.prog 68 #[.agg #[.int .i64 (canon p),.int .i64 (canon p)],.agg #[.int .i64 (canon q),.int .i64 (canon q)]] W fun e w'=>e=.returned (.tuple #[.agg #[.int .i64 (gLo p q),.int .i64 (gHi p q)],.int .i64 0])∧Below W.heap.size W w'):=fun W h=>by
  have n1:nn p:=⟨rp,q_fin pp⟩
  have n2:nn q:=⟨rq,q_fin pq⟩
  have k1:=canon_facts n1 pp
  have k2:=canon_facts n2 pq
  have:=spanSubE k1.1 k1.1 k2.1 k2.1 W h
  rw [vld_self k1.1 k1.2,vld_self k2.1 k2.2,of_canon n1,of_canon n2] at this
  exact this
 clear rp rq pp pq
 generalize canon p=cp at *
 generalize canon q=cq at *
 generalize gLo p q=lo at *
 generalize gHi p q=hi at *
 have r_k:(w.alloc (.cells #[.int .i64 0,.int .i64 0] 72)).heap[w.heap.size]?=some (.cells #[.int .i64 0,.int .i64 0] 72):=heap_new (.cells #[.int .i64 0,.int .i64 0] 72) (by rfl)
 have hb0:=bel_alloc w (.cells #[.int .i64 0,.int .i64 0] 72)
 go_enter Tryz.func67,Tryz.ntmps67
 go_wp2_with fail
 generalize (w.alloc (.cells #[.int .i64 0,.int .i64 0] 72))=x0 at hb0 r_k ⊢
 replace H:=H.keeps hb0
 refine (C1.out _ H).mono ?_
 rintro _ y1 ⟨rfl,hw1⟩
 replace r_k:=heap_past (.cells #[.int .i64 cp,.int .i64 cp] 72) (blk_on hw1 r_k)
 have p_k:=heap_a1 y1 (.cells #[.int .i64 cp,.int .i64 cp] 72)
 replace hb0:=bel_trans (bel_trans hb0 hw1) (bel_alloc y1 (.cells #[.int .i64 cp,.int .i64 cp] 72))
 replace H:=(H.keeps hw1).keeps (bel_alloc y1 (.cells #[.int .i64 cp,.int .i64 cp] 72))
 go_wp2_with fail
 generalize y1.alloc (.cells #[.int .i64 cp,.int .i64 cp] 72)=x1 at r_k p_k hb0 H ⊢
 refine (C2.out _ H).mono ?_
 rintro _ y2 ⟨rfl,hw2⟩
 replace r_k:=heap_past (.cells #[.int .i64 cq,.int .i64 cq] 72) (blk_on hw2 r_k)
 replace p_k:=heap_past (.cells #[.int .i64 cq,.int .i64 cq] 72) (blk_on hw2 p_k)
 have q_k:=heap_a1 y2 (.cells #[.int .i64 cq,.int .i64 cq] 72)
 replace hb0:=bel_trans (bel_trans hb0 hw2) (bel_alloc y2 (.cells #[.int .i64 cq,.int .i64 cq] 72))
 replace H:=(H.keeps hw2).keeps (bel_alloc y2 (.cells #[.int .i64 cq,.int .i64 cq] 72))
 have f_p0:=blkC p_k 0 rfl
 have f_p1:=blkC p_k 1 rfl
 go_wp2_with fail
 clear f_p0 f_p1
 generalize y2.alloc (.cells #[.int .i64 cq,.int .i64 cq] 72)=x2 at r_k p_k q_k hb0 H ⊢
 refine (C3.out _ H).mono ?_
 rintro _ y3 ⟨rfl,hw3⟩
 replace r_k:=heap_past (.cells #[.int .i64 lo,.int .i64 hi] 72) (blk_on hw3 r_k)
 replace hb0:=bel_trans (bel_trans hb0 hw3) (bel_alloc y3 (.cells #[.int .i64 lo,.int .i64 hi] 72))
 have k0:=blkC r_k 0 rfl
 have k1:=blkC r_k 1 rfl
 have z0:=blkF r_k 0
 have z1:=blkF r_k 1
 go_wp2
 exact bodyPost_ret (v:=.agg #[.int .i64 lo,.int .i64 hi]) (by simp [results,Tryz.results67,go_sem,k0,k1]) rfl ⟨rfl,((hb0.setCell (p:=⟨w.heap.size,0,none⟩) (show w.heap.size<=w.heap.size by omega) _).setCell (p:=⟨w.heap.size,1,none⟩) (show w.heap.size<=w.heap.size by omega) _)⟩
def Dot2 (a1 a2 c1 c2 V:Int):Prop:=∃ C D,C*2^4194304=a1*c1∧D*2^4194304=a2*c2∧V=C+D
theorem Dot2.unique {a1 a2 b1 b2 V V':Int} (h:Dot2 a1 a2 b1 b2 V) (k:Dot2 a1 a2 b1 b2 V'):V=V':=by
 obtain ⟨C,D,h1,h2,rfl⟩:=h
 obtain ⟨C',D',k1,k2,rfl⟩:=k
 rw [scale_inj (h1.trans k1.symm),scale_inj (h2.trans k2.symm)]
theorem bel_dr (w:World) (o:Obj):Below w.drew.heap.size w.drew (w.alloc o).drew:=bel_trans (bel_alloc w.drew o) (bel_refl _)
theorem heap_a1d (w:World) (o:Obj):(w.alloc o).drew.heap[w.heap.size]?=some o:=heap_a1 w o
def tLo (a b c d:Int):Int:=eLo (eTmLo (eOf a) (eOf b) (eOf c) (eOf d))
def tHi (a b c d:Int):Int:=eHi (eTmHi (eOf a) (eOf b) (eOf c) (eOf d))
theorem mulX {a b c d x y:Int} (s:Pin2 a b x) (t:Pin2 c d y):Hid (∀ W,Hold4 W->Calls Tryz.prog 66 #[.agg #[.int .i64 a,.int .i64 b],.agg #[.int .i64 c,.int .i64 d]] W fun e w'=>e=.returned (.tuple #[.agg #[.int .i64 (tLo a b c d),.int .i64 (tHi a b c d)],.int .i64 0])∧Below W.heap.size W w')∧Okk (tLo a b c d) (tHi a b c d) (mulS x y):=by
 refine ⟨fun W h=>?_,(s.h.times (eOf_ok _) (eOf_ok _) (eOf_ok _) (eOf_ok _) t.h).okk⟩
 have:=spanMulE s.lo.1 s.hi.1 t.lo.1 t.hi.1 W h
 rw [s.v,t.v] at this
 exact this
theorem Un.neg {S h:Int} (u:Un S h):Un (-S) (-h):=by
 unfold Un at *
 have e:-h - -S=-(h-S):=by omega
 rw [e,Int.natAbs_neg,Int.natAbs_neg,Int.natAbs_neg]
 exact u
theorem pat_dif {p q:Int} (hp:rng p) (hq:rng q) (pp:pok p=true) (pq:pok q=true):patV p-patV q=(iV p-iV q)*pw (-1074):=by
 rw [patV_iV hp pp,patV_iV hq pq,Int.sub_mul]
theorem prod_scale (x y:Int):(x*y*pw (-2148))*2^4194304=(x*pw (-1074))*(y*pw (-1074)):=by
 have h:=pw_mul (a:=-1074) (b:=-1074) (by omega) (by omega)
 rw [show (-1074:Int) + -1074=-2148 by decide] at h
 generalize pw (-2148)=P at *
 generalize pw (-1074)=Q at *
 generalize (2:Int)^4194304=Z at *
 have e:(x*Q)*(y*Q)=x*y*(Q*Q):=by grind
 rw [e,h]
 grind
theorem ord_mulP {x q:Int} (hq:0<q):ord (x*q) 0=ord x 0:=by
 obtain ⟨h1,h2⟩:=sc_sgn (q:=q) (x:=x) hq
 rw [Int.mul_comm] at h1 h2
 unfold ord
 by_cases a:x<0
 ·rw [if_pos a,if_pos (h2.2 a)]
 ·have a':¬ x*q<0:=fun h=>a (h2.1 h)
  rw [if_neg a,if_neg a']
  by_cases b:0<x
  ·have b':=h1.2 b
   first | rw [if_pos b,if_pos b'] | simp [b,b']
  ·have b':¬ 0<x*q:=fun h=>b (h1.1 h)
   first | rw [if_neg b,if_neg b'] | simp [b,b']
theorem ord_iff {x y:Int} (h1:0<x ↔ 0<y) (h2:x<0 ↔ y<0):ord x 0=ord y 0:=by
 unfold ord
 by_cases a:x<0
 ·rw [if_pos a,if_pos (h2.1 a)]
 ·have a':¬ y<0:=fun h=>a (h2.2 h)
  rw [if_neg a,if_neg a']
  by_cases b:0<x
  ·have b':=h1.1 b
   first | rw [if_pos b,if_pos b'] | simp [b,b']
  ·have b':¬ 0<y:=fun h=>b (h1.2 h)
   first | rw [if_neg b,if_neg b'] | simp [b,b']
def allT3 (ax ay bx by' cx cy:Int):Bool:=pttame ax ay && pttame bx by' && pttame cx cy
theorem sgP_iV {p:Int} (hp:rng p):sgP p=ord (iV p) 0:=by
 obtain ⟨k1,k2⟩:=iV_key hp
 exact ord_iff k2.symm k1.symm
theorem tame3 {ax ay bx by' cx cy:Int} (rax:rng ax) (ray:rng ay) (rbx:rng bx) (rby:rng by') (rcx:rng cx) (rcy:rng cy) (h:allT3 ax ay bx by' cx cy=true):Mz ax∧Mz ay∧Mz bx∧Mz by'∧Mz cx∧Mz cy:=by
 unfold allT3 pttame at h
 simp only [Bool.and_eq_true] at h
 obtain ⟨⟨⟨a1,a2⟩,b1,b2⟩,c1,c2⟩:=h
 exact ⟨tame_Mz rax a1,tame_Mz ray a2,tame_Mz rbx b1,tame_Mz rby b2,tame_Mz rcx c1,tame_Mz rcy c2⟩
def hT (u1 v1 u2 v2:Int):Int:=(iV u1*iV v2-iV v1*iV u2)/2^1074
def nrP (T:Int):Int:=if T=0 then 0 else nearP (T*pw (-1074))
theorem fx_dvd {u v:Int} (h1:Fx 872 1226 u) (h2:Fx 872 1226 v):(2^1744:Int) ∣ iV u*iV v:=by
 rw [show (1744:Nat)=872+872 by decide,Int.pow_add]
 exact Int.mul_dvd_mul h1.d h2.d
theorem hT_eq {u1 v1 u2 v2:Int} (h1:Fx 872 1226 u1) (h2:Fx 872 1226 v1) (h3:Fx 872 1226 u2) (h4:Fx 872 1226 v2):2^1074*hT u1 v1 u2 v2=iV u1*iV v2-iV v1*iV u2:=by
 have d:(2^1744:Int) ∣ iV u1*iV v2-iV v1*iV u2:=Int.dvd_sub (fx_dvd h1 h4) (fx_dvd h2 h3)
 exact Int.mul_ediv_cancel' (Int.dvd_trans (p2dvd (by decide)) d)
theorem hT_dvd {u1 v1 u2 v2:Int} (h1:Fx 872 1226 u1) (h2:Fx 872 1226 v1) (h3:Fx 872 1226 u2) (h4:Fx 872 1226 v2):(2^670:Int) ∣ hT u1 v1 u2 v2:=by
 have d:(2^1744:Int) ∣ iV u1*iV v2-iV v1*iV u2:=Int.dvd_sub (fx_dvd h1 h4) (fx_dvd h2 h3)
 rw [<- hT_eq h1 h2 h3 h4,show (1744:Nat)=1074+670 by decide,Int.pow_add] at d
 exact Int.dvd_of_mul_dvd_mul_left (Int.ne_of_gt (p2 1074)) d
theorem ab_sub {x y M:Int} (hx:(x.natAbs:Int)<=M) (hy:(y.natAbs:Int)<=M):((x-y).natAbs:Int)<=2*M:=by omega
theorem hT_bd {u1 v1 u2 v2:Int} (h1:Fx 872 1226 u1) (h2:Fx 872 1226 v1) (h3:Fx 872 1226 u2) (h4:Fx 872 1226 v2):((hT u1 v1 u2 v2).natAbs:Int)<=2^1379:=by
 have b1:=h_mul h1.b h4.b
 have b2:=h_mul h2.b h3.b
 have b3:=ab_sub b1 b2
 rw [<- hT_eq h1 h2 h3 h4,<- p2s,abs_mul,show (1226+1226+1:Nat)=1074+1379 by decide,Int.pow_add] at b3
 have e:(((2:Int)^1074).natAbs:Int)=2^1074:=by have:=p2 1074; omega
 rw [e] at b3
 exact Int.le_of_mul_le_mul_left b3 (p2 1074)
theorem nrP_stp (T:Int):EStp T (nrP T):=by
 unfold nrP
 by_cases h:T=0
 ·rw [if_pos h,h]
  have:=stp_zero false
  rwa [show patS false 0=0 by decide] at this
 ·rw [if_neg h]
  exact stp_near h
theorem nrP_fx {T:Int} (d:(2^670:Int) ∣ T) (b:(T.natAbs:Int)<=2^1379):Fx 670 1383 (nrP T)∧Un T (iV (nrP T)):=by
 have s:=nrP_stp T
 have hm:(T.natAbs:Int)<=maxV:=Int.le_trans (Int.le_trans b (p2le (by decide))) maxV_ge
 have pk:=s.fin hm
 have nr:=s.nr pk
 have u:=nr_Un nr
 refine ⟨⟨s.rn,pk,nr_dvd nr d,?_⟩,u⟩
 have h2:=h_dbl u
 have h3:(2:Int)^1380=2*2^1379:=p2s 1379
 have h4:(2:Int)^1380<=2^1383:=p2le (by decide)
 generalize (2:Int)^1379=X at *
 generalize (2:Int)^1380=Y at *
 generalize (2:Int)^1383=Z at *
 omega
theorem iV_rg {p q:Int} (hp:rng p) (hq:rng q) (h:iV p=iV q):rg p=rg q:=by
 have a:=iV_abs p
 have b:=iV_abs q
 rw [h] at a
 have e:V Ieee.double (rg p).toNat=V Ieee.double (rg q).toNat:=by omega
 have p0:=(q_rg hp).2
 have q0:=(q_rg hq).2
 rcases Nat.lt_trichotomy (rg p).toNat (rg q).toNat with c | c | c
 ·have:=V_lt Ieee.double c; omega
 ·omega
 ·have:=V_lt Ieee.double c; omega
structure HdV (T h:Int):Prop where
 r:rng h
 p:pok h=true
 v:iV h=iV (nrP T)
theorem HdV.self {T:Int} (f:Fx 670 1383 (nrP T)):HdV T (nrP T):=⟨f.r,f.p,rfl⟩
theorem HdV.g {T h:Int} (f:Fx 670 1383 (nrP T)) (k:HdV T h):rg h=rg (nrP T):=iV_rg k.r f.r k.v
theorem HdV.fx {T h:Int} (f:Fx 670 1383 (nrP T)) (k:HdV T h):Fx 670 1383 h:=⟨k.r,k.p,k.v ▸ f.d,k.v ▸ f.b⟩
theorem near_zero:iV (nrP 0)=0:=by
 unfold nrP; rw [if_pos rfl]
 have:=(zero_facts false).2.2
 rwa [show patS false 0=0 by decide] at this
theorem sum_iV {p q:Int} (hp:rng p) (hq:rng q) (pp:pok p=true) (pq:pok q=true):iV (fsum p q)=iV (nrP (iV p+iV q)):=by
 rw [fsum_eqn hp hq pp pq,patV_iV hp pp,patV_iV hq pq,<- Int.add_mul]
 have hw:=pw_pos (-1074)
 by_cases c:iV p+iV q=0
 ·rw [c,if_pos (by rw [Int.zero_mul]),(zero_facts _).2.2,near_zero]
 ·rw [if_neg (k_ne hw c)]
  unfold nrP
  rw [if_neg c]
def oDet (ax ay bx by' cx cy:Int):Int:=(iV ax-iV cx)*(iV by'-iV cy)-(iV ay-iV cy)*(iV bx-iV cx)
def oL (ax ay bx by' cx cy:Int):Int:=fprod (fsum ax (neg cx)) (fsum by' (neg cy))
def oR (ax ay bx by' cx cy:Int):Int:=fprod (fsum ay (neg cy)) (fsum bx (neg cx))
def oS (ax ay bx by' cx cy:Int):Int:=fsum (rg (oL ax ay bx by' cx cy)) (rg (oR ax ay bx by' cx cy))
def oD (ax ay bx by' cx cy:Int):Int:=fsum (oL ax ay bx by' cx cy) (neg (oR ax ay bx by' cx cy))
def oHT (ax ay bx by' cx cy:Int):Int:=hT (fsum ax (neg cx)) (fsum ay (neg cy)) (fsum bx (neg cx)) (fsum by' (neg cy))
def oTl (ax ay bx by' cx cy:Int):Int:=fsum (fsum (fprod (fsum ax (neg cx)) (sL by' (neg cy))) (fprod (fsum by' (neg cy)) (sL ax (neg cx)))) (neg (fsum (fprod (fsum ay (neg cy)) (sL bx (neg cx))) (fprod (fsum bx (neg cx)) (sL ay (neg cy)))))
def oX (ax ay bx by' cx cy:Int):Bool:=decide (rg (sL ax (neg cx))=0) && decide (rg (sL ay (neg cy))=0) && decide (rg (sL bx (neg cx))=0) && decide (rg (sL by' (neg cy))=0)
def oE (S h:Int):Int:=fsum (fprod oC S) (fprod oK (rg h))
def oStT (ax ay bx by' cx cy:Int):Int :=
 if key (fprod oA (oS ax ay bx by' cx cy))<=rg (oD ax ay bx by' cx cy) then 1
 else if oX ax ay bx by' cx cy=true∨key (fprod oB (oS ax ay bx by' cx cy))<=rg (nrP (oHT ax ay bx by' cx cy)) then 2
 else if key (oE (oS ax ay bx by' cx cy) (nrP (oHT ax ay bx by' cx cy)))<=rg (fsum (nrP (oHT ax ay bx by' cx cy)) (oTl ax ay bx by' cx cy)) then 3
 else 4
theorem key_absE {m d:Int} (hm:rng m) (hd:rng d) (h:key m<=rg d):iV m<=((iV d).natAbs:Int):=by
 obtain ⟨q1,q2⟩:=q_rg hd
 have e:iV (rg d)=((iV d).natAbs:Int):=by
  rw [iV_abs,iV,decide_eq_false (by omega),rg_rg hd]
  rfl
 rw [<- e]
 exact iV_le hm q1 (by rw [q_key q2]; omega)
theorem Un.sgn {Z D:Int} (h:Un Z D):(0<Z ↔ 0<D)∧(Z<0 ↔ D<0):=by
 have a:=h.1
 have b:=h.2
 omega
theorem rg_iV0 {p:Int} (hp:rng p) (h:rg p=0):iV p=0:=by
 have a:=iV_abs p
 rw [h] at a
 have e:V Ieee.double (0:Int).toNat=0:=by decide
 rw [e] at a
 omega
structure OTm (ax ay bx by' cx cy:Int):Prop where
 u1:Fx 872 1226 (fsum ax (neg cx))
 v1:Fx 872 1226 (fsum ay (neg cy))
 u2:Fx 872 1226 (fsum bx (neg cx))
 v2:Fx 872 1226 (fsum by' (neg cy))
 l:Fx 670 1379 (oL ax ay bx by' cx cy)
 r:Fx 670 1379 (oR ax ay bx by' cx cy)
 s:Fx 670 1381 (oS ax ay bx by' cx cy)
 d:Fx 670 1381 (oD ax ay bx by' cx cy)
 h:Fx 670 1383 (nrP (oHT ax ay bx by' cx cy))
 hu:Un (iV (fsum ax (neg cx))*iV (fsum by' (neg cy))-iV (fsum ay (neg cy))*iV (fsum bx (neg cx))) (2^1074*iV (nrP (oHT ax ay bx by' cx cy)))
 t:Fx 670 1383 (oTl ax ay bx by' cx cy)
theorem oTm_of {ax ay bx by' cx cy:Int} (hax:Mz ax) (hay:Mz ay) (hbx:Mz bx) (hby:Mz by') (hcx:Mz cx) (hcy:Mz cy):OTm ax ay bx by' cx cy:=by
 obtain ⟨a1,_⟩:=hax.diff hcx
 obtain ⟨a2,_⟩:=hay.diff hcy
 obtain ⟨a3,_⟩:=hbx.diff hcx
 obtain ⟨a4,_⟩:=hby.diff hcy
 have F:=fltN_of a1 a2 a3 a4
 have hd:=hT_dvd a1 a2 a3 a4
 have hb:=hT_bd a1 a2 a3 a4
 have he:=hT_eq a1 a2 a3 a4
 obtain ⟨nf,nu⟩:=nrP_fx hd hb
 have nu2:=nu.scale (c:=2^1074) (Int.le_of_lt (p2 1074))
 rw [he] at nu2
 obtain ⟨l1,x1,k1⟩:=hax.lost hcx
 obtain ⟨l2,x2,k2⟩:=hay.lost hcy
 obtain ⟨l3,x3,k3⟩:=hbx.lost hcx
 obtain ⟨l4,x4,k4⟩:=hby.lost hcy
 exact ⟨a1,a2,a3,a4,F.l,F.r,F.s,F.d,nf,nu2,(tlT a1 a2 a3 a4 l1 l2 l3 l4 k1 k2 k3 k4 rfl).1⟩
theorem fx_AS {S:Int} (h:Fx 670 1381 S):Fx 568 1332 (fprod oA S):=(fx_oA.prod h (by decide) (by decide) (by decide)).1
theorem fx_BS {S:Int} (h:Fx 670 1381 S):Fx 566 1331 (fprod oB S):=(fx_oB.prod h (by decide) (by decide) (by decide)).1
theorem fx_CS {S:Int} (h:Fx 670 1381 S):Fx 515 1280 (fprod oC S):=(fx_oC.prod h (by decide) (by decide) (by decide)).1
theorem fx_KH {h:Int} (k:Fx 670 1383 h):Fx 566 1333 (fprod oK (rg h)):=(fx_oK.prod k.abs.1 (by decide) (by decide) (by decide)).1
theorem fx_E {S h:Int} (s:Fx 670 1381 S) (k:Fx 670 1383 h):Fx 515 1335 (oE S h):=(((fx_CS s).up (by decide)).sum ((fx_KH k).dn (by decide)) (by decide)).1
theorem oSt1 {ax ay bx by' cx cy:Int} (hax:Mz ax) (hay:Mz ay) (hbx:Mz bx) (hby:Mz by') (hcx:Mz cx) (hcy:Mz cy) (h:key (fprod oA (oS ax ay bx by' cx cy))<=rg (oD ax ay bx by' cx cy)) :
  ord (oDet ax ay bx by' cx cy) 0=sgP (oD ax ay bx by' cx cy):=by
 have O:=oTm_of hax hay hbx hby hcx hcy
 obtain ⟨r1,r2⟩:=flt_pat hax hay hbx hby hcx hcy rfl rfl rfl rfl rfl rfl rfl rfl (key_absE (fx_AS O.s).r O.d.r h)
 rw [sgP_iV O.d.r]
 exact ord_iff r1 r2
theorem det_lost {ax ay bx by' cx cy:Int} (hax:Mz ax) (hay:Mz ay) (hbx:Mz bx) (hby:Mz by') (hcx:Mz cx) (hcy:Mz cy) (hx:oX ax ay bx by' cx cy=true) :
  oDet ax ay bx by' cx cy=iV (fsum ax (neg cx))*iV (fsum by' (neg cy))-iV (fsum ay (neg cy))*iV (fsum bx (neg cx)):=by
 unfold oX at hx
 simp only [Bool.and_eq_true,decide_eq_true_eq] at hx
 obtain ⟨⟨⟨g1,g2⟩,g3⟩,g4⟩:=hx
 obtain ⟨l1,x1,_⟩:=hax.lost hcx
 obtain ⟨l2,x2,_⟩:=hay.lost hcy
 obtain ⟨l3,x3,_⟩:=hbx.lost hcx
 obtain ⟨l4,x4,_⟩:=hby.lost hcy
 rw [rg_iV0 l1.r g1,Int.add_zero] at x1
 rw [rg_iV0 l2.r g2,Int.add_zero] at x2
 rw [rg_iV0 l3.r g3,Int.add_zero] at x3
 rw [rg_iV0 l4.r g4,Int.add_zero] at x4
 unfold oDet
 rw [x1,x2,x3,x4]
theorem oSt2 {ax ay bx by' cx cy h:Int} (hax:Mz ax) (hay:Mz ay) (hbx:Mz bx) (hby:Mz by') (hcx:Mz cx) (hcy:Mz cy) (hv:HdV (oHT ax ay bx by' cx cy) h) (c:oX ax ay bx by' cx cy=true∨key (fprod oB (oS ax ay bx by' cx cy))<=rg h) :
  ord (oDet ax ay bx by' cx cy) 0=sgP h:=by
 have O:=oTm_of hax hay hbx hby hcx hcy
 have hu:=O.hu
 rw [<- hv.v] at hu
 have s:=sc_sgn (x:=iV h) (p2 1074)
 rw [sgP_iV hv.r]
 rcases c with c | c
 ·rw [det_lost hax hay hbx hby hcx hcy c]
  exact ord_iff (hu.sgn.1.trans s.1) (hu.sgn.2.trans s.2)
 ·obtain ⟨r1,r2⟩:=hds_pat hax hay hbx hby hcx hcy rfl rfl rfl rfl rfl rfl rfl hu (key_absE (fx_BS O.s).r hv.r c)
  exact ord_iff r1 r2
theorem oS_pos {ax ay bx by' cx cy:Int} (hax:Mz ax) (hay:Mz ay) (hbx:Mz bx) (hby:Mz by') (hcx:Mz cx) (hcy:Mz cy) (h:¬ key (fprod oA (oS ax ay bx by' cx cy))<=rg (oD ax ay bx by' cx cy)):0<iV (oS ax ay bx by' cx cy):=by
 have O:=oTm_of hax hay hbx hby hcx hcy
 have f:=fx_AS O.s
 have d0:=(q_rg O.d.r).2
 have k1:=(iV_key f.r).2.2 (by omega)
 obtain ⟨_,_,T,hT,hU⟩:=fx_oA.prod O.s (by decide) (by decide) (by decide)
 have t1:=hU.sgn.1.2 k1
 have q:0<iV oA*iV (oS ax ay bx by' cx cy):=by rw [<- hT]; exact Int.mul_pos (p2 1074) t1
 have a0:0<iV oA:=by rw [iV_oA]; exact Int.mul_pos (by decide) (p2 972)
 exact (sc_sgn (x:=iV (oS ax ay bx by' cx cy)) a0).1.1 q
theorem oSt3 {ax ay bx by' cx cy h:Int} (hax:Mz ax) (hay:Mz ay) (hbx:Mz bx) (hby:Mz by') (hcx:Mz cx) (hcy:Mz cy) (hv:HdV (oHT ax ay bx by' cx cy) h) (h1:¬ key (fprod oA (oS ax ay bx by' cx cy))<=rg (oD ax ay bx by' cx cy)) (c:key (oE (oS ax ay bx by' cx cy) h)<=rg (fsum h (oTl ax ay bx by' cx cy))) :
  ord (oDet ax ay bx by' cx cy) 0=sgP (fsum h (oTl ax ay bx by' cx cy)):=by
 have O:=oTm_of hax hay hbx hby hcx hcy
 have hu:=O.hu
 rw [<- hv.v] at hu
 have fh:=hv.fx O.h
 have fd:=(fh.sum O.t (by decide)).1
 obtain ⟨r1,r2⟩:=tls_pat hax hay hbx hby hcx hcy rfl rfl rfl rfl rfl rfl rfl fh hu rfl rfl (oS_pos hax hay hbx hby hcx hcy h1) (key_absE (fx_E O.s fh).r fd.r c)
 rw [sgP_iV fd.r]
 exact ord_iff r1 r2
theorem HdV.d {T h t:Int} (f:Fx 670 1383 (nrP T)) (k:HdV T h) (ft:Fx 670 1383 t):rg (fsum h t)=rg (fsum (nrP T) t):=by
 have a:=sum_iV k.r ft.r k.p ft.p
 have b:=sum_iV f.r ft.r f.p ft.p
 rw [k.v] at a
 exact iV_rg (((k.fx f).sum ft (by decide)).1.r) ((f.sum ft (by decide)).1.r) (a.trans b.symm)
theorem HdV.e {T h:Int} (S:Int) (f:Fx 670 1383 (nrP T)) (k:HdV T h):oE S h=oE S (nrP T):=by unfold oE; rw [k.g f]
theorem oMinus {p q:Int} (hp:Mz p) (hq:Mz q) (w:World) (H:Hold4 w) :
  Calls Tryz.prog 121 #[.int .i64 p,.int .i64 q] w fun r w'=>r=.returned (.agg #[.float .f64 (wd (fsum p (neg q))),.float .f64 (wd (sL p (neg q)))])∧Below w.heap.size w w':=by
 have C1:Hid (∀ W,Hold4 W->Calls Tryz.prog 156 #[.int .i64 p,.int .i64 q] W fun r w'=>r=.returned (.tuple #[.float .f64 (wd (fsum p (neg q))),.float .f64 (wd (sL p (neg q)))])∧Below W.heap.size W w'):=fun W h=>aFloats hp hq W h
 clear hp hq
 generalize wd (fsum p (neg q))=X at *
 generalize wd (sL p (neg q))=Y at *
 have hst:∀ p x m w,(store p (.float .f64 x) m).run Tryz.prog w=stored Tryz.prog w p (.float .f64 x) m:=fun p x m w=>run_store _ w p _ m rfl
 have r_k:=heap_a1 w (.cells #[.float .f64 0,.float .f64 0] 99)
 have hb0:=bel_alloc w (.cells #[.float .f64 0,.float .f64 0] 99)
 go_enter Tryz.func121,Tryz.ntmps121
 go_wp2_with fail
 generalize w.alloc (.cells #[.float .f64 0,.float .f64 0] 99)=x0 at r_k hb0 ⊢
 refine (C1.out _ (H.keeps hb0)).mono ?_
 rintro _ y1 ⟨rfl,hw1⟩
 replace r_k:=blk_on hw1 r_k
 replace hb0:=bel_trans hb0 hw1
 have k0:=blkC r_k 0 rfl
 have k1:=blkC r_k 1 rfl
 have z0:=blkF r_k 0
 have z1:=blkF r_k 1
 go_wp2
 exact bodyPost_ret (v:=.agg #[.float .f64 X,.float .f64 Y]) (by simp [results,Tryz.results121,go_sem,k0,k1]) rfl ⟨rfl,((hb0.setCell (p:=⟨w.heap.size,0,none⟩) (show w.heap.size<=w.heap.size by omega) _).setCell (p:=⟨w.heap.size,1,none⟩) (show w.heap.size<=w.heap.size by omega) _)⟩
theorem oParts {p q:Int} (hp:Mz p) (hq:Mz q) (w:World) :
  Calls Tryz.prog 125 #[.agg #[.float .f64 (wd (fsum p (neg q))),.float .f64 (wd (sL p (neg q)))]] w fun r w'=>∃ o c,r=.returned (.slice o (dfL p q).n c)∧XLs w' (.slice o (dfL p q).n c) (dfL p q)∧Below w.heap.size w w':=by
 have O:=(hp.diff hq).1
 have L:=(hp.lost hq).1
 have C1:Hid (∀ W,Calls Tryz.prog 155 #[.float .f64 (wd (fsum p (neg q))),.float .f64 (wd (sL p (neg q)))] W fun r w'=>∃ v,r=.returned v∧Out W.heap.size w' v (dfL p q).n (dfL p q).d∧Below W.heap.size W w'):=fun W=>aParts O.r O.p L.r L.p W
 clear hp hq O L
 generalize wd (fsum p (neg q))=X at *
 generalize wd (sL p (neg q))=Y at *
 generalize dfL p q=ll at *
 have b_k:=heap_a1 w (.cells #[.float .f64 X,.float .f64 Y] 99)
 have f0:=blkC b_k 0 rfl
 have f1:=blkC b_k 1 rfl
 go_enter Tryz.func125,Tryz.ntmps125
 go_wp2_with fail
 refine (C1.out _).mono ?_
 rintro _ y1 ⟨v,rfl,hO,hw1⟩
 obtain ⟨o,c,rfl,hR⟩:=hO.row
 go_wp2
 go_ret
 exact ⟨o,c,rfl,⟨o,c,rfl,hR⟩,bel_trans (bel_alloc _ _) hw1⟩
theorem nil_eq {f:Int} (hf:rng f) (pf:pok f=true):(FloatKind.f64.format.order (wd f) 0 == some .eq)=decide (rg f=0):=by
 by_cases h:rg f=0
 ·rw [(nil_order hf pf).1 h,decide_eq_true h]; rfl
 ·rw [decide_eq_false h]
  rcases (nil_order hf pf).2 h with e | e <;> (rw [e]; rfl)
theorem oExactF (P1 P2 P3 P4 E1 E2 E3 E4:Nat) (b1 b2 b3 b4:Bool) (h1:(FloatKind.f64.format.order E1 0 == some .eq)=b1) (h2:(FloatKind.f64.format.order E2 0 == some .eq)=b2) (h3:(FloatKind.f64.format.order E3 0 == some .eq)=b3) (h4:(FloatKind.f64.format.order E4 0 == some .eq)=b4) (w:World) :
  Calls Tryz.prog 61 #[.agg #[.float .f64 P1,.float .f64 E1,.float .f64 P2,.float .f64 E2,.float .f64 P3,.float .f64 E3,.float .f64 P4,.float .f64 E4]] w fun r w'=>r=.returned (.bool (b1 && b2 && b3 && b4))∧Below w.heap.size w w':=by
 have b_k:=heap_a1 w (.cells #[.float .f64 P1,.float .f64 E1,.float .f64 P2,.float .f64 E2,.float .f64 P3,.float .f64 E3,.float .f64 P4,.float .f64 E4] 101)
 have f1:=blkC b_k 1 rfl
 have f3:=blkC b_k 3 rfl
 have f5:=blkC b_k 5 rfl
 have f7:=blkC b_k 7 rfl
 cases b1 <;> cases b2 <;> cases b3 <;> cases b4
 all_goals
  go_enter Tryz.func61,Tryz.ntmps61
  go_wp2
  go_ret
  exact ⟨b_ret_bool (by simp [h1,h2,h3,h4]),bel_alloc _ _⟩
theorem oTails {u1 v1 u2 v2 e1 f1 e2 f2:Int} (h1:Fx 872 1226 u1) (h2:Fx 872 1226 v1) (h3:Fx 872 1226 u2) (h4:Fx 872 1226 v2) (g1:Fx 872 1226 e1) (g2:Fx 872 1226 f1) (g3:Fx 872 1226 e2) (g4:Fx 872 1226 f2) (w:World) :
  Calls Tryz.prog 62 #[.agg #[.float .f64 (wd u1),.float .f64 (wd e1),.float .f64 (wd v1),.float .f64 (wd f1),.float .f64 (wd u2),.float .f64 (wd e2),.float .f64 (wd v2),.float .f64 (wd f2)]] w fun r w'=>r=.returned (.float .f64 (wd (fsum (fsum (fprod u1 f2) (fprod v2 e1)) (neg (fsum (fprod v1 e2) (fprod u2 f1))))))∧Below w.heap.size w w':=by
 have q1:=(h1.prod g4 (by decide) (by decide) (by decide)).1
 have q2:=(h4.prod g1 (by decide) (by decide) (by decide)).1
 have q3:=(h2.prod g3 (by decide) (by decide) (by decide)).1
 have q4:=(h3.prod g2 (by decide) (by decide) (by decide)).1
 have s1:=(q1.sum q2 (by decide)).1
 have s2:=(q3.sum q4 (by decide)).1
 have d1:=(s1.sum s2.neg.1 (by decide)).1
 have m1:=fun W=>run_prodN (P:=Tryz.prog) 59 (fx_fw h1) (fx_fw g4) (q_fin q1.p) W
 have m2:=fun W=>run_prodN (P:=Tryz.prog) 59 (fx_fw h4) (fx_fw g1) (q_fin q2.p) W
 have m3:=fun W=>run_prodN (P:=Tryz.prog) 59 (fx_fw h2) (fx_fw g3) (q_fin q3.p) W
 have m4:=fun W=>run_prodN (P:=Tryz.prog) 59 (fx_fw h3) (fx_fw g2) (q_fin q4.p) W
 have m5:=fun W=>run_sumN (P:=Tryz.prog) 59 (fx_fw q1) (fx_fw q2) (q_fin s1.p) W
 have m6:=fun W=>run_sumN (P:=Tryz.prog) 59 (fx_fw q3) (fx_fw q4) (q_fin s2.p) W
 have m7:=fun W=>run_diffN (P:=Tryz.prog) 59 (fx_fw s1) (fx_fw s2) (q_fin d1.p) W
 clear h1 h2 h3 h4 g1 g2 g3 g4 q1 q2 q3 q4 s1 s2 d1
 generalize wd (fsum (fsum (fprod u1 f2) (fprod v2 e1)) (neg (fsum (fprod v1 e2) (fprod u2 f1))))=R at *
 generalize wd (fsum (fprod u1 f2) (fprod v2 e1))=S1 at *
 generalize wd (fsum (fprod v1 e2) (fprod u2 f1))=S2 at *
 generalize wd (fprod u1 f2)=M1 at *
 generalize wd (fprod v2 e1)=M2 at *
 generalize wd (fprod v1 e2)=M3 at *
 generalize wd (fprod u2 f1)=M4 at *
 generalize wd u1=P1 at *
 generalize wd v1=P2 at *
 generalize wd u2=P3 at *
 generalize wd v2=P4 at *
 generalize wd e1=E1 at *
 generalize wd f1=E2 at *
 generalize wd e2=E3 at *
 generalize wd f2=E4 at *
 have b_k:=heap_a1 w (.cells #[.float .f64 P1,.float .f64 E1,.float .f64 P2,.float .f64 E2,.float .f64 P3,.float .f64 E3,.float .f64 P4,.float .f64 E4] 101)
 have k0:=blkC b_k 0 rfl
 have k1:=blkC b_k 1 rfl
 have k2:=blkC b_k 2 rfl
 have k3:=blkC b_k 3 rfl
 have k4:=blkC b_k 4 rfl
 have k5:=blkC b_k 5 rfl
 have k6:=blkC b_k 6 rfl
 have k7:=blkC b_k 7 rfl
 go_enter Tryz.func62,Tryz.ntmps62
 go_wp2
 go_ret
 exact ⟨rfl,bel_alloc _ _⟩
theorem oLost {p q:Int} (hp:rng p) (hq:rng q) (pp:pok p=true) (pq:pok q=true) (w:World) (H:Hold4 w) :
  Calls Tryz.prog 122 #[.float .f64 (wd p),.float .f64 (wd q)] w fun r w'=>r=.returned (.float .f64 (wd (prL p q)))∧Below w.heap.size w w':=by
 have C1:Hid (∀ W,Calls Tryz.prog 124 #[.float .f64 (wd p)] W fun e w'=>e=.returned (.int .i64 p)∧w'=W):=fun W=>of_FW (FW.pat (q_fin pp) hp) W
 have C2:Hid (∀ W,Calls Tryz.prog 124 #[.float .f64 (wd q)] W fun e w'=>e=.returned (.int .i64 q)∧w'=W):=fun W=>of_FW (FW.pat (q_fin pq) hq) W
 have C3:Hid (∀ W,Hold4 W->Calls Tryz.prog 182 #[.int .i64 p,.int .i64 q] W fun r w'=>∃ hh xx,r=.returned (.tuple #[.int .i64 hh,.int .i64 (prL p q),.bool xx])∧Below W.heap.size W w'):=fun W h=>by
  refine (twoProd_any hp hq W h).mono ?_
  rintro _ w' ⟨rfl,hb⟩
  rw [told_finM pp,told_finM pq]
  exact ⟨_,_,rfl,hb⟩
 have C4:Hid (∀ W,Calls Tryz.prog 58 #[.int .i64 (prL p q)] W fun e w'=>e=.returned (.float .f64 (wd (prL p q)))∧w'=W):=fun W=>bitsFloat _ W
 clear hp hq pp pq
 generalize wd (prL p q)=R at *
 generalize prL p q=l at *
 generalize wd p=X at *
 generalize wd q=Y at *
 go_enter Tryz.func122,Tryz.ntmps122
 go_wp2_with fail
 refine (C1.out _).mono ?_
 rintro _ wz ⟨rfl,hwz⟩
 replace hwz:=hwz.symm
 subst hwz
 go_wp2_with fail
 refine (C2.out _).mono ?_
 rintro _ wz ⟨rfl,hwz⟩
 replace hwz:=hwz.symm
 subst hwz
 go_wp2_with fail
 refine (C3.out _ H).mono ?_
 rintro _ y1 ⟨hh,xx,rfl,hw1⟩
 go_wp2_with fail
 refine (C4.out _).mono ?_
 rintro _ wz ⟨rfl,hwz⟩
 replace hwz:=hwz.symm
 subst hwz
 go_wp2
 go_ret
 exact ⟨rfl,hw1⟩
theorem cell_set8 {W:World} {p:Addr} {v:Value} (h:W.cell? p=some v) {g:Nat} (x0 x1 x2 x3 x4 x5 x6 x7:Value) (hg:p.block≠g):((((((((W.setCell ⟨g,0,none⟩ x0).setCell ⟨g,1,none⟩ x1).setCell ⟨g,2,none⟩ x2).setCell ⟨g,3,none⟩ x3).setCell ⟨g,4,none⟩ x4).setCell ⟨g,5,none⟩ x5).setCell ⟨g,6,none⟩ x6).setCell ⟨g,7,none⟩ x7).cell? p=some v :=
 ((((((((((Wr.refl g W).setCell 0 x0).setCell 1 x1).setCell 2 x2).setCell 3 x3).setCell 4 x4).setCell 5 x5).setCell 6 x6).setCell 7 x7).cell (World.block_lt_of_cell? W _ h) hg).trans h
theorem heap_set8 {W:World} {g T:Nat} {a0 a1 a2 a3 a4 a5 a6 a7:Value} (h:W.heap[g]?=some (.cells #[a0,a1,a2,a3,a4,a5,a6,a7] T)) (x0 x1 x2 x3 x4 x5 x6 x7:Value):((((((((W.setCell ⟨g,0,none⟩ x0).setCell ⟨g,1,none⟩ x1).setCell ⟨g,2,none⟩ x2).setCell ⟨g,3,none⟩ x3).setCell ⟨g,4,none⟩ x4).setCell ⟨g,5,none⟩ x5).setCell ⟨g,6,none⟩ x6).setCell ⟨g,7,none⟩ x7).heap[g]?=some (.cells #[x0,x1,x2,x3,x4,x5,x6,x7] T):=by
 have h0:(W.setCell ⟨g,0,none⟩ x0).heap[g]?=some (.cells #[x0,a1,a2,a3,a4,a5,a6,a7] T):=heap_set h 0 x0
 have h1:((W.setCell ⟨g,0,none⟩ x0).setCell ⟨g,1,none⟩ x1).heap[g]?=some (.cells #[x0,x1,a2,a3,a4,a5,a6,a7] T):=heap_set h0 1 x1
 have h2:(((W.setCell ⟨g,0,none⟩ x0).setCell ⟨g,1,none⟩ x1).setCell ⟨g,2,none⟩ x2).heap[g]?=some (.cells #[x0,x1,x2,a3,a4,a5,a6,a7] T):=heap_set h1 2 x2
 have h3:((((W.setCell ⟨g,0,none⟩ x0).setCell ⟨g,1,none⟩ x1).setCell ⟨g,2,none⟩ x2).setCell ⟨g,3,none⟩ x3).heap[g]?=some (.cells #[x0,x1,x2,x3,a4,a5,a6,a7] T):=heap_set h2 3 x3
 have h4:(((((W.setCell ⟨g,0,none⟩ x0).setCell ⟨g,1,none⟩ x1).setCell ⟨g,2,none⟩ x2).setCell ⟨g,3,none⟩ x3).setCell ⟨g,4,none⟩ x4).heap[g]?=some (.cells #[x0,x1,x2,x3,x4,a5,a6,a7] T):=heap_set h3 4 x4
 have h5:((((((W.setCell ⟨g,0,none⟩ x0).setCell ⟨g,1,none⟩ x1).setCell ⟨g,2,none⟩ x2).setCell ⟨g,3,none⟩ x3).setCell ⟨g,4,none⟩ x4).setCell ⟨g,5,none⟩ x5).heap[g]?=some (.cells #[x0,x1,x2,x3,x4,x5,a6,a7] T):=heap_set h4 5 x5
 have h6:(((((((W.setCell ⟨g,0,none⟩ x0).setCell ⟨g,1,none⟩ x1).setCell ⟨g,2,none⟩ x2).setCell ⟨g,3,none⟩ x3).setCell ⟨g,4,none⟩ x4).setCell ⟨g,5,none⟩ x5).setCell ⟨g,6,none⟩ x6).heap[g]?=some (.cells #[x0,x1,x2,x3,x4,x5,x6,a7] T):=heap_set h5 6 x6
 have h7:((((((((W.setCell ⟨g,0,none⟩ x0).setCell ⟨g,1,none⟩ x1).setCell ⟨g,2,none⟩ x2).setCell ⟨g,3,none⟩ x3).setCell ⟨g,4,none⟩ x4).setCell ⟨g,5,none⟩ x5).setCell ⟨g,6,none⟩ x6).setCell ⟨g,7,none⟩ x7).heap[g]?=some (.cells #[x0,x1,x2,x3,x4,x5,x6,x7] T):=heap_set h6 7 x7
 exact h7
theorem oFrame {ax ay bx by' cx cy:Int} (hax:Mz ax) (hay:Mz ay) (hbx:Mz bx) (hby:Mz by') (hcx:Mz cx) (hcy:Mz cy) (w:World) (H:Hold4 w) :
  Calls Tryz.prog 59 #[.agg #[.int .i64 ax,.int .i64 ay],.agg #[.int .i64 bx,.int .i64 by'],.agg #[.int .i64 cx,.int .i64 cy]] w fun r w'=>r=.returned (.agg #[.float .f64 (wd (fsum ax (neg cx))),.float .f64 (wd (sL ax (neg cx))),.float .f64 (wd (fsum ay (neg cy))),.float .f64 (wd (sL ay (neg cy))),.float .f64 (wd (fsum bx (neg cx))),.float .f64 (wd (sL bx (neg cx))),.float .f64 (wd (fsum by' (neg cy))),.float .f64 (wd (sL by' (neg cy)))])∧Below w.heap.size w w':=by
 have C1:Hid (∀ W,Hold4 W->Calls Tryz.prog 121 #[.int .i64 ax,.int .i64 cx] W fun r w'=>r=.returned (.agg #[.float .f64 (wd (fsum ax (neg cx))),.float .f64 (wd (sL ax (neg cx)))])∧Below W.heap.size W w'):=fun W h=>oMinus hax hcx W h
 have C2:Hid (∀ W,Hold4 W->Calls Tryz.prog 121 #[.int .i64 ay,.int .i64 cy] W fun r w'=>r=.returned (.agg #[.float .f64 (wd (fsum ay (neg cy))),.float .f64 (wd (sL ay (neg cy)))])∧Below W.heap.size W w'):=fun W h=>oMinus hay hcy W h
 have C3:Hid (∀ W,Hold4 W->Calls Tryz.prog 121 #[.int .i64 bx,.int .i64 cx] W fun r w'=>r=.returned (.agg #[.float .f64 (wd (fsum bx (neg cx))),.float .f64 (wd (sL bx (neg cx)))])∧Below W.heap.size W w'):=fun W h=>oMinus hbx hcx W h
 have C4:Hid (∀ W,Hold4 W->Calls Tryz.prog 121 #[.int .i64 by',.int .i64 cy] W fun r w'=>r=.returned (.agg #[.float .f64 (wd (fsum by' (neg cy))),.float .f64 (wd (sL by' (neg cy)))])∧Below W.heap.size W w'):=fun W h=>oMinus hby hcy W h
 clear hax hay hbx hby hcx hcy
 generalize wd (fsum ax (neg cx))=P1 at *
 generalize wd (sL ax (neg cx))=E1 at *
 generalize wd (fsum ay (neg cy))=P2 at *
 generalize wd (sL ay (neg cy))=E2 at *
 generalize wd (fsum bx (neg cx))=P3 at *
 generalize wd (sL bx (neg cx))=E3 at *
 generalize wd (fsum by' (neg cy))=P4 at *
 generalize wd (sL by' (neg cy))=E4 at *
 have hst:∀ p x m w,(store p (.float .f64 x) m).run Tryz.prog w=stored Tryz.prog w p (.float .f64 x) m:=fun p x m w=>run_store _ w p _ m rfl
 obtain ⟨hb0,a_k,b_k,c_k,r_k,hsz0⟩:=blks4 w (.cells #[.int .i64 ax,.int .i64 ay] 33) (.cells #[.int .i64 bx,.int .i64 by'] 33) (.cells #[.int .i64 cx,.int .i64 cy] 33) (.cells #[.float .f64 0,.float .f64 0,.float .f64 0,.float .f64 0,.float .f64 0,.float .f64 0,.float .f64 0,.float .f64 0] 101)
 clear hsz0
 go_enter Tryz.func59,Tryz.ntmps59
 go_wp2_with fail
 generalize ((((w.alloc (.cells #[.int .i64 ax,.int .i64 ay] 33)).alloc (.cells #[.int .i64 bx,.int .i64 by'] 33)).alloc (.cells #[.int .i64 cx,.int .i64 cy] 33)).alloc (.cells #[.float .f64 0,.float .f64 0,.float .f64 0,.float .f64 0,.float .f64 0,.float .f64 0,.float .f64 0,.float .f64 0] 101))=x0 at hb0 a_k b_k c_k r_k ⊢
 replace H:=H.keeps hb0
 have KK:∀ W,Below x0.heap.size x0 W->W.cell? ⟨w.heap.size,0,none⟩=some (.int .i64 ax)∧W.cell? ⟨w.heap.size,1,none⟩=some (.int .i64 ay)∧W.cell? ⟨w.heap.size+1,0,none⟩=some (.int .i64 bx)∧W.cell? ⟨w.heap.size+1,1,none⟩=some (.int .i64 by')∧W.cell? ⟨w.heap.size+2,0,none⟩=some (.int .i64 cx)∧W.cell? ⟨w.heap.size+2,1,none⟩=some (.int .i64 cy):=fun W hb=>⟨q_cell (blkC a_k 0 rfl) hb,q_cell (blkC a_k 1 rfl) hb,q_cell (blkC b_k 0 rfl) hb,q_cell (blkC b_k 1 rfl) hb,q_cell (blkC c_k 0 rfl) hb,q_cell (blkC c_k 1 rfl) hb⟩
 have hC0:=(bel_refl x0).drew
 have H0:=H.keeps hC0
 go_region_held3 (fun W=>W.cell? ⟨w.heap.size,0,none⟩=some (.int .i64 ax)∧W.cell? ⟨w.heap.size,1,none⟩=some (.int .i64 ay)∧W.cell? ⟨w.heap.size+1,0,none⟩=some (.int .i64 bx)∧W.cell? ⟨w.heap.size+1,1,none⟩=some (.int .i64 by')∧W.cell? ⟨w.heap.size+2,0,none⟩=some (.int .i64 cx)∧W.cell? ⟨w.heap.size+2,1,none⟩=some (.int .i64 cy))
  (first | (with_reducible first | assumption | exact KK _ hC0 | exact KK _ hC1 | exact KK _ hC2 | exact KK _ hC3 | exact KK _ hC4) | exact ⟨cell_set8 (KK _ hC4).1 _ _ _ _ _ _ _ _ (by show w.heap.size≠w.heap.size+1+1+1; omega),cell_set8 (KK _ hC4).2.1 _ _ _ _ _ _ _ _ (by show w.heap.size≠w.heap.size+1+1+1; omega),cell_set8 (KK _ hC4).2.2.1 _ _ _ _ _ _ _ _ (by show w.heap.size+1≠w.heap.size+1+1+1; omega),cell_set8 (KK _ hC4).2.2.2.1 _ _ _ _ _ _ _ _ (by show w.heap.size+1≠w.heap.size+1+1+1; omega),cell_set8 (KK _ hC4).2.2.2.2.1 _ _ _ _ _ _ _ _ (by show w.heap.size+2≠w.heap.size+1+1+1; omega),cell_set8 (KK _ hC4).2.2.2.2.2 _ _ _ _ _ _ _ _ (by show w.heap.size+2≠w.heap.size+1+1+1; omega)⟩ | fail)
  (first | (go_at_call 121; have _t:=hq3; refine (C4.out _ H3).mono ?_; rintro _ y4 ⟨rfl,hq4⟩; have hC4:=bel_trans hC3 hq4; have H4:=H3.keeps hq4; have r4:=blk_on hC4 r_k; have k0:=blkC r4 0 rfl; have z0:=blkF r4 0; have k1:=blkC r4 1 rfl; have z1:=blkF r4 1; have k2:=blkC r4 2 rfl; have z2:=blkF r4 2; have k3:=blkC r4 3 rfl; have z3:=blkF r4 3; have k4:=blkC r4 4 rfl; have z4:=blkF r4 4; have k5:=blkC r4 5 rfl; have z5:=blkF r4 5; have k6:=blkC r4 6 rfl; have z6:=blkF r4 6; have k7:=blkC r4 7 rfl; have z7:=blkF r4 7) | (go_at_call 121; have _t:=hq2; refine (C3.out _ H2).mono ?_; rintro _ y3 ⟨rfl,hq3⟩; have hC3:=bel_trans hC2 hq3; have H3:=H2.keeps hq3) | (go_at_call 121; have _t:=hq1; refine (C2.out _ H1).mono ?_; rintro _ y2 ⟨rfl,hq2⟩; have hC2:=bel_trans hC1 hq2; have H2:=H1.keeps hq2) | (go_at_call 121; refine (C1.out _ H0).mono ?_; rintro _ y1 ⟨rfl,hq1⟩; have hC1:=bel_trans hC0 hq1; have H1:=H0.keeps hq1))
 all_goals go_wp2
 have q8:=heap_set8 r4 (.float .f64 P1) (.float .f64 E1) (.float .f64 P2) (.float .f64 E2) (.float .f64 P3) (.float .f64 E3) (.float .f64 P4) (.float .f64 E4)
 have e0:=blkC q8 0 rfl
 have e1:=blkC q8 1 rfl
 have e2:=blkC q8 2 rfl
 have e3:=blkC q8 3 rfl
 have e4:=blkC q8 4 rfl
 have e5:=blkC q8 5 rfl
 have e6:=blkC q8 6 rfl
 have e7:=blkC q8 7 rfl
 exact bodyPost_ret (v:=.agg #[.float .f64 P1,.float .f64 E1,.float .f64 P2,.float .f64 E2,.float .f64 P3,.float .f64 E3,.float .f64 P4,.float .f64 E4]) (by simp [results,Tryz.results59,go_sem,e0,e1,e2,e3,e4,e5,e6,e7]) rfl ⟨rfl,(((((((((bel_trans hb0 hC4).setCell (p:=⟨w.heap.size+3,0,none⟩) (show w.heap.size<=w.heap.size+3 by omega) _).setCell (p:=⟨w.heap.size+3,1,none⟩) (show w.heap.size<=w.heap.size+3 by omega) _).setCell (p:=⟨w.heap.size+3,2,none⟩) (show w.heap.size<=w.heap.size+3 by omega) _).setCell (p:=⟨w.heap.size+3,3,none⟩) (show w.heap.size<=w.heap.size+3 by omega) _).setCell (p:=⟨w.heap.size+3,4,none⟩) (show w.heap.size<=w.heap.size+3 by omega) _).setCell (p:=⟨w.heap.size+3,5,none⟩) (show w.heap.size<=w.heap.size+3 by omega) _).setCell (p:=⟨w.heap.size+3,6,none⟩) (show w.heap.size<=w.heap.size+3 by omega) _).setCell (p:=⟨w.heap.size+3,7,none⟩) (show w.heap.size<=w.heap.size+3 by omega) _)⟩
def sumF (V:Nat->Int):Nat->Int | 0=>0 | m+1=>sumF V m+V m
theorem bd_zero (K:Nat):Bd K 0:=⟨0,by rw [Int.zero_mul],by have:=two_pos (2*K); omega,by have:=two_pos (2*K); omega⟩
theorem dotV_F {a b:Nat->NumR} {V W:Nat->Int}:∀ m,(∀ i,i<m->(a i).V=V i∧Half (a i))->(∀ i,i<m->(b i).V=W i∧Half (b i))->dotV a b m*2^4194304=sumF (fun i=>V i*W i) m
 | 0,_,_=>by show 0*_=(0:Int); rw [Int.zero_mul]
 | m+1,h,k=>by
  have h1:=h m (by omega)
  have k1:=k m (by omega)
  unfold Half at h1 k1
  show (dotV a b m+mulV (a m) (b m))*2^4194304=sumF (fun i=>V i*W i) m+V m*W m
  rw [Int.add_mul,dotV_F m (fun i hi=>h i (by omega)) (fun i hi=>k i (by omega)),mulV_eq (by omega) (by omega),h1.1,k1.1]
theorem num_half {x:NumR} {V:Int} (ok:okR x=true) (hV:x.V=V) (hb:Bd 4000 V):Half x:=by
 have hy:=(okR_dy ok).1
 unfold Half
 rcases hy.form with ⟨_,_,h0⟩ | ⟨h0,_⟩
 ·omega
 ·rw [hV] at hy
  have:=bd_form hb hy (by omega) h0
  omega
theorem cell_set3 {W:World} {p:Addr} {v:Value} (h:W.cell? p=some v) {g o0 o1 o2:Nat} (x y z:Value) (hg:p.block≠g):(((W.setCell ⟨g,o0,none⟩ x).setCell ⟨g,o1,none⟩ y).setCell ⟨g,o2,none⟩ z).cell? p=some v :=
 ((wr3 W g o0 o1 o2 x y z).cell (World.block_lt_of_cell? W _ h) hg).trans h
theorem numbersF {FT:Nat} (ao:Option Addr) (n ca:Nat) (d:Nat->Int) (w:World) (hR:Row w ao n ca d) (hn:n<=100000) (ok:∀ i,i<n->pok (d i)=true) (H:Hold4 w) :
  Calls Tryz.prog 283 #[.agg #[.func (.func 58) #[] #[],.func (.func 124) #[] #[],.func (.func 150) #[] #[],.func (.func FT) #[] #[]],.slice ao n ca] w fun x w'=>∃ g q,x=.returned (.slice (some ⟨g,0,none⟩) n n)∧Nums w' (some ⟨g,0,none⟩) n n q∧Below w.heap.size w w'∧∀ i,i<n->okR (q i)=true∧(q i).V=patV (d i)∧Half (q i):=by
 have hst:∀ p F c m w,(store p (.func (.func F) #[] c) m).run Tryz.prog w=stored Tryz.prog w p (.func (.func F) #[] c) m:=fun p F c m w=>run_store _ w p _ m rfl
 have hE:∀ (cap:Array Value) (w:World),(callFunc 150 cap).run Tryz.prog w=.ok (.enter 150 cap) w:=by intro cap w; simp [go_sem]
 have hla:=hR.le
 have hma:=hR.max
 have hmake:=make_nums n hn
 have hbA:=bel_alloc w (.cells #[.func (.func 58) #[] #[],.func (.func 124) #[] #[],.func (.func 150) #[] #[],.func (.func FT) #[] #[]] 204)
 have gA:=heap_a1 w (.cells #[.func (.func 58) #[] #[],.func (.func 124) #[] #[],.func (.func 150) #[] #[],.func (.func FT) #[] #[]] 204)
 have fA:=blkC gA 2 rfl
 go_enter Tryz.func283,Tryz.ntmps283
 go_wp2_with fail
 clear fA
 have HSA:Hid ((w.alloc (.cells #[.func (.func 58) #[] #[],.func (.func 124) #[] #[],.func (.func 150) #[] #[],.func (.func FT) #[] #[]] 204)).heap.size=w.heap.size+1):=size_alloc _ _
 generalize w.alloc (.cells #[.func (.func 58) #[] #[],.func (.func 124) #[] #[],.func (.func 150) #[] #[],.func (.func FT) #[] #[]] 204)=wa at hbA gA HSA ⊢
 have hb0:=bel_alloc wa (.cells (madeCells #[.bool false,.slice none 0 0,.int .i64 0] (n*3)) 40)
 have g0:=heap_a1 wa (.cells (madeCells #[.bool false,.slice none 0 0,.int .i64 0] (n*3)) 40)
 have HB0:Hid (BlkN (wa.alloc (.cells (madeCells #[.bool false,.slice none 0 0,.int .i64 0] (n*3)) 40)) wa.heap.size n 0 (fun _=>default)):=⟨_,g0,by rw [size_madeCells],fun i hi=>by omega⟩
 clear g0 hmake
 generalize wa.alloc (.cells (madeCells #[.bool false,.slice none 0 0,.int .i64 0] (n*3)) 40)=wx at hb0 HB0 ⊢
 rw [HSA.out] at HB0
 go_loopw [12] (fun iv wr=>∃ (k:Nat) (q:Nat->NumR),k<=n∧iv=.int .i64 k∧Hid (BlkN wr (w.heap.size+1) n k q)∧Hid (∀ i,i<k->okR (q i)=true∧(q i).V=patV (d i)∧Half (q i))∧Hid (∀ i b' off,i<k->(q i).ao=some ⟨b',off,none⟩->0<(q i).n->(w.heap.size+1)<b')∧Below wa.heap.size wa wr) (fun iv _=>n-(intOf iv).toNat)
 case atStart=>exact ⟨0,fun _=>default,Nat.zero_le _,(by first | rfl | simp),HB0,fun i hi=>by omega,fun i b' off hi=>by omega,hb0⟩
 case round=>
  obtain ⟨k,q,hk,rfl,HQ,HF,HG,hbw⟩:=hrel
  clear HB0 hb0
  by_cases hlt:k<n
  ·obtain ⟨ba,oa,rfl,hba,hca⟩:=hR.spot (by omega)
   have c0:=q_cell (hca k hlt) (bel_trans hbA hbw)
   have c1:=q_cell (blkC gA 2 rfl) hbw
   have HW:=H.keeps (bel_trans hbA hbw)
   have CP:Hid (∀ W,Below wr.heap.size wr W->Calls Tryz.prog 150 #[.int .i64 (d k)] W fun r w'=>∃ v,r=.returned (.tuple #[v,.int .i64 0])∧DAns W w' (patV (d k)) v):=fun W h=>of_ok (ok k hlt) (HW.keeps h)
   obtain ⟨cur,hcur,hsz,hcells⟩:=HQ.out
   have e0:k*3<cur.size:=by omega
   have e1:k*3+1<cur.size:=by omega
   have e2:k*3+2<cur.size:=by omega
   obtain ⟨v0,hv0⟩:∃ v,cur[k*3]?=some v:=⟨_,Array.getElem?_eq_getElem e0⟩
   obtain ⟨v1,hv1⟩:∃ v,cur[k*3+1]?=some v:=⟨_,Array.getElem?_eq_getElem e1⟩
   obtain ⟨v2,hv2⟩:∃ v,cur[k*3+2]?=some v:=⟨_,Array.getElem?_eq_getElem e2⟩
   have HV:Hid (cur[k*3]?=some v0∧cur[k*3+1]?=some v1∧cur[k*3+2]?=some v2):=⟨hv0,hv1,hv2⟩
   have HCUR:Hid (wr.heap[(w.heap.size+1)]?=some (.cells cur 40 (0,0))):=hcur
   have hgs:(w.heap.size+1)<wr.heap.size:=(Array.getElem?_eq_some_iff.1 hcur).1
   have HBA:Hid (ba<w.heap.size):=hba
   clear hcells hv0 hv1 hv2 hcur hsz e0 e1 e2 hca hba
   have i0:(0:Int)<=(k:Int):=by omega
   have i1:(k:Int)<(n:Int):=by omega
   have hbp:Hid (Bd 4000 (patV (d k))):=patV_bd (ok k hlt)
   generalize hdk:d k=dk at c0 CP hbp
   generalize hpv:patV dk=pv at CP hbp
   have HPV:Hid (patV (d k)=pv):=by rw [hdk]; exact hpv
   clear hdk hpv
   have kc0:wr.drew.cell? ⟨ba,oa+k,none⟩=some (.int .i64 dk)∧wr.drew.cell? ⟨w.heap.size,2,none⟩=some (.func (.func 150) #[] #[]):=⟨c0,c1⟩
   have hb1:=bel_refl wr
   go_wp2_with fail
   go_region_held3 (fun W=>W.cell? ⟨ba,oa+k,none⟩=some (.int .i64 dk)∧W.cell? ⟨w.heap.size,2,none⟩=some (.func (.func 150) #[] #[]))
    (first | assumption | exact ⟨cell_set3 kc1.1 _ _ _ (show ba≠(w.heap.size+1) by have:=HBA.out; omega),cell_set3 kc1.2 _ _ _ (show w.heap.size≠(w.heap.size+1) by omega)⟩ | fail)
    ((go_at_call 150; refine (CP.out _ hb1.drew).mono ?_; rintro y w3 ⟨s,rfl,hA⟩; have hbv1:=hA.below; have kc1:=And.intro (q_cell kc0.1 hbv1) (q_cell kc0.2 hbv1); obtain ⟨sg0,so,sn,sc,se,rfl⟩:=dans_shape hA; have q0:=(hbv1.block (w.heap.size+1) hgs).trans HCUR.out; have x0:=blkC q0 (k*3) HV.out.1; have x1:=blkC q0 (k*3+1) HV.out.2.1; have x2:=blkC q0 (k*3+2) HV.out.2.2; have z0:=blkF q0 (k*3); have z1:=blkF q0 (k*3+1); have z2:=blkF q0 (k*3+2)))
   all_goals go_wp2
   all_goals
    go_roundw
    case rel=>
     have hfr:∀ b' off,so=some ⟨b',off,none⟩->0<sn->w.heap.size+1<b':=fun b' off he _=>by
      obtain ⟨ng,s,m,e,heq,_,hAn⟩:=hA
      simp only [Value.agg.injEq,Array.mk.injEq,List.cons.injEq,Value.bool.injEq,Value.int.injEq,true_and,and_true] at heq
      obtain ⟨_,rfl,_⟩:=heq
      obtain ⟨_,_,_,_,hgd⟩:=hAn.open
      have h9:=hgd b' off he
      have h8:w.heap.size+1<wr.drew.heap.size:=hgs
      omega
     obtain ⟨x,hxv,hxr,hxo,hxV⟩:=hA.num.open (hbp.out.ok (by omega))
     have hxe:x.ng=sg0∧x.ao=so∧x.n=sn∧x.cap=sc∧x.e=se:=by
      unfold NumR.v at hxv
      simp only [Value.agg.injEq,Array.mk.injEq,List.cons.injEq,Value.bool.injEq,Value.int.injEq,Value.slice.injEq,true_and,and_true] at hxv
      obtain ⟨e1,⟨e2,e3,e4⟩,e5⟩:=hxv
      exact ⟨e1.symm,e2.symm,e3.symm,e4.symm,e5.symm⟩
     obtain ⟨rfl,rfl,rfl,rfl,rfl⟩:=hxe
     refine ⟨k+1,updN q k x,by omega,by go_num,BlkN.step (x:=x) HQ.out (bel_trans hb1.drew hbv1) hxr hlt HG.out hfr,fun i hi=>?_,fun i b' off hi he hn'=>?_,bel_set3' (bel_trans hbw (bel_trans hb1.drew hbv1)) (by have:=HSA.out; omega) _ _ _⟩
     ·by_cases e:i=k
      ·subst e
       rw [updN_same]
       exact ⟨hxo,hxV.trans HPV.out.symm,num_half hxo hxV hbp.out⟩
      ·rw [updN_other _ _ e]
       exact HF.out i (by omega)
     ·by_cases e:i=k
      ·subst e
       rw [updN_same] at he hn'
       exact hfr b' off he hn'
      ·rw [updN_other _ _ e] at he hn'
       exact HG.out i b' off (by omega) he hn'
    case measure=>simp [intOf]; omega
  ·obtain rfl:k=n:=by omega
   go_wp2
   go_ret
   exact ⟨_,q,rfl,HQ.out.nums hn,bel_trans hbA hbw,HF.out⟩
theorem refusal2 {ao bo:Option Addr} {n ca cb g:Nat} (w:World) (hg:w.heap[g]?=some (.cells #[.slice ao n ca,.slice bo n cb] 38 (0,0))) (hn:n<=4096) (H:Hold4 w) :
  Calls Tryz.prog 241 #[.int .i64 0,.slice (some ⟨g,0,none⟩) 2 2] w fun r w'=>r=.returned (.int .i64 0)∧Below w.heap.size w w':=by
 have CT:Hid (∀ W,Hold4 W->Calls Tryz.prog 198 #[.agg #[.bool false,.slice none 0 0,.int .i64 0],.int .i64 0] W fun r w'=>r=.returned (.tuple #[.int .i64 0,.bool false,.int .i64 0])∧Below W.heap.size W w'):=fun W h=>by
  have ok0:okR ⟨false,none,0,0,fun _=>0,0⟩=true:=by decide
  have:=to_ok 0 ⟨by omega,by omega⟩ ⟨false,none,0,0,fun _=>0,0⟩ W ⟨Nat.le_refl _,by decide,fun _=>rfl,fun q=>by cases q⟩ ok0 h.env h.tab
  have e:=to_zero ok0 rfl 0
  unfold toR at e
  rw [e] at this
  exact this
 have h1:¬ (4096:Int)<(n:Int):=by omega
 go_enter Tryz.func241,Tryz.ntmps241
 go_wp2_with fail
 refine (CT.out _ H).mono ?_
 rintro _ y1 ⟨rfl,hw1⟩
 replace hg:=blk_on hw1 hg
 go_wp2_with fail
 go_loopw [22] (fun iv wr=>∃ k:Nat,k<=2∧iv=.int .i64 k∧Below y1.heap.size y1 wr) (fun iv _=>2-(intOf iv).toNat)
 case atStart=>exact ⟨0,by omega,rfl,bel_refl _⟩
 case round=>
  obtain ⟨k,hk,rfl,hbw⟩:=hrel
  have hg':=blk_on hbw hg
  have c0:=blkC hg' 0 rfl
  have c1:=blkC hg' 1 rfl
  rcases (show k=0∨k=1∨k=2 by omega) with rfl | rfl | rfl
  ·go_wp2
   go_roundw
   case rel=>exact ⟨0+1,by omega,by go_num,hbw⟩
   case measure=>simp [intOf]
  ·go_wp2
   go_roundw
   case rel=>exact ⟨1+1,by omega,by go_num,hbw⟩
   case measure=>simp [intOf]
  ·go_wp2
   go_ret
   exact ⟨rfl,bel_trans hw1 hbw⟩
theorem self_nil {x:Int} (rx:rng x) (px:pok x=true):cls (fsum x (neg x))≠4∧FloatKind.f64.format.order (wd (fsum x (neg x))) 0=some .eq:=by
 obtain ⟨n1,n2,n3⟩:=neg_facts rx px
 have s:=stp_sum rx n1 px n2
 rw [n3,Int.add_right_neg] at s
 have pk:=s.fin (by have:=maxV_ge; have:=p2 2097; rw [Int.natAbs_zero]; omega)
 have nr:=s.nr pk
 have z:iV (fsum x (neg x))=0:=nr_self ⟨0,⟨0,by rw [Int.mul_zero]⟩,by omega⟩ nr
 have r0:rg (fsum x (neg x))=0:=by
  have k:=iV_key s.rn
  by_cases c:rg (fsum x (neg x))=0
  ·exact c
  ·exfalso
   have a:=iV_abs (fsum x (neg x))
   rw [z] at a
   have q:=(q_rg s.rn).2
   have:=V_lt Ieee.double (show 0<(rg (fsum x (neg x))).toNat by omega)
   omega
 exact ⟨q_fin pk,(nil_order s.rn pk).1 r0⟩
theorem strays2 {FT:Nat} {ao bo:Option Addr} {n ca cb g:Nat} {a b:Nat->Int} (w:World) (hg:w.heap[g]?=some (.cells #[.slice ao n ca,.slice bo n cb] 38 (0,0))) (ha:Row w ao n ca a) (hb:Row w bo n cb b) (fa:∀ i,i<n->rng (a i)∧pok (a i)=true) (fb:∀ i,i<n->rng (b i)∧pok (b i)=true) :
  Calls Tryz.prog 242 #[.agg #[.func (.func 58) #[] #[],.func (.func 124) #[] #[],.func (.func 150) #[] #[],.func (.func FT) #[] #[]],.slice (some ⟨g,0,none⟩) 2 2] w fun r w'=>r=.returned (.float .f64 0)∧Below w.heap.size w w':=by
 have hst:∀ p F c m w,(store p (.func (.func F) #[] c) m).run Tryz.prog w=stored Tryz.prog w p (.func (.func F) #[] c) m:=fun p F c m w=>run_store _ w p _ m rfl
 have hE:∀ (cap:Array Value) (w:World),(callFunc 58 cap).run Tryz.prog w=.ok (.enter 58 cap) w:=by intro cap w; simp [go_sem]
 have hcv:∀ w,(convert 3 59 (.int .i64 1)).run Tryz.prog w=.ok (.float .f64 4607182418800017408) w:=fun _=>by kernel_rfl
 have hla:=ha.le
 have hma:=ha.max
 have hlb:=hb.le
 have hmb:=hb.max
 have hbA:=bel_alloc w (.cells #[.func (.func 58) #[] #[],.func (.func 124) #[] #[],.func (.func 150) #[] #[],.func (.func FT) #[] #[]] 204)
 have gA:=heap_a1 w (.cells #[.func (.func 58) #[] #[],.func (.func 124) #[] #[],.func (.func 150) #[] #[],.func (.func FT) #[] #[]] 204)
 have fA:=blkC (heap_past (.cells #[.func (.func 58) #[] #[],.func (.func 124) #[] #[],.func (.func 150) #[] #[],.func (.func FT) #[] #[]] 204) hg) 0 rfl
 go_enter Tryz.func242,Tryz.ntmps242
 go_wp2_with fail
 clear fA
 generalize w.alloc (.cells #[.func (.func 58) #[] #[],.func (.func 124) #[] #[],.func (.func 150) #[] #[],.func (.func FT) #[] #[]] 204)=wa at hbA gA ⊢
 go_loopw [5,16] (fun sv iv wr=>∃ k:Nat,k<=n∧iv=.int .i64 k∧sv=.float .f64 0∧Below wa.heap.size wa wr) (fun _ iv _=>n-(intOf iv).toNat)
 case atStart=>exact ⟨0,Nat.zero_le _,rfl,rfl,bel_refl _⟩
 case round=>
  obtain ⟨k,hk,rfl,rfl,hbw⟩:=hrel
  by_cases hlt:k<n
  ·have i0:(0:Int)<=(k:Int):=by omega
   have i1:(k:Int)<(n:Int):=by omega
   obtain ⟨ba,oa,rfl,hba,hca⟩:=ha.spot (by omega)
   obtain ⟨bb,ob,rfl,hbb,hcb⟩:=hb.spot (by omega)
   obtain ⟨ra,pa⟩:=fa k hlt
   obtain ⟨rb,pb⟩:=fb k hlt
   have hbq:=bel_trans hbA hbw
   have CA:=q_cell (hca k hlt) hbq
   have CB:=q_cell (hcb k hlt) hbq
   have CF:=q_cell (blkC gA 0 rfl) hbw
   have g':=blk_on hbq hg
   go_wp2_with fail
   go_loopw [7,8,22] (fun tv fv jv wr2=>∃ (j:Nat) (p:Int) (x:Nat),j<=2∧jv=.int .i64 j∧fv=.bool true∧tv=.float .f64 x∧Hid (FW p x)∧Below wr.heap.size wr wr2) (fun _ _ jv _=>2-(intOf jv).toNat)
   case atStart=>exact ⟨0,4607182418800017408,4607182418800017408,by omega,rfl,rfl,rfl,(FW.pat (p:=4607182418800017408) (by decide) (by unfold rng; decide)),bel_refl _⟩
   case round=>
    obtain ⟨j,p,x,hj,rfl,rfl,rfl,HX,hbw2⟩:=hrel
    have A0:=q_cell CA hbw2
    have B0:=q_cell CB hbw2
    have F0:=q_cell CF hbw2
    have g2:=blk_on hbw2 g'
    have c0:=blkC g2 0 rfl
    have c1:=blkC g2 1 rfl
    clear g2
    rcases (show j=0∨j=1∨j=2 by omega) with rfl | rfl | rfl
    ·have C1:Hid (∀ W,Calls Tryz.prog 58 #[.int .i64 (a k)] W fun e w'=>e=.returned (.float .f64 (wd (a k)))∧w'=W):=fun W=>bitsFloat _ W
     have hz:=self_nil ra pa
     have hd:=fun W=>run_diffN (P:=Tryz.prog) 59 (FW.pat (q_fin pa) ra) (FW.pat (q_fin pa) ra) hz.1 W
     have ho:=hz.2
     have hfx:=FW.pat (q_fin pa) ra
     obtain ⟨fz,fw,hf⟩:∃ (f:World->Nat) (h:World->World),∀ W,(binOp .mul 59 (.float .f64 x) (.float .f64 (wd (a k)))).run Tryz.prog W=.ok (.float .f64 (f W)) (h W)∧FW (fprod p (a k)) (f W)∧(h W=W∨h W=W.drew):=by
      have:=fun W=>run_fprod (P:=Tryz.prog) 59 HX.out hfx W
      obtain ⟨f,h1⟩:=Classical.skolem.1 this
      obtain ⟨h,h2⟩:=Classical.skolem.1 h1
      exact ⟨f,h,h2⟩
     have hm:=fun W=>(hf W).1
     have HM:Hid (∀ W,FW (fprod p (a k)) (fz W)∧(fw W=W∨fw W=W.drew)):=fun W=>(hf W).2
     clear hf hfx hz
     generalize wd (fsum (a k) (neg (a k)))=D at *
     generalize wd (a k)=X at *
     generalize a k=Y at *
     clear B0
     go_wp2_with fail
     go_quiet ((go_at_call 58; with_reducible exact Calls.quiet_of_same (C1.out _)))
     go_wp2
     go_roundw
     case rel=>
      refine ⟨0+1,_,_,by omega,by go_num,rfl,rfl,(HM.out _).1,?_⟩
      rcases (HM.out (wr.drewN nq)).2 with e | e <;> rw [e]
      ·exact bDrewN hbw2 nq
      ·exact (bDrewN hbw2 nq).drew
     case measure=>simp [intOf]
    ·have C1:Hid (∀ W,Calls Tryz.prog 58 #[.int .i64 (b k)] W fun e w'=>e=.returned (.float .f64 (wd (b k)))∧w'=W):=fun W=>bitsFloat _ W
     have hz:=self_nil rb pb
     have hd:=fun W=>run_diffN (P:=Tryz.prog) 59 (FW.pat (q_fin pb) rb) (FW.pat (q_fin pb) rb) hz.1 W
     have ho:=hz.2
     have hfx:=FW.pat (q_fin pb) rb
     obtain ⟨fz,fw,hf⟩:∃ (f:World->Nat) (h:World->World),∀ W,(binOp .mul 59 (.float .f64 x) (.float .f64 (wd (b k)))).run Tryz.prog W=.ok (.float .f64 (f W)) (h W)∧FW (fprod p (b k)) (f W)∧(h W=W∨h W=W.drew):=by
      have:=fun W=>run_fprod (P:=Tryz.prog) 59 HX.out hfx W
      obtain ⟨f,h1⟩:=Classical.skolem.1 this
      obtain ⟨h,h2⟩:=Classical.skolem.1 h1
      exact ⟨f,h,h2⟩
     have hm:=fun W=>(hf W).1
     have HM:Hid (∀ W,FW (fprod p (b k)) (fz W)∧(fw W=W∨fw W=W.drew)):=fun W=>(hf W).2
     clear hf hfx hz
     generalize wd (fsum (b k) (neg (b k)))=D at *
     generalize wd (b k)=X at *
     generalize b k=Y at *
     clear A0
     go_wp2_with fail
     go_quiet ((go_at_call 58; with_reducible exact Calls.quiet_of_same (C1.out _)))
     go_wp2
     go_roundw
     case rel=>
      refine ⟨1+1,_,_,by omega,by go_num,rfl,rfl,(HM.out _).1,?_⟩
      rcases (HM.out (wr.drewN nq)).2 with e | e <;> rw [e]
      ·exact bDrewN hbw2 nq
      ·exact (bDrewN hbw2 nq).drew
     case measure=>simp [intOf]
    ·clear A0 B0 F0 c0 c1
     go_wp2
     go_roundw
     case rel=>exact ⟨k+1,by omega,by go_num,rfl,bel_trans hbw hbw2⟩
     case measure=>simp [intOf]; omega
  ·obtain rfl:k=n:=by omega
   go_wp2
   go_ret
   exact ⟨rfl,bel_trans hbA hbw⟩
end Go.Proofs.YtjjihmnbdeeedaaGreatDoor
