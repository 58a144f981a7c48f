/- Parts of the proof. -/
import Derived.Test.YtcjfonaolcokbaaGreatDoorPart12
set_option maxRecDepth 100000
set_option maxHeartbeats 8000000
set_option linter.unusedVariables false
set_option linter.unusedSimpArgs false
namespace Go.Proofs.YtcjfonaolcokbaaGreatDoor
open Go Go.RowKit Go.Proofs.YtcjfonaolcokbaaGreatDoor.M
theorem Fc {a b:Int} (ha:nn a) (hb:nn b) (w:World) :
  Calls Tryz.prog 80 #[eJ a b] w fun e w'=>e=.returned (eJ (neg b) (neg a))∧Below w.heap.size w w':=by
 unfold eJ
 have RM:=fun W=>mx (P:=Tryz.prog) hb W
 have RX:=fun W=>mx (P:=Tryz.prog) ha W
 generalize wd (neg b)=X at *
 generalize wd (neg a)=Y at *
 generalize wd a=A at *
 generalize wd b=B at *
 have hb2:=aP w (.cells #[.float .f64 A,.float .f64 B] 87) (.cells #[.float .f64 0,.float .f64 0] 87)
 have q0:=dJ w (.cells #[.float .f64 A,.float .f64 B] 87) (.cells #[.float .f64 0,.float .f64 0] 87)
 have q1:=cR w (.cells #[.float .f64 A,.float .f64 B] 87) (.cells #[.float .f64 0,.float .f64 0] 87)
 have k0:=ac q0 0 rfl
 have k1:=ac q0 1 rfl
 go_enter Tryz.func80,Tryz.ntmps80
 go_wp2_with fail
 clear q0 k0 k1 RM RX
 generalize (w.alloc (.cells #[.float .f64 A,.float .f64 B] 87)).alloc (.cells #[.float .f64 0,.float .f64 0] 87)=wx at *
 obtain ⟨g,hg⟩:∃ g,w.heap.size+1=g:=⟨_,rfl⟩
 have hwg:w.heap.size<=g:=by omega
 rw [hg] at q1
 simp only [hg]
 clear hg
 have d2:=aM q1 0 (.float .f64 X)
 have d3:=aM d2 1 (.float .f64 Y)
 have f0:=ac q1 0 rfl
 have z0:=aw q1 0
 have f1:=ac d2 1 rfl
 have z1:=aw d2 1
 have hbe:=(hb2.setCell (p:=⟨g,0,none⟩) hwg (.float .f64 X)).setCell (p:=⟨g,1,none⟩) hwg (.float .f64 Y)
 have s0:(store ⟨g,0,none⟩ (.float .f64 X)).run Tryz.prog wx=.ok () (wx.setCell ⟨g,0,none⟩ (.float .f64 X)):=by rw [run_store _ _ _ _ _ rfl,f0]; simp only [z0]; rfl
 have s1:(store ⟨g,1,none⟩ (.float .f64 Y)).run Tryz.prog (wx.setCell ⟨g,0,none⟩ (.float .f64 X))=.ok () ((wx.setCell ⟨g,0,none⟩ (.float .f64 X)).setCell ⟨g,1,none⟩ (.float .f64 Y)):=by rw [run_store _ _ _ _ _ rfl,f1]; simp only [z1]; rfl
 have e0:=ac d3 0 rfl
 have e1:=ac d3 1 rfl
 clear f0 z0 f1 z1 d2 d3 q1
 simp only [s0,s1,Result.andThen]
 go_wp2
 refine bodyPost_ret (v:=.agg #[.float .f64 X,.float .f64 Y]) (by simp [results,Tryz.results80,go_sem,e0,e1]) rfl ⟨rfl,hbe⟩
theorem Fd {a b c d t u l h:Nat} (w:World)
    (S1:Hid (∀ W,Calls Tryz.prog 80 #[.agg #[.float .f64 c,.float .f64 d]] W fun e w'=>e=.returned (.agg #[.float .f64 t,.float .f64 u])∧Below W.heap.size W w'))
    (S2:Hid (∀ W,Calls Tryz.prog 79 #[.agg #[.float .f64 a,.float .f64 b],.agg #[.float .f64 t,.float .f64 u]] W fun e w'=>e=.returned (.agg #[.float .f64 l,.float .f64 h])∧Below W.heap.size W w')) :
    Calls Tryz.prog 52 #[.agg #[.float .f64 a,.float .f64 b],.agg #[.float .f64 c,.float .f64 d]] w fun e w'=>e=.returned (.agg #[.float .f64 l,.float .f64 h])∧Below w.heap.size w w':=by
  obtain ⟨q0,q1,q2,hs,hb3⟩:=oY w (.cells #[.float .f64 a,.float .f64 b] 87) (.cells #[.float .f64 c,.float .f64 d] 87) (.cells #[.float .f64 0,.float .f64 0] 87)
  have k0:=ac q0 0 rfl
  have k1:=ac q0 1 rfl
  have k2:=ac q1 0 rfl
  have k3:=ac q1 1 rfl
  go_enter Tryz.func52,Tryz.ntmps52
  go_wp2_with fail
  generalize ((w.alloc (.cells #[.float .f64 a,.float .f64 b] 87)).alloc (.cells #[.float .f64 c,.float .f64 d] 87)).alloc (.cells #[.float .f64 0,.float .f64 0] 87)=wx at *
  obtain ⟨g,hg⟩:∃ g,w.heap.size+1+1=g:=⟨_,rfl⟩
  have hwg:w.heap.size+2<=g:=by omega
  replace q2:wx.drew.heap[g]?=some (.cells #[.float .f64 0,.float .f64 0] 87 (0,0)):=by rw [<- hg]; exact q2
  simp only [hg]
  clear hg
  have hc:(w.heap.size<w.heap.size+2∧w.heap.size+1<w.heap.size+2∧w.heap.size+2<=wx.drew.heap.size)∧wx.drew.cell? ⟨w.heap.size,0,none⟩=some (.float .f64 a)∧wx.drew.cell? ⟨w.heap.size,1,none⟩=some (.float .f64 b)∧wx.drew.cell? ⟨w.heap.size+1,0,none⟩=some (.float .f64 c)∧wx.drew.cell? ⟨w.heap.size+1,1,none⟩=some (.float .f64 d):=⟨⟨by omega,by omega,by show _<=wx.heap.size; omega⟩,k0,k1,k2,k3⟩
  have hbd:=hb3.drew
  clear q0 q1 k0 k1 k2 k3
  go_region_held3 (fun W=>(w.heap.size<w.heap.size+2∧w.heap.size+1<w.heap.size+2∧w.heap.size+2<=W.heap.size)∧W.cell? ⟨w.heap.size,0,none⟩=some (.float .f64 a)∧W.cell? ⟨w.heap.size,1,none⟩=some (.float .f64 b)∧W.cell? ⟨w.heap.size+1,0,none⟩=some (.float .f64 c)∧W.cell? ⟨w.heap.size+1,1,none⟩=some (.float .f64 d))
    (first | assumption | (repeat (first | exact hc | exact hc1 | exact hc2 | refine uY ?_ | refine yx (by omega) ?_)))
    (first
      | (go_at_call 79; have _t:=hb4; refine (S2.out _).mono ?_; rintro _ w2 ⟨rfl,hb5⟩; have hc2:=nS hc1 hb5; have d2:=((aa hb4 hb5).block _ (Array.getElem?_eq_some_iff.1 q2).1).trans q2; have d3:=aM d2 0 (.float .f64 l); have d4:=aM d3 1 (.float .f64 h); have f0:=ac d2 0 rfl; have z0:=aw d2 0; have f1:=ac d3 1 rfl; have z1:=aw d3 1; have s0:(store ⟨g,0,none⟩ (.float .f64 l)).run Tryz.prog w2=.ok () (w2.setCell ⟨g,0,none⟩ (.float .f64 l)):=(by rw [run_store _ _ _ _ _ rfl,f0]; simp only [z0]; rfl); have s1:(store ⟨g,1,none⟩ (.float .f64 h)).run Tryz.prog (w2.setCell ⟨g,0,none⟩ (.float .f64 l))=.ok () ((w2.setCell ⟨g,0,none⟩ (.float .f64 l)).setCell ⟨g,1,none⟩ (.float .f64 h)):=(by rw [run_store _ _ _ _ _ rfl,f1]; simp only [z1]; rfl))
      | (go_at_call 80; refine (S1.out _).mono ?_; rintro _ w1 ⟨rfl,hb4⟩; have hc1:=nS hc hb4))
  have e0:=ac d4 0 rfl
  have e1:=ac d4 1 rfl
  have hbe:=((aa hbd (aa hb4 hb5)).setCell (p:=⟨g,0,none⟩) (show w.heap.size<=g by omega) (.float .f64 l)).setCell (p:=⟨g,1,none⟩) (show w.heap.size<=g by omega) (.float .f64 h)
  clear d2 d3 d4 f0 f1 z0 z1 s0 s1 hc hc1 hc2
  generalize (w2.setCell ⟨g,0,none⟩ (.float .f64 l)).setCell ⟨g,1,none⟩ (.float .f64 h)=wy at *
  go_wp2
  refine bodyPost_ret (v:=.agg #[.float .f64 l,.float .f64 h]) (by simp [results,Tryz.results52,go_sem,e0,e1]) rfl ⟨rfl,hbe⟩
theorem yZ {a:Int} (ha:aj a) (pa:ak a=true):bT a a=true:=by
 have h1:=(bw ha).1 pa
 have h4:=cZ ha pa
 refine jU.2 ⟨h4,h4,Int.le_refl _,?_,?_⟩
 ·unfold au; unfold rg at h1; unfold aj at ha; split at h1 <;> split <;> omega
 ·unfold au; unfold rg at h1; unfold aj at ha; split at h1 <;> split <;> omega
theorem nV {a b:Int} (ha:aj a) (hb:aj b) (h:bT a b=true):nn a∧nn b∧(rg a=9218868437227405312->a<0)∧(rg b=9218868437227405312->¬ b<0)∧au a<=au b:=by
 obtain ⟨va,vb,h1,h2,h3⟩:=jU.1 h
 refine ⟨⟨ha,va⟩,⟨hb,vb⟩,fun q=>?_,fun q k=>?_,h1⟩
 ·rw [mD ha] at h2
  split at h2
  ·assumption
  ·omega
 ·rw [mD hb,if_pos k] at h3
  omega
theorem IL {a c:Int} (h:rg a=9218868437227405312->a<0) (k:rg c=9218868437227405312->c<0):¬ (rg a=9218868437227405312∧rg c=9218868437227405312∧decide (a<0)≠decide (c<0)):=by
 rintro ⟨h1,h2,h3⟩
 exact h3 (by rw [decide_eq_true (h h1),decide_eq_true (k h2)])
theorem IM {a c:Int} (h:rg a=9218868437227405312->¬ a<0) (k:rg c=9218868437227405312->¬ c<0):¬ (rg a=9218868437227405312∧rg c=9218868437227405312∧decide (a<0)≠decide (c<0)):=by
 rintro ⟨h1,h2,h3⟩
 exact h3 (by rw [decide_eq_false (h h1),decide_eq_false (k h2)])
theorem mW {p:Int} (hp:nn p):(rg (neg p)=9218868437227405312 ↔ rg p=9218868437227405312)∧(neg p<0 ↔ ¬ p<0):=by
 obtain ⟨g1,g2⟩:=nQ hp
 refine ⟨by rw [g1],?_⟩
 by_cases a:neg p<0 <;> by_cases b:p<0 <;> simp [a,b] at g2 ⊢
theorem Fe {ok:Bool} {v v':Value} (h:ok=true->v=v'):lC ok v=lC ok v':=by
 cases ok
 ·rfl
 ·rw [h rfl]
theorem y8 {a b c d:Int} (ha:aj a) (hb:aj b) (hc:aj c) (hd:aj d) (w:World) (H:aD w) :
    Calls Tryz.prog 31 #[eK a b,eK c d] w fun e w'=>e=.returned (.tuple #[lC (bT a b && bT c d) (eK (cD (bQ (aN a) (c6 (aN d)))) (cE (bQ (aN b) (c6 (aN c))))),.int .i64 (kQ (bT a b && bT c d))])∧Below w.heap.size w w':=by
  have hE:∀ (cap:Array Value) (w:World),(callFunc 52 cap).run Tryz.prog w=.ok (.enter 52 cap) w:=by
    intro cap w
    simp [go_sem]
  have CJ:Hid (∀ W,aD W->Calls Tryz.prog 49 #[eK a b,eK c d,.func (.func 52) #[] #[]] W fun e w'=>e=.returned (.tuple #[lC (bT a b && bT c d) (eK (cD (bQ (aN a) (c6 (aN d)))) (cE (bQ (aN b) (c6 (aN c))))),.int .i64 (kQ (bT a b && bT c d))])∧Below W.heap.size W w'):=fun W LW=>by
    have:=AR 52 (x:=dw (bI a (neg d)) (c8 a (neg d))) (y:=dz (bI b (neg c)) (c8 b (neg c))) ha hb hc hd W LW hE (fun h1 h2=>by
      obtain ⟨na,nb,a1,b1,_⟩:=nV ha hb h1
      obtain ⟨nc,nd,c1,d1,_⟩:=nV hc hd h2
      obtain ⟨g1,g2⟩:=mW nc
      obtain ⟨g3,g4⟩:=mW nd
      have p1:=t8 na (fj nd).1 (IL a1 (fun q=>g4.2 (d1 (g3.1 q))))
      have p2:=t8 nb (fj nc).1 (IM b1 (fun q k=>(g2.1 k) (c1 (g1.1 q))))
      exact ⟨(IK p1.1).1,(IK p2.1).2,fun W' _=>Fd W' (fun W''=>Fc nc nd W'') (fun W''=>Hi W'' (fun W3=>AJ na (fj nd).1 p1.1 W3) (fun W3=>AJ nb (fj nc).1 p2.1 W3))⟩)
    rw [Fe (v':=eK (cD (bQ (aN a) (c6 (aN d)))) (cE (bQ (aN b) (c6 (aN c)))))] at this
    · exact this
    · intro hok
      rw [Bool.and_eq_true] at hok
      obtain ⟨na,nb,a1,b1,_⟩:=nV ha hb hok.1
      obtain ⟨nc,nd,c1,d1,_⟩:=nV hc hd hok.2
      obtain ⟨g1,g2⟩:=mW nc
      obtain ⟨g3,g4⟩:=mW nd
      rw [(t8 na (fj nd).1 (IL a1 (fun q=>g4.2 (d1 (g3.1 q))))).2.1,(t8 nb (fj nc).1 (IM b1 (fun q k=>(g2.1 k) (c1 (g1.1 q))))).2.2,E6 nd,E6 nc]
  have hx:∃ X Y,lC (bT a b && bT c d) (eK (cD (bQ (aN a) (c6 (aN d)))) (cE (bQ (aN b) (c6 (aN c)))))=.agg #[.int .i64 X,.int .i64 Y]:=by
    unfold lC eK; split
    · exact ⟨_,_,rfl⟩
    · exact ⟨_,_,rfl⟩
  obtain ⟨X,Y,hXY⟩:=hx
  rw [hXY] at CJ ⊢
  clear hXY
  unfold eK at *
  generalize kQ (bT a b && bT c d)=E at *
  obtain ⟨q0,q1,q2,hs,hb3⟩:=oY w (.cells #[.int .i64 a,.int .i64 b] 60) (.cells #[.int .i64 c,.int .i64 d] 60) (.cells #[.int .i64 0,.int .i64 0] 60)
  have L2:=H.keeps hb3
  go_enter Tryz.func31,Tryz.ntmps31
  go_wp2_with fail
  generalize ((w.alloc (.cells #[.int .i64 a,.int .i64 b] 60)).alloc (.cells #[.int .i64 c,.int .i64 d] 60)).alloc (.cells #[.int .i64 0,.int .i64 0] 60)=wx at *
  refine (CJ.out _ L2).mono ?_
  rintro _ w1 ⟨rfl,hb4⟩
  have d2:=(hb4.block _ (Array.getElem?_eq_some_iff.1 q2).1).trans q2
  have d3:=aM d2 0 (.int .i64 X)
  have d4:=aM d3 1 (.int .i64 Y)
  have f0:=ac d2 0 rfl
  have z0:=aw d2 0
  have f1:=ac d3 1 rfl
  have z1:=aw d3 1
  have e0:=ac d4 0 rfl
  have e1:=ac d4 1 rfl
  have hbe:=((aa hb3 hb4).setCell (p:=⟨w.heap.size+1+1,0,none⟩) (show w.heap.size<=w.heap.size+1+1 by omega) (.int .i64 X)).setCell (p:=⟨w.heap.size+1+1,1,none⟩) (show w.heap.size<=w.heap.size+1+1 by omega) (.int .i64 Y)
  clear d2 d3 d4 q0 q1 q2
  go_wp2
  refine bodyPost_ret (v:=.tuple #[.agg #[.int .i64 X,.int .i64 Y],.int .i64 E]) (by simp [results,Tryz.results31,go_sem,e0,e1]) rfl ⟨rfl,hbe⟩
theorem Hk {a b c d:Int} (ha:aj a) (hb:aj b) (hc:aj c) (hd:aj d) (w:World) (H:aD w) :
  Calls Tryz.prog 29 #[eK a b,eK c d] w fun e w'=>e=.returned (.tuple #[lC (bT a b && bT c d) (eK (cD (kE (aN a) (aN b) (aN c) (aN d))) (cE (kF (aN a) (aN b) (aN c) (aN d)))),.int .i64 (kQ (bT a b && bT c d))])∧Below w.heap.size w w':=by
 have:=Hf ha hb hc hd w H
 rw [Fe (v':=eK (cD (kE (aN a) (aN b) (aN c) (aN d))) (cE (kF (aN a) (aN b) (aN c) (aN d))))] at this
 ·exact this
 ·intro hok
  rw [Bool.and_eq_true] at hok
  obtain ⟨na,nb,_⟩:=nV ha hb hok.1
  obtain ⟨nc,nd,_⟩:=nV hc hd hok.2
  rw [(LG na nb nc nd).1,(LG na nb nc nd).2]
structure wg (c d V:Int):Prop where
 lo:nn c
 hi:nn d
 cl:aI c=c
 ch:aI d=d
 ok:bT c d=true
 kl:au c<=au (gZ V)
 kh:au (g9 V)<=au d
theorem cP.okk {e f:En} {V:Int} (h:cP e f V):wg (cD e) (cE f) V :=
 ⟨(u6 e).1,(u6 f).2,(qY e).1,(qY f).2,h.vld,h.keys.1,h.keys.2⟩
theorem AU {A B C:Int} (h:C*2^4194304=A*B):C=ej A B:=by
 unfold ej
 rw [<- h]
 exact (Int.mul_ediv_cancel _ (Int.ne_of_gt (aO _))).symm
structure mE (s t x:Int):Prop where
 lo:nn s
 hi:nn t
 h:cP (aN s) (aN t) x
theorem mE.v {s t x:Int} (h:mE s t x):bT s t=true:=h.h.vldP h.lo h.hi
theorem mE.of {lo hi b:Int} (rb:aj b) (pb:ak b=true) (h1:nn lo∧au lo<=au b) (h2:nn hi∧au b<=au hi):mE lo hi (ar b) :=
 ⟨h1.1,h2.1,cP.of h1.1 h2.1 ⟨rb,cZ rb pb⟩ pb h1.2 h2.2⟩
theorem J8 {c d V:Int} (h:wg c d V):pB c d=true->ua c d=bz V 0:=by
 intro hk
 obtain ⟨c1,c2,c3⟩:=LJ V
 have hl:=h.kl
 have hh:=h.kh
 have hle:=LI V
 unfold pB at hk
 unfold ua
 rw [h.ok] at hk ⊢
 simp only [Bool.true_and,if_true,Bool.or_eq_true,Bool.and_eq_true,decide_eq_true_eq] at hk ⊢
 by_cases p1:0<au c
 ·rw [if_pos p1]
  exact (me (c1 (by omega))).symm
 ·rw [if_neg p1]
  by_cases p2:au d<0
  ·rw [if_pos p2]
   exact (md (c2 (by omega))).symm
  ·rw [if_neg p2]
   have hz:au c=0∧au d=0:=by omega
   exact (pO (c3 (by omega) (by omega) (by omega) (by omega))).symm
theorem cQ {w0 w:World} {g:Nat} (h:Below w0.heap.size w0 w) (hg:w0.heap.size<=g) (x y:Value):Below w0.heap.size w0 ((w.setCell ⟨g,0,none⟩ x).setCell ⟨g,1,none⟩ y):=(h.setCell (p:=⟨g,0,none⟩) hg x).setCell (p:=⟨g,1,none⟩) hg y
def bY (p q:Int):Int:=cD (bQ (aN p) (c6 (aN q)))
def bZ (p q:Int):Int:=cE (bQ (aN p) (c6 (aN q)))
theorem iB {c d V:Int} (h:wg c d V):mE c d V :=
 ⟨h.lo,h.hi,En.le_trans (mV h.lo (iY V).1 h.kl) (q6 V).1,En.le_trans (q6 V).2 (mV (iY V).2 h.hi h.kh)⟩
theorem wh {p:Int} (rp:aj p) (pp:ak p=true):mE p p (ar p):=mE.of rp pp ⟨⟨rp,aS pp⟩,Int.le_refl _⟩ ⟨⟨rp,aS pp⟩,Int.le_refl _⟩
theorem rJ {p:Int} (h:nn p) (pp:ak p=true):aj (aI p)∧ak (aI p)=true:=by
 refine ⟨Cs h.1,?_⟩
 unfold aI
 rw [if_neg h.2]
 split
 ·decide
 ·exact pp
theorem l9 {p q:Int} (rp:aj p) (rq:aj q) (pp:ak p=true) (pq:ak q=true):wg (bY p q) (bZ p q) (ar p-ar q) :=
 ((show ar p + -ar q=ar p-ar q from rfl) ▸ (wh rp pp).h.plus (wh rq pq).h.neg).okk
theorem Ff {b:Int} (rb:aj b) (pb:ak b=true) (w:World) (H:aD w) :
  Calls Tryz.prog 51 #[.int .i64 b] w fun r w'=>r=.returned (.tuple #[.agg #[.int .i64 (aI b),.int .i64 (aI b)],.int .i64 0])∧Below w.heap.size w w':=by
 have CP:Hid (∀ W,aD W->Calls Tryz.prog 78 #[.int .i64 b] W fun e w'=>e=.returned (.tuple #[.bool (hH b),.int .i64 (aK b),.int .i64 (bi b),.bool true])∧Below W.heap.size W w'):=fun W h=>by
  have:=kt b W h.lay
  rw [pb] at this
  exact this
 have CF:Hid (∀ W,Calls Tryz.prog 20 #[.int .i64 b] W fun e w'=>e=.returned (.float .f64 (wd b))∧w'=W):=fun W=>aW b W
 have CT:Hid (∀ W,aD W->Calls Tryz.prog 75 #[.agg #[.float .f64 (wd b),.float .f64 (wd b)]] W fun e w'=>e=.returned (.agg #[.int .i64 (aI b),.int .i64 (aI b)])∧Below W.heap.size W w'):=fun W h=>yI ⟨rb,aS pb⟩ ⟨rb,aS pb⟩ W h.env.lays
 clear rb pb
 generalize aI b=cb at *
 generalize wd b=B at *
 generalize hH b=b1 at *
 generalize aK b=b2 at *
 generalize bi b=b3 at *
 have r_k:(w.alloc (.cells #[.int .i64 0,.int .i64 0] 60)).heap[w.heap.size]?=some (.cells #[.int .i64 0,.int .i64 0] 60):=bJ (.cells #[.int .i64 0,.int .i64 0] 60) (by rfl)
 have hb0:=ah w (.cells #[.int .i64 0,.int .i64 0] 60)
 go_enter Tryz.func51,Tryz.ntmps51
 go_wp2_with fail
 generalize (w.alloc (.cells #[.int .i64 0,.int .i64 0] 60))=x0 at hb0 r_k ⊢
 replace H:=H.keeps hb0
 refine (CP.out _ H).mono ?_
 rintro _ y1 ⟨rfl,hw1⟩
 replace r_k:=am hw1 r_k
 replace hb0:=aa hb0 hw1
 replace H:=H.keeps hw1
 go_wp2_with fail
 refine (CF.out _).mono ?_
 rintro _ wz ⟨rfl,hwz⟩
 replace hwz:=hwz.symm
 subst hwz
 go_wp2_with fail
 refine (CT.out _ H).mono ?_
 rintro _ y2 ⟨rfl,hw2⟩
 replace r_k:=am hw2 r_k
 replace hb0:=aa hb0 hw2
 have k0:=ac r_k 0 rfl
 have k1:=ac r_k 1 rfl
 have z0:=aw r_k 0
 have z1:=aw r_k 1
 go_wp2
 exact bodyPost_ret (v:=.tuple #[.agg #[.int .i64 cb,.int .i64 cb],.int .i64 0]) (by simp [results,Tryz.results51,go_sem,k0,k1]) rfl ⟨rfl,((hb0.setCell (p:=⟨w.heap.size,0,none⟩) (show w.heap.size<=w.heap.size by omega) _).setCell (p:=⟨w.heap.size,1,none⟩) (show w.heap.size<=w.heap.size by omega) _)⟩
theorem mX {p q:Int} (rp:aj p) (rq:aj q) (pp:ak p=true) (pq:ak q=true) (w:World) (H:aD w) :
  Calls Tryz.prog 30 #[.int .i64 p,.int .i64 q] w fun r w'=>r=.returned (.agg #[.int .i64 (bY p q),.int .i64 (bZ p q)])∧Below w.heap.size w w':=by
 have C1:Hid (∀ W,aD W->Calls Tryz.prog 51 #[.int .i64 p] W fun r w'=>r=.returned (.tuple #[.agg #[.int .i64 (aI p),.int .i64 (aI p)],.int .i64 0])∧Below W.heap.size W w'):=fun W h=>Ff rp pp W h
 have C2:Hid (∀ W,aD W->Calls Tryz.prog 51 #[.int .i64 q] W fun r w'=>r=.returned (.tuple #[.agg #[.int .i64 (aI q),.int .i64 (aI q)],.int .i64 0])∧Below W.heap.size W w'):=fun W h=>Ff rq pq W h
 have C3:Hid (∀ W,aD W->Calls Tryz.prog 31 #[.agg #[.int .i64 (aI p),.int .i64 (aI p)],.agg #[.int .i64 (aI q),.int .i64 (aI q)]] W fun e w'=>e=.returned (.tuple #[.agg #[.int .i64 (bY p q),.int .i64 (bZ p q)],.int .i64 0])∧Below W.heap.size W w'):=fun W h=>by
  have n1:nn p:=⟨rp,aS pp⟩
  have n2:nn q:=⟨rq,aS pq⟩
  have k1:=rJ n1 pp
  have k2:=rJ n2 pq
  have:=y8 k1.1 k1.1 k2.1 k2.1 W h
  rw [yZ k1.1 k1.2,yZ k2.1 k2.2,yX n1,yX n2] at this
  exact this
 clear rp rq pp pq
 generalize aI p=cp at *
 generalize aI q=cq at *
 generalize bY p q=lo at *
 generalize bZ p q=hi at *
 have r_k:(w.alloc (.cells #[.int .i64 0,.int .i64 0] 60)).heap[w.heap.size]?=some (.cells #[.int .i64 0,.int .i64 0] 60):=bJ (.cells #[.int .i64 0,.int .i64 0] 60) (by rfl)
 have hb0:=ah w (.cells #[.int .i64 0,.int .i64 0] 60)
 go_enter Tryz.func30,Tryz.ntmps30
 go_wp2_with fail
 generalize (w.alloc (.cells #[.int .i64 0,.int .i64 0] 60))=x0 at hb0 r_k ⊢
 replace H:=H.keeps hb0
 refine (C1.out _ H).mono ?_
 rintro _ y1 ⟨rfl,hw1⟩
 replace r_k:=az (.cells #[.int .i64 cp,.int .i64 cp] 60) (am hw1 r_k)
 have p_k:=aB y1 (.cells #[.int .i64 cp,.int .i64 cp] 60)
 replace hb0:=aa (aa hb0 hw1) (ah y1 (.cells #[.int .i64 cp,.int .i64 cp] 60))
 replace H:=(H.keeps hw1).keeps (ah y1 (.cells #[.int .i64 cp,.int .i64 cp] 60))
 go_wp2_with fail
 generalize y1.alloc (.cells #[.int .i64 cp,.int .i64 cp] 60)=x1 at r_k p_k hb0 H ⊢
 refine (C2.out _ H).mono ?_
 rintro _ y2 ⟨rfl,hw2⟩
 replace r_k:=az (.cells #[.int .i64 cq,.int .i64 cq] 60) (am hw2 r_k)
 replace p_k:=az (.cells #[.int .i64 cq,.int .i64 cq] 60) (am hw2 p_k)
 have q_k:=aB y2 (.cells #[.int .i64 cq,.int .i64 cq] 60)
 replace hb0:=aa (aa hb0 hw2) (ah y2 (.cells #[.int .i64 cq,.int .i64 cq] 60))
 replace H:=(H.keeps hw2).keeps (ah y2 (.cells #[.int .i64 cq,.int .i64 cq] 60))
 have f_p0:=ac p_k 0 rfl
 have f_p1:=ac p_k 1 rfl
 go_wp2_with fail
 clear f_p0 f_p1
 generalize y2.alloc (.cells #[.int .i64 cq,.int .i64 cq] 60)=x2 at r_k p_k q_k hb0 H ⊢
 refine (C3.out _ H).mono ?_
 rintro _ y3 ⟨rfl,hw3⟩
 replace r_k:=az (.cells #[.int .i64 lo,.int .i64 hi] 60) (am hw3 r_k)
 replace hb0:=aa (aa hb0 hw3) (ah y3 (.cells #[.int .i64 lo,.int .i64 hi] 60))
 have k0:=ac r_k 0 rfl
 have k1:=ac r_k 1 rfl
 have z0:=aw r_k 0
 have z1:=aw r_k 1
 go_wp2
 exact bodyPost_ret (v:=.agg #[.int .i64 lo,.int .i64 hi]) (by simp [results,Tryz.results30,go_sem,k0,k1]) rfl ⟨rfl,((hb0.setCell (p:=⟨w.heap.size,0,none⟩) (show w.heap.size<=w.heap.size by omega) _).setCell (p:=⟨w.heap.size,1,none⟩) (show w.heap.size<=w.heap.size by omega) _)⟩
def y9 (a1 a2 c1 c2 V:Int):Prop:=∃ C D,C*2^4194304=a1*c1∧D*2^4194304=a2*c2∧V=C+D
theorem y9.unique {a1 a2 b1 b2 V V':Int} (h:y9 a1 a2 b1 b2 V) (k:y9 a1 a2 b1 b2 V'):V=V':=by
 obtain ⟨C,D,h1,h2,rfl⟩:=h
 obtain ⟨C',D',k1,k2,rfl⟩:=k
 rw [lh (h1.trans k1.symm),lh (h2.trans k2.symm)]
theorem cJ (w:World) (o:Obj):Below w.drew.heap.size w.drew (w.alloc o).drew:=aa (ah w.drew o) (aA _)
theorem gL (w:World) (o:Obj):(w.alloc o).drew.heap[w.heap.size]?=some o:=aB w o
def nW (a b c d:Int):Int:=cD (kE (aN a) (aN b) (aN c) (aN d))
def nX (a b c d:Int):Int:=cE (kF (aN a) (aN b) (aN c) (aN d))
theorem Hl {a b c d x y:Int} (s:mE a b x) (t:mE c d y):Hid (∀ W,aD W->Calls Tryz.prog 29 #[.agg #[.int .i64 a,.int .i64 b],.agg #[.int .i64 c,.int .i64 d]] W fun e w'=>e=.returned (.tuple #[.agg #[.int .i64 (nW a b c d),.int .i64 (nX a b c d)],.int .i64 0])∧Below W.heap.size W w')∧wg (nW a b c d) (nX a b c d) (ej x y):=by
 refine ⟨fun W h=>?_,(s.h.times (t7 _) (t7 _) (t7 _) (t7 _) t.h).okk⟩
 have:=Hk s.lo.1 s.hi.1 t.lo.1 t.hi.1 W h
 rw [s.v,t.v] at this
 exact this
theorem Un.neg {S h:Int} (u:Un S h):Un (-S) (-h):=by
 unfold Un at *
 have e:-h - -S=-(h-S):=by omega
 rw [e,Int.natAbs_neg,Int.natAbs_neg,Int.natAbs_neg]
 exact u
theorem q7 {p q:Int} (hp:aj p) (hq:aj q) (pp:ak p=true) (pq:ak q=true):ar p-ar q=(iV p-iV q)*pw (-1074):=by
 rw [bF hp pp,bF hq pq,Int.sub_mul]
theorem ub (x y:Int):(x*y*pw (-2148))*2^4194304=(x*pw (-1074))*(y*pw (-1074)):=by
 have h:=j8 (a:=-1074) (b:=-1074) (by omega) (by omega)
 rw [show (-1074:Int) + -1074=-2148 by decide] at h
 generalize pw (-2148)=P at *
 generalize pw (-1074)=Q at *
 generalize (2:Int)^4194304=Z at *
 have e:(x*Q)*(y*Q)=x*y*(Q*Q):=by grind
 rw [e,h]
 grind
theorem sS {x q:Int} (hq:0<q):bz (x*q) 0=bz x 0:=by
 obtain ⟨h1,h2⟩:=nP (q:=q) (x:=x) hq
 rw [Int.mul_comm] at h1 h2
 unfold bz
 by_cases a:x<0
 ·rw [if_pos a,if_pos (h2.2 a)]
 ·have a':¬ x*q<0:=fun h=>a (h2.1 h)
  rw [if_neg a,if_neg a']
  by_cases b:0<x
  ·have b':=h1.2 b
   first | rw [if_pos b,if_pos b'] | simp [b,b']
  ·have b':¬ 0<x*q:=fun h=>b (h1.1 h)
   first | rw [if_neg b,if_neg b'] | simp [b,b']
theorem nY {x y:Int} (h1:0<x ↔ 0<y) (h2:x<0 ↔ y<0):bz x 0=bz y 0:=by
 unfold bz
 by_cases a:x<0
 ·rw [if_pos a,if_pos (h2.1 a)]
 ·have a':¬ y<0:=fun h=>a (h2.2 h)
  rw [if_neg a,if_neg a']
  by_cases b:0<x
  ·have b':=h1.1 b
   first | rw [if_pos b,if_pos b'] | simp [b,b']
  ·have b':¬ 0<y:=fun h=>b (h1.2 h)
   first | rw [if_neg b,if_neg b'] | simp [b,b']
def lR (ax ay bx by' cx cy:Int):Bool:=qu ax ay && qu bx by' && qu cx cy
theorem za {p:Int} (hp:aj p):qB p=bz (iV p) 0:=by
 obtain ⟨k1,k2⟩:=my hp
 exact nY k2.symm k1.symm
theorem IN {ax ay bx by' cx cy:Int} (rax:aj ax) (ray:aj ay) (rbx:aj bx) (rby:aj by') (rcx:aj cx) (rcy:aj cy) (h:lR ax ay bx by' cx cy=true):Mz ax∧Mz ay∧Mz bx∧Mz by'∧Mz cx∧Mz cy:=by
 unfold lR qu at h
 simp only [Bool.and_eq_true] at h
 obtain ⟨⟨⟨a1,a2⟩,b1,b2⟩,c1,c2⟩:=h
 exact ⟨l6 rax a1,l6 ray a2,l6 rbx b1,l6 rby b2,l6 rcx c1,l6 rcy c2⟩
def hT (u1 v1 u2 v2:Int):Int:=(iV u1*iV v2-iV v1*iV u2)/2^1074
def fN (T:Int):Int:=if T=0 then 0 else bu (T*pw (-1074))
theorem ue {u v:Int} (h1:Fx 872 1226 u) (h2:Fx 872 1226 v):(2^1744:Int) ∣ iV u*iV v:=by
 rw [show (1744:Nat)=872+872 by decide,Int.pow_add]
 exact Int.mul_dvd_mul h1.d h2.d
theorem uf {u1 v1 u2 v2:Int} (h1:Fx 872 1226 u1) (h2:Fx 872 1226 v1) (h3:Fx 872 1226 u2) (h4:Fx 872 1226 v2):2^1074*hT u1 v1 u2 v2=iV u1*iV v2-iV v1*iV u2:=by
 have d:(2^1744:Int) ∣ iV u1*iV v2-iV v1*iV u2:=Int.dvd_sub (ue h1 h4) (ue h2 h3)
 exact Int.mul_ediv_cancel' (Int.dvd_trans (ct (by decide)) d)
theorem LM {u1 v1 u2 v2:Int} (h1:Fx 872 1226 u1) (h2:Fx 872 1226 v1) (h3:Fx 872 1226 u2) (h4:Fx 872 1226 v2):(2^670:Int) ∣ hT u1 v1 u2 v2:=by
 have d:(2^1744:Int) ∣ iV u1*iV v2-iV v1*iV u2:=Int.dvd_sub (ue h1 h4) (ue h2 h3)
 rw [<- uf h1 h2 h3 h4,show (1744:Nat)=1074+670 by decide,Int.pow_add] at d
 exact Int.dvd_of_mul_dvd_mul_left (Int.ne_of_gt (p2 1074)) d
theorem LN {x y M:Int} (hx:(x.natAbs:Int)<=M) (hy:(y.natAbs:Int)<=M):((x-y).natAbs:Int)<=2*M:=by omega
theorem Cc {u1 v1 u2 v2:Int} (h1:Fx 872 1226 u1) (h2:Fx 872 1226 v1) (h3:Fx 872 1226 u2) (h4:Fx 872 1226 v2):((hT u1 v1 u2 v2).natAbs:Int)<=2^1379:=by
 have b1:=BO h1.b h4.b
 have b2:=BO h2.b h3.b
 have b3:=LN b1 b2
 rw [<- uf h1 h2 h3 h4,<- cX,qU,show (1226+1226+1:Nat)=1074+1379 by decide,Int.pow_add] at b3
 have e:(((2:Int)^1074).natAbs:Int)=2^1074:=by have:=p2 1074; omega
 rw [e] at b3
 exact Int.le_of_mul_le_mul_left b3 (p2 1074)
theorem AV (T:Int):sD T (fN T):=by
 unfold fN
 by_cases h:T=0
 ·rw [if_pos h,h]
  have:=sE false
  rwa [show aC false 0=0 by decide] at this
 ·rw [if_neg h]
  exact sF h
theorem LP {T:Int} (d:(2^670:Int) ∣ T) (b:(T.natAbs:Int)<=2^1379):Fx 670 1383 (fN T)∧Un T (iV (fN T)):=by
 have s:=AV T
 have hm:(T.natAbs:Int)<=ii:=Int.le_trans (Int.le_trans b (eY (by decide))) fY
 have pk:=s.fin hm
 have nr:=s.nr pk
 have u:=BN nr
 refine ⟨⟨s.rn,pk,gk nr d,?_⟩,u⟩
 have h2:=wC u
 have h3:(2:Int)^1380=2*2^1379:=cX 1379
 have h4:(2:Int)^1380<=2^1383:=eY (by decide)
 generalize (2:Int)^1379=X at *
 generalize (2:Int)^1380=Y at *
 generalize (2:Int)^1383=Z at *
 omega
theorem lf {p q:Int} (hp:aj p) (hq:aj q) (h:iV p=iV q):rg p=rg q:=by
 have a:=ix p
 have b:=ix q
 rw [h] at a
 have e:V Ieee.double (rg p).toNat=V Ieee.double (rg q).toNat:=by omega
 have p0:=(fQ hp).2
 have q0:=(fQ hq).2
 rcases Nat.lt_trichotomy (rg p).toNat (rg q).toNat with c | c | c
 ·have:=j9 Ieee.double c; omega
 ·omega
 ·have:=j9 Ieee.double c; omega
structure dG (T h:Int):Prop where
 r:aj h
 p:ak h=true
 v:iV h=iV (fN T)
theorem dG.self {T:Int} (f:Fx 670 1383 (fN T)):dG T (fN T):=⟨f.r,f.p,rfl⟩
theorem dG.g {T h:Int} (f:Fx 670 1383 (fN T)) (k:dG T h):rg h=rg (fN T):=lf k.r f.r k.v
theorem dG.fx {T h:Int} (f:Fx 670 1383 (fN T)) (k:dG T h):Fx 670 1383 h:=⟨k.r,k.p,k.v ▸ f.d,k.v ▸ f.b⟩
theorem wi:iV (fN 0)=0:=by
 unfold fN; rw [if_pos rfl]
 have:=(lK false).2.2
 rwa [show aC false 0=0 by decide] at this
theorem mF {p q:Int} (hp:aj p) (hq:aj q) (pp:ak p=true) (pq:ak q=true):iV (ap p q)=iV (fN (iV p+iV q)):=by
 rw [mo hp hq pp pq,bF hp pp,bF hq pq,<- Int.add_mul]
 have hw:=bD (-1074)
 by_cases c:iV p+iV q=0
 ·rw [c,if_pos (by rw [Int.zero_mul]),(lK _).2.2,wi]
 ·rw [if_neg (Gh hw c)]
  unfold fN
  rw [if_neg c]
theorem Hm {p q T:Int} (hp:aj p) (hq:aj q) (pp:ak p=true) (pq:ak q=true) (hT:2^1074*T=iV p*iV q):aq p q=if T=0 then aC (bv p q) 0 else bu (T*pw (-1074)):=by
 obtain ⟨a1,a2⟩:=dT hp pp
 obtain ⟨b1,b2⟩:=dT hq pq
 have hw:=bD (-1074)
 have hs:ar p*ar q/2^4194304=T*pw (-1074):=by
  rw [bF hp pp,bF hq pq]
  have e2:=j8 (a:=-1074) (b:=-1074) (by decide) (by decide)
  rw [show (-1074 + -1074:Int)=-2148 by decide] at e2
  have e3:=ff (e:=-2148) (by decide) 1074
  rw [show (-2148+((1074:Nat):Int))=-1074 by decide] at e3
  exact KP (aO 4194304) e2 e3 hT
 unfold aq eG
 rw [if_neg (fun c=>c.elim a1 b1),if_neg (fun c=>c.elim a2 b2),hs]
 by_cases c:T=0
 ·rw [if_pos c,if_pos (Ik _ c)]
 ·rw [if_neg c,if_neg (fun d=>c (DL _ hw d)),DM]
theorem AW {p q T:Int} (hp:aj p) (hq:aj q) (pp:ak p=true) (pq:ak q=true) (hT:2^1074*T=iV p*iV q):iV (aq p q)=iV (fN T):=by
 rw [Hm hp hq pp pq hT]
 by_cases c:T=0
 ·rw [c,if_pos rfl,(lK _).2.2,wi]
 ·rw [if_neg c]
  unfold fN
  rw [if_neg c]
def bV (ax ay bx by' cx cy:Int):Int:=(iV ax-iV cx)*(iV by'-iV cy)-(iV ay-iV cy)*(iV bx-iV cx)
def oL (ax ay bx by' cx cy:Int):Int:=aq (ap ax (neg cx)) (ap by' (neg cy))
def oR (ax ay bx by' cx cy:Int):Int:=aq (ap ay (neg cy)) (ap bx (neg cx))
def oS (ax ay bx by' cx cy:Int):Int:=ap (rg (oL ax ay bx by' cx cy)) (rg (oR ax ay bx by' cx cy))
def oD (ax ay bx by' cx cy:Int):Int:=ap (oL ax ay bx by' cx cy) (neg (oR ax ay bx by' cx cy))
def jZ (ax ay bx by' cx cy:Int):Int:=hT (ap ax (neg cx)) (ap ay (neg cy)) (ap bx (neg cx)) (ap by' (neg cy))
def mY (ax ay bx by' cx cy:Int):Int:=ap (ap (aq (ap ax (neg cx)) (sL by' (neg cy))) (aq (ap by' (neg cy)) (sL ax (neg cx)))) (neg (ap (aq (ap ay (neg cy)) (sL bx (neg cx))) (aq (ap bx (neg cx)) (sL ay (neg cy)))))
def oX (ax ay bx by' cx cy:Int):Bool:=decide (rg (sL ax (neg cx))=0) && decide (rg (sL ay (neg cy))=0) && decide (rg (sL bx (neg cx))=0) && decide (rg (sL by' (neg cy))=0)
def oE (S h:Int):Int:=ap (aq oC S) (aq oK (rg h))
def sT (ax ay bx by' cx cy:Int):Int :=
 if au (aq oA (oS ax ay bx by' cx cy))<=rg (oD ax ay bx by' cx cy) then 1
 else if oX ax ay bx by' cx cy=true∨au (aq oB (oS ax ay bx by' cx cy))<=rg (fN (jZ ax ay bx by' cx cy)) then 2
 else if au (oE (oS ax ay bx by' cx cy) (fN (jZ ax ay bx by' cx cy)))<=rg (ap (fN (jZ ax ay bx by' cx cy)) (mY ax ay bx by' cx cy)) then 3
 else 4
theorem sW {m d:Int} (hm:aj m) (hd:aj d) (h:au m<=rg d):iV m<=((iV d).natAbs:Int):=by
 obtain ⟨q1,q2⟩:=fQ hd
 have e:iV (rg d)=((iV d).natAbs:Int):=by
  rw [ix,iV,decide_eq_false (by omega),wD hd]
  rfl
 rw [<- e]
 exact qZ hm q1 (by rw [lL q2]; omega)
theorem Un.sgn {Z D:Int} (h:Un Z D):(0<Z ↔ 0<D)∧(Z<0 ↔ D<0):=by
 have a:=h.1
 have b:=h.2
 omega
theorem nZ {p:Int} (hp:aj p) (h:rg p=0):iV p=0:=by
 have a:=ix p
 rw [h] at a
 have e:V Ieee.double (0:Int).toNat=0:=by decide
 rw [e] at a
 omega
structure OA (ax ay bx by' cx cy:Int):Prop where
 u1:Fx 872 1226 (ap ax (neg cx))
 v1:Fx 872 1226 (ap ay (neg cy))
 u2:Fx 872 1226 (ap bx (neg cx))
 v2:Fx 872 1226 (ap by' (neg cy))
 l:Fx 670 1379 (oL ax ay bx by' cx cy)
 r:Fx 670 1379 (oR ax ay bx by' cx cy)
 s:Fx 670 1381 (oS ax ay bx by' cx cy)
 d:Fx 670 1381 (oD ax ay bx by' cx cy)
 h:Fx 670 1383 (fN (jZ ax ay bx by' cx cy))
 hu:Un (iV (ap ax (neg cx))*iV (ap by' (neg cy))-iV (ap ay (neg cy))*iV (ap bx (neg cx))) (2^1074*iV (fN (jZ ax ay bx by' cx cy)))
 t:Fx 670 1383 (mY ax ay bx by' cx cy)
theorem mG {ax ay bx by' cx cy:Int} (hax:Mz ax) (hay:Mz ay) (hbx:Mz bx) (hby:Mz by') (hcx:Mz cx) (hcy:Mz cy):OA ax ay bx by' cx cy:=by
 obtain ⟨a1,_⟩:=hax.diff hcx
 obtain ⟨a2,_⟩:=hay.diff hcy
 obtain ⟨a3,_⟩:=hbx.diff hcx
 obtain ⟨a4,_⟩:=hby.diff hcy
 have F:=AH a1 a2 a3 a4
 have hd:=LM a1 a2 a3 a4
 have hb:=Cc a1 a2 a3 a4
 have he:=uf a1 a2 a3 a4
 obtain ⟨nf,nu⟩:=LP hd hb
 have nu2:=nu.scale (c:=2^1074) (Int.le_of_lt (p2 1074))
 rw [he] at nu2
 obtain ⟨l1,x1,k1⟩:=hax.lost hcx
 obtain ⟨l2,x2,k2⟩:=hay.lost hcy
 obtain ⟨l3,x3,k3⟩:=hbx.lost hcx
 obtain ⟨l4,x4,k4⟩:=hby.lost hcy
 exact ⟨a1,a2,a3,a4,F.l,F.r,F.s,F.d,nf,nu2,(ND a1 a2 a3 a4 l1 l2 l3 l4 k1 k2 k3 k4 rfl).1⟩
theorem ug {S:Int} (h:Fx 670 1381 S):Fx 568 1332 (aq oA S):=(wF.prod h (by decide) (by decide) (by decide)).1
theorem wH {S:Int} (h:Fx 670 1381 S):Fx 566 1331 (aq oB S):=(BP.prod h (by decide) (by decide) (by decide)).1
theorem Cd {S:Int} (h:Fx 670 1381 S):Fx 515 1280 (aq oC S):=(BQ.prod h (by decide) (by decide) (by decide)).1
theorem Ce {h:Int} (k:Fx 670 1383 h):Fx 566 1333 (aq oK (rg h)):=(BR.prod k.abs.1 (by decide) (by decide) (by decide)).1
theorem Cf {S h:Int} (s:Fx 670 1381 S) (k:Fx 670 1383 h):Fx 515 1335 (oE S h):=(((Cd s).up (by decide)).sum ((Ce k).dn (by decide)) (by decide)).1
theorem Oe {ax ay bx by' cx cy:Int} (hax:Mz ax) (hay:Mz ay) (hbx:Mz bx) (hby:Mz by') (hcx:Mz cx) (hcy:Mz cy) (h:au (aq oA (oS ax ay bx by' cx cy))<=rg (oD ax ay bx by' cx cy)) :
  bz (bV ax ay bx by' cx cy) 0=qB (oD ax ay bx by' cx cy):=by
 have O:=mG hax hay hbx hby hcx hcy
 obtain ⟨r1,r2⟩:=JL hax hay hbx hby hcx hcy rfl rfl rfl rfl rfl rfl rfl rfl (sW (ug O.s).r O.d.r h)
 rw [za O.d.r]
 exact nY r1 r2
theorem Hn {ax ay bx by' cx cy:Int} (hax:Mz ax) (hay:Mz ay) (hbx:Mz bx) (hby:Mz by') (hcx:Mz cx) (hcy:Mz cy) (hx:oX ax ay bx by' cx cy=true) :
  bV ax ay bx by' cx cy=iV (ap ax (neg cx))*iV (ap by' (neg cy))-iV (ap ay (neg cy))*iV (ap bx (neg cx)):=by
 unfold oX at hx
 simp only [Bool.and_eq_true,decide_eq_true_eq] at hx
 obtain ⟨⟨⟨g1,g2⟩,g3⟩,g4⟩:=hx
 obtain ⟨l1,x1,_⟩:=hax.lost hcx
 obtain ⟨l2,x2,_⟩:=hay.lost hcy
 obtain ⟨l3,x3,_⟩:=hbx.lost hcx
 obtain ⟨l4,x4,_⟩:=hby.lost hcy
 rw [nZ l1.r g1,Int.add_zero] at x1
 rw [nZ l2.r g2,Int.add_zero] at x2
 rw [nZ l3.r g3,Int.add_zero] at x3
 rw [nZ l4.r g4,Int.add_zero] at x4
 unfold bV
 rw [x1,x2,x3,x4]
theorem Og {ax ay bx by' cx cy h:Int} (hax:Mz ax) (hay:Mz ay) (hbx:Mz bx) (hby:Mz by') (hcx:Mz cx) (hcy:Mz cy) (hv:dG (jZ ax ay bx by' cx cy) h) (c:oX ax ay bx by' cx cy=true∨au (aq oB (oS ax ay bx by' cx cy))<=rg h) :
  bz (bV ax ay bx by' cx cy) 0=qB h:=by
 have O:=mG hax hay hbx hby hcx hcy
 have hu:=O.hu
 rw [<- hv.v] at hu
 have s:=nP (x:=iV h) (p2 1074)
 rw [za hv.r]
 rcases c with c | c
 ·rw [Hn hax hay hbx hby hcx hcy c]
  exact nY (hu.sgn.1.trans s.1) (hu.sgn.2.trans s.2)
 ·obtain ⟨r1,r2⟩:=JM hax hay hbx hby hcx hcy rfl rfl rfl rfl rfl rfl rfl hu (sW (wH O.s).r hv.r c)
  exact nY r1 r2
theorem LQ {ax ay bx by' cx cy:Int} (hax:Mz ax) (hay:Mz ay) (hbx:Mz bx) (hby:Mz by') (hcx:Mz cx) (hcy:Mz cy) (h:¬ au (aq oA (oS ax ay bx by' cx cy))<=rg (oD ax ay bx by' cx cy)):0<iV (oS ax ay bx by' cx cy):=by
 have O:=mG hax hay hbx hby hcx hcy
 have f:=ug O.s
 have d0:=(fQ O.d.r).2
 have k1:=(my f.r).2.2 (by omega)
 obtain ⟨_,_,T,hT,hU⟩:=wF.prod O.s (by decide) (by decide) (by decide)
 have t1:=hU.sgn.1.2 k1
 have q:0<iV oA*iV (oS ax ay bx by' cx cy):=by rw [<- hT]; exact Int.mul_pos (p2 1074) t1
 have a0:0<iV oA:=by rw [wE]; exact Int.mul_pos (by decide) (p2 972)
 exact (nP (x:=iV (oS ax ay bx by' cx cy)) a0).1.1 q
theorem Oh {ax ay bx by' cx cy h:Int} (hax:Mz ax) (hay:Mz ay) (hbx:Mz bx) (hby:Mz by') (hcx:Mz cx) (hcy:Mz cy) (hv:dG (jZ ax ay bx by' cx cy) h) (h1:¬ au (aq oA (oS ax ay bx by' cx cy))<=rg (oD ax ay bx by' cx cy)) (c:au (oE (oS ax ay bx by' cx cy) h)<=rg (ap h (mY ax ay bx by' cx cy))) :
  bz (bV ax ay bx by' cx cy) 0=qB (ap h (mY ax ay bx by' cx cy)):=by
 have O:=mG hax hay hbx hby hcx hcy
 have hu:=O.hu
 rw [<- hv.v] at hu
 have fh:=hv.fx O.h
 have fd:=(fh.sum O.t (by decide)).1
 obtain ⟨r1,r2⟩:=JN hax hay hbx hby hcx hcy rfl rfl rfl rfl rfl rfl rfl fh hu rfl rfl (LQ hax hay hbx hby hcx hcy h1) (sW (Cf O.s fh).r fd.r c)
 rw [za fd.r]
 exact nY r1 r2
theorem dG.d {T h t:Int} (f:Fx 670 1383 (fN T)) (k:dG T h) (ft:Fx 670 1383 t):rg (ap h t)=rg (ap (fN T) t):=by
 have a:=mF k.r ft.r k.p ft.p
 have b:=mF f.r ft.r f.p ft.p
 rw [k.v] at a
 exact lf (((k.fx f).sum ft (by decide)).1.r) ((f.sum ft (by decide)).1.r) (a.trans b.symm)
theorem dG.e {T h:Int} (S:Int) (f:Fx 670 1383 (fN T)) (k:dG T h):oE S h=oE S (fN T):=by unfold oE; rw [k.g f]
theorem uh {p q:Int} (hp:Mz p) (hq:Mz q) (w:World) (H:aD w) :
  Calls Tryz.prog 39 #[.int .i64 p,.int .i64 q] w fun r w'=>r=.returned (.agg #[.float .f64 (wd (ap p (neg q))),.float .f64 (wd (sL p (neg q)))])∧Below w.heap.size w w':=by
 have C1:Hid (∀ W,aD W->Calls Tryz.prog 65 #[.int .i64 p,.int .i64 q] W fun r w'=>r=.returned (.tuple #[.float .f64 (wd (ap p (neg q))),.float .f64 (wd (sL p (neg q)))])∧Below W.heap.size W w'):=fun W h=>J1 hp hq W h
 clear hp hq
 generalize wd (ap p (neg q))=X at *
 generalize wd (sL p (neg q))=Y at *
 have hst:∀ p x m w,(store p (.float .f64 x) m).run Tryz.prog w=stored Tryz.prog w p (.float .f64 x) m:=fun p x m w=>run_store _ w p _ m rfl
 have r_k:=aB w (.cells #[.float .f64 0,.float .f64 0] 49)
 have hb0:=ah w (.cells #[.float .f64 0,.float .f64 0] 49)
 go_enter Tryz.func39,Tryz.ntmps39
 go_wp2_with fail
 generalize w.alloc (.cells #[.float .f64 0,.float .f64 0] 49)=x0 at r_k hb0 ⊢
 refine (C1.out _ (H.keeps hb0)).mono ?_
 rintro _ y1 ⟨rfl,hw1⟩
 replace r_k:=am hw1 r_k
 replace hb0:=aa hb0 hw1
 have k0:=ac r_k 0 rfl
 have k1:=ac r_k 1 rfl
 have z0:=aw r_k 0
 have z1:=aw r_k 1
 go_wp2
 exact bodyPost_ret (v:=.agg #[.float .f64 X,.float .f64 Y]) (by simp [results,Tryz.results39,go_sem,k0,k1]) rfl ⟨rfl,((hb0.setCell (p:=⟨w.heap.size,0,none⟩) (show w.heap.size<=w.heap.size by omega) _).setCell (p:=⟨w.heap.size,1,none⟩) (show w.heap.size<=w.heap.size by omega) _)⟩
theorem ui {p q:Int} (hp:Mz p) (hq:Mz q) (w:World) :
  Calls Tryz.prog 44 #[.agg #[.float .f64 (wd (ap p (neg q))),.float .f64 (wd (sL p (neg q)))]] w fun r w'=>∃ o c,r=.returned (.slice o (bK p q).n c)∧iy w' (.slice o (bK p q).n c) (bK p q)∧Below w.heap.size w w':=by
 have O:=(hp.diff hq).1
 have L:=(hp.lost hq).1
 have C1:Hid (∀ W,Calls Tryz.prog 71 #[.float .f64 (wd (ap p (neg q))),.float .f64 (wd (sL p (neg q)))] W fun r w'=>∃ v,r=.returned v∧aX W.heap.size w' v (bK p q).n (bK p q).d∧Below W.heap.size W w'):=fun W=>Ly O.r O.p L.r L.p W
 clear hp hq O L
 generalize wd (ap p (neg q))=X at *
 generalize wd (sL p (neg q))=Y at *
 generalize bK p q=ll at *
 have b_k:=aB w (.cells #[.float .f64 X,.float .f64 Y] 49)
 have f0:=ac b_k 0 rfl
 have f1:=ac b_k 1 rfl
 go_enter Tryz.func44,Tryz.ntmps44
 go_wp2_with fail
 refine (C1.out _).mono ?_
 rintro _ y1 ⟨v,rfl,hO,hw1⟩
 obtain ⟨o,c,rfl,hR⟩:=hO.row
 go_wp2
 go_ret
 exact ⟨o,c,rfl,⟨o,c,rfl,hR⟩,aa (ah _ _) hw1⟩
theorem uj {f:Int} (hf:aj f) (pf:ak f=true):(FloatKind.f64.format.order (wd f) 0 == some .eq)=decide (rg f=0):=by
 by_cases h:rg f=0
 ·rw [(lv hf pf).1 h,decide_eq_true h]; rfl
 ·rw [decide_eq_false h]
  rcases (lv hf pf).2 h with e | e <;> (rw [e]; rfl)
theorem J9 (P1 P2 P3 P4 E1 E2 E3 E4:Nat) (b1 b2 b3 b4:Bool) (h1:(FloatKind.f64.format.order E1 0 == some .eq)=b1) (h2:(FloatKind.f64.format.order E2 0 == some .eq)=b2) (h3:(FloatKind.f64.format.order E3 0 == some .eq)=b3) (h4:(FloatKind.f64.format.order E4 0 == some .eq)=b4) (w:World) :
  Calls Tryz.prog 24 #[.agg #[.float .f64 P1,.float .f64 E1,.float .f64 P2,.float .f64 E2,.float .f64 P3,.float .f64 E3,.float .f64 P4,.float .f64 E4]] w fun r w'=>r=.returned (.bool (b1 && b2 && b3 && b4))∧Below w.heap.size w w':=by
 have b_k:=aB w (.cells #[.float .f64 P1,.float .f64 E1,.float .f64 P2,.float .f64 E2,.float .f64 P3,.float .f64 E3,.float .f64 P4,.float .f64 E4] 51)
 have f1:=ac b_k 1 rfl
 have f3:=ac b_k 3 rfl
 have f5:=ac b_k 5 rfl
 have f7:=ac b_k 7 rfl
 cases b1 <;> cases b2 <;> cases b3 <;> cases b4
 all_goals
  go_enter Tryz.func24,Tryz.ntmps24
  go_wp2
  go_ret
  exact ⟨cd (by simp [h1,h2,h3,h4]),ah _ _⟩
theorem LR {u1 v1 u2 v2 e1 f1 e2 f2:Int} (h1:Fx 872 1226 u1) (h2:Fx 872 1226 v1) (h3:Fx 872 1226 u2) (h4:Fx 872 1226 v2) (g1:Fx 872 1226 e1) (g2:Fx 872 1226 f1) (g3:Fx 872 1226 e2) (g4:Fx 872 1226 f2) (w:World) :
  Calls Tryz.prog 25 #[.agg #[.float .f64 (wd u1),.float .f64 (wd e1),.float .f64 (wd v1),.float .f64 (wd f1),.float .f64 (wd u2),.float .f64 (wd e2),.float .f64 (wd v2),.float .f64 (wd f2)]] w fun r w'=>r=.returned (.float .f64 (wd (ap (ap (aq u1 f2) (aq v2 e1)) (neg (ap (aq v1 e2) (aq u2 f1))))))∧Below w.heap.size w w':=by
 have q1:=(h1.prod g4 (by decide) (by decide) (by decide)).1
 have q2:=(h4.prod g1 (by decide) (by decide) (by decide)).1
 have q3:=(h2.prod g3 (by decide) (by decide) (by decide)).1
 have q4:=(h3.prod g2 (by decide) (by decide) (by decide)).1
 have s1:=(q1.sum q2 (by decide)).1
 have s2:=(q3.sum q4 (by decide)).1
 have d1:=(s1.sum s2.neg.1 (by decide)).1
 have m1:=fun W=>dD (P:=Tryz.prog) 47 (bU h1) (bU g4) (aS q1.p) W
 have m2:=fun W=>dD (P:=Tryz.prog) 47 (bU h4) (bU g1) (aS q2.p) W
 have m3:=fun W=>dD (P:=Tryz.prog) 47 (bU h2) (bU g3) (aS q3.p) W
 have m4:=fun W=>dD (P:=Tryz.prog) 47 (bU h3) (bU g2) (aS q4.p) W
 have m5:=fun W=>kO (P:=Tryz.prog) 47 (bU q1) (bU q2) (aS s1.p) W
 have m6:=fun W=>kO (P:=Tryz.prog) 47 (bU q3) (bU q4) (aS s2.p) W
 have m7:=fun W=>gB (P:=Tryz.prog) 47 (bU s1) (bU s2) (aS d1.p) W
 clear h1 h2 h3 h4 g1 g2 g3 g4 q1 q2 q3 q4 s1 s2 d1
 generalize wd (ap (ap (aq u1 f2) (aq v2 e1)) (neg (ap (aq v1 e2) (aq u2 f1))))=R at *
 generalize wd (ap (aq u1 f2) (aq v2 e1))=S1 at *
 generalize wd (ap (aq v1 e2) (aq u2 f1))=S2 at *
 generalize wd (aq u1 f2)=M1 at *
 generalize wd (aq v2 e1)=M2 at *
 generalize wd (aq v1 e2)=M3 at *
 generalize wd (aq u2 f1)=M4 at *
 generalize wd u1=P1 at *
 generalize wd v1=P2 at *
 generalize wd u2=P3 at *
 generalize wd v2=P4 at *
 generalize wd e1=E1 at *
 generalize wd f1=E2 at *
 generalize wd e2=E3 at *
 generalize wd f2=E4 at *
 have b_k:=aB w (.cells #[.float .f64 P1,.float .f64 E1,.float .f64 P2,.float .f64 E2,.float .f64 P3,.float .f64 E3,.float .f64 P4,.float .f64 E4] 51)
 have k0:=ac b_k 0 rfl
 have k1:=ac b_k 1 rfl
 have k2:=ac b_k 2 rfl
 have k3:=ac b_k 3 rfl
 have k4:=ac b_k 4 rfl
 have k5:=ac b_k 5 rfl
 have k6:=ac b_k 6 rfl
 have k7:=ac b_k 7 rfl
 go_enter Tryz.func25,Tryz.ntmps25
 go_wp2
 go_ret
 exact ⟨rfl,ah _ _⟩
theorem IO {p q:Int} (hp:aj p) (hq:aj q) (pp:ak p=true) (pq:ak q=true) (w:World) (H:aD w) :
  Calls Tryz.prog 40 #[.float .f64 (wd p),.float .f64 (wd q)] w fun r w'=>r=.returned (.float .f64 (wd (bm p q)))∧Below w.heap.size w w':=by
 have C1:Hid (∀ W,Calls Tryz.prog 42 #[.float .f64 (wd p)] W fun e w'=>e=.returned (.int .i64 p)∧w'=W):=fun W=>je (FW.pat (aS pp) hp) W
 have C2:Hid (∀ W,Calls Tryz.prog 42 #[.float .f64 (wd q)] W fun e w'=>e=.returned (.int .i64 q)∧w'=W):=fun W=>je (FW.pat (aS pq) hq) W
 have C3:Hid (∀ W,aD W->Calls Tryz.prog 66 #[.int .i64 p,.int .i64 q] W fun r w'=>∃ hh xx,r=.returned (.tuple #[.int .i64 hh,.int .i64 (bm p q),.bool xx])∧Below W.heap.size W w'):=fun W h=>by
  refine (rB hp hq W h).mono ?_
  rintro _ w' ⟨rfl,hb⟩
  rw [mT pp,mT pq]
  exact ⟨_,_,rfl,hb⟩
 have C4:Hid (∀ W,Calls Tryz.prog 20 #[.int .i64 (bm p q)] W fun e w'=>e=.returned (.float .f64 (wd (bm p q)))∧w'=W):=fun W=>aW _ W
 clear hp hq pp pq
 generalize wd (bm p q)=R at *
 generalize bm p q=l at *
 generalize wd p=X at *
 generalize wd q=Y at *
 go_enter Tryz.func40,Tryz.ntmps40
 go_wp2_with fail
 refine (C1.out _).mono ?_
 rintro _ wz ⟨rfl,hwz⟩
 replace hwz:=hwz.symm
 subst hwz
 go_wp2_with fail
 refine (C2.out _).mono ?_
 rintro _ wz ⟨rfl,hwz⟩
 replace hwz:=hwz.symm
 subst hwz
 go_wp2_with fail
 refine (C3.out _ H).mono ?_
 rintro _ y1 ⟨hh,xx,rfl,hw1⟩
 go_wp2_with fail
 refine (C4.out _).mono ?_
 rintro _ wz ⟨rfl,hwz⟩
 replace hwz:=hwz.symm
 subst hwz
 go_wp2
 go_ret
 exact ⟨rfl,hw1⟩
theorem j6 {W:World} {p:Addr} {v:Value} (h:W.cell? p=some v) {g:Nat} (x0 x1 x2 x3 x4 x5 x6 x7:Value) (hg:p.block≠g):((((((((W.setCell ⟨g,0,none⟩ x0).setCell ⟨g,1,none⟩ x1).setCell ⟨g,2,none⟩ x2).setCell ⟨g,3,none⟩ x3).setCell ⟨g,4,none⟩ x4).setCell ⟨g,5,none⟩ x5).setCell ⟨g,6,none⟩ x6).setCell ⟨g,7,none⟩ x7).cell? p=some v :=
 ((((((((((Wr.refl g W).setCell 0 x0).setCell 1 x1).setCell 2 x2).setCell 3 x3).setCell 4 x4).setCell 5 x5).setCell 6 x6).setCell 7 x7).cell (World.block_lt_of_cell? W _ h) hg).trans h
theorem wj {W:World} {g T:Nat} {a0 a1 a2 a3 a4 a5 a6 a7:Value} (h:W.heap[g]?=some (.cells #[a0,a1,a2,a3,a4,a5,a6,a7] T)) (x0 x1 x2 x3 x4 x5 x6 x7:Value):((((((((W.setCell ⟨g,0,none⟩ x0).setCell ⟨g,1,none⟩ x1).setCell ⟨g,2,none⟩ x2).setCell ⟨g,3,none⟩ x3).setCell ⟨g,4,none⟩ x4).setCell ⟨g,5,none⟩ x5).setCell ⟨g,6,none⟩ x6).setCell ⟨g,7,none⟩ x7).heap[g]?=some (.cells #[x0,x1,x2,x3,x4,x5,x6,x7] T):=by
 have h0:(W.setCell ⟨g,0,none⟩ x0).heap[g]?=some (.cells #[x0,a1,a2,a3,a4,a5,a6,a7] T):=aE h 0 x0
 have h1:((W.setCell ⟨g,0,none⟩ x0).setCell ⟨g,1,none⟩ x1).heap[g]?=some (.cells #[x0,x1,a2,a3,a4,a5,a6,a7] T):=aE h0 1 x1
 have h2:(((W.setCell ⟨g,0,none⟩ x0).setCell ⟨g,1,none⟩ x1).setCell ⟨g,2,none⟩ x2).heap[g]?=some (.cells #[x0,x1,x2,a3,a4,a5,a6,a7] T):=aE h1 2 x2
 have h3:((((W.setCell ⟨g,0,none⟩ x0).setCell ⟨g,1,none⟩ x1).setCell ⟨g,2,none⟩ x2).setCell ⟨g,3,none⟩ x3).heap[g]?=some (.cells #[x0,x1,x2,x3,a4,a5,a6,a7] T):=aE h2 3 x3
 have h4:(((((W.setCell ⟨g,0,none⟩ x0).setCell ⟨g,1,none⟩ x1).setCell ⟨g,2,none⟩ x2).setCell ⟨g,3,none⟩ x3).setCell ⟨g,4,none⟩ x4).heap[g]?=some (.cells #[x0,x1,x2,x3,x4,a5,a6,a7] T):=aE h3 4 x4
 have h5:((((((W.setCell ⟨g,0,none⟩ x0).setCell ⟨g,1,none⟩ x1).setCell ⟨g,2,none⟩ x2).setCell ⟨g,3,none⟩ x3).setCell ⟨g,4,none⟩ x4).setCell ⟨g,5,none⟩ x5).heap[g]?=some (.cells #[x0,x1,x2,x3,x4,x5,a6,a7] T):=aE h4 5 x5
 have h6:(((((((W.setCell ⟨g,0,none⟩ x0).setCell ⟨g,1,none⟩ x1).setCell ⟨g,2,none⟩ x2).setCell ⟨g,3,none⟩ x3).setCell ⟨g,4,none⟩ x4).setCell ⟨g,5,none⟩ x5).setCell ⟨g,6,none⟩ x6).heap[g]?=some (.cells #[x0,x1,x2,x3,x4,x5,x6,a7] T):=aE h5 6 x6
 have h7:((((((((W.setCell ⟨g,0,none⟩ x0).setCell ⟨g,1,none⟩ x1).setCell ⟨g,2,none⟩ x2).setCell ⟨g,3,none⟩ x3).setCell ⟨g,4,none⟩ x4).setCell ⟨g,5,none⟩ x5).setCell ⟨g,6,none⟩ x6).setCell ⟨g,7,none⟩ x7).heap[g]?=some (.cells #[x0,x1,x2,x3,x4,x5,x6,x7] T):=aE h6 7 x7
 exact h7
theorem LT {ax ay bx by' cx cy:Int} (hax:Mz ax) (hay:Mz ay) (hbx:Mz bx) (hby:Mz by') (hcx:Mz cx) (hcy:Mz cy) (w:World) (H:aD w) :
  Calls Tryz.prog 22 #[.agg #[.int .i64 ax,.int .i64 ay],.agg #[.int .i64 bx,.int .i64 by'],.agg #[.int .i64 cx,.int .i64 cy]] w fun r w'=>r=.returned (.agg #[.float .f64 (wd (ap ax (neg cx))),.float .f64 (wd (sL ax (neg cx))),.float .f64 (wd (ap ay (neg cy))),.float .f64 (wd (sL ay (neg cy))),.float .f64 (wd (ap bx (neg cx))),.float .f64 (wd (sL bx (neg cx))),.float .f64 (wd (ap by' (neg cy))),.float .f64 (wd (sL by' (neg cy)))])∧Below w.heap.size w w':=by
 have C1:Hid (∀ W,aD W->Calls Tryz.prog 39 #[.int .i64 ax,.int .i64 cx] W fun r w'=>r=.returned (.agg #[.float .f64 (wd (ap ax (neg cx))),.float .f64 (wd (sL ax (neg cx)))])∧Below W.heap.size W w'):=fun W h=>uh hax hcx W h
 have C2:Hid (∀ W,aD W->Calls Tryz.prog 39 #[.int .i64 ay,.int .i64 cy] W fun r w'=>r=.returned (.agg #[.float .f64 (wd (ap ay (neg cy))),.float .f64 (wd (sL ay (neg cy)))])∧Below W.heap.size W w'):=fun W h=>uh hay hcy W h
 have C3:Hid (∀ W,aD W->Calls Tryz.prog 39 #[.int .i64 bx,.int .i64 cx] W fun r w'=>r=.returned (.agg #[.float .f64 (wd (ap bx (neg cx))),.float .f64 (wd (sL bx (neg cx)))])∧Below W.heap.size W w'):=fun W h=>uh hbx hcx W h
 have C4:Hid (∀ W,aD W->Calls Tryz.prog 39 #[.int .i64 by',.int .i64 cy] W fun r w'=>r=.returned (.agg #[.float .f64 (wd (ap by' (neg cy))),.float .f64 (wd (sL by' (neg cy)))])∧Below W.heap.size W w'):=fun W h=>uh hby hcy W h
 clear hax hay hbx hby hcx hcy
 generalize wd (ap ax (neg cx))=P1 at *
 generalize wd (sL ax (neg cx))=E1 at *
 generalize wd (ap ay (neg cy))=P2 at *
 generalize wd (sL ay (neg cy))=E2 at *
 generalize wd (ap bx (neg cx))=P3 at *
 generalize wd (sL bx (neg cx))=E3 at *
 generalize wd (ap by' (neg cy))=P4 at *
 generalize wd (sL by' (neg cy))=E4 at *
 have hst:∀ p x m w,(store p (.float .f64 x) m).run Tryz.prog w=stored Tryz.prog w p (.float .f64 x) m:=fun p x m w=>run_store _ w p _ m rfl
 obtain ⟨hb0,a_k,b_k,c_k,r_k,hsz0⟩:=tV w (.cells #[.int .i64 ax,.int .i64 ay] 23) (.cells #[.int .i64 bx,.int .i64 by'] 23) (.cells #[.int .i64 cx,.int .i64 cy] 23) (.cells #[.float .f64 0,.float .f64 0,.float .f64 0,.float .f64 0,.float .f64 0,.float .f64 0,.float .f64 0,.float .f64 0] 51)
 clear hsz0
 go_enter Tryz.func22,Tryz.ntmps22
 go_wp2_with fail
 generalize ((((w.alloc (.cells #[.int .i64 ax,.int .i64 ay] 23)).alloc (.cells #[.int .i64 bx,.int .i64 by'] 23)).alloc (.cells #[.int .i64 cx,.int .i64 cy] 23)).alloc (.cells #[.float .f64 0,.float .f64 0,.float .f64 0,.float .f64 0,.float .f64 0,.float .f64 0,.float .f64 0,.float .f64 0] 51))=x0 at hb0 a_k b_k c_k r_k ⊢
 replace H:=H.keeps hb0
 have KK:∀ W,Below x0.heap.size x0 W->W.cell? ⟨w.heap.size,0,none⟩=some (.int .i64 ax)∧W.cell? ⟨w.heap.size,1,none⟩=some (.int .i64 ay)∧W.cell? ⟨w.heap.size+1,0,none⟩=some (.int .i64 bx)∧W.cell? ⟨w.heap.size+1,1,none⟩=some (.int .i64 by')∧W.cell? ⟨w.heap.size+2,0,none⟩=some (.int .i64 cx)∧W.cell? ⟨w.heap.size+2,1,none⟩=some (.int .i64 cy):=fun W hb=>⟨aF (ac a_k 0 rfl) hb,aF (ac a_k 1 rfl) hb,aF (ac b_k 0 rfl) hb,aF (ac b_k 1 rfl) hb,aF (ac c_k 0 rfl) hb,aF (ac c_k 1 rfl) hb⟩
 have hC0:=(aA x0).drew
 have H0:=H.keeps hC0
 go_region_held3 (fun W=>W.cell? ⟨w.heap.size,0,none⟩=some (.int .i64 ax)∧W.cell? ⟨w.heap.size,1,none⟩=some (.int .i64 ay)∧W.cell? ⟨w.heap.size+1,0,none⟩=some (.int .i64 bx)∧W.cell? ⟨w.heap.size+1,1,none⟩=some (.int .i64 by')∧W.cell? ⟨w.heap.size+2,0,none⟩=some (.int .i64 cx)∧W.cell? ⟨w.heap.size+2,1,none⟩=some (.int .i64 cy))
  (first | (with_reducible first | assumption | exact KK _ hC0 | exact KK _ hC1 | exact KK _ hC2 | exact KK _ hC3 | exact KK _ hC4) | exact ⟨j6 (KK _ hC4).1 _ _ _ _ _ _ _ _ (by show w.heap.size≠w.heap.size+1+1+1; omega),j6 (KK _ hC4).2.1 _ _ _ _ _ _ _ _ (by show w.heap.size≠w.heap.size+1+1+1; omega),j6 (KK _ hC4).2.2.1 _ _ _ _ _ _ _ _ (by show w.heap.size+1≠w.heap.size+1+1+1; omega),j6 (KK _ hC4).2.2.2.1 _ _ _ _ _ _ _ _ (by show w.heap.size+1≠w.heap.size+1+1+1; omega),j6 (KK _ hC4).2.2.2.2.1 _ _ _ _ _ _ _ _ (by show w.heap.size+2≠w.heap.size+1+1+1; omega),j6 (KK _ hC4).2.2.2.2.2 _ _ _ _ _ _ _ _ (by show w.heap.size+2≠w.heap.size+1+1+1; omega)⟩ | fail)
  (first | (go_at_call 39; have _t:=hq3; refine (C4.out _ H3).mono ?_; rintro _ y4 ⟨rfl,hq4⟩; have hC4:=aa hC3 hq4; have H4:=H3.keeps hq4; have r4:=am hC4 r_k; have k0:=ac r4 0 rfl; have z0:=aw r4 0; have k1:=ac r4 1 rfl; have z1:=aw r4 1; have k2:=ac r4 2 rfl; have z2:=aw r4 2; have k3:=ac r4 3 rfl; have z3:=aw r4 3; have k4:=ac r4 4 rfl; have z4:=aw r4 4; have k5:=ac r4 5 rfl; have z5:=aw r4 5; have k6:=ac r4 6 rfl; have z6:=aw r4 6; have k7:=ac r4 7 rfl; have z7:=aw r4 7) | (go_at_call 39; have _t:=hq2; refine (C3.out _ H2).mono ?_; rintro _ y3 ⟨rfl,hq3⟩; have hC3:=aa hC2 hq3; have H3:=H2.keeps hq3) | (go_at_call 39; have _t:=hq1; refine (C2.out _ H1).mono ?_; rintro _ y2 ⟨rfl,hq2⟩; have hC2:=aa hC1 hq2; have H2:=H1.keeps hq2) | (go_at_call 39; refine (C1.out _ H0).mono ?_; rintro _ y1 ⟨rfl,hq1⟩; have hC1:=aa hC0 hq1; have H1:=H0.keeps hq1))
 all_goals go_wp2
 have q8:=wj r4 (.float .f64 P1) (.float .f64 E1) (.float .f64 P2) (.float .f64 E2) (.float .f64 P3) (.float .f64 E3) (.float .f64 P4) (.float .f64 E4)
 have e0:=ac q8 0 rfl
 have e1:=ac q8 1 rfl
 have e2:=ac q8 2 rfl
 have e3:=ac q8 3 rfl
 have e4:=ac q8 4 rfl
 have e5:=ac q8 5 rfl
 have e6:=ac q8 6 rfl
 have e7:=ac q8 7 rfl
 exact bodyPost_ret (v:=.agg #[.float .f64 P1,.float .f64 E1,.float .f64 P2,.float .f64 E2,.float .f64 P3,.float .f64 E3,.float .f64 P4,.float .f64 E4]) (by simp [results,Tryz.results22,go_sem,e0,e1,e2,e3,e4,e5,e6,e7]) rfl ⟨rfl,(((((((((aa hb0 hC4).setCell (p:=⟨w.heap.size+3,0,none⟩) (show w.heap.size<=w.heap.size+3 by omega) _).setCell (p:=⟨w.heap.size+3,1,none⟩) (show w.heap.size<=w.heap.size+3 by omega) _).setCell (p:=⟨w.heap.size+3,2,none⟩) (show w.heap.size<=w.heap.size+3 by omega) _).setCell (p:=⟨w.heap.size+3,3,none⟩) (show w.heap.size<=w.heap.size+3 by omega) _).setCell (p:=⟨w.heap.size+3,4,none⟩) (show w.heap.size<=w.heap.size+3 by omega) _).setCell (p:=⟨w.heap.size+3,5,none⟩) (show w.heap.size<=w.heap.size+3 by omega) _).setCell (p:=⟨w.heap.size+3,6,none⟩) (show w.heap.size<=w.heap.size+3 by omega) _).setCell (p:=⟨w.heap.size+3,7,none⟩) (show w.heap.size<=w.heap.size+3 by omega) _)⟩
def jJ (V:Nat->Int):Nat->Int | 0=>0 | m+1=>jJ V m+V m
theorem Ka (K:Nat):Bd K 0:=⟨0,by rw [Int.zero_mul],by have:=aO (2*K); omega,by have:=aO (2*K); omega⟩
theorem Fg {a b:Nat->aL} {V W:Nat->Int}:∀ m,(∀ i,i<m->(a i).V=V i∧fs (a i))->(∀ i,i<m->(b i).V=W i∧fs (b i))->kP a b m*2^4194304=jJ (fun i=>V i*W i) m
 | 0,_,_=>by show 0*_=(0:Int); rw [Int.zero_mul]
 | m+1,h,k=>by
  have h1:=h m (by omega)
  have k1:=k m (by omega)
  unfold fs at h1 k1
  show (kP a b m+oz (a m) (b m))*2^4194304=jJ (fun i=>V i*W i) m+V m*W m
  rw [Int.add_mul,Fg m (fun i hi=>h i (by omega)) (fun i hi=>k i (by omega)),uB (by omega) (by omega),h1.1,k1.1]
theorem Hp {x:aL} {V:Int} (ok:cB x=true) (hV:x.V=V) (hb:Bd 4000 V):fs x:=by
 have hy:=(th ok).1
 unfold fs
 rcases hy.form with ⟨_,_,h0⟩ | ⟨h0,_⟩
 ·omega
 ·rw [hV] at hy
  have:=JZ hb hy (by omega) h0
  omega
theorem wk {W:World} {p:Addr} {v:Value} (h:W.cell? p=some v) {g o0 o1 o2:Nat} (x y z:Value) (hg:p.block≠g):(((W.setCell ⟨g,o0,none⟩ x).setCell ⟨g,o1,none⟩ y).setCell ⟨g,o2,none⟩ z).cell? p=some v :=
 ((EI W g o0 o1 o2 x y z).cell (World.block_lt_of_cell? W _ h) hg).trans h
theorem zc {FT:Nat} (ao:Option Addr) (n ca:Nat) (d:Nat->Int) (w:World) (hR:aQ w ao n ca d) (hn:n<=100000) (ok:∀ i,i<n->ak (d i)=true) (H:aD w) :
  Calls Tryz.prog 124 #[.agg #[.func (.func 20) #[] #[],.func (.func 42) #[] #[],.func (.func 62) #[] #[],.func (.func FT) #[] #[]],.slice ao n ca] w fun x w'=>∃ g q,x=.returned (.slice (some ⟨g,0,none⟩) n n)∧cN w' (some ⟨g,0,none⟩) n n q∧Below w.heap.size w w'∧∀ i,i<n->cB (q i)=true∧(q i).V=ar (d i)∧fs (q i):=by
 have hst:∀ p F c m w,(store p (.func (.func F) #[] c) m).run Tryz.prog w=stored Tryz.prog w p (.func (.func F) #[] c) m:=fun p F c m w=>run_store _ w p _ m rfl
 have hE:∀ (cap:Array Value) (w:World),(callFunc 62 cap).run Tryz.prog w=.ok (.enter 62 cap) w:=by intro cap w; simp [go_sem]
 have hla:=hR.le
 have hma:=hR.max
 have hmake:=mS n hn
 have hbA:=ah w (.cells #[.func (.func 20) #[] #[],.func (.func 42) #[] #[],.func (.func 62) #[] #[],.func (.func FT) #[] #[]] 106)
 have gA:=aB w (.cells #[.func (.func 20) #[] #[],.func (.func 42) #[] #[],.func (.func 62) #[] #[],.func (.func FT) #[] #[]] 106)
 have fA:=ac gA 2 rfl
 go_enter Tryz.func124,Tryz.ntmps124
 go_wp2_with fail
 clear fA
 have HSA:Hid ((w.alloc (.cells #[.func (.func 20) #[] #[],.func (.func 42) #[] #[],.func (.func 62) #[] #[],.func (.func FT) #[] #[]] 106)).heap.size=w.heap.size+1):=a8 _ _
 generalize w.alloc (.cells #[.func (.func 20) #[] #[],.func (.func 42) #[] #[],.func (.func 62) #[] #[],.func (.func FT) #[] #[]] 106)=wa at hbA gA HSA ⊢
 have hb0:=ah wa (.cells (madeCells #[.bool false,.slice none 0 0,.int .i64 0] (n*3)) 34)
 have g0:=aB wa (.cells (madeCells #[.bool false,.slice none 0 0,.int .i64 0] (n*3)) 34)
 have HB0:Hid (iX (wa.alloc (.cells (madeCells #[.bool false,.slice none 0 0,.int .i64 0] (n*3)) 34)) wa.heap.size n 0 (fun _=>default)):=⟨_,g0,by rw [size_madeCells],fun i hi=>by omega⟩
 clear g0 hmake
 generalize wa.alloc (.cells (madeCells #[.bool false,.slice none 0 0,.int .i64 0] (n*3)) 34)=wx at hb0 HB0 ⊢
 rw [HSA.out] at HB0
 go_loopw [12] (fun iv wr=>∃ (k:Nat) (q:Nat->aL),k<=n∧iv=.int .i64 k∧Hid (iX wr (w.heap.size+1) n k q)∧Hid (∀ i,i<k->cB (q i)=true∧(q i).V=ar (d i)∧fs (q i))∧Hid (∀ i b' off,i<k->(q i).ao=some ⟨b',off,none⟩->0<(q i).n->(w.heap.size+1)<b')∧Below wa.heap.size wa wr) (fun iv _=>n-(intOf iv).toNat)
 case atStart=>exact ⟨0,fun _=>default,Nat.zero_le _,(by first | rfl | simp),HB0,fun i hi=>by omega,fun i b' off hi=>by omega,hb0⟩
 case round=>
  obtain ⟨k,q,hk,rfl,HQ,HF,HG,hbw⟩:=hrel
  clear HB0 hb0
  by_cases hlt:k<n
  ·obtain ⟨ba,oa,rfl,hba,hca⟩:=hR.spot (by omega)
   have c0:=aF (hca k hlt) (aa hbA hbw)
   have c1:=aF (ac gA 2 rfl) hbw
   have HW:=H.keeps (aa hbA hbw)
   have CP:Hid (∀ W,Below wr.heap.size wr W->Calls Tryz.prog 62 #[.int .i64 (d k)] W fun r w'=>∃ v,r=.returned (.tuple #[v,.int .i64 0])∧bG W w' (ar (d k)) v):=fun W h=>tn (ok k hlt) (HW.keeps h)
   obtain ⟨cur,hcur,hsz,hcells⟩:=HQ.out
   have e0:k*3<cur.size:=by omega
   have e1:k*3+1<cur.size:=by omega
   have e2:k*3+2<cur.size:=by omega
   obtain ⟨v0,hv0⟩:∃ v,cur[k*3]?=some v:=⟨_,Array.getElem?_eq_getElem e0⟩
   obtain ⟨v1,hv1⟩:∃ v,cur[k*3+1]?=some v:=⟨_,Array.getElem?_eq_getElem e1⟩
   obtain ⟨v2,hv2⟩:∃ v,cur[k*3+2]?=some v:=⟨_,Array.getElem?_eq_getElem e2⟩
   have HV:Hid (cur[k*3]?=some v0∧cur[k*3+1]?=some v1∧cur[k*3+2]?=some v2):=⟨hv0,hv1,hv2⟩
   have HCUR:Hid (wr.heap[(w.heap.size+1)]?=some (.cells cur 34 (0,0))):=hcur
   have hgs:(w.heap.size+1)<wr.heap.size:=(Array.getElem?_eq_some_iff.1 hcur).1
   have HBA:Hid (ba<w.heap.size):=hba
   clear hcells hv0 hv1 hv2 hcur hsz e0 e1 e2 hca hba
   have i0:(0:Int)<=(k:Int):=by omega
   have i1:(k:Int)<(n:Int):=by omega
   have hbp:Hid (Bd 4000 (ar (d k))):=dN (ok k hlt)
   generalize hdk:d k=dk at c0 CP hbp
   generalize hpv:ar dk=pv at CP hbp
   have HPV:Hid (ar (d k)=pv):=by rw [hdk]; exact hpv
   clear hdk hpv
   have kc0:wr.drew.cell? ⟨ba,oa+k,none⟩=some (.int .i64 dk)∧wr.drew.cell? ⟨w.heap.size,2,none⟩=some (.func (.func 62) #[] #[]):=⟨c0,c1⟩
   have hb1:=aA wr
   go_wp2_with fail
   go_region_held3 (fun W=>W.cell? ⟨ba,oa+k,none⟩=some (.int .i64 dk)∧W.cell? ⟨w.heap.size,2,none⟩=some (.func (.func 62) #[] #[]))
    (first | assumption | exact ⟨wk kc1.1 _ _ _ (show ba≠(w.heap.size+1) by have:=HBA.out; omega),wk kc1.2 _ _ _ (show w.heap.size≠(w.heap.size+1) by omega)⟩ | fail)
    ((go_at_call 62; refine (CP.out _ hb1.drew).mono ?_; rintro y w3 ⟨s,rfl,hA⟩; have hbv1:=hA.below; have kc1:=And.intro (aF kc0.1 hbv1) (aF kc0.2 hbv1); obtain ⟨sg0,so,sn,sc,se,rfl⟩:=bW hA; have q0:=(hbv1.block (w.heap.size+1) hgs).trans HCUR.out; have x0:=ac q0 (k*3) HV.out.1; have x1:=ac q0 (k*3+1) HV.out.2.1; have x2:=ac q0 (k*3+2) HV.out.2.2; have z0:=aw q0 (k*3); have z1:=aw q0 (k*3+1); have z2:=aw q0 (k*3+2)))
   all_goals go_wp2
   all_goals
    go_roundw
    case rel=>
     have hfr:∀ b' off,so=some ⟨b',off,none⟩->0<sn->w.heap.size+1<b':=fun b' off he _=>by
      obtain ⟨ng,s,m,e,heq,_,hAn⟩:=hA
      simp only [Value.agg.injEq,Array.mk.injEq,List.cons.injEq,Value.bool.injEq,Value.int.injEq,true_and,and_true] at heq
      obtain ⟨_,rfl,_⟩:=heq
      obtain ⟨_,_,_,_,hgd⟩:=hAn.open
      have h9:=hgd b' off he
      have h8:w.heap.size+1<wr.drew.heap.size:=hgs
      omega
     obtain ⟨x,hxv,hxr,hxo,hxV⟩:=hA.num.open (hbp.out.ok (by omega))
     have hxe:x.ng=sg0∧x.ao=so∧x.n=sn∧x.cap=sc∧x.e=se:=by
      unfold aL.v at hxv
      simp only [Value.agg.injEq,Array.mk.injEq,List.cons.injEq,Value.bool.injEq,Value.int.injEq,Value.slice.injEq,true_and,and_true] at hxv
      obtain ⟨e1,⟨e2,e3,e4⟩,e5⟩:=hxv
      exact ⟨e1.symm,e2.symm,e3.symm,e4.symm,e5.symm⟩
     obtain ⟨rfl,rfl,rfl,rfl,rfl⟩:=hxe
     refine ⟨k+1,o9 q k x,by omega,by go_num,iX.step (x:=x) HQ.out (aa hb1.drew hbv1) hxr hlt HG.out hfr,fun i hi=>?_,fun i b' off hi he hn'=>?_,bC (aa hbw (aa hb1.drew hbv1)) (by have:=HSA.out; omega) _ _ _⟩
     ·by_cases e:i=k
      ·subst e
       rw [gC]
       exact ⟨hxo,hxV.trans HPV.out.symm,Hp hxo hxV hbp.out⟩
      ·rw [fq _ _ e]
       exact HF.out i (by omega)
     ·by_cases e:i=k
      ·subst e
       rw [gC] at he hn'
       exact hfr b' off he hn'
      ·rw [fq _ _ e] at he hn'
       exact HG.out i b' off (by omega) he hn'
    case measure=>simp [intOf]; omega
  ·obtain rfl:k=n:=by omega
   go_wp2
   go_ret
   exact ⟨_,q,rfl,HQ.out.nums hn,aa hbA hbw,HF.out⟩
theorem Hq {ao bo:Option Addr} {n ca cb g:Nat} (w:World) (hg:w.heap[g]?=some (.cells #[.slice ao n ca,.slice bo n cb] 32 (0,0))) (hn:n<=4096) (H:aD w) :
  Calls Tryz.prog 97 #[.int .i64 0,.slice (some ⟨g,0,none⟩) 2 2] w fun r w'=>r=.returned (.int .i64 0)∧Below w.heap.size w w':=by
 have CT:Hid (∀ W,aD W->Calls Tryz.prog 100 #[.agg #[.bool false,.slice none 0 0,.int .i64 0],.int .i64 0] W fun r w'=>r=.returned (.tuple #[.int .i64 0,.bool false,.int .i64 0])∧Below W.heap.size W w'):=fun W h=>by
  have ok0:cB ⟨false,none,0,0,fun _=>0,0⟩=true:=by decide
  have:=Ic 0 ⟨by omega,by omega⟩ ⟨false,none,0,0,fun _=>0,0⟩ W ⟨Nat.le_refl _,by decide,fun _=>rfl,fun q=>by cases q⟩ ok0 h.env h.tab
  have e:=qL ok0 rfl 0
  unfold iw at e
  rw [e] at this
  exact this
 have h1:¬ (4096:Int)<(n:Int):=by omega
 go_enter Tryz.func97,Tryz.ntmps97
 go_wp2_with fail
 refine (CT.out _ H).mono ?_
 rintro _ y1 ⟨rfl,hw1⟩
 replace hg:=am hw1 hg
 go_wp2_with fail
 go_loopw [22] (fun iv wr=>∃ k:Nat,k<=2∧iv=.int .i64 k∧Below y1.heap.size y1 wr) (fun iv _=>2-(intOf iv).toNat)
 case atStart=>exact ⟨0,by omega,rfl,aA _⟩
 case round=>
  obtain ⟨k,hk,rfl,hbw⟩:=hrel
  have hg':=am hbw hg
  have c0:=ac hg' 0 rfl
  have c1:=ac hg' 1 rfl
  rcases (show k=0∨k=1∨k=2 by omega) with rfl | rfl | rfl
  ·go_wp2
   go_roundw
   case rel=>exact ⟨0+1,by omega,by go_num,hbw⟩
   case measure=>simp [intOf]
  ·go_wp2
   go_roundw
   case rel=>exact ⟨1+1,by omega,by go_num,hbw⟩
   case measure=>simp [intOf]
  ·go_wp2
   go_ret
   exact ⟨rfl,aa hw1 hbw⟩
theorem zd {x:Int} (rx:aj x) (px:ak x=true):aG (ap x (neg x))≠4∧FloatKind.f64.format.order (wd (ap x (neg x))) 0=some .eq:=by
 obtain ⟨n1,n2,n3⟩:=bS rx px
 have s:=eI rx n1 px n2
 rw [n3,Int.add_right_neg] at s
 have pk:=s.fin (by have:=fY; have:=p2 2097; rw [Int.natAbs_zero]; omega)
 have nr:=s.nr pk
 have z:iV (ap x (neg x))=0:=aY ⟨0,⟨0,by rw [Int.mul_zero]⟩,by omega⟩ nr
 have r0:rg (ap x (neg x))=0:=by
  have k:=my s.rn
  by_cases c:rg (ap x (neg x))=0
  ·exact c
  ·exfalso
   have a:=ix (ap x (neg x))
   rw [z] at a
   have q:=(fQ s.rn).2
   have:=j9 Ieee.double (show 0<(rg (ap x (neg x))).toNat by omega)
   omega
 exact ⟨aS pk,(lv s.rn pk).1 r0⟩
theorem Kb {FT:Nat} {ao bo:Option Addr} {n ca cb g:Nat} {a b:Nat->Int} (w:World) (hg:w.heap[g]?=some (.cells #[.slice ao n ca,.slice bo n cb] 32 (0,0))) (ha:aQ w ao n ca a) (hb:aQ w bo n cb b) (fa:∀ i,i<n->aj (a i)∧ak (a i)=true) (fb:∀ i,i<n->aj (b i)∧ak (b i)=true) :
  Calls Tryz.prog 98 #[.agg #[.func (.func 20) #[] #[],.func (.func 42) #[] #[],.func (.func 62) #[] #[],.func (.func FT) #[] #[]],.slice (some ⟨g,0,none⟩) 2 2] w fun r w'=>r=.returned (.float .f64 0)∧Below w.heap.size w w':=by
 have hst:∀ p F c m w,(store p (.func (.func F) #[] c) m).run Tryz.prog w=stored Tryz.prog w p (.func (.func F) #[] c) m:=fun p F c m w=>run_store _ w p _ m rfl
 have hE:∀ (cap:Array Value) (w:World),(callFunc 20 cap).run Tryz.prog w=.ok (.enter 20 cap) w:=by intro cap w; simp [go_sem]
 have hcv:∀ w,(convert 3 47 (.int .i64 1)).run Tryz.prog w=.ok (.float .f64 4607182418800017408) w:=fun _=>by kernel_rfl
 have hla:=ha.le
 have hma:=ha.max
 have hlb:=hb.le
 have hmb:=hb.max
 have hbA:=ah w (.cells #[.func (.func 20) #[] #[],.func (.func 42) #[] #[],.func (.func 62) #[] #[],.func (.func FT) #[] #[]] 106)
 have gA:=aB w (.cells #[.func (.func 20) #[] #[],.func (.func 42) #[] #[],.func (.func 62) #[] #[],.func (.func FT) #[] #[]] 106)
 have fA:=ac (az (.cells #[.func (.func 20) #[] #[],.func (.func 42) #[] #[],.func (.func 62) #[] #[],.func (.func FT) #[] #[]] 106) hg) 0 rfl
 go_enter Tryz.func98,Tryz.ntmps98
 go_wp2_with fail
 clear fA
 generalize w.alloc (.cells #[.func (.func 20) #[] #[],.func (.func 42) #[] #[],.func (.func 62) #[] #[],.func (.func FT) #[] #[]] 106)=wa at hbA gA ⊢
 go_loopw [5,16] (fun sv iv wr=>∃ k:Nat,k<=n∧iv=.int .i64 k∧sv=.float .f64 0∧Below wa.heap.size wa wr) (fun _ iv _=>n-(intOf iv).toNat)
 case atStart=>exact ⟨0,Nat.zero_le _,rfl,rfl,aA _⟩
 case round=>
  obtain ⟨k,hk,rfl,rfl,hbw⟩:=hrel
  by_cases hlt:k<n
  ·have i0:(0:Int)<=(k:Int):=by omega
   have i1:(k:Int)<(n:Int):=by omega
   obtain ⟨ba,oa,rfl,hba,hca⟩:=ha.spot (by omega)
   obtain ⟨bb,ob,rfl,hbb,hcb⟩:=hb.spot (by omega)
   obtain ⟨ra,pa⟩:=fa k hlt
   obtain ⟨rb,pb⟩:=fb k hlt
   have hbq:=aa hbA hbw
   have CA:=aF (hca k hlt) hbq
   have CB:=aF (hcb k hlt) hbq
   have CF:=aF (ac gA 0 rfl) hbw
   have g':=am hbq hg
   go_wp2_with fail
   go_loopw [7,8,22] (fun tv fv jv wr2=>∃ (j:Nat) (p:Int) (x:Nat),j<=2∧jv=.int .i64 j∧fv=.bool true∧tv=.float .f64 x∧Hid (FW p x)∧Below wr.heap.size wr wr2) (fun _ _ jv _=>2-(intOf jv).toNat)
   case atStart=>exact ⟨0,4607182418800017408,4607182418800017408,by omega,rfl,rfl,rfl,(FW.pat (p:=4607182418800017408) (by decide) (by unfold aj; decide)),aA _⟩
   case round=>
    obtain ⟨j,p,x,hj,rfl,rfl,rfl,HX,hbw2⟩:=hrel
    have A0:=aF CA hbw2
    have B0:=aF CB hbw2
    have F0:=aF CF hbw2
    have g2:=am hbw2 g'
    have c0:=ac g2 0 rfl
    have c1:=ac g2 1 rfl
    clear g2
    rcases (show j=0∨j=1∨j=2 by omega) with rfl | rfl | rfl
    ·have C1:Hid (∀ W,Calls Tryz.prog 20 #[.int .i64 (a k)] W fun e w'=>e=.returned (.float .f64 (wd (a k)))∧w'=W):=fun W=>aW _ W
     have hz:=zd ra pa
     have hd:=fun W=>gB (P:=Tryz.prog) 47 (FW.pat (aS pa) ra) (FW.pat (aS pa) ra) hz.1 W
     have ho:=hz.2
     have hfx:=FW.pat (aS pa) ra
     obtain ⟨fz,fw,hf⟩:∃ (f:World->Nat) (h:World->World),∀ W,(binOp .mul 47 (.float .f64 x) (.float .f64 (wd (a k)))).run Tryz.prog W=.ok (.float .f64 (f W)) (h W)∧FW (aq p (a k)) (f W)∧(h W=W∨h W=W.drew):=by
      have:=fun W=>fF (P:=Tryz.prog) 47 HX.out hfx W
      obtain ⟨f,h1⟩:=Classical.skolem.1 this
      obtain ⟨h,h2⟩:=Classical.skolem.1 h1
      exact ⟨f,h,h2⟩
     have hm:=fun W=>(hf W).1
     have HM:Hid (∀ W,FW (aq p (a k)) (fz W)∧(fw W=W∨fw W=W.drew)):=fun W=>(hf W).2
     clear hf hfx hz
     generalize wd (ap (a k) (neg (a k)))=D at *
     generalize wd (a k)=X at *
     generalize a k=Y at *
     clear B0
     go_wp2_with fail
     go_quiet ((go_at_call 20; with_reducible exact Calls.quiet_of_same (C1.out _)))
     go_wp2
     go_roundw
     case rel=>
      refine ⟨0+1,_,_,by omega,by go_num,rfl,rfl,(HM.out _).1,?_⟩
      rcases (HM.out (wr.drewN nq)).2 with e | e <;> rw [e]
      ·exact iu hbw2 nq
      ·exact (iu hbw2 nq).drew
     case measure=>simp [intOf]
    ·have C1:Hid (∀ W,Calls Tryz.prog 20 #[.int .i64 (b k)] W fun e w'=>e=.returned (.float .f64 (wd (b k)))∧w'=W):=fun W=>aW _ W
     have hz:=zd rb pb
     have hd:=fun W=>gB (P:=Tryz.prog) 47 (FW.pat (aS pb) rb) (FW.pat (aS pb) rb) hz.1 W
     have ho:=hz.2
     have hfx:=FW.pat (aS pb) rb
     obtain ⟨fz,fw,hf⟩:∃ (f:World->Nat) (h:World->World),∀ W,(binOp .mul 47 (.float .f64 x) (.float .f64 (wd (b k)))).run Tryz.prog W=.ok (.float .f64 (f W)) (h W)∧FW (aq p (b k)) (f W)∧(h W=W∨h W=W.drew):=by
      have:=fun W=>fF (P:=Tryz.prog) 47 HX.out hfx W
      obtain ⟨f,h1⟩:=Classical.skolem.1 this
      obtain ⟨h,h2⟩:=Classical.skolem.1 h1
      exact ⟨f,h,h2⟩
     have hm:=fun W=>(hf W).1
     have HM:Hid (∀ W,FW (aq p (b k)) (fz W)∧(fw W=W∨fw W=W.drew)):=fun W=>(hf W).2
     clear hf hfx hz
     generalize wd (ap (b k) (neg (b k)))=D at *
     generalize wd (b k)=X at *
     generalize b k=Y at *
     clear A0
     go_wp2_with fail
     go_quiet ((go_at_call 20; with_reducible exact Calls.quiet_of_same (C1.out _)))
     go_wp2
     go_roundw
     case rel=>
      refine ⟨1+1,_,_,by omega,by go_num,rfl,rfl,(HM.out _).1,?_⟩
      rcases (HM.out (wr.drewN nq)).2 with e | e <;> rw [e]
      ·exact iu hbw2 nq
      ·exact (iu hbw2 nq).drew
     case measure=>simp [intOf]
    ·clear A0 B0 F0 c0 c1
     go_wp2
     go_roundw
     case rel=>exact ⟨k+1,by omega,by go_num,rfl,aa hbw hbw2⟩
     case measure=>simp [intOf]; omega
  ·obtain rfl:k=n:=by omega
   go_wp2
   go_ret
   exact ⟨rfl,aa hbA hbw⟩
theorem ze {a b:Nat->aL} {V W:Nat->Int} {K:Nat} (hK:K<=10000):∀ m,m<=5000->(∀ i,i<m->(a i).V=V i∧fs (a i)∧Bd K (V i))->(∀ i,i<m->(b i).V=W i∧fs (b i)∧Bd K (W i))->Bd (2*K+m) (kP a b m)
 | 0,_,_,_=>Ka _
 | m+1,hm,h,k=>by
  obtain ⟨h1,h2,h3⟩:=h m (by omega)
  obtain ⟨k1,k2,k3⟩:=k m (by omega)
  unfold fs at h2 k2
  have e:=uB (x:=a m) (y:=b m) (by omega) (by omega)
  rw [h1,k1] at e
  exact (ze hK m (by omega) (fun i hi=>h i (by omega)) (fun i hi=>k i (by omega))).add ((h3.mul k3 e (by omega)).up (by omega) (by omega)) (by omega)
theorem LU {n g1 g2:Nat} {q1 q2:Nat->aL} {a b:Nat->Int} (w:World) (N1:cN w (some ⟨g1,0,none⟩) n n q1) (N2:cN w (some ⟨g2,0,none⟩) n n q2) (F1:∀ i,i<n->cB (q1 i)=true∧(q1 i).V=ar (a i)∧fs (q1 i)) (F2:∀ i,i<n->cB (q2 i)=true∧(q2 i).V=ar (b i)∧fs (q2 i)) (fa:∀ i,i<n->ak (a i)=true) (fb:∀ i,i<n->ak (b i)=true) (hn:n<=5000) (hT:dV w) :
  Calls Tryz.prog 125 #[.slice (some ⟨g1,0,none⟩) n n,.slice (some ⟨g2,0,none⟩) n n] w fun r w'=>∃ v V,r=.returned (.tuple #[v,.int .i64 0])∧bG w w' V v∧V*2^4194304=jJ (fun i=>ar (a i)*ar (b i)) n∧Bd 14000 V:=by
 have e:=Fg (a:=q1) (b:=q2) n (fun i hi=>(F1 i hi).2) (fun i hi=>(F2 i hi).2)
 have hB:=ze (a:=q1) (b:=q2) (K:=4000) (by omega) n hn (fun i hi=>⟨(F1 i hi).2.1,(F1 i hi).2.2,dN (fa i hi)⟩) (fun i hi=>⟨(F2 i hi).2.1,(F2 i hi).2.2,dN (fb i hi)⟩)
 have hB':Bd 14000 (kP q1 q2 n):=hB.up (by omega) (by omega)
 refine (JX _ _ n n n q1 q2 w N1 N2 (decide_eq_true fun i hi=>(F1 i hi).1) (decide_eq_true fun i hi=>(F2 i hi).1) (fun i hi=>(F1 i hi).2.2) (fun i hi=>(F2 i hi).2.2) (by omega) hT).mono ?_
 rintro _ w' ⟨v,er,rfl,hF⟩
 obtain ⟨rfl,hA⟩:=hF.yes (hB'.ok (by omega))
 exact ⟨v,_,rfl,hA,e,hB'⟩
theorem LV {FT:Nat} {ao bo:Option Addr} {n ca cb gl:Nat} {a b:Nat->Int} (w:World) (l_k:w.heap[gl]?=some (.cells #[.slice ao n ca,.slice bo n cb] 32 (0,0))) (RA:aQ w ao n ca a) (RB:aQ w bo n cb b) (fa:∀ i,i<n->ak (a i)=true) (fb:∀ i,i<n->ak (b i)=true) (hn:n<=5000) (H:aD w) :
    Calls Tryz.prog 99 #[.agg #[.func (.func 20) #[] #[],.func (.func 42) #[] #[],.func (.func 62) #[] #[],.func (.func FT) #[] #[]],.slice (some ⟨gl,0,none⟩) 2 2] w fun r w'=>∃ v V,r=.returned v∧df w' v V∧V*2^4194304=jJ (fun i=>ar (a i)*ar (b i)) n∧Bd 14000 V∧Below w.heap.size w w':=by
  have hst:∀ p F c m w,(store p (.func (.func F) #[] c) m).run Tryz.prog w=stored Tryz.prog w p (.func (.func F) #[] c) m:=fun p F c m w=>run_store _ w p _ m rfl
  have NA:Hid (∀ W,aQ W ao n ca a->aD W->Calls Tryz.prog 124 #[.agg #[.func (.func 20) #[] #[],.func (.func 42) #[] #[],.func (.func 62) #[] #[],.func (.func FT) #[] #[]],.slice ao n ca] W fun x w'=>∃ g q,x=.returned (.slice (some ⟨g,0,none⟩) n n)∧cN w' (some ⟨g,0,none⟩) n n q∧Below W.heap.size W w'∧∀ i,i<n->cB (q i)=true∧(q i).V=ar (a i)∧fs (q i)):=fun W hR h=>zc ao n ca a W hR (by omega) fa h
  have NB:Hid (∀ W,aQ W bo n cb b->aD W->Calls Tryz.prog 124 #[.agg #[.func (.func 20) #[] #[],.func (.func 42) #[] #[],.func (.func 62) #[] #[],.func (.func FT) #[] #[]],.slice bo n cb] W fun x w'=>∃ g q,x=.returned (.slice (some ⟨g,0,none⟩) n n)∧cN w' (some ⟨g,0,none⟩) n n q∧Below W.heap.size W w'∧∀ i,i<n->cB (q i)=true∧(q i).V=ar (b i)∧fs (q i)):=fun W hR h=>zc bo n cb b W hR (by omega) fb h
  have DB:Hid (∀ (g1 g2:Nat) (q1 q2:Nat->aL) W,cN W (some ⟨g1,0,none⟩) n n q1->cN W (some ⟨g2,0,none⟩) n n q2->(∀ i,i<n->cB (q1 i)=true∧(q1 i).V=ar (a i)∧fs (q1 i))->(∀ i,i<n->cB (q2 i)=true∧(q2 i).V=ar (b i)∧fs (q2 i))->dV W->Calls Tryz.prog 125 #[.slice (some ⟨g1,0,none⟩) n n,.slice (some ⟨g2,0,none⟩) n n] W fun r w'=>∃ v V,r=.returned (.tuple #[v,.int .i64 0])∧bG W w' V v∧V*2^4194304=jJ (fun i=>ar (a i)*ar (b i)) n∧Bd 14000 V):=fun g1 g2 q1 q2 W N1 N2 F1 F2 hT=>LU W N1 N2 F1 F2 fa fb hn hT
  have hla:=RA.le
  have hma:=RA.max
  have hlb:=RB.le
  have hmb:=RB.max
  clear fa fb
  generalize jJ (fun i=>ar (a i)*ar (b i)) n=sv at *
  replace l_k:=az (.cells #[.bool false,.slice none 0 0,.int .i64 0] 34) (az (.cells #[.func (.func 20) #[] #[],.func (.func 42) #[] #[],.func (.func 62) #[] #[],.func (.func FT) #[] #[]] 106) l_k)
  have k_k:(w.alloc (.cells #[.func (.func 20) #[] #[],.func (.func 42) #[] #[],.func (.func 62) #[] #[],.func (.func FT) #[] #[]] 106)).heap[w.heap.size]?=some (.cells #[.func (.func 20) #[] #[],.func (.func 42) #[] #[],.func (.func 62) #[] #[],.func (.func FT) #[] #[]] 106):=bJ (.cells #[.func (.func 20) #[] #[],.func (.func 42) #[] #[],.func (.func 62) #[] #[],.func (.func FT) #[] #[]] 106) (by rfl)
  have hb0:=ah w (.cells #[.func (.func 20) #[] #[],.func (.func 42) #[] #[],.func (.func 62) #[] #[],.func (.func FT) #[] #[]] 106)
  replace k_k:=az (.cells #[.bool false,.slice none 0 0,.int .i64 0] 34) k_k
  have r_k:((w.alloc (.cells #[.func (.func 20) #[] #[],.func (.func 42) #[] #[],.func (.func 62) #[] #[],.func (.func FT) #[] #[]] 106)).alloc (.cells #[.bool false,.slice none 0 0,.int .i64 0] 34)).heap[w.heap.size+1]?=some (.cells #[.bool false,.slice none 0 0,.int .i64 0] 34):=bJ (.cells #[.bool false,.slice none 0 0,.int .i64 0] 34) (by simp only [a8])
  replace hb0:=aa hb0 (ah (w.alloc (.cells #[.func (.func 20) #[] #[],.func (.func 42) #[] #[],.func (.func 62) #[] #[],.func (.func FT) #[] #[]] 106)) (.cells #[.bool false,.slice none 0 0,.int .i64 0] 34))
  go_enter Tryz.func99,Tryz.ntmps99
  go_wp2_with fail
  rename_i Q0 K00 hK00
  generalize ((w.alloc (.cells #[.func (.func 20) #[] #[],.func (.func 42) #[] #[],.func (.func 62) #[] #[],.func (.func FT) #[] #[]] 106)).alloc (.cells #[.bool false,.slice none 0 0,.int .i64 0] 34))=x0 at hb0 k_k r_k l_k ⊢
  have H:=H.keeps hb0
  have RA:=RA.keeps hb0
  have RB:=RB.keeps hb0
  have hK1:=hK00
  have HN1:∀ (g:Nat) (x1:World) (t:Array Value) (x_g:Bool) (x_o:Option Addr) (x_n x_c:Nat) (x_e:Int) (x_V:Int),#[t.getD 0 undef,.slice (some ⟨gl,0,none⟩) 2 2,.pointer (some ⟨w.heap.size,0,none⟩),t.getD 3 undef,.pointer (some ⟨w.heap.size+1,0,none⟩),t.getD 5 undef,t.getD 6 undef,.pointer (some ⟨g,0,none⟩),t.getD 8 undef,t.getD 9 undef,t.getD 10 undef,t.getD 11 undef,t.getD 12 undef,t.getD 13 undef,t.getD 14 undef,t.getD 15 undef,t.getD 16 undef,t.getD 17 undef,t.getD 18 undef,t.getD 19 undef,t.getD 20 undef,t.getD 21 undef,t.getD 22 undef,t.getD 23 undef,t.getD 24 undef,t.getD 25 undef,t.getD 26 undef,t.getD 27 undef,t.getD 28 undef,t.getD 29 undef,t.getD 30 undef,t.getD 31 undef,t.getD 32 undef,t.getD 33 undef,t.getD 34 undef,t.getD 35 undef,t.getD 36 undef]=t->x0.heap.size<=g->x1.heap[g]?=some (.cells #[.bool x_g,.slice x_o x_n x_c,.int .i64 x_e] 34 (0,0))->Below x0.heap.size x0 x1->fG w.heap.size x1 x_V (.agg #[.bool x_g,.slice x_o x_n x_c,.int .i64 x_e])->x_V*2^4194304=sv->Bd 14000 x_V->Exit.then K00 Q0 Exit.normal { tmps:=t,defers:=[] } x1:=by
    intro g_x x1 t x_g x_o x_n x_c x_e x_V ht x_ge x_k hw1 x_D x_E x_B
    obtain ⟨u1,hu⟩:∃ u:Nat->Value,t=#[u 0,.slice (some ⟨gl,0,none⟩) 2 2,.pointer (some ⟨w.heap.size,0,none⟩),u 3,.pointer (some ⟨w.heap.size+1,0,none⟩),u 5,u 6,.pointer (some ⟨g_x,0,none⟩),u 8,u 9,u 10,u 11,u 12,u 13,u 14,u 15,u 16,u 17,u 18,u 19,u 20,u 21,u 22,u 23,u 24,u 25,u 26,u 27,u 28,u 29,u 30,u 31,u 32,u 33,u 34,u 35,u 36]:=⟨fun k=>t.getD k undef,ht.symm⟩
    clear ht
    subst hu
    have H:=H.keeps hw1
    have RA:=RA.keeps hw1
    have RB:=RB.keeps hw1
    have k_k:=(hw1.block _ (Array.getElem?_eq_some_iff.1 k_k).1).trans k_k
    have r_k:=(hw1.block _ (Array.getElem?_eq_some_iff.1 r_k).1).trans r_k
    have l_k:=(hw1.block _ (Array.getElem?_eq_some_iff.1 l_k).1).trans l_k
    have hb1:=aa hb0 hw1
    have f0:=ac x_k 0 rfl
    have f1:=ac x_k 1 rfl
    have f2:=ac x_k 2 rfl
    have k0:=ac r_k 0 rfl
    have k1:=ac r_k 1 rfl
    have k2:=ac r_k 2 rfl
    have z0:=aw r_k 0
    have z1:=aw r_k 1
    have z2:=aw r_k 2
    go_wp2
    refine bodyPost_ret (v:=.agg #[.bool x_g,.slice x_o x_n x_c,.int .i64 x_e]) (by simp [results,Tryz.results99,go_sem,k0,k1,k2]) rfl ⟨_,x_V,rfl,?_,x_E,x_B,?_⟩
    · exact (fK x_D r_k _ _ _).num
    · exact bC hb1 (by omega) _ _ _
  have KK1:∀ W,Below x0.heap.size x0 W->W.cell? ⟨w.heap.size,0,none⟩=some (.func (.func 20) #[] #[])∧W.cell? ⟨w.heap.size,1,none⟩=some (.func (.func 42) #[] #[])∧W.cell? ⟨w.heap.size,2,none⟩=some (.func (.func 62) #[] #[])∧W.cell? ⟨w.heap.size,3,none⟩=some (.func (.func FT) #[] #[])∧W.cell? ⟨gl,0,none⟩=some (.slice ao n ca)∧W.cell? ⟨gl,1,none⟩=some (.slice bo n cb):=fun W hb=>⟨aF (ac k_k 0 rfl) hb,aF (ac k_k 1 rfl) hb,aF (ac k_k 2 rfl) hb,aF (ac k_k 3 rfl) hb,aF (ac l_k 0 rfl) hb,aF (ac l_k 1 rfl) hb⟩
  have hC1_0:=(aA x0).drew
  have hT1_0:Below w.heap.size w x0.drew:=hb0.drew
  have H_1_0:=H.keeps (aA x0).drew
  have RA_1_0:=RA.keeps (aA x0).drew
  have RB_1_0:=RB.keeps (aA x0).drew
  have hs1_0:=(aA x0).drew
  go_region_held3 (fun W=>W.cell? ⟨w.heap.size,0,none⟩=some (.func (.func 20) #[] #[])∧W.cell? ⟨w.heap.size,1,none⟩=some (.func (.func 42) #[] #[])∧W.cell? ⟨w.heap.size,2,none⟩=some (.func (.func 62) #[] #[])∧W.cell? ⟨w.heap.size,3,none⟩=some (.func (.func FT) #[] #[])∧W.cell? ⟨gl,0,none⟩=some (.slice ao n ca)∧W.cell? ⟨gl,1,none⟩=some (.slice bo n cb))
    (with_reducible first | assumption | exact KK1 _ (ah _ _).drew | exact KK1 _ hC1_0 | exact KK1 _ hC1_1 | exact KK1 _ hC1_2 | exact KK1 _ hC1_3 | exact KK1 _ (aa hC1_0 (ah _ _)) | exact KK1 _ (aa hC1_1 (ah _ _)) | exact KK1 _ (aa hC1_2 (ah _ _)) | exact KK1 _ (aa hC1_3 (ah _ _)) | exact KK1 _ (bC hC1_3 (Nat.le_refl _) _ _ _) | exact KK1 _ (bC hC1_3 hC1_1.size _ _ _) | exact KK1 _ (bC hC1_3 hC1_2.size _ _ _) | fail)
    (first
      | (go_at_call 125; have _t:=hs1_2; refine (DB.out _ _ _ _ _ (N1b.keeps (by with_reducible first | exact aA _ | exact ah _ _ | exact cJ _ _)) (N2.keeps (by with_reducible first | exact aA _ | exact ah _ _ | exact cJ _ _)) F1 F2 (H_1_2.keeps (by with_reducible first | exact aA _ | exact ah _ _ | exact cJ _ _)).tab).mono ?_; rintro _ y1_3 ⟨v,x_V,rfl,nm1,x_E,x_B⟩; obtain ⟨x_g,x_o,x_n,x_c,x_e,rfl⟩:=bW nm1; have hq1_3:=nm1.below; have x_A:=nm1.dan.lower (Nat.le_trans hT1_2.size (by with_reducible first | exact Nat.le_refl _ | exact (ah _ _).size | exact (cJ _ _).size)); have hs1_3:Below y1_2.heap.size y1_2 y1_3:=(by with_reducible first | exact hq1_3 | exact aa (ah _ _) hq1_3 | exact aa (cJ _ _) hq1_3); have hT1_3:=aa hT1_2 hs1_3; have hC1_3:=aa hC1_2 hs1_3; have H_1_3:=H_1_2.keeps hs1_3; have RA_1_3:=RA_1_2.keeps hs1_3; have RB_1_3:=RB_1_2.keeps hs1_3; with_reducible first | (have qz1:y1_3.heap[x0.heap.size]?=some (.cells #[.bool false,.slice none 0 0,.int .i64 0] 34 (0,0)):=am hq1_3 (am hq1_2 (am hq1_1 (gL x0 (.cells #[.bool false,.slice none 0 0,.int .i64 0] 34)))); have cz1_0:=ac qz1 0 rfl; have zz1_0:=aw qz1 0; have cz1_1:=ac qz1 1 rfl; have zz1_1:=aw qz1 1; have cz1_2:=ac qz1 2 rfl; have zz1_2:=aw qz1 2) | (have qz1:y1_3.heap[y1_1.heap.size]?=some (.cells #[.bool false,.slice none 0 0,.int .i64 0] 34 (0,0)):=am hq1_3 (am hq1_2 (aB _ _)); have cz1_0:=ac qz1 0 rfl; have zz1_0:=aw qz1 0; have cz1_1:=ac qz1 1 rfl; have zz1_1:=aw qz1 1; have cz1_2:=ac qz1 2 rfl; have zz1_2:=aw qz1 2) | (have qz1:y1_3.heap[y1_2.heap.size]?=some (.cells #[.bool false,.slice none 0 0,.int .i64 0] 34 (0,0)):=am hq1_3 (aB _ _); have cz1_0:=ac qz1 0 rfl; have zz1_0:=aw qz1 0; have cz1_1:=ac qz1 1 rfl; have zz1_1:=aw qz1 1; have cz1_2:=ac qz1 2 rfl; have zz1_2:=aw qz1 2) | skip)
      | (go_at_call 124; have _t:=hs1_1; refine (NB.out _ (RB_1_1.keeps (by with_reducible first | exact aA _ | exact ah _ _ | exact cJ _ _)) (H_1_1.keeps (by with_reducible first | exact aA _ | exact ah _ _ | exact cJ _ _))).mono ?_; rintro _ y1_2 ⟨g2,q2,rfl,N2,hq1_2,F2⟩; have hs1_2:Below y1_1.heap.size y1_1 y1_2:=(by with_reducible first | exact hq1_2 | exact aa (ah _ _) hq1_2 | exact aa (cJ _ _) hq1_2); have hT1_2:=aa hT1_1 hs1_2; have hC1_2:=aa hC1_1 hs1_2; have H_1_2:=H_1_1.keeps hs1_2; have RA_1_2:=RA_1_1.keeps hs1_2; have RB_1_2:=RB_1_1.keeps hs1_2; have N1b:=N1.keeps hs1_2)
      | (go_at_call 124; refine (NA.out _ (RA_1_0.keeps (by with_reducible first | exact aA _ | exact ah _ _ | exact cJ _ _)) (H_1_0.keeps (by with_reducible first | exact aA _ | exact ah _ _ | exact cJ _ _))).mono ?_; rintro _ y1_1 ⟨g1,q1,rfl,N1,hq1_1,F1⟩; have hs1_1:Below x0.drew.heap.size x0.drew y1_1:=(by with_reducible first | exact hq1_1 | exact aa (ah _ _) hq1_1 | exact aa (cJ _ _) hq1_1); have hT1_1:=aa hT1_0 hs1_1; have hC1_1:=aa hC1_0 hs1_1; have H_1_1:=H_1_0.keeps hs1_1; have RA_1_1:=RA_1_0.keeps hs1_1; have RB_1_1:=RB_1_0.keeps hs1_1))
  · exact HN1 y1_3.heap.size _ _ _ _ _ _ _ x_V (by kernel_rfl) ((aa (aa (aa (hs1_0) hs1_1) hs1_2) hs1_3).size) (aB _ _) (aa (aa (aa (aa (hs1_0) hs1_1) hs1_2) hs1_3) (ah _ _)) (x_A.keeps (ah _ _)) x_E x_B
  · exact HN1 y1_2.heap.size _ _ _ _ _ _ _ x_V (by kernel_rfl) ((aa (aa (hs1_0) hs1_1) hs1_2).size) (aE (aE (aE (am hq1_3 (aB _ _)) 0 _) 1 _) 2 _) (bC (aa (aa (aa (hs1_0) hs1_1) hs1_2) hs1_3) ((aa (aa (hs1_0) hs1_1) hs1_2).size) _ _ _) (fK x_A (am hq1_3 (aB _ _)) _ _ _) x_E x_B
  · exact HN1 y1_1.heap.size _ _ _ _ _ _ _ x_V (by kernel_rfl) ((aa (hs1_0) hs1_1).size) (aE (aE (aE (am hq1_3 (am hq1_2 (aB _ _))) 0 _) 1 _) 2 _) (bC (aa (aa (aa (hs1_0) hs1_1) hs1_2) hs1_3) ((aa (hs1_0) hs1_1).size) _ _ _) (fK x_A (am hq1_3 (am hq1_2 (aB _ _))) _ _ _) x_E x_B
  · exact HN1 x0.heap.size _ _ _ _ _ _ _ x_V (by kernel_rfl) (Nat.le_refl _) (aE (aE (aE (am hq1_3 (am hq1_2 (am hq1_1 (gL x0 (.cells #[.bool false,.slice none 0 0,.int .i64 0] 34))))) 0 _) 1 _) 2 _) (bC (aa (aa (aa (hs1_0) hs1_1) hs1_2) hs1_3) (Nat.le_refl _) _ _ _) (fK x_A (am hq1_3 (am hq1_2 (am hq1_1 (gL x0 (.cells #[.bool false,.slice none 0 0,.int .i64 0] 34))))) _ _ _) x_E x_B
theorem Fh (w:World) :
  Calls Tryz.prog 68 #[] w fun r w'=>r=.returned (.agg #[.func (.func 20) #[] #[],.func (.func 42) #[] #[],.func (.func 62) #[] #[],.func (.func 100) #[] #[]])∧Below w.heap.size w w':=by
 have hst:∀ p F m w,(store p (.func (.func F) #[] #[]) m).run Tryz.prog w=stored Tryz.prog w p (.func (.func F) #[] #[]) m:=fun p F m w=>run_store _ w p _ m rfl
 go_enter Tryz.func68,Tryz.ntmps68
 go_wp2_with fail
 have r_j:=aB w (.cells #[.func (.func 20) #[] #[],.func (.func 42) #[] #[],.func (.func 62) #[] #[],.func (.func 100) #[] #[]] 106)
 have k0:=ac r_j 0 rfl
 have k1:=ac r_j 1 rfl
 have k2:=ac r_j 2 rfl
 have k3:=ac r_j 3 rfl
 exact bodyPost_ret (v:=.agg #[.func (.func 20) #[] #[],.func (.func 42) #[] #[],.func (.func 62) #[] #[],.func (.func 100) #[] #[]]) (by simp [results,Tryz.results68,go_sem,k0,k1,k2,k3]) rfl ⟨rfl,ah _ _⟩
theorem Nd {ao bo:Option Addr} {n ca cb gl:Nat} {a b:Nat->Int} (w:World) (l_k:w.heap[gl]?=some (.cells #[.slice ao n ca,.slice bo n cb] 32 (0,0))) (RA:aQ w ao n ca a) (RB:aQ w bo n cb b) (fa:∀ i,i<n->aj (a i)∧ak (a i)=true) (fb:∀ i,i<n->aj (b i)∧ak (b i)=true) (hn:n<=1000) (H:aD w) :
    Calls Tryz.prog 67 #[.agg #[.func (.func 20) #[] #[],.func (.func 42) #[] #[],.func (.func 62) #[] #[],.func (.func 100) #[] #[]],.int .i64 0,.slice (some ⟨gl,0,none⟩) 2 2] w fun r w'=>∃ x:aL,r=.returned (.tuple #[.int .i64 (iw 0 x).1,.int .i64 0])∧cB x=true∧x.V*2^4194304=jJ (fun i=>ar (a i)*ar (b i)) n∧Below w.heap.size w w':=by
  have hst:∀ p F c m w,(store p (.func (.func F) #[] c) m).run Tryz.prog w=stored Tryz.prog w p (.func (.func F) #[] c) m:=fun p F c m w=>run_store _ w p _ m rfl
  have hE:∀ (cap:Array Value) (w:World),(callFunc 100 cap).run Tryz.prog w=.ok (.enter 100 cap) w:=by intro cap w; simp [go_sem]
  have C1:Hid (∀ W,Below w.heap.size w W->Calls Tryz.prog 97 #[.int .i64 0,.slice (some ⟨gl,0,none⟩) 2 2] W fun r w'=>r=.returned (.int .i64 0)∧Below W.heap.size W w'):=fun W h=>Hq W (am h l_k) (by omega) (H.keeps h)
  have C2:Hid (∀ W,Below w.heap.size w W->Calls Tryz.prog 98 #[.agg #[.func (.func 20) #[] #[],.func (.func 42) #[] #[],.func (.func 62) #[] #[],.func (.func 100) #[] #[]],.slice (some ⟨gl,0,none⟩) 2 2] W fun r w'=>r=.returned (.float .f64 0)∧Below W.heap.size W w'):=fun W h=>Kb W (am h l_k) (RA.keeps h) (RB.keeps h) fa fb
  have C3:Hid (∀ W,Below w.heap.size w W->Calls Tryz.prog 99 #[.agg #[.func (.func 20) #[] #[],.func (.func 42) #[] #[],.func (.func 62) #[] #[],.func (.func 100) #[] #[]],.slice (some ⟨gl,0,none⟩) 2 2] W fun r w'=>∃ (x:aL),r=.returned (.agg #[.bool x.ng,.slice x.ao x.n x.cap,.int .i64 x.e])∧cB x=true∧x.V*2^4194304=jJ (fun i=>ar (a i)*ar (b i)) n∧(∀ W2,Below w'.heap.size w' W2->Calls Tryz.prog 100 #[.agg #[.bool x.ng,.slice x.ao x.n x.cap,.int .i64 x.e],.int .i64 0] W2 fun r2 w2=>r2=.returned (.tuple #[.int .i64 (iw 0 x).1,.bool (iw 0 x).2,.int .i64 0])∧Below W2.heap.size W2 w2)∧Below W.heap.size W w'):=fun W h=>by
    refine (LV W (am h l_k) (RA.keeps h) (RB.keeps h) (fun i hi=>(fa i hi).2) (fun i hi=>(fb i hi).2) (by omega) (H.keeps h)).mono ?_
    rintro _ w' ⟨v,V,rfl,hD,hV,hB,hb⟩
    obtain ⟨x,rfl,hR,ok,rfl⟩:=hD.open (hB.ok (by omega))
    refine ⟨x,rfl,ok,hV,fun W2 h2=>?_,hb⟩
    have H2:=H.keeps (aa h (aa hb h2))
    exact Ic 0 ⟨by omega,by omega⟩ x W2 (hR.keeps h2) ok H2.env H2.tab
  clear RA RB fa fb H
  generalize jJ (fun i=>ar (a i)*ar (b i)) n=sv at *
  have ho:FloatKind.f64.format.order 0 0=some .eq:=by decide +kernel
  have hb0:=ah w (.cells #[.func (.func 20) #[] #[],.func (.func 42) #[] #[],.func (.func 62) #[] #[],.func (.func 100) #[] #[]] 106)
  have b_k:=aB w (.cells #[.func (.func 20) #[] #[],.func (.func 42) #[] #[],.func (.func 62) #[] #[],.func (.func 100) #[] #[]] 106)
  go_enter Tryz.func67,Tryz.ntmps67
  go_wp2_with fail
  generalize w.alloc (.cells #[.func (.func 20) #[] #[],.func (.func 42) #[] #[],.func (.func 62) #[] #[],.func (.func 100) #[] #[]] 106)=x0 at hb0 b_k ⊢
  refine (C1.out _ hb0).mono ?_
  rintro _ y1 ⟨rfl,hw1⟩
  replace b_k:=am hw1 b_k
  replace hb0:=aa hb0 hw1
  have f0:=ac b_k 0 rfl
  have f1:=ac b_k 1 rfl
  have f2:=ac b_k 2 rfl
  have f3:=ac b_k 3 rfl
  go_wp2_with fail
  clear f0 f1 f2 f3
  refine (C2.out _ hb0).mono ?_
  rintro _ y2 ⟨rfl,hw2⟩
  replace b_k:=am hw2 b_k
  replace hb0:=aa hb0 hw2
  go_wp2_with fail
  have KK:∀ W,Below y2.heap.size y2 W->W.cell? ⟨w.heap.size,0,none⟩=some (.func (.func 20) #[] #[])∧W.cell? ⟨w.heap.size,1,none⟩=some (.func (.func 42) #[] #[])∧W.cell? ⟨w.heap.size,2,none⟩=some (.func (.func 62) #[] #[])∧W.cell? ⟨w.heap.size,3,none⟩=some (.func (.func 100) #[] #[]):=fun W hb=>⟨aF (ac b_k 0 rfl) hb,aF (ac b_k 1 rfl) hb,aF (ac b_k 2 rfl) hb,aF (ac b_k 3 rfl) hb⟩
  have hC0:=(aA y2).drew
  go_region_held3 (fun W=>W.cell? ⟨w.heap.size,0,none⟩=some (.func (.func 20) #[] #[])∧W.cell? ⟨w.heap.size,1,none⟩=some (.func (.func 42) #[] #[])∧W.cell? ⟨w.heap.size,2,none⟩=some (.func (.func 62) #[] #[])∧W.cell? ⟨w.heap.size,3,none⟩=some (.func (.func 100) #[] #[]))
    (with_reducible first | assumption | exact KK _ hC0 | exact KK _ hC1 | exact KK _ hC2 | fail)
    (first
      | (go_at_call 100; refine (CT _ (aA _)).mono ?_; rintro _ y4 ⟨rfl,hq2⟩; have hC2:=aa hC1 hq2)
      | (go_at_call 99; refine (C3.out _ (aa hb0 hC0)).mono ?_; rintro _ y3 ⟨x,rfl,ok,hV,CT,hq1⟩; have hC1:=aa hC0 hq1))
  all_goals go_wp2
  all_goals exact bodyPost_ret (v:=.tuple #[.int .i64 (iw 0 x).1,.int .i64 0]) (by simp [results,Tryz.results67,go_sem]) rfl ⟨x,rfl,ok,hV,aa hb0 hC2⟩
theorem Nf {ao bo:Option Addr} {n ca cb:Nat} {a b:Nat->Int} (w:World) (RA:aQ w ao n ca a) (RB:aQ w bo n cb b) (fa:∀ i,i<n->aj (a i)∧ak (a i)=true) (fb:∀ i,i<n->aj (b i)∧ak (b i)=true) (hn:n<=1000) (H:aD w) :
  Calls Tryz.prog 41 #[.slice ao n ca,.slice bo n cb,.int .i64 0] w fun r w'=>∃ x:aL,r=.returned (.tuple #[.int .i64 (iw 0 x).1,.int .i64 0])∧cB x=true∧x.V*2^4194304=jJ (fun i=>ar (a i)*ar (b i)) n∧Below w.heap.size w w':=by
 have C1:Hid (∀ W,Calls Tryz.prog 68 #[] W fun r w'=>r=.returned (.agg #[.func (.func 20) #[] #[],.func (.func 42) #[] #[],.func (.func 62) #[] #[],.func (.func 100) #[] #[]])∧Below W.heap.size W w'):=fun W=>Fh W
 have C2:Hid (∀ W gl,Below w.heap.size w W->W.heap[gl]?=some (.cells #[.slice ao n ca,.slice bo n cb] 32 (0,0))->Calls Tryz.prog 67 #[.agg #[.func (.func 20) #[] #[],.func (.func 42) #[] #[],.func (.func 62) #[] #[],.func (.func 100) #[] #[]],.int .i64 0,.slice (some ⟨gl,0,none⟩) 2 2] W fun r w'=>∃ x:aL,r=.returned (.tuple #[.int .i64 (iw 0 x).1,.int .i64 0])∧cB x=true∧x.V*2^4194304=jJ (fun i=>ar (a i)*ar (b i)) n∧Below W.heap.size W w'):=fun W gl h hl=>Nd W hl (RA.keeps h) (RB.keeps h) fa fb hn (H.keeps h)
 clear RA RB fa fb H
 generalize jJ (fun i=>ar (a i)*ar (b i)) n=sv at *
 go_enter Tryz.func41,Tryz.ntmps41
 go_wp2_with fail
 refine (C1.out _).mono ?_
 rintro _ y1 ⟨rfl,hw1⟩
 go_wp2_with fail
 refine (C2.out _ _ (aa hw1 (ah y1 (.cells #[.slice ao n ca,.slice bo n cb] 32))) (aB y1 (.cells #[.slice ao n ca,.slice bo n cb] 32))).mono ?_
 rintro _ y2 ⟨x,rfl,ok,hV,hw2⟩
 go_wp2
 exact bodyPost_ret (v:=.tuple #[.int .i64 (iw 0 x).1,.int .i64 0]) (by simp [results,Tryz.results41,go_sem]) rfl ⟨x,rfl,ok,hV,aa hw1 (aa (ah y1 (.cells #[.slice ao n ca,.slice bo n cb] 32)) hw2)⟩
end Go.Proofs.YtcjfonaolcokbaaGreatDoor
