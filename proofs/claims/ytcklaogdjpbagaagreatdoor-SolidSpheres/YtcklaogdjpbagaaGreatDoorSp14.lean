/- Parts of the proof. -/
import Derived.Test.YtcklaogdjpbagaaGreatDoorSp13
import Derived.Test.YtcklaogdjpbagaaGreatDoorSp7
import Derived.Test.YtcklaogdjpbagaaGreatDoorSp8
import Derived.Test.YtcklaogdjpbagaaGreatDoorSp10
import Derived.Deep.RegionHeld3
set_option maxRecDepth 100000
set_option maxHeartbeats 8000000
set_option linter.unusedVariables false
set_option linter.unusedSimpArgs false
namespace Go.Proofs.YtcklaogdjpbagaaGreatDoor
open Go Go.RowKit Go.Proofs.YtcklaogdjpbagaaGreatDoor.M
def vj (V:Nat->Int):Nat->Int|0=>0|m+1=>vj V m+V m
theorem um (K:Nat):Bd K 0:=⟨0,by rw[Int.zero_mul],by have:=aJ (2*K);omega,by have:=aJ (2*K);omega⟩
theorem xE {a b:Nat->aG} {V W:Nat->Int}:∀ m,(∀ i,i<m->(a i).V=V i∧fv (a i))->(∀ i,i<m->(b i).V=W i∧fv (b i))->gZ a b m*2^4194304=vj (fun i=>V i*W i) m
 | 0,_,_=>by show 0*_=(0:Int);rw[Int.zero_mul]
 | m+1,h,k=>by
  have h1:=h m (by omega)
  have k1:=k m (by omega)
  unfold fv at h1 k1
  show(gZ a b m+lP (a m) (b m))*2^4194304=vj (fun i=>V i*W i) m+V m*W m
  rw[Int.add_mul,xE m (fun i hi=>h i (by omega)) (fun i hi=>k i (by omega)),mw (by omega) (by omega),h1.1,k1.1]
theorem un {a b:Nat->aG} {V W:Nat->Int} {K:Nat} (hK:K<=10000):∀ m,m<=1000->(∀ i,i<m->(a i).V=V i∧fv (a i)∧Bd K (V i))->(∀ i,i<m->(b i).V=W i∧fv (b i)∧Bd K (W i))->Bd (2*K+m) (gZ a b m)
 | 0,_,_,_=>um _
 | m+1,hm,h,k=>by
  obtain⟨h1,h2,h3⟩:=h m (by omega)
  obtain⟨k1,k2,k3⟩:=k m (by omega)
  unfold fv at h2 k2
  have e:=mw (x:=a m) (y:=b m) (by omega) (by omega)
  rw[h1,k1] at e
  exact(un hK m (by omega) (fun i hi=>h i (by omega)) (fun i hi=>k i (by omega))).add ((h3.mul k3 e (by omega)).up (by omega) (by omega)) (by omega)
theorem mh {w w':World} {V:Int} {v:Value} (h:aX w w' V v) (o:Obj):aX w (w'.alloc o) V v:=h.stays (ah _ _)
theorem vk {p q:Int} (pp:aF p=true) (pq:aF q=true) (w:World) (H:cB w) :
  Calls Tryz.prog 46 #[.int .i64 p,.int .i64 q] w fun r w'=>∃ v,r=.returned v∧aX w w' (aq p-aq q) v:=by
 have r_k:=aC w (.cells #[.bool false,.slice none 0 0,.int .i64 0] 33)
 have hb0:=ah w (.cells #[.bool false,.slice none 0 0,.int .i64 0] 33)
 have B1:=km pp
 have B2:=km pq
 go_enter Tryz.func46,Tryz.ntmps46
 go_wp2_with fail
 generalize w.alloc (.cells #[.bool false,.slice none 0 0,.int .i64 0] 33)=x0 at r_k hb0 ⊢
 have H:=H.keeps hb0
 refine(zQ pp H).mono ?_
 rintro _ y1 ⟨v,rfl,h1⟩
 obtain⟨x_g,x_o,x_n,x_c,x_e,rfl⟩:=aT h1
 have hw1:=h1.below
 have x_D:=h1.num
 have H:=H.keeps hw1
 have r_k:=(hw1.block _ (aGe r_k).1).trans r_k
 have hb1:=ac hb0 hw1
 have r_k:=ar (.cells #[.bool x_g,.slice x_o x_n x_c,.int .i64 x_e] 33) r_k
 have x_k:=aC y1 (.cells #[.bool x_g,.slice x_o x_n x_c,.int .i64 x_e] 33)
 have x_D:=x_D.keeps (ah y1 (.cells #[.bool x_g,.slice x_o x_n x_c,.int .i64 x_e] 33))
 have H:=H.keeps (ah y1 (.cells #[.bool x_g,.slice x_o x_n x_c,.int .i64 x_e] 33))
 have hb2':=ac hb1 (ah y1 (.cells #[.bool x_g,.slice x_o x_n x_c,.int .i64 x_e] 33))
 go_wp2_with fail
 generalize y1.alloc (.cells #[.bool x_g,.slice x_o x_n x_c,.int .i64 x_e] 33)=x2 at r_k x_k x_D H hb2' ⊢
 refine(zQ pq H).mono ?_
 rintro _ y2 ⟨v,rfl,h2⟩
 obtain⟨y_g,y_o,y_n,y_c,y_e,rfl⟩:=aT h2
 have hw2:=h2.below
 have y_D:=h2.num
 have H:=H.keeps hw2
 have r_k:=(hw2.block _ (aGe r_k).1).trans r_k
 have x_k:=(hw2.block _ (aGe x_k).1).trans x_k
 have x_D:=x_D.keeps hw2
 have hb2:=ac hb2' hw2
 have r_k:=ar (.cells #[.bool y_g,.slice y_o y_n y_c,.int .i64 y_e] 33) r_k
 have x_k:=ar (.cells #[.bool y_g,.slice y_o y_n y_c,.int .i64 y_e] 33) x_k
 have y_k:=aC y2 (.cells #[.bool y_g,.slice y_o y_n y_c,.int .i64 y_e] 33)
 have x_D:=x_D.keeps (ah y2 (.cells #[.bool y_g,.slice y_o y_n y_c,.int .i64 y_e] 33))
 have y_D:=y_D.keeps (ah y2 (.cells #[.bool y_g,.slice y_o y_n y_c,.int .i64 y_e] 33))
 have H:=H.keeps (ah y2 (.cells #[.bool y_g,.slice y_o y_n y_c,.int .i64 y_e] 33))
 have hb3':=ac hb2 (ah y2 (.cells #[.bool y_g,.slice y_o y_n y_c,.int .i64 y_e] 33))
 have f_x0:=af x_k 0 rfl
 have f_x1:=af x_k 1 rfl
 have f_x2:=af x_k 2 rfl
 go_wp2_with fail
 clear f_x0 f_x1 f_x2
 generalize y2.alloc (.cells #[.bool y_g,.slice y_o y_n y_c,.int .i64 y_e] 33)=x3 at r_k x_k y_k x_D y_D H hb3' ⊢
 have hs0:=(aGe r_k).1
 refine(Dz x_D y_D B1 B2 (by omega) H.tab).mono ?_
 rintro _ y3 ⟨v,rfl,h3⟩
 obtain⟨n_g,n_o,n_n,n_c,n_e,rfl⟩:=aT h3
 have hw3:=h3.below
 have n_D:=h3.num
 have H:=H.keeps hw3
 have r_k:=(hw3.block _ (aGe r_k).1).trans r_k
 have x_k:=(hw3.block _ (aGe x_k).1).trans x_k
 have x_D:=x_D.keeps hw3
 have y_k:=(hw3.block _ (aGe y_k).1).trans y_k
 have y_D:=y_D.keeps hw3
 have hb3:=ac hb3' hw3
 have r_k:=ar (.cells #[.bool n_g,.slice n_o n_n n_c,.int .i64 n_e] 33) r_k
 have k0:=af r_k 0 rfl
 have k1:=af r_k 1 rfl
 have k2:=af r_k 2 rfl
 have z0:=av r_k 0
 have z1:=av r_k 1
 have z2:=av r_k 2
 go_wp2
 refine bodyPost_ret (v:=.agg #[.bool n_g,.slice n_o n_n n_c,.int .i64 n_e]) (by simp[results,Tryz.results46,go_sem,k0,k1,k2]) rfl ⟨_,rfl,?_⟩
 exact bM (g:=w.heap.size) (mh h3 _) (by assumption) (Nat.le_refl _) hs0 _ _ _
structure ke (w:World) (b o:Nat) (V:Int):Prop where
 x:∃ ng so sn sc e,w.cell? ⟨b,o,none⟩=some (.bool ng)∧w.cell? ⟨b,o+1,none⟩=some (.slice so sn sc)∧w.cell? ⟨b,o+2,none⟩=some (.int .i64 e)∧aR w (.agg #[.bool ng,.slice so sn sc,.int .i64 e]) V
theorem zZ {w:World} {b off n c K:Nat} {V:Nat->Int} (h:∀ i,i<n->ke w b (off+i*3) (V i)∧Bd K (V i)) (hK:K<=20000) (hn:n<=c) (hc:c<=9223372036854775807) :
  ∃ r,eW w (some ⟨b,off,none⟩) n c r∧kN r n=true∧∀ i,i<n->(r i).V=V i∧fv (r i):=by
 have hx:∀ i,i<n->∃ y:aG,pA w b (off+i*3) y∧dD y=true∧y.V=V i∧fv y:=fun i hi=>by
  obtain⟨⟨ng,so,sn,sc,e,c0,c1,c2,hD⟩,hB⟩:=h i hi
  obtain⟨d,hR,ok,hV⟩:=hD.open2 (hB.ok (by omega))
  refine⟨⟨ng,so,sn,sc,d,e⟩,⟨c0,c1,c2,hR⟩,ok,hV,?_⟩
  have hy:=(jx ok).1
  unfold fv
  rcases hy.form with⟨_,_,h0⟩|⟨h0,_⟩
  ·simp only at h0 ⊢;omega
  ·rw[hV] at hy
   have:=kv hB hy (by omega) h0
   simp only at this ⊢
   omega
 have hr:∀ i,i<n->pA w b (off+i*3) (if hi:i<n then Classical.choose (hx i hi) else default)∧dD (if hi:i<n then Classical.choose (hx i hi) else default)=true∧(if hi:i<n then Classical.choose (hx i hi) else default:aG).V=V i∧fv (if hi:i<n then Classical.choose (hx i hi) else default):=fun i hi=>by
  rw[dif_pos hi]
  exact Classical.choose_spec (hx i hi)
 generalize hrr:(fun i=>(if hi:i<n then Classical.choose (hx i hi) else default:aG))=r
 have hr2:∀ i,i<n->pA w b (off+i*3) (r i)∧dD (r i)=true∧(r i).V=V i∧fv (r i):=fun i hi=>by rw[<- hrr];exact hr i hi
 refine⟨r,⟨hn,hc,fun h0=>⟨b,off,rfl,?_,fun i hi=>(hr2 i hi).1⟩⟩,decide_eq_true fun i hi=>(hr2 i hi).2.1,fun i hi=>(hr2 i hi).2.2⟩
 exact World.block_lt_of_cell? w _ (hr2 0 h0).1.c0
theorem gG {w:World} {b off b' off' n c c' K:Nat} {V W:Nat->Int} (h:∀ i,i<n->ke w b (off+i*3) (V i)∧Bd K (V i)) (h':∀ i,i<n->ke w b' (off'+i*3) (W i)∧Bd K (W i)) (hK:K<=9000) (n10:n<=10) (hn:n<=c) (hc:c<=100) (hn':n<=c') (hc':c'<=100) (hT:ec w) :
  Calls Tryz.prog 89 #[.slice (some ⟨b,off,none⟩) n c,.slice (some ⟨b',off',none⟩) n c'] w fun r w'=>∃ v D,r=.returned v∧aX w w' D v∧D*2^4194304=vj (fun i=>V i*W i) n∧Bd (2*K+n) D:=by
 obtain⟨r,hN,hA,hr⟩:=zZ h (by omega) hn (by omega)
 obtain⟨q,hN',hA',hq⟩:=zZ h' (by omega) hn' (by omega)
 have hb:=un (by omega) n (by omega) (fun i hi=>⟨(hr i hi).1,(hr i hi).2,(h i hi).2⟩) (fun i hi=>⟨(hq i hi).1,(hq i hi).2,(h' i hi).2⟩)
 have CD:Hid (∀ W',Below w.heap.size w W'->Calls Tryz.prog 113 #[.slice (some ⟨b,off,none⟩) n c,.slice (some ⟨b',off',none⟩) n c'] W' fun x w'=>∃ v,x=.returned (.tuple #[v,.int .i64 0])∧aX W' w' (gZ r q n) v):=fun W' hW=>by
  refine(Bn _ _ n c c' r q W' (hN.keeps hW) (hN'.keeps hW) hA hA' (fun i hi=>(hr i hi).2) (fun i hi=>(hq i hi).2) (by omega) (hT.keeps hW)).mono ?_
  rintro z w' ⟨v,er,rfl,hF⟩
  obtain⟨rfl,hD⟩:=hF.yes (hb.ok (by omega))
  exact⟨v,rfl,hD⟩
 have hE:=xE n (fun i hi=>⟨(hr i hi).1,(hr i hi).2⟩) (fun i hi=>⟨(hq i hi).1,(hq i hi).2⟩)
 generalize gZ r q n=D at *
 clear hN hN' hA hA' hr hq h h'
 have r_k:=aC w (.cells #[.bool false,.slice none 0 0,.int .i64 0] 33)
 have hb0:=ah w (.cells #[.bool false,.slice none 0 0,.int .i64 0] 33)
 go_enter Tryz.func89,Tryz.ntmps89
 go_wp2_with fail
 generalize w.alloc (.cells #[.bool false,.slice none 0 0,.int .i64 0] 33)=x0 at r_k hb0 ⊢
 have hs0:=(aGe r_k).1
 refine(CD.out _ hb0).mono ?_
 rintro _ y1 ⟨v,rfl,h1⟩
 obtain⟨n_g,n_o,n_n,n_c,n_e,rfl⟩:=aT h1
 have r_k:=am h1.below r_k
 have r_k:=ar (.cells #[.bool n_g,.slice n_o n_n n_c,.int .i64 n_e] 33) r_k
 have k0:=af r_k 0 rfl
 have k1:=af r_k 1 rfl
 have k2:=af r_k 2 rfl
 have z0:=av r_k 0
 have z1:=av r_k 1
 have z2:=av r_k 2
 go_wp2
 refine bodyPost_ret (v:=.agg #[.bool n_g,.slice n_o n_n n_c,.int .i64 n_e]) (by simp[results,Tryz.results89,go_sem,k0,k1,k2]) rfl ⟨_,D,rfl,?_,hE,hb⟩
 exact bM (g:=w.heap.size) (mh h1 _) hb0 (Nat.le_refl _) hs0 _ _ _
theorem qk {w:World} {x_g:Bool} {x_o:Option Addr} {x_n x_c:Nat} {x_e A:Int} (hx:aR w (.agg #[.bool x_g,.slice x_o x_n x_c,.int .i64 x_e]) A) (oA:de A) :
  Calls Tryz.prog 90 #[.agg #[.bool x_g,.slice x_o x_n x_c,.int .i64 x_e]] w fun r w'=>∃ v,r=.returned v∧aX w w' (-A) v:=by
 have CD:Hid (∀ W',Below w.heap.size w W'->Calls Tryz.prog 114 #[.agg #[.bool x_g,.slice x_o x_n x_c,.int .i64 x_e]] W' fun x w'=>∃ v,x=.returned (.tuple #[v,.int .i64 0])∧aX W' w' (-A) v):=fun W' hW=>Dw (hx.keeps hW) oA
 clear hx
 have r_k:=bP w (.cells #[.bool x_g,.slice x_o x_n x_c,.int .i64 x_e] 33) (.cells #[.bool false,.slice none 0 0,.int .i64 0] 33)
 have hb0:=aO w (.cells #[.bool x_g,.slice x_o x_n x_c,.int .i64 x_e] 33) (.cells #[.bool false,.slice none 0 0,.int .i64 0] 33)
 go_enter Tryz.func90,Tryz.ntmps90
 go_wp2_with fail
 generalize (w.alloc (.cells #[.bool x_g,.slice x_o x_n x_c,.int .i64 x_e] 33)).alloc (.cells #[.bool false,.slice none 0 0,.int .i64 0] 33)=x0 at r_k hb0 ⊢
 have hs0:=(aGe r_k).1
 refine(CD.out _ hb0).mono ?_
 rintro _ y1 ⟨v,rfl,h1⟩
 obtain⟨n_g,n_o,n_n,n_c,n_e,rfl⟩:=aT h1
 have r_k:=am h1.below r_k
 have r_k:=ar (.cells #[.bool n_g,.slice n_o n_n n_c,.int .i64 n_e] 33) r_k
 have k0:=af r_k 0 rfl
 have k1:=af r_k 1 rfl
 have k2:=af r_k 2 rfl
 have z0:=av r_k 0
 have z1:=av r_k 1
 have z2:=av r_k 2
 go_wp2
 refine bodyPost_ret (v:=.agg #[.bool n_g,.slice n_o n_n n_c,.int .i64 n_e]) (by simp[results,Tryz.results90,go_sem,k0,k1,k2]) rfl ⟨_,rfl,?_⟩
 exact bM (g:=w.heap.size+1) (mh h1 _) hb0 (by omega) hs0 _ _ _
theorem eA {w:World} {g o:Nat} {xs:Array Value} {t:TypeId} {x_g:Bool} {x_o:Option Addr} {x_n x_c:Nat} {x_e V:Int} (h:w.heap[g]?=some (.cells xs t (0,0))) (a:xs[o]?=some (.bool x_g)) (b:xs[o+1]?=some (.slice x_o x_n x_c)) (c:xs[o+2]?=some (.int .i64 x_e)) (hD:aR w (.agg #[.bool x_g,.slice x_o x_n x_c,.int .i64 x_e]) V):ke w g o V :=
 ⟨⟨x_g,x_o,x_n,x_c,x_e,af h o a,af h (o+1) b,af h (o+2) c,hD⟩⟩
theorem co {w W:World} (h:Below w.heap.size w W) (o:Obj):Below w.heap.size w (W.alloc o):=h.alloc h.size o
theorem iw (w:World) (o:Obj):(w.alloc o).drew.heap[w.heap.size]?=some o:=aC w o
theorem iW {w W:World} (h:Below w.heap.size w W) (o:Obj):Below w.heap.size w (W.alloc o).drew:=(co h o).drew
theorem bc {W:World} {p:Addr} {v:Value} (h:W.cell? p=some v) {g:Nat} (x y z:Value) (hg:p.block≠g):(((W.setCell ⟨g,0,none⟩ x).setCell ⟨g,1,none⟩ y).setCell ⟨g,2,none⟩ z).cell? p=some v :=
 ((qb W g 0 1 2 x y z).cell (World.block_lt_of_cell? W _ h) hg).trans h
def f2 (a b:Int) (i:Nat):Int:=if i=0 then a else b
theorem ln {w:World} {p0_g:Bool} {p0_o:Option Addr} {p0_n p0_c:Nat} {p0_e:Int} {p1_g:Bool} {p1_o:Option Addr} {p1_n p1_c:Nat} {p1_e:Int} {p2_g:Bool} {p2_o:Option Addr} {p2_n p2_c:Nat} {p2_e:Int} {q0_g:Bool} {q0_o:Option Addr} {q0_n q0_c:Nat} {q0_e:Int} {q1_g:Bool} {q1_o:Option Addr} {q1_n q1_c:Nat} {q1_e:Int} {q2_g:Bool} {q2_o:Option Addr} {q2_n q2_c:Nat} {q2_e:Int} {A0 A1 B0 B1:Int} {K:Nat} (h0:aR w (.agg #[.bool p0_g,.slice p0_o p0_n p0_c,.int .i64 p0_e]) A0) (h1:aR w (.agg #[.bool p1_g,.slice p1_o p1_n p1_c,.int .i64 p1_e]) A1) (k0:aR w (.agg #[.bool q0_g,.slice q0_o q0_n q0_c,.int .i64 q0_e]) B0) (k1:aR w (.agg #[.bool q1_g,.slice q1_o q1_n q1_c,.int .i64 q1_e]) B1) (bA0:Bd K A0) (bA1:Bd K A1) (bB0:Bd K B0) (bB1:Bd K B1) (hK:K<=9000) (hT:ec w) :
  Calls Tryz.prog 98 #[.agg #[.bool p0_g,.slice p0_o p0_n p0_c,.int .i64 p0_e,.bool p1_g,.slice p1_o p1_n p1_c,.int .i64 p1_e,.bool p2_g,.slice p2_o p2_n p2_c,.int .i64 p2_e],.agg #[.bool q0_g,.slice q0_o q0_n q0_c,.int .i64 q0_e,.bool q1_g,.slice q1_o q1_n q1_c,.int .i64 q1_e,.bool q2_g,.slice q2_o q2_n q2_c,.int .i64 q2_e]] w fun r w'=>∃ v D,r=.returned v∧aX w w' D v∧D*2^4194304=A0*B1-B0*A1∧Bd (2*K+2) D:=by
 have CT:Hid (∀ W,Below w.heap.size w W->Calls Tryz.prog 90 #[.agg #[.bool q0_g,.slice q0_o q0_n q0_c,.int .i64 q0_e]] W fun r w'=>∃ v,r=.returned v∧aX W w' (-B0) v):=fun W hW=>qk (k0.keeps hW) (bB0.ok (by omega))
 have CD:Hid (∀ W g1 g2 n_g n_o n_n n_c n_e,Below w.heap.size w W->aR W (.agg #[.bool n_g,.slice n_o n_n n_c,.int .i64 n_e]) (-B0)->W.heap[g1]?=some (.cells #[.bool p0_g,.slice p0_o p0_n p0_c,.int .i64 p0_e,.bool n_g,.slice n_o n_n n_c,.int .i64 n_e] 33 (0,0))->W.heap[g2]?=some (.cells #[.bool q1_g,.slice q1_o q1_n q1_c,.int .i64 q1_e,.bool p1_g,.slice p1_o p1_n p1_c,.int .i64 p1_e] 33 (0,0))->Calls Tryz.prog 89 #[.slice (some ⟨g1,0,none⟩) 2 2,.slice (some ⟨g2,0,none⟩) 2 2] W fun r w'=>∃ v D,r=.returned v∧aX W w' D v∧D*2^4194304=A0*B1-B0*A1∧Bd (2*K+2) D):=fun W g1 g2 n_g n_o n_n n_c n_e hW hD e1 e2=>by
  refine(gG (w:=W) (b:=g1) (off:=0) (b':=g2) (off':=0) (n:=2) (c:=2) (c':=2) (K:=K) (V:=f2 A0 (-B0)) (W:=f2 B1 A1) (fun i hi=>?_) (fun i hi=>?_) hK (by decide) (by decide) (by decide) (by decide) (by decide) (hT.keeps hW)).mono ?_
  ·match i,hi with
   | 0,_=>exact⟨eA e1 rfl rfl rfl (h0.keeps hW),bA0⟩
   | 1,_=>exact⟨eA e1 rfl rfl rfl hD,bB0.neg⟩
  ·match i,hi with
   | 0,_=>exact⟨eA e2 rfl rfl rfl (k1.keeps hW),bB1⟩
   | 1,_=>exact⟨eA e2 rfl rfl rfl (h1.keeps hW),bA1⟩
  ·rintro _ w' ⟨v,D,rfl,hd,he,hb⟩
   refine⟨v,D,rfl,hd,he.trans ?_,hb⟩
   show 0+A0*B1 + -B0*A1=A0*B1-B0*A1
   rw[Int.neg_mul]
   omega
 clear h0 h1 k0 k1 hT
 have hb0:=df w (.cells #[.bool p0_g,.slice p0_o p0_n p0_c,.int .i64 p0_e,.bool p1_g,.slice p1_o p1_n p1_c,.int .i64 p1_e,.bool p2_g,.slice p2_o p2_n p2_c,.int .i64 p2_e] 63) (.cells #[.bool q0_g,.slice q0_o q0_n q0_c,.int .i64 q0_e,.bool q1_g,.slice q1_o q1_n q1_c,.int .i64 q1_e,.bool q2_g,.slice q2_o q2_n q2_c,.int .i64 q2_e] 63) (.cells #[.bool false,.slice none 0 0,.int .i64 0] 33)
 have p_k:=lL w (.cells #[.bool p0_g,.slice p0_o p0_n p0_c,.int .i64 p0_e,.bool p1_g,.slice p1_o p1_n p1_c,.int .i64 p1_e,.bool p2_g,.slice p2_o p2_n p2_c,.int .i64 p2_e] 63) (.cells #[.bool q0_g,.slice q0_o q0_n q0_c,.int .i64 q0_e,.bool q1_g,.slice q1_o q1_n q1_c,.int .i64 q1_e,.bool q2_g,.slice q2_o q2_n q2_c,.int .i64 q2_e] 63) (.cells #[.bool false,.slice none 0 0,.int .i64 0] 33)
 have q_k:=lM w (.cells #[.bool p0_g,.slice p0_o p0_n p0_c,.int .i64 p0_e,.bool p1_g,.slice p1_o p1_n p1_c,.int .i64 p1_e,.bool p2_g,.slice p2_o p2_n p2_c,.int .i64 p2_e] 63) (.cells #[.bool q0_g,.slice q0_o q0_n q0_c,.int .i64 q0_e,.bool q1_g,.slice q1_o q1_n q1_c,.int .i64 q1_e,.bool q2_g,.slice q2_o q2_n q2_c,.int .i64 q2_e] 63) (.cells #[.bool false,.slice none 0 0,.int .i64 0] 33)
 have r_k:=jw w (.cells #[.bool p0_g,.slice p0_o p0_n p0_c,.int .i64 p0_e,.bool p1_g,.slice p1_o p1_n p1_c,.int .i64 p1_e,.bool p2_g,.slice p2_o p2_n p2_c,.int .i64 p2_e] 63) (.cells #[.bool q0_g,.slice q0_o q0_n q0_c,.int .i64 q0_e,.bool q1_g,.slice q1_o q1_n q1_c,.int .i64 q1_e,.bool q2_g,.slice q2_o q2_n q2_c,.int .i64 q2_e] 63) (.cells #[.bool false,.slice none 0 0,.int .i64 0] 33)
 go_enter Tryz.func98,Tryz.ntmps98
 go_wp2_with fail
 generalize ((w.alloc (.cells #[.bool p0_g,.slice p0_o p0_n p0_c,.int .i64 p0_e,.bool p1_g,.slice p1_o p1_n p1_c,.int .i64 p1_e,.bool p2_g,.slice p2_o p2_n p2_c,.int .i64 p2_e] 63)).alloc (.cells #[.bool q0_g,.slice q0_o q0_n q0_c,.int .i64 q0_e,.bool q1_g,.slice q1_o q1_n q1_c,.int .i64 q1_e,.bool q2_g,.slice q2_o q2_n q2_c,.int .i64 q2_e] 63)).alloc (.cells #[.bool false,.slice none 0 0,.int .i64 0] 33)=x3 at hb0 p_k q_k r_k ⊢
 have hs0:=(aGe r_k).1
 have KK:∀ W,Below x3.heap.size x3 W->W.cell? ⟨w.heap.size,0,none⟩=some (.bool p0_g)∧W.cell? ⟨w.heap.size,1,none⟩=some (.slice p0_o p0_n p0_c)∧W.cell? ⟨w.heap.size,2,none⟩=some (.int .i64 p0_e)∧W.cell? ⟨w.heap.size,3,none⟩=some (.bool p1_g)∧W.cell? ⟨w.heap.size,4,none⟩=some (.slice p1_o p1_n p1_c)∧W.cell? ⟨w.heap.size,5,none⟩=some (.int .i64 p1_e)∧W.cell? ⟨w.heap.size+1,0,none⟩=some (.bool q0_g)∧W.cell? ⟨w.heap.size+1,1,none⟩=some (.slice q0_o q0_n q0_c)∧W.cell? ⟨w.heap.size+1,2,none⟩=some (.int .i64 q0_e)∧W.cell? ⟨w.heap.size+1,3,none⟩=some (.bool q1_g)∧W.cell? ⟨w.heap.size+1,4,none⟩=some (.slice q1_o q1_n q1_c)∧W.cell? ⟨w.heap.size+1,5,none⟩=some (.int .i64 q1_e):=fun W hb=>⟨aj (af p_k 0 rfl) hb,aj (af p_k 1 rfl) hb,aj (af p_k 2 rfl) hb,aj (af p_k 3 rfl) hb,aj (af p_k 4 rfl) hb,aj (af p_k 5 rfl) hb,aj (af q_k 0 rfl) hb,aj (af q_k 1 rfl) hb,aj (af q_k 2 rfl) hb,aj (af q_k 3 rfl) hb,aj (af q_k 4 rfl) hb,aj (af q_k 5 rfl) hb⟩
 have KN:∀ W a b c,Below x3.heap.size x3 W->(((W.setCell ⟨w.heap.size+2,0,none⟩ a).setCell ⟨w.heap.size+2,1,none⟩ b).setCell ⟨w.heap.size+2,2,none⟩ c).cell? ⟨w.heap.size,0,none⟩=some (.bool p0_g)∧(((W.setCell ⟨w.heap.size+2,0,none⟩ a).setCell ⟨w.heap.size+2,1,none⟩ b).setCell ⟨w.heap.size+2,2,none⟩ c).cell? ⟨w.heap.size,1,none⟩=some (.slice p0_o p0_n p0_c)∧(((W.setCell ⟨w.heap.size+2,0,none⟩ a).setCell ⟨w.heap.size+2,1,none⟩ b).setCell ⟨w.heap.size+2,2,none⟩ c).cell? ⟨w.heap.size,2,none⟩=some (.int .i64 p0_e)∧(((W.setCell ⟨w.heap.size+2,0,none⟩ a).setCell ⟨w.heap.size+2,1,none⟩ b).setCell ⟨w.heap.size+2,2,none⟩ c).cell? ⟨w.heap.size,3,none⟩=some (.bool p1_g)∧(((W.setCell ⟨w.heap.size+2,0,none⟩ a).setCell ⟨w.heap.size+2,1,none⟩ b).setCell ⟨w.heap.size+2,2,none⟩ c).cell? ⟨w.heap.size,4,none⟩=some (.slice p1_o p1_n p1_c)∧(((W.setCell ⟨w.heap.size+2,0,none⟩ a).setCell ⟨w.heap.size+2,1,none⟩ b).setCell ⟨w.heap.size+2,2,none⟩ c).cell? ⟨w.heap.size,5,none⟩=some (.int .i64 p1_e)∧(((W.setCell ⟨w.heap.size+2,0,none⟩ a).setCell ⟨w.heap.size+2,1,none⟩ b).setCell ⟨w.heap.size+2,2,none⟩ c).cell? ⟨w.heap.size+1,0,none⟩=some (.bool q0_g)∧(((W.setCell ⟨w.heap.size+2,0,none⟩ a).setCell ⟨w.heap.size+2,1,none⟩ b).setCell ⟨w.heap.size+2,2,none⟩ c).cell? ⟨w.heap.size+1,1,none⟩=some (.slice q0_o q0_n q0_c)∧(((W.setCell ⟨w.heap.size+2,0,none⟩ a).setCell ⟨w.heap.size+2,1,none⟩ b).setCell ⟨w.heap.size+2,2,none⟩ c).cell? ⟨w.heap.size+1,2,none⟩=some (.int .i64 q0_e)∧(((W.setCell ⟨w.heap.size+2,0,none⟩ a).setCell ⟨w.heap.size+2,1,none⟩ b).setCell ⟨w.heap.size+2,2,none⟩ c).cell? ⟨w.heap.size+1,3,none⟩=some (.bool q1_g)∧(((W.setCell ⟨w.heap.size+2,0,none⟩ a).setCell ⟨w.heap.size+2,1,none⟩ b).setCell ⟨w.heap.size+2,2,none⟩ c).cell? ⟨w.heap.size+1,4,none⟩=some (.slice q1_o q1_n q1_c)∧(((W.setCell ⟨w.heap.size+2,0,none⟩ a).setCell ⟨w.heap.size+2,1,none⟩ b).setCell ⟨w.heap.size+2,2,none⟩ c).cell? ⟨w.heap.size+1,5,none⟩=some (.int .i64 q1_e):=fun W a b c hb=>⟨bc (KK W hb).1 a b c (show w.heap.size≠w.heap.size+2 by omega),bc (KK W hb).2.1 a b c (show w.heap.size≠w.heap.size+2 by omega),bc (KK W hb).2.2.1 a b c (show w.heap.size≠w.heap.size+2 by omega),bc (KK W hb).2.2.2.1 a b c (show w.heap.size≠w.heap.size+2 by omega),bc (KK W hb).2.2.2.2.1 a b c (show w.heap.size≠w.heap.size+2 by omega),bc (KK W hb).2.2.2.2.2.1 a b c (show w.heap.size≠w.heap.size+2 by omega),bc (KK W hb).2.2.2.2.2.2.1 a b c (show w.heap.size+1≠w.heap.size+2 by omega),bc (KK W hb).2.2.2.2.2.2.2.1 a b c (show w.heap.size+1≠w.heap.size+2 by omega),bc (KK W hb).2.2.2.2.2.2.2.2.1 a b c (show w.heap.size+1≠w.heap.size+2 by omega),bc (KK W hb).2.2.2.2.2.2.2.2.2.1 a b c (show w.heap.size+1≠w.heap.size+2 by omega),bc (KK W hb).2.2.2.2.2.2.2.2.2.2.1 a b c (show w.heap.size+1≠w.heap.size+2 by omega),bc (KK W hb).2.2.2.2.2.2.2.2.2.2.2 a b c (show w.heap.size+1≠w.heap.size+2 by omega)⟩
 have hR0:=ak x3
 have hC0:=(ak x3).drew
 go_region_held3 (fun W=>W.cell? ⟨w.heap.size,0,none⟩=some (.bool p0_g)∧W.cell? ⟨w.heap.size,1,none⟩=some (.slice p0_o p0_n p0_c)∧W.cell? ⟨w.heap.size,2,none⟩=some (.int .i64 p0_e)∧W.cell? ⟨w.heap.size,3,none⟩=some (.bool p1_g)∧W.cell? ⟨w.heap.size,4,none⟩=some (.slice p1_o p1_n p1_c)∧W.cell? ⟨w.heap.size,5,none⟩=some (.int .i64 p1_e)∧W.cell? ⟨w.heap.size+1,0,none⟩=some (.bool q0_g)∧W.cell? ⟨w.heap.size+1,1,none⟩=some (.slice q0_o q0_n q0_c)∧W.cell? ⟨w.heap.size+1,2,none⟩=some (.int .i64 q0_e)∧W.cell? ⟨w.heap.size+1,3,none⟩=some (.bool q1_g)∧W.cell? ⟨w.heap.size+1,4,none⟩=some (.slice q1_o q1_n q1_c)∧W.cell? ⟨w.heap.size+1,5,none⟩=some (.int .i64 q1_e))
  (with_reducible first|assumption|exact KK _ hC0|exact KK _ (co hC0 _)|exact KK _ (iW hR0 _)|exact KK _ hC1|exact KK _ (co hC1 _)|exact KK _ (co (co hC1 _) _)|exact KK _ hC2|exact KN _ _ _ _ hC2|fail)
  (first|(go_at_call 89;refine(CD.out _ _ _ n_g n_o n_n n_c n_e (ac hb0 (by with_reducible first|exact co hC1 _|exact co (co hC1 _) _)) (nD.keeps (by with_reducible first|exact ah _ _|exact aO _ _ _)) (by with_reducible first|exact aC _ _|exact bX _ _ _|exact bP _ _ _) (by with_reducible first|exact ar _ (am hq (iw _ _))|exact bX _ _ _|exact bP _ _ _)).mono ?_;rintro _ y2 ⟨v,D,rfl,hd,he,hbd⟩;obtain⟨v_g,v_o,v_n,v_c,v_e,rfl⟩:=aT hd;have hC2:=ac (by with_reducible first|exact co hC1 _|exact co (co hC1 _) _) hd.below;have dA:=aX.from hd (by with_reducible first|exact co hC1 _|exact co (co hC1 _) _);have r_k2:=am hC2 r_k;have a0:=af r_k2 0 rfl;have a1:=af r_k2 1 rfl;have a2:=af r_k2 2 rfl;have z0:=av r_k2 0;have z1:=av r_k2 1;have z2:=av r_k2 2)|(go_at_call 90;refine(CT.out _ (ac hb0 (by with_reducible first|exact hC0|exact iW hR0 _))).mono ?_;rintro _ y1 ⟨vn,rfl,hn⟩;obtain⟨n_g,n_o,n_n,n_c,n_e,rfl⟩:=aT hn;have hq:=hn.below;have nD:=hn.num;have hC1:=ac (by with_reducible first|exact hC0|exact iW hR0 _) hq))
 all_goals
  go_wp2
  refine bodyPost_ret (v:=.agg #[.bool v_g,.slice v_o v_n v_c,.int .i64 v_e]) (by simp[results,Tryz.results98,go_sem,a0,a1,a2]) rfl ⟨_,D,rfl,?_,he,hbd⟩
  exact bM (g:=w.heap.size+2) dA hb0 (by omega) hs0 _ _ _
def f3 (a b c:Int) (i:Nat):Int:=if i=0 then a else if i=1 then b else c
theorem zm {S D E1 E2 E3 P0 P1 P2 Q0 Q1 Q2 R0 R1 R2:Int} (e1:E1*S=Q0*R1-R0*Q1) (e2:E2*S=R0*P1-P0*R1) (e3:E3*S=P0*Q1-Q0*P1) (e:D*S=0+P2*E1+Q2*E2+R2*E3):D*S*S=P2*(Q0*R1-R0*Q1)+Q2*(R0*P1-P0*R1)+R2*(P0*Q1-Q0*P1):=by
 rw[e,<- e1,<- e2,<- e3]
 grind
theorem iL {w:World} {p0_g:Bool} {p0_o:Option Addr} {p0_n p0_c:Nat} {p0_e:Int} {p1_g:Bool} {p1_o:Option Addr} {p1_n p1_c:Nat} {p1_e:Int} {p2_g:Bool} {p2_o:Option Addr} {p2_n p2_c:Nat} {p2_e:Int} {q0_g:Bool} {q0_o:Option Addr} {q0_n q0_c:Nat} {q0_e:Int} {q1_g:Bool} {q1_o:Option Addr} {q1_n q1_c:Nat} {q1_e:Int} {q2_g:Bool} {q2_o:Option Addr} {q2_n q2_c:Nat} {q2_e:Int} {r0_g:Bool} {r0_o:Option Addr} {r0_n r0_c:Nat} {r0_e:Int} {r1_g:Bool} {r1_o:Option Addr} {r1_n r1_c:Nat} {r1_e:Int} {r2_g:Bool} {r2_o:Option Addr} {r2_n r2_c:Nat} {r2_e:Int} {P0 P1 P2 Q0 Q1 Q2 R0 R1 R2:Int} (hp0:aR w (.agg #[.bool p0_g,.slice p0_o p0_n p0_c,.int .i64 p0_e]) P0) (bp0:Bd 1075 P0) (hp1:aR w (.agg #[.bool p1_g,.slice p1_o p1_n p1_c,.int .i64 p1_e]) P1) (bp1:Bd 1075 P1) (hp2:aR w (.agg #[.bool p2_g,.slice p2_o p2_n p2_c,.int .i64 p2_e]) P2) (bp2:Bd 1075 P2) (hq0:aR w (.agg #[.bool q0_g,.slice q0_o q0_n q0_c,.int .i64 q0_e]) Q0) (bq0:Bd 1075 Q0) (hq1:aR w (.agg #[.bool q1_g,.slice q1_o q1_n q1_c,.int .i64 q1_e]) Q1) (bq1:Bd 1075 Q1) (hq2:aR w (.agg #[.bool q2_g,.slice q2_o q2_n q2_c,.int .i64 q2_e]) Q2) (bq2:Bd 1075 Q2) (hr0:aR w (.agg #[.bool r0_g,.slice r0_o r0_n r0_c,.int .i64 r0_e]) R0) (br0:Bd 1075 R0) (hr1:aR w (.agg #[.bool r1_g,.slice r1_o r1_n r1_c,.int .i64 r1_e]) R1) (br1:Bd 1075 R1) (hr2:aR w (.agg #[.bool r2_g,.slice r2_o r2_n r2_c,.int .i64 r2_e]) R2) (br2:Bd 1075 R2) (hT:ec w) :
  Calls Tryz.prog 69 #[.agg #[.bool p0_g,.slice p0_o p0_n p0_c,.int .i64 p0_e,.bool p1_g,.slice p1_o p1_n p1_c,.int .i64 p1_e,.bool p2_g,.slice p2_o p2_n p2_c,.int .i64 p2_e],.agg #[.bool q0_g,.slice q0_o q0_n q0_c,.int .i64 q0_e,.bool q1_g,.slice q1_o q1_n q1_c,.int .i64 q1_e,.bool q2_g,.slice q2_o q2_n q2_c,.int .i64 q2_e],.agg #[.bool r0_g,.slice r0_o r0_n r0_c,.int .i64 r0_e,.bool r1_g,.slice r1_o r1_n r1_c,.int .i64 r1_e,.bool r2_g,.slice r2_o r2_n r2_c,.int .i64 r2_e]] w fun r w'=>∃ v D,r=.returned v∧aX w w' D v∧D*2^4194304*2^4194304=P2*(Q0*R1-R0*Q1)+Q2*(R0*P1-P0*R1)+R2*(P0*Q1-Q0*P1)∧Bd (2*2152+3) D:=by
 have M1:Hid (∀ W,Below w.heap.size w W->Calls Tryz.prog 98 #[.agg #[.bool q0_g,.slice q0_o q0_n q0_c,.int .i64 q0_e,.bool q1_g,.slice q1_o q1_n q1_c,.int .i64 q1_e,.bool q2_g,.slice q2_o q2_n q2_c,.int .i64 q2_e],.agg #[.bool r0_g,.slice r0_o r0_n r0_c,.int .i64 r0_e,.bool r1_g,.slice r1_o r1_n r1_c,.int .i64 r1_e,.bool r2_g,.slice r2_o r2_n r2_c,.int .i64 r2_e]] W fun r w'=>∃ v D,r=.returned v∧aX W w' D v∧D*2^4194304=Q0*R1-R0*Q1∧Bd (2*1075+2) D):=fun W hW=>ln (K:=1075) (hq0.keeps hW) (hq1.keeps hW) (hr0.keeps hW) (hr1.keeps hW) bq0 bq1 br0 br1 (by decide) (hT.keeps hW)
 have M2:Hid (∀ W,Below w.heap.size w W->Calls Tryz.prog 98 #[.agg #[.bool r0_g,.slice r0_o r0_n r0_c,.int .i64 r0_e,.bool r1_g,.slice r1_o r1_n r1_c,.int .i64 r1_e,.bool r2_g,.slice r2_o r2_n r2_c,.int .i64 r2_e],.agg #[.bool p0_g,.slice p0_o p0_n p0_c,.int .i64 p0_e,.bool p1_g,.slice p1_o p1_n p1_c,.int .i64 p1_e,.bool p2_g,.slice p2_o p2_n p2_c,.int .i64 p2_e]] W fun r w'=>∃ v D,r=.returned v∧aX W w' D v∧D*2^4194304=R0*P1-P0*R1∧Bd (2*1075+2) D):=fun W hW=>ln (K:=1075) (hr0.keeps hW) (hr1.keeps hW) (hp0.keeps hW) (hp1.keeps hW) br0 br1 bp0 bp1 (by decide) (hT.keeps hW)
 have M3:Hid (∀ W,Below w.heap.size w W->Calls Tryz.prog 98 #[.agg #[.bool p0_g,.slice p0_o p0_n p0_c,.int .i64 p0_e,.bool p1_g,.slice p1_o p1_n p1_c,.int .i64 p1_e,.bool p2_g,.slice p2_o p2_n p2_c,.int .i64 p2_e],.agg #[.bool q0_g,.slice q0_o q0_n q0_c,.int .i64 q0_e,.bool q1_g,.slice q1_o q1_n q1_c,.int .i64 q1_e,.bool q2_g,.slice q2_o q2_n q2_c,.int .i64 q2_e]] W fun r w'=>∃ v D,r=.returned v∧aX W w' D v∧D*2^4194304=P0*Q1-Q0*P1∧Bd (2*1075+2) D):=fun W hW=>ln (K:=1075) (hp0.keeps hW) (hp1.keeps hW) (hq0.keeps hW) (hq1.keeps hW) bp0 bp1 bq0 bq1 (by decide) (hT.keeps hW)
 have CD:Hid (∀ W g1 g2 E1 E2 E3 m1_g m1_o m1_n m1_c m1_e m2_g m2_o m2_n m2_c m2_e m3_g m3_o m3_n m3_c m3_e,Below w.heap.size w W->aR W (.agg #[.bool m1_g,.slice m1_o m1_n m1_c,.int .i64 m1_e]) E1->aR W (.agg #[.bool m2_g,.slice m2_o m2_n m2_c,.int .i64 m2_e]) E2->aR W (.agg #[.bool m3_g,.slice m3_o m3_n m3_c,.int .i64 m3_e]) E3->E1*2^4194304=Q0*R1-R0*Q1->E2*2^4194304=R0*P1-P0*R1->E3*2^4194304=P0*Q1-Q0*P1->Bd 2152 E1->Bd 2152 E2->Bd 2152 E3->W.heap[g1]?=some (.cells #[.bool p2_g,.slice p2_o p2_n p2_c,.int .i64 p2_e,.bool q2_g,.slice q2_o q2_n q2_c,.int .i64 q2_e,.bool r2_g,.slice r2_o r2_n r2_c,.int .i64 r2_e] 33 (0,0))->W.heap[g2]?=some (.cells #[.bool m1_g,.slice m1_o m1_n m1_c,.int .i64 m1_e,.bool m2_g,.slice m2_o m2_n m2_c,.int .i64 m2_e,.bool m3_g,.slice m3_o m3_n m3_c,.int .i64 m3_e] 33 (0,0))->Calls Tryz.prog 89 #[.slice (some ⟨g1,0,none⟩) 3 3,.slice (some ⟨g2,0,none⟩) 3 3] W fun r w'=>∃ v D,r=.returned v∧aX W w' D v∧D*2^4194304*2^4194304=P2*(Q0*R1-R0*Q1)+Q2*(R0*P1-P0*R1)+R2*(P0*Q1-Q0*P1)∧Bd (2*2152+3) D):=fun W g1 g2 E1 E2 E3 m1_g m1_o m1_n m1_c m1_e m2_g m2_o m2_n m2_c m2_e m3_g m3_o m3_n m3_c m3_e hW d1 d2 d3 e1 e2 e3 b1 b2 b3 k1 k2=>by
  refine(gG (w:=W) (b:=g1) (off:=0) (b':=g2) (off':=0) (n:=3) (c:=3) (c':=3) (K:=2152) (V:=f3 P2 Q2 R2) (W:=f3 E1 E2 E3) (fun i hi=>?_) (fun i hi=>?_) (by decide) (by decide) (by decide) (by decide) (by decide) (by decide) (hT.keeps hW)).mono ?_
  ·match i,hi with
   | 0,_=>exact⟨eA k1 rfl rfl rfl (hp2.keeps hW),bp2.up (by decide) (by decide)⟩
   | 1,_=>exact⟨eA k1 rfl rfl rfl (hq2.keeps hW),bq2.up (by decide) (by decide)⟩
   | 2,_=>exact⟨eA k1 rfl rfl rfl (hr2.keeps hW),br2.up (by decide) (by decide)⟩
  ·match i,hi with
   | 0,_=>exact⟨eA k2 rfl rfl rfl d1,b1⟩
   | 1,_=>exact⟨eA k2 rfl rfl rfl d2,b2⟩
   | 2,_=>exact⟨eA k2 rfl rfl rfl d3,b3⟩
  ·rintro _ w' ⟨v,D,rfl,hd,he,hb⟩
   exact⟨v,D,rfl,hd,zm e1 e2 e3 he,hb⟩
 clear hp0 bp0 hp1 bp1 hp2 bp2 hq0 bq0 hq1 bq1 hq2 bq2 hr0 br0 hr1 br1 hr2 br2 hT
 have hb0:=eY w (.cells #[.bool p0_g,.slice p0_o p0_n p0_c,.int .i64 p0_e,.bool p1_g,.slice p1_o p1_n p1_c,.int .i64 p1_e,.bool p2_g,.slice p2_o p2_n p2_c,.int .i64 p2_e] 63) (.cells #[.bool q0_g,.slice q0_o q0_n q0_c,.int .i64 q0_e,.bool q1_g,.slice q1_o q1_n q1_c,.int .i64 q1_e,.bool q2_g,.slice q2_o q2_n q2_c,.int .i64 q2_e] 63) (.cells #[.bool r0_g,.slice r0_o r0_n r0_c,.int .i64 r0_e,.bool r1_g,.slice r1_o r1_n r1_c,.int .i64 r1_e,.bool r2_g,.slice r2_o r2_n r2_c,.int .i64 r2_e] 63) (.cells #[.bool false,.slice none 0 0,.int .i64 0] 33)
 have p_k:=ij w (.cells #[.bool p0_g,.slice p0_o p0_n p0_c,.int .i64 p0_e,.bool p1_g,.slice p1_o p1_n p1_c,.int .i64 p1_e,.bool p2_g,.slice p2_o p2_n p2_c,.int .i64 p2_e] 63) (.cells #[.bool q0_g,.slice q0_o q0_n q0_c,.int .i64 q0_e,.bool q1_g,.slice q1_o q1_n q1_c,.int .i64 q1_e,.bool q2_g,.slice q2_o q2_n q2_c,.int .i64 q2_e] 63) (.cells #[.bool r0_g,.slice r0_o r0_n r0_c,.int .i64 r0_e,.bool r1_g,.slice r1_o r1_n r1_c,.int .i64 r1_e,.bool r2_g,.slice r2_o r2_n r2_c,.int .i64 r2_e] 63) (.cells #[.bool false,.slice none 0 0,.int .i64 0] 33)
 have q_k:=ik w (.cells #[.bool p0_g,.slice p0_o p0_n p0_c,.int .i64 p0_e,.bool p1_g,.slice p1_o p1_n p1_c,.int .i64 p1_e,.bool p2_g,.slice p2_o p2_n p2_c,.int .i64 p2_e] 63) (.cells #[.bool q0_g,.slice q0_o q0_n q0_c,.int .i64 q0_e,.bool q1_g,.slice q1_o q1_n q1_c,.int .i64 q1_e,.bool q2_g,.slice q2_o q2_n q2_c,.int .i64 q2_e] 63) (.cells #[.bool r0_g,.slice r0_o r0_n r0_c,.int .i64 r0_e,.bool r1_g,.slice r1_o r1_n r1_c,.int .i64 r1_e,.bool r2_g,.slice r2_o r2_n r2_c,.int .i64 r2_e] 63) (.cells #[.bool false,.slice none 0 0,.int .i64 0] 33)
 have r_k:=gU w (.cells #[.bool p0_g,.slice p0_o p0_n p0_c,.int .i64 p0_e,.bool p1_g,.slice p1_o p1_n p1_c,.int .i64 p1_e,.bool p2_g,.slice p2_o p2_n p2_c,.int .i64 p2_e] 63) (.cells #[.bool q0_g,.slice q0_o q0_n q0_c,.int .i64 q0_e,.bool q1_g,.slice q1_o q1_n q1_c,.int .i64 q1_e,.bool q2_g,.slice q2_o q2_n q2_c,.int .i64 q2_e] 63) (.cells #[.bool r0_g,.slice r0_o r0_n r0_c,.int .i64 r0_e,.bool r1_g,.slice r1_o r1_n r1_c,.int .i64 r1_e,.bool r2_g,.slice r2_o r2_n r2_c,.int .i64 r2_e] 63) (.cells #[.bool false,.slice none 0 0,.int .i64 0] 33)
 have o_k:=gV w (.cells #[.bool p0_g,.slice p0_o p0_n p0_c,.int .i64 p0_e,.bool p1_g,.slice p1_o p1_n p1_c,.int .i64 p1_e,.bool p2_g,.slice p2_o p2_n p2_c,.int .i64 p2_e] 63) (.cells #[.bool q0_g,.slice q0_o q0_n q0_c,.int .i64 q0_e,.bool q1_g,.slice q1_o q1_n q1_c,.int .i64 q1_e,.bool q2_g,.slice q2_o q2_n q2_c,.int .i64 q2_e] 63) (.cells #[.bool r0_g,.slice r0_o r0_n r0_c,.int .i64 r0_e,.bool r1_g,.slice r1_o r1_n r1_c,.int .i64 r1_e,.bool r2_g,.slice r2_o r2_n r2_c,.int .i64 r2_e] 63) (.cells #[.bool false,.slice none 0 0,.int .i64 0] 33)
 go_enter Tryz.func69,Tryz.ntmps69
 go_wp2_with fail
 generalize (((w.alloc (.cells #[.bool p0_g,.slice p0_o p0_n p0_c,.int .i64 p0_e,.bool p1_g,.slice p1_o p1_n p1_c,.int .i64 p1_e,.bool p2_g,.slice p2_o p2_n p2_c,.int .i64 p2_e] 63)).alloc (.cells #[.bool q0_g,.slice q0_o q0_n q0_c,.int .i64 q0_e,.bool q1_g,.slice q1_o q1_n q1_c,.int .i64 q1_e,.bool q2_g,.slice q2_o q2_n q2_c,.int .i64 q2_e] 63)).alloc (.cells #[.bool r0_g,.slice r0_o r0_n r0_c,.int .i64 r0_e,.bool r1_g,.slice r1_o r1_n r1_c,.int .i64 r1_e,.bool r2_g,.slice r2_o r2_n r2_c,.int .i64 r2_e] 63)).alloc (.cells #[.bool false,.slice none 0 0,.int .i64 0] 33)=x4 at hb0 p_k q_k r_k o_k ⊢
 have hs0:=(aGe o_k).1
 have KK:∀ W,Below x4.heap.size x4 W->W.cell? ⟨w.heap.size,0,none⟩=some (.bool p0_g)∧W.cell? ⟨w.heap.size,1,none⟩=some (.slice p0_o p0_n p0_c)∧W.cell? ⟨w.heap.size,2,none⟩=some (.int .i64 p0_e)∧W.cell? ⟨w.heap.size,3,none⟩=some (.bool p1_g)∧W.cell? ⟨w.heap.size,4,none⟩=some (.slice p1_o p1_n p1_c)∧W.cell? ⟨w.heap.size,5,none⟩=some (.int .i64 p1_e)∧W.cell? ⟨w.heap.size,6,none⟩=some (.bool p2_g)∧W.cell? ⟨w.heap.size,7,none⟩=some (.slice p2_o p2_n p2_c)∧W.cell? ⟨w.heap.size,8,none⟩=some (.int .i64 p2_e)∧W.cell? ⟨w.heap.size+1,0,none⟩=some (.bool q0_g)∧W.cell? ⟨w.heap.size+1,1,none⟩=some (.slice q0_o q0_n q0_c)∧W.cell? ⟨w.heap.size+1,2,none⟩=some (.int .i64 q0_e)∧W.cell? ⟨w.heap.size+1,3,none⟩=some (.bool q1_g)∧W.cell? ⟨w.heap.size+1,4,none⟩=some (.slice q1_o q1_n q1_c)∧W.cell? ⟨w.heap.size+1,5,none⟩=some (.int .i64 q1_e)∧W.cell? ⟨w.heap.size+1,6,none⟩=some (.bool q2_g)∧W.cell? ⟨w.heap.size+1,7,none⟩=some (.slice q2_o q2_n q2_c)∧W.cell? ⟨w.heap.size+1,8,none⟩=some (.int .i64 q2_e)∧W.cell? ⟨w.heap.size+2,0,none⟩=some (.bool r0_g)∧W.cell? ⟨w.heap.size+2,1,none⟩=some (.slice r0_o r0_n r0_c)∧W.cell? ⟨w.heap.size+2,2,none⟩=some (.int .i64 r0_e)∧W.cell? ⟨w.heap.size+2,3,none⟩=some (.bool r1_g)∧W.cell? ⟨w.heap.size+2,4,none⟩=some (.slice r1_o r1_n r1_c)∧W.cell? ⟨w.heap.size+2,5,none⟩=some (.int .i64 r1_e)∧W.cell? ⟨w.heap.size+2,6,none⟩=some (.bool r2_g)∧W.cell? ⟨w.heap.size+2,7,none⟩=some (.slice r2_o r2_n r2_c)∧W.cell? ⟨w.heap.size+2,8,none⟩=some (.int .i64 r2_e):=fun W hb=>⟨aj (af p_k 0 rfl) hb,aj (af p_k 1 rfl) hb,aj (af p_k 2 rfl) hb,aj (af p_k 3 rfl) hb,aj (af p_k 4 rfl) hb,aj (af p_k 5 rfl) hb,aj (af p_k 6 rfl) hb,aj (af p_k 7 rfl) hb,aj (af p_k 8 rfl) hb,aj (af q_k 0 rfl) hb,aj (af q_k 1 rfl) hb,aj (af q_k 2 rfl) hb,aj (af q_k 3 rfl) hb,aj (af q_k 4 rfl) hb,aj (af q_k 5 rfl) hb,aj (af q_k 6 rfl) hb,aj (af q_k 7 rfl) hb,aj (af q_k 8 rfl) hb,aj (af r_k 0 rfl) hb,aj (af r_k 1 rfl) hb,aj (af r_k 2 rfl) hb,aj (af r_k 3 rfl) hb,aj (af r_k 4 rfl) hb,aj (af r_k 5 rfl) hb,aj (af r_k 6 rfl) hb,aj (af r_k 7 rfl) hb,aj (af r_k 8 rfl) hb⟩
 have KN:∀ W a b c,Below x4.heap.size x4 W->(((W.setCell ⟨w.heap.size+3,0,none⟩ a).setCell ⟨w.heap.size+3,1,none⟩ b).setCell ⟨w.heap.size+3,2,none⟩ c).cell? ⟨w.heap.size,0,none⟩=some (.bool p0_g)∧(((W.setCell ⟨w.heap.size+3,0,none⟩ a).setCell ⟨w.heap.size+3,1,none⟩ b).setCell ⟨w.heap.size+3,2,none⟩ c).cell? ⟨w.heap.size,1,none⟩=some (.slice p0_o p0_n p0_c)∧(((W.setCell ⟨w.heap.size+3,0,none⟩ a).setCell ⟨w.heap.size+3,1,none⟩ b).setCell ⟨w.heap.size+3,2,none⟩ c).cell? ⟨w.heap.size,2,none⟩=some (.int .i64 p0_e)∧(((W.setCell ⟨w.heap.size+3,0,none⟩ a).setCell ⟨w.heap.size+3,1,none⟩ b).setCell ⟨w.heap.size+3,2,none⟩ c).cell? ⟨w.heap.size,3,none⟩=some (.bool p1_g)∧(((W.setCell ⟨w.heap.size+3,0,none⟩ a).setCell ⟨w.heap.size+3,1,none⟩ b).setCell ⟨w.heap.size+3,2,none⟩ c).cell? ⟨w.heap.size,4,none⟩=some (.slice p1_o p1_n p1_c)∧(((W.setCell ⟨w.heap.size+3,0,none⟩ a).setCell ⟨w.heap.size+3,1,none⟩ b).setCell ⟨w.heap.size+3,2,none⟩ c).cell? ⟨w.heap.size,5,none⟩=some (.int .i64 p1_e)∧(((W.setCell ⟨w.heap.size+3,0,none⟩ a).setCell ⟨w.heap.size+3,1,none⟩ b).setCell ⟨w.heap.size+3,2,none⟩ c).cell? ⟨w.heap.size,6,none⟩=some (.bool p2_g)∧(((W.setCell ⟨w.heap.size+3,0,none⟩ a).setCell ⟨w.heap.size+3,1,none⟩ b).setCell ⟨w.heap.size+3,2,none⟩ c).cell? ⟨w.heap.size,7,none⟩=some (.slice p2_o p2_n p2_c)∧(((W.setCell ⟨w.heap.size+3,0,none⟩ a).setCell ⟨w.heap.size+3,1,none⟩ b).setCell ⟨w.heap.size+3,2,none⟩ c).cell? ⟨w.heap.size,8,none⟩=some (.int .i64 p2_e)∧(((W.setCell ⟨w.heap.size+3,0,none⟩ a).setCell ⟨w.heap.size+3,1,none⟩ b).setCell ⟨w.heap.size+3,2,none⟩ c).cell? ⟨w.heap.size+1,0,none⟩=some (.bool q0_g)∧(((W.setCell ⟨w.heap.size+3,0,none⟩ a).setCell ⟨w.heap.size+3,1,none⟩ b).setCell ⟨w.heap.size+3,2,none⟩ c).cell? ⟨w.heap.size+1,1,none⟩=some (.slice q0_o q0_n q0_c)∧(((W.setCell ⟨w.heap.size+3,0,none⟩ a).setCell ⟨w.heap.size+3,1,none⟩ b).setCell ⟨w.heap.size+3,2,none⟩ c).cell? ⟨w.heap.size+1,2,none⟩=some (.int .i64 q0_e)∧(((W.setCell ⟨w.heap.size+3,0,none⟩ a).setCell ⟨w.heap.size+3,1,none⟩ b).setCell ⟨w.heap.size+3,2,none⟩ c).cell? ⟨w.heap.size+1,3,none⟩=some (.bool q1_g)∧(((W.setCell ⟨w.heap.size+3,0,none⟩ a).setCell ⟨w.heap.size+3,1,none⟩ b).setCell ⟨w.heap.size+3,2,none⟩ c).cell? ⟨w.heap.size+1,4,none⟩=some (.slice q1_o q1_n q1_c)∧(((W.setCell ⟨w.heap.size+3,0,none⟩ a).setCell ⟨w.heap.size+3,1,none⟩ b).setCell ⟨w.heap.size+3,2,none⟩ c).cell? ⟨w.heap.size+1,5,none⟩=some (.int .i64 q1_e)∧(((W.setCell ⟨w.heap.size+3,0,none⟩ a).setCell ⟨w.heap.size+3,1,none⟩ b).setCell ⟨w.heap.size+3,2,none⟩ c).cell? ⟨w.heap.size+1,6,none⟩=some (.bool q2_g)∧(((W.setCell ⟨w.heap.size+3,0,none⟩ a).setCell ⟨w.heap.size+3,1,none⟩ b).setCell ⟨w.heap.size+3,2,none⟩ c).cell? ⟨w.heap.size+1,7,none⟩=some (.slice q2_o q2_n q2_c)∧(((W.setCell ⟨w.heap.size+3,0,none⟩ a).setCell ⟨w.heap.size+3,1,none⟩ b).setCell ⟨w.heap.size+3,2,none⟩ c).cell? ⟨w.heap.size+1,8,none⟩=some (.int .i64 q2_e)∧(((W.setCell ⟨w.heap.size+3,0,none⟩ a).setCell ⟨w.heap.size+3,1,none⟩ b).setCell ⟨w.heap.size+3,2,none⟩ c).cell? ⟨w.heap.size+2,0,none⟩=some (.bool r0_g)∧(((W.setCell ⟨w.heap.size+3,0,none⟩ a).setCell ⟨w.heap.size+3,1,none⟩ b).setCell ⟨w.heap.size+3,2,none⟩ c).cell? ⟨w.heap.size+2,1,none⟩=some (.slice r0_o r0_n r0_c)∧(((W.setCell ⟨w.heap.size+3,0,none⟩ a).setCell ⟨w.heap.size+3,1,none⟩ b).setCell ⟨w.heap.size+3,2,none⟩ c).cell? ⟨w.heap.size+2,2,none⟩=some (.int .i64 r0_e)∧(((W.setCell ⟨w.heap.size+3,0,none⟩ a).setCell ⟨w.heap.size+3,1,none⟩ b).setCell ⟨w.heap.size+3,2,none⟩ c).cell? ⟨w.heap.size+2,3,none⟩=some (.bool r1_g)∧(((W.setCell ⟨w.heap.size+3,0,none⟩ a).setCell ⟨w.heap.size+3,1,none⟩ b).setCell ⟨w.heap.size+3,2,none⟩ c).cell? ⟨w.heap.size+2,4,none⟩=some (.slice r1_o r1_n r1_c)∧(((W.setCell ⟨w.heap.size+3,0,none⟩ a).setCell ⟨w.heap.size+3,1,none⟩ b).setCell ⟨w.heap.size+3,2,none⟩ c).cell? ⟨w.heap.size+2,5,none⟩=some (.int .i64 r1_e)∧(((W.setCell ⟨w.heap.size+3,0,none⟩ a).setCell ⟨w.heap.size+3,1,none⟩ b).setCell ⟨w.heap.size+3,2,none⟩ c).cell? ⟨w.heap.size+2,6,none⟩=some (.bool r2_g)∧(((W.setCell ⟨w.heap.size+3,0,none⟩ a).setCell ⟨w.heap.size+3,1,none⟩ b).setCell ⟨w.heap.size+3,2,none⟩ c).cell? ⟨w.heap.size+2,7,none⟩=some (.slice r2_o r2_n r2_c)∧(((W.setCell ⟨w.heap.size+3,0,none⟩ a).setCell ⟨w.heap.size+3,1,none⟩ b).setCell ⟨w.heap.size+3,2,none⟩ c).cell? ⟨w.heap.size+2,8,none⟩=some (.int .i64 r2_e):=fun W a b c hb=>⟨bc (KK W hb).1 a b c (show w.heap.size≠w.heap.size+3 by omega),bc (KK W hb).2.1 a b c (show w.heap.size≠w.heap.size+3 by omega),bc (KK W hb).2.2.1 a b c (show w.heap.size≠w.heap.size+3 by omega),bc (KK W hb).2.2.2.1 a b c (show w.heap.size≠w.heap.size+3 by omega),bc (KK W hb).2.2.2.2.1 a b c (show w.heap.size≠w.heap.size+3 by omega),bc (KK W hb).2.2.2.2.2.1 a b c (show w.heap.size≠w.heap.size+3 by omega),bc (KK W hb).2.2.2.2.2.2.1 a b c (show w.heap.size≠w.heap.size+3 by omega),bc (KK W hb).2.2.2.2.2.2.2.1 a b c (show w.heap.size≠w.heap.size+3 by omega),bc (KK W hb).2.2.2.2.2.2.2.2.1 a b c (show w.heap.size≠w.heap.size+3 by omega),bc (KK W hb).2.2.2.2.2.2.2.2.2.1 a b c (show w.heap.size+1≠w.heap.size+3 by omega),bc (KK W hb).2.2.2.2.2.2.2.2.2.2.1 a b c (show w.heap.size+1≠w.heap.size+3 by omega),bc (KK W hb).2.2.2.2.2.2.2.2.2.2.2.1 a b c (show w.heap.size+1≠w.heap.size+3 by omega),bc (KK W hb).2.2.2.2.2.2.2.2.2.2.2.2.1 a b c (show w.heap.size+1≠w.heap.size+3 by omega),bc (KK W hb).2.2.2.2.2.2.2.2.2.2.2.2.2.1 a b c (show w.heap.size+1≠w.heap.size+3 by omega),bc (KK W hb).2.2.2.2.2.2.2.2.2.2.2.2.2.2.1 a b c (show w.heap.size+1≠w.heap.size+3 by omega),bc (KK W hb).2.2.2.2.2.2.2.2.2.2.2.2.2.2.2.1 a b c (show w.heap.size+1≠w.heap.size+3 by omega),bc (KK W hb).2.2.2.2.2.2.2.2.2.2.2.2.2.2.2.2.1 a b c (show w.heap.size+1≠w.heap.size+3 by omega),bc (KK W hb).2.2.2.2.2.2.2.2.2.2.2.2.2.2.2.2.2.1 a b c (show w.heap.size+1≠w.heap.size+3 by omega),bc (KK W hb).2.2.2.2.2.2.2.2.2.2.2.2.2.2.2.2.2.2.1 a b c (show w.heap.size+2≠w.heap.size+3 by omega),bc (KK W hb).2.2.2.2.2.2.2.2.2.2.2.2.2.2.2.2.2.2.2.1 a b c (show w.heap.size+2≠w.heap.size+3 by omega),bc (KK W hb).2.2.2.2.2.2.2.2.2.2.2.2.2.2.2.2.2.2.2.2.1 a b c (show w.heap.size+2≠w.heap.size+3 by omega),bc (KK W hb).2.2.2.2.2.2.2.2.2.2.2.2.2.2.2.2.2.2.2.2.2.1 a b c (show w.heap.size+2≠w.heap.size+3 by omega),bc (KK W hb).2.2.2.2.2.2.2.2.2.2.2.2.2.2.2.2.2.2.2.2.2.2.1 a b c (show w.heap.size+2≠w.heap.size+3 by omega),bc (KK W hb).2.2.2.2.2.2.2.2.2.2.2.2.2.2.2.2.2.2.2.2.2.2.2.1 a b c (show w.heap.size+2≠w.heap.size+3 by omega),bc (KK W hb).2.2.2.2.2.2.2.2.2.2.2.2.2.2.2.2.2.2.2.2.2.2.2.2.1 a b c (show w.heap.size+2≠w.heap.size+3 by omega),bc (KK W hb).2.2.2.2.2.2.2.2.2.2.2.2.2.2.2.2.2.2.2.2.2.2.2.2.2.1 a b c (show w.heap.size+2≠w.heap.size+3 by omega),bc (KK W hb).2.2.2.2.2.2.2.2.2.2.2.2.2.2.2.2.2.2.2.2.2.2.2.2.2.2 a b c (show w.heap.size+2≠w.heap.size+3 by omega)⟩
 have hR0:=ak x4
 have hC0:=(ak x4).drew
 go_region_held3 (fun W=>W.cell? ⟨w.heap.size,0,none⟩=some (.bool p0_g)∧W.cell? ⟨w.heap.size,1,none⟩=some (.slice p0_o p0_n p0_c)∧W.cell? ⟨w.heap.size,2,none⟩=some (.int .i64 p0_e)∧W.cell? ⟨w.heap.size,3,none⟩=some (.bool p1_g)∧W.cell? ⟨w.heap.size,4,none⟩=some (.slice p1_o p1_n p1_c)∧W.cell? ⟨w.heap.size,5,none⟩=some (.int .i64 p1_e)∧W.cell? ⟨w.heap.size,6,none⟩=some (.bool p2_g)∧W.cell? ⟨w.heap.size,7,none⟩=some (.slice p2_o p2_n p2_c)∧W.cell? ⟨w.heap.size,8,none⟩=some (.int .i64 p2_e)∧W.cell? ⟨w.heap.size+1,0,none⟩=some (.bool q0_g)∧W.cell? ⟨w.heap.size+1,1,none⟩=some (.slice q0_o q0_n q0_c)∧W.cell? ⟨w.heap.size+1,2,none⟩=some (.int .i64 q0_e)∧W.cell? ⟨w.heap.size+1,3,none⟩=some (.bool q1_g)∧W.cell? ⟨w.heap.size+1,4,none⟩=some (.slice q1_o q1_n q1_c)∧W.cell? ⟨w.heap.size+1,5,none⟩=some (.int .i64 q1_e)∧W.cell? ⟨w.heap.size+1,6,none⟩=some (.bool q2_g)∧W.cell? ⟨w.heap.size+1,7,none⟩=some (.slice q2_o q2_n q2_c)∧W.cell? ⟨w.heap.size+1,8,none⟩=some (.int .i64 q2_e)∧W.cell? ⟨w.heap.size+2,0,none⟩=some (.bool r0_g)∧W.cell? ⟨w.heap.size+2,1,none⟩=some (.slice r0_o r0_n r0_c)∧W.cell? ⟨w.heap.size+2,2,none⟩=some (.int .i64 r0_e)∧W.cell? ⟨w.heap.size+2,3,none⟩=some (.bool r1_g)∧W.cell? ⟨w.heap.size+2,4,none⟩=some (.slice r1_o r1_n r1_c)∧W.cell? ⟨w.heap.size+2,5,none⟩=some (.int .i64 r1_e)∧W.cell? ⟨w.heap.size+2,6,none⟩=some (.bool r2_g)∧W.cell? ⟨w.heap.size+2,7,none⟩=some (.slice r2_o r2_n r2_c)∧W.cell? ⟨w.heap.size+2,8,none⟩=some (.int .i64 r2_e))
  (with_reducible first|assumption|exact KK _ hC0|exact KK _ (iW hR0 _)|exact KK _ (co hC0 _)|exact KK _ hC1|exact KK _ (co hC1 _)|exact KK _ hC2|exact KK _ (co hC2 _)|exact KK _ hC3|exact KK _ (co hC3 _)|exact KK _ (co (co hC3 _) _)|exact KK _ hC4|exact KN _ _ _ _ hC4|fail)
  (first|(go_at_call 89;refine(CD.out _ _ _ _ _ _ _ _ _ _ _ _ _ _ _ _ _ _ _ _ _ (ac hb0 (by with_reducible first|exact co hC3 _|exact co (co hC3 _) _)) (n1.keeps (ac hq2 (ac hq3 (by with_reducible first|exact ah _ _|exact aO _ _ _)))) (n2.keeps (ac hq3 (by with_reducible first|exact ah _ _|exact aO _ _ _))) (n3.keeps (by with_reducible first|exact ah _ _|exact aO _ _ _)) e1 e2 e3 b1 b2 b3 (by with_reducible first|exact bX _ _ _|exact bP _ _ _|exact ar _ (am d3.below (aC _ _))|exact ar _ (am d3.below (am d2.below (aC _ _)))|exact ar _ (am d3.below (am d2.below (am d1.below (iw _ _))))) (by with_reducible first|exact aC _ _|exact bP _ _ _|exact bX _ _ _)).mono ?_;rintro _ y4 ⟨v,D,rfl,hd,he,hbd⟩;obtain⟨v_g,v_o,v_n,v_c,v_e,rfl⟩:=aT hd;have hC4:=ac (by with_reducible first|exact co hC3 _|exact co (co hC3 _) _) hd.below;have dA:=aX.from hd (by with_reducible first|exact co hC3 _|exact co (co hC3 _) _);have o_k2:=am hC4 o_k;have a0:=af o_k2 0 rfl;have a1:=af o_k2 1 rfl;have a2:=af o_k2 2 rfl;have z0:=av o_k2 0;have z1:=av o_k2 1;have z2:=av o_k2 2)|(go_at_call 98;have _t:=hq2;refine(M3.out _ (ac hb0 (by with_reducible first|exact hC2|exact co hC2 _))).mono ?_;rintro _ y3 ⟨w3,E3,rfl,d3,e3,b3⟩;obtain⟨m3_g,m3_o,m3_n,m3_c,m3_e,rfl⟩:=aT d3;have hq3:Below y2.heap.size y2 y3:=(by with_reducible first|exact d3.below|exact ac (ah _ _) d3.below);have n3:=d3.num;have hC3:=ac (by with_reducible first|exact hC2|exact co hC2 _) d3.below)|(go_at_call 98;have _t:=hq1;refine(M2.out _ (ac hb0 (by with_reducible first|exact hC1|exact co hC1 _))).mono ?_;rintro _ y2 ⟨w2,E2,rfl,d2,e2,b2⟩;obtain⟨m2_g,m2_o,m2_n,m2_c,m2_e,rfl⟩:=aT d2;have hq2:Below y1.heap.size y1 y2:=(by with_reducible first|exact d2.below|exact ac (ah _ _) d2.below);have n2:=d2.num;have hC2:=ac (by with_reducible first|exact hC1|exact co hC1 _) d2.below)|(go_at_call 98;refine(M1.out _ (ac hb0 (by with_reducible first|exact hC0|exact co hC0 _|exact iW hR0 _))).mono ?_;rintro _ y1 ⟨w1,E1,rfl,d1,e1,b1⟩;obtain⟨m1_g,m1_o,m1_n,m1_c,m1_e,rfl⟩:=aT d1;have hq1:=d1.below;have n1:=d1.num;have hC1:=ac (by with_reducible first|exact hC0|exact co hC0 _|exact iW hR0 _) hq1))
 all_goals
  go_wp2
  refine bodyPost_ret (v:=.agg #[.bool v_g,.slice v_o v_n v_c,.int .i64 v_e]) (by simp[results,Tryz.results69,go_sem,a0,a1,a2]) rfl ⟨_,D,rfl,?_,he,hbd⟩
  exact bM (g:=w.heap.size+3) dA hb0 (by omega) hs0 _ _ _
end Go.Proofs.YtcklaogdjpbagaaGreatDoor
