/- Parts of the proof. -/
import Derived.Test.YtcklaogdjpbagaaGreatDoorSa11
import Derived.Test.YtcklaogdjpbagaaGreatDoorSa13
import Derived.Test.YtcklaogdjpbagaaGreatDoorSa12
set_option maxRecDepth 100000
set_option maxHeartbeats 8000000
set_option linter.unusedVariables false
set_option linter.unusedSimpArgs false
namespace Go.Proofs.YtcklaogdjpbagaaGreatDoor
open Go Go.Proofs.Tryz Go.RowKit Go.Proofs.YtcklaogdjpbagaaGreatDoor.M
theorem mo (b:Int) (w:World) (hb:ax b) (hp:aF b=true) :
  Calls prog 80 #[.int .i64 b] w fun r w'=>∃ v,r=.returned v∧aW w w' (am b) v:=by
 have r_k:=aA w (.cells #[.bool false,.slice none 0 0,.int .i64 0] 33)
 have hb0:=ah w (.cells #[.bool false,.slice none 0 0,.int .i64 0] 33)
 have CO:Hid (∀ W,Calls prog 108 #[.int .i64 b] W fun r w'=>∃ v,r=.returned v∧aW W w' (am b) v):=fun W=>tX b W hb hp
 go_enter func80,ntmps80
 go_wp2_with fail
 generalize w.alloc (.cells #[.bool false,.slice none 0 0,.int .i64 0] 33)=x0 at r_k hb0 ⊢
 have hs0:=(aGe r_k).1
 refine(CO.out _).mono ?_
 rintro _ y1 ⟨v,rfl,h1⟩
 obtain⟨n_g,n_o,n_n,n_c,n_e,rfl⟩:=aN h1
 have hw:=h1.below
 have r_k:=(hw.block _ (aGe r_k).1).trans r_k
 have k0:=af r_k 0 rfl
 have k1:=af r_k 1 rfl
 have k2:=af r_k 2 rfl
 have z0:=ar r_k 0
 have z1:=ar r_k 1
 have z2:=ar r_k 2
 go_wp2
 refine bodyPost_ret (v:=.agg #[.bool n_g,.slice n_o n_n n_c,.int .i64 n_e]) (by simp[results,results80,go_sem,k0,k1,k2]) rfl ⟨_,rfl,?_⟩
 exact bG (g:=w.heap.size) h1 hb0 (Nat.le_refl _) hs0 _ _ _
theorem AR {B:Nat} {w:World} {y:aI} (h:bJ B w y.V y.v) (ok:dI y=true):bJ B w (-y.V) y.opp.v:=by
 obtain⟨m,h1,h2⟩:=bJ.parts h
 obtain⟨e1,e2⟩:=zu ok
 rw[e1] at e2
 obtain⟨_,rfl,_⟩:=h1.unique (jd ok).1
 exact⟨_,_,_,_,rfl,e2,h2⟩
theorem bJ.shape {B:Nat} {w:World} {V:Int} {v:Value} (h:bJ B w V v):∃ ng so sn sc e,v=.agg #[.bool ng,.slice so sn sc,.int .i64 e]:=h.three
theorem ik {B:Nat} {w:World} {x y:Value} {A C:Int} {K:Nat} (hx:bJ B w A x) (hy:bJ B w C y) (hB:B<=w.heap.size) (bA:Bd K A) (bC:Bd K C) (hK:K<=28000) :
  Calls prog 31 #[x,y] w fun r w'=>∃ v,r=.returned v∧bJ B w' (A-C) v∧Below w.heap.size w w':=by
 have CS:∀ W,Below w.heap.size w W->Calls prog 61 #[x,y] W fun r w'=>∃ v,r=.returned v∧bJ B w' (A-C) v∧Below W.heap.size W w':=fun W hW=>by
  have hx':=hx.keeps hW
  have hy':=hy.keeps hW
  obtain⟨x,rfl,hR,ok,rfl⟩:=hx'.num.open (bA.ok (by omega))
  obtain⟨y,rfl,hR',ok',rfl⟩:=hy'.num.open (bC.ok (by omega))
  refine(wR x y W hR hR' ok ok' (K:=K) (by omega) bA bC).mono ?_
  rintro r w' ⟨v,rfl,h⟩
  refine⟨v,rfl,?_,h.1⟩
  rw[Int.sub_eq_add_neg]
  rcases h.2 with h1|⟨h1,rfl⟩|⟨h1,rfl⟩
  ·exact h1.dan.lower (Nat.le_trans hB hW.size)
  ·rw[h1,Int.zero_add];exact(AR hy' ok').keeps h.1
  ·rw[h1,Int.add_zero];exact hx'.keeps h.1
 obtain⟨p_g,p_o,p_n,p_c,p_e,rfl⟩:=hx.shape
 obtain⟨q_g,q_o,q_n,q_c,q_e,rfl⟩:=hy.shape
 clear hx hy bA bC
 have hb0:=dn w (.cells #[.bool p_g,.slice p_o p_n p_c,.int .i64 p_e] 33) (.cells #[.bool q_g,.slice q_o q_n q_c,.int .i64 q_e] 33) (.cells #[.bool false,.slice none 0 0,.int .i64 0] 33)
 have r_k:=jc w (.cells #[.bool p_g,.slice p_o p_n p_c,.int .i64 p_e] 33) (.cells #[.bool q_g,.slice q_o q_n q_c,.int .i64 q_e] 33) (.cells #[.bool false,.slice none 0 0,.int .i64 0] 33)
 go_enter func31,ntmps31
 go_wp2_with fail
 generalize ((w.alloc (.cells #[.bool p_g,.slice p_o p_n p_c,.int .i64 p_e] 33)).alloc (.cells #[.bool q_g,.slice q_o q_n q_c,.int .i64 q_e] 33)).alloc (.cells #[.bool false,.slice none 0 0,.int .i64 0] 33)=x0 at r_k hb0 ⊢
 refine(CS _ hb0).mono ?_
 rintro _ y1 ⟨v,rfl,h1,hw⟩
 obtain⟨n_g,n_o,n_n,n_c,n_e,rfl⟩:=h1.shape
 have r_k:=(hw.block _ (aGe r_k).1).trans r_k
 have k0:=af r_k 0 rfl
 have k1:=af r_k 1 rfl
 have k2:=af r_k 2 rfl
 have z0:=ar r_k 0
 have z1:=ar r_k 1
 have z2:=ar r_k 2
 go_wp2
 refine bodyPost_ret (v:=.agg #[.bool n_g,.slice n_o n_n n_c,.int .i64 n_e]) (by simp[results,results31,go_sem,k0,k1,k2]) rfl ⟨_,rfl,bw h1 r_k _ _ _,cX (ac hb0 hw) (by omega) _ _ _⟩
theorem cP {w:World} {x y:Value} {A C:Int} {K:Nat} (hx:aM w x A) (hy:aM w y C) (bA:Bd K A) (bC:Bd K C) (hK:K<=14000) :
  Calls prog 32 #[x,y] w fun r w'=>∃ v V,r=.returned v∧aW w w' V v∧V*2^4194304=A*C∧Bd (2*K) V:=by
 have CS:∀ W,Below w.heap.size w W->Calls prog 62 #[x,y] W fun r w'=>∃ v V,r=.returned v∧aW W w' V v∧V*2^4194304=A*C∧Bd (2*K) V:=fun W hW=>by
  have hx':=hx.keeps hW
  have hy':=hy.keeps hW
  obtain⟨x,rfl,hR,ok,rfl⟩:=hx'.open (bA.ok (by omega))
  obtain⟨y,rfl,hR',ok',rfl⟩:=hy'.open (bC.ok (by omega))
  refine(pt x y W hR hR' (cD ok) (cD ok')).mono ?_
  rintro r w' ⟨v,rfl,h⟩
  have hC:=lS (x:=x) (y:=y) (by have:=(cD ok).2.2.1;omega) (by have:=(cD ok').2.2.1;omega)
  exact⟨v,_,rfl,h,hC,bA.mul bC hC (by omega)⟩
 obtain⟨p,rfl,_,_,_⟩:=hx.open (bA.ok (by omega))
 obtain⟨q,rfl,_,_,_⟩:=hy.open (bC.ok (by omega))
 obtain⟨p_g,p_o,p_n,p_c,p_d,p_e⟩:=p
 obtain⟨q_g,q_o,q_n,q_c,q_d,q_e⟩:=q
 unfold aI.v at *
 simp only at *
 clear hx hy bA bC
 have hb0:=dn w (.cells #[.bool p_g,.slice p_o p_n p_c,.int .i64 p_e] 33) (.cells #[.bool q_g,.slice q_o q_n q_c,.int .i64 q_e] 33) (.cells #[.bool false,.slice none 0 0,.int .i64 0] 33)
 have r_k:=jc w (.cells #[.bool p_g,.slice p_o p_n p_c,.int .i64 p_e] 33) (.cells #[.bool q_g,.slice q_o q_n q_c,.int .i64 q_e] 33) (.cells #[.bool false,.slice none 0 0,.int .i64 0] 33)
 go_enter func32,ntmps32
 go_wp2_with fail
 generalize ((w.alloc (.cells #[.bool p_g,.slice p_o p_n p_c,.int .i64 p_e] 33)).alloc (.cells #[.bool q_g,.slice q_o q_n q_c,.int .i64 q_e] 33)).alloc (.cells #[.bool false,.slice none 0 0,.int .i64 0] 33)=x0 at r_k hb0 ⊢
 have hs0:=(aGe r_k).1
 refine(CS _ hb0).mono ?_
 rintro _ y1 ⟨v,V,rfl,h1,hE,hBd⟩
 obtain⟨n_g,n_o,n_n,n_c,n_e,rfl⟩:=aN h1
 have hw:=h1.below
 have r_k:=(hw.block _ (aGe r_k).1).trans r_k
 have k0:=af r_k 0 rfl
 have k1:=af r_k 1 rfl
 have k2:=af r_k 2 rfl
 have z0:=ar r_k 0
 have z1:=ar r_k 1
 have z2:=ar r_k 2
 go_wp2
 refine bodyPost_ret (v:=.agg #[.bool n_g,.slice n_o n_n n_c,.int .i64 n_e]) (by simp[results,results32,go_sem,k0,k1,k2]) rfl ⟨_,V,rfl,?_,hE,hBd⟩
 exact bG (g:=w.heap.size+2) h1 hb0 (by omega) hs0 _ _ _
theorem gP {B:Nat} {w:World} {x y:Value} {A C:Int} {K:Nat} (hx:bJ B w A x) (hy:bJ B w C y) (hB:B<=w.heap.size) (bA:Bd K A) (bC:Bd K C) (hK:K<=28000) :
  Calls prog 34 #[x,y] w fun r w'=>∃ v,r=.returned v∧bJ B w' (A+C) v∧Below w.heap.size w w':=by
 have CS:∀ W,Below w.heap.size w W->Calls prog 63 #[x,y] W fun r w'=>∃ v,r=.returned v∧bJ B w' (A+C) v∧Below W.heap.size W w':=fun W hW=>by
  have hx':=hx.keeps hW
  have hy':=hy.keeps hW
  refine(wN hx'.num hy'.num (K:=K) (by omega) bA bC).mono ?_
  rintro r w' ⟨v,rfl,h⟩
  refine⟨v,rfl,?_,h.1⟩
  rcases h.2 with h1|⟨h1,rfl⟩|⟨h1,rfl⟩
  ·exact h1.dan.lower (Nat.le_trans hB hW.size)
  ·rw[h1,Int.zero_add];exact hy'.keeps h.1
  ·rw[h1,Int.add_zero];exact hx'.keeps h.1
 obtain⟨p_g,p_o,p_n,p_c,p_e,rfl⟩:=hx.shape
 obtain⟨q_g,q_o,q_n,q_c,q_e,rfl⟩:=hy.shape
 clear hx hy bA bC
 have hb0:=dn w (.cells #[.bool p_g,.slice p_o p_n p_c,.int .i64 p_e] 33) (.cells #[.bool q_g,.slice q_o q_n q_c,.int .i64 q_e] 33) (.cells #[.bool false,.slice none 0 0,.int .i64 0] 33)
 have r_k:=jc w (.cells #[.bool p_g,.slice p_o p_n p_c,.int .i64 p_e] 33) (.cells #[.bool q_g,.slice q_o q_n q_c,.int .i64 q_e] 33) (.cells #[.bool false,.slice none 0 0,.int .i64 0] 33)
 go_enter func34,ntmps34
 go_wp2_with fail
 generalize ((w.alloc (.cells #[.bool p_g,.slice p_o p_n p_c,.int .i64 p_e] 33)).alloc (.cells #[.bool q_g,.slice q_o q_n q_c,.int .i64 q_e] 33)).alloc (.cells #[.bool false,.slice none 0 0,.int .i64 0] 33)=x0 at r_k hb0 ⊢
 refine(CS _ hb0).mono ?_
 rintro _ y1 ⟨v,rfl,h1,hw⟩
 obtain⟨n_g,n_o,n_n,n_c,n_e,rfl⟩:=h1.shape
 have r_k:=(hw.block _ (aGe r_k).1).trans r_k
 have k0:=af r_k 0 rfl
 have z0:=ar r_k 0
 have k1:=af r_k 1 rfl
 have z1:=ar r_k 1
 have k2:=af r_k 2 rfl
 have z2:=ar r_k 2
 go_wp2
 refine bodyPost_ret (v:=.agg #[.bool n_g,.slice n_o n_n n_c,.int .i64 n_e]) (by simp[results,results34,go_sem,k0,k1,k2]) rfl ⟨_,rfl,bw h1 r_k _ _ _,cX (ac hb0 hw) (by omega) _ _ _⟩
theorem jr {p q:Int} (rp:ax p) (rq:ax q) (pp:aF p=true) (pq:aF q=true) (w:World) :
  Calls prog 49 #[.int .i64 p,.int .i64 q] w fun r w'=>∃ v,r=.returned v∧bJ w.heap.size w' (am p-am q) v∧Below w.heap.size w w':=by
 have E1:Hid (∀ W,Calls prog 80 #[.int .i64 p] W fun r w'=>∃ v,r=.returned v∧aW W w' (am p) v):=fun W=>mo p W rp pp
 have E2:Hid (∀ W,Calls prog 80 #[.int .i64 q] W fun r w'=>∃ v,r=.returned v∧aW W w' (am q) v):=fun W=>mo q W rq pq
 have B1:=jS pp
 have B2:=jS pq
 clear rp rq pp pq
 have r_k:=aA w (.cells #[.bool false,.slice none 0 0,.int .i64 0] 33)
 have hb0:=ah w (.cells #[.bool false,.slice none 0 0,.int .i64 0] 33)
 go_enter func49,ntmps49
 go_wp2_with fail
 generalize w.alloc (.cells #[.bool false,.slice none 0 0,.int .i64 0] 33)=x0 at r_k hb0 ⊢
 refine(E1.out _).mono ?_
 rintro _ y1 ⟨v,rfl,h1⟩
 obtain⟨p_g,p_o,p_n,p_c,p_e,rfl⟩:=aN h1
 have hw1:=h1.below
 have p_D:=h1.dan.lower hb0.size
 replace r_k:=aw hw1 r_k
 replace hb0:=ac hb0 hw1
 go_wp2_with fail
 refine(E2.out _).mono ?_
 rintro _ y2 ⟨v,rfl,h2⟩
 obtain⟨q_g,q_o,q_n,q_c,q_e,rfl⟩:=aN h2
 have hw2:=h2.below
 have q_D:=h2.dan.lower hb0.size
 replace p_D:=p_D.keeps hw2
 replace r_k:=aw hw2 r_k
 replace hb0:=ac hb0 hw2
 go_wp2_with fail
 refine(ik p_D q_D hb0.size B1 B2 (by omega)).mono ?_
 rintro _ y3 ⟨v,rfl,h3,hw3⟩
 obtain⟨n_g,n_o,n_n,n_c,n_e,rfl⟩:=h3.shape
 replace r_k:=aw hw3 r_k
 replace hb0:=ac hb0 hw3
 have k0:=af r_k 0 rfl
 have z0:=ar r_k 0
 have k1:=af r_k 1 rfl
 have z1:=ar r_k 1
 have k2:=af r_k 2 rfl
 have z2:=ar r_k 2
 go_wp2
 exact bodyPost_ret (v:=.agg #[.bool n_g,.slice n_o n_n n_c,.int .i64 n_e]) (by simp[results,results49,go_sem,k0,k1,k2]) rfl ⟨_,rfl,bw h3 r_k _ _ _,cX hb0 (by omega) _ _ _⟩
theorem bK {B:Nat} {w W:World} {p:Addr} {v:Value} (h:w.cell? p=some v) (hb:Below B w W) (hp:p.block<B):W.cell? p=some v:=(hb.cell hp).trans h
theorem mQ {B:Nat} {w W:World} (h:Below B w W) {g:Nat} (hg:B<=g) (x y z:Value):Below B w (((W.setCell ⟨g,0,none⟩ x).setCell ⟨g,1,none⟩ y).setCell ⟨g,2,none⟩ z) :=
 ((h.setCell (p:=⟨g,0,none⟩) hg x).setCell (p:=⟨g,1,none⟩) hg y).setCell (p:=⟨g,2,none⟩) hg z
theorem js {s:Nat->Nat->Int} (i j:Nat) (hr:∀ i k,ax (s i k)) (hi:∀ k,k<3->aF (s i k)=true) (hj:∀ k,k<3->aF (s j k)=true) (w:World) :
  Calls prog 23 #[.agg #[.int .i64 (s i 0),.int .i64 (s i 1),.int .i64 (s i 2)],.agg #[.int .i64 (s j 0),.int .i64 (s j 1),.int .i64 (s j 2)]] w fun r w'=>∃ n0_g n0_o n0_n n0_c n0_e n1_g n1_o n1_n n1_c n1_e n2_g n2_o n2_n n2_c n2_e,r=.returned (.agg #[.bool n0_g,.slice n0_o n0_n n0_c,.int .i64 n0_e,.bool n1_g,.slice n1_o n1_n n1_c,.int .i64 n1_e,.bool n2_g,.slice n2_o n2_n n2_c,.int .i64 n2_e])∧aM w' (.agg #[.bool n0_g,.slice n0_o n0_n n0_c,.int .i64 n0_e]) (am (s i 0)-am (s j 0))∧aM w' (.agg #[.bool n1_g,.slice n1_o n1_n n1_c,.int .i64 n1_e]) (am (s i 1)-am (s j 1))∧aM w' (.agg #[.bool n2_g,.slice n2_o n2_n n2_c,.int .i64 n2_e]) (am (s i 2)-am (s j 2))∧Below w.heap.size w w':=by
 have A0:Hid (∀ W,Calls prog 49 #[.int .i64 (s i 0),.int .i64 (s j 0)] W fun r w'=>∃ v,r=.returned v∧bJ W.heap.size w' (am (s i 0)-am (s j 0)) v∧Below W.heap.size W w'):=fun W=>jr (hr _ _) (hr _ _) (hi _ (by decide)) (hj _ (by decide)) W
 have A1:Hid (∀ W,Calls prog 49 #[.int .i64 (s i 1),.int .i64 (s j 1)] W fun r w'=>∃ v,r=.returned v∧bJ W.heap.size w' (am (s i 1)-am (s j 1)) v∧Below W.heap.size W w'):=fun W=>jr (hr _ _) (hr _ _) (hi _ (by decide)) (hj _ (by decide)) W
 have A2:Hid (∀ W,Calls prog 49 #[.int .i64 (s i 2),.int .i64 (s j 2)] W fun r w'=>∃ v,r=.returned v∧bJ W.heap.size w' (am (s i 2)-am (s j 2)) v∧Below W.heap.size W w'):=fun W=>jr (hr _ _) (hr _ _) (hi _ (by decide)) (hj _ (by decide)) W
 clear hr hi hj
 generalize am (s i 0)-am (s j 0)=V0 at *
 generalize am (s i 1)-am (s j 1)=V1 at *
 generalize am (s i 2)-am (s j 2)=V2 at *
 generalize s i 0=p0 at *
 generalize s j 0=q0 at *
 generalize s i 1=p1 at *
 generalize s j 1=q1 at *
 generalize s i 2=p2 at *
 generalize s j 2=q2 at *
 obtain⟨hb0,a_k,b_k,o_k,hsz0⟩:=nN w (.cells #[.int .i64 p0,.int .i64 p1,.int .i64 p2] 23) (.cells #[.int .i64 q0,.int .i64 q1,.int .i64 q2] 23) (.cells #[.bool false,.slice none 0 0,.int .i64 0,.bool false,.slice none 0 0,.int .i64 0,.bool false,.slice none 0 0,.int .i64 0] 64)
 clear hsz0
 go_enter func23,ntmps23
 go_wp2_with fail
 generalize (((w.alloc (.cells #[.int .i64 p0,.int .i64 p1,.int .i64 p2] 23)).alloc (.cells #[.int .i64 q0,.int .i64 q1,.int .i64 q2] 23)).alloc (.cells #[.bool false,.slice none 0 0,.int .i64 0,.bool false,.slice none 0 0,.int .i64 0,.bool false,.slice none 0 0,.int .i64 0] 64))=x0 at hb0 a_k b_k o_k ⊢
 have hs0:=(aGe o_k).1
 have KK:∀ W,Below (w.heap.size+2) x0 W->W.cell? ⟨w.heap.size,0,none⟩=some (.int .i64 p0)∧W.cell? ⟨w.heap.size,1,none⟩=some (.int .i64 p1)∧W.cell? ⟨w.heap.size,2,none⟩=some (.int .i64 p2)∧W.cell? ⟨w.heap.size+1,0,none⟩=some (.int .i64 q0)∧W.cell? ⟨w.heap.size+1,1,none⟩=some (.int .i64 q1)∧W.cell? ⟨w.heap.size+1,2,none⟩=some (.int .i64 q2):=fun W hb=>⟨bK (af a_k 0 rfl) hb (show w.heap.size<w.heap.size+2 by omega),bK (af a_k 1 rfl) hb (show w.heap.size<w.heap.size+2 by omega),bK (af a_k 2 rfl) hb (show w.heap.size<w.heap.size+2 by omega),bK (af b_k 0 rfl) hb (show w.heap.size+1<w.heap.size+2 by omega),bK (af b_k 1 rfl) hb (show w.heap.size+1<w.heap.size+2 by omega),bK (af b_k 2 rfl) hb (show w.heap.size+1<w.heap.size+2 by omega)⟩
 have hlt:w.heap.size+2<=x0.heap.size:=by omega
 have hC0:=(al x0).drew
 go_region_held3 (fun W=>W.cell? ⟨w.heap.size,0,none⟩=some (.int .i64 p0)∧W.cell? ⟨w.heap.size,1,none⟩=some (.int .i64 p1)∧W.cell? ⟨w.heap.size,2,none⟩=some (.int .i64 p2)∧W.cell? ⟨w.heap.size+1,0,none⟩=some (.int .i64 q0)∧W.cell? ⟨w.heap.size+1,1,none⟩=some (.int .i64 q1)∧W.cell? ⟨w.heap.size+1,2,none⟩=some (.int .i64 q2))
  (with_reducible first|assumption|exact KK _ (hC0.mono hlt)|exact KK _ (hC1.mono hlt)|exact KK _ (hC2.mono hlt)|exact KK _ (hC3.mono hlt)|exact KK _ ((((((((((hC3.mono hlt).setCell (p:=⟨w.heap.size+2,0,none⟩) (Nat.le_refl _) _).setCell (p:=⟨w.heap.size+2,1,none⟩) (Nat.le_refl _) _).setCell (p:=⟨w.heap.size+2,2,none⟩) (Nat.le_refl _) _).setCell (p:=⟨w.heap.size+2,3,none⟩) (Nat.le_refl _) _).setCell (p:=⟨w.heap.size+2,4,none⟩) (Nat.le_refl _) _).setCell (p:=⟨w.heap.size+2,5,none⟩) (Nat.le_refl _) _).setCell (p:=⟨w.heap.size+2,6,none⟩) (Nat.le_refl _) _).setCell (p:=⟨w.heap.size+2,7,none⟩) (Nat.le_refl _) _).setCell (p:=⟨w.heap.size+2,8,none⟩) (Nat.le_refl _) _)|fail)
  (first|(go_at_call 49;have _t:=hs2;refine(A2.out _).mono ?_;rintro _ y3 ⟨v,rfl,d2,hs3⟩;obtain⟨n2_g,n2_o,n2_n,n2_c,n2_e,rfl⟩:=d2.shape;have hC3:=ac hC2 hs3;have d0:=d0.keeps hs3;have d1:=d1.keeps hs3;have rk:=ak hC3 o_k;have e0:=af rk 0 rfl;have z0:=ar rk 0;have e1:=af rk 1 rfl;have z1:=ar rk 1;have e2:=af rk 2 rfl;have z2:=ar rk 2;have e3:=af rk 3 rfl;have z3:=ar rk 3;have e4:=af rk 4 rfl;have z4:=ar rk 4;have e5:=af rk 5 rfl;have z5:=ar rk 5;have e6:=af rk 6 rfl;have z6:=ar rk 6;have e7:=af rk 7 rfl;have z7:=ar rk 7;have e8:=af rk 8 rfl;have z8:=ar rk 8)|(go_at_call 49;have _t:=hs1;refine(A1.out _).mono ?_;rintro _ y2 ⟨v,rfl,d1,hs2⟩;obtain⟨n1_g,n1_o,n1_n,n1_c,n1_e,rfl⟩:=d1.shape;have hC2:=ac hC1 hs2;have d0:=d0.keeps hs2)|(go_at_call 49;refine(A0.out _).mono ?_;rintro _ y1 ⟨v,rfl,d0,hs1⟩;obtain⟨n0_g,n0_o,n0_n,n0_c,n0_e,rfl⟩:=d0.shape;have hC1:=ac hC0 hs1))
 go_wp2
 have hb3:=ac hb0 hC3
 exact bodyPost_ret (v:=.agg #[.bool n0_g,.slice n0_o n0_n n0_c,.int .i64 n0_e,.bool n1_g,.slice n1_o n1_n n1_c,.int .i64 n1_e,.bool n2_g,.slice n2_o n2_n n2_c,.int .i64 n2_e]) (by simp[results,results23,go_sem,e0,e1,e2,e3,e4,e5,e6,e7,e8]) rfl ⟨_,_,_,_,_,_,_,_,_,_,_,_,_,_,_,rfl,(cw (cw (cw (cw (cw (cw (cw (cw (cw (d0) (rk) (by decide) 0 _) (aq (rk) 0 _) (by decide) 1 _) (aq (aq (rk) 0 _) 1 _) (by decide) 2 _) (aq (aq (aq (rk) 0 _) 1 _) 2 _) (by decide) 3 _) (aq (aq (aq (aq (rk) 0 _) 1 _) 2 _) 3 _) (by decide) 4 _) (aq (aq (aq (aq (aq (rk) 0 _) 1 _) 2 _) 3 _) 4 _) (by decide) 5 _) (aq (aq (aq (aq (aq (aq (rk) 0 _) 1 _) 2 _) 3 _) 4 _) 5 _) (by decide) 6 _) (aq (aq (aq (aq (aq (aq (aq (rk) 0 _) 1 _) 2 _) 3 _) 4 _) 5 _) 6 _) (by decide) 7 _) (aq (aq (aq (aq (aq (aq (aq (aq (rk) 0 _) 1 _) 2 _) 3 _) 4 _) 5 _) 6 _) 7 _) (by decide) 8 _).num,(cw (cw (cw (cw (cw (cw (cw (cw (cw (d1) (rk) (by decide) 0 _) (aq (rk) 0 _) (by decide) 1 _) (aq (aq (rk) 0 _) 1 _) (by decide) 2 _) (aq (aq (aq (rk) 0 _) 1 _) 2 _) (by decide) 3 _) (aq (aq (aq (aq (rk) 0 _) 1 _) 2 _) 3 _) (by decide) 4 _) (aq (aq (aq (aq (aq (rk) 0 _) 1 _) 2 _) 3 _) 4 _) (by decide) 5 _) (aq (aq (aq (aq (aq (aq (rk) 0 _) 1 _) 2 _) 3 _) 4 _) 5 _) (by decide) 6 _) (aq (aq (aq (aq (aq (aq (aq (rk) 0 _) 1 _) 2 _) 3 _) 4 _) 5 _) 6 _) (by decide) 7 _) (aq (aq (aq (aq (aq (aq (aq (aq (rk) 0 _) 1 _) 2 _) 3 _) 4 _) 5 _) 6 _) 7 _) (by decide) 8 _).num,(cw (cw (cw (cw (cw (cw (cw (cw (cw (d2) (rk) (by decide) 0 _) (aq (rk) 0 _) (by decide) 1 _) (aq (aq (rk) 0 _) 1 _) (by decide) 2 _) (aq (aq (aq (rk) 0 _) 1 _) 2 _) (by decide) 3 _) (aq (aq (aq (aq (rk) 0 _) 1 _) 2 _) 3 _) (by decide) 4 _) (aq (aq (aq (aq (aq (rk) 0 _) 1 _) 2 _) 3 _) 4 _) (by decide) 5 _) (aq (aq (aq (aq (aq (aq (rk) 0 _) 1 _) 2 _) 3 _) 4 _) 5 _) (by decide) 6 _) (aq (aq (aq (aq (aq (aq (aq (rk) 0 _) 1 _) 2 _) 3 _) 4 _) 5 _) 6 _) (by decide) 7 _) (aq (aq (aq (aq (aq (aq (aq (aq (rk) 0 _) 1 _) 2 _) 3 _) 4 _) 5 _) 6 _) 7 _) (by decide) 8 _).num,(((((((((hb3).setCell (p:=⟨w.heap.size+2,0,none⟩) (show w.heap.size<=w.heap.size+2 by omega) _).setCell (p:=⟨w.heap.size+2,1,none⟩) (show w.heap.size<=w.heap.size+2 by omega) _).setCell (p:=⟨w.heap.size+2,2,none⟩) (show w.heap.size<=w.heap.size+2 by omega) _).setCell (p:=⟨w.heap.size+2,3,none⟩) (show w.heap.size<=w.heap.size+2 by omega) _).setCell (p:=⟨w.heap.size+2,4,none⟩) (show w.heap.size<=w.heap.size+2 by omega) _).setCell (p:=⟨w.heap.size+2,5,none⟩) (show w.heap.size<=w.heap.size+2 by omega) _).setCell (p:=⟨w.heap.size+2,6,none⟩) (show w.heap.size<=w.heap.size+2 by omega) _).setCell (p:=⟨w.heap.size+2,7,none⟩) (show w.heap.size<=w.heap.size+2 by omega) _).setCell (p:=⟨w.heap.size+2,8,none⟩) (show w.heap.size<=w.heap.size+2 by omega) _⟩
theorem mR {w:World} {a0_g:Bool} {a0_o:Option Addr} {a0_n a0_c:Nat} {a0_e:Int} {a1_g:Bool} {a1_o:Option Addr} {a1_n a1_c:Nat} {a1_e:Int} {a2_g:Bool} {a2_o:Option Addr} {a2_n a2_c:Nat} {a2_e:Int} {b0_g:Bool} {b0_o:Option Addr} {b0_n b0_c:Nat} {b0_e:Int} {b1_g:Bool} {b1_o:Option Addr} {b1_n b1_c:Nat} {b1_e:Int} {b2_g:Bool} {b2_o:Option Addr} {b2_n b2_c:Nat} {b2_e:Int} {A0 A1 B0 B1:Int} {K:Nat} (h0:aM w (.agg #[.bool a0_g,.slice a0_o a0_n a0_c,.int .i64 a0_e]) A0) (h1:aM w (.agg #[.bool a1_g,.slice a1_o a1_n a1_c,.int .i64 a1_e]) A1) (k0:aM w (.agg #[.bool b0_g,.slice b0_o b0_n b0_c,.int .i64 b0_e]) B0) (k1:aM w (.agg #[.bool b1_g,.slice b1_o b1_n b1_c,.int .i64 b1_e]) B1) (b0:Bd K A0) (b1:Bd K A1) (c0:Bd K B0) (c1:Bd K B1) (hK:K<=9000) :
  Calls prog 48 #[.agg #[.bool a0_g,.slice a0_o a0_n a0_c,.int .i64 a0_e,.bool a1_g,.slice a1_o a1_n a1_c,.int .i64 a1_e,.bool a2_g,.slice a2_o a2_n a2_c,.int .i64 a2_e],.agg #[.bool b0_g,.slice b0_o b0_n b0_c,.int .i64 b0_e,.bool b1_g,.slice b1_o b1_n b1_c,.int .i64 b1_e,.bool b2_g,.slice b2_o b2_n b2_c,.int .i64 b2_e]] w fun r w'=>∃ v V,r=.returned v∧bJ w.heap.size w' V v∧Below w.heap.size w w'∧V*2^4194304=A0*B1-B0*A1∧Bd (2*K+1) V:=by
 have M1:Hid (∀ W,Below w.heap.size w W->Calls prog 32 #[.agg #[.bool a0_g,.slice a0_o a0_n a0_c,.int .i64 a0_e],.agg #[.bool b1_g,.slice b1_o b1_n b1_c,.int .i64 b1_e]] W fun r w'=>∃ v V,r=.returned v∧aW W w' V v∧V*2^4194304=A0*B1∧Bd (2*K) V):=fun W hW=>cP (h0.keeps hW) (k1.keeps hW) b0 c1 (by omega)
 have M2:Hid (∀ W,Below w.heap.size w W->Calls prog 32 #[.agg #[.bool b0_g,.slice b0_o b0_n b0_c,.int .i64 b0_e],.agg #[.bool a1_g,.slice a1_o a1_n a1_c,.int .i64 a1_e]] W fun r w'=>∃ v V,r=.returned v∧aW W w' V v∧V*2^4194304=B0*A1∧Bd (2*K) V):=fun W hW=>cP (k0.keeps hW) (h1.keeps hW) c0 b1 (by omega)
 have hK2:Hid (2*K<=28000):=(by omega:2*K<=28000)
 have hK3:Hid (2*K<4194304):=(by omega:2*K<4194304)
 clear h0 h1 k0 k1 b0 b1 c0 c1 hK
 obtain⟨hb0,a_k,b_k,o_k,hsz0⟩:=nN w (.cells #[.bool a0_g,.slice a0_o a0_n a0_c,.int .i64 a0_e,.bool a1_g,.slice a1_o a1_n a1_c,.int .i64 a1_e,.bool a2_g,.slice a2_o a2_n a2_c,.int .i64 a2_e] 64) (.cells #[.bool b0_g,.slice b0_o b0_n b0_c,.int .i64 b0_e,.bool b1_g,.slice b1_o b1_n b1_c,.int .i64 b1_e,.bool b2_g,.slice b2_o b2_n b2_c,.int .i64 b2_e] 64) (.cells #[.bool false,.slice none 0 0,.int .i64 0] 33)
 clear hsz0
 go_enter func48,ntmps48
 go_wp2_with fail
 generalize (((w.alloc (.cells #[.bool a0_g,.slice a0_o a0_n a0_c,.int .i64 a0_e,.bool a1_g,.slice a1_o a1_n a1_c,.int .i64 a1_e,.bool a2_g,.slice a2_o a2_n a2_c,.int .i64 a2_e] 64)).alloc (.cells #[.bool b0_g,.slice b0_o b0_n b0_c,.int .i64 b0_e,.bool b1_g,.slice b1_o b1_n b1_c,.int .i64 b1_e,.bool b2_g,.slice b2_o b2_n b2_c,.int .i64 b2_e] 64)).alloc (.cells #[.bool false,.slice none 0 0,.int .i64 0] 33))=x0 at hb0 a_k b_k o_k ⊢
 have hs0:=(aGe o_k).1
 have hlt:w.heap.size+2<=x0.heap.size:=by omega
 have KK:∀ W,Below (w.heap.size+2) x0 W->W.cell? ⟨w.heap.size,0,none⟩=some (.bool a0_g)∧W.cell? ⟨w.heap.size,1,none⟩=some (.slice a0_o a0_n a0_c)∧W.cell? ⟨w.heap.size,2,none⟩=some (.int .i64 a0_e)∧W.cell? ⟨w.heap.size,3,none⟩=some (.bool a1_g)∧W.cell? ⟨w.heap.size,4,none⟩=some (.slice a1_o a1_n a1_c)∧W.cell? ⟨w.heap.size,5,none⟩=some (.int .i64 a1_e)∧W.cell? ⟨w.heap.size+1,0,none⟩=some (.bool b0_g)∧W.cell? ⟨w.heap.size+1,1,none⟩=some (.slice b0_o b0_n b0_c)∧W.cell? ⟨w.heap.size+1,2,none⟩=some (.int .i64 b0_e)∧W.cell? ⟨w.heap.size+1,3,none⟩=some (.bool b1_g)∧W.cell? ⟨w.heap.size+1,4,none⟩=some (.slice b1_o b1_n b1_c)∧W.cell? ⟨w.heap.size+1,5,none⟩=some (.int .i64 b1_e):=fun W hb=>⟨bK (af a_k 0 rfl) hb (show w.heap.size<w.heap.size+2 by omega),bK (af a_k 1 rfl) hb (show w.heap.size<w.heap.size+2 by omega),bK (af a_k 2 rfl) hb (show w.heap.size<w.heap.size+2 by omega),bK (af a_k 3 rfl) hb (show w.heap.size<w.heap.size+2 by omega),bK (af a_k 4 rfl) hb (show w.heap.size<w.heap.size+2 by omega),bK (af a_k 5 rfl) hb (show w.heap.size<w.heap.size+2 by omega),bK (af b_k 0 rfl) hb (show w.heap.size+1<w.heap.size+2 by omega),bK (af b_k 1 rfl) hb (show w.heap.size+1<w.heap.size+2 by omega),bK (af b_k 2 rfl) hb (show w.heap.size+1<w.heap.size+2 by omega),bK (af b_k 3 rfl) hb (show w.heap.size+1<w.heap.size+2 by omega),bK (af b_k 4 rfl) hb (show w.heap.size+1<w.heap.size+2 by omega),bK (af b_k 5 rfl) hb (show w.heap.size+1<w.heap.size+2 by omega)⟩
 have hC0:=(al x0).drew
 go_region_held3 (fun W=>W.cell? ⟨w.heap.size,0,none⟩=some (.bool a0_g)∧W.cell? ⟨w.heap.size,1,none⟩=some (.slice a0_o a0_n a0_c)∧W.cell? ⟨w.heap.size,2,none⟩=some (.int .i64 a0_e)∧W.cell? ⟨w.heap.size,3,none⟩=some (.bool a1_g)∧W.cell? ⟨w.heap.size,4,none⟩=some (.slice a1_o a1_n a1_c)∧W.cell? ⟨w.heap.size,5,none⟩=some (.int .i64 a1_e)∧W.cell? ⟨w.heap.size+1,0,none⟩=some (.bool b0_g)∧W.cell? ⟨w.heap.size+1,1,none⟩=some (.slice b0_o b0_n b0_c)∧W.cell? ⟨w.heap.size+1,2,none⟩=some (.int .i64 b0_e)∧W.cell? ⟨w.heap.size+1,3,none⟩=some (.bool b1_g)∧W.cell? ⟨w.heap.size+1,4,none⟩=some (.slice b1_o b1_n b1_c)∧W.cell? ⟨w.heap.size+1,5,none⟩=some (.int .i64 b1_e))
  (with_reducible first|assumption|exact KK _ (hC0.mono hlt)|exact KK _ (hC1.mono hlt)|exact KK _ (hC2.mono hlt)|exact KK _ (hC3.mono hlt)|exact KK _ (mQ (hC3.mono hlt) (Nat.le_refl _) _ _ _)|fail)
  (first|(go_at_call 31;refine(ik l_A m_A (Nat.le_trans hb0.size hC2.size) l_B m_B hK2.out).mono ?_;rintro _ y3 ⟨v,rfl,d3,hs3⟩;obtain⟨n_g,n_o,n_n,n_c,n_e,rfl⟩:=d3.shape;have hC3:=ac hC2 hs3;have rk:=ak hC3 o_k;have e0:=af rk 0 rfl;have z0:=ar rk 0;have e1:=af rk 1 rfl;have z1:=ar rk 1;have e2:=af rk 2 rfl;have z2:=ar rk 2)|(go_at_call 32;have _t:=hs1;refine(M2.out _ (ac hb0 hC1)).mono ?_;rintro _ y2 ⟨v,m_V,rfl,d2,m_E,m_B⟩;obtain⟨m_g,m_o,m_n,m_c,m_e,rfl⟩:=aN d2;have hs2:=d2.below;have hC2:=ac hC1 hs2;have m_A:=d2.dan.lower (Nat.le_trans hb0.size hC1.size);have l_A:=l_A.keeps hs2)|(go_at_call 32;refine(M1.out _ (ac hb0 hC0)).mono ?_;rintro _ y1 ⟨v,l_V,rfl,d1,l_E,l_B⟩;obtain⟨l_g,l_o,l_n,l_c,l_e,rfl⟩:=aN d1;have hs1:=d1.below;have hC1:=ac hC0 hs1;have l_A:=d1.dan.lower (Nat.le_trans hb0.size hC0.size)))
 go_wp2
 exact bodyPost_ret (v:=.agg #[.bool n_g,.slice n_o n_n n_c,.int .i64 n_e]) (by simp[results,results48,go_sem,e0,e1,e2]) rfl ⟨_,l_V-m_V,rfl,bw d3 rk _ _ _,cX (ac hb0 hC3) (by omega) _ _ _,by rw[Int.sub_mul,l_E,m_E],l_B.sub m_B hK3.out⟩
theorem aB (w:World) (o:Obj):Below w.drew.heap.size w.drew (w.alloc o).drew:=ac (ah w.drew o) (al _)
theorem cL (w:World) (o:Obj):(w.alloc o).drew.heap[w.heap.size]?=some o:=aA w o
theorem sl {S A E M X:Int} (e:X*S=A*E) (m:E*S=M):X*S*S=A*M:=by rw[e,Int.mul_assoc,m]
theorem AS {S X Y Z A B C:Int} (x:X*S*S=A) (y:Y*S*S=B) (z:Z*S*S=C):(X+Y+Z)*S*S=A+B+C:=by
 rw[Int.add_mul,Int.add_mul,Int.add_mul,Int.add_mul,x,y,z]
theorem jG {w:World} {a0_g:Bool} {a0_o:Option Addr} {a0_n a0_c:Nat} {a0_e:Int} {a1_g:Bool} {a1_o:Option Addr} {a1_n a1_c:Nat} {a1_e:Int} {a2_g:Bool} {a2_o:Option Addr} {a2_n a2_c:Nat} {a2_e:Int} {A0 A1 A2:Int} {K:Nat} (h0:aM w (.agg #[.bool a0_g,.slice a0_o a0_n a0_c,.int .i64 a0_e]) A0) (h1:aM w (.agg #[.bool a1_g,.slice a1_o a1_n a1_c,.int .i64 a1_e]) A1) (h2:aM w (.agg #[.bool a2_g,.slice a2_o a2_n a2_c,.int .i64 a2_e]) A2) (b0:Bd K A0) (b1:Bd K A1) (b2:Bd K A2) (hK:K<=9000) :
    Calls prog 33 #[.agg #[.bool a0_g,.slice a0_o a0_n a0_c,.int .i64 a0_e,.bool a1_g,.slice a1_o a1_n a1_c,.int .i64 a1_e,.bool a2_g,.slice a2_o a2_n a2_c,.int .i64 a2_e]] w fun r w'=>∃ v V,r=.returned v∧bJ w.heap.size w' V v∧Below w.heap.size w w'∧V*2^4194304=A0*A0+A1*A1+A2*A2∧Bd (2*K+2) V:=by
  have hK2:Hid (K<=14000):=(by omega:K<=14000)
  have hK3:Hid (2*K<=28000):=(by omega:2*K<=28000)
  have hK4:Hid (2*K+1<=28000):=(by omega:2*K+1<=28000)
  have hK5:Hid (2*K+1<4194304):=(by omega:2*K+1<4194304)
  have hK6:Hid (2*K<4194304):=(by omega:2*K<4194304)
  have hK7:Hid (2*K+1<=4194304):=(by omega:2*K+1<=4194304)
  clear hK
  obtain⟨hb0,a_k,o_k,hsz0⟩:=zv w (.cells #[.bool a0_g,.slice a0_o a0_n a0_c,.int .i64 a0_e,.bool a1_g,.slice a1_o a1_n a1_c,.int .i64 a1_e,.bool a2_g,.slice a2_o a2_n a2_c,.int .i64 a2_e] 64) (.cells #[.bool false,.slice none 0 0,.int .i64 0] 33)
  clear hsz0
  go_enter func33,ntmps33
  go_wp2_with fail
  rename_i Q0 K00 hK00
  generalize ((w.alloc (.cells #[.bool a0_g,.slice a0_o a0_n a0_c,.int .i64 a0_e,.bool a1_g,.slice a1_o a1_n a1_c,.int .i64 a1_e,.bool a2_g,.slice a2_o a2_n a2_c,.int .i64 a2_e] 64)).alloc (.cells #[.bool false,.slice none 0 0,.int .i64 0] 33))=x0 at hb0 a_k o_k ⊢
  have hs0:=(aGe o_k).1
  replace h0:=h0.keeps hb0
  replace h1:=h1.keeps hb0
  replace h2:=h2.keeps hb0
  have hK1:=hK00
  have HN1:∀ (g:Nat) (x1:World) (t:Array Value) (x_g:Bool) (x_o:Option Addr) (x_n x_c:Nat) (x_e:Int) (x_V:Int),#[t.getD 0 undef,.pointer (some ⟨w.heap.size,0,none⟩),.pointer (some ⟨w.heap.size+1,0,none⟩),.pointer (some ⟨g,0,none⟩),t.getD 4 undef,t.getD 5 undef,t.getD 6 undef,t.getD 7 undef,t.getD 8 undef,t.getD 9 undef,t.getD 10 undef,t.getD 11 undef,t.getD 12 undef,t.getD 13 undef,t.getD 14 undef,t.getD 15 undef,t.getD 16 undef,t.getD 17 undef,t.getD 18 undef,t.getD 19 undef,t.getD 20 undef,t.getD 21 undef]=t->x0.heap.size<=g->x1.heap[g]?=some (.cells #[.bool x_g,.slice x_o x_n x_c,.int .i64 x_e] 33 (0,0))->Below x0.heap.size x0 x1->bJ w.heap.size x1 x_V (.agg #[.bool x_g,.slice x_o x_n x_c,.int .i64 x_e])->x_V*2^4194304=A0*A0+A1*A1->Bd (2*K+1) x_V->Exit.then K00 Q0 Exit.normal { tmps:=t,defers:=[] } x1:=by
    intro g_x x1 t x_g x_o x_n x_c x_e x_V ht x_ge x_k hw1 x_D x_E x_B
    obtain⟨u1,hu⟩:∃ u:Nat->Value,t=#[u 0,.pointer (some ⟨w.heap.size,0,none⟩),.pointer (some ⟨w.heap.size+1,0,none⟩),.pointer (some ⟨g_x,0,none⟩),u 4,u 5,u 6,u 7,u 8,u 9,u 10,u 11,u 12,u 13,u 14,u 15,u 16,u 17,u 18,u 19,u 20,u 21]:=⟨fun k=>t.getD k undef,ht.symm⟩
    clear ht
    subst hu
    have h0:=h0.keeps hw1
    have h1:=h1.keeps hw1
    have h2:=h2.keeps hw1
    have a_k:=(hw1.block _ (aGe a_k).1).trans a_k
    have o_k:=(hw1.block _ (aGe o_k).1).trans o_k
    have hb1:=ac hb0 hw1
    go_wp2_with fail
    have ne1:w.heap.size≠w.heap.size+1:=by omega
    have ne2:g_x≠w.heap.size+1:=by omega
    have KK2:∀ W,Below x1.heap.size x1 W->W.cell? ⟨g_x,0,none⟩=some (.bool x_g)∧W.cell? ⟨g_x,1,none⟩=some (.slice x_o x_n x_c)∧W.cell? ⟨g_x,2,none⟩=some (.int .i64 x_e)∧W.cell? ⟨w.heap.size,6,none⟩=some (.bool a2_g)∧W.cell? ⟨w.heap.size,7,none⟩=some (.slice a2_o a2_n a2_c)∧W.cell? ⟨w.heap.size,8,none⟩=some (.int .i64 a2_e):=fun W hb=>⟨aj (af x_k 0 rfl) hb,aj (af x_k 1 rfl) hb,aj (af x_k 2 rfl) hb,aj (af a_k 6 rfl) hb,aj (af a_k 7 rfl) hb,aj (af a_k 8 rfl) hb⟩
    have hC2_0:=(al x1).drew
    have hs2_0:=(al x1).drew
    have hT2_0:Below w.heap.size w x1.drew:=hb1.drew
    have x_D_2_0:=x_D.keeps (al x1).drew
    have h2_2_0:=h2.keeps (al x1).drew
    go_region_held3 (fun W=>W.cell? ⟨g_x,0,none⟩=some (.bool x_g)∧W.cell? ⟨g_x,1,none⟩=some (.slice x_o x_n x_c)∧W.cell? ⟨g_x,2,none⟩=some (.int .i64 x_e)∧W.cell? ⟨w.heap.size,6,none⟩=some (.bool a2_g)∧W.cell? ⟨w.heap.size,7,none⟩=some (.slice a2_o a2_n a2_c)∧W.cell? ⟨w.heap.size,8,none⟩=some (.int .i64 a2_e))
      (with_reducible first|assumption|exact KK2 _ hC2_0|exact KK2 _ hC2_1|exact KK2 _ hC2_2|exact⟨aY (KK2 _ hC2_2).1 _ _ _ ne2,aY (KK2 _ hC2_2).2.1 _ _ _ ne2,aY (KK2 _ hC2_2).2.2.1 _ _ _ ne2,aY (KK2 _ hC2_2).2.2.2.1 _ _ _ ne1,aY (KK2 _ hC2_2).2.2.2.2.1 _ _ _ ne1,aY (KK2 _ hC2_2).2.2.2.2.2 _ _ _ ne1⟩|fail)
      (first
        | (go_at_call 34;have _t:=hs2_1;refine(gP (x_D_2_1.keeps (by with_reducible first|exact al _|exact ah _ _|exact aB _ _)) (m_A.keeps (by with_reducible first|exact al _|exact ah _ _|exact aB _ _)) (Nat.le_trans hT2_1.size (by with_reducible first|exact Nat.le_refl _|exact(ah _ _).size|exact(aB _ _).size)) x_B (m_B.up (by omega) hK7.out) hK4.out).mono ?_;rintro _ y2_2 ⟨v,rfl,nd,hq2_2⟩;obtain⟨n_g,n_o,n_n,n_c,n_e,rfl⟩:=nd.shape;have hs2_2:Below y2_1.heap.size y2_1 y2_2:=(by with_reducible first|exact hq2_2|exact ac (ah _ _) hq2_2|exact ac (aB _ _) hq2_2);have hT2_2:=ac hT2_1 hs2_2;have hC2_2:=ac hC2_1 hs2_2;have x_D_2_2:=x_D_2_1.keeps hs2_2;have h2_2_2:=h2_2_1.keeps hs2_2;have rk:=(fun _=>ak hC2_2 o_k) hs2_2;have e0:=(fun _=>af rk 0 rfl) hs2_2;have z0:=(fun _=>ar rk 0) hs2_2;have e1:=(fun _=>af rk 1 rfl) hs2_2;have z1:=(fun _=>ar rk 1) hs2_2;have e2:=(fun _=>af rk 2 rfl) hs2_2;have z2:=(fun _=>ar rk 2) hs2_2)
        | (go_at_call 32; refine (cP (h2_2_0.keeps (by with_reducible first | exact al _ | exact ah _ _ | exact aB _ _)) (h2_2_0.keeps (by with_reducible first | exact al _ | exact ah _ _ | exact aB _ _)) b2 b2 hK2.out).mono ?_; rintro _ y2_1 ⟨v,m_V,rfl,nb2,m_E,m_B⟩; obtain ⟨m_g,m_o,m_n,m_c,m_e,rfl⟩:=aN nb2; have hq2_1:=nb2.below; have m_A:=nb2.dan.lower (Nat.le_trans hT2_0.size (by with_reducible first | exact Nat.le_refl _ | exact (ah _ _).size | exact (aB _ _).size)); have hs2_1:Below x1.drew.heap.size x1.drew y2_1:=(by with_reducible first | exact hq2_1 | exact ac (ah _ _) hq2_1 | exact ac (aB _ _) hq2_1); have hT2_1:=ac hT2_0 hs2_1; have hC2_1:=ac hC2_0 hs2_1; have x_D_2_1:=x_D_2_0.keeps hs2_1; have h2_2_1:=h2_2_0.keeps hs2_1))
    go_wp2
    exact bodyPost_ret (v:=.agg #[.bool n_g,.slice n_o n_n n_c,.int .i64 n_e]) (by simp[results,results33,go_sem,e0,e1,e2]) rfl ⟨_,x_V+m_V,rfl,bw nd rk _ _ _,cX hT2_2 (by omega) _ _ _,by rw[Int.add_mul,x_E,m_E],x_B.add (m_B.up (by omega) hK7.out) hK5.out⟩
  have KK1:∀ W,Below x0.heap.size x0 W->W.cell? ⟨w.heap.size,0,none⟩=some (.bool a0_g)∧W.cell? ⟨w.heap.size,1,none⟩=some (.slice a0_o a0_n a0_c)∧W.cell? ⟨w.heap.size,2,none⟩=some (.int .i64 a0_e)∧W.cell? ⟨w.heap.size,3,none⟩=some (.bool a1_g)∧W.cell? ⟨w.heap.size,4,none⟩=some (.slice a1_o a1_n a1_c)∧W.cell? ⟨w.heap.size,5,none⟩=some (.int .i64 a1_e):=fun W hb=>⟨aj (af a_k 0 rfl) hb,aj (af a_k 1 rfl) hb,aj (af a_k 2 rfl) hb,aj (af a_k 3 rfl) hb,aj (af a_k 4 rfl) hb,aj (af a_k 5 rfl) hb⟩
  have hC1_0:=(al x0).drew
  have hT1_0:Below w.heap.size w x0.drew:=hb0.drew
  have h0_1_0:=h0.keeps (al x0).drew
  have h1_1_0:=h1.keeps (al x0).drew
  have hs1_0:=(al x0).drew
  go_region_held3 (fun W=>W.cell? ⟨w.heap.size,0,none⟩=some (.bool a0_g)∧W.cell? ⟨w.heap.size,1,none⟩=some (.slice a0_o a0_n a0_c)∧W.cell? ⟨w.heap.size,2,none⟩=some (.int .i64 a0_e)∧W.cell? ⟨w.heap.size,3,none⟩=some (.bool a1_g)∧W.cell? ⟨w.heap.size,4,none⟩=some (.slice a1_o a1_n a1_c)∧W.cell? ⟨w.heap.size,5,none⟩=some (.int .i64 a1_e))
    (with_reducible first|assumption|exact KK1 _ (ah _ _).drew|exact KK1 _ hC1_0|exact KK1 _ hC1_1|exact KK1 _ hC1_2|exact KK1 _ hC1_3|exact KK1 _ (ac hC1_0 (ah _ _))|exact KK1 _ (ac hC1_1 (ah _ _))|exact KK1 _ (ac hC1_2 (ah _ _))|exact KK1 _ (ac hC1_3 (ah _ _))|exact KK1 _ (aU hC1_3 (Nat.le_refl _) _ _ _)|exact KK1 _ (aU hC1_3 hC1_1.size _ _ _)|exact KK1 _ (aU hC1_3 hC1_2.size _ _ _)|fail)
    (first
      | (go_at_call 34;have _t:=hs1_2;refine(gP (l_A.keeps (by with_reducible first|exact al _|exact ah _ _|exact aB _ _)) (m_A.keeps (by with_reducible first|exact al _|exact ah _ _|exact aB _ _)) (Nat.le_trans hT1_2.size (by with_reducible first|exact Nat.le_refl _|exact(ah _ _).size|exact(aB _ _).size)) l_B m_B hK3.out).mono ?_;rintro _ y1_3 ⟨v,rfl,nc1,hq1_3⟩;obtain⟨x_V,hx_V⟩:∃ V,V=l_V+m_V:=⟨_,rfl⟩;rw[<- hx_V] at nc1;obtain⟨x_g,x_o,x_n,x_c,x_e,rfl⟩:=nc1.shape;have x_A:=nc1;have x_E:x_V*2^4194304=A0*A0+A1*A1:=(by rw[hx_V,Int.add_mul,l_E,m_E]);have x_B:Bd (2*K+1) x_V:=(by rw[hx_V];exact l_B.add m_B hK6.out);have hs1_3:Below y1_2.heap.size y1_2 y1_3:=(by with_reducible first|exact hq1_3|exact ac (ah _ _) hq1_3|exact ac (aB _ _) hq1_3);have hT1_3:=ac hT1_2 hs1_3;have hC1_3:=ac hC1_2 hs1_3;have h0_1_3:=h0_1_2.keeps hs1_3;have h1_1_3:=h1_1_2.keeps hs1_3;with_reducible first|(have qz1:y1_3.heap[x0.heap.size]?=some (.cells #[.bool false,.slice none 0 0,.int .i64 0] 33 (0,0)):=aw hq1_3 (aw hq1_2 (aw hq1_1 (cL x0 (.cells #[.bool false,.slice none 0 0,.int .i64 0] 33))));have cz1_0:=af qz1 0 rfl;have zz1_0:=ar qz1 0;have cz1_1:=af qz1 1 rfl;have zz1_1:=ar qz1 1;have cz1_2:=af qz1 2 rfl;have zz1_2:=ar qz1 2)|(have qz1:y1_3.heap[y1_1.heap.size]?=some (.cells #[.bool false,.slice none 0 0,.int .i64 0] 33 (0,0)):=aw hq1_3 (aw hq1_2 (aA _ _));have cz1_0:=af qz1 0 rfl;have zz1_0:=ar qz1 0;have cz1_1:=af qz1 1 rfl;have zz1_1:=ar qz1 1;have cz1_2:=af qz1 2 rfl;have zz1_2:=ar qz1 2)|(have qz1:y1_3.heap[y1_2.heap.size]?=some (.cells #[.bool false,.slice none 0 0,.int .i64 0] 33 (0,0)):=aw hq1_3 (aA _ _);have cz1_0:=af qz1 0 rfl;have zz1_0:=ar qz1 0;have cz1_1:=af qz1 1 rfl;have zz1_1:=ar qz1 1;have cz1_2:=af qz1 2 rfl;have zz1_2:=ar qz1 2)|skip)
      | (go_at_call 32;have _t:=hs1_1;refine(cP (h1_1_1.keeps (by with_reducible first|exact al _|exact ah _ _|exact aB _ _)) (h1_1_1.keeps (by with_reducible first|exact al _|exact ah _ _|exact aB _ _)) b1 b1 hK2.out).mono ?_;rintro _ y1_2 ⟨v,m_V,rfl,nb1,m_E,m_B⟩;obtain⟨m_g,m_o,m_n,m_c,m_e,rfl⟩:=aN nb1;have hq1_2:=nb1.below;have m_A:=nb1.dan.lower (Nat.le_trans hT1_1.size (by with_reducible first|exact Nat.le_refl _|exact(ah _ _).size|exact(aB _ _).size));have hs1_2:Below y1_1.heap.size y1_1 y1_2:=(by with_reducible first|exact hq1_2|exact ac (ah _ _) hq1_2|exact ac (aB _ _) hq1_2);have hT1_2:=ac hT1_1 hs1_2;have hC1_2:=ac hC1_1 hs1_2;have h0_1_2:=h0_1_1.keeps hs1_2;have h1_1_2:=h1_1_1.keeps hs1_2;have l_A:=l_A.keeps hs1_2)
      | (go_at_call 32; refine (cP (h0_1_0.keeps (by with_reducible first | exact al _ | exact ah _ _ | exact aB _ _)) (h0_1_0.keeps (by with_reducible first | exact al _ | exact ah _ _ | exact aB _ _)) b0 b0 hK2.out).mono ?_; rintro _ y1_1 ⟨v,l_V,rfl,na1,l_E,l_B⟩; obtain ⟨l_g,l_o,l_n,l_c,l_e,rfl⟩:=aN na1; have hq1_1:=na1.below; have l_A:=na1.dan.lower (Nat.le_trans hT1_0.size (by with_reducible first | exact Nat.le_refl _ | exact (ah _ _).size | exact (aB _ _).size)); have hs1_1:Below x0.drew.heap.size x0.drew y1_1:=(by with_reducible first | exact hq1_1 | exact ac (ah _ _) hq1_1 | exact ac (aB _ _) hq1_1); have hT1_1:=ac hT1_0 hs1_1; have hC1_1:=ac hC1_0 hs1_1; have h0_1_1:=h0_1_0.keeps hs1_1; have h1_1_1:=h1_1_0.keeps hs1_1))
  · exact HN1 y1_3.heap.size _ _ _ _ _ _ _ x_V (by kernel_rfl) ((ac (ac (ac (hs1_0) hs1_1) hs1_2) hs1_3).size) (aA _ _) (ac (ac (ac (ac (hs1_0) hs1_1) hs1_2) hs1_3) (ah _ _)) (x_A.keeps (ah _ _)) x_E x_B
  · exact HN1 y1_2.heap.size _ _ _ _ _ _ _ x_V (by kernel_rfl) ((ac (ac (hs1_0) hs1_1) hs1_2).size) (aq (aq (aq (aw hq1_3 (aA _ _)) 0 _) 1 _) 2 _) (aU (ac (ac (ac (hs1_0) hs1_1) hs1_2) hs1_3) ((ac (ac (hs1_0) hs1_1) hs1_2).size) _ _ _) (bw x_A (aw hq1_3 (aA _ _)) _ _ _) x_E x_B
  · exact HN1 y1_1.heap.size _ _ _ _ _ _ _ x_V (by kernel_rfl) ((ac (hs1_0) hs1_1).size) (aq (aq (aq (aw hq1_3 (aw hq1_2 (aA _ _))) 0 _) 1 _) 2 _) (aU (ac (ac (ac (hs1_0) hs1_1) hs1_2) hs1_3) ((ac (hs1_0) hs1_1).size) _ _ _) (bw x_A (aw hq1_3 (aw hq1_2 (aA _ _))) _ _ _) x_E x_B
  · exact HN1 x0.heap.size _ _ _ _ _ _ _ x_V (by kernel_rfl) (Nat.le_refl _) (aq (aq (aq (aw hq1_3 (aw hq1_2 (aw hq1_1 (cL x0 (.cells #[.bool false,.slice none 0 0,.int .i64 0] 33))))) 0 _) 1 _) 2 _) (aU (ac (ac (ac (hs1_0) hs1_1) hs1_2) hs1_3) (Nat.le_refl _) _ _ _) (bw x_A (aw hq1_3 (aw hq1_2 (aw hq1_1 (cL x0 (.cells #[.bool false,.slice none 0 0,.int .i64 0] 33))))) _ _ _) x_E x_B
theorem lI {w:World} {a0_g:Bool} {a0_o:Option Addr} {a0_n a0_c:Nat} {a0_e:Int} {a1_g:Bool} {a1_o:Option Addr} {a1_n a1_c:Nat} {a1_e:Int} {a2_g:Bool} {a2_o:Option Addr} {a2_n a2_c:Nat} {a2_e:Int} {b0_g:Bool} {b0_o:Option Addr} {b0_n b0_c:Nat} {b0_e:Int} {b1_g:Bool} {b1_o:Option Addr} {b1_n b1_c:Nat} {b1_e:Int} {b2_g:Bool} {b2_o:Option Addr} {b2_n b2_c:Nat} {b2_e:Int} {c0_g:Bool} {c0_o:Option Addr} {c0_n c0_c:Nat} {c0_e:Int} {c1_g:Bool} {c1_o:Option Addr} {c1_n c1_c:Nat} {c1_e:Int} {c2_g:Bool} {c2_o:Option Addr} {c2_n c2_c:Nat} {c2_e:Int} {A0 A1 A2 B0 B1 B2 C0 C1 C2:Int} (ka0:aM w (.agg #[.bool a0_g,.slice a0_o a0_n a0_c,.int .i64 a0_e]) A0) (ba0:Bd 1075 A0) (ka1:aM w (.agg #[.bool a1_g,.slice a1_o a1_n a1_c,.int .i64 a1_e]) A1) (ba1:Bd 1075 A1) (ka2:aM w (.agg #[.bool a2_g,.slice a2_o a2_n a2_c,.int .i64 a2_e]) A2) (ba2:Bd 1075 A2) (kb0:aM w (.agg #[.bool b0_g,.slice b0_o b0_n b0_c,.int .i64 b0_e]) B0) (bb0:Bd 1075 B0) (kb1:aM w (.agg #[.bool b1_g,.slice b1_o b1_n b1_c,.int .i64 b1_e]) B1) (bb1:Bd 1075 B1) (kb2:aM w (.agg #[.bool b2_g,.slice b2_o b2_n b2_c,.int .i64 b2_e]) B2) (bb2:Bd 1075 B2) (kc0:aM w (.agg #[.bool c0_g,.slice c0_o c0_n c0_c,.int .i64 c0_e]) C0) (bc0:Bd 1075 C0) (kc1:aM w (.agg #[.bool c1_g,.slice c1_o c1_n c1_c,.int .i64 c1_e]) C1) (bc1:Bd 1075 C1) (kc2:aM w (.agg #[.bool c2_g,.slice c2_o c2_n c2_c,.int .i64 c2_e]) C2) (bc2:Bd 1075 C2) :
    Calls prog 22 #[.agg #[.bool a0_g,.slice a0_o a0_n a0_c,.int .i64 a0_e,.bool a1_g,.slice a1_o a1_n a1_c,.int .i64 a1_e,.bool a2_g,.slice a2_o a2_n a2_c,.int .i64 a2_e],.agg #[.bool b0_g,.slice b0_o b0_n b0_c,.int .i64 b0_e,.bool b1_g,.slice b1_o b1_n b1_c,.int .i64 b1_e,.bool b2_g,.slice b2_o b2_n b2_c,.int .i64 b2_e],.agg #[.bool c0_g,.slice c0_o c0_n c0_c,.int .i64 c0_e,.bool c1_g,.slice c1_o c1_n c1_c,.int .i64 c1_e,.bool c2_g,.slice c2_o c2_n c2_c,.int .i64 c2_e]] w fun r w'=>∃ v V,r=.returned v∧bJ w.heap.size w' V v∧Below w.heap.size w w'∧V*2^4194304*2^4194304=A2*(B0*C1-C0*B1)+B2*(C0*A1-A0*C1)+C2*(A0*B1-B0*A1)∧Bd 4304 V:=by
  obtain⟨hb0,a_k,b_k,c_k,o_k,hsz0⟩:=zw w (.cells #[.bool a0_g,.slice a0_o a0_n a0_c,.int .i64 a0_e,.bool a1_g,.slice a1_o a1_n a1_c,.int .i64 a1_e,.bool a2_g,.slice a2_o a2_n a2_c,.int .i64 a2_e] 64) (.cells #[.bool b0_g,.slice b0_o b0_n b0_c,.int .i64 b0_e,.bool b1_g,.slice b1_o b1_n b1_c,.int .i64 b1_e,.bool b2_g,.slice b2_o b2_n b2_c,.int .i64 b2_e] 64) (.cells #[.bool c0_g,.slice c0_o c0_n c0_c,.int .i64 c0_e,.bool c1_g,.slice c1_o c1_n c1_c,.int .i64 c1_e,.bool c2_g,.slice c2_o c2_n c2_c,.int .i64 c2_e] 64) (.cells #[.bool false,.slice none 0 0,.int .i64 0] 33)
  clear hsz0
  go_enter func22,ntmps22
  go_wp2_with fail
  rename_i Q0 K00 hK00
  generalize ((((w.alloc (.cells #[.bool a0_g,.slice a0_o a0_n a0_c,.int .i64 a0_e,.bool a1_g,.slice a1_o a1_n a1_c,.int .i64 a1_e,.bool a2_g,.slice a2_o a2_n a2_c,.int .i64 a2_e] 64)).alloc (.cells #[.bool b0_g,.slice b0_o b0_n b0_c,.int .i64 b0_e,.bool b1_g,.slice b1_o b1_n b1_c,.int .i64 b1_e,.bool b2_g,.slice b2_o b2_n b2_c,.int .i64 b2_e] 64)).alloc (.cells #[.bool c0_g,.slice c0_o c0_n c0_c,.int .i64 c0_e,.bool c1_g,.slice c1_o c1_n c1_c,.int .i64 c1_e,.bool c2_g,.slice c2_o c2_n c2_c,.int .i64 c2_e] 64)).alloc (.cells #[.bool false,.slice none 0 0,.int .i64 0] 33))=x0 at hb0 a_k b_k c_k o_k ⊢
  have hs0:=(aGe o_k).1
  replace ka0:=ka0.keeps hb0
  replace ka1:=ka1.keeps hb0
  replace ka2:=ka2.keeps hb0
  replace kb0:=kb0.keeps hb0
  replace kb1:=kb1.keeps hb0
  replace kb2:=kb2.keeps hb0
  replace kc0:=kc0.keeps hb0
  replace kc1:=kc1.keeps hb0
  replace kc2:=kc2.keeps hb0
  have hK1:=hK00
  have HN1:∀ (g:Nat) (x1:World) (t:Array Value) (x_g:Bool) (x_o:Option Addr) (x_n x_c:Nat) (x_e:Int) (x_V:Int),#[t.getD 0 undef,t.getD 1 undef,t.getD 2 undef,.pointer (some ⟨w.heap.size,0,none⟩),.pointer (some ⟨w.heap.size+1,0,none⟩),.pointer (some ⟨w.heap.size+1+1,0,none⟩),.pointer (some ⟨w.heap.size+1+1+1,0,none⟩),.pointer (some ⟨g,0,none⟩),t.getD 8 undef,t.getD 9 undef,t.getD 10 undef,t.getD 11 undef,t.getD 12 undef,t.getD 13 undef,t.getD 14 undef,t.getD 15 undef,t.getD 16 undef,t.getD 17 undef,t.getD 18 undef,t.getD 19 undef,t.getD 20 undef,t.getD 21 undef,t.getD 22 undef,t.getD 23 undef,t.getD 24 undef,t.getD 25 undef,t.getD 26 undef,t.getD 27 undef,t.getD 28 undef,t.getD 29 undef,t.getD 30 undef,t.getD 31 undef,t.getD 32 undef]=t->x0.heap.size<=g->x1.heap[g]?=some (.cells #[.bool x_g,.slice x_o x_n x_c,.int .i64 x_e] 33 (0,0))->Below x0.heap.size x0 x1->bJ w.heap.size x1 x_V (.agg #[.bool x_g,.slice x_o x_n x_c,.int .i64 x_e])->x_V*2^4194304*2^4194304=A2*(B0*C1-C0*B1)->Bd (2*2151) x_V->Exit.then K00 Q0 Exit.normal { tmps:=t,defers:=[] } x1:=by
    intro g_x x1 t x_g x_o x_n x_c x_e x_V ht x_ge x_k hw1 x_D x_E x_B
    obtain⟨u1,hu⟩:∃ u:Nat->Value,t=#[u 0,u 1,u 2,.pointer (some ⟨w.heap.size,0,none⟩),.pointer (some ⟨w.heap.size+1,0,none⟩),.pointer (some ⟨w.heap.size+1+1,0,none⟩),.pointer (some ⟨w.heap.size+1+1+1,0,none⟩),.pointer (some ⟨g_x,0,none⟩),u 8,u 9,u 10,u 11,u 12,u 13,u 14,u 15,u 16,u 17,u 18,u 19,u 20,u 21,u 22,u 23,u 24,u 25,u 26,u 27,u 28,u 29,u 30,u 31,u 32]:=⟨fun k=>t.getD k undef,ht.symm⟩
    clear ht
    subst hu
    have ka0:=ka0.keeps hw1
    have ka1:=ka1.keeps hw1
    have ka2:=ka2.keeps hw1
    have kb0:=kb0.keeps hw1
    have kb1:=kb1.keeps hw1
    have kb2:=kb2.keeps hw1
    have kc0:=kc0.keeps hw1
    have kc1:=kc1.keeps hw1
    have kc2:=kc2.keeps hw1
    have a_k:=(hw1.block _ (aGe a_k).1).trans a_k
    have b_k:=(hw1.block _ (aGe b_k).1).trans b_k
    have c_k:=(hw1.block _ (aGe c_k).1).trans c_k
    have o_k:=(hw1.block _ (aGe o_k).1).trans o_k
    have hb1:=ac hb0 hw1
    go_wp2_with fail
    rename_i K2 hK2
    have HN2:∀ (g:Nat) (x2:World) (t:Array Value) (y_g:Bool) (y_o:Option Addr) (y_n y_c:Nat) (y_e:Int) (y_V:Int),#[t.getD 0 undef,t.getD 1 undef,t.getD 2 undef,.pointer (some ⟨w.heap.size,0,none⟩),.pointer (some ⟨w.heap.size+1,0,none⟩),.pointer (some ⟨w.heap.size+1+1,0,none⟩),.pointer (some ⟨w.heap.size+1+1+1,0,none⟩),.pointer (some ⟨g_x,0,none⟩),.pointer (some ⟨g,0,none⟩),t.getD 9 undef,t.getD 10 undef,t.getD 11 undef,t.getD 12 undef,t.getD 13 undef,t.getD 14 undef,t.getD 15 undef,t.getD 16 undef,t.getD 17 undef,t.getD 18 undef,t.getD 19 undef,t.getD 20 undef,t.getD 21 undef,t.getD 22 undef,t.getD 23 undef,t.getD 24 undef,t.getD 25 undef,t.getD 26 undef,t.getD 27 undef,t.getD 28 undef,t.getD 29 undef,t.getD 30 undef,t.getD 31 undef,t.getD 32 undef]=t->x1.heap.size<=g->x2.heap[g]?=some (.cells #[.bool y_g,.slice y_o y_n y_c,.int .i64 y_e] 33 (0,0))->Below x1.heap.size x1 x2->bJ w.heap.size x2 y_V (.agg #[.bool y_g,.slice y_o y_n y_c,.int .i64 y_e])->y_V*2^4194304*2^4194304=B2*(C0*A1-A0*C1)->Bd (2*2151) y_V->Exit.then K2 Q0 Exit.normal { tmps:=t,defers:=[] } x2:=by
      intro g_y x2 t y_g y_o y_n y_c y_e y_V ht y_ge y_k hw2 y_D y_E y_B
      obtain⟨u2,hu⟩:∃ u:Nat->Value,t=#[u 0,u 1,u 2,.pointer (some ⟨w.heap.size,0,none⟩),.pointer (some ⟨w.heap.size+1,0,none⟩),.pointer (some ⟨w.heap.size+1+1,0,none⟩),.pointer (some ⟨w.heap.size+1+1+1,0,none⟩),.pointer (some ⟨g_x,0,none⟩),.pointer (some ⟨g_y,0,none⟩),u 9,u 10,u 11,u 12,u 13,u 14,u 15,u 16,u 17,u 18,u 19,u 20,u 21,u 22,u 23,u 24,u 25,u 26,u 27,u 28,u 29,u 30,u 31,u 32]:=⟨fun k=>t.getD k undef,ht.symm⟩
      clear ht
      subst hu
      have ka0:=ka0.keeps hw2
      have ka1:=ka1.keeps hw2
      have ka2:=ka2.keeps hw2
      have kb0:=kb0.keeps hw2
      have kb1:=kb1.keeps hw2
      have kb2:=kb2.keeps hw2
      have kc0:=kc0.keeps hw2
      have kc1:=kc1.keeps hw2
      have kc2:=kc2.keeps hw2
      have a_k:=(hw2.block _ (aGe a_k).1).trans a_k
      have b_k:=(hw2.block _ (aGe b_k).1).trans b_k
      have c_k:=(hw2.block _ (aGe c_k).1).trans c_k
      have o_k:=(hw2.block _ (aGe o_k).1).trans o_k
      have x_k:=(hw2.block _ (aGe x_k).1).trans x_k
      have x_D:=x_D.keeps hw2
      have hb2:=ac hb1 hw2
      go_wp2_with fail
      rename_i K3 hK3
      have HN3:∀ (g:Nat) (x3:World) (t:Array Value) (z_g:Bool) (z_o:Option Addr) (z_n z_c:Nat) (z_e:Int) (z_V:Int),#[t.getD 0 undef,t.getD 1 undef,t.getD 2 undef,.pointer (some ⟨w.heap.size,0,none⟩),.pointer (some ⟨w.heap.size+1,0,none⟩),.pointer (some ⟨w.heap.size+1+1,0,none⟩),.pointer (some ⟨w.heap.size+1+1+1,0,none⟩),.pointer (some ⟨g_x,0,none⟩),.pointer (some ⟨g_y,0,none⟩),.pointer (some ⟨g,0,none⟩),t.getD 10 undef,t.getD 11 undef,t.getD 12 undef,t.getD 13 undef,t.getD 14 undef,t.getD 15 undef,t.getD 16 undef,t.getD 17 undef,t.getD 18 undef,t.getD 19 undef,t.getD 20 undef,t.getD 21 undef,t.getD 22 undef,t.getD 23 undef,t.getD 24 undef,t.getD 25 undef,t.getD 26 undef,t.getD 27 undef,t.getD 28 undef,t.getD 29 undef,t.getD 30 undef,t.getD 31 undef,t.getD 32 undef]=t->x2.heap.size<=g->x3.heap[g]?=some (.cells #[.bool z_g,.slice z_o z_n z_c,.int .i64 z_e] 33 (0,0))->Below x2.heap.size x2 x3->bJ w.heap.size x3 z_V (.agg #[.bool z_g,.slice z_o z_n z_c,.int .i64 z_e])->z_V*2^4194304*2^4194304=C2*(A0*B1-B0*A1)->Bd (2*2151) z_V->Exit.then K3 Q0 Exit.normal { tmps:=t,defers:=[] } x3:=by
        intro g_z x3 t z_g z_o z_n z_c z_e z_V ht z_ge z_k hw3 z_D z_E z_B
        obtain⟨u3,hu⟩:∃ u:Nat->Value,t=#[u 0,u 1,u 2,.pointer (some ⟨w.heap.size,0,none⟩),.pointer (some ⟨w.heap.size+1,0,none⟩),.pointer (some ⟨w.heap.size+1+1,0,none⟩),.pointer (some ⟨w.heap.size+1+1+1,0,none⟩),.pointer (some ⟨g_x,0,none⟩),.pointer (some ⟨g_y,0,none⟩),.pointer (some ⟨g_z,0,none⟩),u 10,u 11,u 12,u 13,u 14,u 15,u 16,u 17,u 18,u 19,u 20,u 21,u 22,u 23,u 24,u 25,u 26,u 27,u 28,u 29,u 30,u 31,u 32]:=⟨fun k=>t.getD k undef,ht.symm⟩
        clear ht
        subst hu
        have ka0:=ka0.keeps hw3
        have ka1:=ka1.keeps hw3
        have ka2:=ka2.keeps hw3
        have kb0:=kb0.keeps hw3
        have kb1:=kb1.keeps hw3
        have kb2:=kb2.keeps hw3
        have kc0:=kc0.keeps hw3
        have kc1:=kc1.keeps hw3
        have kc2:=kc2.keeps hw3
        have a_k:=(hw3.block _ (aGe a_k).1).trans a_k
        have b_k:=(hw3.block _ (aGe b_k).1).trans b_k
        have c_k:=(hw3.block _ (aGe c_k).1).trans c_k
        have o_k:=(hw3.block _ (aGe o_k).1).trans o_k
        have x_k:=(hw3.block _ (aGe x_k).1).trans x_k
        have x_D:=x_D.keeps hw3
        have y_k:=(hw3.block _ (aGe y_k).1).trans y_k
        have y_D:=y_D.keeps hw3
        have hb3:=ac hb2 hw3
        go_wp2_with fail
        have nx:g_x≠w.heap.size+3:=by omega
        have ny:g_y≠w.heap.size+3:=by have:=hw1.size;omega
        have nz:g_z≠w.heap.size+3:=by have:=hw1.size;have:=hw2.size;omega
        have KK4:∀ W,Below x3.heap.size x3 W->W.cell? ⟨g_x,0,none⟩=some (.bool x_g)∧W.cell? ⟨g_x,1,none⟩=some (.slice x_o x_n x_c)∧W.cell? ⟨g_x,2,none⟩=some (.int .i64 x_e)∧W.cell? ⟨g_y,0,none⟩=some (.bool y_g)∧W.cell? ⟨g_y,1,none⟩=some (.slice y_o y_n y_c)∧W.cell? ⟨g_y,2,none⟩=some (.int .i64 y_e)∧W.cell? ⟨g_z,0,none⟩=some (.bool z_g)∧W.cell? ⟨g_z,1,none⟩=some (.slice z_o z_n z_c)∧W.cell? ⟨g_z,2,none⟩=some (.int .i64 z_e):=fun W hb=>⟨aj (af x_k 0 rfl) hb,aj (af x_k 1 rfl) hb,aj (af x_k 2 rfl) hb,aj (af y_k 0 rfl) hb,aj (af y_k 1 rfl) hb,aj (af y_k 2 rfl) hb,aj (af z_k 0 rfl) hb,aj (af z_k 1 rfl) hb,aj (af z_k 2 rfl) hb⟩
        have hC4_0:=(al x3).drew
        have hs4_0:=(al x3).drew
        have hT4_0:Below w.heap.size w x3.drew:=hb3.drew
        have x_D_4_0:=x_D.keeps (al x3).drew
        have y_D_4_0:=y_D.keeps (al x3).drew
        have z_D_4_0:=z_D.keeps (al x3).drew
        go_region_held3 (fun W=>W.cell? ⟨g_x,0,none⟩=some (.bool x_g)∧W.cell? ⟨g_x,1,none⟩=some (.slice x_o x_n x_c)∧W.cell? ⟨g_x,2,none⟩=some (.int .i64 x_e)∧W.cell? ⟨g_y,0,none⟩=some (.bool y_g)∧W.cell? ⟨g_y,1,none⟩=some (.slice y_o y_n y_c)∧W.cell? ⟨g_y,2,none⟩=some (.int .i64 y_e)∧W.cell? ⟨g_z,0,none⟩=some (.bool z_g)∧W.cell? ⟨g_z,1,none⟩=some (.slice z_o z_n z_c)∧W.cell? ⟨g_z,2,none⟩=some (.int .i64 z_e))
          (with_reducible first|assumption|exact KK4 _ hC4_0|exact KK4 _ hC4_1|exact KK4 _ hC4_2|exact⟨aY (KK4 _ hC4_2).1 _ _ _ nx,aY (KK4 _ hC4_2).2.1 _ _ _ nx,aY (KK4 _ hC4_2).2.2.1 _ _ _ nx,aY (KK4 _ hC4_2).2.2.2.1 _ _ _ ny,aY (KK4 _ hC4_2).2.2.2.2.1 _ _ _ ny,aY (KK4 _ hC4_2).2.2.2.2.2.1 _ _ _ ny,aY (KK4 _ hC4_2).2.2.2.2.2.2.1 _ _ _ nz,aY (KK4 _ hC4_2).2.2.2.2.2.2.2.1 _ _ _ nz,aY (KK4 _ hC4_2).2.2.2.2.2.2.2.2 _ _ _ nz⟩|fail)
          (first
            | (go_at_call 34;have _t:=hs4_1;refine(gP (K:=4303) (nb4.keeps (by with_reducible first|exact al _|exact ah _ _|exact aB _ _)) (z_D_4_1.keeps (by with_reducible first|exact al _|exact ah _ _|exact aB _ _)) (Nat.le_trans hT4_1.size (by with_reducible first|exact Nat.le_refl _|exact(ah _ _).size|exact(aB _ _).size)) (x_B.add y_B (by decide)) (z_B.up (by decide) (by decide)) (by decide)).mono ?_;rintro _ y4_2 ⟨v,rfl,nd,hq4_2⟩;obtain⟨n_g,n_o,n_n,n_c,n_e,rfl⟩:=nd.shape;have hs4_2:Below y4_1.heap.size y4_1 y4_2:=(by with_reducible first|exact hq4_2|exact ac (ah _ _) hq4_2|exact ac (aB _ _) hq4_2);have hT4_2:=ac hT4_1 hs4_2;have hC4_2:=ac hC4_1 hs4_2;have x_D_4_2:=x_D_4_1.keeps hs4_2;have y_D_4_2:=y_D_4_1.keeps hs4_2;have z_D_4_2:=z_D_4_1.keeps hs4_2;have rk:=(fun _=>ak hC4_2 o_k) hs4_2;have e0:=(fun _=>af rk 0 rfl) hs4_2;have z0:=(fun _=>ar rk 0) hs4_2;have e1:=(fun _=>af rk 1 rfl) hs4_2;have z1:=(fun _=>ar rk 1) hs4_2;have e2:=(fun _=>af rk 2 rfl) hs4_2;have z2:=(fun _=>ar rk 2) hs4_2)
            | (go_at_call 34; refine (gP (K:=4302) (x_D_4_0.keeps (by with_reducible first | exact al _ | exact ah _ _ | exact aB _ _)) (y_D_4_0.keeps (by with_reducible first | exact al _ | exact ah _ _ | exact aB _ _)) (Nat.le_trans hT4_0.size (by with_reducible first | exact Nat.le_refl _ | exact (ah _ _).size | exact (aB _ _).size)) x_B y_B (by decide)).mono ?_; rintro _ y4_1 ⟨v,rfl,nb4,hq4_1⟩; obtain ⟨m_g,m_o,m_n,m_c,m_e,rfl⟩:=nb4.shape; have hs4_1:Below x3.drew.heap.size x3.drew y4_1:=(by with_reducible first | exact hq4_1 | exact ac (ah _ _) hq4_1 | exact ac (aB _ _) hq4_1); have hT4_1:=ac hT4_0 hs4_1; have hC4_1:=ac hC4_0 hs4_1; have x_D_4_1:=x_D_4_0.keeps hs4_1; have y_D_4_1:=y_D_4_0.keeps hs4_1; have z_D_4_1:=z_D_4_0.keeps hs4_1))
        go_wp2
        exact bodyPost_ret (v:=.agg #[.bool n_g,.slice n_o n_n n_c,.int .i64 n_e]) (by simp[results,results22,go_sem,e0,e1,e2]) rfl ⟨_,x_V+y_V+z_V,rfl,bw nd rk _ _ _,cX hT4_2 (by omega) _ _ _,AS x_E y_E z_E,(x_B.add y_B (by decide)).add (z_B.up (by decide) (by decide)) (by decide)⟩
      have KK3:∀ W,Below x2.heap.size x2 W->W.cell? ⟨w.heap.size+2,6,none⟩=some (.bool c2_g)∧W.cell? ⟨w.heap.size+2,7,none⟩=some (.slice c2_o c2_n c2_c)∧W.cell? ⟨w.heap.size+2,8,none⟩=some (.int .i64 c2_e)∧W.cell? ⟨w.heap.size,0,none⟩=some (.bool a0_g)∧W.cell? ⟨w.heap.size,1,none⟩=some (.slice a0_o a0_n a0_c)∧W.cell? ⟨w.heap.size,2,none⟩=some (.int .i64 a0_e)∧W.cell? ⟨w.heap.size,3,none⟩=some (.bool a1_g)∧W.cell? ⟨w.heap.size,4,none⟩=some (.slice a1_o a1_n a1_c)∧W.cell? ⟨w.heap.size,5,none⟩=some (.int .i64 a1_e)∧W.cell? ⟨w.heap.size,6,none⟩=some (.bool a2_g)∧W.cell? ⟨w.heap.size,7,none⟩=some (.slice a2_o a2_n a2_c)∧W.cell? ⟨w.heap.size,8,none⟩=some (.int .i64 a2_e)∧W.cell? ⟨w.heap.size+1,0,none⟩=some (.bool b0_g)∧W.cell? ⟨w.heap.size+1,1,none⟩=some (.slice b0_o b0_n b0_c)∧W.cell? ⟨w.heap.size+1,2,none⟩=some (.int .i64 b0_e)∧W.cell? ⟨w.heap.size+1,3,none⟩=some (.bool b1_g)∧W.cell? ⟨w.heap.size+1,4,none⟩=some (.slice b1_o b1_n b1_c)∧W.cell? ⟨w.heap.size+1,5,none⟩=some (.int .i64 b1_e)∧W.cell? ⟨w.heap.size+1,6,none⟩=some (.bool b2_g)∧W.cell? ⟨w.heap.size+1,7,none⟩=some (.slice b2_o b2_n b2_c)∧W.cell? ⟨w.heap.size+1,8,none⟩=some (.int .i64 b2_e):=fun W hb=>⟨aj (af c_k 6 rfl) hb,aj (af c_k 7 rfl) hb,aj (af c_k 8 rfl) hb,aj (af a_k 0 rfl) hb,aj (af a_k 1 rfl) hb,aj (af a_k 2 rfl) hb,aj (af a_k 3 rfl) hb,aj (af a_k 4 rfl) hb,aj (af a_k 5 rfl) hb,aj (af a_k 6 rfl) hb,aj (af a_k 7 rfl) hb,aj (af a_k 8 rfl) hb,aj (af b_k 0 rfl) hb,aj (af b_k 1 rfl) hb,aj (af b_k 2 rfl) hb,aj (af b_k 3 rfl) hb,aj (af b_k 4 rfl) hb,aj (af b_k 5 rfl) hb,aj (af b_k 6 rfl) hb,aj (af b_k 7 rfl) hb,aj (af b_k 8 rfl) hb⟩
      have hC3_0:=(al x2).drew
      have hT3_0:Below w.heap.size w x2.drew:=hb2.drew
      have kc2_3_0:=kc2.keeps (al x2).drew
      have ka0_3_0:=ka0.keeps (al x2).drew
      have ka1_3_0:=ka1.keeps (al x2).drew
      have kb0_3_0:=kb0.keeps (al x2).drew
      have kb1_3_0:=kb1.keeps (al x2).drew
      have hs3_0:=(al x2).drew
      go_region_held3 (fun W=>W.cell? ⟨w.heap.size+2,6,none⟩=some (.bool c2_g)∧W.cell? ⟨w.heap.size+2,7,none⟩=some (.slice c2_o c2_n c2_c)∧W.cell? ⟨w.heap.size+2,8,none⟩=some (.int .i64 c2_e)∧W.cell? ⟨w.heap.size,0,none⟩=some (.bool a0_g)∧W.cell? ⟨w.heap.size,1,none⟩=some (.slice a0_o a0_n a0_c)∧W.cell? ⟨w.heap.size,2,none⟩=some (.int .i64 a0_e)∧W.cell? ⟨w.heap.size,3,none⟩=some (.bool a1_g)∧W.cell? ⟨w.heap.size,4,none⟩=some (.slice a1_o a1_n a1_c)∧W.cell? ⟨w.heap.size,5,none⟩=some (.int .i64 a1_e)∧W.cell? ⟨w.heap.size,6,none⟩=some (.bool a2_g)∧W.cell? ⟨w.heap.size,7,none⟩=some (.slice a2_o a2_n a2_c)∧W.cell? ⟨w.heap.size,8,none⟩=some (.int .i64 a2_e)∧W.cell? ⟨w.heap.size+1,0,none⟩=some (.bool b0_g)∧W.cell? ⟨w.heap.size+1,1,none⟩=some (.slice b0_o b0_n b0_c)∧W.cell? ⟨w.heap.size+1,2,none⟩=some (.int .i64 b0_e)∧W.cell? ⟨w.heap.size+1,3,none⟩=some (.bool b1_g)∧W.cell? ⟨w.heap.size+1,4,none⟩=some (.slice b1_o b1_n b1_c)∧W.cell? ⟨w.heap.size+1,5,none⟩=some (.int .i64 b1_e)∧W.cell? ⟨w.heap.size+1,6,none⟩=some (.bool b2_g)∧W.cell? ⟨w.heap.size+1,7,none⟩=some (.slice b2_o b2_n b2_c)∧W.cell? ⟨w.heap.size+1,8,none⟩=some (.int .i64 b2_e))
        (with_reducible first|assumption|exact KK3 _ (ah _ _).drew|exact KK3 _ hC3_0|exact KK3 _ hC3_1|exact KK3 _ hC3_2|exact KK3 _ (ac hC3_0 (ah _ _))|exact KK3 _ (ac hC3_1 (ah _ _))|exact KK3 _ (ac hC3_2 (ah _ _))|exact KK3 _ (aU hC3_2 (Nat.le_refl _) _ _ _)|exact KK3 _ (aU hC3_2 hC3_1.size _ _ _)|fail)
        (first
          | (go_at_call 32;have _t:=hs3_1;refine(cP (K:=2151) (kc2_3_1.keeps (by with_reducible first|exact al _|exact ah _ _|exact aB _ _)) (na3.num.keeps (by with_reducible first|exact al _|exact ah _ _|exact aB _ _)) (bc2.up (by decide) (by decide)) mi_B (by decide)).mono ?_;rintro _ y3_2 ⟨v,z_V,rfl,nm3,l_E,z_B⟩;obtain⟨z_g,z_o,z_n,z_c,z_e,rfl⟩:=aN nm3;have hq3_2:=nm3.below;have z_A:=nm3.dan.lower (Nat.le_trans hT3_1.size (by with_reducible first|exact Nat.le_refl _|exact(ah _ _).size|exact(aB _ _).size));have z_E:z_V*2^4194304*2^4194304=C2*(A0*B1-B0*A1):=sl l_E mi_E;have hs3_2:Below y3_1.heap.size y3_1 y3_2:=(by with_reducible first|exact hq3_2|exact ac (ah _ _) hq3_2|exact ac (aB _ _) hq3_2);have hT3_2:=ac hT3_1 hs3_2;have hC3_2:=ac hC3_1 hs3_2;have kc2_3_2:=kc2_3_1.keeps hs3_2;have ka0_3_2:=ka0_3_1.keeps hs3_2;have ka1_3_2:=ka1_3_1.keeps hs3_2;have kb0_3_2:=kb0_3_1.keeps hs3_2;have kb1_3_2:=kb1_3_1.keeps hs3_2;with_reducible first|(have qz3:y3_2.heap[x2.heap.size]?=some (.cells #[.bool false,.slice none 0 0,.int .i64 0] 33 (0,0)):=aw hq3_2 (aw hq3_1 (cL x2 (.cells #[.bool false,.slice none 0 0,.int .i64 0] 33)));have cz3_0:=af qz3 0 rfl;have zz3_0:=ar qz3 0;have cz3_1:=af qz3 1 rfl;have zz3_1:=ar qz3 1;have cz3_2:=af qz3 2 rfl;have zz3_2:=ar qz3 2)|(have qz3:y3_2.heap[y3_1.heap.size]?=some (.cells #[.bool false,.slice none 0 0,.int .i64 0] 33 (0,0)):=aw hq3_2 (aA _ _);have cz3_0:=af qz3 0 rfl;have zz3_0:=ar qz3 0;have cz3_1:=af qz3 1 rfl;have zz3_1:=ar qz3 1;have cz3_2:=af qz3 2 rfl;have zz3_2:=ar qz3 2)|skip)
          | (go_at_call 48; refine (mR (K:=1075) (ka0_3_0.keeps (by with_reducible first | exact al _ | exact ah _ _ | exact aB _ _)) (ka1_3_0.keeps (by with_reducible first | exact al _ | exact ah _ _ | exact aB _ _)) (kb0_3_0.keeps (by with_reducible first | exact al _ | exact ah _ _ | exact aB _ _)) (kb1_3_0.keeps (by with_reducible first | exact al _ | exact ah _ _ | exact aB _ _)) ba0 ba1 bb0 bb1 (by decide)).mono ?_; rintro _ y3_1 ⟨v,mi_V,rfl,na3,hq3_1,mi_E,mi_B⟩; obtain ⟨mi_g,mi_o,mi_n,mi_c,mi_e,rfl⟩:=na3.shape; have hs3_1:Below x2.drew.heap.size x2.drew y3_1:=(by with_reducible first | exact hq3_1 | exact ac (ah _ _) hq3_1 | exact ac (aB _ _) hq3_1); have hT3_1:=ac hT3_0 hs3_1; have hC3_1:=ac hC3_0 hs3_1; have kc2_3_1:=kc2_3_0.keeps hs3_1; have ka0_3_1:=ka0_3_0.keeps hs3_1; have ka1_3_1:=ka1_3_0.keeps hs3_1; have kb0_3_1:=kb0_3_0.keeps hs3_1; have kb1_3_1:=kb1_3_0.keeps hs3_1))
      · exact HN3 y3_2.heap.size _ _ _ _ _ _ _ z_V (by kernel_rfl) ((ac (ac (hs3_0) hs3_1) hs3_2).size) (aA _ _) (ac (ac (ac (hs3_0) hs3_1) hs3_2) (ah _ _)) (z_A.keeps (ah _ _)) z_E z_B
      · exact HN3 y3_1.heap.size _ _ _ _ _ _ _ z_V (by kernel_rfl) ((ac (hs3_0) hs3_1).size) (aq (aq (aq (aw hq3_2 (aA _ _)) 0 _) 1 _) 2 _) (aU (ac (ac (hs3_0) hs3_1) hs3_2) ((ac (hs3_0) hs3_1).size) _ _ _) (bw z_A (aw hq3_2 (aA _ _)) _ _ _) z_E z_B
      · exact HN3 x2.heap.size _ _ _ _ _ _ _ z_V (by kernel_rfl) (Nat.le_refl _) (aq (aq (aq (aw hq3_2 (aw hq3_1 (cL x2 (.cells #[.bool false,.slice none 0 0,.int .i64 0] 33)))) 0 _) 1 _) 2 _) (aU (ac (ac (hs3_0) hs3_1) hs3_2) (Nat.le_refl _) _ _ _) (bw z_A (aw hq3_2 (aw hq3_1 (cL x2 (.cells #[.bool false,.slice none 0 0,.int .i64 0] 33)))) _ _ _) z_E z_B
    have KK2:∀ W,Below x1.heap.size x1 W->W.cell? ⟨w.heap.size+1,6,none⟩=some (.bool b2_g)∧W.cell? ⟨w.heap.size+1,7,none⟩=some (.slice b2_o b2_n b2_c)∧W.cell? ⟨w.heap.size+1,8,none⟩=some (.int .i64 b2_e)∧W.cell? ⟨w.heap.size+2,0,none⟩=some (.bool c0_g)∧W.cell? ⟨w.heap.size+2,1,none⟩=some (.slice c0_o c0_n c0_c)∧W.cell? ⟨w.heap.size+2,2,none⟩=some (.int .i64 c0_e)∧W.cell? ⟨w.heap.size+2,3,none⟩=some (.bool c1_g)∧W.cell? ⟨w.heap.size+2,4,none⟩=some (.slice c1_o c1_n c1_c)∧W.cell? ⟨w.heap.size+2,5,none⟩=some (.int .i64 c1_e)∧W.cell? ⟨w.heap.size+2,6,none⟩=some (.bool c2_g)∧W.cell? ⟨w.heap.size+2,7,none⟩=some (.slice c2_o c2_n c2_c)∧W.cell? ⟨w.heap.size+2,8,none⟩=some (.int .i64 c2_e)∧W.cell? ⟨w.heap.size,0,none⟩=some (.bool a0_g)∧W.cell? ⟨w.heap.size,1,none⟩=some (.slice a0_o a0_n a0_c)∧W.cell? ⟨w.heap.size,2,none⟩=some (.int .i64 a0_e)∧W.cell? ⟨w.heap.size,3,none⟩=some (.bool a1_g)∧W.cell? ⟨w.heap.size,4,none⟩=some (.slice a1_o a1_n a1_c)∧W.cell? ⟨w.heap.size,5,none⟩=some (.int .i64 a1_e)∧W.cell? ⟨w.heap.size,6,none⟩=some (.bool a2_g)∧W.cell? ⟨w.heap.size,7,none⟩=some (.slice a2_o a2_n a2_c)∧W.cell? ⟨w.heap.size,8,none⟩=some (.int .i64 a2_e):=fun W hb=>⟨aj (af b_k 6 rfl) hb,aj (af b_k 7 rfl) hb,aj (af b_k 8 rfl) hb,aj (af c_k 0 rfl) hb,aj (af c_k 1 rfl) hb,aj (af c_k 2 rfl) hb,aj (af c_k 3 rfl) hb,aj (af c_k 4 rfl) hb,aj (af c_k 5 rfl) hb,aj (af c_k 6 rfl) hb,aj (af c_k 7 rfl) hb,aj (af c_k 8 rfl) hb,aj (af a_k 0 rfl) hb,aj (af a_k 1 rfl) hb,aj (af a_k 2 rfl) hb,aj (af a_k 3 rfl) hb,aj (af a_k 4 rfl) hb,aj (af a_k 5 rfl) hb,aj (af a_k 6 rfl) hb,aj (af a_k 7 rfl) hb,aj (af a_k 8 rfl) hb⟩
    have hC2_0:=(al x1).drew
    have hT2_0:Below w.heap.size w x1.drew:=hb1.drew
    have kb2_2_0:=kb2.keeps (al x1).drew
    have kc0_2_0:=kc0.keeps (al x1).drew
    have kc1_2_0:=kc1.keeps (al x1).drew
    have ka0_2_0:=ka0.keeps (al x1).drew
    have ka1_2_0:=ka1.keeps (al x1).drew
    have hs2_0:=(al x1).drew
    go_region_held3 (fun W=>W.cell? ⟨w.heap.size+1,6,none⟩=some (.bool b2_g)∧W.cell? ⟨w.heap.size+1,7,none⟩=some (.slice b2_o b2_n b2_c)∧W.cell? ⟨w.heap.size+1,8,none⟩=some (.int .i64 b2_e)∧W.cell? ⟨w.heap.size+2,0,none⟩=some (.bool c0_g)∧W.cell? ⟨w.heap.size+2,1,none⟩=some (.slice c0_o c0_n c0_c)∧W.cell? ⟨w.heap.size+2,2,none⟩=some (.int .i64 c0_e)∧W.cell? ⟨w.heap.size+2,3,none⟩=some (.bool c1_g)∧W.cell? ⟨w.heap.size+2,4,none⟩=some (.slice c1_o c1_n c1_c)∧W.cell? ⟨w.heap.size+2,5,none⟩=some (.int .i64 c1_e)∧W.cell? ⟨w.heap.size+2,6,none⟩=some (.bool c2_g)∧W.cell? ⟨w.heap.size+2,7,none⟩=some (.slice c2_o c2_n c2_c)∧W.cell? ⟨w.heap.size+2,8,none⟩=some (.int .i64 c2_e)∧W.cell? ⟨w.heap.size,0,none⟩=some (.bool a0_g)∧W.cell? ⟨w.heap.size,1,none⟩=some (.slice a0_o a0_n a0_c)∧W.cell? ⟨w.heap.size,2,none⟩=some (.int .i64 a0_e)∧W.cell? ⟨w.heap.size,3,none⟩=some (.bool a1_g)∧W.cell? ⟨w.heap.size,4,none⟩=some (.slice a1_o a1_n a1_c)∧W.cell? ⟨w.heap.size,5,none⟩=some (.int .i64 a1_e)∧W.cell? ⟨w.heap.size,6,none⟩=some (.bool a2_g)∧W.cell? ⟨w.heap.size,7,none⟩=some (.slice a2_o a2_n a2_c)∧W.cell? ⟨w.heap.size,8,none⟩=some (.int .i64 a2_e))
      (with_reducible first|assumption|exact KK2 _ (ah _ _).drew|exact KK2 _ hC2_0|exact KK2 _ hC2_1|exact KK2 _ hC2_2|exact KK2 _ (ac hC2_0 (ah _ _))|exact KK2 _ (ac hC2_1 (ah _ _))|exact KK2 _ (ac hC2_2 (ah _ _))|exact KK2 _ (aU hC2_2 (Nat.le_refl _) _ _ _)|exact KK2 _ (aU hC2_2 hC2_1.size _ _ _)|fail)
      (first
        | (go_at_call 32;have _t:=hs2_1;refine(cP (K:=2151) (kb2_2_1.keeps (by with_reducible first|exact al _|exact ah _ _|exact aB _ _)) (na2.num.keeps (by with_reducible first|exact al _|exact ah _ _|exact aB _ _)) (bb2.up (by decide) (by decide)) mi_B (by decide)).mono ?_;rintro _ y2_2 ⟨v,y_V,rfl,nm2,l_E,y_B⟩;obtain⟨y_g,y_o,y_n,y_c,y_e,rfl⟩:=aN nm2;have hq2_2:=nm2.below;have y_A:=nm2.dan.lower (Nat.le_trans hT2_1.size (by with_reducible first|exact Nat.le_refl _|exact(ah _ _).size|exact(aB _ _).size));have y_E:y_V*2^4194304*2^4194304=B2*(C0*A1-A0*C1):=sl l_E mi_E;have hs2_2:Below y2_1.heap.size y2_1 y2_2:=(by with_reducible first|exact hq2_2|exact ac (ah _ _) hq2_2|exact ac (aB _ _) hq2_2);have hT2_2:=ac hT2_1 hs2_2;have hC2_2:=ac hC2_1 hs2_2;have kb2_2_2:=kb2_2_1.keeps hs2_2;have kc0_2_2:=kc0_2_1.keeps hs2_2;have kc1_2_2:=kc1_2_1.keeps hs2_2;have ka0_2_2:=ka0_2_1.keeps hs2_2;have ka1_2_2:=ka1_2_1.keeps hs2_2;with_reducible first|(have qz2:y2_2.heap[x1.heap.size]?=some (.cells #[.bool false,.slice none 0 0,.int .i64 0] 33 (0,0)):=aw hq2_2 (aw hq2_1 (cL x1 (.cells #[.bool false,.slice none 0 0,.int .i64 0] 33)));have cz2_0:=af qz2 0 rfl;have zz2_0:=ar qz2 0;have cz2_1:=af qz2 1 rfl;have zz2_1:=ar qz2 1;have cz2_2:=af qz2 2 rfl;have zz2_2:=ar qz2 2)|(have qz2:y2_2.heap[y2_1.heap.size]?=some (.cells #[.bool false,.slice none 0 0,.int .i64 0] 33 (0,0)):=aw hq2_2 (aA _ _);have cz2_0:=af qz2 0 rfl;have zz2_0:=ar qz2 0;have cz2_1:=af qz2 1 rfl;have zz2_1:=ar qz2 1;have cz2_2:=af qz2 2 rfl;have zz2_2:=ar qz2 2)|skip)
        | (go_at_call 48; refine (mR (K:=1075) (kc0_2_0.keeps (by with_reducible first | exact al _ | exact ah _ _ | exact aB _ _)) (kc1_2_0.keeps (by with_reducible first | exact al _ | exact ah _ _ | exact aB _ _)) (ka0_2_0.keeps (by with_reducible first | exact al _ | exact ah _ _ | exact aB _ _)) (ka1_2_0.keeps (by with_reducible first | exact al _ | exact ah _ _ | exact aB _ _)) bc0 bc1 ba0 ba1 (by decide)).mono ?_; rintro _ y2_1 ⟨v,mi_V,rfl,na2,hq2_1,mi_E,mi_B⟩; obtain ⟨mi_g,mi_o,mi_n,mi_c,mi_e,rfl⟩:=na2.shape; have hs2_1:Below x1.drew.heap.size x1.drew y2_1:=(by with_reducible first | exact hq2_1 | exact ac (ah _ _) hq2_1 | exact ac (aB _ _) hq2_1); have hT2_1:=ac hT2_0 hs2_1; have hC2_1:=ac hC2_0 hs2_1; have kb2_2_1:=kb2_2_0.keeps hs2_1; have kc0_2_1:=kc0_2_0.keeps hs2_1; have kc1_2_1:=kc1_2_0.keeps hs2_1; have ka0_2_1:=ka0_2_0.keeps hs2_1; have ka1_2_1:=ka1_2_0.keeps hs2_1))
    · exact HN2 y2_2.heap.size _ _ _ _ _ _ _ y_V (by kernel_rfl) ((ac (ac (hs2_0) hs2_1) hs2_2).size) (aA _ _) (ac (ac (ac (hs2_0) hs2_1) hs2_2) (ah _ _)) (y_A.keeps (ah _ _)) y_E y_B
    · exact HN2 y2_1.heap.size _ _ _ _ _ _ _ y_V (by kernel_rfl) ((ac (hs2_0) hs2_1).size) (aq (aq (aq (aw hq2_2 (aA _ _)) 0 _) 1 _) 2 _) (aU (ac (ac (hs2_0) hs2_1) hs2_2) ((ac (hs2_0) hs2_1).size) _ _ _) (bw y_A (aw hq2_2 (aA _ _)) _ _ _) y_E y_B
    · exact HN2 x1.heap.size _ _ _ _ _ _ _ y_V (by kernel_rfl) (Nat.le_refl _) (aq (aq (aq (aw hq2_2 (aw hq2_1 (cL x1 (.cells #[.bool false,.slice none 0 0,.int .i64 0] 33)))) 0 _) 1 _) 2 _) (aU (ac (ac (hs2_0) hs2_1) hs2_2) (Nat.le_refl _) _ _ _) (bw y_A (aw hq2_2 (aw hq2_1 (cL x1 (.cells #[.bool false,.slice none 0 0,.int .i64 0] 33)))) _ _ _) y_E y_B
  have KK1:∀ W,Below x0.heap.size x0 W->W.cell? ⟨w.heap.size,6,none⟩=some (.bool a2_g)∧W.cell? ⟨w.heap.size,7,none⟩=some (.slice a2_o a2_n a2_c)∧W.cell? ⟨w.heap.size,8,none⟩=some (.int .i64 a2_e)∧W.cell? ⟨w.heap.size+1,0,none⟩=some (.bool b0_g)∧W.cell? ⟨w.heap.size+1,1,none⟩=some (.slice b0_o b0_n b0_c)∧W.cell? ⟨w.heap.size+1,2,none⟩=some (.int .i64 b0_e)∧W.cell? ⟨w.heap.size+1,3,none⟩=some (.bool b1_g)∧W.cell? ⟨w.heap.size+1,4,none⟩=some (.slice b1_o b1_n b1_c)∧W.cell? ⟨w.heap.size+1,5,none⟩=some (.int .i64 b1_e)∧W.cell? ⟨w.heap.size+1,6,none⟩=some (.bool b2_g)∧W.cell? ⟨w.heap.size+1,7,none⟩=some (.slice b2_o b2_n b2_c)∧W.cell? ⟨w.heap.size+1,8,none⟩=some (.int .i64 b2_e)∧W.cell? ⟨w.heap.size+2,0,none⟩=some (.bool c0_g)∧W.cell? ⟨w.heap.size+2,1,none⟩=some (.slice c0_o c0_n c0_c)∧W.cell? ⟨w.heap.size+2,2,none⟩=some (.int .i64 c0_e)∧W.cell? ⟨w.heap.size+2,3,none⟩=some (.bool c1_g)∧W.cell? ⟨w.heap.size+2,4,none⟩=some (.slice c1_o c1_n c1_c)∧W.cell? ⟨w.heap.size+2,5,none⟩=some (.int .i64 c1_e)∧W.cell? ⟨w.heap.size+2,6,none⟩=some (.bool c2_g)∧W.cell? ⟨w.heap.size+2,7,none⟩=some (.slice c2_o c2_n c2_c)∧W.cell? ⟨w.heap.size+2,8,none⟩=some (.int .i64 c2_e):=fun W hb=>⟨aj (af a_k 6 rfl) hb,aj (af a_k 7 rfl) hb,aj (af a_k 8 rfl) hb,aj (af b_k 0 rfl) hb,aj (af b_k 1 rfl) hb,aj (af b_k 2 rfl) hb,aj (af b_k 3 rfl) hb,aj (af b_k 4 rfl) hb,aj (af b_k 5 rfl) hb,aj (af b_k 6 rfl) hb,aj (af b_k 7 rfl) hb,aj (af b_k 8 rfl) hb,aj (af c_k 0 rfl) hb,aj (af c_k 1 rfl) hb,aj (af c_k 2 rfl) hb,aj (af c_k 3 rfl) hb,aj (af c_k 4 rfl) hb,aj (af c_k 5 rfl) hb,aj (af c_k 6 rfl) hb,aj (af c_k 7 rfl) hb,aj (af c_k 8 rfl) hb⟩
  have hC1_0:=(al x0).drew
  have hT1_0:Below w.heap.size w x0.drew:=hb0.drew
  have ka2_1_0:=ka2.keeps (al x0).drew
  have kb0_1_0:=kb0.keeps (al x0).drew
  have kb1_1_0:=kb1.keeps (al x0).drew
  have kc0_1_0:=kc0.keeps (al x0).drew
  have kc1_1_0:=kc1.keeps (al x0).drew
  have hs1_0:=(al x0).drew
  go_region_held3 (fun W=>W.cell? ⟨w.heap.size,6,none⟩=some (.bool a2_g)∧W.cell? ⟨w.heap.size,7,none⟩=some (.slice a2_o a2_n a2_c)∧W.cell? ⟨w.heap.size,8,none⟩=some (.int .i64 a2_e)∧W.cell? ⟨w.heap.size+1,0,none⟩=some (.bool b0_g)∧W.cell? ⟨w.heap.size+1,1,none⟩=some (.slice b0_o b0_n b0_c)∧W.cell? ⟨w.heap.size+1,2,none⟩=some (.int .i64 b0_e)∧W.cell? ⟨w.heap.size+1,3,none⟩=some (.bool b1_g)∧W.cell? ⟨w.heap.size+1,4,none⟩=some (.slice b1_o b1_n b1_c)∧W.cell? ⟨w.heap.size+1,5,none⟩=some (.int .i64 b1_e)∧W.cell? ⟨w.heap.size+1,6,none⟩=some (.bool b2_g)∧W.cell? ⟨w.heap.size+1,7,none⟩=some (.slice b2_o b2_n b2_c)∧W.cell? ⟨w.heap.size+1,8,none⟩=some (.int .i64 b2_e)∧W.cell? ⟨w.heap.size+2,0,none⟩=some (.bool c0_g)∧W.cell? ⟨w.heap.size+2,1,none⟩=some (.slice c0_o c0_n c0_c)∧W.cell? ⟨w.heap.size+2,2,none⟩=some (.int .i64 c0_e)∧W.cell? ⟨w.heap.size+2,3,none⟩=some (.bool c1_g)∧W.cell? ⟨w.heap.size+2,4,none⟩=some (.slice c1_o c1_n c1_c)∧W.cell? ⟨w.heap.size+2,5,none⟩=some (.int .i64 c1_e)∧W.cell? ⟨w.heap.size+2,6,none⟩=some (.bool c2_g)∧W.cell? ⟨w.heap.size+2,7,none⟩=some (.slice c2_o c2_n c2_c)∧W.cell? ⟨w.heap.size+2,8,none⟩=some (.int .i64 c2_e))
    (with_reducible first|assumption|exact KK1 _ (ah _ _).drew|exact KK1 _ hC1_0|exact KK1 _ hC1_1|exact KK1 _ hC1_2|exact KK1 _ (ac hC1_0 (ah _ _))|exact KK1 _ (ac hC1_1 (ah _ _))|exact KK1 _ (ac hC1_2 (ah _ _))|exact KK1 _ (aU hC1_2 (Nat.le_refl _) _ _ _)|exact KK1 _ (aU hC1_2 hC1_1.size _ _ _)|fail)
    (first
      | (go_at_call 32;have _t:=hs1_1;refine(cP (K:=2151) (ka2_1_1.keeps (by with_reducible first|exact al _|exact ah _ _|exact aB _ _)) (na1.num.keeps (by with_reducible first|exact al _|exact ah _ _|exact aB _ _)) (ba2.up (by decide) (by decide)) mi_B (by decide)).mono ?_;rintro _ y1_2 ⟨v,x_V,rfl,nm1,l_E,x_B⟩;obtain⟨x_g,x_o,x_n,x_c,x_e,rfl⟩:=aN nm1;have hq1_2:=nm1.below;have x_A:=nm1.dan.lower (Nat.le_trans hT1_1.size (by with_reducible first|exact Nat.le_refl _|exact(ah _ _).size|exact(aB _ _).size));have x_E:x_V*2^4194304*2^4194304=A2*(B0*C1-C0*B1):=sl l_E mi_E;have hs1_2:Below y1_1.heap.size y1_1 y1_2:=(by with_reducible first|exact hq1_2|exact ac (ah _ _) hq1_2|exact ac (aB _ _) hq1_2);have hT1_2:=ac hT1_1 hs1_2;have hC1_2:=ac hC1_1 hs1_2;have ka2_1_2:=ka2_1_1.keeps hs1_2;have kb0_1_2:=kb0_1_1.keeps hs1_2;have kb1_1_2:=kb1_1_1.keeps hs1_2;have kc0_1_2:=kc0_1_1.keeps hs1_2;have kc1_1_2:=kc1_1_1.keeps hs1_2;with_reducible first|(have qz1:y1_2.heap[x0.heap.size]?=some (.cells #[.bool false,.slice none 0 0,.int .i64 0] 33 (0,0)):=aw hq1_2 (aw hq1_1 (cL x0 (.cells #[.bool false,.slice none 0 0,.int .i64 0] 33)));have cz1_0:=af qz1 0 rfl;have zz1_0:=ar qz1 0;have cz1_1:=af qz1 1 rfl;have zz1_1:=ar qz1 1;have cz1_2:=af qz1 2 rfl;have zz1_2:=ar qz1 2)|(have qz1:y1_2.heap[y1_1.heap.size]?=some (.cells #[.bool false,.slice none 0 0,.int .i64 0] 33 (0,0)):=aw hq1_2 (aA _ _);have cz1_0:=af qz1 0 rfl;have zz1_0:=ar qz1 0;have cz1_1:=af qz1 1 rfl;have zz1_1:=ar qz1 1;have cz1_2:=af qz1 2 rfl;have zz1_2:=ar qz1 2)|skip)
      | (go_at_call 48; refine (mR (K:=1075) (kb0_1_0.keeps (by with_reducible first | exact al _ | exact ah _ _ | exact aB _ _)) (kb1_1_0.keeps (by with_reducible first | exact al _ | exact ah _ _ | exact aB _ _)) (kc0_1_0.keeps (by with_reducible first | exact al _ | exact ah _ _ | exact aB _ _)) (kc1_1_0.keeps (by with_reducible first | exact al _ | exact ah _ _ | exact aB _ _)) bb0 bb1 bc0 bc1 (by decide)).mono ?_; rintro _ y1_1 ⟨v,mi_V,rfl,na1,hq1_1,mi_E,mi_B⟩; obtain ⟨mi_g,mi_o,mi_n,mi_c,mi_e,rfl⟩:=na1.shape; have hs1_1:Below x0.drew.heap.size x0.drew y1_1:=(by with_reducible first | exact hq1_1 | exact ac (ah _ _) hq1_1 | exact ac (aB _ _) hq1_1); have hT1_1:=ac hT1_0 hs1_1; have hC1_1:=ac hC1_0 hs1_1; have ka2_1_1:=ka2_1_0.keeps hs1_1; have kb0_1_1:=kb0_1_0.keeps hs1_1; have kb1_1_1:=kb1_1_0.keeps hs1_1; have kc0_1_1:=kc0_1_0.keeps hs1_1; have kc1_1_1:=kc1_1_0.keeps hs1_1))
  · exact HN1 y1_2.heap.size _ _ _ _ _ _ _ x_V (by kernel_rfl) ((ac (ac (hs1_0) hs1_1) hs1_2).size) (aA _ _) (ac (ac (ac (hs1_0) hs1_1) hs1_2) (ah _ _)) (x_A.keeps (ah _ _)) x_E x_B
  · exact HN1 y1_1.heap.size _ _ _ _ _ _ _ x_V (by kernel_rfl) ((ac (hs1_0) hs1_1).size) (aq (aq (aq (aw hq1_2 (aA _ _)) 0 _) 1 _) 2 _) (aU (ac (ac (hs1_0) hs1_1) hs1_2) ((ac (hs1_0) hs1_1).size) _ _ _) (bw x_A (aw hq1_2 (aA _ _)) _ _ _) x_E x_B
  · exact HN1 x0.heap.size _ _ _ _ _ _ _ x_V (by kernel_rfl) (Nat.le_refl _) (aq (aq (aq (aw hq1_2 (aw hq1_1 (cL x0 (.cells #[.bool false,.slice none 0 0,.int .i64 0] 33)))) 0 _) 1 _) 2 _) (aU (ac (ac (hs1_0) hs1_1) hs1_2) (Nat.le_refl _) _ _ _) (bw x_A (aw hq1_2 (aw hq1_1 (cL x0 (.cells #[.bool false,.slice none 0 0,.int .i64 0] 33)))) _ _ _) x_E x_B
theorem uX {S T L D l d:Int} (e:T*S=L*D) (hl:L*S=l) (hd:D*S*S=d):T*(S*(S*S*S))=l*d:=by
 rw[<- hl,<- hd,show T*(S*(S*S*S))=T*S*(S*(S*S)) by grind,e]
 grind
theorem cG {s:Nat->Nat->Int} (hr:∀ i k,ax (s i k)) {i j:Nat} (hi:∀ k,k<3->aF (s i k)=true) (hj:∀ k,k<3->aF (s j k)=true) (k:Nat) (hk:k<3):Bd 1075 (am (s i k)-am (s j k)):=(nQ (hr i k) (hi k hk)).sub (nQ (hr j k) (hj k hk)) (by decide)
theorem mS {s:Nat->Nat->Int} (hr:∀ i k,ax (s i k)) (hz:∀ i,i<=3->∀ k,k<3->aF (s i k)=true) (w:World) :
  Calls prog 12 #[.agg #[.int .i64 (s 0 0),.int .i64 (s 0 1),.int .i64 (s 0 2)],.agg #[.int .i64 (s 1 0),.int .i64 (s 1 1),.int .i64 (s 1 2)],.agg #[.int .i64 (s 2 0),.int .i64 (s 2 1),.int .i64 (s 2 2)],.agg #[.int .i64 (s 3 0),.int .i64 (s 3 1),.int .i64 (s 3 2)]] w fun r w'=>∃ v V,r=.returned v∧bJ w.heap.size w' V v∧Below w.heap.size w w'∧V*2^4194304*2^4194304=dX (vL s 3) 0 1 2∧Bd 4304 V:=by
 have R0:Hid (∀ W,Calls prog 23 #[.agg #[.int .i64 (s 0 0),.int .i64 (s 0 1),.int .i64 (s 0 2)],.agg #[.int .i64 (s 3 0),.int .i64 (s 3 1),.int .i64 (s 3 2)]] W fun r w'=>∃ n0_g n0_o n0_n n0_c n0_e n1_g n1_o n1_n n1_c n1_e n2_g n2_o n2_n n2_c n2_e,r=.returned (.agg #[.bool n0_g,.slice n0_o n0_n n0_c,.int .i64 n0_e,.bool n1_g,.slice n1_o n1_n n1_c,.int .i64 n1_e,.bool n2_g,.slice n2_o n2_n n2_c,.int .i64 n2_e])∧aM w' (.agg #[.bool n0_g,.slice n0_o n0_n n0_c,.int .i64 n0_e]) (am (s 0 0)-am (s 3 0))∧aM w' (.agg #[.bool n1_g,.slice n1_o n1_n n1_c,.int .i64 n1_e]) (am (s 0 1)-am (s 3 1))∧aM w' (.agg #[.bool n2_g,.slice n2_o n2_n n2_c,.int .i64 n2_e]) (am (s 0 2)-am (s 3 2))∧Below W.heap.size W w'):=fun W=>js 0 3 hr (hz 0 (by decide)) (hz 3 (by decide)) W
 have R1:Hid (∀ W,Calls prog 23 #[.agg #[.int .i64 (s 1 0),.int .i64 (s 1 1),.int .i64 (s 1 2)],.agg #[.int .i64 (s 3 0),.int .i64 (s 3 1),.int .i64 (s 3 2)]] W fun r w'=>∃ n0_g n0_o n0_n n0_c n0_e n1_g n1_o n1_n n1_c n1_e n2_g n2_o n2_n n2_c n2_e,r=.returned (.agg #[.bool n0_g,.slice n0_o n0_n n0_c,.int .i64 n0_e,.bool n1_g,.slice n1_o n1_n n1_c,.int .i64 n1_e,.bool n2_g,.slice n2_o n2_n n2_c,.int .i64 n2_e])∧aM w' (.agg #[.bool n0_g,.slice n0_o n0_n n0_c,.int .i64 n0_e]) (am (s 1 0)-am (s 3 0))∧aM w' (.agg #[.bool n1_g,.slice n1_o n1_n n1_c,.int .i64 n1_e]) (am (s 1 1)-am (s 3 1))∧aM w' (.agg #[.bool n2_g,.slice n2_o n2_n n2_c,.int .i64 n2_e]) (am (s 1 2)-am (s 3 2))∧Below W.heap.size W w'):=fun W=>js 1 3 hr (hz 1 (by decide)) (hz 3 (by decide)) W
 have R2:Hid (∀ W,Calls prog 23 #[.agg #[.int .i64 (s 2 0),.int .i64 (s 2 1),.int .i64 (s 2 2)],.agg #[.int .i64 (s 3 0),.int .i64 (s 3 1),.int .i64 (s 3 2)]] W fun r w'=>∃ n0_g n0_o n0_n n0_c n0_e n1_g n1_o n1_n n1_c n1_e n2_g n2_o n2_n n2_c n2_e,r=.returned (.agg #[.bool n0_g,.slice n0_o n0_n n0_c,.int .i64 n0_e,.bool n1_g,.slice n1_o n1_n n1_c,.int .i64 n1_e,.bool n2_g,.slice n2_o n2_n n2_c,.int .i64 n2_e])∧aM w' (.agg #[.bool n0_g,.slice n0_o n0_n n0_c,.int .i64 n0_e]) (am (s 2 0)-am (s 3 0))∧aM w' (.agg #[.bool n1_g,.slice n1_o n1_n n1_c,.int .i64 n1_e]) (am (s 2 1)-am (s 3 1))∧aM w' (.agg #[.bool n2_g,.slice n2_o n2_n n2_c,.int .i64 n2_e]) (am (s 2 2)-am (s 3 2))∧Below W.heap.size W w'):=fun W=>js 2 3 hr (hz 2 (by decide)) (hz 3 (by decide)) W
 have ba0:Bd 1075 (am (s 0 0)-am (s 3 0)):=cG hr (hz 0 (by decide)) (hz 3 (by decide)) 0 (by decide)
 have ba1:Bd 1075 (am (s 0 1)-am (s 3 1)):=cG hr (hz 0 (by decide)) (hz 3 (by decide)) 1 (by decide)
 have ba2:Bd 1075 (am (s 0 2)-am (s 3 2)):=cG hr (hz 0 (by decide)) (hz 3 (by decide)) 2 (by decide)
 have bb0:Bd 1075 (am (s 1 0)-am (s 3 0)):=cG hr (hz 1 (by decide)) (hz 3 (by decide)) 0 (by decide)
 have bb1:Bd 1075 (am (s 1 1)-am (s 3 1)):=cG hr (hz 1 (by decide)) (hz 3 (by decide)) 1 (by decide)
 have bb2:Bd 1075 (am (s 1 2)-am (s 3 2)):=cG hr (hz 1 (by decide)) (hz 3 (by decide)) 2 (by decide)
 have bc0:Bd 1075 (am (s 2 0)-am (s 3 0)):=cG hr (hz 2 (by decide)) (hz 3 (by decide)) 0 (by decide)
 have bc1:Bd 1075 (am (s 2 1)-am (s 3 1)):=cG hr (hz 2 (by decide)) (hz 3 (by decide)) 1 (by decide)
 have bc2:Bd 1075 (am (s 2 2)-am (s 3 2)):=cG hr (hz 2 (by decide)) (hz 3 (by decide)) 2 (by decide)
 have hX:Hid ((am (s 0 2)-am (s 3 2))*((am (s 1 0)-am (s 3 0))*(am (s 2 1)-am (s 3 1))-(am (s 2 0)-am (s 3 0))*(am (s 1 1)-am (s 3 1)))+(am (s 1 2)-am (s 3 2))*((am (s 2 0)-am (s 3 0))*(am (s 0 1)-am (s 3 1))-(am (s 0 0)-am (s 3 0))*(am (s 2 1)-am (s 3 1)))+(am (s 2 2)-am (s 3 2))*((am (s 0 0)-am (s 3 0))*(am (s 1 1)-am (s 3 1))-(am (s 1 0)-am (s 3 0))*(am (s 0 1)-am (s 3 1)))=dX (vL s 3) 0 1 2):=by
  show _=_
  unfold dX mX vL
  simp only[show(0:Nat)<3 by decide,show(1:Nat)<3 by decide,show(2:Nat)<3 by decide,if_true]
  grind
 clear hr hz
 generalize dX (vL s 3) 0 1 2=DX at *
 generalize am (s 0 0)-am (s 3 0)=A0 at *
 generalize am (s 0 1)-am (s 3 1)=A1 at *
 generalize am (s 0 2)-am (s 3 2)=A2 at *
 generalize am (s 1 0)-am (s 3 0)=B0 at *
 generalize am (s 1 1)-am (s 3 1)=B1 at *
 generalize am (s 1 2)-am (s 3 2)=B2 at *
 generalize am (s 2 0)-am (s 3 0)=C0 at *
 generalize am (s 2 1)-am (s 3 1)=C1 at *
 generalize am (s 2 2)-am (s 3 2)=C2 at *
 generalize s 0 0=cn at *
 generalize s 0 1=s01 at *
 generalize s 0 2=s02 at *
 generalize s 1 0=co at *
 generalize s 1 1=s11 at *
 generalize s 1 2=s12 at *
 generalize s 2 0=s20 at *
 generalize s 2 1=s21 at *
 generalize s 2 2=s22 at *
 generalize s 3 0=s30 at *
 generalize s 3 1=s31 at *
 generalize s 3 2=s32 at *
 obtain⟨hb0,p0_k,p1_k,p2_k,p3_k,o_k,hsz0⟩:=uF w (.cells #[.int .i64 cn,.int .i64 s01,.int .i64 s02] 23) (.cells #[.int .i64 co,.int .i64 s11,.int .i64 s12] 23) (.cells #[.int .i64 s20,.int .i64 s21,.int .i64 s22] 23) (.cells #[.int .i64 s30,.int .i64 s31,.int .i64 s32] 23) (.cells #[.bool false,.slice none 0 0,.int .i64 0] 33)
 clear hsz0
 go_enter func12,ntmps12
 go_wp2_with fail
 generalize (((((w.alloc (.cells #[.int .i64 cn,.int .i64 s01,.int .i64 s02] 23)).alloc (.cells #[.int .i64 co,.int .i64 s11,.int .i64 s12] 23)).alloc (.cells #[.int .i64 s20,.int .i64 s21,.int .i64 s22] 23)).alloc (.cells #[.int .i64 s30,.int .i64 s31,.int .i64 s32] 23)).alloc (.cells #[.bool false,.slice none 0 0,.int .i64 0] 33))=x0 at hb0 p0_k p1_k p2_k p3_k o_k ⊢
 have hs0:=(aGe o_k).1
 have hlt:w.heap.size+4<=x0.heap.size:=by omega
 have KK:∀ W,Below (w.heap.size+4) x0 W->W.cell? ⟨w.heap.size,0,none⟩=some (.int .i64 cn)∧W.cell? ⟨w.heap.size,1,none⟩=some (.int .i64 s01)∧W.cell? ⟨w.heap.size,2,none⟩=some (.int .i64 s02)∧W.cell? ⟨w.heap.size+1,0,none⟩=some (.int .i64 co)∧W.cell? ⟨w.heap.size+1,1,none⟩=some (.int .i64 s11)∧W.cell? ⟨w.heap.size+1,2,none⟩=some (.int .i64 s12)∧W.cell? ⟨w.heap.size+2,0,none⟩=some (.int .i64 s20)∧W.cell? ⟨w.heap.size+2,1,none⟩=some (.int .i64 s21)∧W.cell? ⟨w.heap.size+2,2,none⟩=some (.int .i64 s22)∧W.cell? ⟨w.heap.size+3,0,none⟩=some (.int .i64 s30)∧W.cell? ⟨w.heap.size+3,1,none⟩=some (.int .i64 s31)∧W.cell? ⟨w.heap.size+3,2,none⟩=some (.int .i64 s32):=fun W hb=>⟨bK (af p0_k 0 rfl) hb (show w.heap.size<w.heap.size+4 by omega),bK (af p0_k 1 rfl) hb (show w.heap.size<w.heap.size+4 by omega),bK (af p0_k 2 rfl) hb (show w.heap.size<w.heap.size+4 by omega),bK (af p1_k 0 rfl) hb (show w.heap.size+1<w.heap.size+4 by omega),bK (af p1_k 1 rfl) hb (show w.heap.size+1<w.heap.size+4 by omega),bK (af p1_k 2 rfl) hb (show w.heap.size+1<w.heap.size+4 by omega),bK (af p2_k 0 rfl) hb (show w.heap.size+2<w.heap.size+4 by omega),bK (af p2_k 1 rfl) hb (show w.heap.size+2<w.heap.size+4 by omega),bK (af p2_k 2 rfl) hb (show w.heap.size+2<w.heap.size+4 by omega),bK (af p3_k 0 rfl) hb (show w.heap.size+3<w.heap.size+4 by omega),bK (af p3_k 1 rfl) hb (show w.heap.size+3<w.heap.size+4 by omega),bK (af p3_k 2 rfl) hb (show w.heap.size+3<w.heap.size+4 by omega)⟩
 have hC0:=(al x0).drew
 go_region_held3 (fun W=>W.cell? ⟨w.heap.size,0,none⟩=some (.int .i64 cn)∧W.cell? ⟨w.heap.size,1,none⟩=some (.int .i64 s01)∧W.cell? ⟨w.heap.size,2,none⟩=some (.int .i64 s02)∧W.cell? ⟨w.heap.size+1,0,none⟩=some (.int .i64 co)∧W.cell? ⟨w.heap.size+1,1,none⟩=some (.int .i64 s11)∧W.cell? ⟨w.heap.size+1,2,none⟩=some (.int .i64 s12)∧W.cell? ⟨w.heap.size+2,0,none⟩=some (.int .i64 s20)∧W.cell? ⟨w.heap.size+2,1,none⟩=some (.int .i64 s21)∧W.cell? ⟨w.heap.size+2,2,none⟩=some (.int .i64 s22)∧W.cell? ⟨w.heap.size+3,0,none⟩=some (.int .i64 s30)∧W.cell? ⟨w.heap.size+3,1,none⟩=some (.int .i64 s31)∧W.cell? ⟨w.heap.size+3,2,none⟩=some (.int .i64 s32))
  (with_reducible first|assumption|exact KK _ (hC0.mono hlt)|exact KK _ (hC1.mono hlt)|exact KK _ (hC2.mono hlt)|exact KK _ (hC3.mono hlt)|exact KK _ (hC4.mono hlt)|exact KK _ (mQ (hC4.mono hlt) (Nat.le_refl _) _ _ _)|fail)
  (first|(go_at_call 22;refine(lI da0 ba0 da1 ba1 da2 ba2 db0 bb0 db1 bb1 db2 bb2 dc0 bc0 dc1 bc1 dc2 bc2).mono ?_;rintro _ y4 ⟨v,D,rfl,d4,hs4,e4,b4⟩;obtain⟨n_g,n_o,n_n,n_c,n_e,rfl⟩:=d4.shape;have hC4:=ac hC3 hs4;have rk:=ak hC4 o_k;have e0:=af rk 0 rfl;have z0:=ar rk 0;have e1:=af rk 1 rfl;have z1:=ar rk 1;have e2:=af rk 2 rfl;have z2:=ar rk 2)|(go_at_call 23;have _t:=hs2;refine(R2.out _).mono ?_;rintro _ y3 ⟨c0_g,c0_o,c0_n,c0_c,c0_e,c1_g,c1_o,c1_n,c1_c,c1_e,c2_g,c2_o,c2_n,c2_c,c2_e,rfl,dc0,dc1,dc2,hs3⟩;have hC3:=ac hC2 hs3;have da0:=da0.keeps hs3;have da1:=da1.keeps hs3;have da2:=da2.keeps hs3;have db0:=db0.keeps hs3;have db1:=db1.keeps hs3;have db2:=db2.keeps hs3)|(go_at_call 23;have _t:=hs1;refine(R1.out _).mono ?_;rintro _ y2 ⟨b0_g,b0_o,b0_n,b0_c,b0_e,b1_g,b1_o,b1_n,b1_c,b1_e,b2_g,b2_o,b2_n,b2_c,b2_e,rfl,db0,db1,db2,hs2⟩;have hC2:=ac hC1 hs2;have da0:=da0.keeps hs2;have da1:=da1.keeps hs2;have da2:=da2.keeps hs2)|(go_at_call 23;refine(R0.out _).mono ?_;rintro _ y1 ⟨a0_g,a0_o,a0_n,a0_c,a0_e,a1_g,a1_o,a1_n,a1_c,a1_e,a2_g,a2_o,a2_n,a2_c,a2_e,rfl,da0,da1,da2,hs1⟩;have hC1:=ac hC0 hs1))
 go_wp2
 exact bodyPost_ret (v:=.agg #[.bool n_g,.slice n_o n_n n_c,.int .i64 n_e]) (by simp[results,results12,go_sem,e0,e1,e2]) rfl ⟨_,D,rfl,bw (d4.lower (Nat.le_trans hb0.size hC3.size)) rk _ _ _,cX (ac hb0 hC4) (by omega) _ _ _,e4.trans hX.out,b4⟩
end Go.Proofs.YtcklaogdjpbagaaGreatDoor
