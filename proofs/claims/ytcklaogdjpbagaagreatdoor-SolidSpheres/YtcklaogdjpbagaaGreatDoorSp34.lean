/-
  The document's exact numbers for chapter 12 (plumbref12): minus, row, minor, square, by their contracts.
-/
import Derived.Test.YtcklaogdjpbagaaGreatDoorSp21
import Derived.Test.YtcklaogdjpbagaaGreatDoorSp33
import Derived.Test.YtcklaogdjpbagaaGreatDoorSp19
set_option maxRecDepth 100000
set_option maxHeartbeats 8000000
set_option linter.unusedVariables false
set_option linter.unusedSimpArgs false
namespace Go.Proofs.YtcklaogdjpbagaaGreatDoor
open Go Go.RowKit Go.Proofs.YtcklaogdjpbagaaGreatDoor.M
theorem hH {B:Nat} {w:World} {x y:Value} {A C:Int} {K:Nat} (hx:bH B w A x) (hy:bH B w C y) (hB:B<=w.heap.size) (bA:Bd K A) (bC:Bd K C) (hK:K<=28000) :
  Calls Tryz.prog 34 #[x,y] w fun r w'=>∃ v,r=.returned v∧bH B w' (A+C) v∧Below w.heap.size w w':=by
 have CS:∀ W,Below w.heap.size w W->Calls Tryz.prog 63 #[x,y] W fun r w'=>∃ v,r=.returned v∧bH B w' (A+C) v∧Below W.heap.size W w':=fun W hW=>by
  have hx':=hx.keeps hW
  have hy':=hy.keeps hW
  refine(xD hx'.num hy'.num (K:=K) (by omega) bA bC).mono ?_
  rintro r w' ⟨v,rfl,h⟩
  refine⟨v,rfl,?_,h.1⟩
  rcases h.2 with h1|⟨h1,rfl⟩|⟨h1,rfl⟩
  ·exact h1.dan.lower (Nat.le_trans hB hW.size)
  ·rw[h1,Int.zero_add];exact hy'.keeps h.1
  ·rw[h1,Int.add_zero];exact hx'.keeps h.1
 obtain⟨p_g,p_o,p_n,p_c,p_e,rfl⟩:=hx.shape
 obtain⟨q_g,q_o,q_n,q_c,q_e,rfl⟩:=hy.shape
 clear hx hy bA bC
 have hb0:=df w (.cells #[.bool p_g,.slice p_o p_n p_c,.int .i64 p_e] 33) (.cells #[.bool q_g,.slice q_o q_n q_c,.int .i64 q_e] 33) (.cells #[.bool false,.slice none 0 0,.int .i64 0] 33)
 have r_k:=jw w (.cells #[.bool p_g,.slice p_o p_n p_c,.int .i64 p_e] 33) (.cells #[.bool q_g,.slice q_o q_n q_c,.int .i64 q_e] 33) (.cells #[.bool false,.slice none 0 0,.int .i64 0] 33)
 go_enter Tryz.func34,Tryz.ntmps34
 go_wp2_with fail
 generalize ((w.alloc (.cells #[.bool p_g,.slice p_o p_n p_c,.int .i64 p_e] 33)).alloc (.cells #[.bool q_g,.slice q_o q_n q_c,.int .i64 q_e] 33)).alloc (.cells #[.bool false,.slice none 0 0,.int .i64 0] 33)=x0 at r_k hb0 ⊢
 refine(CS _ hb0).mono ?_
 rintro _ y1 ⟨v,rfl,h1,hw⟩
 obtain⟨n_g,n_o,n_n,n_c,n_e,rfl⟩:=h1.shape
 have r_k:=(hw.block _ (aGe r_k).1).trans r_k
 have k0:=af r_k 0 rfl
 have z0:=av r_k 0
 have k1:=af r_k 1 rfl
 have z1:=av r_k 1
 have k2:=af r_k 2 rfl
 have z2:=av r_k 2
 go_wp2
 refine bodyPost_ret (v:=.agg #[.bool n_g,.slice n_o n_n n_c,.int .i64 n_e]) (by simp[results,Tryz.results34,go_sem,k0,k1,k2]) rfl ⟨_,rfl,bE h1 r_k _ _ _,dE (ac hb0 hw) (by omega) _ _ _⟩
theorem jJ {p q:Int} (rp:ax p) (rq:ax q) (pp:aF p=true) (pq:aF q=true) (w:World) :
  Calls Tryz.prog 49 #[.int .i64 p,.int .i64 q] w fun r w'=>∃ v,r=.returned v∧bH w.heap.size w' (aq p-aq q) v∧Below w.heap.size w w':=by
 have E1:Hid (∀ W,Calls Tryz.prog 80 #[.int .i64 p] W fun r w'=>∃ v,r=.returned v∧aX W w' (aq p) v):=fun W=>mN p W rp pp
 have E2:Hid (∀ W,Calls Tryz.prog 80 #[.int .i64 q] W fun r w'=>∃ v,r=.returned v∧aX W w' (aq q) v):=fun W=>mN q W rq pq
 have B1:=km pp
 have B2:=km pq
 clear rp rq pp pq
 have r_k:=aC w (.cells #[.bool false,.slice none 0 0,.int .i64 0] 33)
 have hb0:=ah w (.cells #[.bool false,.slice none 0 0,.int .i64 0] 33)
 go_enter Tryz.func49,Tryz.ntmps49
 go_wp2_with fail
 generalize w.alloc (.cells #[.bool false,.slice none 0 0,.int .i64 0] 33)=x0 at r_k hb0 ⊢
 refine(E1.out _).mono ?_
 rintro _ y1 ⟨v,rfl,h1⟩
 obtain⟨p_g,p_o,p_n,p_c,p_e,rfl⟩:=aT h1
 have hw1:=h1.below
 have p_D:=h1.dan.lower hb0.size
 replace r_k:=aw hw1 r_k
 replace hb0:=ac hb0 hw1
 go_wp2_with fail
 refine(E2.out _).mono ?_
 rintro _ y2 ⟨v,rfl,h2⟩
 obtain⟨q_g,q_o,q_n,q_c,q_e,rfl⟩:=aT h2
 have hw2:=h2.below
 have q_D:=h2.dan.lower hb0.size
 replace p_D:=p_D.keeps hw2
 replace r_k:=aw hw2 r_k
 replace hb0:=ac hb0 hw2
 go_wp2_with fail
 refine(iC p_D q_D hb0.size B1 B2 (by omega)).mono ?_
 rintro _ y3 ⟨v,rfl,h3,hw3⟩
 obtain⟨n_g,n_o,n_n,n_c,n_e,rfl⟩:=h3.shape
 replace r_k:=aw hw3 r_k
 replace hb0:=ac hb0 hw3
 have k0:=af r_k 0 rfl
 have z0:=av r_k 0
 have k1:=af r_k 1 rfl
 have z1:=av r_k 1
 have k2:=af r_k 2 rfl
 have z2:=av r_k 2
 go_wp2
 exact bodyPost_ret (v:=.agg #[.bool n_g,.slice n_o n_n n_c,.int .i64 n_e]) (by simp[results,Tryz.results49,go_sem,k0,k1,k2]) rfl ⟨_,rfl,bE h3 r_k _ _ _,dE hb0 (by omega) _ _ _⟩
theorem cL {B:Nat} {w W:World} {p:Addr} {v:Value} (h:w.cell? p=some v) (hb:Below B w W) (hp:p.block<B):W.cell? p=some v:=(hb.cell hp).trans h
theorem sW {B:Nat} {w W:World} (h:Below B w W) {g:Nat} (hg:B<=g) (x y z:Value):Below B w (((W.setCell ⟨g,0,none⟩ x).setCell ⟨g,1,none⟩ y).setCell ⟨g,2,none⟩ z) :=
 ((h.setCell (p:=⟨g,0,none⟩) hg x).setCell (p:=⟨g,1,none⟩) hg y).setCell (p:=⟨g,2,none⟩) hg z
theorem oC {s:Nat->Nat->Int} (i j:Nat) (hr:∀ i k,ax (s i k)) (hi:∀ k,k<3->aF (s i k)=true) (hj:∀ k,k<3->aF (s j k)=true) (w:World) :
  Calls Tryz.prog 23 #[.agg #[.int .i64 (s i 0),.int .i64 (s i 1),.int .i64 (s i 2)],.agg #[.int .i64 (s j 0),.int .i64 (s j 1),.int .i64 (s j 2)]] w fun r w'=>∃ n0_g n0_o n0_n n0_c n0_e n1_g n1_o n1_n n1_c n1_e n2_g n2_o n2_n n2_c n2_e,r=.returned (.agg #[.bool n0_g,.slice n0_o n0_n n0_c,.int .i64 n0_e,.bool n1_g,.slice n1_o n1_n n1_c,.int .i64 n1_e,.bool n2_g,.slice n2_o n2_n n2_c,.int .i64 n2_e])∧aR w' (.agg #[.bool n0_g,.slice n0_o n0_n n0_c,.int .i64 n0_e]) (aq (s i 0)-aq (s j 0))∧aR w' (.agg #[.bool n1_g,.slice n1_o n1_n n1_c,.int .i64 n1_e]) (aq (s i 1)-aq (s j 1))∧aR w' (.agg #[.bool n2_g,.slice n2_o n2_n n2_c,.int .i64 n2_e]) (aq (s i 2)-aq (s j 2))∧Below w.heap.size w w':=by
 have A0:Hid (∀ W,Calls Tryz.prog 49 #[.int .i64 (s i 0),.int .i64 (s j 0)] W fun r w'=>∃ v,r=.returned v∧bH W.heap.size w' (aq (s i 0)-aq (s j 0)) v∧Below W.heap.size W w'):=fun W=>jJ (hr _ _) (hr _ _) (hi _ (by decide)) (hj _ (by decide)) W
 have A1:Hid (∀ W,Calls Tryz.prog 49 #[.int .i64 (s i 1),.int .i64 (s j 1)] W fun r w'=>∃ v,r=.returned v∧bH W.heap.size w' (aq (s i 1)-aq (s j 1)) v∧Below W.heap.size W w'):=fun W=>jJ (hr _ _) (hr _ _) (hi _ (by decide)) (hj _ (by decide)) W
 have A2:Hid (∀ W,Calls Tryz.prog 49 #[.int .i64 (s i 2),.int .i64 (s j 2)] W fun r w'=>∃ v,r=.returned v∧bH W.heap.size w' (aq (s i 2)-aq (s j 2)) v∧Below W.heap.size W w'):=fun W=>jJ (hr _ _) (hr _ _) (hi _ (by decide)) (hj _ (by decide)) W
 clear hr hi hj
 generalize aq (s i 0)-aq (s j 0)=V0 at *
 generalize aq (s i 1)-aq (s j 1)=V1 at *
 generalize aq (s i 2)-aq (s j 2)=V2 at *
 generalize s i 0=p0 at *
 generalize s j 0=q0 at *
 generalize s i 1=p1 at *
 generalize s j 1=q1 at *
 generalize s i 2=p2 at *
 generalize s j 2=q2 at *
 obtain⟨hb0,a_k,b_k,o_k,hsz0⟩:=qG w (.cells #[.int .i64 p0,.int .i64 p1,.int .i64 p2] 23) (.cells #[.int .i64 q0,.int .i64 q1,.int .i64 q2] 23) (.cells #[.bool false,.slice none 0 0,.int .i64 0,.bool false,.slice none 0 0,.int .i64 0,.bool false,.slice none 0 0,.int .i64 0] 64)
 clear hsz0
 go_enter Tryz.func23,Tryz.ntmps23
 go_wp2_with fail
 generalize (((w.alloc (.cells #[.int .i64 p0,.int .i64 p1,.int .i64 p2] 23)).alloc (.cells #[.int .i64 q0,.int .i64 q1,.int .i64 q2] 23)).alloc (.cells #[.bool false,.slice none 0 0,.int .i64 0,.bool false,.slice none 0 0,.int .i64 0,.bool false,.slice none 0 0,.int .i64 0] 64))=x0 at hb0 a_k b_k o_k ⊢
 have hs0:=(aGe o_k).1
 have KK:∀ W,Below (w.heap.size+2) x0 W->W.cell? ⟨w.heap.size,0,none⟩=some (.int .i64 p0)∧W.cell? ⟨w.heap.size,1,none⟩=some (.int .i64 p1)∧W.cell? ⟨w.heap.size,2,none⟩=some (.int .i64 p2)∧W.cell? ⟨w.heap.size+1,0,none⟩=some (.int .i64 q0)∧W.cell? ⟨w.heap.size+1,1,none⟩=some (.int .i64 q1)∧W.cell? ⟨w.heap.size+1,2,none⟩=some (.int .i64 q2):=fun W hb=>⟨cL (af a_k 0 rfl) hb (show w.heap.size<w.heap.size+2 by omega),cL (af a_k 1 rfl) hb (show w.heap.size<w.heap.size+2 by omega),cL (af a_k 2 rfl) hb (show w.heap.size<w.heap.size+2 by omega),cL (af b_k 0 rfl) hb (show w.heap.size+1<w.heap.size+2 by omega),cL (af b_k 1 rfl) hb (show w.heap.size+1<w.heap.size+2 by omega),cL (af b_k 2 rfl) hb (show w.heap.size+1<w.heap.size+2 by omega)⟩
 have hlt:w.heap.size+2<=x0.heap.size:=by omega
 have hC0:=(ak x0).drew
 go_region_held3 (fun W=>W.cell? ⟨w.heap.size,0,none⟩=some (.int .i64 p0)∧W.cell? ⟨w.heap.size,1,none⟩=some (.int .i64 p1)∧W.cell? ⟨w.heap.size,2,none⟩=some (.int .i64 p2)∧W.cell? ⟨w.heap.size+1,0,none⟩=some (.int .i64 q0)∧W.cell? ⟨w.heap.size+1,1,none⟩=some (.int .i64 q1)∧W.cell? ⟨w.heap.size+1,2,none⟩=some (.int .i64 q2))
  (with_reducible first|assumption|exact KK _ (hC0.mono hlt)|exact KK _ (hC1.mono hlt)|exact KK _ (hC2.mono hlt)|exact KK _ (hC3.mono hlt)|exact KK _ ((((((((((hC3.mono hlt).setCell (p:=⟨w.heap.size+2,0,none⟩) (Nat.le_refl _) _).setCell (p:=⟨w.heap.size+2,1,none⟩) (Nat.le_refl _) _).setCell (p:=⟨w.heap.size+2,2,none⟩) (Nat.le_refl _) _).setCell (p:=⟨w.heap.size+2,3,none⟩) (Nat.le_refl _) _).setCell (p:=⟨w.heap.size+2,4,none⟩) (Nat.le_refl _) _).setCell (p:=⟨w.heap.size+2,5,none⟩) (Nat.le_refl _) _).setCell (p:=⟨w.heap.size+2,6,none⟩) (Nat.le_refl _) _).setCell (p:=⟨w.heap.size+2,7,none⟩) (Nat.le_refl _) _).setCell (p:=⟨w.heap.size+2,8,none⟩) (Nat.le_refl _) _)|fail)
  (first|(go_at_call 49;have _t:=hs2;refine(A2.out _).mono ?_;rintro _ y3 ⟨v,rfl,d2,hs3⟩;obtain⟨n2_g,n2_o,n2_n,n2_c,n2_e,rfl⟩:=d2.shape;have hC3:=ac hC2 hs3;have d0:=d0.keeps hs3;have d1:=d1.keeps hs3;have rk:=am hC3 o_k;have e0:=af rk 0 rfl;have z0:=av rk 0;have e1:=af rk 1 rfl;have z1:=av rk 1;have e2:=af rk 2 rfl;have z2:=av rk 2;have e3:=af rk 3 rfl;have z3:=av rk 3;have e4:=af rk 4 rfl;have z4:=av rk 4;have e5:=af rk 5 rfl;have z5:=av rk 5;have e6:=af rk 6 rfl;have z6:=av rk 6;have e7:=af rk 7 rfl;have z7:=av rk 7;have e8:=af rk 8 rfl;have z8:=av rk 8)|(go_at_call 49;have _t:=hs1;refine(A1.out _).mono ?_;rintro _ y2 ⟨v,rfl,d1,hs2⟩;obtain⟨n1_g,n1_o,n1_n,n1_c,n1_e,rfl⟩:=d1.shape;have hC2:=ac hC1 hs2;have d0:=d0.keeps hs2)|(go_at_call 49;refine(A0.out _).mono ?_;rintro _ y1 ⟨v,rfl,d0,hs1⟩;obtain⟨n0_g,n0_o,n0_n,n0_c,n0_e,rfl⟩:=d0.shape;have hC1:=ac hC0 hs1))
 go_wp2
 have hb3:=ac hb0 hC3
 exact bodyPost_ret (v:=.agg #[.bool n0_g,.slice n0_o n0_n n0_c,.int .i64 n0_e,.bool n1_g,.slice n1_o n1_n n1_c,.int .i64 n1_e,.bool n2_g,.slice n2_o n2_n n2_c,.int .i64 n2_e]) (by simp[results,Tryz.results23,go_sem,e0,e1,e2,e3,e4,e5,e6,e7,e8]) rfl ⟨_,_,_,_,_,_,_,_,_,_,_,_,_,_,_,rfl,(ct (ct (ct (ct (ct (ct (ct (ct (ct (d0) (rk) (by decide) 0 _) (ap (rk) 0 _) (by decide) 1 _) (ap (ap (rk) 0 _) 1 _) (by decide) 2 _) (ap (ap (ap (rk) 0 _) 1 _) 2 _) (by decide) 3 _) (ap (ap (ap (ap (rk) 0 _) 1 _) 2 _) 3 _) (by decide) 4 _) (ap (ap (ap (ap (ap (rk) 0 _) 1 _) 2 _) 3 _) 4 _) (by decide) 5 _) (ap (ap (ap (ap (ap (ap (rk) 0 _) 1 _) 2 _) 3 _) 4 _) 5 _) (by decide) 6 _) (ap (ap (ap (ap (ap (ap (ap (rk) 0 _) 1 _) 2 _) 3 _) 4 _) 5 _) 6 _) (by decide) 7 _) (ap (ap (ap (ap (ap (ap (ap (ap (rk) 0 _) 1 _) 2 _) 3 _) 4 _) 5 _) 6 _) 7 _) (by decide) 8 _).num,(ct (ct (ct (ct (ct (ct (ct (ct (ct (d1) (rk) (by decide) 0 _) (ap (rk) 0 _) (by decide) 1 _) (ap (ap (rk) 0 _) 1 _) (by decide) 2 _) (ap (ap (ap (rk) 0 _) 1 _) 2 _) (by decide) 3 _) (ap (ap (ap (ap (rk) 0 _) 1 _) 2 _) 3 _) (by decide) 4 _) (ap (ap (ap (ap (ap (rk) 0 _) 1 _) 2 _) 3 _) 4 _) (by decide) 5 _) (ap (ap (ap (ap (ap (ap (rk) 0 _) 1 _) 2 _) 3 _) 4 _) 5 _) (by decide) 6 _) (ap (ap (ap (ap (ap (ap (ap (rk) 0 _) 1 _) 2 _) 3 _) 4 _) 5 _) 6 _) (by decide) 7 _) (ap (ap (ap (ap (ap (ap (ap (ap (rk) 0 _) 1 _) 2 _) 3 _) 4 _) 5 _) 6 _) 7 _) (by decide) 8 _).num,(ct (ct (ct (ct (ct (ct (ct (ct (ct (d2) (rk) (by decide) 0 _) (ap (rk) 0 _) (by decide) 1 _) (ap (ap (rk) 0 _) 1 _) (by decide) 2 _) (ap (ap (ap (rk) 0 _) 1 _) 2 _) (by decide) 3 _) (ap (ap (ap (ap (rk) 0 _) 1 _) 2 _) 3 _) (by decide) 4 _) (ap (ap (ap (ap (ap (rk) 0 _) 1 _) 2 _) 3 _) 4 _) (by decide) 5 _) (ap (ap (ap (ap (ap (ap (rk) 0 _) 1 _) 2 _) 3 _) 4 _) 5 _) (by decide) 6 _) (ap (ap (ap (ap (ap (ap (ap (rk) 0 _) 1 _) 2 _) 3 _) 4 _) 5 _) 6 _) (by decide) 7 _) (ap (ap (ap (ap (ap (ap (ap (ap (rk) 0 _) 1 _) 2 _) 3 _) 4 _) 5 _) 6 _) 7 _) (by decide) 8 _).num,(((((((((hb3).setCell (p:=⟨w.heap.size+2,0,none⟩) (show w.heap.size<=w.heap.size+2 by omega) _).setCell (p:=⟨w.heap.size+2,1,none⟩) (show w.heap.size<=w.heap.size+2 by omega) _).setCell (p:=⟨w.heap.size+2,2,none⟩) (show w.heap.size<=w.heap.size+2 by omega) _).setCell (p:=⟨w.heap.size+2,3,none⟩) (show w.heap.size<=w.heap.size+2 by omega) _).setCell (p:=⟨w.heap.size+2,4,none⟩) (show w.heap.size<=w.heap.size+2 by omega) _).setCell (p:=⟨w.heap.size+2,5,none⟩) (show w.heap.size<=w.heap.size+2 by omega) _).setCell (p:=⟨w.heap.size+2,6,none⟩) (show w.heap.size<=w.heap.size+2 by omega) _).setCell (p:=⟨w.heap.size+2,7,none⟩) (show w.heap.size<=w.heap.size+2 by omega) _).setCell (p:=⟨w.heap.size+2,8,none⟩) (show w.heap.size<=w.heap.size+2 by omega) _⟩
theorem nt {w:World} {a0_g:Bool} {a0_o:Option Addr} {a0_n a0_c:Nat} {a0_e:Int} {a1_g:Bool} {a1_o:Option Addr} {a1_n a1_c:Nat} {a1_e:Int} {a2_g:Bool} {a2_o:Option Addr} {a2_n a2_c:Nat} {a2_e:Int} {b0_g:Bool} {b0_o:Option Addr} {b0_n b0_c:Nat} {b0_e:Int} {b1_g:Bool} {b1_o:Option Addr} {b1_n b1_c:Nat} {b1_e:Int} {b2_g:Bool} {b2_o:Option Addr} {b2_n b2_c:Nat} {b2_e:Int} {A0 A1 B0 B1:Int} {K:Nat} (h0:aR w (.agg #[.bool a0_g,.slice a0_o a0_n a0_c,.int .i64 a0_e]) A0) (h1:aR w (.agg #[.bool a1_g,.slice a1_o a1_n a1_c,.int .i64 a1_e]) A1) (k0:aR w (.agg #[.bool b0_g,.slice b0_o b0_n b0_c,.int .i64 b0_e]) B0) (k1:aR w (.agg #[.bool b1_g,.slice b1_o b1_n b1_c,.int .i64 b1_e]) B1) (b0:Bd K A0) (b1:Bd K A1) (c0:Bd K B0) (c1:Bd K B1) (hK:K<=9000) :
  Calls Tryz.prog 48 #[.agg #[.bool a0_g,.slice a0_o a0_n a0_c,.int .i64 a0_e,.bool a1_g,.slice a1_o a1_n a1_c,.int .i64 a1_e,.bool a2_g,.slice a2_o a2_n a2_c,.int .i64 a2_e],.agg #[.bool b0_g,.slice b0_o b0_n b0_c,.int .i64 b0_e,.bool b1_g,.slice b1_o b1_n b1_c,.int .i64 b1_e,.bool b2_g,.slice b2_o b2_n b2_c,.int .i64 b2_e]] w fun r w'=>∃ v V,r=.returned v∧bH w.heap.size w' V v∧Below w.heap.size w w'∧V*2^4194304=A0*B1-B0*A1∧Bd (2*K+1) V:=by
 have M1:Hid (∀ W,Below w.heap.size w W->Calls Tryz.prog 32 #[.agg #[.bool a0_g,.slice a0_o a0_n a0_c,.int .i64 a0_e],.agg #[.bool b1_g,.slice b1_o b1_n b1_c,.int .i64 b1_e]] W fun r w'=>∃ v V,r=.returned v∧aX W w' V v∧V*2^4194304=A0*B1∧Bd (2*K) V):=fun W hW=>cV (h0.keeps hW) (k1.keeps hW) b0 c1 (by omega)
 have M2:Hid (∀ W,Below w.heap.size w W->Calls Tryz.prog 32 #[.agg #[.bool b0_g,.slice b0_o b0_n b0_c,.int .i64 b0_e],.agg #[.bool a1_g,.slice a1_o a1_n a1_c,.int .i64 a1_e]] W fun r w'=>∃ v V,r=.returned v∧aX W w' V v∧V*2^4194304=B0*A1∧Bd (2*K) V):=fun W hW=>cV (k0.keeps hW) (h1.keeps hW) c0 b1 (by omega)
 have hK2:Hid (2*K<=28000):=(by omega:2*K<=28000)
 have hK3:Hid (2*K<4194304):=(by omega:2*K<4194304)
 clear h0 h1 k0 k1 b0 b1 c0 c1 hK
 obtain⟨hb0,a_k,b_k,o_k,hsz0⟩:=qG w (.cells #[.bool a0_g,.slice a0_o a0_n a0_c,.int .i64 a0_e,.bool a1_g,.slice a1_o a1_n a1_c,.int .i64 a1_e,.bool a2_g,.slice a2_o a2_n a2_c,.int .i64 a2_e] 64) (.cells #[.bool b0_g,.slice b0_o b0_n b0_c,.int .i64 b0_e,.bool b1_g,.slice b1_o b1_n b1_c,.int .i64 b1_e,.bool b2_g,.slice b2_o b2_n b2_c,.int .i64 b2_e] 64) (.cells #[.bool false,.slice none 0 0,.int .i64 0] 33)
 clear hsz0
 go_enter Tryz.func48,Tryz.ntmps48
 go_wp2_with fail
 generalize (((w.alloc (.cells #[.bool a0_g,.slice a0_o a0_n a0_c,.int .i64 a0_e,.bool a1_g,.slice a1_o a1_n a1_c,.int .i64 a1_e,.bool a2_g,.slice a2_o a2_n a2_c,.int .i64 a2_e] 64)).alloc (.cells #[.bool b0_g,.slice b0_o b0_n b0_c,.int .i64 b0_e,.bool b1_g,.slice b1_o b1_n b1_c,.int .i64 b1_e,.bool b2_g,.slice b2_o b2_n b2_c,.int .i64 b2_e] 64)).alloc (.cells #[.bool false,.slice none 0 0,.int .i64 0] 33))=x0 at hb0 a_k b_k o_k ⊢
 have hs0:=(aGe o_k).1
 have hlt:w.heap.size+2<=x0.heap.size:=by omega
 have KK:∀ W,Below (w.heap.size+2) x0 W->W.cell? ⟨w.heap.size,0,none⟩=some (.bool a0_g)∧W.cell? ⟨w.heap.size,1,none⟩=some (.slice a0_o a0_n a0_c)∧W.cell? ⟨w.heap.size,2,none⟩=some (.int .i64 a0_e)∧W.cell? ⟨w.heap.size,3,none⟩=some (.bool a1_g)∧W.cell? ⟨w.heap.size,4,none⟩=some (.slice a1_o a1_n a1_c)∧W.cell? ⟨w.heap.size,5,none⟩=some (.int .i64 a1_e)∧W.cell? ⟨w.heap.size+1,0,none⟩=some (.bool b0_g)∧W.cell? ⟨w.heap.size+1,1,none⟩=some (.slice b0_o b0_n b0_c)∧W.cell? ⟨w.heap.size+1,2,none⟩=some (.int .i64 b0_e)∧W.cell? ⟨w.heap.size+1,3,none⟩=some (.bool b1_g)∧W.cell? ⟨w.heap.size+1,4,none⟩=some (.slice b1_o b1_n b1_c)∧W.cell? ⟨w.heap.size+1,5,none⟩=some (.int .i64 b1_e):=fun W hb=>⟨cL (af a_k 0 rfl) hb (show w.heap.size<w.heap.size+2 by omega),cL (af a_k 1 rfl) hb (show w.heap.size<w.heap.size+2 by omega),cL (af a_k 2 rfl) hb (show w.heap.size<w.heap.size+2 by omega),cL (af a_k 3 rfl) hb (show w.heap.size<w.heap.size+2 by omega),cL (af a_k 4 rfl) hb (show w.heap.size<w.heap.size+2 by omega),cL (af a_k 5 rfl) hb (show w.heap.size<w.heap.size+2 by omega),cL (af b_k 0 rfl) hb (show w.heap.size+1<w.heap.size+2 by omega),cL (af b_k 1 rfl) hb (show w.heap.size+1<w.heap.size+2 by omega),cL (af b_k 2 rfl) hb (show w.heap.size+1<w.heap.size+2 by omega),cL (af b_k 3 rfl) hb (show w.heap.size+1<w.heap.size+2 by omega),cL (af b_k 4 rfl) hb (show w.heap.size+1<w.heap.size+2 by omega),cL (af b_k 5 rfl) hb (show w.heap.size+1<w.heap.size+2 by omega)⟩
 have hC0:=(ak x0).drew
 go_region_held3 (fun W=>W.cell? ⟨w.heap.size,0,none⟩=some (.bool a0_g)∧W.cell? ⟨w.heap.size,1,none⟩=some (.slice a0_o a0_n a0_c)∧W.cell? ⟨w.heap.size,2,none⟩=some (.int .i64 a0_e)∧W.cell? ⟨w.heap.size,3,none⟩=some (.bool a1_g)∧W.cell? ⟨w.heap.size,4,none⟩=some (.slice a1_o a1_n a1_c)∧W.cell? ⟨w.heap.size,5,none⟩=some (.int .i64 a1_e)∧W.cell? ⟨w.heap.size+1,0,none⟩=some (.bool b0_g)∧W.cell? ⟨w.heap.size+1,1,none⟩=some (.slice b0_o b0_n b0_c)∧W.cell? ⟨w.heap.size+1,2,none⟩=some (.int .i64 b0_e)∧W.cell? ⟨w.heap.size+1,3,none⟩=some (.bool b1_g)∧W.cell? ⟨w.heap.size+1,4,none⟩=some (.slice b1_o b1_n b1_c)∧W.cell? ⟨w.heap.size+1,5,none⟩=some (.int .i64 b1_e))
  (with_reducible first|assumption|exact KK _ (hC0.mono hlt)|exact KK _ (hC1.mono hlt)|exact KK _ (hC2.mono hlt)|exact KK _ (hC3.mono hlt)|exact KK _ (sW (hC3.mono hlt) (Nat.le_refl _) _ _ _)|fail)
  (first|(go_at_call 31;refine(iC l_A m_A (Nat.le_trans hb0.size hC2.size) l_B m_B hK2.out).mono ?_;rintro _ y3 ⟨v,rfl,d3,hs3⟩;obtain⟨n_g,n_o,n_n,n_c,n_e,rfl⟩:=d3.shape;have hC3:=ac hC2 hs3;have rk:=am hC3 o_k;have e0:=af rk 0 rfl;have z0:=av rk 0;have e1:=af rk 1 rfl;have z1:=av rk 1;have e2:=af rk 2 rfl;have z2:=av rk 2)|(go_at_call 32;have _t:=hs1;refine(M2.out _ (ac hb0 hC1)).mono ?_;rintro _ y2 ⟨v,m_V,rfl,d2,m_E,m_B⟩;obtain⟨m_g,m_o,m_n,m_c,m_e,rfl⟩:=aT d2;have hs2:=d2.below;have hC2:=ac hC1 hs2;have m_A:=d2.dan.lower (Nat.le_trans hb0.size hC1.size);have l_A:=l_A.keeps hs2)|(go_at_call 32;refine(M1.out _ (ac hb0 hC0)).mono ?_;rintro _ y1 ⟨v,l_V,rfl,d1,l_E,l_B⟩;obtain⟨l_g,l_o,l_n,l_c,l_e,rfl⟩:=aT d1;have hs1:=d1.below;have hC1:=ac hC0 hs1;have l_A:=d1.dan.lower (Nat.le_trans hb0.size hC0.size)))
 go_wp2
 exact bodyPost_ret (v:=.agg #[.bool n_g,.slice n_o n_n n_c,.int .i64 n_e]) (by simp[results,Tryz.results48,go_sem,e0,e1,e2]) rfl ⟨_,l_V-m_V,rfl,bE d3 rk _ _ _,dE (ac hb0 hC3) (by omega) _ _ _,by rw[Int.sub_mul,l_E,m_E],l_B.sub m_B hK3.out⟩
end Go.Proofs.YtcklaogdjpbagaaGreatDoor
