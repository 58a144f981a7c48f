/- Parts of the proof. -/
import Derived.Test.YtcklaogdjpbagaaGreatDoorPart14
import Derived.Test.YtcklaogdjpbagaaGreatDoorPart16
import Derived.Test.YtcklaogdjpbagaaGreatDoorPart15
import Derived.Test.YtcklaogdjpbagaaGreatDoorPart13
import Derived.Test.YtcklaogdjpbagaaGreatDoorPart6
import Derived.Test.YtcklaogdjpbagaaGreatDoorPart12
import Derived.Test.YtcklaogdjpbagaaGreatDoorPart11
import Derived.Deep.RegionHeld3
set_option maxRecDepth 100000
set_option maxHeartbeats 8000000
set_option linter.unusedVariables false
set_option linter.unusedSimpArgs false
namespace Go.Proofs.YtcklaogdjpbagaaGreatDoor
open Go Go.Proofs.Tryz Go.RowKit Go.Proofs.YtcklaogdjpbagaaGreatDoor.M
theorem ya (V:Nat->Nat->Int) (p q r:Nat):V p 2*(V q 0*V r 1-V r 0*V q 1)+V q 2*(V r 0*V p 1-V p 0*V r 1)+V r 2*(V p 0*V q 1-V q 0*V p 1)=dX V p q r:=by
 unfold dX mX
 grind
theorem sv {w:World} {arr:Array Value} {V:Nat->Nat->Int} {R:Nat->Nat->aA} (hA:iM w arr V R) (hB:∀ p,p<4->∀ k,k<3->Bd 1075 (V p k)) (hT:dU w) :
  Calls prog 37 #[.agg arr] w fun r w'=>∃ v D,r=.returned v∧aR w w' D v∧D*2^4194304*2^4194304=dX V 0 1 2∧Bd 4307 D:=by
 have CD:Hid (∀ W,Below w.heap.size w W->Calls prog 69 #[.agg #[.bool (R 0 0).ng,.slice (R 0 0).ao (R 0 0).n (R 0 0).cap,.int .i64 (R 0 0).e,.bool (R 0 1).ng,.slice (R 0 1).ao (R 0 1).n (R 0 1).cap,.int .i64 (R 0 1).e,.bool (R 0 2).ng,.slice (R 0 2).ao (R 0 2).n (R 0 2).cap,.int .i64 (R 0 2).e],.agg #[.bool (R 1 0).ng,.slice (R 1 0).ao (R 1 0).n (R 1 0).cap,.int .i64 (R 1 0).e,.bool (R 1 1).ng,.slice (R 1 1).ao (R 1 1).n (R 1 1).cap,.int .i64 (R 1 1).e,.bool (R 1 2).ng,.slice (R 1 2).ao (R 1 2).n (R 1 2).cap,.int .i64 (R 1 2).e],.agg #[.bool (R 2 0).ng,.slice (R 2 0).ao (R 2 0).n (R 2 0).cap,.int .i64 (R 2 0).e,.bool (R 2 1).ng,.slice (R 2 1).ao (R 2 1).n (R 2 1).cap,.int .i64 (R 2 1).e,.bool (R 2 2).ng,.slice (R 2 2).ao (R 2 2).n (R 2 2).cap,.int .i64 (R 2 2).e]] W fun r w'=>∃ v D,r=.returned v∧aR W w' D v∧D*2^4194304*2^4194304=dX V 0 1 2∧Bd (2*2152+3) D):=fun W hW=>by
  have:=ut ((hA.e 0 (by decide) 0 (by decide)).2.2.2.num.keeps hW) (hB 0 (by decide) 0 (by decide)) ((hA.e 0 (by decide) 1 (by decide)).2.2.2.num.keeps hW) (hB 0 (by decide) 1 (by decide)) ((hA.e 0 (by decide) 2 (by decide)).2.2.2.num.keeps hW) (hB 0 (by decide) 2 (by decide)) ((hA.e 1 (by decide) 0 (by decide)).2.2.2.num.keeps hW) (hB 1 (by decide) 0 (by decide)) ((hA.e 1 (by decide) 1 (by decide)).2.2.2.num.keeps hW) (hB 1 (by decide) 1 (by decide)) ((hA.e 1 (by decide) 2 (by decide)).2.2.2.num.keeps hW) (hB 1 (by decide) 2 (by decide)) ((hA.e 2 (by decide) 0 (by decide)).2.2.2.num.keeps hW) (hB 2 (by decide) 0 (by decide)) ((hA.e 2 (by decide) 1 (by decide)).2.2.2.num.keeps hW) (hB 2 (by decide) 1 (by decide)) ((hA.e 2 (by decide) 2 (by decide)).2.2.2.num.keeps hW) (hB 2 (by decide) 2 (by decide)) (hT.keeps hW)
  rw[ya V 0 1 2] at this
  exact this
 have b_k:=cl w (.cells arr 88) (.cells #[.bool false,.slice none 0 0,.int .i64 0] 33)
 have r_k:=bR w (.cells arr 88) (.cells #[.bool false,.slice none 0 0,.int .i64 0] 33)
 have hb0:=aL w (.cells arr 88) (.cells #[.bool false,.slice none 0 0,.int .i64 0] 33)
 have c0:=ac b_k 0 (hA.e 0 (by decide) 0 (by decide)).1
 have c1:=ac b_k 1 (hA.e 0 (by decide) 0 (by decide)).2.1
 have c2:=ac b_k 2 (hA.e 0 (by decide) 0 (by decide)).2.2.1
 have c3:=ac b_k 3 (hA.e 0 (by decide) 1 (by decide)).1
 have c4:=ac b_k 4 (hA.e 0 (by decide) 1 (by decide)).2.1
 have c5:=ac b_k 5 (hA.e 0 (by decide) 1 (by decide)).2.2.1
 have c6:=ac b_k 6 (hA.e 0 (by decide) 2 (by decide)).1
 have c7:=ac b_k 7 (hA.e 0 (by decide) 2 (by decide)).2.1
 have c8:=ac b_k 8 (hA.e 0 (by decide) 2 (by decide)).2.2.1
 have c9:=ac b_k 9 (hA.e 1 (by decide) 0 (by decide)).1
 have c10:=ac b_k 10 (hA.e 1 (by decide) 0 (by decide)).2.1
 have c11:=ac b_k 11 (hA.e 1 (by decide) 0 (by decide)).2.2.1
 have c12:=ac b_k 12 (hA.e 1 (by decide) 1 (by decide)).1
 have c13:=ac b_k 13 (hA.e 1 (by decide) 1 (by decide)).2.1
 have c14:=ac b_k 14 (hA.e 1 (by decide) 1 (by decide)).2.2.1
 have c15:=ac b_k 15 (hA.e 1 (by decide) 2 (by decide)).1
 have c16:=ac b_k 16 (hA.e 1 (by decide) 2 (by decide)).2.1
 have c17:=ac b_k 17 (hA.e 1 (by decide) 2 (by decide)).2.2.1
 have c18:=ac b_k 18 (hA.e 2 (by decide) 0 (by decide)).1
 have c19:=ac b_k 19 (hA.e 2 (by decide) 0 (by decide)).2.1
 have c20:=ac b_k 20 (hA.e 2 (by decide) 0 (by decide)).2.2.1
 have c21:=ac b_k 21 (hA.e 2 (by decide) 1 (by decide)).1
 have c22:=ac b_k 22 (hA.e 2 (by decide) 1 (by decide)).2.1
 have c23:=ac b_k 23 (hA.e 2 (by decide) 1 (by decide)).2.2.1
 have c24:=ac b_k 24 (hA.e 2 (by decide) 2 (by decide)).1
 have c25:=ac b_k 25 (hA.e 2 (by decide) 2 (by decide)).2.1
 have c26:=ac b_k 26 (hA.e 2 (by decide) 2 (by decide)).2.2.1
 have hi:(prog.info? 88).map (·.size)=some arr.size:=by rw[hA.n];kernel_rfl
 clear hA hB hT
 go_enter func37,ntmps37
 go_wp2_with fail
 clear c0 c1 c2 c3 c4 c5 c6 c7 c8 c9 c10 c11 c12 c13 c14 c15 c16 c17 c18 c19 c20 c21 c22 c23 c24 c25 c26
 generalize (w.alloc (.cells arr 88)).alloc (.cells #[.bool false,.slice none 0 0,.int .i64 0] 33)=x0 at hb0 b_k r_k ⊢
 have hs0:=(aGe r_k).1
 refine(CD.out _ hb0).mono ?_
 rintro _ y1 ⟨v,D,rfl,hd,he,hbd⟩
 obtain⟨n_g,n_o,n_n,n_c,n_e,rfl⟩:=a6 hd
 have r_k:=ak hd.below r_k
 have k0:=ac r_k 0 rfl
 have k1:=ac r_k 1 rfl
 have k2:=ac r_k 2 rfl
 have z0:=aq r_k 0
 have z1:=aq r_k 1
 have z2:=aq r_k 2
 go_wp2
 refine bodyPost_ret (v:=.agg #[.bool n_g,.slice n_o n_n n_c,.int .i64 n_e]) (by simp[results,results37,go_sem,k0,k1,k2]) rfl ⟨_,D,rfl,?_,he,hbd⟩
 exact bD (g:=w.heap.size+1) hd hb0 (by omega) hs0 _ _ _
structure ml (W:World) (arr:Array Value) (X:Nat->Int) (n:Nat) (Y:Nat->aA):Prop where
 len:arr.size=12
 e:∀ i,i<4->arr[i*3]?=some (.bool (Y i).ng)∧arr[i*3+1]?=some (.slice (Y i).ao (Y i).n (Y i).cap)∧arr[i*3+2]?=some (.int .i64 (Y i).e)∧bJ 0 W (if i<n then X i else 0) (Y i).v
theorem ml.keeps {W W':World} {arr:Array Value} {X:Nat->Int} {n:Nat} {Y:Nat->aA} (h:ml W arr X n Y) (hb:Below W.heap.size W W'):ml W' arr X n Y :=
 ⟨h.len,fun i hi=>by obtain⟨a,b,c,d⟩:=h.e i hi;exact⟨a,b,c,d.keeps hb⟩⟩
theorem pC {B:Nat} {W:World} {U:Int} {v:Value} (hd:bJ B W U v) {g:Nat} {xs:Array Value} {t:TypeId} {z:Nat × Nat} (hg:W.heap[g]?=some (.cells xs t z)) (ht:t≠3) (o0 o1 o2:Nat) (x y u:Value):bJ B (((W.setCell ⟨g,o0,none⟩ x).setCell ⟨g,o1,none⟩ y).setCell ⟨g,o2,none⟩ u) U v :=
 hd.of_blocks fun k cur z' hk=>by
  have hne:k≠g:=fun e=>by
   subst e
   rw[hg] at hk
   simp only[Option.some.injEq,Obj.cells.injEq] at hk
   exact ht hk.2.1
  exact(nN W g _ _ _ _ _ _).block k (aGe hk).1 hne
theorem ml.other {W:World} {arr:Array Value} {X:Nat->Int} {n:Nat} {Y:Nat->aA} (h:ml W arr X n Y) {g:Nat} {xs:Array Value} {t:TypeId} {z:Nat × Nat} (hg:W.heap[g]?=some (.cells xs t z)) (ht:t≠3) (o0 o1 o2:Nat) (x y u:Value):ml (((W.setCell ⟨g,o0,none⟩ x).setCell ⟨g,o1,none⟩ y).setCell ⟨g,o2,none⟩ u) arr X n Y :=
 ⟨h.len,fun i hi=>by obtain⟨a,b,c,d⟩:=h.e i hi;exact⟨a,b,c,pC d hg ht _ _ _ _ _ _⟩⟩
theorem ml.put {W:World} {arr:Array Value} {X X':Nat->Int} {i m:Nat} {Y:Nat->aA} (h:ml W arr X m Y) (i4:i<4) (hX:∀ j,j<4->j≠i->(if j<m then X j else 0)=(if j<i+1 then X' j else 0)) {g:Nat} {xs:Array Value} {z:Nat × Nat} (hg:W.heap[g]?=some (.cells xs 126 z)) (x:aA) (hx:bJ 0 W (X' i) x.v) :
  ml (((W.setCell ⟨g,i*3,none⟩ (.bool x.ng)).setCell ⟨g,i*3+1,none⟩ (.slice x.ao x.n x.cap)).setCell ⟨g,i*3+2,none⟩ (.int .i64 x.e)) (((arr.setIfInBounds (i*3) (.bool x.ng)).setIfInBounds (i*3+1) (.slice x.ao x.n x.cap)).setIfInBounds (i*3+2) (.int .i64 x.e)) X' (i+1) (fun j=>if j=i then x else Y j):=by
 have hn:=h.len
 have gg:∀ q,(((arr.setIfInBounds (i*3) (.bool x.ng)).setIfInBounds (i*3+1) (.slice x.ao x.n x.cap)).setIfInBounds (i*3+2) (.int .i64 x.e))[q]?=if i*3+2=q then some (.int .i64 x.e) else if i*3+1=q then some (.slice x.ao x.n x.cap) else if i*3=q then some (.bool x.ng) else arr[q]?:=fun q=>by
  rw[ei _ _ _ _ (by simp only[Array.size_setIfInBounds];omega),ei _ _ _ _ (by simp only[Array.size_setIfInBounds];omega),ei _ _ _ _ (by omega)]
 refine⟨by simp only[Array.size_setIfInBounds];exact hn,fun j hj=>?_⟩
 by_cases e:j=i
 ·subst e
  refine⟨?_,?_,?_,?_⟩
  ·rw[gg,if_neg (by omega),if_neg (by omega),if_pos rfl,if_pos rfl]
  ·rw[gg,if_neg (by omega),if_pos rfl,if_pos rfl]
  ·rw[gg,if_pos rfl,if_pos rfl]
  ·rw[if_pos (by omega),if_pos rfl]
   exact pC hx hg (by decide) _ _ _ _ _ _
 ·obtain⟨a,b,c,d⟩:=h.e j hj
  refine⟨?_,?_,?_,?_⟩
  ·rw[gg,if_neg (by omega),if_neg (by omega),if_neg (by omega),if_neg e];exact a
  ·rw[gg,if_neg (by omega),if_neg (by omega),if_neg (by omega),if_neg e];exact b
  ·rw[gg,if_neg (by omega),if_neg (by omega),if_neg (by omega),if_neg e];exact c
  ·rw[if_neg e,<- hX j hj e]
   exact pC d hg (by decide) _ _ _ _ _ _
def f4 (a b c d:Int) (i:Nat):Int:=if i=0 then a else if i=1 then b else if i=2 then c else d
theorem wR {x:aA} (ok:cQ x=true):x.opp.V=-x.V∧Dy x.opp.V x.opp.ng (val x.opp.d x.opp.n) x.opp.e:=by
 have hy:=(im ok).1
 have hN:=(cd ok).1
 by_cases h0:x.n=0
 ·have hv:val x.d x.n=0:=by rw[h0];rfl
  have e:x.opp=x:=by unfold aA.opp;rw[if_pos h0]
  rw[e]
  have:=hy.eq_zero.2 hv
  exact⟨by omega,hy⟩
 ·have hp:=eJ hN (show 0<x.n by omega)
  have e:x.opp=⟨!x.ng,x.ao,x.n,x.cap,x.d,x.e⟩:=by unfold aA.opp;rw[if_neg h0]
  rw[e]
  have h1:=hy.neg hp
  have hV:aA.V ⟨!x.ng,x.ao,x.n,x.cap,x.d,x.e⟩=-x.V:=h1.val.symm
  rw[hV]
  exact⟨rfl,h1⟩
theorem gU.shape {w w':World} {A B:Int} {x y:aA} {v:Value} (h:gU w w' A B x.v y.v v):∃ ng so sn sc e,v=.agg #[.bool ng,.slice so sn sc,.int .i64 e]:=by
 rcases h.2 with⟨ng,s,m,e,rfl,_,hA⟩|⟨_,rfl⟩|⟨_,rfl⟩
 ·obtain⟨so,sn,sc,rfl⟩:=hA.num.shape
  exact⟨_,_,_,_,_,rfl⟩
 ·exact⟨_,_,_,_,_,rfl⟩
 ·exact⟨_,_,_,_,_,rfl⟩
theorem v8 {w W w3:World} {A B:Int} {x y v:Value} (hv:gU W w3 A B x y v) (hb:Below w.heap.size w W) {g:Nat} (h0:w.heap.size<=g) (h1:g<W.heap.size) (a b c:Value) :
  gU w (((w3.setCell ⟨g,0,none⟩ a).setCell ⟨g,1,none⟩ b).setCell ⟨g,2,none⟩ c) A B x y v:=by
 refine⟨di (af hb hv.1) h0 _ _ _,?_⟩
 rcases hv.2 with h|h|h
 ·exact .inl (bD h hb h0 h1 a b c)
 ·exact .inr (.inl h)
 ·exact .inr (.inr h)
theorem uv (x y:aA) (w:World) (hx:aE w x.ao x.n x.cap x.d) (hy:aE w y.ao y.n y.cap y.d) (ox:cQ x=true) (oy:cQ y=true) {K:Nat} (hK:K<=560000) (bx:Bd K x.V) (bY:Bd K y.V) :
  Calls prog 61 #[x.v,y.v] w fun r w'=>∃ v,r=.returned v∧gU w w' x.V (-y.V) x.v y.opp.v v:=by
 obtain⟨e1,e2⟩:=wR oy
 have hop:=fun W=>nO y W (by have:=hy.le;have:=hy.max;omega)
 have C2:∀ W,Below w.heap.size w W->Calls prog 63 #[x.v,y.opp.v] W fun r w'=>∃ ng so sn sc e,r=.returned (.agg #[.bool ng,.slice so sn sc,.int .i64 e])∧gU W w' x.V (-y.V) x.v y.opp.v (.agg #[.bool ng,.slice so sn sc,.int .i64 e])∧Below W.heap.size W w':=fun W hb=>by
  refine(nS x y.opp W (hx.keeps hb) (hy.keeps hb) (im ox).1 (cd ox).1 e2 (cd oy).1 hK bx (by rw[e1];exact bY.neg)).mono ?_
  rintro r w' ⟨v,rfl,h⟩
  rw[e1] at h
  obtain⟨ng,so,sn,sc,e,rfl⟩:=h.shape
  exact⟨_,_,_,_,_,rfl,h,h.1⟩
 have hmy:=hy.max
 have hly:=hy.le
 obtain⟨VV,hVV⟩:∃ V,V=x.V:=⟨_,rfl⟩
 obtain⟨UU,hUU⟩:∃ V,V=-y.V:=⟨_,rfl⟩
 rw[<- hVV,<- hUU] at C2 ⊢
 clear e1 e2 bx bY hVV hUU ox oy
 unfold aA.opp at *
 obtain⟨on,hon⟩:∃ V,V=(if y.n=0 then y.ng else !y.ng):=⟨_,rfl⟩
 rw[<- hon] at hop C2 ⊢
 clear hon
 obtain⟨an,ao,n,ca,a,e⟩:=x
 obtain⟨bn,bo,m,cb,b,f⟩:=y
 unfold aA.v at *
 simp only at *
 have hb3:Below w.heap.size w (((w.alloc (.cells #[.bool an,.slice ao n ca,.int .i64 e] 33)).alloc (.cells #[.bool bn,.slice bo m cb,.int .i64 f] 33)).alloc (.cells #[.bool false,.slice none 0 0,.int .i64 0] 33)):=cB _ _ _ _
 have g0:=kh w (.cells #[.bool an,.slice ao n ca,.int .i64 e] 33) (.cells #[.bool bn,.slice bo m cb,.int .i64 f] 33) (.cells #[.bool false,.slice none 0 0,.int .i64 0] 33)
 have g1:=ki w (.cells #[.bool an,.slice ao n ca,.int .i64 e] 33) (.cells #[.bool bn,.slice bo m cb,.int .i64 f] 33) (.cells #[.bool false,.slice none 0 0,.int .i64 0] 33)
 have g2:=il w (.cells #[.bool an,.slice ao n ca,.int .i64 e] 33) (.cells #[.bool bn,.slice bo m cb,.int .i64 f] 33) (.cells #[.bool false,.slice none 0 0,.int .i64 0] 33)
 go_enter func61,ntmps61
 go_wp2_with fail
 generalize ((w.alloc (.cells #[.bool an,.slice ao n ca,.int .i64 e] 33)).alloc (.cells #[.bool bn,.slice bo m cb,.int .i64 f] 33)).alloc (.cells #[.bool false,.slice none 0 0,.int .i64 0] 33)=wx at hb3 g0 g1 g2 ⊢
 have k0:=ac g0 0 rfl
 have k1:=ac g0 1 rfl
 have k2:=ac g0 2 rfl
 have j0:=ac g1 0 rfl
 have j1:=ac g1 1 rfl
 have j2:=ac g1 2 rfl
 have hb1:=ap wx
 have hs3:=(aGe g2).1
 go_region_held3 (fun W=>(W.cell? ⟨w.heap.size,0,none⟩=some (.bool an)∧W.cell? ⟨w.heap.size,1,none⟩=some (.slice ao n ca)∧W.cell? ⟨w.heap.size,2,none⟩=some (.int .i64 e))∧W.cell? ⟨w.heap.size+1,0,none⟩=some (.bool bn)∧W.cell? ⟨w.heap.size+1,1,none⟩=some (.slice bo m cb)∧W.cell? ⟨w.heap.size+1,2,none⟩=some (.int .i64 f))
  (first|assumption|exact⟨⟨k0,k1,k2⟩,j0,j1,j2⟩|exact bt (W:=wx.drew) hbv1 ⟨⟨k0,k1,k2⟩,j0,j1,j2⟩|exact bt hbv2 (bt (W:=wx.drew) hbv1 ⟨⟨k0,k1,k2⟩,j0,j1,j2⟩)|exact⟨eR (bt hbv2 (bt (W:=wx.drew) hbv1 ⟨⟨k0,k1,k2⟩,j0,j1,j2⟩)).1 (by omega) _ _ _,eR (bt hbv2 (bt (W:=wx.drew) hbv1 ⟨⟨k0,k1,k2⟩,j0,j1,j2⟩)).2 (by omega) _ _ _⟩)
  (first|(go_at_call 63;refine(C2 _ (af hb3 (af hb1.drew hbv1))).mono ?_;rintro y w4 ⟨ng4,o4,n4,c4,e4,rfl,hv2,hbv2⟩;have q0:=((af hbv1 hbv2).block (w.heap.size+2) (by show _<wx.heap.size;omega)).trans g2;have x0:=ac q0 0 rfl;have x1:=ac q0 1 rfl;have x2:=ac q0 2 rfl;have z0:=aq q0 0;have z1:=aq q0 1;have z2:=aq q0 2)|(go_at_call 91;refine(hop _).mono ?_;rintro y w3 ⟨rfl,hbv1⟩))
 all_goals go_wp2
 all_goals
  refine bodyPost_ret (v:=.agg #[.bool ng4,.slice o4 n4 c4,.int .i64 e4]) (by simp[results,results61,go_sem,x0,x1,x2]) rfl ⟨_,rfl,?_⟩
  exact v8 (g:=w.heap.size+2) hv2 (af hb3 (af hb1.drew hbv1)) (by omega) (Nat.lt_of_lt_of_le (show _<wx.heap.size by omega) hbv1.size) _ _ _
theorem yb {w:World} {ng:Bool} {so:Option Addr} {sn sc:Nat} {e V:Int} (h:aM w (.agg #[.bool ng,.slice so sn sc,.int .i64 e]) V):sgn ng sn=aW V 0∧sn<=9223372036854775807:=by
 obtain⟨ng',s,m,e',h1,hy,ao,n,cap,d,rfl,hR,hN,rfl⟩:=h
 simp only[Value.agg.injEq,Array.mk.injEq,List.cons.injEq,Value.bool.injEq,Value.int.injEq,Value.slice.injEq,and_true,true_and] at h1
 obtain⟨rfl,⟨rfl,rfl,rfl⟩,rfl⟩:=h1
 refine⟨?_,by have:=hR.le;have:=hR.max;omega⟩
 by_cases h0:sn=0
 ·have:=hy.eq_zero.2 (by rw[h0];rfl)
  rw[this,eG rfl]
  simp[sgn,h0]
 ·have hp:=eJ hN (show 0<sn by omega)
  cases ng
  ·have hn:¬ V<0:=fun h=>by have:=hy.neg_iff.2 h;simp at this
   have hz:V≠0:=fun h=>by have:=hy.eq_zero.1 h;omega
   rw[cY (by omega)]
   simp[sgn,h0]
  ·have hn:=hy.neg_iff.1 rfl
   rw[cX hn]
   simp[sgn,h0]
def zr (B:Nat) (w:World) (n:Nat) (r:Nat->aA) (V:Int) (v:Value):Prop:=bJ B w V v∨∃ i,i<n∧v=(r i).v∧V=(r i).V
theorem zr.keeps {B:Nat} {w w':World} {n:Nat} {r:Nat->aA} {V:Int} {v:Value} (h:zr B w n r V v) (hb:Below w.heap.size w w'):zr B w' n r V v:=by
 rcases h with h|h
 ·exact .inl (h.keeps hb)
 ·exact .inr h
theorem uw {w:World} {g o0 o1 o2:Nat} {xs:Array Value} {z:Nat × Nat} (hg:w.heap[g]?=some (.cells xs 33 z)) (x y u:Value):∀ (g':Nat) (cur:Array Value) z',w.heap[g']?=some (.cells cur 3 z')->(((w.setCell ⟨g,o0,none⟩ x).setCell ⟨g,o1,none⟩ y).setCell ⟨g,o2,none⟩ u).heap[g']?=w.heap[g']?:=fun g' cur z' hc=>by
 refine(nN w g o0 o1 o2 x y u).block g' (aGe hc).1 fun e=>?_
 subst e
 rw[hg] at hc
 simp at hc
theorem bM {W y:World} (hb:Below W.heap.size W y) {g:Nat} {X:Obj} (h:W.heap[g]?=some X):y.heap[g]?=some X:=(hb.block _ (aGe h).1).trans h
theorem dl {B:Nat} {w3:World} {V:Int} {v:Value} (hv:bJ B w3 V v) {g:Nat} {xs:Array Value} {z:Nat × Nat} (hg:w3.heap[g]?=some (.cells xs 33 z)) (a b c:Value) :
  bJ B (((w3.setCell ⟨g,0,none⟩ a).setCell ⟨g,1,none⟩ b).setCell ⟨g,2,none⟩ c) V v:=hv.of_blocks (uw hg a b c)
def wS (a1 a2 b1 b2 V:Int):Prop:=∃ C D,C*2^4194304=a1*b2∧D*2^4194304=a2*b1∧V=C-D
theorem wS.unique {a1 a2 b1 b2 V V':Int} (h:wS a1 a2 b1 b2 V) (k:wS a1 a2 b1 b2 V'):V=V':=by
 obtain⟨C,D,h1,h2,rfl⟩:=h
 obtain⟨C',D',k1,k2,rfl⟩:=k
 rw[j9 (h1.trans k1.symm),j9 (h2.trans k2.symm)]
theorem Az (w:World) (o0 o1:Obj):Below w.heap.size w ((w.alloc o0).alloc o1)∧((w.alloc o0).alloc o1).heap[w.heap.size]?=some o0∧((w.alloc o0).alloc o1).heap[w.heap.size+1]?=some o1∧((w.alloc o0).alloc o1).heap.size=w.heap.size+1+1 :=
 ⟨af (ah w o0) (ah (w.alloc o0) o1),av o1 (aX o0 (by rfl)),aX o1 (by simp only[aH]),by simp only[aH]⟩
theorem od (w:World) (o0 o1 o2:Obj):Below w.heap.size w (((w.alloc o0).alloc o1).alloc o2)∧(((w.alloc o0).alloc o1).alloc o2).heap[w.heap.size]?=some o0∧(((w.alloc o0).alloc o1).alloc o2).heap[w.heap.size+1]?=some o1∧(((w.alloc o0).alloc o1).alloc o2).heap[w.heap.size+1+1]?=some o2∧(((w.alloc o0).alloc o1).alloc o2).heap.size=w.heap.size+1+1+1 :=
 ⟨af (af (ah w o0) (ah (w.alloc o0) o1)) (ah ((w.alloc o0).alloc o1) o2),av o2 (av o1 (aX o0 (by rfl))),av o2 (aX o1 (by simp only[aH])),aX o2 (by simp only[aH]),by simp only[aH]⟩
theorem AB (w:World) (o0 o1 o2 o3:Obj):Below w.heap.size w ((((w.alloc o0).alloc o1).alloc o2).alloc o3)∧((((w.alloc o0).alloc o1).alloc o2).alloc o3).heap[w.heap.size]?=some o0∧((((w.alloc o0).alloc o1).alloc o2).alloc o3).heap[w.heap.size+1]?=some o1∧((((w.alloc o0).alloc o1).alloc o2).alloc o3).heap[w.heap.size+1+1]?=some o2∧((((w.alloc o0).alloc o1).alloc o2).alloc o3).heap[w.heap.size+1+1+1]?=some o3∧((((w.alloc o0).alloc o1).alloc o2).alloc o3).heap.size=w.heap.size+1+1+1+1 :=
 ⟨af (af (af (ah w o0) (ah (w.alloc o0) o1)) (ah ((w.alloc o0).alloc o1) o2)) (ah (((w.alloc o0).alloc o1).alloc o2) o3),av o3 (av o2 (av o1 (aX o0 (by rfl)))),av o3 (av o2 (aX o1 (by simp only[aH]))),av o3 (aX o2 (by simp only[aH])),aX o3 (by simp only[aH]),by simp only[aH]⟩
theorem sw (w:World) (o0 o1 o2 o3 o4:Obj):Below w.heap.size w (((((w.alloc o0).alloc o1).alloc o2).alloc o3).alloc o4)∧(((((w.alloc o0).alloc o1).alloc o2).alloc o3).alloc o4).heap[w.heap.size]?=some o0∧(((((w.alloc o0).alloc o1).alloc o2).alloc o3).alloc o4).heap[w.heap.size+1]?=some o1∧(((((w.alloc o0).alloc o1).alloc o2).alloc o3).alloc o4).heap[w.heap.size+1+1]?=some o2∧(((((w.alloc o0).alloc o1).alloc o2).alloc o3).alloc o4).heap[w.heap.size+1+1+1]?=some o3∧(((((w.alloc o0).alloc o1).alloc o2).alloc o3).alloc o4).heap[w.heap.size+1+1+1+1]?=some o4∧(((((w.alloc o0).alloc o1).alloc o2).alloc o3).alloc o4).heap.size=w.heap.size+1+1+1+1+1 :=
 ⟨af (af (af (af (ah w o0) (ah (w.alloc o0) o1)) (ah ((w.alloc o0).alloc o1) o2)) (ah (((w.alloc o0).alloc o1).alloc o2) o3)) (ah ((((w.alloc o0).alloc o1).alloc o2).alloc o3) o4),av o4 (av o3 (av o2 (av o1 (aX o0 (by rfl))))),av o4 (av o3 (av o2 (aX o1 (by simp only[aH])))),av o4 (av o3 (aX o2 (by simp only[aH]))),av o4 (aX o3 (by simp only[aH])),aX o4 (by simp only[aH]),by simp only[aH]⟩
theorem mo:wd 0=0:=by decide
def fw (p:Int):Int:=aW (aT p) 0
theorem sB {p:Int} (hp:ar p) (h:ay p=true):FloatKind.f64.format.order (wd p) (wd p)=some .eq:=lA hp hp (ct h) (ct h) rfl
theorem ux {p:Int} (hp:ar p) (h:ay p=true) (w:World) :
  Calls prog 77 #[.float .f64 (wd p)] w fun r w'=>r=.returned (.bool false)∧w'=w:=by
 have e:=sB hp h
 go_enter func77,ntmps77
 go_wp2
 go_ret
 exact⟨rfl,rfl⟩
theorem v9 {p:Int} (hp:ar p) (h:ay p=true) (w:World) :
    Calls prog 44 #[.float .f64 (wd p),.float .f64 0] w fun r w'=>r=.returned (.int .i64 (fw p))∧w'=w:=by
  have r0:ar 0:=by unfold ar;decide
  have p0:ay 0=true:=by decide
  have C1:Hid (∀ W,Calls prog 77 #[.float .f64 (wd p)] W fun r w'=>r=.returned (.bool false)∧w'=W):=fun W=>ux hp h W
  have C2:Hid (∀ W,Calls prog 77 #[.float .f64 0] W fun r w'=>r=.returned (.bool false)∧w'=W):=fun W=>by
    have:=ux r0 p0 W
    rw[mo] at this
    exact this
  have k0:aT 0=0:=by decide
  have hord:(FloatKind.f64.format.order (wd p) 0=some .lt∧fw p=-1)∨(FloatKind.f64.format.order (wd p) 0=some .gt∧fw p=1)∨(FloatKind.f64.format.order (wd p) 0=some .eq∧fw p=0):=by
    unfold fw aW
    rcases Int.lt_trichotomy (aT p) 0 with g|g|g
    · exact .inl ⟨by have:=mJ hp r0 (ct h) (ct p0) (by rw[k0];exact g);rw[mo] at this;exact this,by first|simp[g]|(rw[if_pos g])⟩
    · exact .inr (.inr ⟨by have:=lA hp r0 (ct h) (ct p0) (by rw[k0];exact g);rw[mo] at this;exact this,by rw[g];decide⟩)
    · exact .inr (.inl ⟨by have:=mK hp r0 (ct h) (ct p0) (by rw [k0]; exact g); rw [mo] at this; exact this,by
        have:¬ aT p<0:=by omega
        simp [this,g]⟩)
  clear hp h r0 p0 k0
  generalize fw p=s at *
  generalize wd p=P at *
  rcases hord with⟨ho,rfl⟩|⟨ho,rfl⟩|⟨ho,rfl⟩
  all_goals
    go_enter func44,ntmps44
    go_wp2_with fail
    refine(C1.out _).mono ?_
    rintro _ wz ⟨rfl,hwz⟩
    replace hwz:=hwz.symm
    subst hwz
    go_wp2_with fail
    refine(C2.out _).mono ?_
    rintro _ wz ⟨rfl,hwz⟩
    replace hwz:=hwz.symm
    subst hwz
    go_wp2
    go_ret
    exact⟨rfl,rfl⟩
theorem uy {D c X:Int} (hc:0<c) (h:D*c=X):aW D 0=aW X 0:=by
 have e:=xD D 0 c
 rw[Int.zero_mul,h] at e
 have h1:aW c 0=1:=by
  unfold aW
  rw[if_neg (by omega),if_pos hc]
 rw[e,h1,Int.mul_one]
theorem mp {b:Int} (hr:ar b) (h:ay b=true):Bd 1074 (au b):=by
 obtain⟨i0,i1,i2,i3⟩:=fi h
 have f:=jd hr h
 have hb:((iV b).natAbs:Int)<2^(2*1074):=by
  rw[f]
  have e1:(2:Int)^(bs b+1074).toNat<=2^2045:=kw (by omega)
  have p:=p2 (bs b+1074).toNat
  have e2:(2:Int)^(2*1074)=2^103*2^2045:=by rw[<- Int.pow_add]
  have e3:bl b*2^(bs b+1074).toNat<=9007199254740992*2^2045:=Int.mul_le_mul (by omega) e1 (Int.le_of_lt p) (by decide)
  have p3:=p2 2045
  rw[e2,show(2:Int)^103=10141204801825835211973625643008 by decide]
  generalize (2:Int)^2045=z at *
  omega
 refine⟨iV b,cr hr h,by omega,by omega⟩
theorem AC {s:Nat->Nat->Int} {m:Nat} (hr:∀ i k,ar (s i k)) (hz:∀ i,i<=m->∀ k,k<3->ay (s i k)=true) (p:Nat) (hp:p<4) (k:Nat) (hk:k<3):Bd 1075 (vL s m p k):=by
 unfold vL
 by_cases c:p<m
 ·rw[if_pos c,Int.sub_eq_add_neg]
  exact(mp (hr p k) (hz p (by omega) k hk)).add (mp (hr m k) (hz m (Nat.le_refl _) k hk)).neg (by decide)
 ·rw[if_neg c]
  exact qT _
theorem mq (w:World):Calls prog 18 #[] w fun e w'=>e=.returned (.agg #[.func (.func 36) #[] #[],.float .f64 4380876537524649991,.func (.func 37) #[] #[]])∧Below w.heap.size w w':=by
 have hs1:∀ p F m w,(store p (.func (.func F) #[] #[]) m).run prog w=stored prog w p (.func (.func F) #[] #[]) m:=fun p F m w=>run_store _ w p _ m rfl
 have hs2:∀ p x m w,(store p (.float .f64 x) m).run prog w=stored prog w p (.float .f64 x) m:=fun p x m w=>run_store _ w p _ m rfl
 go_enter func18,ntmps18
 go_wp2
 exact bodyPost_ret (v:=.agg #[.func (.func 36) #[] #[],.float .f64 4380876537524649991,.func (.func 37) #[] #[]]) (by simp[results,results18,go_sem]) rfl ⟨rfl,ah _ _⟩
theorem qV {s:Nat->Nat->Int} (hr:∀ i k,ar (s i k)) (hz:∀ i,i<=3->∀ k,k<3->ay (s i k)=true) {w:World} {arr:Array Value} {R:Nat->Nat->aA} (hA:iM w arr (vL s 3) R) (hT:dU w) :
  Calls prog 37 #[.agg arr] w fun r w'=>∃ v D,r=.returned v∧aR w w' D v∧aW D 0=aW (dX (vL s 3) 0 1 2) 0∧cK D∧D*(2^4194304*2^4194304)=dX (vL s 3) 0 1 2:=by
 refine(sv hA (AC hr hz) hT).mono ?_
 rintro _ w' ⟨v,D,rfl,hd,he,hb⟩
 exact⟨v,D,rfl,hd,uy (Int.mul_pos (aB _) (aB _)) ((Int.mul_assoc _ _ _).symm.trans he),hb.ok (by decide),(Int.mul_assoc _ _ _).symm.trans he⟩
theorem qW (ao:Option Addr) (cap:Nat) (s:Nat->Nat->Int) (w:World) (h:gb w ao 4 cap s) (hr:∀ i k,ar (s i k)) (hz:∀ i,i<=3->∀ k,k<3->ay (s i k)=true) (H:cD w) (st:Int) :
  Calls prog 40 #[.agg #[.func (.func 36) #[] #[],.float .f64 4380876537524649991,.func (.func 37) #[] #[]],.slice ao 4 cap,.int .i64 st] w fun e w'=>e=.returned (.agg #[.int .i64 (aW (dX (vL s 3) 0 1 2) 0),.int .i64 st])∧Below w.heap.size w w':=by
 have CL:Hid (∀ W,Below w.heap.size w W->Calls prog 45 #[.slice ao 4 cap,.func (.func 46) #[] #[]] W fun e w'=>∃ arr R,e=.returned (.agg arr)∧iM w' arr (vL s 3) R∧Below W.heap.size W w'):=fun W hW=>mj ao 4 3 cap s W (h.keeps hW) rfl (by decide) hz (H.keeps hW)
 have CE:Hid (∀ W arr R,Below w.heap.size w W->iM W arr (vL s 3) R->Calls prog 37 #[.agg arr] W fun r w'=>∃ v D,r=.returned v∧aR W w' D v∧aW D 0=aW (dX (vL s 3) 0 1 2) 0∧cK D):=fun W arr R hW hA=>(qV hr hz hA (H.keeps hW).tab).mono fun _ _ ⟨v,D,h1,h2,h3,h4,_⟩=>⟨v,D,h1,h2,h3,h4⟩
 have CS:Hid (∀ W v D,aM W v D->cK D->Calls prog 73 #[v] W fun r w'=>r=.returned (.tuple #[.int .i64 (aW D 0),.int .i64 0])∧Below W.heap.size W w'):=fun W v D h1 h2=>yJ h1 h2
 clear h hr hz H
 generalize aW (dX (vL s 3) 0 1 2) 0=sg at *
 have hb0:=aL w (.cells #[.func (.func 36) #[] #[],.float .f64 4380876537524649991,.func (.func 37) #[] #[]] 57) (.cells #[.int .i64 0,.int .i64 0] 27)
 have q_k:=cl w (.cells #[.func (.func 36) #[] #[],.float .f64 4380876537524649991,.func (.func 37) #[] #[]] 57) (.cells #[.int .i64 0,.int .i64 0] 27)
 have r_k:=bR w (.cells #[.func (.func 36) #[] #[],.float .f64 4380876537524649991,.func (.func 37) #[] #[]] 57) (.cells #[.int .i64 0,.int .i64 0] 27)
 go_enter func40,ntmps40
 go_wp2_with fail
 generalize (w.alloc (.cells #[.func (.func 36) #[] #[],.float .f64 4380876537524649991,.func (.func 37) #[] #[]] 57)).alloc (.cells #[.int .i64 0,.int .i64 0] 27)=x0 at hb0 q_k r_k ⊢
 have KK:∀ W,Below x0.heap.size x0 W->W.cell? ⟨w.heap.size,2,none⟩=some (.func (.func 37) #[] #[]):=fun W hb=>aj (ac q_k 2 rfl) hb
 have hC0:=(ap x0).drew
 go_region_held3 (fun W=>W.cell? ⟨w.heap.size,2,none⟩=some (.func (.func 37) #[] #[]))
  (with_reducible first|assumption|exact KK _ hC0|exact KK _ hC1|exact KK _ hC2|exact KK _ hC3|fail)
  (first|(go_at_call 73;refine(CS.out _ _ _ hd.num hok).mono ?_;rintro _ y3 ⟨rfl,hw3⟩;have hC3:=af hC2 hw3)|(go_at_call 37;refine(CE.out _ _ _ (af hb0 hC1) hA).mono ?_;rintro _ y2 ⟨v,D,rfl,hd,hsg,hok⟩;have hC2:=af hC1 hd.below)|(go_at_call 45;refine(CL.out _ (af hb0 hC0)).mono ?_;rintro _ y1 ⟨arr,R,rfl,hA,hw1⟩;have hC1:=af hC0 hw1))
 replace r_k:=ak hC3 r_k
 replace hb0:=af hb0 hC3
 clear q_k KK hC0 hC1 hC2 hC3 hw1 hw3 hd hA hok
 have k0:=ac r_k 0 rfl
 have k1:=ac r_k 1 rfl
 have z0:=aq r_k 0
 have z1:=aq r_k 1
 go_wp2
 exact bodyPost_ret (v:=.agg #[.int .i64 sg,.int .i64 st]) (by simp[results,results40,go_sem,k0,k1]) rfl ⟨rfl,(hb0.setCell (p:=⟨w.heap.size+1,0,none⟩) (show w.heap.size<=w.heap.size+1 by omega) _).setCell (p:=⟨w.heap.size+1,1,none⟩) (show w.heap.size<=w.heap.size+1 by omega) _⟩
theorem wa {m d:Int} (hm:ar m) (hd:ar d) (h:aT m<rg d):iV m<((iV d).natAbs:Int):=by
 obtain⟨q1,q2⟩:=cN hd
 have e:iV (rg d)=((iV d).natAbs:Int):=by
  rw[jc,iV,decide_eq_false (by omega),r5 hd]
  rfl
 rw[<- e]
 exact xZ hm q1 (by rw[kS q2];exact h)
theorem qX {A B:Int} (h1:0<A↔0<B) (h2:A<0↔B<0):aW A 0=aW B 0:=by
 unfold aW
 by_cases c:A<0
 ·rw[if_pos c,if_pos (h2.1 c)]
 ·rw[if_neg c,if_neg (fun d=>c (h2.2 d))]
  by_cases e:0<A
  ·rw[if_pos e,if_pos (h1.1 e)]
  ·rw[if_neg e,if_neg (fun d=>e (h1.2 d))]
def xL (s:Nat->Nat->Int) (m p k:Nat):Int:=if p<m then iV (s p k)-iV (s m k) else 0
theorem AD {s:Nat->Nat->Int} {m:Nat} (hr:∀ i k,ar (s i k)) (hz:∀ i,i<=m->∀ k,k<3->ay (s i k)=true) (p k:Nat) (hk:k<3):vL s m p k=xL s m p k*pw (-1074):=by
 unfold vL xL
 by_cases c:p<m
 ·rw[if_pos c,if_pos c,cr (hr p k) (hz p (by omega) k hk),cr (hr m k) (hz m (Nat.le_refl _) k hk),Int.sub_mul]
 ·rw[if_neg c,if_neg c,Int.zero_mul]
theorem cf {s:Nat->Nat->Int} {m:Nat} (hz:∀ i,i<=m->∀ k,k<3->Mz (s i k)) (p:Nat):Lg (xL s m) (uL s m) p:=by
 refine⟨fun k hk=>?_,fun k hk=>?_⟩
 ·unfold uL
  by_cases c:p<m
  ·rw[if_pos c];exact((hz p (by omega) k hk).diff (hz m (Nat.le_refl _) k hk)).1
  ·rw[if_neg c];exact mO
 ·unfold uL xL
  by_cases c:p<m
  ·rw[if_pos c,if_pos c];exact((hz p (by omega) k hk).diff (hz m (Nat.le_refl _) k hk)).2
  ·rw[if_neg c,if_neg c]
   have e:iV 0=0:=by decide
   unfold Un
   rw[e]
   decide
theorem AE (X Y:Nat->Nat->Int) (c:Int) (p q r:Nat) (h:∀ i k,k<3->Y i k=X i k*c):dX Y p q r=dX X p q r*(c*(c*c)):=by
 unfold dX mX
 rw[h p 0 (by decide),h p 1 (by decide),h p 2 (by decide),h q 0 (by decide),h q 1 (by decide),h q 2 (by decide),h r 0 (by decide),h r 1 (by decide),h r 2 (by decide)]
 grind
theorem yd {d A:Int} (hd:ar d) (h:(0<A↔0<iV d)∧(A<0↔iV d<0)):fw d=aW A 0:=by
 obtain⟨k1,k2⟩:=ug hd
 unfold fw
 exact(qX (h.1.trans k2) (h.2.trans k1)).symm
theorem mQ {s:Nat->Nat->Int} (hz:∀ i,i<=3->∀ k,k<3->Mz (s i k)):ar (dt (uL s 3) 0 1 2)∧ay (dt (uL s 3) 0 1 2)=true∧ar (cm (uL s 3) 0 1 2)∧ay (cm (uL s 3) 0 1 2)=true:=⟨(jS (cf hz 0) (cf hz 1) (cf hz 2)).1.r,(jS (cf hz 0) (cf hz 1) (cf hz 2)).1.p,(kD (cf hz 0) (cf hz 1) (cf hz 2)).1.r,(kD (cf hz 0) (cf hz 1) (cf hz 2)).1.p⟩
theorem lC {s:Nat->Nat->Int} (hr:∀ i k,ar (s i k)) (hz:∀ i,i<=3->∀ k,k<3->Mz (s i k)) (h:aT (aw sA (cm (uL s 3) 0 1 2))<rg (dt (uL s 3) 0 1 2)):fw (dt (uL s 3) 0 1 2)=aW (dX (vL s 3) 0 1 2) 0:=by
 have w0:=bX (-1074)
 have c:0<pw (-1074)*(pw (-1074)*pw (-1074)):=Int.mul_pos w0 (Int.mul_pos w0 w0)
 rw[yd (jS (cf hz 0) (cf hz 1) (cf hz 2)).1.r (um (cf hz 0) (cf hz 1) (cf hz 2) (wa (bf eI (kD (cf hz 0) (cf hz 1) (cf hz 2)).1.r) (jS (cf hz 0) (cf hz 1) (cf hz 2)).1.r h))]
 exact uy c (AE (xL s 3) (vL s 3) (pw (-1074)) 0 1 2 (fun i k hk=>AD hr (fun i hi k hk=>(hz i hi k hk).2.1) i k hk)).symm
theorem lD {p q:Int} (hp:ay p=true) (rp:ar p) (hq:ay q=true) (rq:ar q):aF (aw p q)≠4:=by
 obtain⟨a1,a2⟩:=eh rp hp
 obtain⟨b1,b2⟩:=eh rq hq
 unfold aw
 rw[if_neg (fun h=>h.elim a1 b1),if_neg (fun h=>h.elim a2 b2)]
 by_cases c:ft p q=0
 ·rw[if_pos c]
  cases gh p q<;>decide
 ·rw[if_neg c]
  refine(fK (fun h=>c ?_)).2
  exact gX h
theorem sC (ao:Option Addr) (cap:Nat) (s:Nat->Nat->Int) (w:World) (h:gb w ao 4 cap s) (hr:∀ i k,ar (s i k)) (hno:bQ (cy s) 4=false) :
  Calls prog 20 #[.agg #[.func (.func 36) #[] #[],.float .f64 4380876537524649991,.func (.func 37) #[] #[]],.slice ao 4 cap] w fun e w'=>e=.returned (.tuple #[.agg #[.bool false,.slice none 0 0,.int .i64 0],.int .i64 10])∧Below w.heap.size w w':=by
 have CG:Hid (∀ W,Below w.heap.size w W->Calls prog 38 #[.slice ao 4 cap] W fun x w'=>x=.returned (.bool false)∧Below W.heap.size W w'):=fun W hW=>by
  have:=fO ao 4 cap s W (h.keeps hW) hr
  rw[hno] at this
  exact this
 clear h hr hno
 have hb0:=aL w (.cells #[.func (.func 36) #[] #[],.float .f64 4380876537524649991,.func (.func 37) #[] #[]] 57) (.cells #[.bool false,.slice none 0 0,.int .i64 0] 33)
 have r_k:=bR w (.cells #[.func (.func 36) #[] #[],.float .f64 4380876537524649991,.func (.func 37) #[] #[]] 57) (.cells #[.bool false,.slice none 0 0,.int .i64 0] 33)
 go_enter func20,ntmps20
 go_wp2_with fail
 generalize (w.alloc (.cells #[.func (.func 36) #[] #[],.float .f64 4380876537524649991,.func (.func 37) #[] #[]] 57)).alloc (.cells #[.bool false,.slice none 0 0,.int .i64 0] 33)=x0 at hb0 r_k ⊢
 refine(CG.out _ hb0).mono ?_
 rintro _ y1 ⟨rfl,hw1⟩
 replace r_k:=ak hw1 r_k
 have k0:=ac r_k 0 rfl
 have k1:=ac r_k 1 rfl
 have k2:=ac r_k 2 rfl
 have z0:=aq r_k 0
 have z1:=aq r_k 1
 have z2:=aq r_k 2
 go_wp2
 exact bodyPost_ret (v:=.tuple #[.agg #[.bool false,.slice none 0 0,.int .i64 0],.int .i64 10]) (by simp[results,results20,go_sem,k0,k1,k2]) rfl ⟨rfl,by first|exact di (af hb0 hw1) (by omega) _ _ _|exact af hb0 hw1⟩
theorem sD (ao:Option Addr) (cap:Nat) (s:Nat->Nat->Int) (w:World) (h:gb w ao 4 cap s) (hr:∀ i k,ar (s i k)) (hok:bQ (cy s) 4=true) (hz:∀ i,i<=3->∀ k,k<3->ay (s i k)=true) (H:cD w) :
  Calls prog 20 #[.agg #[.func (.func 36) #[] #[],.float .f64 4380876537524649991,.func (.func 37) #[] #[]],.slice ao 4 cap] w fun e w'=>∃ v D,e=.returned (.tuple #[v,.int .i64 0])∧aR w w' D v∧aW D 0=aW (dX (vL s 3) 0 1 2) 0∧cK D∧D*(2^4194304*2^4194304)=dX (vL s 3) 0 1 2:=by
 have CG:Hid (∀ W,Below w.heap.size w W->Calls prog 38 #[.slice ao 4 cap] W fun x w'=>x=.returned (.bool true)∧Below W.heap.size W w'):=fun W hW=>by
  have:=fO ao 4 cap s W (h.keeps hW) hr
  rw[hok] at this
  exact this
 have CL:Hid (∀ W,Below w.heap.size w W->Calls prog 45 #[.slice ao 4 cap,.func (.func 46) #[] #[]] W fun e w'=>∃ arr R,e=.returned (.agg arr)∧iM w' arr (vL s 3) R∧Below W.heap.size W w'):=fun W hW=>mj ao 4 3 cap s W (h.keeps hW) rfl (by decide) hz (H.keeps hW)
 have CE:Hid (∀ W arr R,Below w.heap.size w W->iM W arr (vL s 3) R->Calls prog 37 #[.agg arr] W fun r w'=>∃ v D,r=.returned v∧aR W w' D v∧aW D 0=aW (dX (vL s 3) 0 1 2) 0∧cK D∧D*(2^4194304*2^4194304)=dX (vL s 3) 0 1 2):=fun W arr R hW hA=>qV hr hz hA (H.keeps hW).tab
 clear h hr hok hz H
 have hb0:=aL w (.cells #[.func (.func 36) #[] #[],.float .f64 4380876537524649991,.func (.func 37) #[] #[]] 57) (.cells #[.bool false,.slice none 0 0,.int .i64 0] 33)
 have q_k:=cl w (.cells #[.func (.func 36) #[] #[],.float .f64 4380876537524649991,.func (.func 37) #[] #[]] 57) (.cells #[.bool false,.slice none 0 0,.int .i64 0] 33)
 have r_k:=bR w (.cells #[.func (.func 36) #[] #[],.float .f64 4380876537524649991,.func (.func 37) #[] #[]] 57) (.cells #[.bool false,.slice none 0 0,.int .i64 0] 33)
 go_enter func20,ntmps20
 go_wp2_with fail
 generalize (w.alloc (.cells #[.func (.func 36) #[] #[],.float .f64 4380876537524649991,.func (.func 37) #[] #[]] 57)).alloc (.cells #[.bool false,.slice none 0 0,.int .i64 0] 33)=x0 at hb0 q_k r_k ⊢
 refine(CG.out _ hb0).mono ?_
 rintro _ y1 ⟨rfl,hw1⟩
 replace q_k:=ak hw1 q_k
 replace r_k:=ak hw1 r_k
 replace hb0:=af hb0 hw1
 have hs0:=(aGe r_k).1
 go_wp2_with fail
 have KK:∀ W,Below y1.heap.size y1 W->W.cell? ⟨w.heap.size,2,none⟩=some (.func (.func 37) #[] #[]):=fun W hb=>aj (ac q_k 2 rfl) hb
 have hC0:=(ap y1).drew
 have hneq:w.heap.size≠w.heap.size+1:=by omega
 go_region_held3 (fun W=>W.cell? ⟨w.heap.size,2,none⟩=some (.func (.func 37) #[] #[]))
  (with_reducible first|assumption|exact KK _ hC0|exact KK _ hC1|exact KK _ hC2|exact bF (KK _ hC2) _ _ _ _ _ _ hneq|fail)
  (first|(go_at_call 37;refine(CE.out _ _ _ (af hb0 hC1) hA).mono ?_;rintro _ y3 ⟨v,D,rfl,hd,hsg,hok,hcc⟩;obtain⟨n_g,n_o,n_n,n_c,n_e,rfl⟩:=a6 hd;have hC2:=af hC1 hd.below;have dA:=aR.from hd (af hb0 hC1);have r2:=ak hC2 r_k;have e0:=ac r2 0 rfl;have e1:=ac r2 1 rfl;have e2:=ac r2 2 rfl;have z0:=aq r2 0;have z1:=aq r2 1;have z2:=aq r2 2)|(go_at_call 45;refine(CL.out _ (af hb0 hC0)).mono ?_;rintro _ y2 ⟨arr,R,rfl,hA,hw2⟩;have hC1:=af hC0 hw2))
 all_goals
  go_wp2
  refine bodyPost_ret (v:=.tuple #[.agg #[.bool n_g,.slice n_o n_n n_c,.int .i64 n_e],.int .i64 0]) (by simp[results,results20,go_sem,e0,e1,e2]) rfl ⟨_,D,rfl,?_,hsg,hok,hcc⟩
  exact bD (g:=w.heap.size+1) hd (af hb0 hC1) (by omega) (Nat.lt_of_lt_of_le hs0 hC1.size) _ _ _
theorem qY (g:Bool) (X:Int):sg (!g) X=-sg g X:=by cases g<;>simp[sg]
theorem pE {S:Int} (h:S≠0):iV (cT (-S))=-iV (cT S):=by
 obtain⟨A,r0,left,e,hR,hn⟩:=fm h
 have hA:0<A:=by
  have a0:0<=A:=Int.le_trans (nF r0) hR.lo
  rcases Int.lt_or_eq_of_le a0 with c|c
  ·exact c
  ·rw[<- c] at e
   exact absurd (by rw[e];cases decide (S<0)<;>rfl) h
 have eN:-S=sg (!decide (S<0)) A:=by
  rw[qY]
  exact congrArg (fun z=>-z) e
 rw[eN,oV hA hR,hn]
 have t:∀ g g':Bool,bL 0 g r0 left=bL 0 g' r0 left:=fun g g'=>by unfold bL cu;rfl
 have bd:=dW 0 (decide (S<0)) r0 left
 rw[t (!decide (S<0)) (decide (S<0)),ja bd.1 bd.2,ja bd.1 bd.2,qY]
structure Vq (x V:Int):Prop where
 r:ar x
 p:ay x=true
 v:iV x=V
theorem Fx.vq {a b:Nat} {x:Int} (h:Fx a b x):Vq x (iV x):=⟨h.r,h.p,rfl⟩
theorem pF {p q p' q':Int} (hp:Vq p (iV p')) (hq:Vq q (iV q')) (hp':Vq p' (iV p')) (hq':Vq q' (iV q')):iV (az p q)=iV (az p' q'):=by
 rw[gC hp.r hq.r hp.p hq.p,gC hp'.r hq'.r hp'.p hq'.p,cr hp.r hp.p,cr hq.r hq.p,cr hp'.r hp'.p,cr hq'.r hq'.p,hp.v,hq.v]
 by_cases c:iV p'*pw (-1074)+iV q'*pw (-1074)=0
 ·rw[if_pos c,if_pos c,(eD _).2.2,(eD _).2.2]
 ·rw[if_neg c,if_neg c]
theorem zt {p q p' q':Int} (hp:Vq p (-iV p')) (hq:Vq q (-iV q')) (hp':Vq p' (iV p')) (hq':Vq q' (iV q')):iV (az p q)=-iV (az p' q'):=by
 rw[gC hp.r hq.r hp.p hq.p,gC hp'.r hq'.r hp'.p hq'.p,cr hp.r hp.p,cr hq.r hq.p,cr hp'.r hp'.p,cr hq'.r hq'.p,hp.v,hq.v,Int.neg_mul,Int.neg_mul,<- Int.neg_add]
 by_cases c:iV p'*pw (-1074)+iV q'*pw (-1074)=0
 ·rw[c,Int.neg_zero,if_pos rfl,if_pos rfl,(eD _).2.2,(eD _).2.2];rfl
 ·rw[if_neg c,if_neg (by omega),pE c]
theorem nT {p q T:Int} (hp:ar p) (hq:ar q) (pp:ay p=true) (pq:ay q=true) (hT:2^1074*T=iV p*iV q):aw p q=if T=0 then aC (gh p q) 0 else cT (T*pw (-1074)):=by
 obtain⟨a1,a2⟩:=eh hp pp
 obtain⟨b1,b2⟩:=eh hq pq
 have hw:=bX (-1074)
 have hs:au p*au q/2^4194304=T*pw (-1074):=by
  rw[cr hp pp,cr hq pq]
  have e2:=j8 (a:=-1074) (b:=-1074) (by decide) (by decide)
  rw[show(-1074 + -1074:Int)=-2148 by decide] at e2
  have e3:=ec (e:=-2148) (by decide) 1074
  rw[show(-2148+((1074:Nat):Int))=-1074 by decide] at e3
  exact yZ (aB 4194304) e2 e3 hT
 unfold aw ft
 rw[if_neg (fun c=>c.elim a1 b1),if_neg (fun c=>c.elim a2 b2),hs]
 by_cases c:T=0
 ·rw[if_pos c,if_pos (wE _ c)]
 ·rw[if_neg c,if_neg (fun d=>c (tV _ hw d)),tW]
theorem yf {p q q' T:Int} (hp:Vq p (iV p)) (hq:Vq q (-iV q')) (hq':Vq q' (iV q')) (hT:2^1074*T=iV p*iV q'):iV (aw p q)=-iV (aw p q'):=by
 have hT':2^1074*(-T)=iV p*iV q:=by rw[hq.v,Int.mul_neg,Int.mul_neg,hT]
 rw[nT hp.r hq.r hp.p hq.p hT',nT hp.r hq'.r hp.p hq'.p hT]
 by_cases c:T=0
 ·rw[c,Int.neg_zero,if_pos rfl,if_pos rfl,(eD _).2.2,(eD _).2.2];rfl
 ·have hw:=bX (-1074)
  rw[if_neg c,if_neg (by omega),Int.neg_mul,pE (yX hw c)]
theorem zu {X u:Nat->Nat->Int} {p q:Nat} (hp:Lg X u p) (hq:Lg X u q):iV (mn u q p)=-iV (mn u p q):=by
 obtain⟨l,_⟩:=gG hp hq
 obtain⟨r,_⟩:=gG hq hp
 obtain⟨ln,le⟩:=l.neg
 obtain⟨rn,re⟩:=r.neg
 have a:Vq (pL u q p) (-iV (neg (pL u q p))):=⟨r.r,r.p,by rw[re,Int.neg_neg]⟩
 have b:Vq (neg (pL u p q)) (-iV (pL u p q)):=⟨ln.r,ln.p,le⟩
 have c:=zt a b rn.vq l.vq
 unfold mn
 rw[c,nJ l.r rn.r l.p rn.p]
def rD (u:Nat->Nat->Int):Int:=az (az (aw (u 0 2) (mn u 1 2)) (aw (u 1 2) (mn u 2 0))) (aw (u 2 2) (mn u 0 1))
theorem zv {X u:Nat->Nat->Int} (h0:Lg X u 0) (h1:Lg X u 1) (h2:Lg X u 2):Vq (rD u) (iV (dt u 0 1 2)):=by
 obtain⟨f1,_⟩:=gH h0 h1 h2
 obtain⟨f2,_⟩:=gH h1 h0 h2
 obtain⟨g2,_⟩:=gH h1 h2 h0
 obtain⟨f3,_⟩:=gH h2 h0 h1
 obtain⟨n2,e2⟩:=f2.neg
 obtain⟨s,_⟩:=f1.sum g2 (by decide)
 obtain⟨s',_⟩:=f1.sum n2 (by decide)
 obtain⟨t,_⟩:=s.sum (f3.up (show 1534<=1536 by decide)) (by decide)
 obtain⟨m,_⟩:=iK h0 h2
 obtain⟨m',_⟩:=iK h2 h0
 obtain⟨_,_,T,hT,_⟩:=(h1.f 2 (by decide)).prod m (by decide) (by decide) (by decide)
 have k1:iV (aw (u 1 2) (mn u 2 0))=-iV (aw (u 1 2) (mn u 0 2)):=yf (h1.f 2 (by decide)).vq ⟨m'.r,m'.p,zu h0 h2⟩ m.vq hT
 have k2:=pF f1.vq ⟨g2.r,g2.p,k1.trans e2.symm⟩ f1.vq n2.vq
 have k3:=pF ⟨s.r,s.p,k2⟩ f3.vq s'.vq f3.vq
 exact⟨t.r,t.p,k3⟩
theorem uz {p q:Int} (hp:ar p) (hq:ar q) (h:iV p=iV q):rg p=rg q:=by
 have a:=jc p
 have b:=jc q
 rw[h] at a
 have e:V Ieee.double (rg p).toNat=V Ieee.double (rg q).toNat:=by omega
 have p0:=(cN hp).2
 have q0:=(cN hq).2
 rcases Nat.lt_trichotomy (rg p).toNat (rg q).toNat with c|c|c
 ·have:=gO Ieee.double c;omega
 ·omega
 ·have:=gO Ieee.double c;omega
theorem zw {p q:Int} (hp:ar p) (hq:ar q) (h:iV p=iV q) (h0:iV q≠0):p=q:=by
 have e:=uz hp hq h
 unfold iV at h h0
 rw[e] at h
 have s:decide (p<0)=decide (q<0):=by
  generalize (V Ieee.double (rg q).toNat:Int)=v at *
  generalize decide (p<0)=a at h ⊢
  generalize decide (q<0)=b at h h0 ⊢
  cases a<;>cases b
  ·rfl
  ·exfalso;have h1:v=-v:=h;have h2:-v≠0:=h0;omega
  ·exfalso;have h1:-v=v:=h;have h2:v≠0:=h0;omega
  ·rfl
 have s2:p<0↔q<0:=decide_eq_decide.1 s
 unfold rg at e
 unfold ar at hp hq
 by_cases c:p<0
 ·rw[if_pos c,if_pos (s2.1 c)] at e;omega
 ·rw[if_neg c,if_neg (fun d=>c (s2.2 d))] at e;omega
theorem zA {q:Int} (hq:ar q):iV q=0↔aT q=0:=by
 obtain⟨a,b⟩:=ug hq
 omega
theorem zB {p q:Int} (hp:ar p) (hq:ar q) (h:iV p=iV q):aT p=aT q:=by
 by_cases c:iV q=0
 ·rw[(zA hp).1 (h.trans c),(zA hq).1 c]
 ·rw[zw hp hq h c]
theorem Vq.fx {a b:Nat} {p q:Int} (h:Vq p (iV q)) (f:Fx a b q):Fx a b p:=⟨h.r,h.p,by rw[h.v];exact f.d,by rw[h.v];exact f.b⟩
theorem Vq.sum {a b:Nat} {p q p' q':Int} (hp:Vq p (iV p')) (hq:Vq q (iV q')) (fp:Fx a b p') (fq:Fx a b q') (hb:b+1<=2097):Vq (az p q) (iV (az p' q')):=by
 obtain⟨s,_⟩:=(hp.fx fp).sum (hq.fx fq) hb
 exact⟨s.r,s.p,pF hp hq fp.vq fq.vq⟩
theorem Vq.neg {p q:Int} (h:Vq p (iV q)) (hq:Vq q (iV q)):Vq (M.neg p) (iV (M.neg q)):=by
 obtain⟨n1,n2,n3⟩:=fM h.r h.p
 obtain⟨m1,m2,m3⟩:=fM hq.r hq.p
 exact⟨n1,n2,by rw[n3,m3,h.v]⟩
def rF (u:Nat->Nat->Int) (p:Nat):Int:=az (az (aw (u p 0) (u p 0)) (aw (u p 1) (u p 1))) (aw (u p 2) (u p 2))
def rX (u:Nat->Nat->Int) (p q r:Nat):Int:=az (az (aw (sz u p q) (rg (u r 2))) (aw (sz u q r) (rg (u p 2)))) (aw (sz u p r) (rg (u q 2)))
def rU (u:Nat->Nat->Int) (i p q r:Nat):Int:=aw (rX u p q r) (rF u i)
theorem uA {X u:Nat->Nat->Int} (h0:Lg X u 0) (h1:Lg X u 1) (h2:Lg X u 2):rg (rD u)=rg (dt u 0 1 2)∧fw (rD u)=fw (dt u 0 1 2):=by
 have v:=zv h0 h1 h2
 obtain⟨f,_⟩:=jS h0 h1 h2
 refine⟨uz v.r f.r v.v,?_⟩
 unfold fw
 rw[zB v.r f.r v.v]
end Go.Proofs.YtcklaogdjpbagaaGreatDoor
