/-
  The document's own answers for chapter 12 (plumbref12): rounded, Side, Sphere, by their contracts.
-/
import Derived.Test.YtcklaogdjpbagaaGreatDoorSa23
import Derived.Test.YtcklaogdjpbagaaGreatDoorSa24
import Derived.Test.YtcklaogdjpbagaaGreatDoorSa11
set_option maxRecDepth 100000
set_option maxHeartbeats 8000000
set_option linter.unusedVariables false
set_option linter.unusedSimpArgs false
namespace Go.Proofs.YtcklaogdjpbagaaGreatDoor
open Go Go.Proofs.Tryz Go.RowKit Go.Proofs.YtcklaogdjpbagaaGreatDoor.M
theorem iW {V S:Int} (h:0<S):aT (V*S) 0=aT V 0:=by
 refine tR ⟨fun q=>?_,fun q=>Int.mul_pos q h⟩ ⟨fun q=>?_,fun q=>Int.mul_neg_of_neg_of_pos q h⟩
 ·rcases Int.lt_or_le 0 V with c|c
  ·exact c
  ·have:=Int.mul_le_mul_of_nonneg_right c (Int.le_of_lt h)
   rw[Int.zero_mul] at this
   omega
 ·rcases Int.lt_or_le V 0 with c|c
  ·exact c
  ·have:=Int.mul_nonneg c (Int.le_of_lt h)
   omega
theorem qg {w:World} {g:Bool} {o:Option Addr} {n c:Nat} {e V z:Int} (h:aM w (.agg #[.bool g,.slice o n c,.int .i64 e]) V) (hz:aT V 0=z) :
  Calls prog 24 #[.agg #[.bool g,.slice o n c,.int .i64 e]] w fun r w'=>r=.returned (.int .i64 z)∧Below w.heap.size w w':=by
 obtain⟨hs,hm⟩:=AE h
 rw[<- hz,<- hs]
 have CS:Hid (∀ W,Calls prog 50 #[.agg #[.bool g,.slice o n c,.int .i64 e]] W fun r w'=>r=.returned (.int .i64 (dT g n))∧Below W.heap.size W w'):=fun W=>uy g o n c e W hm
 clear hs h hz
 generalize dT g n=s at *
 have hb:=ah w (.cells #[.bool g,.slice o n c,.int .i64 e] 33)
 go_enter func24,ntmps24
 go_wp2_with fail
 refine(CS.out _).mono ?_
 rintro _ y1 ⟨rfl,hw1⟩
 have hb1:=ac hb hw1
 go_wp2
 go_ret
 exact⟨rfl,hb1⟩
theorem fk {s:Nat->Nat->Int} (i j:Nat) (hr:∀ i k,ax (s i k)) (w:World) :
  Calls prog 27 #[.agg #[.int .i64 (s i 0),.int .i64 (s i 1),.int .i64 (s i 2)],.agg #[.int .i64 (s j 0),.int .i64 (s j 1),.int .i64 (s j 2)]] w fun e w'=>e=.returned (.agg #[.int .i64 (aE (s i 0) (neg (s j 0))),.int .i64 (aE (s i 1) (neg (s j 1))),.int .i64 (aE (s i 2) (neg (s j 2)))])∧Below w.heap.size w w':=by
 have D0:Hid (∀ W,Calls prog 56 #[.int .i64 (s i 0),.int .i64 (s j 0)] W fun e w'=>e=.returned (.int .i64 (aE (s i 0) (neg (s j 0))))∧Below W.heap.size W w'):=fun W=>fN _ _ (hr _ _) (hr _ _) W
 have D1:Hid (∀ W,Calls prog 56 #[.int .i64 (s i 1),.int .i64 (s j 1)] W fun e w'=>e=.returned (.int .i64 (aE (s i 1) (neg (s j 1))))∧Below W.heap.size W w'):=fun W=>fN _ _ (hr _ _) (hr _ _) W
 have D2:Hid (∀ W,Calls prog 56 #[.int .i64 (s i 2),.int .i64 (s j 2)] W fun e w'=>e=.returned (.int .i64 (aE (s i 2) (neg (s j 2))))∧Below W.heap.size W w'):=fun W=>fN _ _ (hr _ _) (hr _ _) W
 clear hr
 generalize aE (s i 0) (neg (s j 0))=v0 at *
 generalize aE (s i 1) (neg (s j 1))=v1 at *
 generalize aE (s i 2) (neg (s j 2))=v2 at *
 generalize s i 0=p0 at *
 generalize s j 0=q0 at *
 generalize s i 1=p1 at *
 generalize s j 1=q1 at *
 generalize s i 2=p2 at *
 generalize s j 2=q2 at *
 obtain⟨hb0,a_k,b_k,o_k,hsz0⟩:=nN w (.cells #[.int .i64 p0,.int .i64 p1,.int .i64 p2] 23) (.cells #[.int .i64 q0,.int .i64 q1,.int .i64 q2] 23) (.cells #[.int .i64 0,.int .i64 0,.int .i64 0] 70)
 clear hsz0
 go_enter func27,ntmps27
 go_wp2_with fail
 generalize (((w.alloc (.cells #[.int .i64 p0,.int .i64 p1,.int .i64 p2] 23)).alloc (.cells #[.int .i64 q0,.int .i64 q1,.int .i64 q2] 23)).alloc (.cells #[.int .i64 0,.int .i64 0,.int .i64 0] 70))=x0 at hb0 a_k b_k o_k ⊢
 have hs0:=(aGe o_k).1
 have KK:∀ W,Below (w.heap.size+2) x0 W->W.cell? ⟨w.heap.size,0,none⟩=some (.int .i64 p0)∧W.cell? ⟨w.heap.size,1,none⟩=some (.int .i64 p1)∧W.cell? ⟨w.heap.size,2,none⟩=some (.int .i64 p2)∧W.cell? ⟨w.heap.size+1,0,none⟩=some (.int .i64 q0)∧W.cell? ⟨w.heap.size+1,1,none⟩=some (.int .i64 q1)∧W.cell? ⟨w.heap.size+1,2,none⟩=some (.int .i64 q2):=fun W hb=>⟨bK (af a_k 0 rfl) hb (show w.heap.size<w.heap.size+2 by omega),bK (af a_k 1 rfl) hb (show w.heap.size<w.heap.size+2 by omega),bK (af a_k 2 rfl) hb (show w.heap.size<w.heap.size+2 by omega),bK (af b_k 0 rfl) hb (show w.heap.size+1<w.heap.size+2 by omega),bK (af b_k 1 rfl) hb (show w.heap.size+1<w.heap.size+2 by omega),bK (af b_k 2 rfl) hb (show w.heap.size+1<w.heap.size+2 by omega)⟩
 have hlt:w.heap.size+2<=x0.heap.size:=by omega
 have hC0:=(al x0).drew
 go_region_held3 (fun W=>W.cell? ⟨w.heap.size,0,none⟩=some (.int .i64 p0)∧W.cell? ⟨w.heap.size,1,none⟩=some (.int .i64 p1)∧W.cell? ⟨w.heap.size,2,none⟩=some (.int .i64 p2)∧W.cell? ⟨w.heap.size+1,0,none⟩=some (.int .i64 q0)∧W.cell? ⟨w.heap.size+1,1,none⟩=some (.int .i64 q1)∧W.cell? ⟨w.heap.size+1,2,none⟩=some (.int .i64 q2))
  (with_reducible first|assumption|exact KK _ (hC0.mono hlt)|exact KK _ (hC1.mono hlt)|exact KK _ (hC2.mono hlt)|exact KK _ (hC3.mono hlt)|exact KK _ (mQ (hC3.mono hlt) (Nat.le_refl _) _ _ _)|fail)
  (first|(go_at_call 56;have _t:=hs2;refine(D2.out _).mono ?_;rintro _ y3 ⟨rfl,hs3⟩;have hC3:=ac hC2 hs3;have rk:=ak hC3 o_k;have e0:=af rk 0 rfl;have z0:=ar rk 0;have e1:=af rk 1 rfl;have z1:=ar rk 1;have e2:=af rk 2 rfl;have z2:=ar rk 2)|(go_at_call 56;have _t:=hs1;refine(D1.out _).mono ?_;rintro _ y2 ⟨rfl,hs2⟩;have hC2:=ac hC1 hs2)|(go_at_call 56;refine(D0.out _).mono ?_;rintro _ y1 ⟨rfl,hs1⟩;have hC1:=ac hC0 hs1))
 go_wp2
 exact bodyPost_ret (v:=.agg #[.int .i64 v0,.int .i64 v1,.int .i64 v2]) (by simp[results,results27,go_sem,e0,e1,e2]) rfl ⟨rfl,cX (ac hb0 hC3) (by omega) _ _ _⟩
theorem sq:ax 0:=by unfold ax;omega
theorem xl {s:Nat->Nat->Int} (hr:∀ i k,ax (s i k)) (hok:br (ce s) 4=true) (hT:br (dr s) 4=false) (w:World) :
  Calls prog 13 #[.agg #[.int .i64 (s 0 0),.int .i64 (s 0 1),.int .i64 (s 0 2)],.agg #[.int .i64 (s 1 0),.int .i64 (s 1 1),.int .i64 (s 1 2)],.agg #[.int .i64 (s 2 0),.int .i64 (s 2 1),.int .i64 (s 2 2)],.agg #[.int .i64 (s 3 0),.int .i64 (s 3 1),.int .i64 (s 3 2)]] w fun e w'=>e=.returned (.agg #[.int .i64 (aT (dX (vL s 3) 0 1 2) 0),.int .i64 (di s)])∧Below w.heap.size w w':=by
 have EX:Hid (∀ W,Calls prog 12 #[.agg #[.int .i64 (s 0 0),.int .i64 (s 0 1),.int .i64 (s 0 2)],.agg #[.int .i64 (s 1 0),.int .i64 (s 1 1),.int .i64 (s 1 2)],.agg #[.int .i64 (s 2 0),.int .i64 (s 2 1),.int .i64 (s 2 2)],.agg #[.int .i64 (s 3 0),.int .i64 (s 3 1),.int .i64 (s 3 2)]] W fun r w'=>∃ g o n c e V,r=.returned (.agg #[.bool g,.slice o n c,.int .i64 e])∧aM w' (.agg #[.bool g,.slice o n c,.int .i64 e]) V∧Hid (aT V 0=aT (dX (vL s 3) 0 1 2) 0)∧Below W.heap.size W w'):=fun W=>by
  refine(mS hr (fL hok) W).mono ?_
  rintro _ w' ⟨v,V,rfl,hd,hb,hv,-⟩
  obtain⟨g,o,n,c,e,rfl⟩:=hd.shape
  exact⟨g,o,n,c,e,V,rfl,hd.num,(by show _=_;rw[<- hv,iW (aJ _),iW (aJ _)]),hb⟩
 have CT:Hid (∀ W g,W.heap[g]?=some (.cells #[.int .i64 (s 0 0),.int .i64 (s 0 1),.int .i64 (s 0 2),.int .i64 (s 1 0),.int .i64 (s 1 1),.int .i64 (s 1 2),.int .i64 (s 2 0),.int .i64 (s 2 1),.int .i64 (s 2 2),.int .i64 (s 3 0),.int .i64 (s 3 1),.int .i64 (s 3 2)] 23 (0,0))->Calls prog 25 #[.slice (some ⟨g,0,none⟩) 4 4] W fun x w'=>x=.returned (.bool false)∧w'=W):=fun W g h=>by
  have:=kM _ 4 4 s W (ib s W h) hr
  rw[hT] at this
  exact this
 have hst:Hid (di s=6):=by
  show _=_
  unfold di
  rw[hT];rfl
 clear hr hok hT
 generalize aT (dX (vL s 3) 0 1 2) 0=sg at *
 generalize di s=st at *
 obtain rfl:st=6:=hst.out
 generalize s 0 0=cn at *
 generalize s 0 1=s01 at *
 generalize s 0 2=s02 at *
 generalize s 1 0=co at *
 generalize s 1 1=s11 at *
 generalize s 1 2=s12 at *
 generalize s 2 0=s20 at *
 generalize s 2 1=s21 at *
 generalize s 2 2=s22 at *
 generalize s 3 0=s30 at *
 generalize s 3 1=s31 at *
 generalize s 3 2=s32 at *
 obtain⟨hb0,p0_k,p1_k,p2_k,p3_k,o_k,hsz0⟩:=uF w (.cells #[.int .i64 cn,.int .i64 s01,.int .i64 s02] 23) (.cells #[.int .i64 co,.int .i64 s11,.int .i64 s12] 23) (.cells #[.int .i64 s20,.int .i64 s21,.int .i64 s22] 23) (.cells #[.int .i64 s30,.int .i64 s31,.int .i64 s32] 23) (.cells #[.int .i64 0,.int .i64 0] 27)
 clear hsz0
 go_enter func13,ntmps13
 have f_p00:=af p0_k 0 rfl
 have f_p01:=af p0_k 1 rfl
 have f_p02:=af p0_k 2 rfl
 have f_p10:=af p1_k 0 rfl
 have f_p11:=af p1_k 1 rfl
 have f_p12:=af p1_k 2 rfl
 have f_p20:=af p2_k 0 rfl
 have f_p21:=af p2_k 1 rfl
 have f_p22:=af p2_k 2 rfl
 have f_p30:=af p3_k 0 rfl
 have f_p31:=af p3_k 1 rfl
 have f_p32:=af p3_k 2 rfl
 go_wp2_with fail
 clear f_p00 f_p01 f_p02 f_p10 f_p11 f_p12 f_p20 f_p21 f_p22 f_p30 f_p31 f_p32
 generalize (((((w.alloc (.cells #[.int .i64 cn,.int .i64 s01,.int .i64 s02] 23)).alloc (.cells #[.int .i64 co,.int .i64 s11,.int .i64 s12] 23)).alloc (.cells #[.int .i64 s20,.int .i64 s21,.int .i64 s22] 23)).alloc (.cells #[.int .i64 s30,.int .i64 s31,.int .i64 s32] 23)).alloc (.cells #[.int .i64 0,.int .i64 0] 27))=x0 at hb0 p0_k p1_k p2_k p3_k o_k ⊢
 refine(EX.out _).mono ?_
 rintro _ y1 ⟨g,o,n,c,e,V,rfl,hD,hV,hw1⟩
 replace p0_k:=ak hw1 p0_k
 replace p1_k:=ak hw1 p1_k
 replace p2_k:=ak hw1 p2_k
 replace p3_k:=ak hw1 p3_k
 replace o_k:=ak hw1 o_k
 replace hb0:=ac hb0 hw1
 go_wp2_with fail
 refine(qg hD hV.out).mono ?_
 rintro _ y2 ⟨rfl,hw2⟩
 clear hD hV
 replace p0_k:=ak hw2 p0_k
 replace p1_k:=ak hw2 p1_k
 replace p2_k:=ak hw2 p2_k
 replace p3_k:=ak hw2 p3_k
 replace o_k:=ak hw2 o_k
 replace hb0:=ac hb0 hw2
 have f_p00:=af p0_k 0 rfl
 have f_p01:=af p0_k 1 rfl
 have f_p02:=af p0_k 2 rfl
 have f_p10:=af p1_k 0 rfl
 have f_p11:=af p1_k 1 rfl
 have f_p12:=af p1_k 2 rfl
 have f_p20:=af p2_k 0 rfl
 have f_p21:=af p2_k 1 rfl
 have f_p22:=af p2_k 2 rfl
 have f_p30:=af p3_k 0 rfl
 have f_p31:=af p3_k 1 rfl
 have f_p32:=af p3_k 2 rfl
 go_wp2_with fail
 clear f_p00 f_p01 f_p02 f_p10 f_p11 f_p12 f_p20 f_p21 f_p22 f_p30 f_p31 f_p32
 refine(CT.out _ _ (aA _ _)).mono ?_
 rintro _ _ ⟨rfl,rfl⟩
 have hw3:=ah y2 (.cells #[.int .i64 cn,.int .i64 s01,.int .i64 s02,.int .i64 co,.int .i64 s11,.int .i64 s12,.int .i64 s20,.int .i64 s21,.int .i64 s22,.int .i64 s30,.int .i64 s31,.int .i64 s32] 23)
 replace p0_k:=ak hw3 p0_k
 replace p1_k:=ak hw3 p1_k
 replace p2_k:=ak hw3 p2_k
 replace p3_k:=ak hw3 p3_k
 replace o_k:=ak hw3 o_k
 replace hb0:=ac hb0 hw3
 generalize y2.alloc (.cells #[.int .i64 cn,.int .i64 s01,.int .i64 s02,.int .i64 co,.int .i64 s11,.int .i64 s12,.int .i64 s20,.int .i64 s21,.int .i64 s22,.int .i64 s30,.int .i64 s31,.int .i64 s32] 23)=y3 at p0_k p1_k p2_k p3_k o_k hb0 ⊢
 clear hw3
 have k0:=af o_k 0 rfl
 have k1:=af o_k 1 rfl
 have z0:=ar o_k 0
 have z1:=ar o_k 1
 go_wp2
 exact bodyPost_ret (v:=.agg #[.int .i64 sg,.int .i64 6]) (by simp[results,results13,go_sem,k0,k1]) rfl ⟨rfl,(hb0.setCell (p:=⟨w.heap.size+4,0,none⟩) (show w.heap.size<=w.heap.size+4 by omega) _).setCell (p:=⟨w.heap.size+4,1,none⟩) (show w.heap.size<=w.heap.size+4 by omega) _⟩
theorem xp {s:Nat->Nat->Int} (hr:∀ i k,ax (s i k)) (hok:br (ce s) 4=true) (hT:br (dr s) 4=true) (w:World) :
    Calls prog 13 #[.agg #[.int .i64 (s 0 0),.int .i64 (s 0 1),.int .i64 (s 0 2)],.agg #[.int .i64 (s 1 0),.int .i64 (s 1 1),.int .i64 (s 1 2)],.agg #[.int .i64 (s 2 0),.int .i64 (s 2 1),.int .i64 (s 2 2)],.agg #[.int .i64 (s 3 0),.int .i64 (s 3 1),.int .i64 (s 3 2)]] w fun e w'=>e=.returned (.agg #[.int .i64 (aT (dX (vL s 3) 0 1 2) 0),.int .i64 (di s)])∧Below w.heap.size w w':=by
  have EX:Hid (∀ W,Calls prog 12 #[.agg #[.int .i64 (s 0 0),.int .i64 (s 0 1),.int .i64 (s 0 2)],.agg #[.int .i64 (s 1 0),.int .i64 (s 1 1),.int .i64 (s 1 2)],.agg #[.int .i64 (s 2 0),.int .i64 (s 2 1),.int .i64 (s 2 2)],.agg #[.int .i64 (s 3 0),.int .i64 (s 3 1),.int .i64 (s 3 2)]] W fun r w'=>∃ g o n c e V,r=.returned (.agg #[.bool g,.slice o n c,.int .i64 e])∧aM w' (.agg #[.bool g,.slice o n c,.int .i64 e]) V∧Hid (aT V 0=aT (dX (vL s 3) 0 1 2) 0)∧Below W.heap.size W w'):=fun W=>by
    refine(mS hr (fL hok) W).mono ?_
    rintro _ w' ⟨v,V,rfl,hd,hb,hv,-⟩
    obtain⟨g,o,n,c,e,rfl⟩:=hd.shape
    exact⟨g,o,n,c,e,V,rfl,hd.num,(by show _=_;rw[<- hv,iW (aJ _),iW (aJ _)]),hb⟩
  have CT:Hid (∀ W g,W.heap[g]?=some (.cells #[.int .i64 (s 0 0),.int .i64 (s 0 1),.int .i64 (s 0 2),.int .i64 (s 1 0),.int .i64 (s 1 1),.int .i64 (s 1 2),.int .i64 (s 2 0),.int .i64 (s 2 1),.int .i64 (s 2 2),.int .i64 (s 3 0),.int .i64 (s 3 1),.int .i64 (s 3 2)] 23 (0,0))->Calls prog 25 #[.slice (some ⟨g,0,none⟩) 4 4] W fun x w'=>x=.returned (.bool true)∧w'=W):=fun W g h=>by
    have:=kM _ 4 4 s W (ib s W h) hr
    rw[hT] at this
    exact this
  have hz:∀ i,i<=3->∀ k,k<3->Mz (s i k):=fun i hi k hk=>gA (hr i k) (jq hT i hi k hk)
  have hru:∀ i k,ax (uL s 3 i k):=fun i k=>by
    unfold uL
    split
    · exact bk (hr _ _) (dD (hr _ _))
    · exact sq
  have R0:Hid (∀ W,Calls prog 27 #[.agg #[.int .i64 (s 0 0),.int .i64 (s 0 1),.int .i64 (s 0 2)],.agg #[.int .i64 (s 3 0),.int .i64 (s 3 1),.int .i64 (s 3 2)]] W fun e w'=>e=.returned (.agg #[.int .i64 (uL s 3 0 0),.int .i64 (uL s 3 0 1),.int .i64 (uL s 3 0 2)])∧Below W.heap.size W w'):=fun W=>fk 0 3 hr W
  have R1:Hid (∀ W,Calls prog 27 #[.agg #[.int .i64 (s 1 0),.int .i64 (s 1 1),.int .i64 (s 1 2)],.agg #[.int .i64 (s 3 0),.int .i64 (s 3 1),.int .i64 (s 3 2)]] W fun e w'=>e=.returned (.agg #[.int .i64 (uL s 3 1 0),.int .i64 (uL s 3 1 1),.int .i64 (uL s 3 1 2)])∧Below W.heap.size W w'):=fun W=>fk 1 3 hr W
  have R2:Hid (∀ W,Calls prog 27 #[.agg #[.int .i64 (s 2 0),.int .i64 (s 2 1),.int .i64 (s 2 2)],.agg #[.int .i64 (s 3 0),.int .i64 (s 3 1),.int .i64 (s 3 2)]] W fun e w'=>e=.returned (.agg #[.int .i64 (uL s 3 2 0),.int .i64 (uL s 3 2 1),.int .i64 (uL s 3 2 2)])∧Below W.heap.size W w'):=fun W=>fk 2 3 hr W
  have CF:Hid (∀ W,Calls prog 26 #[.agg #[.int .i64 (uL s 3 0 0),.int .i64 (uL s 3 0 1),.int .i64 (uL s 3 0 2)],.agg #[.int .i64 (uL s 3 1 0),.int .i64 (uL s 3 1 1),.int .i64 (uL s 3 1 2)],.agg #[.int .i64 (uL s 3 2 0),.int .i64 (uL s 3 2 1),.int .i64 (uL s 3 2 2)]] W fun e w'=>e=.returned (.tuple #[.int .i64 (rD (uL s 3)),.int .i64 (bW (uL s 3) 0 1 2)])∧Below W.heap.size W w'):=fun W=>yU hru W
  have CK:Hid (∀ W,Calls prog 29 #[.int .i64 7881299347898375,.int .i64 (-103)] W fun e w'=>e=.returned (.int .i64 sA)∧Below W.heap.size W w'):=fun W=>xj W
  have hsm:=wV (bQ hz 0) (bQ hz 1) (bQ hz 2)
  have hvv:=BG (bQ hz 0) (bQ hz 1) (bQ hz 2)
  have hfx:=oD hz
  have rss:ax (bW (uL s 3) 0 1 2):=hfx.2.2.1
  have hsg:Hid (bl (av sA (bW (uL s 3) 0 1 2))<rg (dt (uL s 3) 0 1 2)->eK (dt (uL s 3) 0 1 2)=aT (dX (vL s 3) 0 1 2) 0):=fun h=>mN hr hz h
  have CD:Hid (∀ W,Calls prog 28 #[.int .i64 (rD (uL s 3)),.int .i64 (bW (uL s 3) 0 1 2),.int .i64 sA] W fun e w'=>e=.returned (.tuple #[.agg #[.int .i64 (eK (dt (uL s 3) 0 1 2)),.int .i64 1],.bool (decide (bl (av sA (bW (uL s 3) 0 1 2))<rg (dt (uL s 3) 0 1 2)))])∧Below W.heap.size W w'):=fun W=>by
    have:=oc hvv.r rss fo W
    rw[hsm.1,hsm.2] at this
    exact this
  have hst:Hid (di s=if bl (av sA (bW (uL s 3) 0 1 2))<rg (dt (uL s 3) 0 1 2) then 1 else 4):=by
    show _=_
    unfold di
    rw[hT];rfl
  clear hr hok hT hz hru hsm hvv hfx rss
  generalize aT (dX (vL s 3) 0 1 2) 0=sg at *
  generalize di s=st at *
  generalize eK (dt (uL s 3) 0 1 2)=sd at *
  generalize hcc:(decide (bl (av sA (bW (uL s 3) 0 1 2))<rg (dt (uL s 3) 0 1 2)))=cc at *
  have hst2:Hid (st=if cc then 1 else 4):=by
    show st=_
    rw[hst.out,<- hcc]
    by_cases c:bl (av sA (bW (uL s 3) 0 1 2))<rg (dt (uL s 3) 0 1 2)
    · rw[if_pos c,decide_eq_true c];rfl
    · rw[if_neg c,decide_eq_false c];rfl
  have hsg2:Hid (cc=true->sd=sg):=fun h=>hsg.out (of_decide_eq_true (hcc.trans h))
  clear hst hsg hcc
  generalize rD (uL s 3)=DD at *
  generalize bW (uL s 3) 0 1 2=SS at *
  generalize sA=KA at *
  generalize uL s 3 0 0=u00 at *
  generalize uL s 3 0 1=u01 at *
  generalize uL s 3 0 2=u02 at *
  generalize uL s 3 1 0=u10 at *
  generalize uL s 3 1 1=u11 at *
  generalize uL s 3 1 2=u12 at *
  generalize uL s 3 2 0=u20 at *
  generalize uL s 3 2 1=u21 at *
  generalize uL s 3 2 2=u22 at *
  generalize s 0 0=cn at *
  generalize s 0 1=s01 at *
  generalize s 0 2=s02 at *
  generalize s 1 0=co at *
  generalize s 1 1=s11 at *
  generalize s 1 2=s12 at *
  generalize s 2 0=s20 at *
  generalize s 2 1=s21 at *
  generalize s 2 2=s22 at *
  generalize s 3 0=s30 at *
  generalize s 3 1=s31 at *
  generalize s 3 2=s32 at *
  obtain⟨hb0,p0_k,p1_k,p2_k,p3_k,o_k,hsz0⟩:=uF w (.cells #[.int .i64 cn,.int .i64 s01,.int .i64 s02] 23) (.cells #[.int .i64 co,.int .i64 s11,.int .i64 s12] 23) (.cells #[.int .i64 s20,.int .i64 s21,.int .i64 s22] 23) (.cells #[.int .i64 s30,.int .i64 s31,.int .i64 s32] 23) (.cells #[.int .i64 0,.int .i64 0] 27)
  clear hsz0
  go_enter func13,ntmps13
  have f_p00:=af p0_k 0 rfl
  have f_p01:=af p0_k 1 rfl
  have f_p02:=af p0_k 2 rfl
  have f_p10:=af p1_k 0 rfl
  have f_p11:=af p1_k 1 rfl
  have f_p12:=af p1_k 2 rfl
  have f_p20:=af p2_k 0 rfl
  have f_p21:=af p2_k 1 rfl
  have f_p22:=af p2_k 2 rfl
  have f_p30:=af p3_k 0 rfl
  have f_p31:=af p3_k 1 rfl
  have f_p32:=af p3_k 2 rfl
  go_wp2_with fail
  clear f_p00 f_p01 f_p02 f_p10 f_p11 f_p12 f_p20 f_p21 f_p22 f_p30 f_p31 f_p32
  generalize (((((w.alloc (.cells #[.int .i64 cn,.int .i64 s01,.int .i64 s02] 23)).alloc (.cells #[.int .i64 co,.int .i64 s11,.int .i64 s12] 23)).alloc (.cells #[.int .i64 s20,.int .i64 s21,.int .i64 s22] 23)).alloc (.cells #[.int .i64 s30,.int .i64 s31,.int .i64 s32] 23)).alloc (.cells #[.int .i64 0,.int .i64 0] 27))=x0 at hb0 p0_k p1_k p2_k p3_k o_k ⊢
  refine(EX.out _).mono ?_
  rintro _ y1 ⟨g,o,n,c,e,V,rfl,hD,hV,hw1⟩
  replace p0_k:=ak hw1 p0_k
  replace p1_k:=ak hw1 p1_k
  replace p2_k:=ak hw1 p2_k
  replace p3_k:=ak hw1 p3_k
  replace o_k:=ak hw1 o_k
  replace hb0:=ac hb0 hw1
  go_wp2_with fail
  refine(qg hD hV.out).mono ?_
  rintro _ y2 ⟨rfl,hw2⟩
  clear hD hV
  replace p0_k:=ak hw2 p0_k
  replace p1_k:=ak hw2 p1_k
  replace p2_k:=ak hw2 p2_k
  replace p3_k:=ak hw2 p3_k
  replace o_k:=ak hw2 o_k
  replace hb0:=ac hb0 hw2
  have f_p00:=af p0_k 0 rfl
  have f_p01:=af p0_k 1 rfl
  have f_p02:=af p0_k 2 rfl
  have f_p10:=af p1_k 0 rfl
  have f_p11:=af p1_k 1 rfl
  have f_p12:=af p1_k 2 rfl
  have f_p20:=af p2_k 0 rfl
  have f_p21:=af p2_k 1 rfl
  have f_p22:=af p2_k 2 rfl
  have f_p30:=af p3_k 0 rfl
  have f_p31:=af p3_k 1 rfl
  have f_p32:=af p3_k 2 rfl
  go_wp2_with fail
  clear f_p00 f_p01 f_p02 f_p10 f_p11 f_p12 f_p20 f_p21 f_p22 f_p30 f_p31 f_p32
  refine(CT.out _ _ (aA _ _)).mono ?_
  rintro _ _ ⟨rfl,rfl⟩
  have hw3:=ah y2 (.cells #[.int .i64 cn,.int .i64 s01,.int .i64 s02,.int .i64 co,.int .i64 s11,.int .i64 s12,.int .i64 s20,.int .i64 s21,.int .i64 s22,.int .i64 s30,.int .i64 s31,.int .i64 s32] 23)
  replace p0_k:=ak hw3 p0_k
  replace p1_k:=ak hw3 p1_k
  replace p2_k:=ak hw3 p2_k
  replace p3_k:=ak hw3 p3_k
  replace o_k:=ak hw3 o_k
  replace hb0:=ac hb0 hw3
  generalize y2.alloc (.cells #[.int .i64 cn,.int .i64 s01,.int .i64 s02,.int .i64 co,.int .i64 s11,.int .i64 s12,.int .i64 s20,.int .i64 s21,.int .i64 s22,.int .i64 s30,.int .i64 s31,.int .i64 s32] 23)=y3 at p0_k p1_k p2_k p3_k o_k hb0 ⊢
  clear hw3
  go_wp2_with fail
  have KK4:∀ W,Below y3.heap.size y3 W->W.cell? ⟨w.heap.size,0,none⟩=some (.int .i64 cn)∧W.cell? ⟨w.heap.size,1,none⟩=some (.int .i64 s01)∧W.cell? ⟨w.heap.size,2,none⟩=some (.int .i64 s02)∧W.cell? ⟨w.heap.size+1,0,none⟩=some (.int .i64 co)∧W.cell? ⟨w.heap.size+1,1,none⟩=some (.int .i64 s11)∧W.cell? ⟨w.heap.size+1,2,none⟩=some (.int .i64 s12)∧W.cell? ⟨w.heap.size+2,0,none⟩=some (.int .i64 s20)∧W.cell? ⟨w.heap.size+2,1,none⟩=some (.int .i64 s21)∧W.cell? ⟨w.heap.size+2,2,none⟩=some (.int .i64 s22)∧W.cell? ⟨w.heap.size+3,0,none⟩=some (.int .i64 s30)∧W.cell? ⟨w.heap.size+3,1,none⟩=some (.int .i64 s31)∧W.cell? ⟨w.heap.size+3,2,none⟩=some (.int .i64 s32):=fun W hb=>⟨aj (af p0_k 0 rfl) hb,aj (af p0_k 1 rfl) hb,aj (af p0_k 2 rfl) hb,aj (af p1_k 0 rfl) hb,aj (af p1_k 1 rfl) hb,aj (af p1_k 2 rfl) hb,aj (af p2_k 0 rfl) hb,aj (af p2_k 1 rfl) hb,aj (af p2_k 2 rfl) hb,aj (af p3_k 0 rfl) hb,aj (af p3_k 1 rfl) hb,aj (af p3_k 2 rfl) hb⟩
  have hC4_0:=(al y3).drew
  have hs4_0:=(al y3).drew
  go_region_held3 (fun W=>W.cell? ⟨w.heap.size,0,none⟩=some (.int .i64 cn)∧W.cell? ⟨w.heap.size,1,none⟩=some (.int .i64 s01)∧W.cell? ⟨w.heap.size,2,none⟩=some (.int .i64 s02)∧W.cell? ⟨w.heap.size+1,0,none⟩=some (.int .i64 co)∧W.cell? ⟨w.heap.size+1,1,none⟩=some (.int .i64 s11)∧W.cell? ⟨w.heap.size+1,2,none⟩=some (.int .i64 s12)∧W.cell? ⟨w.heap.size+2,0,none⟩=some (.int .i64 s20)∧W.cell? ⟨w.heap.size+2,1,none⟩=some (.int .i64 s21)∧W.cell? ⟨w.heap.size+2,2,none⟩=some (.int .i64 s22)∧W.cell? ⟨w.heap.size+3,0,none⟩=some (.int .i64 s30)∧W.cell? ⟨w.heap.size+3,1,none⟩=some (.int .i64 s31)∧W.cell? ⟨w.heap.size+3,2,none⟩=some (.int .i64 s32))
    (with_reducible first|assumption|exact KK4 _ hC4_0|exact KK4 _ hC4_1|exact KK4 _ hC4_2|exact KK4 _ hC4_3|exact KK4 _ hC4_4|fail)
    (first
      | (go_at_call 26;have _t:=hs4_3;refine(CF.out _).mono ?_;rintro _ y4_4 ⟨rfl,hs4_4⟩;have hC4_4:=ac hC4_3 hs4_4)
      | (go_at_call 27;have _t:=hs4_2;refine(R2.out _).mono ?_;rintro _ y4_3 ⟨rfl,hs4_3⟩;have hC4_3:=ac hC4_2 hs4_3)
      | (go_at_call 27;have _t:=hs4_1;refine(R1.out _).mono ?_;rintro _ y4_2 ⟨rfl,hs4_2⟩;have hC4_2:=ac hC4_1 hs4_2)
      | (go_at_call 27; refine (R0.out _).mono ?_; rintro _ y4_1 ⟨rfl,hs4_1⟩; have hC4_1:=ac hC4_0 hs4_1))
  replace p0_k:=ak hC4_4 p0_k
  replace p1_k:=ak hC4_4 p1_k
  replace p2_k:=ak hC4_4 p2_k
  replace p3_k:=ak hC4_4 p3_k
  replace o_k:=ak hC4_4 o_k
  replace hb0:=ac hb0 hC4_4
  go_wp2_with fail
  refine(CK.out _).mono ?_
  rintro _ y5 ⟨rfl,hw5⟩
  replace p0_k:=ak hw5 p0_k
  replace p1_k:=ak hw5 p1_k
  replace p2_k:=ak hw5 p2_k
  replace p3_k:=ak hw5 p3_k
  replace o_k:=ak hw5 o_k
  replace hb0:=ac hb0 hw5
  go_wp2_with fail
  refine(CD.out _).mono ?_
  rintro _ y6 ⟨rfl,hw6⟩
  replace p0_k:=ak hw6 p0_k
  replace p1_k:=ak hw6 p1_k
  replace p2_k:=ak hw6 p2_k
  replace p3_k:=ak hw6 p3_k
  replace o_k:=ak hw6 o_k
  replace hb0:=ac hb0 hw6
  have v_k:=aA y6 (.cells #[.int .i64 sd,.int .i64 1] 27)
  replace o_k:=ap (.cells #[.int .i64 sd,.int .i64 1] 27) o_k
  replace hb0:=ac hb0 (ah y6 (.cells #[.int .i64 sd,.int .i64 1] 27))
  have j0:=af v_k 0 rfl
  have j1:=af v_k 1 rfl
  have k0:=af o_k 0 rfl
  have k1:=af o_k 1 rfl
  have z0:=ar o_k 0
  have z1:=ar o_k 1
  cases cc
  · obtain rfl:st=4:=hst2.out
    go_wp2
    exact bodyPost_ret (v:=.agg #[.int .i64 sg,.int .i64 4]) (by simp[results,results13,go_sem,k0,k1]) rfl ⟨rfl,(hb0.setCell (p:=⟨w.heap.size+4,0,none⟩) (show w.heap.size<=w.heap.size+4 by omega) _).setCell (p:=⟨w.heap.size+4,1,none⟩) (show w.heap.size<=w.heap.size+4 by omega) _⟩
  · obtain rfl:st=1:=hst2.out
    obtain rfl:sd=sg:=hsg2.out rfl
    go_wp2
    exact bodyPost_ret (v:=.agg #[.int .i64 sd,.int .i64 1]) (by simp[results,results13,go_sem,k0,k1]) rfl ⟨rfl,(hb0.setCell (p:=⟨w.heap.size+4,0,none⟩) (show w.heap.size<=w.heap.size+4 by omega) _).setCell (p:=⟨w.heap.size+4,1,none⟩) (show w.heap.size<=w.heap.size+4 by omega) _⟩
end Go.Proofs.YtcklaogdjpbagaaGreatDoor
