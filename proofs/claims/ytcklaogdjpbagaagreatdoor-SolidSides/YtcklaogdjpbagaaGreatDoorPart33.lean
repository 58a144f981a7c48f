/- Parts of the proof. -/
import Derived.Test.YtcklaogdjpbagaaGreatDoorPart31
import Derived.Test.YtcklaogdjpbagaaGreatDoorPart32
import Derived.Test.YtcklaogdjpbagaaGreatDoorPart17
import Derived.Test.YtcklaogdjpbagaaGreatDoorPart19
import Derived.Test.YtcklaogdjpbagaaGreatDoorPart7
import Derived.Deep.RegionHeld3
set_option maxRecDepth 100000
set_option maxHeartbeats 8000000
set_option linter.unusedVariables false
set_option linter.unusedSimpArgs false
namespace Go.Proofs.YtcklaogdjpbagaaGreatDoor
open Go Go.Proofs.Tryz Go.RowKit Go.Proofs.YtcklaogdjpbagaaGreatDoor.M
theorem kZ {V S:Int} (h:0<S):aW (V*S) 0=aW V 0:=by
 refine qX ⟨fun q=>?_,fun q=>Int.mul_pos q h⟩ ⟨fun q=>?_,fun q=>Int.mul_neg_of_neg_of_pos q h⟩
 ·rcases Int.lt_or_le 0 V with c|c
  ·exact c
  ·have:=Int.mul_le_mul_of_nonneg_right c (Int.le_of_lt h)
   rw[Int.zero_mul] at this
   omega
 ·rcases Int.lt_or_le V 0 with c|c
  ·exact c
  ·have:=Int.mul_nonneg c (Int.le_of_lt h)
   omega
theorem wX {w:World} {g:Bool} {o:Option Addr} {n c:Nat} {e V z:Int} (h:aM w (.agg #[.bool g,.slice o n c,.int .i64 e]) V) (hz:aW V 0=z) :
  Calls prog 24 #[.agg #[.bool g,.slice o n c,.int .i64 e]] w fun r w'=>r=.returned (.int .i64 z)∧Below w.heap.size w w':=by
 obtain⟨hs,hm⟩:=yb h
 rw[<- hz,<- hs]
 have CS:Hid (∀ W,Calls prog 50 #[.agg #[.bool g,.slice o n c,.int .i64 e]] W fun r w'=>r=.returned (.int .i64 (sgn g n))∧Below W.heap.size W w'):=fun W=>r7 g o n c e W hm
 clear hs h hz
 generalize sgn g n=s at *
 have hb:=ah w (.cells #[.bool g,.slice o n c,.int .i64 e] 33)
 go_enter func24,ntmps24
 go_wp2_with fail
 refine(CS.out _).mono ?_
 rintro _ y1 ⟨rfl,hw1⟩
 have hb1:=af hb hw1
 go_wp2
 go_ret
 exact⟨rfl,hb1⟩
theorem jV {s:Nat->Nat->Int} (i j:Nat) (hr:∀ i k,ar (s i k)) (w:World) :
  Calls prog 27 #[.agg #[.int .i64 (s i 0),.int .i64 (s i 1),.int .i64 (s i 2)],.agg #[.int .i64 (s j 0),.int .i64 (s j 1),.int .i64 (s j 2)]] w fun e w'=>e=.returned (.agg #[.int .i64 (az (s i 0) (neg (s j 0))),.int .i64 (az (s i 1) (neg (s j 1))),.int .i64 (az (s i 2) (neg (s j 2)))])∧Below w.heap.size w w':=by
 have D0:Hid (∀ W,Calls prog 56 #[.int .i64 (s i 0),.int .i64 (s j 0)] W fun e w'=>e=.returned (.int .i64 (az (s i 0) (neg (s j 0))))∧Below W.heap.size W w'):=fun W=>iN _ _ (hr _ _) (hr _ _) W
 have D1:Hid (∀ W,Calls prog 56 #[.int .i64 (s i 1),.int .i64 (s j 1)] W fun e w'=>e=.returned (.int .i64 (az (s i 1) (neg (s j 1))))∧Below W.heap.size W w'):=fun W=>iN _ _ (hr _ _) (hr _ _) W
 have D2:Hid (∀ W,Calls prog 56 #[.int .i64 (s i 2),.int .i64 (s j 2)] W fun e w'=>e=.returned (.int .i64 (az (s i 2) (neg (s j 2))))∧Below W.heap.size W w'):=fun W=>iN _ _ (hr _ _) (hr _ _) W
 clear hr
 generalize az (s i 0) (neg (s j 0))=v0 at *
 generalize az (s i 1) (neg (s j 1))=v1 at *
 generalize az (s i 2) (neg (s j 2))=v2 at *
 generalize s i 0=p0 at *
 generalize s j 0=q0 at *
 generalize s i 1=p1 at *
 generalize s j 1=q1 at *
 generalize s i 2=p2 at *
 generalize s j 2=q2 at *
 obtain⟨hb0,a_k,b_k,o_k,hsz0⟩:=od w (.cells #[.int .i64 p0,.int .i64 p1,.int .i64 p2] 23) (.cells #[.int .i64 q0,.int .i64 q1,.int .i64 q2] 23) (.cells #[.int .i64 0,.int .i64 0,.int .i64 0] 70)
 clear hsz0
 go_enter func27,ntmps27
 go_wp2_with fail
 generalize (((w.alloc (.cells #[.int .i64 p0,.int .i64 p1,.int .i64 p2] 23)).alloc (.cells #[.int .i64 q0,.int .i64 q1,.int .i64 q2] 23)).alloc (.cells #[.int .i64 0,.int .i64 0,.int .i64 0] 70))=x0 at hb0 a_k b_k o_k ⊢
 have hs0:=(aGe o_k).1
 have KK:∀ W,Below (w.heap.size+2) x0 W->W.cell? ⟨w.heap.size,0,none⟩=some (.int .i64 p0)∧W.cell? ⟨w.heap.size,1,none⟩=some (.int .i64 p1)∧W.cell? ⟨w.heap.size,2,none⟩=some (.int .i64 p2)∧W.cell? ⟨w.heap.size+1,0,none⟩=some (.int .i64 q0)∧W.cell? ⟨w.heap.size+1,1,none⟩=some (.int .i64 q1)∧W.cell? ⟨w.heap.size+1,2,none⟩=some (.int .i64 q2):=fun W hb=>⟨br (ac a_k 0 rfl) hb (show w.heap.size<w.heap.size+2 by omega),br (ac a_k 1 rfl) hb (show w.heap.size<w.heap.size+2 by omega),br (ac a_k 2 rfl) hb (show w.heap.size<w.heap.size+2 by omega),br (ac b_k 0 rfl) hb (show w.heap.size+1<w.heap.size+2 by omega),br (ac b_k 1 rfl) hb (show w.heap.size+1<w.heap.size+2 by omega),br (ac b_k 2 rfl) hb (show w.heap.size+1<w.heap.size+2 by omega)⟩
 have hlt:w.heap.size+2<=x0.heap.size:=by omega
 have hC0:=(ap x0).drew
 go_region_held3 (fun W=>W.cell? ⟨w.heap.size,0,none⟩=some (.int .i64 p0)∧W.cell? ⟨w.heap.size,1,none⟩=some (.int .i64 p1)∧W.cell? ⟨w.heap.size,2,none⟩=some (.int .i64 p2)∧W.cell? ⟨w.heap.size+1,0,none⟩=some (.int .i64 q0)∧W.cell? ⟨w.heap.size+1,1,none⟩=some (.int .i64 q1)∧W.cell? ⟨w.heap.size+1,2,none⟩=some (.int .i64 q2))
  (with_reducible first|assumption|exact KK _ (hC0.mono hlt)|exact KK _ (hC1.mono hlt)|exact KK _ (hC2.mono hlt)|exact KK _ (hC3.mono hlt)|exact KK _ (lG (hC3.mono hlt) (Nat.le_refl _) _ _ _)|fail)
  (first|(go_at_call 56;have _t:=hs2;refine(D2.out _).mono ?_;rintro _ y3 ⟨rfl,hs3⟩;have hC3:=af hC2 hs3;have rk:=ak hC3 o_k;have e0:=ac rk 0 rfl;have z0:=aq rk 0;have e1:=ac rk 1 rfl;have z1:=aq rk 1;have e2:=ac rk 2 rfl;have z2:=aq rk 2)|(go_at_call 56;have _t:=hs1;refine(D1.out _).mono ?_;rintro _ y2 ⟨rfl,hs2⟩;have hC2:=af hC1 hs2)|(go_at_call 56;refine(D0.out _).mono ?_;rintro _ y1 ⟨rfl,hs1⟩;have hC1:=af hC0 hs1))
 go_wp2
 exact bodyPost_ret (v:=.agg #[.int .i64 v0,.int .i64 v1,.int .i64 v2]) (by simp[results,results27,go_sem,e0,e1,e2]) rfl ⟨rfl,di (af hb0 hC3) (by omega) _ _ _⟩
theorem ws:ar 0:=by unfold ar;omega
theorem uI {s:Nat->Nat->Int} (hr:∀ i k,ar (s i k)) (hok:bQ (cy s) 4=true) (hT:bQ (dM s) 4=false) (w:World) :
  Calls prog 13 #[.agg #[.int .i64 (s 0 0),.int .i64 (s 0 1),.int .i64 (s 0 2)],.agg #[.int .i64 (s 1 0),.int .i64 (s 1 1),.int .i64 (s 1 2)],.agg #[.int .i64 (s 2 0),.int .i64 (s 2 1),.int .i64 (s 2 2)],.agg #[.int .i64 (s 3 0),.int .i64 (s 3 1),.int .i64 (s 3 2)]] w fun e w'=>e=.returned (.agg #[.int .i64 (aW (dX (vL s 3) 0 1 2) 0),.int .i64 (cA s)])∧Below w.heap.size w w':=by
 have EX:Hid (∀ W,Calls prog 12 #[.agg #[.int .i64 (s 0 0),.int .i64 (s 0 1),.int .i64 (s 0 2)],.agg #[.int .i64 (s 1 0),.int .i64 (s 1 1),.int .i64 (s 1 2)],.agg #[.int .i64 (s 2 0),.int .i64 (s 2 1),.int .i64 (s 2 2)],.agg #[.int .i64 (s 3 0),.int .i64 (s 3 1),.int .i64 (s 3 2)]] W fun r w'=>∃ g o n c e V,r=.returned (.agg #[.bool g,.slice o n c,.int .i64 e])∧aM w' (.agg #[.bool g,.slice o n c,.int .i64 e]) V∧Hid (aW V 0=aW (dX (vL s 3) 0 1 2) 0)∧Below W.heap.size W w'):=fun W=>by
  refine(lI hr (eZ hok) W).mono ?_
  rintro _ w' ⟨v,V,rfl,hd,hb,hv,-⟩
  obtain⟨g,o,n,c,e,rfl⟩:=hd.shape
  exact⟨g,o,n,c,e,V,rfl,hd.num,(by show _=_;rw[<- hv,kZ (aB _),kZ (aB _)]),hb⟩
 have CT:Hid (∀ W g,W.heap[g]?=some (.cells #[.int .i64 (s 0 0),.int .i64 (s 0 1),.int .i64 (s 0 2),.int .i64 (s 1 0),.int .i64 (s 1 1),.int .i64 (s 1 2),.int .i64 (s 2 0),.int .i64 (s 2 1),.int .i64 (s 2 2),.int .i64 (s 3 0),.int .i64 (s 3 1),.int .i64 (s 3 2)] 23 (0,0))->Calls prog 25 #[.slice (some ⟨g,0,none⟩) 4 4] W fun x w'=>x=.returned (.bool false)∧w'=W):=fun W g h=>by
  have:=pN _ 4 4 s W (gE s W h) hr
  rw[hT] at this
  exact this
 have hst:Hid (cA s=6):=by
  show _=_
  unfold cA
  rw[hT];rfl
 clear hr hok hT
 generalize aW (dX (vL s 3) 0 1 2) 0=sg at *
 generalize cA s=st at *
 obtain rfl:st=6:=hst.out
 generalize s 0 0=dE at *
 generalize s 0 1=s01 at *
 generalize s 0 2=s02 at *
 generalize s 1 0=dN at *
 generalize s 1 1=s11 at *
 generalize s 1 2=s12 at *
 generalize s 2 0=s20 at *
 generalize s 2 1=s21 at *
 generalize s 2 2=s22 at *
 generalize s 3 0=s30 at *
 generalize s 3 1=s31 at *
 generalize s 3 2=s32 at *
 obtain⟨hb0,p0_k,p1_k,p2_k,p3_k,o_k,hsz0⟩:=sw w (.cells #[.int .i64 dE,.int .i64 s01,.int .i64 s02] 23) (.cells #[.int .i64 dN,.int .i64 s11,.int .i64 s12] 23) (.cells #[.int .i64 s20,.int .i64 s21,.int .i64 s22] 23) (.cells #[.int .i64 s30,.int .i64 s31,.int .i64 s32] 23) (.cells #[.int .i64 0,.int .i64 0] 27)
 clear hsz0
 go_enter func13,ntmps13
 have f_p00:=ac p0_k 0 rfl
 have f_p01:=ac p0_k 1 rfl
 have f_p02:=ac p0_k 2 rfl
 have f_p10:=ac p1_k 0 rfl
 have f_p11:=ac p1_k 1 rfl
 have f_p12:=ac p1_k 2 rfl
 have f_p20:=ac p2_k 0 rfl
 have f_p21:=ac p2_k 1 rfl
 have f_p22:=ac p2_k 2 rfl
 have f_p30:=ac p3_k 0 rfl
 have f_p31:=ac p3_k 1 rfl
 have f_p32:=ac p3_k 2 rfl
 go_wp2_with fail
 clear f_p00 f_p01 f_p02 f_p10 f_p11 f_p12 f_p20 f_p21 f_p22 f_p30 f_p31 f_p32
 generalize (((((w.alloc (.cells #[.int .i64 dE,.int .i64 s01,.int .i64 s02] 23)).alloc (.cells #[.int .i64 dN,.int .i64 s11,.int .i64 s12] 23)).alloc (.cells #[.int .i64 s20,.int .i64 s21,.int .i64 s22] 23)).alloc (.cells #[.int .i64 s30,.int .i64 s31,.int .i64 s32] 23)).alloc (.cells #[.int .i64 0,.int .i64 0] 27))=x0 at hb0 p0_k p1_k p2_k p3_k o_k ⊢
 refine(EX.out _).mono ?_
 rintro _ y1 ⟨g,o,n,c,e,V,rfl,hD,hV,hw1⟩
 replace p0_k:=ak hw1 p0_k
 replace p1_k:=ak hw1 p1_k
 replace p2_k:=ak hw1 p2_k
 replace p3_k:=ak hw1 p3_k
 replace o_k:=ak hw1 o_k
 replace hb0:=af hb0 hw1
 go_wp2_with fail
 refine(wX hD hV.out).mono ?_
 rintro _ y2 ⟨rfl,hw2⟩
 clear hD hV
 replace p0_k:=ak hw2 p0_k
 replace p1_k:=ak hw2 p1_k
 replace p2_k:=ak hw2 p2_k
 replace p3_k:=ak hw2 p3_k
 replace o_k:=ak hw2 o_k
 replace hb0:=af hb0 hw2
 have f_p00:=ac p0_k 0 rfl
 have f_p01:=ac p0_k 1 rfl
 have f_p02:=ac p0_k 2 rfl
 have f_p10:=ac p1_k 0 rfl
 have f_p11:=ac p1_k 1 rfl
 have f_p12:=ac p1_k 2 rfl
 have f_p20:=ac p2_k 0 rfl
 have f_p21:=ac p2_k 1 rfl
 have f_p22:=ac p2_k 2 rfl
 have f_p30:=ac p3_k 0 rfl
 have f_p31:=ac p3_k 1 rfl
 have f_p32:=ac p3_k 2 rfl
 go_wp2_with fail
 clear f_p00 f_p01 f_p02 f_p10 f_p11 f_p12 f_p20 f_p21 f_p22 f_p30 f_p31 f_p32
 refine(CT.out _ _ (aK _ _)).mono ?_
 rintro _ _ ⟨rfl,rfl⟩
 have hw3:=ah y2 (.cells #[.int .i64 dE,.int .i64 s01,.int .i64 s02,.int .i64 dN,.int .i64 s11,.int .i64 s12,.int .i64 s20,.int .i64 s21,.int .i64 s22,.int .i64 s30,.int .i64 s31,.int .i64 s32] 23)
 replace p0_k:=ak hw3 p0_k
 replace p1_k:=ak hw3 p1_k
 replace p2_k:=ak hw3 p2_k
 replace p3_k:=ak hw3 p3_k
 replace o_k:=ak hw3 o_k
 replace hb0:=af hb0 hw3
 generalize y2.alloc (.cells #[.int .i64 dE,.int .i64 s01,.int .i64 s02,.int .i64 dN,.int .i64 s11,.int .i64 s12,.int .i64 s20,.int .i64 s21,.int .i64 s22,.int .i64 s30,.int .i64 s31,.int .i64 s32] 23)=y3 at p0_k p1_k p2_k p3_k o_k hb0 ⊢
 clear hw3
 have k0:=ac o_k 0 rfl
 have k1:=ac o_k 1 rfl
 have z0:=aq o_k 0
 have z1:=aq o_k 1
 go_wp2
 exact bodyPost_ret (v:=.agg #[.int .i64 sg,.int .i64 6]) (by simp[results,results13,go_sem,k0,k1]) rfl ⟨rfl,(hb0.setCell (p:=⟨w.heap.size+4,0,none⟩) (show w.heap.size<=w.heap.size+4 by omega) _).setCell (p:=⟨w.heap.size+4,1,none⟩) (show w.heap.size<=w.heap.size+4 by omega) _⟩
theorem uJ {s:Nat->Nat->Int} (hr:∀ i k,ar (s i k)) (hok:bQ (cy s) 4=true) (hT:bQ (dM s) 4=true) (w:World) :
    Calls prog 13 #[.agg #[.int .i64 (s 0 0),.int .i64 (s 0 1),.int .i64 (s 0 2)],.agg #[.int .i64 (s 1 0),.int .i64 (s 1 1),.int .i64 (s 1 2)],.agg #[.int .i64 (s 2 0),.int .i64 (s 2 1),.int .i64 (s 2 2)],.agg #[.int .i64 (s 3 0),.int .i64 (s 3 1),.int .i64 (s 3 2)]] w fun e w'=>e=.returned (.agg #[.int .i64 (aW (dX (vL s 3) 0 1 2) 0),.int .i64 (cA s)])∧Below w.heap.size w w':=by
  have EX:Hid (∀ W,Calls prog 12 #[.agg #[.int .i64 (s 0 0),.int .i64 (s 0 1),.int .i64 (s 0 2)],.agg #[.int .i64 (s 1 0),.int .i64 (s 1 1),.int .i64 (s 1 2)],.agg #[.int .i64 (s 2 0),.int .i64 (s 2 1),.int .i64 (s 2 2)],.agg #[.int .i64 (s 3 0),.int .i64 (s 3 1),.int .i64 (s 3 2)]] W fun r w'=>∃ g o n c e V,r=.returned (.agg #[.bool g,.slice o n c,.int .i64 e])∧aM w' (.agg #[.bool g,.slice o n c,.int .i64 e]) V∧Hid (aW V 0=aW (dX (vL s 3) 0 1 2) 0)∧Below W.heap.size W w'):=fun W=>by
    refine(lI hr (eZ hok) W).mono ?_
    rintro _ w' ⟨v,V,rfl,hd,hb,hv,-⟩
    obtain⟨g,o,n,c,e,rfl⟩:=hd.shape
    exact⟨g,o,n,c,e,V,rfl,hd.num,(by show _=_;rw[<- hv,kZ (aB _),kZ (aB _)]),hb⟩
  have CT:Hid (∀ W g,W.heap[g]?=some (.cells #[.int .i64 (s 0 0),.int .i64 (s 0 1),.int .i64 (s 0 2),.int .i64 (s 1 0),.int .i64 (s 1 1),.int .i64 (s 1 2),.int .i64 (s 2 0),.int .i64 (s 2 1),.int .i64 (s 2 2),.int .i64 (s 3 0),.int .i64 (s 3 1),.int .i64 (s 3 2)] 23 (0,0))->Calls prog 25 #[.slice (some ⟨g,0,none⟩) 4 4] W fun x w'=>x=.returned (.bool true)∧w'=W):=fun W g h=>by
    have:=pN _ 4 4 s W (gE s W h) hr
    rw[hT] at this
    exact this
  have hz:∀ i,i<=3->∀ k,k<3->Mz (s i k):=fun i hi k hk=>je (hr i k) (iy hT i hi k hk)
  have hru:∀ i k,ar (uL s 3 i k):=fun i k=>by
    unfold uL
    split
    · exact bU (hr _ _) (gi (hr _ _))
    · exact ws
  have R0:Hid (∀ W,Calls prog 27 #[.agg #[.int .i64 (s 0 0),.int .i64 (s 0 1),.int .i64 (s 0 2)],.agg #[.int .i64 (s 3 0),.int .i64 (s 3 1),.int .i64 (s 3 2)]] W fun e w'=>e=.returned (.agg #[.int .i64 (uL s 3 0 0),.int .i64 (uL s 3 0 1),.int .i64 (uL s 3 0 2)])∧Below W.heap.size W w'):=fun W=>jV 0 3 hr W
  have R1:Hid (∀ W,Calls prog 27 #[.agg #[.int .i64 (s 1 0),.int .i64 (s 1 1),.int .i64 (s 1 2)],.agg #[.int .i64 (s 3 0),.int .i64 (s 3 1),.int .i64 (s 3 2)]] W fun e w'=>e=.returned (.agg #[.int .i64 (uL s 3 1 0),.int .i64 (uL s 3 1 1),.int .i64 (uL s 3 1 2)])∧Below W.heap.size W w'):=fun W=>jV 1 3 hr W
  have R2:Hid (∀ W,Calls prog 27 #[.agg #[.int .i64 (s 2 0),.int .i64 (s 2 1),.int .i64 (s 2 2)],.agg #[.int .i64 (s 3 0),.int .i64 (s 3 1),.int .i64 (s 3 2)]] W fun e w'=>e=.returned (.agg #[.int .i64 (uL s 3 2 0),.int .i64 (uL s 3 2 1),.int .i64 (uL s 3 2 2)])∧Below W.heap.size W w'):=fun W=>jV 2 3 hr W
  have CF:Hid (∀ W,Calls prog 26 #[.agg #[.int .i64 (uL s 3 0 0),.int .i64 (uL s 3 0 1),.int .i64 (uL s 3 0 2)],.agg #[.int .i64 (uL s 3 1 0),.int .i64 (uL s 3 1 1),.int .i64 (uL s 3 1 2)],.agg #[.int .i64 (uL s 3 2 0),.int .i64 (uL s 3 2 1),.int .i64 (uL s 3 2 2)]] W fun e w'=>e=.returned (.tuple #[.int .i64 (rD (uL s 3)),.int .i64 (cm (uL s 3) 0 1 2)])∧Below W.heap.size W w'):=fun W=>wp hru W
  have CK:Hid (∀ W,Calls prog 29 #[.int .i64 7881299347898375,.int .i64 (-103)] W fun e w'=>e=.returned (.int .i64 sA)∧Below W.heap.size W w'):=fun W=>uH W
  have hsm:=uA (cf hz 0) (cf hz 1) (cf hz 2)
  have hvv:=zv (cf hz 0) (cf hz 1) (cf hz 2)
  have hfx:=mQ hz
  have rss:ar (cm (uL s 3) 0 1 2):=hfx.2.2.1
  have hsg:Hid (aT (aw sA (cm (uL s 3) 0 1 2))<rg (dt (uL s 3) 0 1 2)->fw (dt (uL s 3) 0 1 2)=aW (dX (vL s 3) 0 1 2) 0):=fun h=>lC hr hz h
  have CD:Hid (∀ W,Calls prog 28 #[.int .i64 (rD (uL s 3)),.int .i64 (cm (uL s 3) 0 1 2),.int .i64 sA] W fun e w'=>e=.returned (.tuple #[.agg #[.int .i64 (fw (dt (uL s 3) 0 1 2)),.int .i64 1],.bool (decide (aT (aw sA (cm (uL s 3) 0 1 2))<rg (dt (uL s 3) 0 1 2)))])∧Below W.heap.size W w'):=fun W=>by
    have:=sK hvv.r rss eI W
    rw[hsm.1,hsm.2] at this
    exact this
  have hst:Hid (cA s=if aT (aw sA (cm (uL s 3) 0 1 2))<rg (dt (uL s 3) 0 1 2) then 1 else 4):=by
    show _=_
    unfold cA
    rw[hT];rfl
  clear hr hok hT hz hru hsm hvv hfx rss
  generalize aW (dX (vL s 3) 0 1 2) 0=sg at *
  generalize cA s=st at *
  generalize fw (dt (uL s 3) 0 1 2)=sd at *
  generalize hcc:(decide (aT (aw sA (cm (uL s 3) 0 1 2))<rg (dt (uL s 3) 0 1 2)))=cc at *
  have hst2:Hid (st=if cc then 1 else 4):=by
    show st=_
    rw[hst.out,<- hcc]
    by_cases c:aT (aw sA (cm (uL s 3) 0 1 2))<rg (dt (uL s 3) 0 1 2)
    · rw[if_pos c,decide_eq_true c];rfl
    · rw[if_neg c,decide_eq_false c];rfl
  have hsg2:Hid (cc=true->sd=sg):=fun h=>hsg.out (of_decide_eq_true (hcc.trans h))
  clear hst hsg hcc
  generalize rD (uL s 3)=DD at *
  generalize cm (uL s 3) 0 1 2=SS at *
  generalize sA=KA at *
  generalize uL s 3 0 0=u00 at *
  generalize uL s 3 0 1=u01 at *
  generalize uL s 3 0 2=u02 at *
  generalize uL s 3 1 0=u10 at *
  generalize uL s 3 1 1=u11 at *
  generalize uL s 3 1 2=u12 at *
  generalize uL s 3 2 0=u20 at *
  generalize uL s 3 2 1=u21 at *
  generalize uL s 3 2 2=u22 at *
  generalize s 0 0=dE at *
  generalize s 0 1=s01 at *
  generalize s 0 2=s02 at *
  generalize s 1 0=dN at *
  generalize s 1 1=s11 at *
  generalize s 1 2=s12 at *
  generalize s 2 0=s20 at *
  generalize s 2 1=s21 at *
  generalize s 2 2=s22 at *
  generalize s 3 0=s30 at *
  generalize s 3 1=s31 at *
  generalize s 3 2=s32 at *
  obtain⟨hb0,p0_k,p1_k,p2_k,p3_k,o_k,hsz0⟩:=sw w (.cells #[.int .i64 dE,.int .i64 s01,.int .i64 s02] 23) (.cells #[.int .i64 dN,.int .i64 s11,.int .i64 s12] 23) (.cells #[.int .i64 s20,.int .i64 s21,.int .i64 s22] 23) (.cells #[.int .i64 s30,.int .i64 s31,.int .i64 s32] 23) (.cells #[.int .i64 0,.int .i64 0] 27)
  clear hsz0
  go_enter func13,ntmps13
  have f_p00:=ac p0_k 0 rfl
  have f_p01:=ac p0_k 1 rfl
  have f_p02:=ac p0_k 2 rfl
  have f_p10:=ac p1_k 0 rfl
  have f_p11:=ac p1_k 1 rfl
  have f_p12:=ac p1_k 2 rfl
  have f_p20:=ac p2_k 0 rfl
  have f_p21:=ac p2_k 1 rfl
  have f_p22:=ac p2_k 2 rfl
  have f_p30:=ac p3_k 0 rfl
  have f_p31:=ac p3_k 1 rfl
  have f_p32:=ac p3_k 2 rfl
  go_wp2_with fail
  clear f_p00 f_p01 f_p02 f_p10 f_p11 f_p12 f_p20 f_p21 f_p22 f_p30 f_p31 f_p32
  generalize (((((w.alloc (.cells #[.int .i64 dE,.int .i64 s01,.int .i64 s02] 23)).alloc (.cells #[.int .i64 dN,.int .i64 s11,.int .i64 s12] 23)).alloc (.cells #[.int .i64 s20,.int .i64 s21,.int .i64 s22] 23)).alloc (.cells #[.int .i64 s30,.int .i64 s31,.int .i64 s32] 23)).alloc (.cells #[.int .i64 0,.int .i64 0] 27))=x0 at hb0 p0_k p1_k p2_k p3_k o_k ⊢
  refine(EX.out _).mono ?_
  rintro _ y1 ⟨g,o,n,c,e,V,rfl,hD,hV,hw1⟩
  replace p0_k:=ak hw1 p0_k
  replace p1_k:=ak hw1 p1_k
  replace p2_k:=ak hw1 p2_k
  replace p3_k:=ak hw1 p3_k
  replace o_k:=ak hw1 o_k
  replace hb0:=af hb0 hw1
  go_wp2_with fail
  refine(wX hD hV.out).mono ?_
  rintro _ y2 ⟨rfl,hw2⟩
  clear hD hV
  replace p0_k:=ak hw2 p0_k
  replace p1_k:=ak hw2 p1_k
  replace p2_k:=ak hw2 p2_k
  replace p3_k:=ak hw2 p3_k
  replace o_k:=ak hw2 o_k
  replace hb0:=af hb0 hw2
  have f_p00:=ac p0_k 0 rfl
  have f_p01:=ac p0_k 1 rfl
  have f_p02:=ac p0_k 2 rfl
  have f_p10:=ac p1_k 0 rfl
  have f_p11:=ac p1_k 1 rfl
  have f_p12:=ac p1_k 2 rfl
  have f_p20:=ac p2_k 0 rfl
  have f_p21:=ac p2_k 1 rfl
  have f_p22:=ac p2_k 2 rfl
  have f_p30:=ac p3_k 0 rfl
  have f_p31:=ac p3_k 1 rfl
  have f_p32:=ac p3_k 2 rfl
  go_wp2_with fail
  clear f_p00 f_p01 f_p02 f_p10 f_p11 f_p12 f_p20 f_p21 f_p22 f_p30 f_p31 f_p32
  refine(CT.out _ _ (aK _ _)).mono ?_
  rintro _ _ ⟨rfl,rfl⟩
  have hw3:=ah y2 (.cells #[.int .i64 dE,.int .i64 s01,.int .i64 s02,.int .i64 dN,.int .i64 s11,.int .i64 s12,.int .i64 s20,.int .i64 s21,.int .i64 s22,.int .i64 s30,.int .i64 s31,.int .i64 s32] 23)
  replace p0_k:=ak hw3 p0_k
  replace p1_k:=ak hw3 p1_k
  replace p2_k:=ak hw3 p2_k
  replace p3_k:=ak hw3 p3_k
  replace o_k:=ak hw3 o_k
  replace hb0:=af hb0 hw3
  generalize y2.alloc (.cells #[.int .i64 dE,.int .i64 s01,.int .i64 s02,.int .i64 dN,.int .i64 s11,.int .i64 s12,.int .i64 s20,.int .i64 s21,.int .i64 s22,.int .i64 s30,.int .i64 s31,.int .i64 s32] 23)=y3 at p0_k p1_k p2_k p3_k o_k hb0 ⊢
  clear hw3
  go_wp2_with fail
  have KK4:∀ W,Below y3.heap.size y3 W->W.cell? ⟨w.heap.size,0,none⟩=some (.int .i64 dE)∧W.cell? ⟨w.heap.size,1,none⟩=some (.int .i64 s01)∧W.cell? ⟨w.heap.size,2,none⟩=some (.int .i64 s02)∧W.cell? ⟨w.heap.size+1,0,none⟩=some (.int .i64 dN)∧W.cell? ⟨w.heap.size+1,1,none⟩=some (.int .i64 s11)∧W.cell? ⟨w.heap.size+1,2,none⟩=some (.int .i64 s12)∧W.cell? ⟨w.heap.size+2,0,none⟩=some (.int .i64 s20)∧W.cell? ⟨w.heap.size+2,1,none⟩=some (.int .i64 s21)∧W.cell? ⟨w.heap.size+2,2,none⟩=some (.int .i64 s22)∧W.cell? ⟨w.heap.size+3,0,none⟩=some (.int .i64 s30)∧W.cell? ⟨w.heap.size+3,1,none⟩=some (.int .i64 s31)∧W.cell? ⟨w.heap.size+3,2,none⟩=some (.int .i64 s32):=fun W hb=>⟨aj (ac p0_k 0 rfl) hb,aj (ac p0_k 1 rfl) hb,aj (ac p0_k 2 rfl) hb,aj (ac p1_k 0 rfl) hb,aj (ac p1_k 1 rfl) hb,aj (ac p1_k 2 rfl) hb,aj (ac p2_k 0 rfl) hb,aj (ac p2_k 1 rfl) hb,aj (ac p2_k 2 rfl) hb,aj (ac p3_k 0 rfl) hb,aj (ac p3_k 1 rfl) hb,aj (ac p3_k 2 rfl) hb⟩
  have hC4_0:=(ap y3).drew
  have hs4_0:=(ap y3).drew
  go_region_held3 (fun W=>W.cell? ⟨w.heap.size,0,none⟩=some (.int .i64 dE)∧W.cell? ⟨w.heap.size,1,none⟩=some (.int .i64 s01)∧W.cell? ⟨w.heap.size,2,none⟩=some (.int .i64 s02)∧W.cell? ⟨w.heap.size+1,0,none⟩=some (.int .i64 dN)∧W.cell? ⟨w.heap.size+1,1,none⟩=some (.int .i64 s11)∧W.cell? ⟨w.heap.size+1,2,none⟩=some (.int .i64 s12)∧W.cell? ⟨w.heap.size+2,0,none⟩=some (.int .i64 s20)∧W.cell? ⟨w.heap.size+2,1,none⟩=some (.int .i64 s21)∧W.cell? ⟨w.heap.size+2,2,none⟩=some (.int .i64 s22)∧W.cell? ⟨w.heap.size+3,0,none⟩=some (.int .i64 s30)∧W.cell? ⟨w.heap.size+3,1,none⟩=some (.int .i64 s31)∧W.cell? ⟨w.heap.size+3,2,none⟩=some (.int .i64 s32))
    (with_reducible first|assumption|exact KK4 _ hC4_0|exact KK4 _ hC4_1|exact KK4 _ hC4_2|exact KK4 _ hC4_3|exact KK4 _ hC4_4|fail)
    (first
      | (go_at_call 26;have _t:=hs4_3;refine(CF.out _).mono ?_;rintro _ y4_4 ⟨rfl,hs4_4⟩;have hC4_4:=af hC4_3 hs4_4)
      | (go_at_call 27;have _t:=hs4_2;refine(R2.out _).mono ?_;rintro _ y4_3 ⟨rfl,hs4_3⟩;have hC4_3:=af hC4_2 hs4_3)
      | (go_at_call 27;have _t:=hs4_1;refine(R1.out _).mono ?_;rintro _ y4_2 ⟨rfl,hs4_2⟩;have hC4_2:=af hC4_1 hs4_2)
      | (go_at_call 27; refine (R0.out _).mono ?_; rintro _ y4_1 ⟨rfl,hs4_1⟩; have hC4_1:=af hC4_0 hs4_1))
  replace p0_k:=ak hC4_4 p0_k
  replace p1_k:=ak hC4_4 p1_k
  replace p2_k:=ak hC4_4 p2_k
  replace p3_k:=ak hC4_4 p3_k
  replace o_k:=ak hC4_4 o_k
  replace hb0:=af hb0 hC4_4
  go_wp2_with fail
  refine(CK.out _).mono ?_
  rintro _ y5 ⟨rfl,hw5⟩
  replace p0_k:=ak hw5 p0_k
  replace p1_k:=ak hw5 p1_k
  replace p2_k:=ak hw5 p2_k
  replace p3_k:=ak hw5 p3_k
  replace o_k:=ak hw5 o_k
  replace hb0:=af hb0 hw5
  go_wp2_with fail
  refine(CD.out _).mono ?_
  rintro _ y6 ⟨rfl,hw6⟩
  replace p0_k:=ak hw6 p0_k
  replace p1_k:=ak hw6 p1_k
  replace p2_k:=ak hw6 p2_k
  replace p3_k:=ak hw6 p3_k
  replace o_k:=ak hw6 o_k
  replace hb0:=af hb0 hw6
  have v_k:=aK y6 (.cells #[.int .i64 sd,.int .i64 1] 27)
  replace o_k:=av (.cells #[.int .i64 sd,.int .i64 1] 27) o_k
  replace hb0:=af hb0 (ah y6 (.cells #[.int .i64 sd,.int .i64 1] 27))
  have j0:=ac v_k 0 rfl
  have j1:=ac v_k 1 rfl
  have k0:=ac o_k 0 rfl
  have k1:=ac o_k 1 rfl
  have z0:=aq o_k 0
  have z1:=aq o_k 1
  cases cc
  · obtain rfl:st=4:=hst2.out
    go_wp2
    exact bodyPost_ret (v:=.agg #[.int .i64 sg,.int .i64 4]) (by simp[results,results13,go_sem,k0,k1]) rfl ⟨rfl,(hb0.setCell (p:=⟨w.heap.size+4,0,none⟩) (show w.heap.size<=w.heap.size+4 by omega) _).setCell (p:=⟨w.heap.size+4,1,none⟩) (show w.heap.size<=w.heap.size+4 by omega) _⟩
  · obtain rfl:st=1:=hst2.out
    obtain rfl:sd=sg:=hsg2.out rfl
    go_wp2
    exact bodyPost_ret (v:=.agg #[.int .i64 sd,.int .i64 1]) (by simp[results,results13,go_sem,k0,k1]) rfl ⟨rfl,(hb0.setCell (p:=⟨w.heap.size+4,0,none⟩) (show w.heap.size<=w.heap.size+4 by omega) _).setCell (p:=⟨w.heap.size+4,1,none⟩) (show w.heap.size<=w.heap.size+4 by omega) _⟩
theorem uK {a b:Int} (ha:ar a) (hb:ar b) (h:wd a=wd b):a=b:=by
 unfold wd at h
 unfold ar at ha hb
 omega
theorem jj {a b:Nat} {p q r:Int} (hx:Fx a b p) (hy:Fx a b q) (hb:b+1<=2097) (rr:ar r) (h:Ieee.double.add (wd p) (wd q)=some (wd r)):az p q=r:=by
 obtain⟨s,-⟩:=hx.sum hy hb
 rcases oU (FW.pat (ct hx.p) hx.r) (FW.pat (ct hy.p) hy.r) with⟨z,e1,e2⟩|⟨e1,_⟩
 ·rw[h] at e1
  cases e1
  obtain⟨_,e3,_⟩:=e2.of (ct s.p)
  exact(uK rr s.r e3).symm
 ·rw[h] at e1
  cases e1
theorem iB {p q r:Int} (rp:ar p) (pp:ay p=true) (rq:ar q) (pq:ay q=true) (rr:ar r) (h:Ieee.double.mul (wd p) (wd q)=some (wd r)):aw p q=r:=by
 have c:=lD pp rp pq rq
 rcases tQ (FW.pat (ct pp) rp) (FW.pat (ct pq) rq) with⟨z,e1,e2⟩|⟨e1,_⟩
 ·rw[h] at e1
  cases e1
  obtain⟨_,e3,_⟩:=e2.of c
  exact(uK rr (bf rp rq) e3).symm
 ·rw[h] at e1
  cases e1
def dO:Int:=4607182418800017408
theorem ek:ar dO:=by unfold ar dO;omega
theorem eM:ar 0:=by unfold ar;omega
theorem pQ:Fx 872 1226 dO:=(je ek (by decide)).fx.up (by decide)
theorem iC:Fx 872 1226 0:=mO
theorem dN:az dO (neg 0)=dO:=jj pQ iC.neg.1 (by decide) ek (by decide +kernel)
theorem dE:az 0 (neg 0)=0:=jj iC iC.neg.1 (by decide) eM (by decide +kernel)
theorem Bm:az dO 0=dO:=jj pQ iC (by decide) ek (by decide +kernel)
theorem AP:az 0 dO=dO:=jj iC pQ (by decide) ek (by decide +kernel)
theorem AQ:az 0 0=0:=jj iC iC (by decide) eM (by decide +kernel)
theorem zO:aw dO dO=dO:=iB ek (by decide) ek (by decide) ek (by decide +kernel)
theorem Bn:aw dO 0=0:=iB ek (by decide) eM (by decide) eM (by decide +kernel)
theorem Bo:aw 0 dO=0:=iB eM (by decide) ek (by decide) eM (by decide +kernel)
theorem zP:aw 0 0=0:=iB eM (by decide) eM (by decide) eM (by decide +kernel)
theorem AR:aw sA dO=sA:=iB eI (by decide) ek (by decide) eI (by decide +kernel)
theorem AF:rg dO=dO:=by decide
theorem AG:rg 0=0:=by decide
theorem pT (e:Int) (W:World):Calls prog 10 #[.int .i64 e] W fun r w'=>r=.returned (.int .i64 e)∧w'=W:=by
 go_enter func10,ntmps10
 go_wp2
 go_ret
 exact⟨rfl,rfl⟩
def jY (p k:Nat):Int:=if p=k then dO else 0
theorem mS (p k:Nat):ar (jY p k):=by unfold jY;split;exact ek;exact eM
theorem iO (p k:Nat) (hp:p<3) (hk:k<3):uL jY 3 p k=if p=k then dO else 0:=by
 unfold uL jY
 rw[if_pos hp,if_neg (show ¬ (3=k) by omega)]
 by_cases e:p=k
 ·rw[if_pos e,dN]
 ·rw[if_neg e,dE]
theorem fE (p q:Nat) (hp:p<3) (hq:q<3):pL (uL jY 3) p q=if p=0∧q=1 then dO else 0:=by
 unfold pL
 rw[iO p 0 hp (by decide),iO q 1 hq (by decide)]
 by_cases a:p=0<;>by_cases b:q=1
 ·rw[if_pos a,if_pos b,if_pos ⟨a,b⟩,zO]
 ·rw[if_pos a,if_neg b,if_neg (fun c=>b c.2),Bn]
 ·rw[if_neg a,if_pos b,if_neg (fun c=>a c.1),Bo]
 ·rw[if_neg a,if_neg b,if_neg (fun c=>a c.1),zP]
theorem sM:dt (uL jY 3) 0 1 2=dO:=by
 unfold dt mn
 rw[fE 1 2 (by decide) (by decide),fE 2 1 (by decide) (by decide),fE 0 2 (by decide) (by decide),fE 2 0 (by decide) (by decide),fE 0 1 (by decide) (by decide),fE 1 0 (by decide) (by decide),iO 0 2 (by decide) (by decide),iO 1 2 (by decide) (by decide),iO 2 2 (by decide) (by decide)]
 simp only[reduceIte,Nat.reduceEqDiff,and_true,and_false,false_and,true_and]
 rw[dE,zP,dE,dN,zO,AP]
theorem wY:cm (uL jY 3) 0 1 2=dO:=by
 unfold cm sz
 rw[fE 1 2 (by decide) (by decide),fE 2 1 (by decide) (by decide),fE 0 2 (by decide) (by decide),fE 2 0 (by decide) (by decide),fE 0 1 (by decide) (by decide),fE 1 0 (by decide) (by decide),iO 0 2 (by decide) (by decide),iO 1 2 (by decide) (by decide),iO 2 2 (by decide) (by decide)]
 simp only[reduceIte,Nat.reduceEqDiff,and_true,and_false,false_and,true_and,AF,AG]
 rw[AQ,zP,AQ,Bm,zO,AP]
theorem AH (i k:Nat):Mz (jY i k):=je (mS i k) (by unfold jY;split<;>decide)
theorem zQ:cA jY=1:=by
 unfold cA
 rw[if_pos (by decide),sM,wY,AR,if_pos (by decide)]
theorem yw:aW (dX (vL jY 3) 0 1 2) 0=1:=by
 rw[<- lC mS (fun i _ k _=>AH i k) (by rw[sM,wY,AR];decide),sM]
 decide
theorem q9 (w:World) (H:cD w):Calls prog 6 #[] w fun e w'=>e=.returned (.bool true)∧Below w.heap.size w w':=by
 have CS:Hid (∀ W,cD W->Calls prog 7 #[.agg #[.int .i64 4607182418800017408,.int .i64 0,.int .i64 0],.agg #[.int .i64 0,.int .i64 4607182418800017408,.int .i64 0],.agg #[.int .i64 0,.int .i64 0,.int .i64 4607182418800017408],.agg #[.int .i64 0,.int .i64 0,.int .i64 0]] W fun e w'=>e=.returned (.tuple #[.agg #[.int .i64 1,.int .i64 1],.int .i64 0])∧Below W.heap.size W w'):=fun W hW=>by
  have:=pH jY W mS (by decide) hW
  rw[yw,zQ] at this
  exact this
 have CN:Hid (∀ W,Calls prog 10 #[.int .i64 0] W fun r w'=>r=.returned (.int .i64 0)∧w'=W):=fun W=>pT _ W
 go_enter func6,ntmps6
 go_wp2_with fail
 refine(CS.out _ H).mono ?_
 rintro _ y1 ⟨rfl,hw⟩
 have v_k:=aK y1 (.cells #[.int .i64 1,.int .i64 1] 27)
 have k0:=ac v_k 0 rfl
 have k1:=ac v_k 1 rfl
 go_wp2_with (first|(go_at_call 10;refine(CN.out _).mono ?_;rintro _ _ ⟨rfl,rfl⟩))
 go_ret
 exact⟨rfl,af hw (ah _ _)⟩
end Go.Proofs.YtcklaogdjpbagaaGreatDoor
namespace Go.Proofs.YtcklaogdjpbagaaGreatDoor
open Go Go.Proofs.Tryz Go.ChangeShapes Go.WideShapes Go.ChangeAt Go.RowKit Go.Proofs.YtcklaogdjpbagaaGreatDoor.M
theorem kH:prog.cellsOf 23=3:=by kernel_rfl
theorem qt:prog.cellsOf 3=1:=by kernel_rfl
theorem qu {H:Type} {enc:TypeId × Value->H} {W:World} {n:Nat} {cs:List Value} {x:DataW H × List MemPlace}
  (h:DataW.trod enc prog W 0 (fun _=>true) true n 23 cs=some x) :
  ∃ a b c:Int,cs=[.int .i64 a,.int .i64 b,.int .i64 c]∧ar a∧ar b∧ar c:=by
 obtain⟨xs,m,_,rfl,hl,hlen,hf⟩:=DataW.trod_struct underlying23 h
 rw[kH] at hl
 match cs,hl with
 | [v0,v1,v2],_=>
  match xs,hlen with
  | [y0,y1,y2],_=>
   have f0:DataW.trod enc prog W 0 (fun _=>true) true m 3 (([v0,v1,v2].drop 0).take (prog.cellsOf 3))=some y0:=hf 0 _ rfl
   have f1:DataW.trod enc prog W 0 (fun _=>true) true m 3 (([v0,v1,v2].drop 1).take (prog.cellsOf 3))=some y1:=hf 1 _ rfl
   have f2:DataW.trod enc prog W 0 (fun _=>true) true m 3 (([v0,v1,v2].drop 2).take (prog.cellsOf 3))=some y2:=hf 2 _ rfl
   rw[qt] at f0 f1 f2
   simp only[List.drop_zero,List.drop_succ_cons,List.take_succ_cons,List.take_zero] at f0 f1 f2
   obtain⟨k0,e0,_,w0⟩:=DataW.trod_int underlying3 f0
   obtain⟨k1,e1,_,w1⟩:=DataW.trod_int underlying3 f1
   obtain⟨k2,e2,_,w2⟩:=DataW.trod_int underlying3 f2
   simp at e0 e1 e2
   subst e0 e1 e2
   exact⟨k0,k1,k2,rfl,oM w0,oM w1,oM w2⟩
theorem oe (cs:List Value) (k:Nat):cs.drop k=(cs.drop k).take 3 ++ cs.drop (k+3):=by
 rw[<- List.drop_drop]
 exact(List.take_append_drop 3 _).symm
def Be (s:Nat->Nat->Int):Array Value:=#[.int .i64 (s 0 0),.int .i64 (s 0 1),.int .i64 (s 0 2),.int .i64 (s 1 0),.int .i64 (s 1 1),.int .i64 (s 1 2),.int .i64 (s 2 0),.int .i64 (s 2 1),.int .i64 (s 2 2),.int .i64 (s 3 0),.int .i64 (s 3 1),.int .i64 (s 3 2),.int .i64 (s 4 0),.int .i64 (s 4 1),.int .i64 (s 4 2)]
theorem mw {a b c:Int} (h:ar a∧ar b∧ar c) (k:Nat):ar (l3 a b c k):=by
 unfold l3
 split
 ·exact h.1
 ·split
  ·exact h.2.1
  ·exact h.2.2
end Go.Proofs.YtcklaogdjpbagaaGreatDoor
namespace Go.Proofs.YtcklaogdjpbagaaGreatDoor
open Go Go.Proofs.Tryz Go.RowKit Go.Proofs.YtcklaogdjpbagaaGreatDoor.M
theorem rc {w:World} {x y:Value} {A B:Int} (hx:aM w x A) (hy:aM w y B) :
  Calls prog 11 #[x,y] w fun r w'=>r=.returned (.bool (decide (A=B)))∧Below w.heap.size w w':=by
 obtain⟨g,s,m,e,rfl,dx,ao,n,ca,a,rfl,hR,hN,rfl⟩:=hx
 obtain⟨g',s',m',e',rfl,dy,bo,n',cb,b,rfl,hR',hN',rfl⟩:=hy
 have hu:A=B->g=g'∧val a n=val b n'∧e=e':=fun q=>by subst q;exact dx.unique dy
 have hm1:=hR.max
 have hl1:=hR.le
 have hm2:=hR'.max
 have hl2:=hR'.le
 have hb2:=aL w (.cells #[.bool g,.slice ao n ca,.int .i64 e] 33) (.cells #[.bool g',.slice bo n' cb,.int .i64 e'] 33)
 by_cases hg:g=g'∧e=e'∧n=n'
 ·obtain⟨rfl,rfl,rfl⟩:=hg
  have q0:=cl w (.cells #[.bool g,.slice ao n ca,.int .i64 e] 33) (.cells #[.bool g,.slice bo n cb,.int .i64 e] 33)
  have q1:=bR w (.cells #[.bool g,.slice ao n ca,.int .i64 e] 33) (.cells #[.bool g,.slice bo n cb,.int .i64 e] 33)
  have HR:=hR.keeps hb2
  have HR':=hR'.keeps hb2
  have hAB:(∀ i,i<n->a i=b i)->A=B:=fun q=>by rw[dx.val,dy.val,cV q]
  go_enter func11,ntmps11
  go_wp2_with fail
  have k1:=ac q0 1 rfl
  have j1:=ac q1 1 rfl
  clear q0 q1 hu hR hR'
  generalize (w.alloc (.cells #[.bool g,.slice ao n ca,.int .i64 e] 33)).alloc (.cells #[.bool g,.slice bo n cb,.int .i64 e] 33)=wx at hb2 k1 j1 HR HR' ⊢
  have HNa:Hid (bK a n):=hN
  have HNb:Hid (bK b n):=hN'
  have HAB:Hid ((∀ i,i<n->a i=b i)->A=B):=hAB
  have HBA:Hid (A=B->∀ i,i<n->a i=b i):=fun q=>qv hN.1 hN'.1 (by subst q;exact(dx.unique dy).2.1)
  clear hN hN' hAB dx dy
  go_loopw [5] (fun i wr=>∃ k:Nat,k<=n∧i=.int .i64 k∧Hid (∀ i,i<k->a i=b i)∧Below wx.heap.size wx wr) (fun i _=>n-(intOf i).toNat)
  case atStart=>exact⟨0,Nat.zero_le _,rfl,fun i hi=>by omega,ap _⟩
  case round=>
   obtain⟨k,hk,rfl,HS,hbw⟩:=hrel
   have k1':=aG k1 hbw
   have j1':=aG j1 hbw
   by_cases hlt:k<n
   ·obtain⟨ba,fa,rfl,hba,hca⟩:=HR.spot (by omega)
    obtain⟨bb,fb,rfl,hbb,hcb⟩:=HR'.spot (by omega)
    have c1:=(hbw.cell (p:=⟨ba,fa+k,none⟩) hba).trans (hca k (by omega))
    have c2:=(hbw.cell (p:=⟨bb,fb+k,none⟩) hbb).trans (hcb k (by omega))
    clear hca hcb
    by_cases h1:a k=b k
    ·have h2:(a k == b k)=true:=by simpa using h1
     rw[h1] at c1
     go_wp2_with fail
     go_quiet (fail)
     go_wp2
     go_roundw
     case rel=>exact⟨k+1,by omega,by go_num,fun i hi=>by by_cases e:i=k;(· rw[e];exact h1);(· exact HS.out i (by omega)),aI hbw _⟩
     case measure=>simp[intOf];try omega
    ·have h2:(a k == b k)=false:=by simpa using h1
     have hne:A≠B:=fun q=>h1 (HBA.out q k hlt)
     have hdd:Hid (false=decide (A=B)):=(decide_eq_false hne).symm
     clear hne
     go_wp2_with fail
     go_quiet (fail)
     go_wp2
     go_ret
     exact⟨a8 hdd.out,af hb2 (aI hbw _)⟩
   ·obtain rfl:k=n:=by omega
    have hdd:Hid (true=decide (A=B)):=(decide_eq_true (HAB.out HS.out)).symm
    go_wp2
    go_ret
    exact⟨a8 hdd.out,af hb2 hbw⟩
 ·have hne:A≠B:=fun q=>hg ⟨(hu q).1,(hu q).2.2,wZ hN hN' (hu q).2.1⟩
  rw[decide_eq_false hne]
  by_cases c1:g=g'
  ·subst c1
   by_cases c2:e=e'
   ·subst c2
    have c3:n≠n':=fun q=>hg ⟨rfl,rfl,q⟩
    have c4:((n:Int) == (n':Int))=false:=by simp;omega
    clear hu
    go_enter func11,ntmps11
    go_wp2
    all_goals go_ret
    all_goals exact⟨rfl,hb2⟩
   ·have c4:(e == e')=false:=by simpa using c2
    clear hu
    go_enter func11,ntmps11
    go_wp2
    all_goals go_ret
    all_goals exact⟨rfl,hb2⟩
  ·have c4:(g == g')=false:=by simpa using c1
   clear hu
   go_enter func11,ntmps11
   go_wp2
   all_goals go_ret
   all_goals exact⟨rfl,hb2⟩
end Go.Proofs.YtcklaogdjpbagaaGreatDoor
