/-
  The document's own answers for chapter 12 (plumbref12): rounded, Side, Sphere, by their contracts.
-/
import Derived.Test.YtcklaogdjpbagaaGreatDoorSp33
import Derived.Test.YtcklaogdjpbagaaGreatDoorSp35
import Derived.Test.YtcklaogdjpbagaaGreatDoorSp19
set_option maxRecDepth 100000
set_option maxHeartbeats 8000000
set_option linter.unusedVariables false
set_option linter.unusedSimpArgs false
namespace Go.Proofs.YtcklaogdjpbagaaGreatDoor
open Go Go.RowKit Go.Proofs.YtcklaogdjpbagaaGreatDoor.M
theorem uz {V S:Int} (h:0<S):aZ (V*S) 0=aZ V 0:=by
 refine uq ⟨fun q=>?_,fun q=>Int.mul_pos q h⟩ ⟨fun q=>?_,fun q=>Int.mul_neg_of_neg_of_pos q h⟩
 ·rcases Int.lt_or_le 0 V with c|c
  ·exact c
  ·have:=Int.mul_le_mul_of_nonneg_right c (Int.le_of_lt h)
   rw[Int.zero_mul] at this
   omega
 ·rcases Int.lt_or_le V 0 with c|c
  ·exact c
  ·have:=Int.mul_nonneg c (Int.le_of_lt h)
   omega
theorem Ar {w:World} {g:Bool} {o:Option Addr} {n c:Nat} {e V z:Int} (h:aR w (.agg #[.bool g,.slice o n c,.int .i64 e]) V) (hz:aZ V 0=z) :
  Calls Tryz.prog 24 #[.agg #[.bool g,.slice o n c,.int .i64 e]] w fun r w'=>r=.returned (.int .i64 z)∧Below w.heap.size w w':=by
 obtain⟨hs,hm⟩:=Bq h
 rw[<- hz,<- hs]
 have CS:Hid (∀ W,Calls Tryz.prog 50 #[.agg #[.bool g,.slice o n c,.int .i64 e]] W fun r w'=>r=.returned (.int .i64 (sgn g n))∧Below W.heap.size W w'):=fun W=>vg g o n c e W hm
 clear hs h hz
 generalize sgn g n=s at *
 have hb:=ah w (.cells #[.bool g,.slice o n c,.int .i64 e] 33)
 go_enter Tryz.func24,Tryz.ntmps24
 go_wp2_with fail
 refine(CS.out _).mono ?_
 rintro _ y1 ⟨rfl,hw1⟩
 have hb1:=ac hb hw1
 go_wp2
 go_ret
 exact⟨rfl,hb1⟩
theorem je {s:Nat->Nat->Int} (i j:Nat) (hr:∀ i k,ax (s i k)) (w:World) :
  Calls Tryz.prog 27 #[.agg #[.int .i64 (s i 0),.int .i64 (s i 1),.int .i64 (s i 2)],.agg #[.int .i64 (s j 0),.int .i64 (s j 1),.int .i64 (s j 2)]] w fun e w'=>e=.returned (.agg #[.int .i64 (aE (s i 0) (neg (s j 0))),.int .i64 (aE (s i 1) (neg (s j 1))),.int .i64 (aE (s i 2) (neg (s j 2)))])∧Below w.heap.size w w':=by
 have D0:Hid (∀ W,Calls Tryz.prog 56 #[.int .i64 (s i 0),.int .i64 (s j 0)] W fun e w'=>e=.returned (.int .i64 (aE (s i 0) (neg (s j 0))))∧Below W.heap.size W w'):=fun W=>fY _ _ (hr _ _) (hr _ _) W
 have D1:Hid (∀ W,Calls Tryz.prog 56 #[.int .i64 (s i 1),.int .i64 (s j 1)] W fun e w'=>e=.returned (.int .i64 (aE (s i 1) (neg (s j 1))))∧Below W.heap.size W w'):=fun W=>fY _ _ (hr _ _) (hr _ _) W
 have D2:Hid (∀ W,Calls Tryz.prog 56 #[.int .i64 (s i 2),.int .i64 (s j 2)] W fun e w'=>e=.returned (.int .i64 (aE (s i 2) (neg (s j 2))))∧Below W.heap.size W w'):=fun W=>fY _ _ (hr _ _) (hr _ _) W
 clear hr
 generalize aE (s i 0) (neg (s j 0))=v0 at *
 generalize aE (s i 1) (neg (s j 1))=v1 at *
 generalize aE (s i 2) (neg (s j 2))=v2 at *
 generalize s i 0=p0 at *
 generalize s j 0=q0 at *
 generalize s i 1=p1 at *
 generalize s j 1=q1 at *
 generalize s i 2=p2 at *
 generalize s j 2=q2 at *
 obtain⟨hb0,a_k,b_k,o_k,hsz0⟩:=qG w (.cells #[.int .i64 p0,.int .i64 p1,.int .i64 p2] 23) (.cells #[.int .i64 q0,.int .i64 q1,.int .i64 q2] 23) (.cells #[.int .i64 0,.int .i64 0,.int .i64 0] 70)
 clear hsz0
 go_enter Tryz.func27,Tryz.ntmps27
 go_wp2_with fail
 generalize (((w.alloc (.cells #[.int .i64 p0,.int .i64 p1,.int .i64 p2] 23)).alloc (.cells #[.int .i64 q0,.int .i64 q1,.int .i64 q2] 23)).alloc (.cells #[.int .i64 0,.int .i64 0,.int .i64 0] 70))=x0 at hb0 a_k b_k o_k ⊢
 have hs0:=(aGe o_k).1
 have KK:∀ W,Below (w.heap.size+2) x0 W->W.cell? ⟨w.heap.size,0,none⟩=some (.int .i64 p0)∧W.cell? ⟨w.heap.size,1,none⟩=some (.int .i64 p1)∧W.cell? ⟨w.heap.size,2,none⟩=some (.int .i64 p2)∧W.cell? ⟨w.heap.size+1,0,none⟩=some (.int .i64 q0)∧W.cell? ⟨w.heap.size+1,1,none⟩=some (.int .i64 q1)∧W.cell? ⟨w.heap.size+1,2,none⟩=some (.int .i64 q2):=fun W hb=>⟨cL (af a_k 0 rfl) hb (show w.heap.size<w.heap.size+2 by omega),cL (af a_k 1 rfl) hb (show w.heap.size<w.heap.size+2 by omega),cL (af a_k 2 rfl) hb (show w.heap.size<w.heap.size+2 by omega),cL (af b_k 0 rfl) hb (show w.heap.size+1<w.heap.size+2 by omega),cL (af b_k 1 rfl) hb (show w.heap.size+1<w.heap.size+2 by omega),cL (af b_k 2 rfl) hb (show w.heap.size+1<w.heap.size+2 by omega)⟩
 have hlt:w.heap.size+2<=x0.heap.size:=by omega
 have hC0:=(ak x0).drew
 go_region_held3 (fun W=>W.cell? ⟨w.heap.size,0,none⟩=some (.int .i64 p0)∧W.cell? ⟨w.heap.size,1,none⟩=some (.int .i64 p1)∧W.cell? ⟨w.heap.size,2,none⟩=some (.int .i64 p2)∧W.cell? ⟨w.heap.size+1,0,none⟩=some (.int .i64 q0)∧W.cell? ⟨w.heap.size+1,1,none⟩=some (.int .i64 q1)∧W.cell? ⟨w.heap.size+1,2,none⟩=some (.int .i64 q2))
  (with_reducible first|assumption|exact KK _ (hC0.mono hlt)|exact KK _ (hC1.mono hlt)|exact KK _ (hC2.mono hlt)|exact KK _ (hC3.mono hlt)|exact KK _ (sW (hC3.mono hlt) (Nat.le_refl _) _ _ _)|fail)
  (first|(go_at_call 56;have _t:=hs2;refine(D2.out _).mono ?_;rintro _ y3 ⟨rfl,hs3⟩;have hC3:=ac hC2 hs3;have rk:=am hC3 o_k;have e0:=af rk 0 rfl;have z0:=av rk 0;have e1:=af rk 1 rfl;have z1:=av rk 1;have e2:=af rk 2 rfl;have z2:=av rk 2)|(go_at_call 56;have _t:=hs1;refine(D1.out _).mono ?_;rintro _ y2 ⟨rfl,hs2⟩;have hC2:=ac hC1 hs2)|(go_at_call 56;refine(D0.out _).mono ?_;rintro _ y1 ⟨rfl,hs1⟩;have hC1:=ac hC0 hs1))
 go_wp2
 exact bodyPost_ret (v:=.agg #[.int .i64 v0,.int .i64 v1,.int .i64 v2]) (by simp[results,Tryz.results27,go_sem,e0,e1,e2]) rfl ⟨rfl,dE (ac hb0 hC3) (by omega) _ _ _⟩
theorem zH:ax 0:=by unfold ax;omega
end Go.Proofs.YtcklaogdjpbagaaGreatDoor
