/-
  The document's exact numbers for chapter 12 (plumbref12): SphereExact, by their contracts.
-/
import Derived.Test.YtcklaogdjpbagaaGreatDoorSa24
set_option maxRecDepth 100000
set_option maxHeartbeats 8000000
set_option linter.unusedVariables false
set_option linter.unusedSimpArgs false
namespace Go.Proofs.YtcklaogdjpbagaaGreatDoor
open Go Go.Proofs.Tryz Go.RowKit Go.Proofs.YtcklaogdjpbagaaGreatDoor.M
theorem kN {s:Nat->Nat->Int} (hr:∀ i k,ax (s i k)) (hz:∀ i,i<=4->∀ k,k<3->aF (s i k)=true) (w:World) :
    Calls prog 16 #[.agg #[.int .i64 (s 0 0),.int .i64 (s 0 1),.int .i64 (s 0 2)],.agg #[.int .i64 (s 1 0),.int .i64 (s 1 1),.int .i64 (s 1 2)],.agg #[.int .i64 (s 2 0),.int .i64 (s 2 1),.int .i64 (s 2 2)],.agg #[.int .i64 (s 3 0),.int .i64 (s 3 1),.int .i64 (s 3 2)],.agg #[.int .i64 (s 4 0),.int .i64 (s 4 1),.int .i64 (s 4 2)]] w fun r w'=>∃ v V,r=.returned v∧bJ w.heap.size w' V v∧Below w.heap.size w w'∧V*(2^4194304*(2^4194304*2^4194304*2^4194304))=sX (vL s 4)∧Bd 8610 V:=by
  have R0:Hid (∀ W,Calls prog 23 #[.agg #[.int .i64 (s 0 0),.int .i64 (s 0 1),.int .i64 (s 0 2)],.agg #[.int .i64 (s 4 0),.int .i64 (s 4 1),.int .i64 (s 4 2)]] W fun r w'=>∃ n0_g n0_o n0_n n0_c n0_e n1_g n1_o n1_n n1_c n1_e n2_g n2_o n2_n n2_c n2_e,r=.returned (.agg #[.bool n0_g,.slice n0_o n0_n n0_c,.int .i64 n0_e,.bool n1_g,.slice n1_o n1_n n1_c,.int .i64 n1_e,.bool n2_g,.slice n2_o n2_n n2_c,.int .i64 n2_e])∧aM w' (.agg #[.bool n0_g,.slice n0_o n0_n n0_c,.int .i64 n0_e]) (am (s 0 0)-am (s 4 0))∧aM w' (.agg #[.bool n1_g,.slice n1_o n1_n n1_c,.int .i64 n1_e]) (am (s 0 1)-am (s 4 1))∧aM w' (.agg #[.bool n2_g,.slice n2_o n2_n n2_c,.int .i64 n2_e]) (am (s 0 2)-am (s 4 2))∧Below W.heap.size W w'):=fun W=>js 0 4 hr (hz 0 (by decide)) (hz 4 (by decide)) W
  have R1:Hid (∀ W,Calls prog 23 #[.agg #[.int .i64 (s 1 0),.int .i64 (s 1 1),.int .i64 (s 1 2)],.agg #[.int .i64 (s 4 0),.int .i64 (s 4 1),.int .i64 (s 4 2)]] W fun r w'=>∃ n0_g n0_o n0_n n0_c n0_e n1_g n1_o n1_n n1_c n1_e n2_g n2_o n2_n n2_c n2_e,r=.returned (.agg #[.bool n0_g,.slice n0_o n0_n n0_c,.int .i64 n0_e,.bool n1_g,.slice n1_o n1_n n1_c,.int .i64 n1_e,.bool n2_g,.slice n2_o n2_n n2_c,.int .i64 n2_e])∧aM w' (.agg #[.bool n0_g,.slice n0_o n0_n n0_c,.int .i64 n0_e]) (am (s 1 0)-am (s 4 0))∧aM w' (.agg #[.bool n1_g,.slice n1_o n1_n n1_c,.int .i64 n1_e]) (am (s 1 1)-am (s 4 1))∧aM w' (.agg #[.bool n2_g,.slice n2_o n2_n n2_c,.int .i64 n2_e]) (am (s 1 2)-am (s 4 2))∧Below W.heap.size W w'):=fun W=>js 1 4 hr (hz 1 (by decide)) (hz 4 (by decide)) W
  have R2:Hid (∀ W,Calls prog 23 #[.agg #[.int .i64 (s 2 0),.int .i64 (s 2 1),.int .i64 (s 2 2)],.agg #[.int .i64 (s 4 0),.int .i64 (s 4 1),.int .i64 (s 4 2)]] W fun r w'=>∃ n0_g n0_o n0_n n0_c n0_e n1_g n1_o n1_n n1_c n1_e n2_g n2_o n2_n n2_c n2_e,r=.returned (.agg #[.bool n0_g,.slice n0_o n0_n n0_c,.int .i64 n0_e,.bool n1_g,.slice n1_o n1_n n1_c,.int .i64 n1_e,.bool n2_g,.slice n2_o n2_n n2_c,.int .i64 n2_e])∧aM w' (.agg #[.bool n0_g,.slice n0_o n0_n n0_c,.int .i64 n0_e]) (am (s 2 0)-am (s 4 0))∧aM w' (.agg #[.bool n1_g,.slice n1_o n1_n n1_c,.int .i64 n1_e]) (am (s 2 1)-am (s 4 1))∧aM w' (.agg #[.bool n2_g,.slice n2_o n2_n n2_c,.int .i64 n2_e]) (am (s 2 2)-am (s 4 2))∧Below W.heap.size W w'):=fun W=>js 2 4 hr (hz 2 (by decide)) (hz 4 (by decide)) W
  have R3:Hid (∀ W,Calls prog 23 #[.agg #[.int .i64 (s 3 0),.int .i64 (s 3 1),.int .i64 (s 3 2)],.agg #[.int .i64 (s 4 0),.int .i64 (s 4 1),.int .i64 (s 4 2)]] W fun r w'=>∃ n0_g n0_o n0_n n0_c n0_e n1_g n1_o n1_n n1_c n1_e n2_g n2_o n2_n n2_c n2_e,r=.returned (.agg #[.bool n0_g,.slice n0_o n0_n n0_c,.int .i64 n0_e,.bool n1_g,.slice n1_o n1_n n1_c,.int .i64 n1_e,.bool n2_g,.slice n2_o n2_n n2_c,.int .i64 n2_e])∧aM w' (.agg #[.bool n0_g,.slice n0_o n0_n n0_c,.int .i64 n0_e]) (am (s 3 0)-am (s 4 0))∧aM w' (.agg #[.bool n1_g,.slice n1_o n1_n n1_c,.int .i64 n1_e]) (am (s 3 1)-am (s 4 1))∧aM w' (.agg #[.bool n2_g,.slice n2_o n2_n n2_c,.int .i64 n2_e]) (am (s 3 2)-am (s 4 2))∧Below W.heap.size W w'):=fun W=>js 3 4 hr (hz 3 (by decide)) (hz 4 (by decide)) W
  have ba0:Bd 1075 (am (s 0 0)-am (s 4 0)):=cG hr (hz 0 (by decide)) (hz 4 (by decide)) 0 (by decide)
  have ba1:Bd 1075 (am (s 0 1)-am (s 4 1)):=cG hr (hz 0 (by decide)) (hz 4 (by decide)) 1 (by decide)
  have ba2:Bd 1075 (am (s 0 2)-am (s 4 2)):=cG hr (hz 0 (by decide)) (hz 4 (by decide)) 2 (by decide)
  have bb0:Bd 1075 (am (s 1 0)-am (s 4 0)):=cG hr (hz 1 (by decide)) (hz 4 (by decide)) 0 (by decide)
  have bb1:Bd 1075 (am (s 1 1)-am (s 4 1)):=cG hr (hz 1 (by decide)) (hz 4 (by decide)) 1 (by decide)
  have bb2:Bd 1075 (am (s 1 2)-am (s 4 2)):=cG hr (hz 1 (by decide)) (hz 4 (by decide)) 2 (by decide)
  have bc0:Bd 1075 (am (s 2 0)-am (s 4 0)):=cG hr (hz 2 (by decide)) (hz 4 (by decide)) 0 (by decide)
  have bc1:Bd 1075 (am (s 2 1)-am (s 4 1)):=cG hr (hz 2 (by decide)) (hz 4 (by decide)) 1 (by decide)
  have bc2:Bd 1075 (am (s 2 2)-am (s 4 2)):=cG hr (hz 2 (by decide)) (hz 4 (by decide)) 2 (by decide)
  have bd0:Bd 1075 (am (s 3 0)-am (s 4 0)):=cG hr (hz 3 (by decide)) (hz 4 (by decide)) 0 (by decide)
  have bd1:Bd 1075 (am (s 3 1)-am (s 4 1)):=cG hr (hz 3 (by decide)) (hz 4 (by decide)) 1 (by decide)
  have bd2:Bd 1075 (am (s 3 2)-am (s 4 2)):=cG hr (hz 3 (by decide)) (hz 4 (by decide)) 2 (by decide)
  have hX:Hid (((am (s 3 0)-am (s 4 0))*(am (s 3 0)-am (s 4 0))+(am (s 3 1)-am (s 4 1))*(am (s 3 1)-am (s 4 1))+(am (s 3 2)-am (s 4 2))*(am (s 3 2)-am (s 4 2)))*((am (s 0 2)-am (s 4 2))*((am (s 1 0)-am (s 4 0))*(am (s 2 1)-am (s 4 1))-(am (s 2 0)-am (s 4 0))*(am (s 1 1)-am (s 4 1)))+(am (s 1 2)-am (s 4 2))*((am (s 2 0)-am (s 4 0))*(am (s 0 1)-am (s 4 1))-(am (s 0 0)-am (s 4 0))*(am (s 2 1)-am (s 4 1)))+(am (s 2 2)-am (s 4 2))*((am (s 0 0)-am (s 4 0))*(am (s 1 1)-am (s 4 1))-(am (s 1 0)-am (s 4 0))*(am (s 0 1)-am (s 4 1))))-((am (s 2 0)-am (s 4 0))*(am (s 2 0)-am (s 4 0))+(am (s 2 1)-am (s 4 1))*(am (s 2 1)-am (s 4 1))+(am (s 2 2)-am (s 4 2))*(am (s 2 2)-am (s 4 2)))*((am (s 3 2)-am (s 4 2))*((am (s 0 0)-am (s 4 0))*(am (s 1 1)-am (s 4 1))-(am (s 1 0)-am (s 4 0))*(am (s 0 1)-am (s 4 1)))+(am (s 0 2)-am (s 4 2))*((am (s 1 0)-am (s 4 0))*(am (s 3 1)-am (s 4 1))-(am (s 3 0)-am (s 4 0))*(am (s 1 1)-am (s 4 1)))+(am (s 1 2)-am (s 4 2))*((am (s 3 0)-am (s 4 0))*(am (s 0 1)-am (s 4 1))-(am (s 0 0)-am (s 4 0))*(am (s 3 1)-am (s 4 1))))+(((am (s 1 0)-am (s 4 0))*(am (s 1 0)-am (s 4 0))+(am (s 1 1)-am (s 4 1))*(am (s 1 1)-am (s 4 1))+(am (s 1 2)-am (s 4 2))*(am (s 1 2)-am (s 4 2)))*((am (s 2 2)-am (s 4 2))*((am (s 3 0)-am (s 4 0))*(am (s 0 1)-am (s 4 1))-(am (s 0 0)-am (s 4 0))*(am (s 3 1)-am (s 4 1)))+(am (s 3 2)-am (s 4 2))*((am (s 0 0)-am (s 4 0))*(am (s 2 1)-am (s 4 1))-(am (s 2 0)-am (s 4 0))*(am (s 0 1)-am (s 4 1)))+(am (s 0 2)-am (s 4 2))*((am (s 2 0)-am (s 4 0))*(am (s 3 1)-am (s 4 1))-(am (s 3 0)-am (s 4 0))*(am (s 2 1)-am (s 4 1))))-((am (s 0 0)-am (s 4 0))*(am (s 0 0)-am (s 4 0))+(am (s 0 1)-am (s 4 1))*(am (s 0 1)-am (s 4 1))+(am (s 0 2)-am (s 4 2))*(am (s 0 2)-am (s 4 2)))*((am (s 1 2)-am (s 4 2))*((am (s 2 0)-am (s 4 0))*(am (s 3 1)-am (s 4 1))-(am (s 3 0)-am (s 4 0))*(am (s 2 1)-am (s 4 1)))+(am (s 2 2)-am (s 4 2))*((am (s 3 0)-am (s 4 0))*(am (s 1 1)-am (s 4 1))-(am (s 1 0)-am (s 4 0))*(am (s 3 1)-am (s 4 1)))+(am (s 3 2)-am (s 4 2))*((am (s 1 0)-am (s 4 0))*(am (s 2 1)-am (s 4 1))-(am (s 2 0)-am (s 4 0))*(am (s 1 1)-am (s 4 1)))))=sX (vL s 4)):=by
    show _=_
    unfold sX lX dX mX vL
    simp only[show(0:Nat)<4 by decide,show(1:Nat)<4 by decide,show(2:Nat)<4 by decide,show(3:Nat)<4 by decide,if_true]
    generalize am (s 0 0)-am (s 4 0)=A0
    generalize am (s 0 1)-am (s 4 1)=A1
    generalize am (s 0 2)-am (s 4 2)=A2
    generalize am (s 1 0)-am (s 4 0)=B0
    generalize am (s 1 1)-am (s 4 1)=B1
    generalize am (s 1 2)-am (s 4 2)=B2
    generalize am (s 2 0)-am (s 4 0)=C0
    generalize am (s 2 1)-am (s 4 1)=C1
    generalize am (s 2 2)-am (s 4 2)=C2
    generalize am (s 3 0)-am (s 4 0)=D0
    generalize am (s 3 1)-am (s 4 1)=D1
    generalize am (s 3 2)-am (s 4 2)=D2
    grind
  clear hr hz
  generalize sX (vL s 4)=SX at *
  generalize am (s 0 0)-am (s 4 0)=A0 at *
  generalize am (s 0 1)-am (s 4 1)=A1 at *
  generalize am (s 0 2)-am (s 4 2)=A2 at *
  generalize am (s 1 0)-am (s 4 0)=B0 at *
  generalize am (s 1 1)-am (s 4 1)=B1 at *
  generalize am (s 1 2)-am (s 4 2)=B2 at *
  generalize am (s 2 0)-am (s 4 0)=C0 at *
  generalize am (s 2 1)-am (s 4 1)=C1 at *
  generalize am (s 2 2)-am (s 4 2)=C2 at *
  generalize am (s 3 0)-am (s 4 0)=D0 at *
  generalize am (s 3 1)-am (s 4 1)=D1 at *
  generalize am (s 3 2)-am (s 4 2)=D2 at *
  generalize s 0 0=cn at *
  generalize s 0 1=s01 at *
  generalize s 0 2=s02 at *
  generalize s 1 0=co at *
  generalize s 1 1=s11 at *
  generalize s 1 2=s12 at *
  generalize s 2 0=s20 at *
  generalize s 2 1=s21 at *
  generalize s 2 2=s22 at *
  generalize s 3 0=s30 at *
  generalize s 3 1=s31 at *
  generalize s 3 2=s32 at *
  generalize s 4 0=s40 at *
  generalize s 4 1=s41 at *
  generalize s 4 2=s42 at *
  obtain⟨hb0,p0_k,p1_k,p2_k,p3_k,p4_k,o_k,hsz0⟩:=uG w (.cells #[.int .i64 cn,.int .i64 s01,.int .i64 s02] 23) (.cells #[.int .i64 co,.int .i64 s11,.int .i64 s12] 23) (.cells #[.int .i64 s20,.int .i64 s21,.int .i64 s22] 23) (.cells #[.int .i64 s30,.int .i64 s31,.int .i64 s32] 23) (.cells #[.int .i64 s40,.int .i64 s41,.int .i64 s42] 23) (.cells #[.bool false,.slice none 0 0,.int .i64 0] 33)
  clear hsz0
  have f00:=af p0_k 0 rfl
  have f01:=af p0_k 1 rfl
  have f02:=af p0_k 2 rfl
  have f40:=af p4_k 0 rfl
  have f41:=af p4_k 1 rfl
  have f42:=af p4_k 2 rfl
  go_enter func16,ntmps16
  go_wp2_with fail
  clear f00 f01 f02 f40 f41 f42
  generalize ((((((w.alloc (.cells #[.int .i64 cn,.int .i64 s01,.int .i64 s02] 23)).alloc (.cells #[.int .i64 co,.int .i64 s11,.int .i64 s12] 23)).alloc (.cells #[.int .i64 s20,.int .i64 s21,.int .i64 s22] 23)).alloc (.cells #[.int .i64 s30,.int .i64 s31,.int .i64 s32] 23)).alloc (.cells #[.int .i64 s40,.int .i64 s41,.int .i64 s42] 23)).alloc (.cells #[.bool false,.slice none 0 0,.int .i64 0] 33))=x0 at hb0 p0_k p1_k p2_k p3_k p4_k o_k ⊢
  have hs0:=(aGe o_k).1
  refine(R0.out _).mono ?_
  rintro _ y1 ⟨a0_g,a0_o,a0_n,a0_c,a0_e,a1_g,a1_o,a1_n,a1_c,a1_e,a2_g,a2_o,a2_n,a2_c,a2_e,rfl,ka0,ka1,ka2,hw1⟩
  replace p0_k:=(hw1.block _ (aGe p0_k).1).trans p0_k
  replace p1_k:=(hw1.block _ (aGe p1_k).1).trans p1_k
  replace p2_k:=(hw1.block _ (aGe p2_k).1).trans p2_k
  replace p3_k:=(hw1.block _ (aGe p3_k).1).trans p3_k
  replace p4_k:=(hw1.block _ (aGe p4_k).1).trans p4_k
  replace o_k:=(hw1.block _ (aGe o_k).1).trans o_k
  have hb1:=ac hb0 hw1
  have lg_a:w.heap.size+5<y1.heap.size:=by have:=(aGe o_k).1;omega
  replace p0_k:=ap (.cells #[.bool a0_g,.slice a0_o a0_n a0_c,.int .i64 a0_e,.bool a1_g,.slice a1_o a1_n a1_c,.int .i64 a1_e,.bool a2_g,.slice a2_o a2_n a2_c,.int .i64 a2_e] 64) p0_k
  replace p1_k:=ap (.cells #[.bool a0_g,.slice a0_o a0_n a0_c,.int .i64 a0_e,.bool a1_g,.slice a1_o a1_n a1_c,.int .i64 a1_e,.bool a2_g,.slice a2_o a2_n a2_c,.int .i64 a2_e] 64) p1_k
  replace p2_k:=ap (.cells #[.bool a0_g,.slice a0_o a0_n a0_c,.int .i64 a0_e,.bool a1_g,.slice a1_o a1_n a1_c,.int .i64 a1_e,.bool a2_g,.slice a2_o a2_n a2_c,.int .i64 a2_e] 64) p2_k
  replace p3_k:=ap (.cells #[.bool a0_g,.slice a0_o a0_n a0_c,.int .i64 a0_e,.bool a1_g,.slice a1_o a1_n a1_c,.int .i64 a1_e,.bool a2_g,.slice a2_o a2_n a2_c,.int .i64 a2_e] 64) p3_k
  replace p4_k:=ap (.cells #[.bool a0_g,.slice a0_o a0_n a0_c,.int .i64 a0_e,.bool a1_g,.slice a1_o a1_n a1_c,.int .i64 a1_e,.bool a2_g,.slice a2_o a2_n a2_c,.int .i64 a2_e] 64) p4_k
  replace o_k:=ap (.cells #[.bool a0_g,.slice a0_o a0_n a0_c,.int .i64 a0_e,.bool a1_g,.slice a1_o a1_n a1_c,.int .i64 a1_e,.bool a2_g,.slice a2_o a2_n a2_c,.int .i64 a2_e] 64) o_k
  have a_k:=aA y1 (.cells #[.bool a0_g,.slice a0_o a0_n a0_c,.int .i64 a0_e,.bool a1_g,.slice a1_o a1_n a1_c,.int .i64 a1_e,.bool a2_g,.slice a2_o a2_n a2_c,.int .i64 a2_e] 64)
  replace ka0:=ka0.keeps (ah y1 (.cells #[.bool a0_g,.slice a0_o a0_n a0_c,.int .i64 a0_e,.bool a1_g,.slice a1_o a1_n a1_c,.int .i64 a1_e,.bool a2_g,.slice a2_o a2_n a2_c,.int .i64 a2_e] 64))
  replace ka1:=ka1.keeps (ah y1 (.cells #[.bool a0_g,.slice a0_o a0_n a0_c,.int .i64 a0_e,.bool a1_g,.slice a1_o a1_n a1_c,.int .i64 a1_e,.bool a2_g,.slice a2_o a2_n a2_c,.int .i64 a2_e] 64))
  replace ka2:=ka2.keeps (ah y1 (.cells #[.bool a0_g,.slice a0_o a0_n a0_c,.int .i64 a0_e,.bool a1_g,.slice a1_o a1_n a1_c,.int .i64 a1_e,.bool a2_g,.slice a2_o a2_n a2_c,.int .i64 a2_e] 64))
  replace hb1:=ac hb1 (ah y1 (.cells #[.bool a0_g,.slice a0_o a0_n a0_c,.int .i64 a0_e,.bool a1_g,.slice a1_o a1_n a1_c,.int .i64 a1_e,.bool a2_g,.slice a2_o a2_n a2_c,.int .i64 a2_e] 64))
  have f10:=af p1_k 0 rfl
  have f11:=af p1_k 1 rfl
  have f12:=af p1_k 2 rfl
  have f40:=af p4_k 0 rfl
  have f41:=af p4_k 1 rfl
  have f42:=af p4_k 2 rfl
  go_wp2_with fail
  clear f10 f11 f12 f40 f41 f42
  generalize y1.alloc (.cells #[.bool a0_g,.slice a0_o a0_n a0_c,.int .i64 a0_e,.bool a1_g,.slice a1_o a1_n a1_c,.int .i64 a1_e,.bool a2_g,.slice a2_o a2_n a2_c,.int .i64 a2_e] 64)=x1 at p0_k p1_k p2_k p3_k p4_k o_k a_k ka0 ka1 ka2 hb1 ⊢
  generalize y1.heap.size=g_a at a_k lg_a ⊢
  refine(R1.out _).mono ?_
  rintro _ y2 ⟨b0_g,b0_o,b0_n,b0_c,b0_e,b1_g,b1_o,b1_n,b1_c,b1_e,b2_g,b2_o,b2_n,b2_c,b2_e,rfl,kb0,kb1,kb2,hw2⟩
  replace ka0:=ka0.keeps hw2
  replace ka1:=ka1.keeps hw2
  replace ka2:=ka2.keeps hw2
  replace p0_k:=(hw2.block _ (aGe p0_k).1).trans p0_k
  replace p1_k:=(hw2.block _ (aGe p1_k).1).trans p1_k
  replace p2_k:=(hw2.block _ (aGe p2_k).1).trans p2_k
  replace p3_k:=(hw2.block _ (aGe p3_k).1).trans p3_k
  replace p4_k:=(hw2.block _ (aGe p4_k).1).trans p4_k
  replace o_k:=(hw2.block _ (aGe o_k).1).trans o_k
  replace a_k:=(hw2.block _ (aGe a_k).1).trans a_k
  have hb2:=ac hb1 hw2
  have lg_b:w.heap.size+5<y2.heap.size:=by have:=(aGe o_k).1;omega
  replace p0_k:=ap (.cells #[.bool b0_g,.slice b0_o b0_n b0_c,.int .i64 b0_e,.bool b1_g,.slice b1_o b1_n b1_c,.int .i64 b1_e,.bool b2_g,.slice b2_o b2_n b2_c,.int .i64 b2_e] 64) p0_k
  replace p1_k:=ap (.cells #[.bool b0_g,.slice b0_o b0_n b0_c,.int .i64 b0_e,.bool b1_g,.slice b1_o b1_n b1_c,.int .i64 b1_e,.bool b2_g,.slice b2_o b2_n b2_c,.int .i64 b2_e] 64) p1_k
  replace p2_k:=ap (.cells #[.bool b0_g,.slice b0_o b0_n b0_c,.int .i64 b0_e,.bool b1_g,.slice b1_o b1_n b1_c,.int .i64 b1_e,.bool b2_g,.slice b2_o b2_n b2_c,.int .i64 b2_e] 64) p2_k
  replace p3_k:=ap (.cells #[.bool b0_g,.slice b0_o b0_n b0_c,.int .i64 b0_e,.bool b1_g,.slice b1_o b1_n b1_c,.int .i64 b1_e,.bool b2_g,.slice b2_o b2_n b2_c,.int .i64 b2_e] 64) p3_k
  replace p4_k:=ap (.cells #[.bool b0_g,.slice b0_o b0_n b0_c,.int .i64 b0_e,.bool b1_g,.slice b1_o b1_n b1_c,.int .i64 b1_e,.bool b2_g,.slice b2_o b2_n b2_c,.int .i64 b2_e] 64) p4_k
  replace o_k:=ap (.cells #[.bool b0_g,.slice b0_o b0_n b0_c,.int .i64 b0_e,.bool b1_g,.slice b1_o b1_n b1_c,.int .i64 b1_e,.bool b2_g,.slice b2_o b2_n b2_c,.int .i64 b2_e] 64) o_k
  replace a_k:=ap (.cells #[.bool b0_g,.slice b0_o b0_n b0_c,.int .i64 b0_e,.bool b1_g,.slice b1_o b1_n b1_c,.int .i64 b1_e,.bool b2_g,.slice b2_o b2_n b2_c,.int .i64 b2_e] 64) a_k
  have b_k:=aA y2 (.cells #[.bool b0_g,.slice b0_o b0_n b0_c,.int .i64 b0_e,.bool b1_g,.slice b1_o b1_n b1_c,.int .i64 b1_e,.bool b2_g,.slice b2_o b2_n b2_c,.int .i64 b2_e] 64)
  replace ka0:=ka0.keeps (ah y2 (.cells #[.bool b0_g,.slice b0_o b0_n b0_c,.int .i64 b0_e,.bool b1_g,.slice b1_o b1_n b1_c,.int .i64 b1_e,.bool b2_g,.slice b2_o b2_n b2_c,.int .i64 b2_e] 64))
  replace ka1:=ka1.keeps (ah y2 (.cells #[.bool b0_g,.slice b0_o b0_n b0_c,.int .i64 b0_e,.bool b1_g,.slice b1_o b1_n b1_c,.int .i64 b1_e,.bool b2_g,.slice b2_o b2_n b2_c,.int .i64 b2_e] 64))
  replace ka2:=ka2.keeps (ah y2 (.cells #[.bool b0_g,.slice b0_o b0_n b0_c,.int .i64 b0_e,.bool b1_g,.slice b1_o b1_n b1_c,.int .i64 b1_e,.bool b2_g,.slice b2_o b2_n b2_c,.int .i64 b2_e] 64))
  replace kb0:=kb0.keeps (ah y2 (.cells #[.bool b0_g,.slice b0_o b0_n b0_c,.int .i64 b0_e,.bool b1_g,.slice b1_o b1_n b1_c,.int .i64 b1_e,.bool b2_g,.slice b2_o b2_n b2_c,.int .i64 b2_e] 64))
  replace kb1:=kb1.keeps (ah y2 (.cells #[.bool b0_g,.slice b0_o b0_n b0_c,.int .i64 b0_e,.bool b1_g,.slice b1_o b1_n b1_c,.int .i64 b1_e,.bool b2_g,.slice b2_o b2_n b2_c,.int .i64 b2_e] 64))
  replace kb2:=kb2.keeps (ah y2 (.cells #[.bool b0_g,.slice b0_o b0_n b0_c,.int .i64 b0_e,.bool b1_g,.slice b1_o b1_n b1_c,.int .i64 b1_e,.bool b2_g,.slice b2_o b2_n b2_c,.int .i64 b2_e] 64))
  replace hb2:=ac hb2 (ah y2 (.cells #[.bool b0_g,.slice b0_o b0_n b0_c,.int .i64 b0_e,.bool b1_g,.slice b1_o b1_n b1_c,.int .i64 b1_e,.bool b2_g,.slice b2_o b2_n b2_c,.int .i64 b2_e] 64))
  have f20:=af p2_k 0 rfl
  have f21:=af p2_k 1 rfl
  have f22:=af p2_k 2 rfl
  have f40:=af p4_k 0 rfl
  have f41:=af p4_k 1 rfl
  have f42:=af p4_k 2 rfl
  go_wp2_with fail
  clear f20 f21 f22 f40 f41 f42
  generalize y2.alloc (.cells #[.bool b0_g,.slice b0_o b0_n b0_c,.int .i64 b0_e,.bool b1_g,.slice b1_o b1_n b1_c,.int .i64 b1_e,.bool b2_g,.slice b2_o b2_n b2_c,.int .i64 b2_e] 64)=x2 at p0_k p1_k p2_k p3_k p4_k o_k a_k b_k ka0 ka1 ka2 kb0 kb1 kb2 hb2 ⊢
  generalize y2.heap.size=g_b at b_k lg_b ⊢
  refine(R2.out _).mono ?_
  rintro _ y3 ⟨c0_g,c0_o,c0_n,c0_c,c0_e,c1_g,c1_o,c1_n,c1_c,c1_e,c2_g,c2_o,c2_n,c2_c,c2_e,rfl,kc0,kc1,kc2,hw3⟩
  replace ka0:=ka0.keeps hw3
  replace ka1:=ka1.keeps hw3
  replace ka2:=ka2.keeps hw3
  replace kb0:=kb0.keeps hw3
  replace kb1:=kb1.keeps hw3
  replace kb2:=kb2.keeps hw3
  replace p0_k:=(hw3.block _ (aGe p0_k).1).trans p0_k
  replace p1_k:=(hw3.block _ (aGe p1_k).1).trans p1_k
  replace p2_k:=(hw3.block _ (aGe p2_k).1).trans p2_k
  replace p3_k:=(hw3.block _ (aGe p3_k).1).trans p3_k
  replace p4_k:=(hw3.block _ (aGe p4_k).1).trans p4_k
  replace o_k:=(hw3.block _ (aGe o_k).1).trans o_k
  replace a_k:=(hw3.block _ (aGe a_k).1).trans a_k
  replace b_k:=(hw3.block _ (aGe b_k).1).trans b_k
  have hb3:=ac hb2 hw3
  have lg_c:w.heap.size+5<y3.heap.size:=by have:=(aGe o_k).1;omega
  replace p0_k:=ap (.cells #[.bool c0_g,.slice c0_o c0_n c0_c,.int .i64 c0_e,.bool c1_g,.slice c1_o c1_n c1_c,.int .i64 c1_e,.bool c2_g,.slice c2_o c2_n c2_c,.int .i64 c2_e] 64) p0_k
  replace p1_k:=ap (.cells #[.bool c0_g,.slice c0_o c0_n c0_c,.int .i64 c0_e,.bool c1_g,.slice c1_o c1_n c1_c,.int .i64 c1_e,.bool c2_g,.slice c2_o c2_n c2_c,.int .i64 c2_e] 64) p1_k
  replace p2_k:=ap (.cells #[.bool c0_g,.slice c0_o c0_n c0_c,.int .i64 c0_e,.bool c1_g,.slice c1_o c1_n c1_c,.int .i64 c1_e,.bool c2_g,.slice c2_o c2_n c2_c,.int .i64 c2_e] 64) p2_k
  replace p3_k:=ap (.cells #[.bool c0_g,.slice c0_o c0_n c0_c,.int .i64 c0_e,.bool c1_g,.slice c1_o c1_n c1_c,.int .i64 c1_e,.bool c2_g,.slice c2_o c2_n c2_c,.int .i64 c2_e] 64) p3_k
  replace p4_k:=ap (.cells #[.bool c0_g,.slice c0_o c0_n c0_c,.int .i64 c0_e,.bool c1_g,.slice c1_o c1_n c1_c,.int .i64 c1_e,.bool c2_g,.slice c2_o c2_n c2_c,.int .i64 c2_e] 64) p4_k
  replace o_k:=ap (.cells #[.bool c0_g,.slice c0_o c0_n c0_c,.int .i64 c0_e,.bool c1_g,.slice c1_o c1_n c1_c,.int .i64 c1_e,.bool c2_g,.slice c2_o c2_n c2_c,.int .i64 c2_e] 64) o_k
  replace a_k:=ap (.cells #[.bool c0_g,.slice c0_o c0_n c0_c,.int .i64 c0_e,.bool c1_g,.slice c1_o c1_n c1_c,.int .i64 c1_e,.bool c2_g,.slice c2_o c2_n c2_c,.int .i64 c2_e] 64) a_k
  replace b_k:=ap (.cells #[.bool c0_g,.slice c0_o c0_n c0_c,.int .i64 c0_e,.bool c1_g,.slice c1_o c1_n c1_c,.int .i64 c1_e,.bool c2_g,.slice c2_o c2_n c2_c,.int .i64 c2_e] 64) b_k
  have c_k:=aA y3 (.cells #[.bool c0_g,.slice c0_o c0_n c0_c,.int .i64 c0_e,.bool c1_g,.slice c1_o c1_n c1_c,.int .i64 c1_e,.bool c2_g,.slice c2_o c2_n c2_c,.int .i64 c2_e] 64)
  replace ka0:=ka0.keeps (ah y3 (.cells #[.bool c0_g,.slice c0_o c0_n c0_c,.int .i64 c0_e,.bool c1_g,.slice c1_o c1_n c1_c,.int .i64 c1_e,.bool c2_g,.slice c2_o c2_n c2_c,.int .i64 c2_e] 64))
  replace ka1:=ka1.keeps (ah y3 (.cells #[.bool c0_g,.slice c0_o c0_n c0_c,.int .i64 c0_e,.bool c1_g,.slice c1_o c1_n c1_c,.int .i64 c1_e,.bool c2_g,.slice c2_o c2_n c2_c,.int .i64 c2_e] 64))
  replace ka2:=ka2.keeps (ah y3 (.cells #[.bool c0_g,.slice c0_o c0_n c0_c,.int .i64 c0_e,.bool c1_g,.slice c1_o c1_n c1_c,.int .i64 c1_e,.bool c2_g,.slice c2_o c2_n c2_c,.int .i64 c2_e] 64))
  replace kb0:=kb0.keeps (ah y3 (.cells #[.bool c0_g,.slice c0_o c0_n c0_c,.int .i64 c0_e,.bool c1_g,.slice c1_o c1_n c1_c,.int .i64 c1_e,.bool c2_g,.slice c2_o c2_n c2_c,.int .i64 c2_e] 64))
  replace kb1:=kb1.keeps (ah y3 (.cells #[.bool c0_g,.slice c0_o c0_n c0_c,.int .i64 c0_e,.bool c1_g,.slice c1_o c1_n c1_c,.int .i64 c1_e,.bool c2_g,.slice c2_o c2_n c2_c,.int .i64 c2_e] 64))
  replace kb2:=kb2.keeps (ah y3 (.cells #[.bool c0_g,.slice c0_o c0_n c0_c,.int .i64 c0_e,.bool c1_g,.slice c1_o c1_n c1_c,.int .i64 c1_e,.bool c2_g,.slice c2_o c2_n c2_c,.int .i64 c2_e] 64))
  replace kc0:=kc0.keeps (ah y3 (.cells #[.bool c0_g,.slice c0_o c0_n c0_c,.int .i64 c0_e,.bool c1_g,.slice c1_o c1_n c1_c,.int .i64 c1_e,.bool c2_g,.slice c2_o c2_n c2_c,.int .i64 c2_e] 64))
  replace kc1:=kc1.keeps (ah y3 (.cells #[.bool c0_g,.slice c0_o c0_n c0_c,.int .i64 c0_e,.bool c1_g,.slice c1_o c1_n c1_c,.int .i64 c1_e,.bool c2_g,.slice c2_o c2_n c2_c,.int .i64 c2_e] 64))
  replace kc2:=kc2.keeps (ah y3 (.cells #[.bool c0_g,.slice c0_o c0_n c0_c,.int .i64 c0_e,.bool c1_g,.slice c1_o c1_n c1_c,.int .i64 c1_e,.bool c2_g,.slice c2_o c2_n c2_c,.int .i64 c2_e] 64))
  replace hb3:=ac hb3 (ah y3 (.cells #[.bool c0_g,.slice c0_o c0_n c0_c,.int .i64 c0_e,.bool c1_g,.slice c1_o c1_n c1_c,.int .i64 c1_e,.bool c2_g,.slice c2_o c2_n c2_c,.int .i64 c2_e] 64))
  have f30:=af p3_k 0 rfl
  have f31:=af p3_k 1 rfl
  have f32:=af p3_k 2 rfl
  have f40:=af p4_k 0 rfl
  have f41:=af p4_k 1 rfl
  have f42:=af p4_k 2 rfl
  go_wp2_with fail
  clear f30 f31 f32 f40 f41 f42
  generalize y3.alloc (.cells #[.bool c0_g,.slice c0_o c0_n c0_c,.int .i64 c0_e,.bool c1_g,.slice c1_o c1_n c1_c,.int .i64 c1_e,.bool c2_g,.slice c2_o c2_n c2_c,.int .i64 c2_e] 64)=x3 at p0_k p1_k p2_k p3_k p4_k o_k a_k b_k c_k ka0 ka1 ka2 kb0 kb1 kb2 kc0 kc1 kc2 hb3 ⊢
  generalize y3.heap.size=g_c at c_k lg_c ⊢
  refine(R3.out _).mono ?_
  rintro _ y4 ⟨d0_g,d0_o,d0_n,d0_c,d0_e,d1_g,d1_o,d1_n,d1_c,d1_e,d2_g,d2_o,d2_n,d2_c,d2_e,rfl,kd0,kd1,kd2,hw4⟩
  replace ka0:=ka0.keeps hw4
  replace ka1:=ka1.keeps hw4
  replace ka2:=ka2.keeps hw4
  replace kb0:=kb0.keeps hw4
  replace kb1:=kb1.keeps hw4
  replace kb2:=kb2.keeps hw4
  replace kc0:=kc0.keeps hw4
  replace kc1:=kc1.keeps hw4
  replace kc2:=kc2.keeps hw4
  replace p0_k:=(hw4.block _ (aGe p0_k).1).trans p0_k
  replace p1_k:=(hw4.block _ (aGe p1_k).1).trans p1_k
  replace p2_k:=(hw4.block _ (aGe p2_k).1).trans p2_k
  replace p3_k:=(hw4.block _ (aGe p3_k).1).trans p3_k
  replace p4_k:=(hw4.block _ (aGe p4_k).1).trans p4_k
  replace o_k:=(hw4.block _ (aGe o_k).1).trans o_k
  replace a_k:=(hw4.block _ (aGe a_k).1).trans a_k
  replace b_k:=(hw4.block _ (aGe b_k).1).trans b_k
  replace c_k:=(hw4.block _ (aGe c_k).1).trans c_k
  have hb4:=ac hb3 hw4
  have lg_d:w.heap.size+5<y4.heap.size:=by have:=(aGe o_k).1;omega
  replace p0_k:=ap (.cells #[.bool d0_g,.slice d0_o d0_n d0_c,.int .i64 d0_e,.bool d1_g,.slice d1_o d1_n d1_c,.int .i64 d1_e,.bool d2_g,.slice d2_o d2_n d2_c,.int .i64 d2_e] 64) p0_k
  replace p1_k:=ap (.cells #[.bool d0_g,.slice d0_o d0_n d0_c,.int .i64 d0_e,.bool d1_g,.slice d1_o d1_n d1_c,.int .i64 d1_e,.bool d2_g,.slice d2_o d2_n d2_c,.int .i64 d2_e] 64) p1_k
  replace p2_k:=ap (.cells #[.bool d0_g,.slice d0_o d0_n d0_c,.int .i64 d0_e,.bool d1_g,.slice d1_o d1_n d1_c,.int .i64 d1_e,.bool d2_g,.slice d2_o d2_n d2_c,.int .i64 d2_e] 64) p2_k
  replace p3_k:=ap (.cells #[.bool d0_g,.slice d0_o d0_n d0_c,.int .i64 d0_e,.bool d1_g,.slice d1_o d1_n d1_c,.int .i64 d1_e,.bool d2_g,.slice d2_o d2_n d2_c,.int .i64 d2_e] 64) p3_k
  replace p4_k:=ap (.cells #[.bool d0_g,.slice d0_o d0_n d0_c,.int .i64 d0_e,.bool d1_g,.slice d1_o d1_n d1_c,.int .i64 d1_e,.bool d2_g,.slice d2_o d2_n d2_c,.int .i64 d2_e] 64) p4_k
  replace o_k:=ap (.cells #[.bool d0_g,.slice d0_o d0_n d0_c,.int .i64 d0_e,.bool d1_g,.slice d1_o d1_n d1_c,.int .i64 d1_e,.bool d2_g,.slice d2_o d2_n d2_c,.int .i64 d2_e] 64) o_k
  replace a_k:=ap (.cells #[.bool d0_g,.slice d0_o d0_n d0_c,.int .i64 d0_e,.bool d1_g,.slice d1_o d1_n d1_c,.int .i64 d1_e,.bool d2_g,.slice d2_o d2_n d2_c,.int .i64 d2_e] 64) a_k
  replace b_k:=ap (.cells #[.bool d0_g,.slice d0_o d0_n d0_c,.int .i64 d0_e,.bool d1_g,.slice d1_o d1_n d1_c,.int .i64 d1_e,.bool d2_g,.slice d2_o d2_n d2_c,.int .i64 d2_e] 64) b_k
  replace c_k:=ap (.cells #[.bool d0_g,.slice d0_o d0_n d0_c,.int .i64 d0_e,.bool d1_g,.slice d1_o d1_n d1_c,.int .i64 d1_e,.bool d2_g,.slice d2_o d2_n d2_c,.int .i64 d2_e] 64) c_k
  have d_k:=aA y4 (.cells #[.bool d0_g,.slice d0_o d0_n d0_c,.int .i64 d0_e,.bool d1_g,.slice d1_o d1_n d1_c,.int .i64 d1_e,.bool d2_g,.slice d2_o d2_n d2_c,.int .i64 d2_e] 64)
  replace ka0:=ka0.keeps (ah y4 (.cells #[.bool d0_g,.slice d0_o d0_n d0_c,.int .i64 d0_e,.bool d1_g,.slice d1_o d1_n d1_c,.int .i64 d1_e,.bool d2_g,.slice d2_o d2_n d2_c,.int .i64 d2_e] 64))
  replace ka1:=ka1.keeps (ah y4 (.cells #[.bool d0_g,.slice d0_o d0_n d0_c,.int .i64 d0_e,.bool d1_g,.slice d1_o d1_n d1_c,.int .i64 d1_e,.bool d2_g,.slice d2_o d2_n d2_c,.int .i64 d2_e] 64))
  replace ka2:=ka2.keeps (ah y4 (.cells #[.bool d0_g,.slice d0_o d0_n d0_c,.int .i64 d0_e,.bool d1_g,.slice d1_o d1_n d1_c,.int .i64 d1_e,.bool d2_g,.slice d2_o d2_n d2_c,.int .i64 d2_e] 64))
  replace kb0:=kb0.keeps (ah y4 (.cells #[.bool d0_g,.slice d0_o d0_n d0_c,.int .i64 d0_e,.bool d1_g,.slice d1_o d1_n d1_c,.int .i64 d1_e,.bool d2_g,.slice d2_o d2_n d2_c,.int .i64 d2_e] 64))
  replace kb1:=kb1.keeps (ah y4 (.cells #[.bool d0_g,.slice d0_o d0_n d0_c,.int .i64 d0_e,.bool d1_g,.slice d1_o d1_n d1_c,.int .i64 d1_e,.bool d2_g,.slice d2_o d2_n d2_c,.int .i64 d2_e] 64))
  replace kb2:=kb2.keeps (ah y4 (.cells #[.bool d0_g,.slice d0_o d0_n d0_c,.int .i64 d0_e,.bool d1_g,.slice d1_o d1_n d1_c,.int .i64 d1_e,.bool d2_g,.slice d2_o d2_n d2_c,.int .i64 d2_e] 64))
  replace kc0:=kc0.keeps (ah y4 (.cells #[.bool d0_g,.slice d0_o d0_n d0_c,.int .i64 d0_e,.bool d1_g,.slice d1_o d1_n d1_c,.int .i64 d1_e,.bool d2_g,.slice d2_o d2_n d2_c,.int .i64 d2_e] 64))
  replace kc1:=kc1.keeps (ah y4 (.cells #[.bool d0_g,.slice d0_o d0_n d0_c,.int .i64 d0_e,.bool d1_g,.slice d1_o d1_n d1_c,.int .i64 d1_e,.bool d2_g,.slice d2_o d2_n d2_c,.int .i64 d2_e] 64))
  replace kc2:=kc2.keeps (ah y4 (.cells #[.bool d0_g,.slice d0_o d0_n d0_c,.int .i64 d0_e,.bool d1_g,.slice d1_o d1_n d1_c,.int .i64 d1_e,.bool d2_g,.slice d2_o d2_n d2_c,.int .i64 d2_e] 64))
  replace kd0:=kd0.keeps (ah y4 (.cells #[.bool d0_g,.slice d0_o d0_n d0_c,.int .i64 d0_e,.bool d1_g,.slice d1_o d1_n d1_c,.int .i64 d1_e,.bool d2_g,.slice d2_o d2_n d2_c,.int .i64 d2_e] 64))
  replace kd1:=kd1.keeps (ah y4 (.cells #[.bool d0_g,.slice d0_o d0_n d0_c,.int .i64 d0_e,.bool d1_g,.slice d1_o d1_n d1_c,.int .i64 d1_e,.bool d2_g,.slice d2_o d2_n d2_c,.int .i64 d2_e] 64))
  replace kd2:=kd2.keeps (ah y4 (.cells #[.bool d0_g,.slice d0_o d0_n d0_c,.int .i64 d0_e,.bool d1_g,.slice d1_o d1_n d1_c,.int .i64 d1_e,.bool d2_g,.slice d2_o d2_n d2_c,.int .i64 d2_e] 64))
  replace hb4:=ac hb4 (ah y4 (.cells #[.bool d0_g,.slice d0_o d0_n d0_c,.int .i64 d0_e,.bool d1_g,.slice d1_o d1_n d1_c,.int .i64 d1_e,.bool d2_g,.slice d2_o d2_n d2_c,.int .i64 d2_e] 64))
  go_wp2_with fail
  generalize y4.alloc (.cells #[.bool d0_g,.slice d0_o d0_n d0_c,.int .i64 d0_e,.bool d1_g,.slice d1_o d1_n d1_c,.int .i64 d1_e,.bool d2_g,.slice d2_o d2_n d2_c,.int .i64 d2_e] 64)=x4 at p0_k p1_k p2_k p3_k p4_k o_k a_k b_k c_k d_k ka0 ka1 ka2 kb0 kb1 kb2 kc0 kc1 kc2 kd0 kd1 kd2 hb4 ⊢
  generalize y4.heap.size=g_d at d_k lg_d ⊢
  rename_i Q0 K00 hK00
  clear R0 R1 R2 R3 hw1 hw2 hw3 hw4
  have hK6:=hK00
  have HN6:∀ (g:Nat) (x6:World) (t:Array Value) (x_g:Bool) (x_o:Option Addr) (x_n x_c:Nat) (x_e:Int) (x_V:Int),#[t.getD 0 undef,t.getD 1 undef,t.getD 2 undef,t.getD 3 undef,t.getD 4 undef,.pointer (some ⟨w.heap.size,0,none⟩),.pointer (some ⟨w.heap.size+1,0,none⟩),.pointer (some ⟨w.heap.size+1+1,0,none⟩),.pointer (some ⟨w.heap.size+1+1+1,0,none⟩),.pointer (some ⟨w.heap.size+1+1+1+1,0,none⟩),.pointer (some ⟨w.heap.size+1+1+1+1+1,0,none⟩),.pointer (some ⟨g_a,0,none⟩),.pointer (some ⟨g_b,0,none⟩),.pointer (some ⟨g_c,0,none⟩),.pointer (some ⟨g_d,0,none⟩),.pointer (some ⟨g,0,none⟩),t.getD 16 undef,t.getD 17 undef,t.getD 18 undef,t.getD 19 undef,t.getD 20 undef,t.getD 21 undef,t.getD 22 undef,t.getD 23 undef,t.getD 24 undef,t.getD 25 undef,t.getD 26 undef,t.getD 27 undef,t.getD 28 undef,t.getD 29 undef,t.getD 30 undef,t.getD 31 undef,t.getD 32 undef,t.getD 33 undef,t.getD 34 undef,t.getD 35 undef,t.getD 36 undef,t.getD 37 undef,t.getD 38 undef,t.getD 39 undef,t.getD 40 undef,t.getD 41 undef,t.getD 42 undef,t.getD 43 undef,t.getD 44 undef,t.getD 45 undef,t.getD 46 undef,t.getD 47 undef,t.getD 48 undef,t.getD 49 undef,t.getD 50 undef,t.getD 51 undef,t.getD 52 undef,t.getD 53 undef,t.getD 54 undef,t.getD 55 undef,t.getD 56 undef,t.getD 57 undef,t.getD 58 undef,t.getD 59 undef,t.getD 60 undef,t.getD 61 undef]=t->x4.heap.size<=g->x6.heap[g]?=some (.cells #[.bool x_g,.slice x_o x_n x_c,.int .i64 x_e] 33 (0,0))->Below x4.heap.size x4 x6->bJ w.heap.size x6 x_V (.agg #[.bool x_g,.slice x_o x_n x_c,.int .i64 x_e])->x_V*(2^4194304*(2^4194304*2^4194304*2^4194304))=(D0*D0+D1*D1+D2*D2)*(A2*(B0*C1-C0*B1)+B2*(C0*A1-A0*C1)+C2*(A0*B1-B0*A1))-(C0*C0+C1*C1+C2*C2)*(D2*(A0*B1-B0*A1)+A2*(B0*D1-D0*B1)+B2*(D0*A1-A0*D1))->Bd (2*4304+1) x_V->Exit.then K00 Q0 Exit.normal { tmps:=t,defers:=[] } x6:=by
    intro g_x x6 t x_g x_o x_n x_c x_e x_V ht x_ge x_k hw6 x_D x_E x_B
    obtain⟨u6,hu⟩:∃ u:Nat->Value,t=#[u 0,u 1,u 2,u 3,u 4,.pointer (some ⟨w.heap.size,0,none⟩),.pointer (some ⟨w.heap.size+1,0,none⟩),.pointer (some ⟨w.heap.size+1+1,0,none⟩),.pointer (some ⟨w.heap.size+1+1+1,0,none⟩),.pointer (some ⟨w.heap.size+1+1+1+1,0,none⟩),.pointer (some ⟨w.heap.size+1+1+1+1+1,0,none⟩),.pointer (some ⟨g_a,0,none⟩),.pointer (some ⟨g_b,0,none⟩),.pointer (some ⟨g_c,0,none⟩),.pointer (some ⟨g_d,0,none⟩),.pointer (some ⟨g_x,0,none⟩),u 16,u 17,u 18,u 19,u 20,u 21,u 22,u 23,u 24,u 25,u 26,u 27,u 28,u 29,u 30,u 31,u 32,u 33,u 34,u 35,u 36,u 37,u 38,u 39,u 40,u 41,u 42,u 43,u 44,u 45,u 46,u 47,u 48,u 49,u 50,u 51,u 52,u 53,u 54,u 55,u 56,u 57,u 58,u 59,u 60,u 61]:=⟨fun k=>t.getD k undef,ht.symm⟩
    clear ht
    subst hu
    replace ka0:=ka0.keeps hw6
    replace ka1:=ka1.keeps hw6
    replace ka2:=ka2.keeps hw6
    replace kb0:=kb0.keeps hw6
    replace kb1:=kb1.keeps hw6
    replace kb2:=kb2.keeps hw6
    replace kc0:=kc0.keeps hw6
    replace kc1:=kc1.keeps hw6
    replace kc2:=kc2.keeps hw6
    replace kd0:=kd0.keeps hw6
    replace kd1:=kd1.keeps hw6
    replace kd2:=kd2.keeps hw6
    replace p0_k:=(hw6.block _ (aGe p0_k).1).trans p0_k
    replace p1_k:=(hw6.block _ (aGe p1_k).1).trans p1_k
    replace p2_k:=(hw6.block _ (aGe p2_k).1).trans p2_k
    replace p3_k:=(hw6.block _ (aGe p3_k).1).trans p3_k
    replace p4_k:=(hw6.block _ (aGe p4_k).1).trans p4_k
    replace o_k:=(hw6.block _ (aGe o_k).1).trans o_k
    replace a_k:=(hw6.block _ (aGe a_k).1).trans a_k
    replace b_k:=(hw6.block _ (aGe b_k).1).trans b_k
    replace c_k:=(hw6.block _ (aGe c_k).1).trans c_k
    replace d_k:=(hw6.block _ (aGe d_k).1).trans d_k
    have hb6:=ac hb4 hw6
    go_wp2_with fail
    rename_i K7 hK7
    have HN7:∀ (g:Nat) (x7:World) (t:Array Value) (y_g:Bool) (y_o:Option Addr) (y_n y_c:Nat) (y_e:Int) (y_V:Int),#[t.getD 0 undef,t.getD 1 undef,t.getD 2 undef,t.getD 3 undef,t.getD 4 undef,.pointer (some ⟨w.heap.size,0,none⟩),.pointer (some ⟨w.heap.size+1,0,none⟩),.pointer (some ⟨w.heap.size+1+1,0,none⟩),.pointer (some ⟨w.heap.size+1+1+1,0,none⟩),.pointer (some ⟨w.heap.size+1+1+1+1,0,none⟩),.pointer (some ⟨w.heap.size+1+1+1+1+1,0,none⟩),.pointer (some ⟨g_a,0,none⟩),.pointer (some ⟨g_b,0,none⟩),.pointer (some ⟨g_c,0,none⟩),.pointer (some ⟨g_d,0,none⟩),.pointer (some ⟨g_x,0,none⟩),.pointer (some ⟨g,0,none⟩),t.getD 17 undef,t.getD 18 undef,t.getD 19 undef,t.getD 20 undef,t.getD 21 undef,t.getD 22 undef,t.getD 23 undef,t.getD 24 undef,t.getD 25 undef,t.getD 26 undef,t.getD 27 undef,t.getD 28 undef,t.getD 29 undef,t.getD 30 undef,t.getD 31 undef,t.getD 32 undef,t.getD 33 undef,t.getD 34 undef,t.getD 35 undef,t.getD 36 undef,t.getD 37 undef,t.getD 38 undef,t.getD 39 undef,t.getD 40 undef,t.getD 41 undef,t.getD 42 undef,t.getD 43 undef,t.getD 44 undef,t.getD 45 undef,t.getD 46 undef,t.getD 47 undef,t.getD 48 undef,t.getD 49 undef,t.getD 50 undef,t.getD 51 undef,t.getD 52 undef,t.getD 53 undef,t.getD 54 undef,t.getD 55 undef,t.getD 56 undef,t.getD 57 undef,t.getD 58 undef,t.getD 59 undef,t.getD 60 undef,t.getD 61 undef]=t->x6.heap.size<=g->x7.heap[g]?=some (.cells #[.bool y_g,.slice y_o y_n y_c,.int .i64 y_e] 33 (0,0))->Below x6.heap.size x6 x7->bJ w.heap.size x7 y_V (.agg #[.bool y_g,.slice y_o y_n y_c,.int .i64 y_e])->y_V*(2^4194304*(2^4194304*2^4194304*2^4194304))=(B0*B0+B1*B1+B2*B2)*(C2*(D0*A1-A0*D1)+D2*(A0*C1-C0*A1)+A2*(C0*D1-D0*C1))-(A0*A0+A1*A1+A2*A2)*(B2*(C0*D1-D0*C1)+C2*(D0*B1-B0*D1)+D2*(B0*C1-C0*B1))->Bd (2*4304+1) y_V->Exit.then K7 Q0 Exit.normal { tmps:=t,defers:=[] } x7:=by
      intro g_y x7 t y_g y_o y_n y_c y_e y_V ht y_ge y_k hw7 y_D y_E y_B
      obtain⟨u7,hu⟩:∃ u:Nat->Value,t=#[u 0,u 1,u 2,u 3,u 4,.pointer (some ⟨w.heap.size,0,none⟩),.pointer (some ⟨w.heap.size+1,0,none⟩),.pointer (some ⟨w.heap.size+1+1,0,none⟩),.pointer (some ⟨w.heap.size+1+1+1,0,none⟩),.pointer (some ⟨w.heap.size+1+1+1+1,0,none⟩),.pointer (some ⟨w.heap.size+1+1+1+1+1,0,none⟩),.pointer (some ⟨g_a,0,none⟩),.pointer (some ⟨g_b,0,none⟩),.pointer (some ⟨g_c,0,none⟩),.pointer (some ⟨g_d,0,none⟩),.pointer (some ⟨g_x,0,none⟩),.pointer (some ⟨g_y,0,none⟩),u 17,u 18,u 19,u 20,u 21,u 22,u 23,u 24,u 25,u 26,u 27,u 28,u 29,u 30,u 31,u 32,u 33,u 34,u 35,u 36,u 37,u 38,u 39,u 40,u 41,u 42,u 43,u 44,u 45,u 46,u 47,u 48,u 49,u 50,u 51,u 52,u 53,u 54,u 55,u 56,u 57,u 58,u 59,u 60,u 61]:=⟨fun k=>t.getD k undef,ht.symm⟩
      clear ht
      subst hu
      replace ka0:=ka0.keeps hw7
      replace ka1:=ka1.keeps hw7
      replace ka2:=ka2.keeps hw7
      replace kb0:=kb0.keeps hw7
      replace kb1:=kb1.keeps hw7
      replace kb2:=kb2.keeps hw7
      replace kc0:=kc0.keeps hw7
      replace kc1:=kc1.keeps hw7
      replace kc2:=kc2.keeps hw7
      replace kd0:=kd0.keeps hw7
      replace kd1:=kd1.keeps hw7
      replace kd2:=kd2.keeps hw7
      replace p0_k:=(hw7.block _ (aGe p0_k).1).trans p0_k
      replace p1_k:=(hw7.block _ (aGe p1_k).1).trans p1_k
      replace p2_k:=(hw7.block _ (aGe p2_k).1).trans p2_k
      replace p3_k:=(hw7.block _ (aGe p3_k).1).trans p3_k
      replace p4_k:=(hw7.block _ (aGe p4_k).1).trans p4_k
      replace o_k:=(hw7.block _ (aGe o_k).1).trans o_k
      replace a_k:=(hw7.block _ (aGe a_k).1).trans a_k
      replace b_k:=(hw7.block _ (aGe b_k).1).trans b_k
      replace c_k:=(hw7.block _ (aGe c_k).1).trans c_k
      replace d_k:=(hw7.block _ (aGe d_k).1).trans d_k
      replace x_k:=(hw7.block _ (aGe x_k).1).trans x_k
      replace x_D:=x_D.keeps hw7
      have hb7:=ac hb6 hw7
      have fx0:=af x_k 0 rfl
      have fx1:=af x_k 1 rfl
      have fx2:=af x_k 2 rfl
      have fy0:=af y_k 0 rfl
      have fy1:=af y_k 1 rfl
      have fy2:=af y_k 2 rfl
      go_wp2_with fail
      clear fx0 fx1 fx2 fy0 fy1 fy2
      refine(gP (K:=8609) x_D y_D hb7.size x_B y_B (by decide)).mono ?_
      rintro _ ye ⟨v,rfl,hn,hwe⟩
      obtain⟨n_g,n_o,n_n,n_c,n_e,rfl⟩:=hn.shape
      have rk:=ak hwe o_k
      have e0:=af rk 0 rfl
      have e1:=af rk 1 rfl
      have e2:=af rk 2 rfl
      have z0:=ar rk 0
      have z1:=ar rk 1
      have z2:=ar rk 2
      go_wp2
      exact bodyPost_ret (v:=.agg #[.bool n_g,.slice n_o n_n n_c,.int .i64 n_e]) (by simp[results,results16,go_sem,e0,e1,e2]) rfl ⟨_,x_V+y_V,rfl,bw hn rk _ _ _,cX (ac hb7 hwe) (by omega) _ _ _,by rw[Int.add_mul,x_E,y_E];exact hX.out,x_B.add y_B (by decide)⟩
    have KK7:∀ W,Below x6.heap.size x6 W->W.cell? ⟨g_a,0,none⟩=some (.bool a0_g)∧W.cell? ⟨g_a,1,none⟩=some (.slice a0_o a0_n a0_c)∧W.cell? ⟨g_a,2,none⟩=some (.int .i64 a0_e)∧W.cell? ⟨g_a,3,none⟩=some (.bool a1_g)∧W.cell? ⟨g_a,4,none⟩=some (.slice a1_o a1_n a1_c)∧W.cell? ⟨g_a,5,none⟩=some (.int .i64 a1_e)∧W.cell? ⟨g_a,6,none⟩=some (.bool a2_g)∧W.cell? ⟨g_a,7,none⟩=some (.slice a2_o a2_n a2_c)∧W.cell? ⟨g_a,8,none⟩=some (.int .i64 a2_e)∧W.cell? ⟨g_b,0,none⟩=some (.bool b0_g)∧W.cell? ⟨g_b,1,none⟩=some (.slice b0_o b0_n b0_c)∧W.cell? ⟨g_b,2,none⟩=some (.int .i64 b0_e)∧W.cell? ⟨g_b,3,none⟩=some (.bool b1_g)∧W.cell? ⟨g_b,4,none⟩=some (.slice b1_o b1_n b1_c)∧W.cell? ⟨g_b,5,none⟩=some (.int .i64 b1_e)∧W.cell? ⟨g_b,6,none⟩=some (.bool b2_g)∧W.cell? ⟨g_b,7,none⟩=some (.slice b2_o b2_n b2_c)∧W.cell? ⟨g_b,8,none⟩=some (.int .i64 b2_e)∧W.cell? ⟨g_c,0,none⟩=some (.bool c0_g)∧W.cell? ⟨g_c,1,none⟩=some (.slice c0_o c0_n c0_c)∧W.cell? ⟨g_c,2,none⟩=some (.int .i64 c0_e)∧W.cell? ⟨g_c,3,none⟩=some (.bool c1_g)∧W.cell? ⟨g_c,4,none⟩=some (.slice c1_o c1_n c1_c)∧W.cell? ⟨g_c,5,none⟩=some (.int .i64 c1_e)∧W.cell? ⟨g_c,6,none⟩=some (.bool c2_g)∧W.cell? ⟨g_c,7,none⟩=some (.slice c2_o c2_n c2_c)∧W.cell? ⟨g_c,8,none⟩=some (.int .i64 c2_e)∧W.cell? ⟨g_d,0,none⟩=some (.bool d0_g)∧W.cell? ⟨g_d,1,none⟩=some (.slice d0_o d0_n d0_c)∧W.cell? ⟨g_d,2,none⟩=some (.int .i64 d0_e)∧W.cell? ⟨g_d,3,none⟩=some (.bool d1_g)∧W.cell? ⟨g_d,4,none⟩=some (.slice d1_o d1_n d1_c)∧W.cell? ⟨g_d,5,none⟩=some (.int .i64 d1_e)∧W.cell? ⟨g_d,6,none⟩=some (.bool d2_g)∧W.cell? ⟨g_d,7,none⟩=some (.slice d2_o d2_n d2_c)∧W.cell? ⟨g_d,8,none⟩=some (.int .i64 d2_e):=fun W hb=>⟨aj (af a_k 0 rfl) hb,aj (af a_k 1 rfl) hb,aj (af a_k 2 rfl) hb,aj (af a_k 3 rfl) hb,aj (af a_k 4 rfl) hb,aj (af a_k 5 rfl) hb,aj (af a_k 6 rfl) hb,aj (af a_k 7 rfl) hb,aj (af a_k 8 rfl) hb,aj (af b_k 0 rfl) hb,aj (af b_k 1 rfl) hb,aj (af b_k 2 rfl) hb,aj (af b_k 3 rfl) hb,aj (af b_k 4 rfl) hb,aj (af b_k 5 rfl) hb,aj (af b_k 6 rfl) hb,aj (af b_k 7 rfl) hb,aj (af b_k 8 rfl) hb,aj (af c_k 0 rfl) hb,aj (af c_k 1 rfl) hb,aj (af c_k 2 rfl) hb,aj (af c_k 3 rfl) hb,aj (af c_k 4 rfl) hb,aj (af c_k 5 rfl) hb,aj (af c_k 6 rfl) hb,aj (af c_k 7 rfl) hb,aj (af c_k 8 rfl) hb,aj (af d_k 0 rfl) hb,aj (af d_k 1 rfl) hb,aj (af d_k 2 rfl) hb,aj (af d_k 3 rfl) hb,aj (af d_k 4 rfl) hb,aj (af d_k 5 rfl) hb,aj (af d_k 6 rfl) hb,aj (af d_k 7 rfl) hb,aj (af d_k 8 rfl) hb⟩
    have hC7_0:=(al x6).drew
    have hT7_0:Below w.heap.size w x6.drew:=hb6.drew
    have ka0_7_0:=ka0.keeps (al x6).drew
    have ka1_7_0:=ka1.keeps (al x6).drew
    have ka2_7_0:=ka2.keeps (al x6).drew
    have kb0_7_0:=kb0.keeps (al x6).drew
    have kb1_7_0:=kb1.keeps (al x6).drew
    have kb2_7_0:=kb2.keeps (al x6).drew
    have kc0_7_0:=kc0.keeps (al x6).drew
    have kc1_7_0:=kc1.keeps (al x6).drew
    have kc2_7_0:=kc2.keeps (al x6).drew
    have kd0_7_0:=kd0.keeps (al x6).drew
    have kd1_7_0:=kd1.keeps (al x6).drew
    have kd2_7_0:=kd2.keeps (al x6).drew
    have hs7_0:=(al x6).drew
    go_region_held3 (fun W=>W.cell? ⟨g_a,0,none⟩=some (.bool a0_g)∧W.cell? ⟨g_a,1,none⟩=some (.slice a0_o a0_n a0_c)∧W.cell? ⟨g_a,2,none⟩=some (.int .i64 a0_e)∧W.cell? ⟨g_a,3,none⟩=some (.bool a1_g)∧W.cell? ⟨g_a,4,none⟩=some (.slice a1_o a1_n a1_c)∧W.cell? ⟨g_a,5,none⟩=some (.int .i64 a1_e)∧W.cell? ⟨g_a,6,none⟩=some (.bool a2_g)∧W.cell? ⟨g_a,7,none⟩=some (.slice a2_o a2_n a2_c)∧W.cell? ⟨g_a,8,none⟩=some (.int .i64 a2_e)∧W.cell? ⟨g_b,0,none⟩=some (.bool b0_g)∧W.cell? ⟨g_b,1,none⟩=some (.slice b0_o b0_n b0_c)∧W.cell? ⟨g_b,2,none⟩=some (.int .i64 b0_e)∧W.cell? ⟨g_b,3,none⟩=some (.bool b1_g)∧W.cell? ⟨g_b,4,none⟩=some (.slice b1_o b1_n b1_c)∧W.cell? ⟨g_b,5,none⟩=some (.int .i64 b1_e)∧W.cell? ⟨g_b,6,none⟩=some (.bool b2_g)∧W.cell? ⟨g_b,7,none⟩=some (.slice b2_o b2_n b2_c)∧W.cell? ⟨g_b,8,none⟩=some (.int .i64 b2_e)∧W.cell? ⟨g_c,0,none⟩=some (.bool c0_g)∧W.cell? ⟨g_c,1,none⟩=some (.slice c0_o c0_n c0_c)∧W.cell? ⟨g_c,2,none⟩=some (.int .i64 c0_e)∧W.cell? ⟨g_c,3,none⟩=some (.bool c1_g)∧W.cell? ⟨g_c,4,none⟩=some (.slice c1_o c1_n c1_c)∧W.cell? ⟨g_c,5,none⟩=some (.int .i64 c1_e)∧W.cell? ⟨g_c,6,none⟩=some (.bool c2_g)∧W.cell? ⟨g_c,7,none⟩=some (.slice c2_o c2_n c2_c)∧W.cell? ⟨g_c,8,none⟩=some (.int .i64 c2_e)∧W.cell? ⟨g_d,0,none⟩=some (.bool d0_g)∧W.cell? ⟨g_d,1,none⟩=some (.slice d0_o d0_n d0_c)∧W.cell? ⟨g_d,2,none⟩=some (.int .i64 d0_e)∧W.cell? ⟨g_d,3,none⟩=some (.bool d1_g)∧W.cell? ⟨g_d,4,none⟩=some (.slice d1_o d1_n d1_c)∧W.cell? ⟨g_d,5,none⟩=some (.int .i64 d1_e)∧W.cell? ⟨g_d,6,none⟩=some (.bool d2_g)∧W.cell? ⟨g_d,7,none⟩=some (.slice d2_o d2_n d2_c)∧W.cell? ⟨g_d,8,none⟩=some (.int .i64 d2_e))
      (with_reducible first|assumption|exact KK7 _ (ah _ _).drew|exact KK7 _ hC7_0|exact KK7 _ hC7_1|exact KK7 _ hC7_2|exact KK7 _ hC7_3|exact KK7 _ hC7_4|exact KK7 _ hC7_5|exact KK7 _ hC7_6|exact KK7 _ hC7_7|exact KK7 _ (ac hC7_0 (ah _ _))|exact KK7 _ (ac hC7_1 (ah _ _))|exact KK7 _ (ac hC7_2 (ah _ _))|exact KK7 _ (ac hC7_3 (ah _ _))|exact KK7 _ (ac hC7_4 (ah _ _))|exact KK7 _ (ac hC7_5 (ah _ _))|exact KK7 _ (ac hC7_6 (ah _ _))|exact KK7 _ (ac hC7_7 (ah _ _))|exact KK7 _ (aU hC7_7 (Nat.le_refl _) _ _ _)|exact KK7 _ (aU hC7_7 hC7_1.size _ _ _)|exact KK7 _ (aU hC7_7 hC7_2.size _ _ _)|exact KK7 _ (aU hC7_7 hC7_3.size _ _ _)|exact KK7 _ (aU hC7_7 hC7_4.size _ _ _)|exact KK7 _ (aU hC7_7 hC7_5.size _ _ _)|exact KK7 _ (aU hC7_7 hC7_6.size _ _ _)|fail)
      (first
        | (go_at_call 31;have _t:=hs7_6;refine(ik (K:=8608) (t1_A.keeps (by with_reducible first|exact al _|exact ah _ _|exact aB _ _)) (t2_A.keeps (by with_reducible first|exact al _|exact ah _ _|exact aB _ _)) (Nat.le_trans hT7_6.size (by with_reducible first|exact Nat.le_refl _|exact(ah _ _).size|exact(aB _ _).size)) t1_B t2_B (by decide)).mono ?_;rintro _ y7_7 ⟨v,rfl,nz7,hq7_7⟩;obtain⟨y_V,hx_V⟩:∃ V,V=t1_V-t2_V:=⟨_,rfl⟩;rw[<- hx_V] at nz7;obtain⟨y_g,y_o,y_n,y_c,y_e,rfl⟩:=nz7.shape;have y_A:=nz7;have y_E:y_V*(2^4194304*(2^4194304*2^4194304*2^4194304))=(B0*B0+B1*B1+B2*B2)*(C2*(D0*A1-A0*D1)+D2*(A0*C1-C0*A1)+A2*(C0*D1-D0*C1))-(A0*A0+A1*A1+A2*A2)*(B2*(C0*D1-D0*C1)+C2*(D0*B1-B0*D1)+D2*(B0*C1-C0*B1)):=(by rw[hx_V,Int.sub_mul,t1_F,t2_F]);have y_B:Bd (2*4304+1) y_V:=(by rw[hx_V];exact t1_B.sub t2_B (by decide));have hs7_7:Below y7_6.heap.size y7_6 y7_7:=(by with_reducible first|exact hq7_7|exact ac (ah _ _) hq7_7|exact ac (aB _ _) hq7_7);have hT7_7:=ac hT7_6 hs7_7;have hC7_7:=ac hC7_6 hs7_7;have ka0_7_7:=ka0_7_6.keeps hs7_7;have ka1_7_7:=ka1_7_6.keeps hs7_7;have ka2_7_7:=ka2_7_6.keeps hs7_7;have kb0_7_7:=kb0_7_6.keeps hs7_7;have kb1_7_7:=kb1_7_6.keeps hs7_7;have kb2_7_7:=kb2_7_6.keeps hs7_7;have kc0_7_7:=kc0_7_6.keeps hs7_7;have kc1_7_7:=kc1_7_6.keeps hs7_7;have kc2_7_7:=kc2_7_6.keeps hs7_7;have kd0_7_7:=kd0_7_6.keeps hs7_7;have kd1_7_7:=kd1_7_6.keeps hs7_7;have kd2_7_7:=kd2_7_6.keeps hs7_7;with_reducible first|(have qz7:y7_7.heap[x6.heap.size]?=some (.cells #[.bool false,.slice none 0 0,.int .i64 0] 33 (0,0)):=aw hq7_7 (aw hq7_6 (aw hq7_5 (aw hq7_4 (aw hq7_3 (aw hq7_2 (aw hq7_1 (cL x6 (.cells #[.bool false,.slice none 0 0,.int .i64 0] 33))))))));have cz7_0:=af qz7 0 rfl;have zz7_0:=ar qz7 0;have cz7_1:=af qz7 1 rfl;have zz7_1:=ar qz7 1;have cz7_2:=af qz7 2 rfl;have zz7_2:=ar qz7 2)|(have qz7:y7_7.heap[y7_1.heap.size]?=some (.cells #[.bool false,.slice none 0 0,.int .i64 0] 33 (0,0)):=aw hq7_7 (aw hq7_6 (aw hq7_5 (aw hq7_4 (aw hq7_3 (aw hq7_2 (aA _ _))))));have cz7_0:=af qz7 0 rfl;have zz7_0:=ar qz7 0;have cz7_1:=af qz7 1 rfl;have zz7_1:=ar qz7 1;have cz7_2:=af qz7 2 rfl;have zz7_2:=ar qz7 2)|(have qz7:y7_7.heap[y7_2.heap.size]?=some (.cells #[.bool false,.slice none 0 0,.int .i64 0] 33 (0,0)):=aw hq7_7 (aw hq7_6 (aw hq7_5 (aw hq7_4 (aw hq7_3 (aA _ _)))));have cz7_0:=af qz7 0 rfl;have zz7_0:=ar qz7 0;have cz7_1:=af qz7 1 rfl;have zz7_1:=ar qz7 1;have cz7_2:=af qz7 2 rfl;have zz7_2:=ar qz7 2)|(have qz7:y7_7.heap[y7_3.heap.size]?=some (.cells #[.bool false,.slice none 0 0,.int .i64 0] 33 (0,0)):=aw hq7_7 (aw hq7_6 (aw hq7_5 (aw hq7_4 (aA _ _))));have cz7_0:=af qz7 0 rfl;have zz7_0:=ar qz7 0;have cz7_1:=af qz7 1 rfl;have zz7_1:=ar qz7 1;have cz7_2:=af qz7 2 rfl;have zz7_2:=ar qz7 2)|(have qz7:y7_7.heap[y7_4.heap.size]?=some (.cells #[.bool false,.slice none 0 0,.int .i64 0] 33 (0,0)):=aw hq7_7 (aw hq7_6 (aw hq7_5 (aA _ _)));have cz7_0:=af qz7 0 rfl;have zz7_0:=ar qz7 0;have cz7_1:=af qz7 1 rfl;have zz7_1:=ar qz7 1;have cz7_2:=af qz7 2 rfl;have zz7_2:=ar qz7 2)|(have qz7:y7_7.heap[y7_5.heap.size]?=some (.cells #[.bool false,.slice none 0 0,.int .i64 0] 33 (0,0)):=aw hq7_7 (aw hq7_6 (aA _ _));have cz7_0:=af qz7 0 rfl;have zz7_0:=ar qz7 0;have cz7_1:=af qz7 1 rfl;have zz7_1:=ar qz7 1;have cz7_2:=af qz7 2 rfl;have zz7_2:=ar qz7 2)|(have qz7:y7_7.heap[y7_6.heap.size]?=some (.cells #[.bool false,.slice none 0 0,.int .i64 0] 33 (0,0)):=aw hq7_7 (aA _ _);have cz7_0:=af qz7 0 rfl;have zz7_0:=ar qz7 0;have cz7_1:=af qz7 1 rfl;have zz7_1:=ar qz7 1;have cz7_2:=af qz7 2 rfl;have zz7_2:=ar qz7 2)|skip)
        | (go_at_call 32;have _t:=hs7_5;refine(cP (K:=4304) (nv_7.num.keeps (by with_reducible first|exact al _|exact ah _ _|exact aB _ _)) (nd27.num.keeps (by with_reducible first|exact al _|exact ah _ _|exact aB _ _)) (v__B.up (by decide) (by decide)) d2_B (by decide)).mono ?_;rintro _ y7_6 ⟨v,t2_V,rfl,nt27,t2_E,t2_B⟩;obtain⟨t2_g,t2_o,t2_n,t2_c,t2_e,rfl⟩:=aN nt27;have hq7_6:=nt27.below;have t2_A:=nt27.dan.lower (Nat.le_trans hT7_5.size (by with_reducible first|exact Nat.le_refl _|exact(ah _ _).size|exact(aB _ _).size));have t2_F:=uX t2_E v__E d2_E;have hs7_6:Below y7_5.heap.size y7_5 y7_6:=(by with_reducible first|exact hq7_6|exact ac (ah _ _) hq7_6|exact ac (aB _ _) hq7_6);have hT7_6:=ac hT7_5 hs7_6;have hC7_6:=ac hC7_5 hs7_6;have ka0_7_6:=ka0_7_5.keeps hs7_6;have ka1_7_6:=ka1_7_5.keeps hs7_6;have ka2_7_6:=ka2_7_5.keeps hs7_6;have kb0_7_6:=kb0_7_5.keeps hs7_6;have kb1_7_6:=kb1_7_5.keeps hs7_6;have kb2_7_6:=kb2_7_5.keeps hs7_6;have kc0_7_6:=kc0_7_5.keeps hs7_6;have kc1_7_6:=kc1_7_5.keeps hs7_6;have kc2_7_6:=kc2_7_5.keeps hs7_6;have kd0_7_6:=kd0_7_5.keeps hs7_6;have kd1_7_6:=kd1_7_5.keeps hs7_6;have kd2_7_6:=kd2_7_5.keeps hs7_6;have t1_A:=t1_A.keeps hs7_6)
        | (go_at_call 22;have _t:=hs7_4;refine(lI (kb0_7_4.keeps (by with_reducible first|exact al _|exact ah _ _|exact aB _ _)) bb0 (kb1_7_4.keeps (by with_reducible first|exact al _|exact ah _ _|exact aB _ _)) bb1 (kb2_7_4.keeps (by with_reducible first|exact al _|exact ah _ _|exact aB _ _)) bb2 (kc0_7_4.keeps (by with_reducible first|exact al _|exact ah _ _|exact aB _ _)) bc0 (kc1_7_4.keeps (by with_reducible first|exact al _|exact ah _ _|exact aB _ _)) bc1 (kc2_7_4.keeps (by with_reducible first|exact al _|exact ah _ _|exact aB _ _)) bc2 (kd0_7_4.keeps (by with_reducible first|exact al _|exact ah _ _|exact aB _ _)) bd0 (kd1_7_4.keeps (by with_reducible first|exact al _|exact ah _ _|exact aB _ _)) bd1 (kd2_7_4.keeps (by with_reducible first|exact al _|exact ah _ _|exact aB _ _)) bd2).mono ?_;rintro _ y7_5 ⟨v,d2_V,rfl,nd27,hq7_5,d2_E,d2_B⟩;obtain⟨d2_g,d2_o,d2_n,d2_c,d2_e,rfl⟩:=nd27.shape;have hs7_5:Below y7_4.heap.size y7_4 y7_5:=(by with_reducible first|exact hq7_5|exact ac (ah _ _) hq7_5|exact ac (aB _ _) hq7_5);have hT7_5:=ac hT7_4 hs7_5;have hC7_5:=ac hC7_4 hs7_5;have ka0_7_5:=ka0_7_4.keeps hs7_5;have ka1_7_5:=ka1_7_4.keeps hs7_5;have ka2_7_5:=ka2_7_4.keeps hs7_5;have kb0_7_5:=kb0_7_4.keeps hs7_5;have kb1_7_5:=kb1_7_4.keeps hs7_5;have kb2_7_5:=kb2_7_4.keeps hs7_5;have kc0_7_5:=kc0_7_4.keeps hs7_5;have kc1_7_5:=kc1_7_4.keeps hs7_5;have kc2_7_5:=kc2_7_4.keeps hs7_5;have kd0_7_5:=kd0_7_4.keeps hs7_5;have kd1_7_5:=kd1_7_4.keeps hs7_5;have kd2_7_5:=kd2_7_4.keeps hs7_5;have nv_7:=nv_7.keeps hs7_5;have t1_A:=t1_A.keeps hs7_5)
        | (go_at_call 33;have _t:=hs7_3;refine(jG (K:=1075) (ka0_7_3.keeps (by with_reducible first|exact al _|exact ah _ _|exact aB _ _)) (ka1_7_3.keeps (by with_reducible first|exact al _|exact ah _ _|exact aB _ _)) (ka2_7_3.keeps (by with_reducible first|exact al _|exact ah _ _|exact aB _ _)) ba0 ba1 ba2 (by decide)).mono ?_;rintro _ y7_4 ⟨v,v__V,rfl,nv_7,hq7_4,v__E,v__B⟩;obtain⟨v__g,v__o,v__n,v__c,v__e,rfl⟩:=nv_7.shape;have hs7_4:Below y7_3.heap.size y7_3 y7_4:=(by with_reducible first|exact hq7_4|exact ac (ah _ _) hq7_4|exact ac (aB _ _) hq7_4);have hT7_4:=ac hT7_3 hs7_4;have hC7_4:=ac hC7_3 hs7_4;have ka0_7_4:=ka0_7_3.keeps hs7_4;have ka1_7_4:=ka1_7_3.keeps hs7_4;have ka2_7_4:=ka2_7_3.keeps hs7_4;have kb0_7_4:=kb0_7_3.keeps hs7_4;have kb1_7_4:=kb1_7_3.keeps hs7_4;have kb2_7_4:=kb2_7_3.keeps hs7_4;have kc0_7_4:=kc0_7_3.keeps hs7_4;have kc1_7_4:=kc1_7_3.keeps hs7_4;have kc2_7_4:=kc2_7_3.keeps hs7_4;have kd0_7_4:=kd0_7_3.keeps hs7_4;have kd1_7_4:=kd1_7_3.keeps hs7_4;have kd2_7_4:=kd2_7_3.keeps hs7_4;have t1_A:=t1_A.keeps hs7_4)
        | (go_at_call 32;have _t:=hs7_2;refine(cP (K:=4304) (nu7.num.keeps (by with_reducible first|exact al _|exact ah _ _|exact aB _ _)) (nd17.num.keeps (by with_reducible first|exact al _|exact ah _ _|exact aB _ _)) (u_B.up (by decide) (by decide)) d1_B (by decide)).mono ?_;rintro _ y7_3 ⟨v,t1_V,rfl,nt17,t1_E,t1_B⟩;obtain⟨t1_g,t1_o,t1_n,t1_c,t1_e,rfl⟩:=aN nt17;have hq7_3:=nt17.below;have t1_A:=nt17.dan.lower (Nat.le_trans hT7_2.size (by with_reducible first|exact Nat.le_refl _|exact(ah _ _).size|exact(aB _ _).size));have t1_F:=uX t1_E u_E d1_E;have hs7_3:Below y7_2.heap.size y7_2 y7_3:=(by with_reducible first|exact hq7_3|exact ac (ah _ _) hq7_3|exact ac (aB _ _) hq7_3);have hT7_3:=ac hT7_2 hs7_3;have hC7_3:=ac hC7_2 hs7_3;have ka0_7_3:=ka0_7_2.keeps hs7_3;have ka1_7_3:=ka1_7_2.keeps hs7_3;have ka2_7_3:=ka2_7_2.keeps hs7_3;have kb0_7_3:=kb0_7_2.keeps hs7_3;have kb1_7_3:=kb1_7_2.keeps hs7_3;have kb2_7_3:=kb2_7_2.keeps hs7_3;have kc0_7_3:=kc0_7_2.keeps hs7_3;have kc1_7_3:=kc1_7_2.keeps hs7_3;have kc2_7_3:=kc2_7_2.keeps hs7_3;have kd0_7_3:=kd0_7_2.keeps hs7_3;have kd1_7_3:=kd1_7_2.keeps hs7_3;have kd2_7_3:=kd2_7_2.keeps hs7_3)
        | (go_at_call 22;have _t:=hs7_1;refine(lI (kc0_7_1.keeps (by with_reducible first|exact al _|exact ah _ _|exact aB _ _)) bc0 (kc1_7_1.keeps (by with_reducible first|exact al _|exact ah _ _|exact aB _ _)) bc1 (kc2_7_1.keeps (by with_reducible first|exact al _|exact ah _ _|exact aB _ _)) bc2 (kd0_7_1.keeps (by with_reducible first|exact al _|exact ah _ _|exact aB _ _)) bd0 (kd1_7_1.keeps (by with_reducible first|exact al _|exact ah _ _|exact aB _ _)) bd1 (kd2_7_1.keeps (by with_reducible first|exact al _|exact ah _ _|exact aB _ _)) bd2 (ka0_7_1.keeps (by with_reducible first|exact al _|exact ah _ _|exact aB _ _)) ba0 (ka1_7_1.keeps (by with_reducible first|exact al _|exact ah _ _|exact aB _ _)) ba1 (ka2_7_1.keeps (by with_reducible first|exact al _|exact ah _ _|exact aB _ _)) ba2).mono ?_;rintro _ y7_2 ⟨v,d1_V,rfl,nd17,hq7_2,d1_E,d1_B⟩;obtain⟨d1_g,d1_o,d1_n,d1_c,d1_e,rfl⟩:=nd17.shape;have hs7_2:Below y7_1.heap.size y7_1 y7_2:=(by with_reducible first|exact hq7_2|exact ac (ah _ _) hq7_2|exact ac (aB _ _) hq7_2);have hT7_2:=ac hT7_1 hs7_2;have hC7_2:=ac hC7_1 hs7_2;have ka0_7_2:=ka0_7_1.keeps hs7_2;have ka1_7_2:=ka1_7_1.keeps hs7_2;have ka2_7_2:=ka2_7_1.keeps hs7_2;have kb0_7_2:=kb0_7_1.keeps hs7_2;have kb1_7_2:=kb1_7_1.keeps hs7_2;have kb2_7_2:=kb2_7_1.keeps hs7_2;have kc0_7_2:=kc0_7_1.keeps hs7_2;have kc1_7_2:=kc1_7_1.keeps hs7_2;have kc2_7_2:=kc2_7_1.keeps hs7_2;have kd0_7_2:=kd0_7_1.keeps hs7_2;have kd1_7_2:=kd1_7_1.keeps hs7_2;have kd2_7_2:=kd2_7_1.keeps hs7_2;have nu7:=nu7.keeps hs7_2)
        | (go_at_call 33; refine (jG (K:=1075) (kb0_7_0.keeps (by with_reducible first | exact al _ | exact ah _ _ | exact aB _ _)) (kb1_7_0.keeps (by with_reducible first | exact al _ | exact ah _ _ | exact aB _ _)) (kb2_7_0.keeps (by with_reducible first | exact al _ | exact ah _ _ | exact aB _ _)) bb0 bb1 bb2 (by decide)).mono ?_; rintro _ y7_1 ⟨v,u_V,rfl,nu7,hq7_1,u_E,u_B⟩; obtain ⟨u_g,u_o,u_n,u_c,u_e,rfl⟩:=nu7.shape; have hs7_1:Below x6.drew.heap.size x6.drew y7_1:=(by with_reducible first | exact hq7_1 | exact ac (ah _ _) hq7_1 | exact ac (aB _ _) hq7_1); have hT7_1:=ac hT7_0 hs7_1; have hC7_1:=ac hC7_0 hs7_1; have ka0_7_1:=ka0_7_0.keeps hs7_1; have ka1_7_1:=ka1_7_0.keeps hs7_1; have ka2_7_1:=ka2_7_0.keeps hs7_1; have kb0_7_1:=kb0_7_0.keeps hs7_1; have kb1_7_1:=kb1_7_0.keeps hs7_1; have kb2_7_1:=kb2_7_0.keeps hs7_1; have kc0_7_1:=kc0_7_0.keeps hs7_1; have kc1_7_1:=kc1_7_0.keeps hs7_1; have kc2_7_1:=kc2_7_0.keeps hs7_1; have kd0_7_1:=kd0_7_0.keeps hs7_1; have kd1_7_1:=kd1_7_0.keeps hs7_1; have kd2_7_1:=kd2_7_0.keeps hs7_1))
    · exact HN7 y7_7.heap.size _ _ _ _ _ _ _ y_V (by kernel_rfl) ((ac (ac (ac (ac (ac (ac (ac (hs7_0) hs7_1) hs7_2) hs7_3) hs7_4) hs7_5) hs7_6) hs7_7).size) (aA _ _) (ac (ac (ac (ac (ac (ac (ac (ac (hs7_0) hs7_1) hs7_2) hs7_3) hs7_4) hs7_5) hs7_6) hs7_7) (ah _ _)) (y_A.keeps (ah _ _)) y_E y_B
    · exact HN7 y7_6.heap.size _ _ _ _ _ _ _ y_V (by kernel_rfl) ((ac (ac (ac (ac (ac (ac (hs7_0) hs7_1) hs7_2) hs7_3) hs7_4) hs7_5) hs7_6).size) (aq (aq (aq (aw hq7_7 (aA _ _)) 0 _) 1 _) 2 _) (aU (ac (ac (ac (ac (ac (ac (ac (hs7_0) hs7_1) hs7_2) hs7_3) hs7_4) hs7_5) hs7_6) hs7_7) ((ac (ac (ac (ac (ac (ac (hs7_0) hs7_1) hs7_2) hs7_3) hs7_4) hs7_5) hs7_6).size) _ _ _) (bw y_A (aw hq7_7 (aA _ _)) _ _ _) y_E y_B
    · exact HN7 y7_5.heap.size _ _ _ _ _ _ _ y_V (by kernel_rfl) ((ac (ac (ac (ac (ac (hs7_0) hs7_1) hs7_2) hs7_3) hs7_4) hs7_5).size) (aq (aq (aq (aw hq7_7 (aw hq7_6 (aA _ _))) 0 _) 1 _) 2 _) (aU (ac (ac (ac (ac (ac (ac (ac (hs7_0) hs7_1) hs7_2) hs7_3) hs7_4) hs7_5) hs7_6) hs7_7) ((ac (ac (ac (ac (ac (hs7_0) hs7_1) hs7_2) hs7_3) hs7_4) hs7_5).size) _ _ _) (bw y_A (aw hq7_7 (aw hq7_6 (aA _ _))) _ _ _) y_E y_B
    · exact HN7 y7_4.heap.size _ _ _ _ _ _ _ y_V (by kernel_rfl) ((ac (ac (ac (ac (hs7_0) hs7_1) hs7_2) hs7_3) hs7_4).size) (aq (aq (aq (aw hq7_7 (aw hq7_6 (aw hq7_5 (aA _ _)))) 0 _) 1 _) 2 _) (aU (ac (ac (ac (ac (ac (ac (ac (hs7_0) hs7_1) hs7_2) hs7_3) hs7_4) hs7_5) hs7_6) hs7_7) ((ac (ac (ac (ac (hs7_0) hs7_1) hs7_2) hs7_3) hs7_4).size) _ _ _) (bw y_A (aw hq7_7 (aw hq7_6 (aw hq7_5 (aA _ _)))) _ _ _) y_E y_B
    · exact HN7 y7_3.heap.size _ _ _ _ _ _ _ y_V (by kernel_rfl) ((ac (ac (ac (hs7_0) hs7_1) hs7_2) hs7_3).size) (aq (aq (aq (aw hq7_7 (aw hq7_6 (aw hq7_5 (aw hq7_4 (aA _ _))))) 0 _) 1 _) 2 _) (aU (ac (ac (ac (ac (ac (ac (ac (hs7_0) hs7_1) hs7_2) hs7_3) hs7_4) hs7_5) hs7_6) hs7_7) ((ac (ac (ac (hs7_0) hs7_1) hs7_2) hs7_3).size) _ _ _) (bw y_A (aw hq7_7 (aw hq7_6 (aw hq7_5 (aw hq7_4 (aA _ _))))) _ _ _) y_E y_B
    · exact HN7 y7_2.heap.size _ _ _ _ _ _ _ y_V (by kernel_rfl) ((ac (ac (hs7_0) hs7_1) hs7_2).size) (aq (aq (aq (aw hq7_7 (aw hq7_6 (aw hq7_5 (aw hq7_4 (aw hq7_3 (aA _ _)))))) 0 _) 1 _) 2 _) (aU (ac (ac (ac (ac (ac (ac (ac (hs7_0) hs7_1) hs7_2) hs7_3) hs7_4) hs7_5) hs7_6) hs7_7) ((ac (ac (hs7_0) hs7_1) hs7_2).size) _ _ _) (bw y_A (aw hq7_7 (aw hq7_6 (aw hq7_5 (aw hq7_4 (aw hq7_3 (aA _ _)))))) _ _ _) y_E y_B
    · exact HN7 y7_1.heap.size _ _ _ _ _ _ _ y_V (by kernel_rfl) ((ac (hs7_0) hs7_1).size) (aq (aq (aq (aw hq7_7 (aw hq7_6 (aw hq7_5 (aw hq7_4 (aw hq7_3 (aw hq7_2 (aA _ _))))))) 0 _) 1 _) 2 _) (aU (ac (ac (ac (ac (ac (ac (ac (hs7_0) hs7_1) hs7_2) hs7_3) hs7_4) hs7_5) hs7_6) hs7_7) ((ac (hs7_0) hs7_1).size) _ _ _) (bw y_A (aw hq7_7 (aw hq7_6 (aw hq7_5 (aw hq7_4 (aw hq7_3 (aw hq7_2 (aA _ _))))))) _ _ _) y_E y_B
    · exact HN7 x6.heap.size _ _ _ _ _ _ _ y_V (by kernel_rfl) (Nat.le_refl _) (aq (aq (aq (aw hq7_7 (aw hq7_6 (aw hq7_5 (aw hq7_4 (aw hq7_3 (aw hq7_2 (aw hq7_1 (cL x6 (.cells #[.bool false,.slice none 0 0,.int .i64 0] 33))))))))) 0 _) 1 _) 2 _) (aU (ac (ac (ac (ac (ac (ac (ac (hs7_0) hs7_1) hs7_2) hs7_3) hs7_4) hs7_5) hs7_6) hs7_7) (Nat.le_refl _) _ _ _) (bw y_A (aw hq7_7 (aw hq7_6 (aw hq7_5 (aw hq7_4 (aw hq7_3 (aw hq7_2 (aw hq7_1 (cL x6 (.cells #[.bool false,.slice none 0 0,.int .i64 0] 33))))))))) _ _ _) y_E y_B
  have KK6:∀ W,Below x4.heap.size x4 W->W.cell? ⟨g_a,0,none⟩=some (.bool a0_g)∧W.cell? ⟨g_a,1,none⟩=some (.slice a0_o a0_n a0_c)∧W.cell? ⟨g_a,2,none⟩=some (.int .i64 a0_e)∧W.cell? ⟨g_a,3,none⟩=some (.bool a1_g)∧W.cell? ⟨g_a,4,none⟩=some (.slice a1_o a1_n a1_c)∧W.cell? ⟨g_a,5,none⟩=some (.int .i64 a1_e)∧W.cell? ⟨g_a,6,none⟩=some (.bool a2_g)∧W.cell? ⟨g_a,7,none⟩=some (.slice a2_o a2_n a2_c)∧W.cell? ⟨g_a,8,none⟩=some (.int .i64 a2_e)∧W.cell? ⟨g_b,0,none⟩=some (.bool b0_g)∧W.cell? ⟨g_b,1,none⟩=some (.slice b0_o b0_n b0_c)∧W.cell? ⟨g_b,2,none⟩=some (.int .i64 b0_e)∧W.cell? ⟨g_b,3,none⟩=some (.bool b1_g)∧W.cell? ⟨g_b,4,none⟩=some (.slice b1_o b1_n b1_c)∧W.cell? ⟨g_b,5,none⟩=some (.int .i64 b1_e)∧W.cell? ⟨g_b,6,none⟩=some (.bool b2_g)∧W.cell? ⟨g_b,7,none⟩=some (.slice b2_o b2_n b2_c)∧W.cell? ⟨g_b,8,none⟩=some (.int .i64 b2_e)∧W.cell? ⟨g_c,0,none⟩=some (.bool c0_g)∧W.cell? ⟨g_c,1,none⟩=some (.slice c0_o c0_n c0_c)∧W.cell? ⟨g_c,2,none⟩=some (.int .i64 c0_e)∧W.cell? ⟨g_c,3,none⟩=some (.bool c1_g)∧W.cell? ⟨g_c,4,none⟩=some (.slice c1_o c1_n c1_c)∧W.cell? ⟨g_c,5,none⟩=some (.int .i64 c1_e)∧W.cell? ⟨g_c,6,none⟩=some (.bool c2_g)∧W.cell? ⟨g_c,7,none⟩=some (.slice c2_o c2_n c2_c)∧W.cell? ⟨g_c,8,none⟩=some (.int .i64 c2_e)∧W.cell? ⟨g_d,0,none⟩=some (.bool d0_g)∧W.cell? ⟨g_d,1,none⟩=some (.slice d0_o d0_n d0_c)∧W.cell? ⟨g_d,2,none⟩=some (.int .i64 d0_e)∧W.cell? ⟨g_d,3,none⟩=some (.bool d1_g)∧W.cell? ⟨g_d,4,none⟩=some (.slice d1_o d1_n d1_c)∧W.cell? ⟨g_d,5,none⟩=some (.int .i64 d1_e)∧W.cell? ⟨g_d,6,none⟩=some (.bool d2_g)∧W.cell? ⟨g_d,7,none⟩=some (.slice d2_o d2_n d2_c)∧W.cell? ⟨g_d,8,none⟩=some (.int .i64 d2_e):=fun W hb=>⟨aj (af a_k 0 rfl) hb,aj (af a_k 1 rfl) hb,aj (af a_k 2 rfl) hb,aj (af a_k 3 rfl) hb,aj (af a_k 4 rfl) hb,aj (af a_k 5 rfl) hb,aj (af a_k 6 rfl) hb,aj (af a_k 7 rfl) hb,aj (af a_k 8 rfl) hb,aj (af b_k 0 rfl) hb,aj (af b_k 1 rfl) hb,aj (af b_k 2 rfl) hb,aj (af b_k 3 rfl) hb,aj (af b_k 4 rfl) hb,aj (af b_k 5 rfl) hb,aj (af b_k 6 rfl) hb,aj (af b_k 7 rfl) hb,aj (af b_k 8 rfl) hb,aj (af c_k 0 rfl) hb,aj (af c_k 1 rfl) hb,aj (af c_k 2 rfl) hb,aj (af c_k 3 rfl) hb,aj (af c_k 4 rfl) hb,aj (af c_k 5 rfl) hb,aj (af c_k 6 rfl) hb,aj (af c_k 7 rfl) hb,aj (af c_k 8 rfl) hb,aj (af d_k 0 rfl) hb,aj (af d_k 1 rfl) hb,aj (af d_k 2 rfl) hb,aj (af d_k 3 rfl) hb,aj (af d_k 4 rfl) hb,aj (af d_k 5 rfl) hb,aj (af d_k 6 rfl) hb,aj (af d_k 7 rfl) hb,aj (af d_k 8 rfl) hb⟩
  have hC6_0:=(al x4).drew
  have hT6_0:Below w.heap.size w x4.drew:=hb4.drew
  have ka0_6_0:=ka0.keeps (al x4).drew
  have ka1_6_0:=ka1.keeps (al x4).drew
  have ka2_6_0:=ka2.keeps (al x4).drew
  have kb0_6_0:=kb0.keeps (al x4).drew
  have kb1_6_0:=kb1.keeps (al x4).drew
  have kb2_6_0:=kb2.keeps (al x4).drew
  have kc0_6_0:=kc0.keeps (al x4).drew
  have kc1_6_0:=kc1.keeps (al x4).drew
  have kc2_6_0:=kc2.keeps (al x4).drew
  have kd0_6_0:=kd0.keeps (al x4).drew
  have kd1_6_0:=kd1.keeps (al x4).drew
  have kd2_6_0:=kd2.keeps (al x4).drew
  have hs6_0:=(al x4).drew
  go_region_held3 (fun W=>W.cell? ⟨g_a,0,none⟩=some (.bool a0_g)∧W.cell? ⟨g_a,1,none⟩=some (.slice a0_o a0_n a0_c)∧W.cell? ⟨g_a,2,none⟩=some (.int .i64 a0_e)∧W.cell? ⟨g_a,3,none⟩=some (.bool a1_g)∧W.cell? ⟨g_a,4,none⟩=some (.slice a1_o a1_n a1_c)∧W.cell? ⟨g_a,5,none⟩=some (.int .i64 a1_e)∧W.cell? ⟨g_a,6,none⟩=some (.bool a2_g)∧W.cell? ⟨g_a,7,none⟩=some (.slice a2_o a2_n a2_c)∧W.cell? ⟨g_a,8,none⟩=some (.int .i64 a2_e)∧W.cell? ⟨g_b,0,none⟩=some (.bool b0_g)∧W.cell? ⟨g_b,1,none⟩=some (.slice b0_o b0_n b0_c)∧W.cell? ⟨g_b,2,none⟩=some (.int .i64 b0_e)∧W.cell? ⟨g_b,3,none⟩=some (.bool b1_g)∧W.cell? ⟨g_b,4,none⟩=some (.slice b1_o b1_n b1_c)∧W.cell? ⟨g_b,5,none⟩=some (.int .i64 b1_e)∧W.cell? ⟨g_b,6,none⟩=some (.bool b2_g)∧W.cell? ⟨g_b,7,none⟩=some (.slice b2_o b2_n b2_c)∧W.cell? ⟨g_b,8,none⟩=some (.int .i64 b2_e)∧W.cell? ⟨g_c,0,none⟩=some (.bool c0_g)∧W.cell? ⟨g_c,1,none⟩=some (.slice c0_o c0_n c0_c)∧W.cell? ⟨g_c,2,none⟩=some (.int .i64 c0_e)∧W.cell? ⟨g_c,3,none⟩=some (.bool c1_g)∧W.cell? ⟨g_c,4,none⟩=some (.slice c1_o c1_n c1_c)∧W.cell? ⟨g_c,5,none⟩=some (.int .i64 c1_e)∧W.cell? ⟨g_c,6,none⟩=some (.bool c2_g)∧W.cell? ⟨g_c,7,none⟩=some (.slice c2_o c2_n c2_c)∧W.cell? ⟨g_c,8,none⟩=some (.int .i64 c2_e)∧W.cell? ⟨g_d,0,none⟩=some (.bool d0_g)∧W.cell? ⟨g_d,1,none⟩=some (.slice d0_o d0_n d0_c)∧W.cell? ⟨g_d,2,none⟩=some (.int .i64 d0_e)∧W.cell? ⟨g_d,3,none⟩=some (.bool d1_g)∧W.cell? ⟨g_d,4,none⟩=some (.slice d1_o d1_n d1_c)∧W.cell? ⟨g_d,5,none⟩=some (.int .i64 d1_e)∧W.cell? ⟨g_d,6,none⟩=some (.bool d2_g)∧W.cell? ⟨g_d,7,none⟩=some (.slice d2_o d2_n d2_c)∧W.cell? ⟨g_d,8,none⟩=some (.int .i64 d2_e))
    (with_reducible first|assumption|exact KK6 _ (ah _ _).drew|exact KK6 _ hC6_0|exact KK6 _ hC6_1|exact KK6 _ hC6_2|exact KK6 _ hC6_3|exact KK6 _ hC6_4|exact KK6 _ hC6_5|exact KK6 _ hC6_6|exact KK6 _ hC6_7|exact KK6 _ (ac hC6_0 (ah _ _))|exact KK6 _ (ac hC6_1 (ah _ _))|exact KK6 _ (ac hC6_2 (ah _ _))|exact KK6 _ (ac hC6_3 (ah _ _))|exact KK6 _ (ac hC6_4 (ah _ _))|exact KK6 _ (ac hC6_5 (ah _ _))|exact KK6 _ (ac hC6_6 (ah _ _))|exact KK6 _ (ac hC6_7 (ah _ _))|exact KK6 _ (aU hC6_7 (Nat.le_refl _) _ _ _)|exact KK6 _ (aU hC6_7 hC6_1.size _ _ _)|exact KK6 _ (aU hC6_7 hC6_2.size _ _ _)|exact KK6 _ (aU hC6_7 hC6_3.size _ _ _)|exact KK6 _ (aU hC6_7 hC6_4.size _ _ _)|exact KK6 _ (aU hC6_7 hC6_5.size _ _ _)|exact KK6 _ (aU hC6_7 hC6_6.size _ _ _)|fail)
    (first
      | (go_at_call 31;have _t:=hs6_6;refine(ik (K:=8608) (t1_A.keeps (by with_reducible first|exact al _|exact ah _ _|exact aB _ _)) (t2_A.keeps (by with_reducible first|exact al _|exact ah _ _|exact aB _ _)) (Nat.le_trans hT6_6.size (by with_reducible first|exact Nat.le_refl _|exact(ah _ _).size|exact(aB _ _).size)) t1_B t2_B (by decide)).mono ?_;rintro _ y6_7 ⟨v,rfl,nz6,hq6_7⟩;obtain⟨x_V,hx_V⟩:∃ V,V=t1_V-t2_V:=⟨_,rfl⟩;rw[<- hx_V] at nz6;obtain⟨x_g,x_o,x_n,x_c,x_e,rfl⟩:=nz6.shape;have x_A:=nz6;have x_E:x_V*(2^4194304*(2^4194304*2^4194304*2^4194304))=(D0*D0+D1*D1+D2*D2)*(A2*(B0*C1-C0*B1)+B2*(C0*A1-A0*C1)+C2*(A0*B1-B0*A1))-(C0*C0+C1*C1+C2*C2)*(D2*(A0*B1-B0*A1)+A2*(B0*D1-D0*B1)+B2*(D0*A1-A0*D1)):=(by rw[hx_V,Int.sub_mul,t1_F,t2_F]);have x_B:Bd (2*4304+1) x_V:=(by rw[hx_V];exact t1_B.sub t2_B (by decide));have hs6_7:Below y6_6.heap.size y6_6 y6_7:=(by with_reducible first|exact hq6_7|exact ac (ah _ _) hq6_7|exact ac (aB _ _) hq6_7);have hT6_7:=ac hT6_6 hs6_7;have hC6_7:=ac hC6_6 hs6_7;have ka0_6_7:=ka0_6_6.keeps hs6_7;have ka1_6_7:=ka1_6_6.keeps hs6_7;have ka2_6_7:=ka2_6_6.keeps hs6_7;have kb0_6_7:=kb0_6_6.keeps hs6_7;have kb1_6_7:=kb1_6_6.keeps hs6_7;have kb2_6_7:=kb2_6_6.keeps hs6_7;have kc0_6_7:=kc0_6_6.keeps hs6_7;have kc1_6_7:=kc1_6_6.keeps hs6_7;have kc2_6_7:=kc2_6_6.keeps hs6_7;have kd0_6_7:=kd0_6_6.keeps hs6_7;have kd1_6_7:=kd1_6_6.keeps hs6_7;have kd2_6_7:=kd2_6_6.keeps hs6_7;with_reducible first|(have qz6:y6_7.heap[x4.heap.size]?=some (.cells #[.bool false,.slice none 0 0,.int .i64 0] 33 (0,0)):=aw hq6_7 (aw hq6_6 (aw hq6_5 (aw hq6_4 (aw hq6_3 (aw hq6_2 (aw hq6_1 (cL x4 (.cells #[.bool false,.slice none 0 0,.int .i64 0] 33))))))));have cz6_0:=af qz6 0 rfl;have zz6_0:=ar qz6 0;have cz6_1:=af qz6 1 rfl;have zz6_1:=ar qz6 1;have cz6_2:=af qz6 2 rfl;have zz6_2:=ar qz6 2)|(have qz6:y6_7.heap[y6_1.heap.size]?=some (.cells #[.bool false,.slice none 0 0,.int .i64 0] 33 (0,0)):=aw hq6_7 (aw hq6_6 (aw hq6_5 (aw hq6_4 (aw hq6_3 (aw hq6_2 (aA _ _))))));have cz6_0:=af qz6 0 rfl;have zz6_0:=ar qz6 0;have cz6_1:=af qz6 1 rfl;have zz6_1:=ar qz6 1;have cz6_2:=af qz6 2 rfl;have zz6_2:=ar qz6 2)|(have qz6:y6_7.heap[y6_2.heap.size]?=some (.cells #[.bool false,.slice none 0 0,.int .i64 0] 33 (0,0)):=aw hq6_7 (aw hq6_6 (aw hq6_5 (aw hq6_4 (aw hq6_3 (aA _ _)))));have cz6_0:=af qz6 0 rfl;have zz6_0:=ar qz6 0;have cz6_1:=af qz6 1 rfl;have zz6_1:=ar qz6 1;have cz6_2:=af qz6 2 rfl;have zz6_2:=ar qz6 2)|(have qz6:y6_7.heap[y6_3.heap.size]?=some (.cells #[.bool false,.slice none 0 0,.int .i64 0] 33 (0,0)):=aw hq6_7 (aw hq6_6 (aw hq6_5 (aw hq6_4 (aA _ _))));have cz6_0:=af qz6 0 rfl;have zz6_0:=ar qz6 0;have cz6_1:=af qz6 1 rfl;have zz6_1:=ar qz6 1;have cz6_2:=af qz6 2 rfl;have zz6_2:=ar qz6 2)|(have qz6:y6_7.heap[y6_4.heap.size]?=some (.cells #[.bool false,.slice none 0 0,.int .i64 0] 33 (0,0)):=aw hq6_7 (aw hq6_6 (aw hq6_5 (aA _ _)));have cz6_0:=af qz6 0 rfl;have zz6_0:=ar qz6 0;have cz6_1:=af qz6 1 rfl;have zz6_1:=ar qz6 1;have cz6_2:=af qz6 2 rfl;have zz6_2:=ar qz6 2)|(have qz6:y6_7.heap[y6_5.heap.size]?=some (.cells #[.bool false,.slice none 0 0,.int .i64 0] 33 (0,0)):=aw hq6_7 (aw hq6_6 (aA _ _));have cz6_0:=af qz6 0 rfl;have zz6_0:=ar qz6 0;have cz6_1:=af qz6 1 rfl;have zz6_1:=ar qz6 1;have cz6_2:=af qz6 2 rfl;have zz6_2:=ar qz6 2)|(have qz6:y6_7.heap[y6_6.heap.size]?=some (.cells #[.bool false,.slice none 0 0,.int .i64 0] 33 (0,0)):=aw hq6_7 (aA _ _);have cz6_0:=af qz6 0 rfl;have zz6_0:=ar qz6 0;have cz6_1:=af qz6 1 rfl;have zz6_1:=ar qz6 1;have cz6_2:=af qz6 2 rfl;have zz6_2:=ar qz6 2)|skip)
      | (go_at_call 32;have _t:=hs6_5;refine(cP (K:=4304) (nv_6.num.keeps (by with_reducible first|exact al _|exact ah _ _|exact aB _ _)) (nd26.num.keeps (by with_reducible first|exact al _|exact ah _ _|exact aB _ _)) (v__B.up (by decide) (by decide)) d2_B (by decide)).mono ?_;rintro _ y6_6 ⟨v,t2_V,rfl,nt26,t2_E,t2_B⟩;obtain⟨t2_g,t2_o,t2_n,t2_c,t2_e,rfl⟩:=aN nt26;have hq6_6:=nt26.below;have t2_A:=nt26.dan.lower (Nat.le_trans hT6_5.size (by with_reducible first|exact Nat.le_refl _|exact(ah _ _).size|exact(aB _ _).size));have t2_F:=uX t2_E v__E d2_E;have hs6_6:Below y6_5.heap.size y6_5 y6_6:=(by with_reducible first|exact hq6_6|exact ac (ah _ _) hq6_6|exact ac (aB _ _) hq6_6);have hT6_6:=ac hT6_5 hs6_6;have hC6_6:=ac hC6_5 hs6_6;have ka0_6_6:=ka0_6_5.keeps hs6_6;have ka1_6_6:=ka1_6_5.keeps hs6_6;have ka2_6_6:=ka2_6_5.keeps hs6_6;have kb0_6_6:=kb0_6_5.keeps hs6_6;have kb1_6_6:=kb1_6_5.keeps hs6_6;have kb2_6_6:=kb2_6_5.keeps hs6_6;have kc0_6_6:=kc0_6_5.keeps hs6_6;have kc1_6_6:=kc1_6_5.keeps hs6_6;have kc2_6_6:=kc2_6_5.keeps hs6_6;have kd0_6_6:=kd0_6_5.keeps hs6_6;have kd1_6_6:=kd1_6_5.keeps hs6_6;have kd2_6_6:=kd2_6_5.keeps hs6_6;have t1_A:=t1_A.keeps hs6_6)
      | (go_at_call 22;have _t:=hs6_4;refine(lI (kd0_6_4.keeps (by with_reducible first|exact al _|exact ah _ _|exact aB _ _)) bd0 (kd1_6_4.keeps (by with_reducible first|exact al _|exact ah _ _|exact aB _ _)) bd1 (kd2_6_4.keeps (by with_reducible first|exact al _|exact ah _ _|exact aB _ _)) bd2 (ka0_6_4.keeps (by with_reducible first|exact al _|exact ah _ _|exact aB _ _)) ba0 (ka1_6_4.keeps (by with_reducible first|exact al _|exact ah _ _|exact aB _ _)) ba1 (ka2_6_4.keeps (by with_reducible first|exact al _|exact ah _ _|exact aB _ _)) ba2 (kb0_6_4.keeps (by with_reducible first|exact al _|exact ah _ _|exact aB _ _)) bb0 (kb1_6_4.keeps (by with_reducible first|exact al _|exact ah _ _|exact aB _ _)) bb1 (kb2_6_4.keeps (by with_reducible first|exact al _|exact ah _ _|exact aB _ _)) bb2).mono ?_;rintro _ y6_5 ⟨v,d2_V,rfl,nd26,hq6_5,d2_E,d2_B⟩;obtain⟨d2_g,d2_o,d2_n,d2_c,d2_e,rfl⟩:=nd26.shape;have hs6_5:Below y6_4.heap.size y6_4 y6_5:=(by with_reducible first|exact hq6_5|exact ac (ah _ _) hq6_5|exact ac (aB _ _) hq6_5);have hT6_5:=ac hT6_4 hs6_5;have hC6_5:=ac hC6_4 hs6_5;have ka0_6_5:=ka0_6_4.keeps hs6_5;have ka1_6_5:=ka1_6_4.keeps hs6_5;have ka2_6_5:=ka2_6_4.keeps hs6_5;have kb0_6_5:=kb0_6_4.keeps hs6_5;have kb1_6_5:=kb1_6_4.keeps hs6_5;have kb2_6_5:=kb2_6_4.keeps hs6_5;have kc0_6_5:=kc0_6_4.keeps hs6_5;have kc1_6_5:=kc1_6_4.keeps hs6_5;have kc2_6_5:=kc2_6_4.keeps hs6_5;have kd0_6_5:=kd0_6_4.keeps hs6_5;have kd1_6_5:=kd1_6_4.keeps hs6_5;have kd2_6_5:=kd2_6_4.keeps hs6_5;have nv_6:=nv_6.keeps hs6_5;have t1_A:=t1_A.keeps hs6_5)
      | (go_at_call 33;have _t:=hs6_3;refine(jG (K:=1075) (kc0_6_3.keeps (by with_reducible first|exact al _|exact ah _ _|exact aB _ _)) (kc1_6_3.keeps (by with_reducible first|exact al _|exact ah _ _|exact aB _ _)) (kc2_6_3.keeps (by with_reducible first|exact al _|exact ah _ _|exact aB _ _)) bc0 bc1 bc2 (by decide)).mono ?_;rintro _ y6_4 ⟨v,v__V,rfl,nv_6,hq6_4,v__E,v__B⟩;obtain⟨v__g,v__o,v__n,v__c,v__e,rfl⟩:=nv_6.shape;have hs6_4:Below y6_3.heap.size y6_3 y6_4:=(by with_reducible first|exact hq6_4|exact ac (ah _ _) hq6_4|exact ac (aB _ _) hq6_4);have hT6_4:=ac hT6_3 hs6_4;have hC6_4:=ac hC6_3 hs6_4;have ka0_6_4:=ka0_6_3.keeps hs6_4;have ka1_6_4:=ka1_6_3.keeps hs6_4;have ka2_6_4:=ka2_6_3.keeps hs6_4;have kb0_6_4:=kb0_6_3.keeps hs6_4;have kb1_6_4:=kb1_6_3.keeps hs6_4;have kb2_6_4:=kb2_6_3.keeps hs6_4;have kc0_6_4:=kc0_6_3.keeps hs6_4;have kc1_6_4:=kc1_6_3.keeps hs6_4;have kc2_6_4:=kc2_6_3.keeps hs6_4;have kd0_6_4:=kd0_6_3.keeps hs6_4;have kd1_6_4:=kd1_6_3.keeps hs6_4;have kd2_6_4:=kd2_6_3.keeps hs6_4;have t1_A:=t1_A.keeps hs6_4)
      | (go_at_call 32;have _t:=hs6_2;refine(cP (K:=4304) (nu6.num.keeps (by with_reducible first|exact al _|exact ah _ _|exact aB _ _)) (nd16.num.keeps (by with_reducible first|exact al _|exact ah _ _|exact aB _ _)) (u_B.up (by decide) (by decide)) d1_B (by decide)).mono ?_;rintro _ y6_3 ⟨v,t1_V,rfl,nt16,t1_E,t1_B⟩;obtain⟨t1_g,t1_o,t1_n,t1_c,t1_e,rfl⟩:=aN nt16;have hq6_3:=nt16.below;have t1_A:=nt16.dan.lower (Nat.le_trans hT6_2.size (by with_reducible first|exact Nat.le_refl _|exact(ah _ _).size|exact(aB _ _).size));have t1_F:=uX t1_E u_E d1_E;have hs6_3:Below y6_2.heap.size y6_2 y6_3:=(by with_reducible first|exact hq6_3|exact ac (ah _ _) hq6_3|exact ac (aB _ _) hq6_3);have hT6_3:=ac hT6_2 hs6_3;have hC6_3:=ac hC6_2 hs6_3;have ka0_6_3:=ka0_6_2.keeps hs6_3;have ka1_6_3:=ka1_6_2.keeps hs6_3;have ka2_6_3:=ka2_6_2.keeps hs6_3;have kb0_6_3:=kb0_6_2.keeps hs6_3;have kb1_6_3:=kb1_6_2.keeps hs6_3;have kb2_6_3:=kb2_6_2.keeps hs6_3;have kc0_6_3:=kc0_6_2.keeps hs6_3;have kc1_6_3:=kc1_6_2.keeps hs6_3;have kc2_6_3:=kc2_6_2.keeps hs6_3;have kd0_6_3:=kd0_6_2.keeps hs6_3;have kd1_6_3:=kd1_6_2.keeps hs6_3;have kd2_6_3:=kd2_6_2.keeps hs6_3)
      | (go_at_call 22;have _t:=hs6_1;refine(lI (ka0_6_1.keeps (by with_reducible first|exact al _|exact ah _ _|exact aB _ _)) ba0 (ka1_6_1.keeps (by with_reducible first|exact al _|exact ah _ _|exact aB _ _)) ba1 (ka2_6_1.keeps (by with_reducible first|exact al _|exact ah _ _|exact aB _ _)) ba2 (kb0_6_1.keeps (by with_reducible first|exact al _|exact ah _ _|exact aB _ _)) bb0 (kb1_6_1.keeps (by with_reducible first|exact al _|exact ah _ _|exact aB _ _)) bb1 (kb2_6_1.keeps (by with_reducible first|exact al _|exact ah _ _|exact aB _ _)) bb2 (kc0_6_1.keeps (by with_reducible first|exact al _|exact ah _ _|exact aB _ _)) bc0 (kc1_6_1.keeps (by with_reducible first|exact al _|exact ah _ _|exact aB _ _)) bc1 (kc2_6_1.keeps (by with_reducible first|exact al _|exact ah _ _|exact aB _ _)) bc2).mono ?_;rintro _ y6_2 ⟨v,d1_V,rfl,nd16,hq6_2,d1_E,d1_B⟩;obtain⟨d1_g,d1_o,d1_n,d1_c,d1_e,rfl⟩:=nd16.shape;have hs6_2:Below y6_1.heap.size y6_1 y6_2:=(by with_reducible first|exact hq6_2|exact ac (ah _ _) hq6_2|exact ac (aB _ _) hq6_2);have hT6_2:=ac hT6_1 hs6_2;have hC6_2:=ac hC6_1 hs6_2;have ka0_6_2:=ka0_6_1.keeps hs6_2;have ka1_6_2:=ka1_6_1.keeps hs6_2;have ka2_6_2:=ka2_6_1.keeps hs6_2;have kb0_6_2:=kb0_6_1.keeps hs6_2;have kb1_6_2:=kb1_6_1.keeps hs6_2;have kb2_6_2:=kb2_6_1.keeps hs6_2;have kc0_6_2:=kc0_6_1.keeps hs6_2;have kc1_6_2:=kc1_6_1.keeps hs6_2;have kc2_6_2:=kc2_6_1.keeps hs6_2;have kd0_6_2:=kd0_6_1.keeps hs6_2;have kd1_6_2:=kd1_6_1.keeps hs6_2;have kd2_6_2:=kd2_6_1.keeps hs6_2;have nu6:=nu6.keeps hs6_2)
      | (go_at_call 33; refine (jG (K:=1075) (kd0_6_0.keeps (by with_reducible first | exact al _ | exact ah _ _ | exact aB _ _)) (kd1_6_0.keeps (by with_reducible first | exact al _ | exact ah _ _ | exact aB _ _)) (kd2_6_0.keeps (by with_reducible first | exact al _ | exact ah _ _ | exact aB _ _)) bd0 bd1 bd2 (by decide)).mono ?_; rintro _ y6_1 ⟨v,u_V,rfl,nu6,hq6_1,u_E,u_B⟩; obtain ⟨u_g,u_o,u_n,u_c,u_e,rfl⟩:=nu6.shape; have hs6_1:Below x4.drew.heap.size x4.drew y6_1:=(by with_reducible first | exact hq6_1 | exact ac (ah _ _) hq6_1 | exact ac (aB _ _) hq6_1); have hT6_1:=ac hT6_0 hs6_1; have hC6_1:=ac hC6_0 hs6_1; have ka0_6_1:=ka0_6_0.keeps hs6_1; have ka1_6_1:=ka1_6_0.keeps hs6_1; have ka2_6_1:=ka2_6_0.keeps hs6_1; have kb0_6_1:=kb0_6_0.keeps hs6_1; have kb1_6_1:=kb1_6_0.keeps hs6_1; have kb2_6_1:=kb2_6_0.keeps hs6_1; have kc0_6_1:=kc0_6_0.keeps hs6_1; have kc1_6_1:=kc1_6_0.keeps hs6_1; have kc2_6_1:=kc2_6_0.keeps hs6_1; have kd0_6_1:=kd0_6_0.keeps hs6_1; have kd1_6_1:=kd1_6_0.keeps hs6_1; have kd2_6_1:=kd2_6_0.keeps hs6_1))
  · exact HN6 y6_7.heap.size _ _ _ _ _ _ _ x_V (by kernel_rfl) ((ac (ac (ac (ac (ac (ac (ac (hs6_0) hs6_1) hs6_2) hs6_3) hs6_4) hs6_5) hs6_6) hs6_7).size) (aA _ _) (ac (ac (ac (ac (ac (ac (ac (ac (hs6_0) hs6_1) hs6_2) hs6_3) hs6_4) hs6_5) hs6_6) hs6_7) (ah _ _)) (x_A.keeps (ah _ _)) x_E x_B
  · exact HN6 y6_6.heap.size _ _ _ _ _ _ _ x_V (by kernel_rfl) ((ac (ac (ac (ac (ac (ac (hs6_0) hs6_1) hs6_2) hs6_3) hs6_4) hs6_5) hs6_6).size) (aq (aq (aq (aw hq6_7 (aA _ _)) 0 _) 1 _) 2 _) (aU (ac (ac (ac (ac (ac (ac (ac (hs6_0) hs6_1) hs6_2) hs6_3) hs6_4) hs6_5) hs6_6) hs6_7) ((ac (ac (ac (ac (ac (ac (hs6_0) hs6_1) hs6_2) hs6_3) hs6_4) hs6_5) hs6_6).size) _ _ _) (bw x_A (aw hq6_7 (aA _ _)) _ _ _) x_E x_B
  · exact HN6 y6_5.heap.size _ _ _ _ _ _ _ x_V (by kernel_rfl) ((ac (ac (ac (ac (ac (hs6_0) hs6_1) hs6_2) hs6_3) hs6_4) hs6_5).size) (aq (aq (aq (aw hq6_7 (aw hq6_6 (aA _ _))) 0 _) 1 _) 2 _) (aU (ac (ac (ac (ac (ac (ac (ac (hs6_0) hs6_1) hs6_2) hs6_3) hs6_4) hs6_5) hs6_6) hs6_7) ((ac (ac (ac (ac (ac (hs6_0) hs6_1) hs6_2) hs6_3) hs6_4) hs6_5).size) _ _ _) (bw x_A (aw hq6_7 (aw hq6_6 (aA _ _))) _ _ _) x_E x_B
  · exact HN6 y6_4.heap.size _ _ _ _ _ _ _ x_V (by kernel_rfl) ((ac (ac (ac (ac (hs6_0) hs6_1) hs6_2) hs6_3) hs6_4).size) (aq (aq (aq (aw hq6_7 (aw hq6_6 (aw hq6_5 (aA _ _)))) 0 _) 1 _) 2 _) (aU (ac (ac (ac (ac (ac (ac (ac (hs6_0) hs6_1) hs6_2) hs6_3) hs6_4) hs6_5) hs6_6) hs6_7) ((ac (ac (ac (ac (hs6_0) hs6_1) hs6_2) hs6_3) hs6_4).size) _ _ _) (bw x_A (aw hq6_7 (aw hq6_6 (aw hq6_5 (aA _ _)))) _ _ _) x_E x_B
  · exact HN6 y6_3.heap.size _ _ _ _ _ _ _ x_V (by kernel_rfl) ((ac (ac (ac (hs6_0) hs6_1) hs6_2) hs6_3).size) (aq (aq (aq (aw hq6_7 (aw hq6_6 (aw hq6_5 (aw hq6_4 (aA _ _))))) 0 _) 1 _) 2 _) (aU (ac (ac (ac (ac (ac (ac (ac (hs6_0) hs6_1) hs6_2) hs6_3) hs6_4) hs6_5) hs6_6) hs6_7) ((ac (ac (ac (hs6_0) hs6_1) hs6_2) hs6_3).size) _ _ _) (bw x_A (aw hq6_7 (aw hq6_6 (aw hq6_5 (aw hq6_4 (aA _ _))))) _ _ _) x_E x_B
  · exact HN6 y6_2.heap.size _ _ _ _ _ _ _ x_V (by kernel_rfl) ((ac (ac (hs6_0) hs6_1) hs6_2).size) (aq (aq (aq (aw hq6_7 (aw hq6_6 (aw hq6_5 (aw hq6_4 (aw hq6_3 (aA _ _)))))) 0 _) 1 _) 2 _) (aU (ac (ac (ac (ac (ac (ac (ac (hs6_0) hs6_1) hs6_2) hs6_3) hs6_4) hs6_5) hs6_6) hs6_7) ((ac (ac (hs6_0) hs6_1) hs6_2).size) _ _ _) (bw x_A (aw hq6_7 (aw hq6_6 (aw hq6_5 (aw hq6_4 (aw hq6_3 (aA _ _)))))) _ _ _) x_E x_B
  · exact HN6 y6_1.heap.size _ _ _ _ _ _ _ x_V (by kernel_rfl) ((ac (hs6_0) hs6_1).size) (aq (aq (aq (aw hq6_7 (aw hq6_6 (aw hq6_5 (aw hq6_4 (aw hq6_3 (aw hq6_2 (aA _ _))))))) 0 _) 1 _) 2 _) (aU (ac (ac (ac (ac (ac (ac (ac (hs6_0) hs6_1) hs6_2) hs6_3) hs6_4) hs6_5) hs6_6) hs6_7) ((ac (hs6_0) hs6_1).size) _ _ _) (bw x_A (aw hq6_7 (aw hq6_6 (aw hq6_5 (aw hq6_4 (aw hq6_3 (aw hq6_2 (aA _ _))))))) _ _ _) x_E x_B
  · exact HN6 x4.heap.size _ _ _ _ _ _ _ x_V (by kernel_rfl) (Nat.le_refl _) (aq (aq (aq (aw hq6_7 (aw hq6_6 (aw hq6_5 (aw hq6_4 (aw hq6_3 (aw hq6_2 (aw hq6_1 (cL x4 (.cells #[.bool false,.slice none 0 0,.int .i64 0] 33))))))))) 0 _) 1 _) 2 _) (aU (ac (ac (ac (ac (ac (ac (ac (hs6_0) hs6_1) hs6_2) hs6_3) hs6_4) hs6_5) hs6_6) hs6_7) (Nat.le_refl _) _ _ _) (bw x_A (aw hq6_7 (aw hq6_6 (aw hq6_5 (aw hq6_4 (aw hq6_3 (aw hq6_2 (aw hq6_1 (cL x4 (.cells #[.bool false,.slice none 0 0,.int .i64 0] 33))))))))) _ _ _) x_E x_B
end Go.Proofs.YtcklaogdjpbagaaGreatDoor
