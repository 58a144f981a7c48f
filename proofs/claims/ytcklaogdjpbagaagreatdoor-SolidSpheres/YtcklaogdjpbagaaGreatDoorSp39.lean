/-
  plumblaw12.SolidSpheres at any places, by its contract.
-/
import Derived.Test.YtcklaogdjpbagaaGreatDoorSp38
set_option maxRecDepth 100000
set_option maxHeartbeats 8000000
set_option linter.unusedVariables false
set_option linter.unusedSimpArgs false
namespace Go.Proofs.YtcklaogdjpbagaaGreatDoor
open Go Go.ChangeShapes Go.WideShapes Go.ChangeAt Go.RowKit Go.Proofs.YtcklaogdjpbagaaGreatDoor Go.Proofs.YtcklaogdjpbagaaGreatDoor.M
theorem zI {A B S M:Int} (h:0<S) (a:A*(S*(S*S*S))=M) (b:B*(S*(S*S*S))=M):A=B :=
 Int.eq_of_mul_eq_mul_right (Int.ne_of_gt (Int.mul_pos h (Int.mul_pos (Int.mul_pos h h) h))) (a.trans b.symm)
theorem tK {s:Nat->Nat->Int} (w:World) (hr:∀ i k,ax (s i k)) (hok:bL (cD s) 5=false) (H:cB w) :
  Calls Tryz.prog 4 #[.agg #[.int .i64 (s 0 0),.int .i64 (s 0 1),.int .i64 (s 0 2),.int .i64 (s 1 0),.int .i64 (s 1 1),.int .i64 (s 1 2),.int .i64 (s 2 0),.int .i64 (s 2 1),.int .i64 (s 2 2),.int .i64 (s 3 0),.int .i64 (s 3 1),.int .i64 (s 3 2),.int .i64 (s 4 0),.int .i64 (s 4 1),.int .i64 (s 4 2)]] w fun e w'=>e=.returned (.bool true)∧Below w.heap.size w w':=by
 have CA:Hid (∀ W,cB W->Calls Tryz.prog 6 #[] W fun e w'=>e=.returned (.bool true)∧Below W.heap.size W w'):=fun W HW=>uA W HW
 have CG:Hid (∀ W g,W.heap[g]?=some (.cells #[.int .i64 (s 0 0),.int .i64 (s 0 1),.int .i64 (s 0 2),.int .i64 (s 1 0),.int .i64 (s 1 1),.int .i64 (s 1 2),.int .i64 (s 2 0),.int .i64 (s 2 1),.int .i64 (s 2 2),.int .i64 (s 3 0),.int .i64 (s 3 1),.int .i64 (s 3 2),.int .i64 (s 4 0),.int .i64 (s 4 1),.int .i64 (s 4 2)] 43 (0,0))->Calls Tryz.prog 9 #[.slice (some ⟨g,0,none⟩) 5 5] W fun x w'=>x=.returned (.bool false)∧Below W.heap.size W w'):=fun W g hk=>by
  have:=oh _ 5 5 s W (Dl s W hk) hr
  rw[hok] at this
  exact this
 have CS:Hid (∀ W,Calls Tryz.prog 14 #[.agg #[.int .i64 (s 0 0),.int .i64 (s 0 1),.int .i64 (s 0 2)],.agg #[.int .i64 (s 1 0),.int .i64 (s 1 1),.int .i64 (s 1 2)],.agg #[.int .i64 (s 2 0),.int .i64 (s 2 1),.int .i64 (s 2 2)],.agg #[.int .i64 (s 3 0),.int .i64 (s 3 1),.int .i64 (s 3 2)],.agg #[.int .i64 (s 4 0),.int .i64 (s 4 1),.int .i64 (s 4 2)]] W fun e w'=>e=.returned (.tuple #[.agg #[.int .i64 0,.int .i64 0],.int .i64 10])∧Below W.heap.size W w'):=fun W=>vy s W hr hok
 have CX:Hid (∀ W,Calls Tryz.prog 15 #[.agg #[.int .i64 (s 0 0),.int .i64 (s 0 1),.int .i64 (s 0 2)],.agg #[.int .i64 (s 1 0),.int .i64 (s 1 1),.int .i64 (s 1 2)],.agg #[.int .i64 (s 2 0),.int .i64 (s 2 1),.int .i64 (s 2 2)],.agg #[.int .i64 (s 3 0),.int .i64 (s 3 1),.int .i64 (s 3 2)],.agg #[.int .i64 (s 4 0),.int .i64 (s 4 1),.int .i64 (s 4 2)]] W fun e w'=>e=.returned (.tuple #[.agg #[.bool false,.slice none 0 0,.int .i64 0],.int .i64 10])∧Below W.heap.size W w'):=fun W=>ou s W hr hok
 have CM:Hid (∀ W,Calls Tryz.prog 11 #[.agg #[.bool false,.slice none 0 0,.int .i64 0],.agg #[.bool false,.slice none 0 0,.int .i64 0]] W fun r w'=>r=.returned (.bool true)∧Below W.heap.size W w'):=fun W=>(uB (aR.zero W) (aR.zero W)).mono fun _ _ ⟨h,k⟩=>⟨by rw[h];simp,k⟩
 have heq:∀ (p q:Int) W,(binOp .eql 27 (.agg #[.int .i64 p,.int .i64 q]) (.agg #[.int .i64 p,.int .i64 q])).run Tryz.prog W=.ok (.bool true) W:=fun p q W=>by simp[go_sem]
 clear hr hok
 generalize s 0 0=el at *
 generalize s 0 1=s01 at *
 generalize s 0 2=s02 at *
 generalize s 1 0=eL at *
 generalize s 1 1=s11 at *
 generalize s 1 2=s12 at *
 generalize s 2 0=s20 at *
 generalize s 2 1=s21 at *
 generalize s 2 2=s22 at *
 generalize s 3 0=s30 at *
 generalize s 3 1=s31 at *
 generalize s 3 2=s32 at *
 generalize s 4 0=s40 at *
 generalize s 4 1=s41 at *
 generalize s 4 2=s42 at *
 have l_k:=aC w (.cells #[.int .i64 el,.int .i64 s01,.int .i64 s02,.int .i64 eL,.int .i64 s11,.int .i64 s12,.int .i64 s20,.int .i64 s21,.int .i64 s22,.int .i64 s30,.int .i64 s31,.int .i64 s32,.int .i64 s40,.int .i64 s41,.int .i64 s42] 43)
 have hb:=ah w (.cells #[.int .i64 el,.int .i64 s01,.int .i64 s02,.int .i64 eL,.int .i64 s11,.int .i64 s12,.int .i64 s20,.int .i64 s21,.int .i64 s22,.int .i64 s30,.int .i64 s31,.int .i64 s32,.int .i64 s40,.int .i64 s41,.int .i64 s42] 43)
 have H1:=H.keeps hb
 go_enter Tryz.func4,Tryz.ntmps4
 go_wp2_with fail
 generalize w.alloc (.cells #[.int .i64 el,.int .i64 s01,.int .i64 s02,.int .i64 eL,.int .i64 s11,.int .i64 s12,.int .i64 s20,.int .i64 s21,.int .i64 s22,.int .i64 s30,.int .i64 s31,.int .i64 s32,.int .i64 s40,.int .i64 s41,.int .i64 s42] 43)=x1 at l_k hb H1 ⊢
 refine(CA.out _ H1).mono ?_
 rintro _ y1 ⟨rfl,h1⟩
 replace l_k:=am h1 l_k
 replace hb:=ac hb h1
 clear h1 H1
 have f0:=af l_k 0 rfl
 have f1:=af l_k 1 rfl
 have f2:=af l_k 2 rfl
 have f3:=af l_k 3 rfl
 have f4:=af l_k 4 rfl
 have f5:=af l_k 5 rfl
 have f6:=af l_k 6 rfl
 have f7:=af l_k 7 rfl
 have f8:=af l_k 8 rfl
 have f9:=af l_k 9 rfl
 have f10:=af l_k 10 rfl
 have f11:=af l_k 11 rfl
 have f12:=af l_k 12 rfl
 have f13:=af l_k 13 rfl
 have f14:=af l_k 14 rfl
 go_wp2_with fail
 clear f0 f1 f2 f3 f4 f5 f6 f7 f8 f9 f10 f11 f12 f13 f14
 refine(CS.out _).mono ?_
 rintro _ y2 ⟨rfl,h2⟩
 replace l_k:=ar (.cells #[.int .i64 0,.int .i64 0] 27) (am h2 l_k)
 have v_k:=aC y2 (.cells #[.int .i64 0,.int .i64 0] 27)
 replace hb:=ac hb (ac h2 (ah y2 (.cells #[.int .i64 0,.int .i64 0] 27)))
 clear h2
 have f0:=af l_k 0 rfl
 have f1:=af l_k 1 rfl
 have f2:=af l_k 2 rfl
 have f3:=af l_k 3 rfl
 have f4:=af l_k 4 rfl
 have f5:=af l_k 5 rfl
 have f6:=af l_k 6 rfl
 have f7:=af l_k 7 rfl
 have f8:=af l_k 8 rfl
 have f9:=af l_k 9 rfl
 have f10:=af l_k 10 rfl
 have f11:=af l_k 11 rfl
 have f12:=af l_k 12 rfl
 have f13:=af l_k 13 rfl
 have f14:=af l_k 14 rfl
 go_wp2_with fail
 clear f0 f1 f2 f3 f4 f5 f6 f7 f8 f9 f10 f11 f12 f13 f14
 generalize y2.alloc (.cells #[.int .i64 0,.int .i64 0] 27)=x2 at l_k v_k hb ⊢
 generalize y2.heap.size=gv at v_k ⊢
 refine(CX.out _).mono ?_
 rintro _ y3 ⟨rfl,h3⟩
 replace l_k:=ar (.cells #[.bool false,.slice none 0 0,.int .i64 0] 33) (am h3 l_k)
 replace v_k:=ar (.cells #[.bool false,.slice none 0 0,.int .i64 0] 33) (am h3 v_k)
 have n_k:=aC y3 (.cells #[.bool false,.slice none 0 0,.int .i64 0] 33)
 replace hb:=ac hb (ac h3 (ah y3 (.cells #[.bool false,.slice none 0 0,.int .i64 0] 33)))
 clear h3
 go_wp2_with fail
 generalize y3.alloc (.cells #[.bool false,.slice none 0 0,.int .i64 0] 33)=x3 at l_k v_k n_k hb ⊢
 generalize y3.heap.size=gn at n_k ⊢
 refine(CG.out _ _ l_k).mono ?_
 rintro _ y4 ⟨rfl,h4⟩
 replace v_k:=am h4 v_k
 replace n_k:=am h4 n_k
 replace hb:=ac hb h4
 clear h4 l_k
 have e0:=af v_k 0 rfl
 have e1:=af v_k 1 rfl
 have e2:=af n_k 0 rfl
 have e3:=af n_k 1 rfl
 have e4:=af n_k 2 rfl
 go_wp2_with (first|(go_at_call 10;refine(ta _ _).mono ?_;rintro _ wz ⟨rfl,hwz⟩;replace hwz:=hwz.symm;subst hwz)|(go_at_call 11;refine(CM.out _).mono ?_;rintro _ y5 ⟨rfl,h5⟩;have hb5:=ac hb h5))
 go_ret
 exact⟨rfl,hb5⟩
theorem td {s:Nat->Nat->Int} (w:World) (hr:∀ i k,ax (s i k)) (hok:bL (cD s) 5=true) (H:cB w) :
    Calls Tryz.prog 4 #[.agg #[.int .i64 (s 0 0),.int .i64 (s 0 1),.int .i64 (s 0 2),.int .i64 (s 1 0),.int .i64 (s 1 1),.int .i64 (s 1 2),.int .i64 (s 2 0),.int .i64 (s 2 1),.int .i64 (s 2 2),.int .i64 (s 3 0),.int .i64 (s 3 1),.int .i64 (s 3 2),.int .i64 (s 4 0),.int .i64 (s 4 1),.int .i64 (s 4 2)]] w fun e w'=>e=.returned (.bool true)∧Below w.heap.size w w':=by
  have CA:Hid (∀ W,cB W->Calls Tryz.prog 6 #[] W fun e w'=>e=.returned (.bool true)∧Below W.heap.size W w'):=fun W HW=>uA W HW
  have CG:Hid (∀ W g,W.heap[g]?=some (.cells #[.int .i64 (s 0 0),.int .i64 (s 0 1),.int .i64 (s 0 2),.int .i64 (s 1 0),.int .i64 (s 1 1),.int .i64 (s 1 2),.int .i64 (s 2 0),.int .i64 (s 2 1),.int .i64 (s 2 2),.int .i64 (s 3 0),.int .i64 (s 3 1),.int .i64 (s 3 2),.int .i64 (s 4 0),.int .i64 (s 4 1),.int .i64 (s 4 2)] 43 (0,0))->Calls Tryz.prog 9 #[.slice (some ⟨g,0,none⟩) 5 5] W fun x w'=>x=.returned (.bool true)∧Below W.heap.size W w'):=fun W g hk=>by
    have:=oh _ 5 5 s W (Dl s W hk) hr
    rw[hok] at this
    exact this
  have CS:Hid (∀ W,cB W->Calls Tryz.prog 14 #[.agg #[.int .i64 (s 0 0),.int .i64 (s 0 1),.int .i64 (s 0 2)],.agg #[.int .i64 (s 1 0),.int .i64 (s 1 1),.int .i64 (s 1 2)],.agg #[.int .i64 (s 2 0),.int .i64 (s 2 1),.int .i64 (s 2 2)],.agg #[.int .i64 (s 3 0),.int .i64 (s 3 1),.int .i64 (s 3 2)],.agg #[.int .i64 (s 4 0),.int .i64 (s 4 1),.int .i64 (s 4 2)]] W fun e w'=>e=.returned (.tuple #[.agg #[.int .i64 (aZ (sX (vL s 4)) 0),.int .i64 (cI s)],.int .i64 0])∧Below W.heap.size W w'):=fun W HW=>vz s W hr hok HW
  have CX:Hid (∀ W,cB W->Calls Tryz.prog 15 #[.agg #[.int .i64 (s 0 0),.int .i64 (s 0 1),.int .i64 (s 0 2)],.agg #[.int .i64 (s 1 0),.int .i64 (s 1 1),.int .i64 (s 1 2)],.agg #[.int .i64 (s 2 0),.int .i64 (s 2 1),.int .i64 (s 2 2)],.agg #[.int .i64 (s 3 0),.int .i64 (s 3 1),.int .i64 (s 3 2)],.agg #[.int .i64 (s 4 0),.int .i64 (s 4 1),.int .i64 (s 4 2)]] W fun r w'=>∃ g o n c e,r=.returned (.tuple #[.agg #[.bool g,.slice o n c,.int .i64 e],.int .i64 0])∧(∀ W2 g' o' n' c' e',Below w'.heap.size w' W2->fk s W2 (.agg #[.bool g',.slice o' n' c',.int .i64 e'])->Calls Tryz.prog 11 #[.agg #[.bool g,.slice o n c,.int .i64 e],.agg #[.bool g',.slice o' n' c',.int .i64 e']] W2 fun r2 w2=>r2=.returned (.bool true)∧Below W2.heap.size W2 w2)∧Below W.heap.size W w'):=fun W HW=>by
    refine(ov s W hr hok HW).mono ?_
    rintro _ w' ⟨v,D,rfl,hA,-,-,hD⟩
    obtain⟨g,o,n,c,e,rfl⟩:=aT hA
    refine⟨g,o,n,c,e,rfl,fun W2 g' o' n' c' e' h2 hR=>?_,hA.below⟩
    obtain⟨V,hV,hE⟩:=hR
    have:=uB (hA.num.keeps h2) hV
    rw[decide_eq_true (zI (aJ _) hD hE)] at this
    exact this
  have CE:Hid (∀ W,Calls Tryz.prog 16 #[.agg #[.int .i64 (s 0 0),.int .i64 (s 0 1),.int .i64 (s 0 2)],.agg #[.int .i64 (s 1 0),.int .i64 (s 1 1),.int .i64 (s 1 2)],.agg #[.int .i64 (s 2 0),.int .i64 (s 2 1),.int .i64 (s 2 2)],.agg #[.int .i64 (s 3 0),.int .i64 (s 3 1),.int .i64 (s 3 2)],.agg #[.int .i64 (s 4 0),.int .i64 (s 4 1),.int .i64 (s 4 2)]] W fun r w'=>∃ g o n c e,r=.returned (.agg #[.bool g,.slice o n c,.int .i64 e])∧fk s w' (.agg #[.bool g,.slice o n c,.int .i64 e])∧Below W.heap.size W w'):=fun W=>by
    refine(ls hr (fc hok) W).mono ?_
    rintro _ w' ⟨v,V,rfl,hd,hb,hv,-⟩
    obtain⟨g,o,n,c,e,rfl⟩:=hd.shape
    exact⟨g,o,n,c,e,rfl,⟨V,hd.num,hv⟩,hb⟩
  have CR:Hid (∀ W,Calls Tryz.prog 17 #[.agg #[.int .i64 (s 0 0),.int .i64 (s 0 1),.int .i64 (s 0 2)],.agg #[.int .i64 (s 1 0),.int .i64 (s 1 1),.int .i64 (s 1 2)],.agg #[.int .i64 (s 2 0),.int .i64 (s 2 1),.int .i64 (s 2 2)],.agg #[.int .i64 (s 3 0),.int .i64 (s 3 1),.int .i64 (s 3 2)],.agg #[.int .i64 (s 4 0),.int .i64 (s 4 1),.int .i64 (s 4 2)]] W fun r w'=>r=.returned (.agg #[.int .i64 (aZ (sX (vL s 4)) 0),.int .i64 (cI s)])∧Below W.heap.size W w'):=fun W=>by
    cases hT:bL (dz s) 5
    · exact tG hr hok hT W
    · exact tH hr hok hT W
  have heq:∀ (p q:Int) W,(binOp .eql 27 (.agg #[.int .i64 p,.int .i64 q]) (.agg #[.int .i64 p,.int .i64 q])).run Tryz.prog W=.ok (.bool true) W:=fun p q W=>by simp[go_sem]
  have RK:∀ {W W':World} {v:Value},fk s W v->Below W.heap.size W W'->fk s W' v:=fun h k=>h.keeps k
  clear hr hok
  generalize aZ (sX (vL s 4)) 0=vs at *
  generalize cI s=st at *
  generalize fk s=RX at *
  generalize s 0 0=el at *
  generalize s 0 1=s01 at *
  generalize s 0 2=s02 at *
  generalize s 1 0=eL at *
  generalize s 1 1=s11 at *
  generalize s 1 2=s12 at *
  generalize s 2 0=s20 at *
  generalize s 2 1=s21 at *
  generalize s 2 2=s22 at *
  generalize s 3 0=s30 at *
  generalize s 3 1=s31 at *
  generalize s 3 2=s32 at *
  generalize s 4 0=s40 at *
  generalize s 4 1=s41 at *
  generalize s 4 2=s42 at *
  have l_k:=aC w (.cells #[.int .i64 el,.int .i64 s01,.int .i64 s02,.int .i64 eL,.int .i64 s11,.int .i64 s12,.int .i64 s20,.int .i64 s21,.int .i64 s22,.int .i64 s30,.int .i64 s31,.int .i64 s32,.int .i64 s40,.int .i64 s41,.int .i64 s42] 43)
  have hb:=ah w (.cells #[.int .i64 el,.int .i64 s01,.int .i64 s02,.int .i64 eL,.int .i64 s11,.int .i64 s12,.int .i64 s20,.int .i64 s21,.int .i64 s22,.int .i64 s30,.int .i64 s31,.int .i64 s32,.int .i64 s40,.int .i64 s41,.int .i64 s42] 43)
  have H1:=H.keeps hb
  go_enter Tryz.func4,Tryz.ntmps4
  go_wp2_with fail
  generalize w.alloc (.cells #[.int .i64 el,.int .i64 s01,.int .i64 s02,.int .i64 eL,.int .i64 s11,.int .i64 s12,.int .i64 s20,.int .i64 s21,.int .i64 s22,.int .i64 s30,.int .i64 s31,.int .i64 s32,.int .i64 s40,.int .i64 s41,.int .i64 s42] 43)=x1 at l_k hb H1 ⊢
  refine(CA.out _ H1).mono ?_
  rintro _ y1 ⟨rfl,h1⟩
  replace l_k:=am h1 l_k
  replace hb:=ac hb h1
  replace H1:=H1.keeps h1
  clear h1
  have f0:=af l_k 0 rfl
  have f1:=af l_k 1 rfl
  have f2:=af l_k 2 rfl
  have f3:=af l_k 3 rfl
  have f4:=af l_k 4 rfl
  have f5:=af l_k 5 rfl
  have f6:=af l_k 6 rfl
  have f7:=af l_k 7 rfl
  have f8:=af l_k 8 rfl
  have f9:=af l_k 9 rfl
  have f10:=af l_k 10 rfl
  have f11:=af l_k 11 rfl
  have f12:=af l_k 12 rfl
  have f13:=af l_k 13 rfl
  have f14:=af l_k 14 rfl
  go_wp2_with fail
  clear f0 f1 f2 f3 f4 f5 f6 f7 f8 f9 f10 f11 f12 f13 f14
  refine(CS.out _ H1).mono ?_
  rintro _ y2 ⟨rfl,h2⟩
  replace l_k:=ar (.cells #[.int .i64 vs,.int .i64 st] 27) (am h2 l_k)
  have v_k:=aC y2 (.cells #[.int .i64 vs,.int .i64 st] 27)
  replace H1:=(H1.keeps h2).keeps (ah y2 (.cells #[.int .i64 vs,.int .i64 st] 27))
  replace hb:=ac hb (ac h2 (ah y2 (.cells #[.int .i64 vs,.int .i64 st] 27)))
  clear h2
  have f0:=af l_k 0 rfl
  have f1:=af l_k 1 rfl
  have f2:=af l_k 2 rfl
  have f3:=af l_k 3 rfl
  have f4:=af l_k 4 rfl
  have f5:=af l_k 5 rfl
  have f6:=af l_k 6 rfl
  have f7:=af l_k 7 rfl
  have f8:=af l_k 8 rfl
  have f9:=af l_k 9 rfl
  have f10:=af l_k 10 rfl
  have f11:=af l_k 11 rfl
  have f12:=af l_k 12 rfl
  have f13:=af l_k 13 rfl
  have f14:=af l_k 14 rfl
  go_wp2_with fail
  clear f0 f1 f2 f3 f4 f5 f6 f7 f8 f9 f10 f11 f12 f13 f14
  generalize y2.alloc (.cells #[.int .i64 vs,.int .i64 st] 27)=x2 at l_k v_k hb H1 ⊢
  generalize y2.heap.size=gv at v_k ⊢
  refine(CX.out _ H1).mono ?_
  rintro _ y3 ⟨x_g,x_o,x_n,x_c,x_e,rfl,CM,h3⟩
  replace l_k:=ar (.cells #[.bool x_g,.slice x_o x_n x_c,.int .i64 x_e] 33) (am h3 l_k)
  replace v_k:=ar (.cells #[.bool x_g,.slice x_o x_n x_c,.int .i64 x_e] 33) (am h3 v_k)
  have n_k:=aC y3 (.cells #[.bool x_g,.slice x_o x_n x_c,.int .i64 x_e] 33)
  have hq:=ah y3 (.cells #[.bool x_g,.slice x_o x_n x_c,.int .i64 x_e] 33)
  replace hb:=ac hb (ac h3 (ah y3 (.cells #[.bool x_g,.slice x_o x_n x_c,.int .i64 x_e] 33)))
  clear h3 H1
  replace CM:Hid _:=fO CM
  go_wp2_with fail
  generalize y3.alloc (.cells #[.bool x_g,.slice x_o x_n x_c,.int .i64 x_e] 33)=x3 at l_k v_k n_k hb hq ⊢
  generalize y3.heap.size=gn at n_k ⊢
  refine(CG.out _ _ l_k).mono ?_
  rintro _ y4 ⟨rfl,h4⟩
  replace l_k:=am h4 l_k
  replace v_k:=am h4 v_k
  replace n_k:=am h4 n_k
  replace hb:=ac hb h4
  replace hq:=ac hq h4
  clear h4
  go_wp2_with fail
  have KK1:∀ W,Below y4.heap.size y4 W->W.cell? ⟨w.heap.size,0,none⟩=some (.int .i64 el)∧W.cell? ⟨w.heap.size,1,none⟩=some (.int .i64 s01)∧W.cell? ⟨w.heap.size,2,none⟩=some (.int .i64 s02)∧W.cell? ⟨w.heap.size,3,none⟩=some (.int .i64 eL)∧W.cell? ⟨w.heap.size,4,none⟩=some (.int .i64 s11)∧W.cell? ⟨w.heap.size,5,none⟩=some (.int .i64 s12)∧W.cell? ⟨w.heap.size,6,none⟩=some (.int .i64 s20)∧W.cell? ⟨w.heap.size,7,none⟩=some (.int .i64 s21)∧W.cell? ⟨w.heap.size,8,none⟩=some (.int .i64 s22)∧W.cell? ⟨w.heap.size,9,none⟩=some (.int .i64 s30)∧W.cell? ⟨w.heap.size,10,none⟩=some (.int .i64 s31)∧W.cell? ⟨w.heap.size,11,none⟩=some (.int .i64 s32)∧W.cell? ⟨w.heap.size,12,none⟩=some (.int .i64 s40)∧W.cell? ⟨w.heap.size,13,none⟩=some (.int .i64 s41)∧W.cell? ⟨w.heap.size,14,none⟩=some (.int .i64 s42)∧W.cell? ⟨gn,0,none⟩=some (.bool x_g)∧W.cell? ⟨gn,1,none⟩=some (.slice x_o x_n x_c)∧W.cell? ⟨gn,2,none⟩=some (.int .i64 x_e):=fun W hb=>⟨aj (af l_k 0 rfl) hb,aj (af l_k 1 rfl) hb,aj (af l_k 2 rfl) hb,aj (af l_k 3 rfl) hb,aj (af l_k 4 rfl) hb,aj (af l_k 5 rfl) hb,aj (af l_k 6 rfl) hb,aj (af l_k 7 rfl) hb,aj (af l_k 8 rfl) hb,aj (af l_k 9 rfl) hb,aj (af l_k 10 rfl) hb,aj (af l_k 11 rfl) hb,aj (af l_k 12 rfl) hb,aj (af l_k 13 rfl) hb,aj (af l_k 14 rfl) hb,aj (af n_k 0 rfl) hb,aj (af n_k 1 rfl) hb,aj (af n_k 2 rfl) hb⟩
  have hC0:=(ak y4).drew
  go_region_held3 (fun W=>W.cell? ⟨w.heap.size,0,none⟩=some (.int .i64 el)∧W.cell? ⟨w.heap.size,1,none⟩=some (.int .i64 s01)∧W.cell? ⟨w.heap.size,2,none⟩=some (.int .i64 s02)∧W.cell? ⟨w.heap.size,3,none⟩=some (.int .i64 eL)∧W.cell? ⟨w.heap.size,4,none⟩=some (.int .i64 s11)∧W.cell? ⟨w.heap.size,5,none⟩=some (.int .i64 s12)∧W.cell? ⟨w.heap.size,6,none⟩=some (.int .i64 s20)∧W.cell? ⟨w.heap.size,7,none⟩=some (.int .i64 s21)∧W.cell? ⟨w.heap.size,8,none⟩=some (.int .i64 s22)∧W.cell? ⟨w.heap.size,9,none⟩=some (.int .i64 s30)∧W.cell? ⟨w.heap.size,10,none⟩=some (.int .i64 s31)∧W.cell? ⟨w.heap.size,11,none⟩=some (.int .i64 s32)∧W.cell? ⟨w.heap.size,12,none⟩=some (.int .i64 s40)∧W.cell? ⟨w.heap.size,13,none⟩=some (.int .i64 s41)∧W.cell? ⟨w.heap.size,14,none⟩=some (.int .i64 s42)∧W.cell? ⟨gn,0,none⟩=some (.bool x_g)∧W.cell? ⟨gn,1,none⟩=some (.slice x_o x_n x_c)∧W.cell? ⟨gn,2,none⟩=some (.int .i64 x_e))
    (with_reducible first|assumption|exact KK1 _ hC0|exact KK1 _ hC1|exact KK1 _ hC2|fail)
    (first
      | (go_at_call 11;refine(CM.out _ _ _ _ _ _ (ac hq hC1) hX).mono ?_;rintro _ y6 ⟨rfl,h6⟩;have hC2:=ac hC1 h6)
      | (go_at_call 16; refine (CE.out _).mono ?_; rintro _ y5 ⟨n_g,n_o,n_n,n_c,n_e,rfl,hX,h5⟩; have hC1:=ac hC0 h5))
  replace l_k:=am hC2 l_k
  replace v_k:=am hC2 v_k
  replace hb:=ac hb hC2
  clear hC0 hC1 hC2 h5 h6 hX CM hq n_k KK1
  go_wp2_with fail
  have KK2:∀ W,Below y6.heap.size y6 W->W.cell? ⟨w.heap.size,0,none⟩=some (.int .i64 el)∧W.cell? ⟨w.heap.size,1,none⟩=some (.int .i64 s01)∧W.cell? ⟨w.heap.size,2,none⟩=some (.int .i64 s02)∧W.cell? ⟨w.heap.size,3,none⟩=some (.int .i64 eL)∧W.cell? ⟨w.heap.size,4,none⟩=some (.int .i64 s11)∧W.cell? ⟨w.heap.size,5,none⟩=some (.int .i64 s12)∧W.cell? ⟨w.heap.size,6,none⟩=some (.int .i64 s20)∧W.cell? ⟨w.heap.size,7,none⟩=some (.int .i64 s21)∧W.cell? ⟨w.heap.size,8,none⟩=some (.int .i64 s22)∧W.cell? ⟨w.heap.size,9,none⟩=some (.int .i64 s30)∧W.cell? ⟨w.heap.size,10,none⟩=some (.int .i64 s31)∧W.cell? ⟨w.heap.size,11,none⟩=some (.int .i64 s32)∧W.cell? ⟨w.heap.size,12,none⟩=some (.int .i64 s40)∧W.cell? ⟨w.heap.size,13,none⟩=some (.int .i64 s41)∧W.cell? ⟨w.heap.size,14,none⟩=some (.int .i64 s42)∧W.cell? ⟨gv,0,none⟩=some (.int .i64 vs)∧W.cell? ⟨gv,1,none⟩=some (.int .i64 st):=fun W hb=>⟨aj (af l_k 0 rfl) hb,aj (af l_k 1 rfl) hb,aj (af l_k 2 rfl) hb,aj (af l_k 3 rfl) hb,aj (af l_k 4 rfl) hb,aj (af l_k 5 rfl) hb,aj (af l_k 6 rfl) hb,aj (af l_k 7 rfl) hb,aj (af l_k 8 rfl) hb,aj (af l_k 9 rfl) hb,aj (af l_k 10 rfl) hb,aj (af l_k 11 rfl) hb,aj (af l_k 12 rfl) hb,aj (af l_k 13 rfl) hb,aj (af l_k 14 rfl) hb,aj (af v_k 0 rfl) hb,aj (af v_k 1 rfl) hb⟩
  have hC0:=(ak y6).drew
  have hT0:Below w.heap.size w y6.drew:=hb.drew
  go_region_held3 (fun W=>W.cell? ⟨w.heap.size,0,none⟩=some (.int .i64 el)∧W.cell? ⟨w.heap.size,1,none⟩=some (.int .i64 s01)∧W.cell? ⟨w.heap.size,2,none⟩=some (.int .i64 s02)∧W.cell? ⟨w.heap.size,3,none⟩=some (.int .i64 eL)∧W.cell? ⟨w.heap.size,4,none⟩=some (.int .i64 s11)∧W.cell? ⟨w.heap.size,5,none⟩=some (.int .i64 s12)∧W.cell? ⟨w.heap.size,6,none⟩=some (.int .i64 s20)∧W.cell? ⟨w.heap.size,7,none⟩=some (.int .i64 s21)∧W.cell? ⟨w.heap.size,8,none⟩=some (.int .i64 s22)∧W.cell? ⟨w.heap.size,9,none⟩=some (.int .i64 s30)∧W.cell? ⟨w.heap.size,10,none⟩=some (.int .i64 s31)∧W.cell? ⟨w.heap.size,11,none⟩=some (.int .i64 s32)∧W.cell? ⟨w.heap.size,12,none⟩=some (.int .i64 s40)∧W.cell? ⟨w.heap.size,13,none⟩=some (.int .i64 s41)∧W.cell? ⟨w.heap.size,14,none⟩=some (.int .i64 s42)∧W.cell? ⟨gv,0,none⟩=some (.int .i64 vs)∧W.cell? ⟨gv,1,none⟩=some (.int .i64 st))
    (with_reducible first|assumption|exact KK2 _ hC0|exact KK2 _ hC1|fail)
    (first
      | (go_at_call 10;refine(ta _ _).mono ?_;rintro _ wz ⟨rfl,hwz⟩;replace hwz:=hwz.symm;subst hwz)
      | (go_at_call 17; refine (CR.out _).mono ?_; rintro _ yS ⟨rfl,hwS⟩; have hC1:=ac hC0 hwS; have hT1:=ac hT0 hwS))
  go_wp2
  all_goals go_ret
  all_goals exact⟨bD (by simp),by first|exact hT1|exact hT1.drew⟩
theorem te {s:Nat->Nat->Int} (w:World) (hr:∀ i k,ax (s i k)) (H:cB w) :
  Calls Tryz.prog 4 #[.agg #[.int .i64 (s 0 0),.int .i64 (s 0 1),.int .i64 (s 0 2),.int .i64 (s 1 0),.int .i64 (s 1 1),.int .i64 (s 1 2),.int .i64 (s 2 0),.int .i64 (s 2 1),.int .i64 (s 2 2),.int .i64 (s 3 0),.int .i64 (s 3 1),.int .i64 (s 3 2),.int .i64 (s 4 0),.int .i64 (s 4 1),.int .i64 (s 4 2)]] w fun e w'=>e=.returned (.bool true)∧Below w.heap.size w w':=by
 cases hok:bL (cD s) 5
 ·exact tK w hr hok H
 ·exact td w hr hok H
end Go.Proofs.YtcklaogdjpbagaaGreatDoor
