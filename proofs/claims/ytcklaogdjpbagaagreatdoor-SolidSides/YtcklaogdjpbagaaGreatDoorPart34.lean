/- Parts of the proof. -/
import Derived.Test.YtcklaogdjpbagaaGreatDoorPart33
set_option linter.unusedVariables false
set_option linter.unusedSimpArgs false
namespace Go.Proofs.YtcklaogdjpbagaaGreatDoor
open Go Go.ChangeShapes Go.WideShapes Go.ChangeAt Go.RowKit Go.Proofs.YtcklaogdjpbagaaGreatDoor Go.Proofs.YtcklaogdjpbagaaGreatDoor.M
theorem sr_uniq' {A B T M:Int} (a:A*T=M) (b:B*T=M) (h:T≠0:=by first | exact Int.ne_of_gt (Int.mul_pos (two_pos _) (two_pos _)) | exact Int.ne_of_gt (Int.mul_pos (two_pos _) (Int.mul_pos (Int.mul_pos (two_pos _) (two_pos _)) (two_pos _)))):A=B :=
  Int.eq_of_mul_eq_mul_right h (a.trans b.symm)
def RefSide (s:Nat->Nat->Int) (W:World) (v:Value):Prop:=∃ V,DNum W v V∧V*(2^4194304*2^4194304)=dX (vL s 3) 0 1 2
theorem RefSide.keeps {s:Nat->Nat->Int} {W W':World} {v:Value} (h:RefSide s W v) (k:Below W.heap.size W W'):RefSide s W' v:=by
  obtain ⟨V,a,b⟩:=h
  exact ⟨V,a.keeps k,b⟩
def RefSphere (s:Nat->Nat->Int) (W:World) (v:Value):Prop:=∃ V,DNum W v V∧V*(2^4194304*(2^4194304*2^4194304*2^4194304))=sX (vL s 4)
theorem RefSphere.keeps {s:Nat->Nat->Int} {W W':World} {v:Value} (h:RefSphere s W v) (k:Below W.heap.size W W'):RefSphere s W' v:=by
  obtain ⟨V,a,b⟩:=h
  exact ⟨V,a.keeps k,b⟩
theorem sps4 (s:Nat->Nat->Int) (w:World) {g:Nat} {t:TypeId} (h:w.heap[g]?=some (.cells #[.int .i64 (s 0 0),.int .i64 (s 0 1),.int .i64 (s 0 2),.int .i64 (s 1 0),.int .i64 (s 1 1),.int .i64 (s 1 2),.int .i64 (s 2 0),.int .i64 (s 2 1),.int .i64 (s 2 2),.int .i64 (s 3 0),.int .i64 (s 3 1),.int .i64 (s 3 2)] t (0,0))):Sps w (some ⟨g,0,none⟩) 4 4 s :=
  ⟨Nat.le_refl _,by omega,fun _=>⟨g,0,rfl,(Array.getElem?_eq_some_iff.1 h).1,fun i hi=>by
    match i,hi with
    | 0,_=>exact ⟨blkC h 0 rfl,blkC h 1 rfl,blkC h 2 rfl⟩
    | 1,_=>exact ⟨blkC h 3 rfl,blkC h 4 rfl,blkC h 5 rfl⟩
    | 2,_=>exact ⟨blkC h 6 rfl,blkC h 7 rfl,blkC h 8 rfl⟩
    | 3,_=>exact ⟨blkC h 9 rfl,blkC h 10 rfl,blkC h 11 rfl⟩⟩⟩
set_option maxRecDepth 100000 in
set_option maxHeartbeats 8000000 in
theorem sSides_no {s:Nat->Nat->Int} (w:World) (hr:∀ i k,rng (s i k)) (hok:allB (sok s) 4=false) (H:Hold4 w) :
    Calls Tryz.prog 3 #[.agg #[.int .i64 (s 0 0),.int .i64 (s 0 1),.int .i64 (s 0 2),.int .i64 (s 1 0),.int .i64 (s 1 1),.int .i64 (s 1 2),.int .i64 (s 2 0),.int .i64 (s 2 1),.int .i64 (s 2 2),.int .i64 (s 3 0),.int .i64 (s 3 1),.int .i64 (s 3 2)]] w fun e w'=>e=.returned (.bool true)∧Below w.heap.size w w':=by
  have CA:Hid (∀ W,Hold4 W->Calls Tryz.prog 6 #[] W fun e w'=>e=.returned (.bool true)∧Below W.heap.size W w'):=fun W HW=>alive12 W HW
  have CG:Hid (∀ W g,W.heap[g]?=some (.cells #[.int .i64 (s 0 0),.int .i64 (s 0 1),.int .i64 (s 0 2),.int .i64 (s 1 0),.int .i64 (s 1 1),.int .i64 (s 1 2),.int .i64 (s 2 0),.int .i64 (s 2 1),.int .i64 (s 2 2),.int .i64 (s 3 0),.int .i64 (s 3 1),.int .i64 (s 3 2)] 24 (0,0))->Calls Tryz.prog 9 #[.slice (some ⟨g,0,none⟩) 4 4] W fun x w'=>x=.returned (.bool false)∧Below W.heap.size W w'):=fun W g hk=>by
    have:=slgood_any _ 4 4 s W (sps4 s W hk) hr
    rw [hok] at this
    exact this
  have CS:Hid (∀ W,Calls Tryz.prog 7 #[.agg #[.int .i64 (s 0 0),.int .i64 (s 0 1),.int .i64 (s 0 2)],.agg #[.int .i64 (s 1 0),.int .i64 (s 1 1),.int .i64 (s 1 2)],.agg #[.int .i64 (s 2 0),.int .i64 (s 2 1),.int .i64 (s 2 2)],.agg #[.int .i64 (s 3 0),.int .i64 (s 3 1),.int .i64 (s 3 2)]] W fun e w'=>e=.returned (.tuple #[.agg #[.int .i64 0,.int .i64 0],.int .i64 10])∧Below W.heap.size W w'):=fun W=>sSide_no s W hr hok
  have CX:Hid (∀ W,Calls Tryz.prog 8 #[.agg #[.int .i64 (s 0 0),.int .i64 (s 0 1),.int .i64 (s 0 2)],.agg #[.int .i64 (s 1 0),.int .i64 (s 1 1),.int .i64 (s 1 2)],.agg #[.int .i64 (s 2 0),.int .i64 (s 2 1),.int .i64 (s 2 2)],.agg #[.int .i64 (s 3 0),.int .i64 (s 3 1),.int .i64 (s 3 2)]] W fun e w'=>e=.returned (.tuple #[.agg #[.bool false,.slice none 0 0,.int .i64 0],.int .i64 10])∧Below W.heap.size W w'):=fun W=>sSideExact_no s W hr hok
  have CM:Hid (∀ W,Calls Tryz.prog 11 #[.agg #[.bool false,.slice none 0 0,.int .i64 0],.agg #[.bool false,.slice none 0 0,.int .i64 0]] W fun r w'=>r=.returned (.bool true)∧Below W.heap.size W w'):=fun W=>(osame_D (DNum.zero W) (DNum.zero W)).mono fun _ _ ⟨h,k⟩=>⟨by rw [h]; simp,k⟩
  have heq:∀ (p q:Int) W,(binOp .eql 27 (.agg #[.int .i64 p,.int .i64 q]) (.agg #[.int .i64 p,.int .i64 q])).run Tryz.prog W=.ok (.bool true) W:=fun p q W=>by simp [go_sem]
  clear hr hok
  generalize s 0 0=s00 at *
  generalize s 0 1=s01 at *
  generalize s 0 2=s02 at *
  generalize s 1 0=s10 at *
  generalize s 1 1=s11 at *
  generalize s 1 2=s12 at *
  generalize s 2 0=s20 at *
  generalize s 2 1=s21 at *
  generalize s 2 2=s22 at *
  generalize s 3 0=s30 at *
  generalize s 3 1=s31 at *
  generalize s 3 2=s32 at *
  have l_k:=heap_a1 w (.cells #[.int .i64 s00,.int .i64 s01,.int .i64 s02,.int .i64 s10,.int .i64 s11,.int .i64 s12,.int .i64 s20,.int .i64 s21,.int .i64 s22,.int .i64 s30,.int .i64 s31,.int .i64 s32] 24)
  have hb:=bel_alloc w (.cells #[.int .i64 s00,.int .i64 s01,.int .i64 s02,.int .i64 s10,.int .i64 s11,.int .i64 s12,.int .i64 s20,.int .i64 s21,.int .i64 s22,.int .i64 s30,.int .i64 s31,.int .i64 s32] 24)
  have H1:=H.keeps hb
  go_enter Tryz.func3,Tryz.ntmps3
  go_wp2_with fail
  generalize w.alloc (.cells #[.int .i64 s00,.int .i64 s01,.int .i64 s02,.int .i64 s10,.int .i64 s11,.int .i64 s12,.int .i64 s20,.int .i64 s21,.int .i64 s22,.int .i64 s30,.int .i64 s31,.int .i64 s32] 24)=x1 at l_k hb H1 ⊢
  refine (CA.out _ H1).mono ?_
  rintro _ y1 ⟨rfl,h1⟩
  replace l_k:=blk_us h1 l_k
  replace hb:=bel_trans hb h1
  clear h1 H1
  have f0:=blkC l_k 0 rfl
  have f1:=blkC l_k 1 rfl
  have f2:=blkC l_k 2 rfl
  have f3:=blkC l_k 3 rfl
  have f4:=blkC l_k 4 rfl
  have f5:=blkC l_k 5 rfl
  have f6:=blkC l_k 6 rfl
  have f7:=blkC l_k 7 rfl
  have f8:=blkC l_k 8 rfl
  have f9:=blkC l_k 9 rfl
  have f10:=blkC l_k 10 rfl
  have f11:=blkC l_k 11 rfl
  go_wp2_with fail
  clear f0 f1 f2 f3 f4 f5 f6 f7 f8 f9 f10 f11
  refine (CS.out _).mono ?_
  rintro _ y2 ⟨rfl,h2⟩
  replace l_k:=heap_past (.cells #[.int .i64 0,.int .i64 0] 27) (blk_us h2 l_k)
  have v_k:=heap_a1 y2 (.cells #[.int .i64 0,.int .i64 0] 27)
  replace hb:=bel_trans hb (bel_trans h2 (bel_alloc y2 (.cells #[.int .i64 0,.int .i64 0] 27)))
  clear h2
  have f0:=blkC l_k 0 rfl
  have f1:=blkC l_k 1 rfl
  have f2:=blkC l_k 2 rfl
  have f3:=blkC l_k 3 rfl
  have f4:=blkC l_k 4 rfl
  have f5:=blkC l_k 5 rfl
  have f6:=blkC l_k 6 rfl
  have f7:=blkC l_k 7 rfl
  have f8:=blkC l_k 8 rfl
  have f9:=blkC l_k 9 rfl
  have f10:=blkC l_k 10 rfl
  have f11:=blkC l_k 11 rfl
  go_wp2_with fail
  clear f0 f1 f2 f3 f4 f5 f6 f7 f8 f9 f10 f11
  generalize y2.alloc (.cells #[.int .i64 0,.int .i64 0] 27)=x2 at l_k v_k hb ⊢
  generalize y2.heap.size=gv at v_k ⊢
  refine (CX.out _).mono ?_
  rintro _ y3 ⟨rfl,h3⟩
  replace l_k:=heap_past (.cells #[.bool false,.slice none 0 0,.int .i64 0] 33) (blk_us h3 l_k)
  replace v_k:=heap_past (.cells #[.bool false,.slice none 0 0,.int .i64 0] 33) (blk_us h3 v_k)
  have n_k:=heap_a1 y3 (.cells #[.bool false,.slice none 0 0,.int .i64 0] 33)
  replace hb:=bel_trans hb (bel_trans h3 (bel_alloc y3 (.cells #[.bool false,.slice none 0 0,.int .i64 0] 33)))
  clear h3
  go_wp2_with fail
  generalize y3.alloc (.cells #[.bool false,.slice none 0 0,.int .i64 0] 33)=x3 at l_k v_k n_k hb ⊢
  generalize y3.heap.size=gn at n_k ⊢
  refine (CG.out _ _ l_k).mono ?_
  rintro _ y4 ⟨rfl,h4⟩
  replace v_k:=blk_us h4 v_k
  replace n_k:=blk_us h4 n_k
  replace hb:=bel_trans hb h4
  clear h4 l_k
  have e0:=blkC v_k 0 rfl
  have e1:=blkC v_k 1 rfl
  have e2:=blkC n_k 0 rfl
  have e3:=blkC n_k 1 rfl
  have e4:=blkC n_k 2 rfl
  go_wp2_with (first | (go_at_call 10; refine (lnum12 _ _).mono ?_; rintro _ wz ⟨rfl,hwz⟩; replace hwz:=hwz.symm; subst hwz) | (go_at_call 11; refine (CM.out _).mono ?_; rintro _ y5 ⟨rfl,h5⟩; have hb5:=bel_trans hb h5))
  go_ret
  exact ⟨rfl,hb5⟩
set_option maxRecDepth 100000 in
set_option maxHeartbeats 8000000 in
theorem sSides_yes {s:Nat->Nat->Int} (w:World) (hr:∀ i k,rng (s i k)) (hok:allB (sok s) 4=true) (H:Hold4 w) :
    Calls Tryz.prog 3 #[.agg #[.int .i64 (s 0 0),.int .i64 (s 0 1),.int .i64 (s 0 2),.int .i64 (s 1 0),.int .i64 (s 1 1),.int .i64 (s 1 2),.int .i64 (s 2 0),.int .i64 (s 2 1),.int .i64 (s 2 2),.int .i64 (s 3 0),.int .i64 (s 3 1),.int .i64 (s 3 2)]] w fun e w'=>e=.returned (.bool true)∧Below w.heap.size w w':=by
  have CA:Hid (∀ W,Hold4 W->Calls Tryz.prog 6 #[] W fun e w'=>e=.returned (.bool true)∧Below W.heap.size W w'):=fun W HW=>alive12 W HW
  have CG:Hid (∀ W g,W.heap[g]?=some (.cells #[.int .i64 (s 0 0),.int .i64 (s 0 1),.int .i64 (s 0 2),.int .i64 (s 1 0),.int .i64 (s 1 1),.int .i64 (s 1 2),.int .i64 (s 2 0),.int .i64 (s 2 1),.int .i64 (s 2 2),.int .i64 (s 3 0),.int .i64 (s 3 1),.int .i64 (s 3 2)] 24 (0,0))->Calls Tryz.prog 9 #[.slice (some ⟨g,0,none⟩) 4 4] W fun x w'=>x=.returned (.bool true)∧Below W.heap.size W w'):=fun W g hk=>by
    have:=slgood_any _ 4 4 s W (sps4 s W hk) hr
    rw [hok] at this
    exact this
  have CS:Hid (∀ W,Hold4 W->Calls Tryz.prog 7 #[.agg #[.int .i64 (s 0 0),.int .i64 (s 0 1),.int .i64 (s 0 2)],.agg #[.int .i64 (s 1 0),.int .i64 (s 1 1),.int .i64 (s 1 2)],.agg #[.int .i64 (s 2 0),.int .i64 (s 2 1),.int .i64 (s 2 2)],.agg #[.int .i64 (s 3 0),.int .i64 (s 3 1),.int .i64 (s 3 2)]] W fun e w'=>e=.returned (.tuple #[.agg #[.int .i64 (ord (dX (vL s 3) 0 1 2) 0),.int .i64 (st_side s)],.int .i64 0])∧Below W.heap.size W w'):=fun W HW=>sSide_ok s W hr hok HW
  have CX:Hid (∀ W,Hold4 W->Calls Tryz.prog 8 #[.agg #[.int .i64 (s 0 0),.int .i64 (s 0 1),.int .i64 (s 0 2)],.agg #[.int .i64 (s 1 0),.int .i64 (s 1 1),.int .i64 (s 1 2)],.agg #[.int .i64 (s 2 0),.int .i64 (s 2 1),.int .i64 (s 2 2)],.agg #[.int .i64 (s 3 0),.int .i64 (s 3 1),.int .i64 (s 3 2)]] W fun r w'=>∃ g o n c e,r=.returned (.tuple #[.agg #[.bool g,.slice o n c,.int .i64 e],.int .i64 0])∧(∀ W2 g' o' n' c' e',Below w'.heap.size w' W2->RefSide s W2 (.agg #[.bool g',.slice o' n' c',.int .i64 e'])->Calls Tryz.prog 11 #[.agg #[.bool g,.slice o n c,.int .i64 e],.agg #[.bool g',.slice o' n' c',.int .i64 e']] W2 fun r2 w2=>r2=.returned (.bool true)∧Below W2.heap.size W2 w2)∧Below W.heap.size W w'):=fun W HW=>by
    refine (sSideExact_ok s W hr hok HW).mono ?_
    rintro _ w' ⟨v,D,rfl,hA,-,-,hD⟩
    obtain ⟨g,o,n,c,e,rfl⟩:=dans_shape hA
    refine ⟨g,o,n,c,e,rfl,fun W2 g' o' n' c' e' h2 hR=>?_,hA.below⟩
    obtain ⟨V,hV,hE⟩:=hR
    have:=osame_D (hA.num.keeps h2) hV
    rw [decide_eq_true (sr_uniq' hD hE)] at this
    exact this
  have CE:Hid (∀ W,Calls Tryz.prog 12 #[.agg #[.int .i64 (s 0 0),.int .i64 (s 0 1),.int .i64 (s 0 2)],.agg #[.int .i64 (s 1 0),.int .i64 (s 1 1),.int .i64 (s 1 2)],.agg #[.int .i64 (s 2 0),.int .i64 (s 2 1),.int .i64 (s 2 2)],.agg #[.int .i64 (s 3 0),.int .i64 (s 3 1),.int .i64 (s 3 2)]] W fun r w'=>∃ g o n c e,r=.returned (.agg #[.bool g,.slice o n c,.int .i64 e])∧RefSide s w' (.agg #[.bool g,.slice o n c,.int .i64 e])∧Below W.heap.size W w'):=fun W=>by
    refine (r12sideX hr (sok_all_side hok) W).mono ?_
    rintro _ w' ⟨v,V,rfl,hd,hb,hv,-⟩
    obtain ⟨g,o,n,c,e,rfl⟩:=hd.shape
    exact ⟨g,o,n,c,e,rfl,⟨V,hd.num,by rw [<- Int.mul_assoc]; exact hv⟩,hb⟩
  have CR:Hid (∀ W,Calls Tryz.prog 13 #[.agg #[.int .i64 (s 0 0),.int .i64 (s 0 1),.int .i64 (s 0 2)],.agg #[.int .i64 (s 1 0),.int .i64 (s 1 1),.int .i64 (s 1 2)],.agg #[.int .i64 (s 2 0),.int .i64 (s 2 1),.int .i64 (s 2 2)],.agg #[.int .i64 (s 3 0),.int .i64 (s 3 1),.int .i64 (s 3 2)]] W fun r w'=>r=.returned (.agg #[.int .i64 (ord (dX (vL s 3) 0 1 2) 0),.int .i64 (st_side s)])∧Below W.heap.size W w'):=fun W=>by
    cases hT:allB (stm s) 4
    . exact r12Side_w hr hok hT W
    . exact r12Side_t hr hok hT W
  have heq:∀ (p q:Int) W,(binOp .eql 27 (.agg #[.int .i64 p,.int .i64 q]) (.agg #[.int .i64 p,.int .i64 q])).run Tryz.prog W=.ok (.bool true) W:=fun p q W=>by simp [go_sem]
  have RK:∀ {W W':World} {v:Value},RefSide s W v->Below W.heap.size W W'->RefSide s W' v:=fun h k=>h.keeps k
  clear hr hok
  generalize ord (dX (vL s 3) 0 1 2) 0=vs at *
  generalize st_side s=st at *
  generalize RefSide s=RX at *
  generalize s 0 0=s00 at *
  generalize s 0 1=s01 at *
  generalize s 0 2=s02 at *
  generalize s 1 0=s10 at *
  generalize s 1 1=s11 at *
  generalize s 1 2=s12 at *
  generalize s 2 0=s20 at *
  generalize s 2 1=s21 at *
  generalize s 2 2=s22 at *
  generalize s 3 0=s30 at *
  generalize s 3 1=s31 at *
  generalize s 3 2=s32 at *
  have l_k:=heap_a1 w (.cells #[.int .i64 s00,.int .i64 s01,.int .i64 s02,.int .i64 s10,.int .i64 s11,.int .i64 s12,.int .i64 s20,.int .i64 s21,.int .i64 s22,.int .i64 s30,.int .i64 s31,.int .i64 s32] 24)
  have hb:=bel_alloc w (.cells #[.int .i64 s00,.int .i64 s01,.int .i64 s02,.int .i64 s10,.int .i64 s11,.int .i64 s12,.int .i64 s20,.int .i64 s21,.int .i64 s22,.int .i64 s30,.int .i64 s31,.int .i64 s32] 24)
  have H1:=H.keeps hb
  go_enter Tryz.func3,Tryz.ntmps3
  go_wp2_with fail
  generalize w.alloc (.cells #[.int .i64 s00,.int .i64 s01,.int .i64 s02,.int .i64 s10,.int .i64 s11,.int .i64 s12,.int .i64 s20,.int .i64 s21,.int .i64 s22,.int .i64 s30,.int .i64 s31,.int .i64 s32] 24)=x1 at l_k hb H1 ⊢
  refine (CA.out _ H1).mono ?_
  rintro _ y1 ⟨rfl,h1⟩
  replace l_k:=blk_us h1 l_k
  replace hb:=bel_trans hb h1
  replace H1:=H1.keeps h1
  clear h1
  have f0:=blkC l_k 0 rfl
  have f1:=blkC l_k 1 rfl
  have f2:=blkC l_k 2 rfl
  have f3:=blkC l_k 3 rfl
  have f4:=blkC l_k 4 rfl
  have f5:=blkC l_k 5 rfl
  have f6:=blkC l_k 6 rfl
  have f7:=blkC l_k 7 rfl
  have f8:=blkC l_k 8 rfl
  have f9:=blkC l_k 9 rfl
  have f10:=blkC l_k 10 rfl
  have f11:=blkC l_k 11 rfl
  go_wp2_with fail
  clear f0 f1 f2 f3 f4 f5 f6 f7 f8 f9 f10 f11
  refine (CS.out _ H1).mono ?_
  rintro _ y2 ⟨rfl,h2⟩
  replace l_k:=heap_past (.cells #[.int .i64 vs,.int .i64 st] 27) (blk_us h2 l_k)
  have v_k:=heap_a1 y2 (.cells #[.int .i64 vs,.int .i64 st] 27)
  replace H1:=(H1.keeps h2).keeps (bel_alloc y2 (.cells #[.int .i64 vs,.int .i64 st] 27))
  replace hb:=bel_trans hb (bel_trans h2 (bel_alloc y2 (.cells #[.int .i64 vs,.int .i64 st] 27)))
  clear h2
  have f0:=blkC l_k 0 rfl
  have f1:=blkC l_k 1 rfl
  have f2:=blkC l_k 2 rfl
  have f3:=blkC l_k 3 rfl
  have f4:=blkC l_k 4 rfl
  have f5:=blkC l_k 5 rfl
  have f6:=blkC l_k 6 rfl
  have f7:=blkC l_k 7 rfl
  have f8:=blkC l_k 8 rfl
  have f9:=blkC l_k 9 rfl
  have f10:=blkC l_k 10 rfl
  have f11:=blkC l_k 11 rfl
  go_wp2_with fail
  clear f0 f1 f2 f3 f4 f5 f6 f7 f8 f9 f10 f11
  generalize y2.alloc (.cells #[.int .i64 vs,.int .i64 st] 27)=x2 at l_k v_k hb H1 ⊢
  generalize y2.heap.size=gv at v_k ⊢
  refine (CX.out _ H1).mono ?_
  rintro _ y3 ⟨x_g,x_o,x_n,x_c,x_e,rfl,CM,h3⟩
  replace l_k:=heap_past (.cells #[.bool x_g,.slice x_o x_n x_c,.int .i64 x_e] 33) (blk_us h3 l_k)
  replace v_k:=heap_past (.cells #[.bool x_g,.slice x_o x_n x_c,.int .i64 x_e] 33) (blk_us h3 v_k)
  have n_k:=heap_a1 y3 (.cells #[.bool x_g,.slice x_o x_n x_c,.int .i64 x_e] 33)
  have hq:=bel_alloc y3 (.cells #[.bool x_g,.slice x_o x_n x_c,.int .i64 x_e] 33)
  replace hb:=bel_trans hb (bel_trans h3 (bel_alloc y3 (.cells #[.bool x_g,.slice x_o x_n x_c,.int .i64 x_e] 33)))
  clear h3 H1
  replace CM:Hid _:=hideIt CM
  go_wp2_with fail
  generalize y3.alloc (.cells #[.bool x_g,.slice x_o x_n x_c,.int .i64 x_e] 33)=x3 at l_k v_k n_k hb hq ⊢
  generalize y3.heap.size=gn at n_k ⊢
  refine (CG.out _ _ l_k).mono ?_
  rintro _ y4 ⟨rfl,h4⟩
  replace l_k:=blk_us h4 l_k
  replace v_k:=blk_us h4 v_k
  replace n_k:=blk_us h4 n_k
  replace hb:=bel_trans hb h4
  replace hq:=bel_trans hq h4
  clear h4
  go_wp2_with fail
  have KK1:∀ W,Below y4.heap.size y4 W->W.cell? ⟨w.heap.size,0,none⟩=some (.int .i64 s00)∧W.cell? ⟨w.heap.size,1,none⟩=some (.int .i64 s01)∧W.cell? ⟨w.heap.size,2,none⟩=some (.int .i64 s02)∧W.cell? ⟨w.heap.size,3,none⟩=some (.int .i64 s10)∧W.cell? ⟨w.heap.size,4,none⟩=some (.int .i64 s11)∧W.cell? ⟨w.heap.size,5,none⟩=some (.int .i64 s12)∧W.cell? ⟨w.heap.size,6,none⟩=some (.int .i64 s20)∧W.cell? ⟨w.heap.size,7,none⟩=some (.int .i64 s21)∧W.cell? ⟨w.heap.size,8,none⟩=some (.int .i64 s22)∧W.cell? ⟨w.heap.size,9,none⟩=some (.int .i64 s30)∧W.cell? ⟨w.heap.size,10,none⟩=some (.int .i64 s31)∧W.cell? ⟨w.heap.size,11,none⟩=some (.int .i64 s32)∧W.cell? ⟨gn,0,none⟩=some (.bool x_g)∧W.cell? ⟨gn,1,none⟩=some (.slice x_o x_n x_c)∧W.cell? ⟨gn,2,none⟩=some (.int .i64 x_e):=fun W hb=>⟨q_cell (blkC l_k 0 rfl) hb,q_cell (blkC l_k 1 rfl) hb,q_cell (blkC l_k 2 rfl) hb,q_cell (blkC l_k 3 rfl) hb,q_cell (blkC l_k 4 rfl) hb,q_cell (blkC l_k 5 rfl) hb,q_cell (blkC l_k 6 rfl) hb,q_cell (blkC l_k 7 rfl) hb,q_cell (blkC l_k 8 rfl) hb,q_cell (blkC l_k 9 rfl) hb,q_cell (blkC l_k 10 rfl) hb,q_cell (blkC l_k 11 rfl) hb,q_cell (blkC n_k 0 rfl) hb,q_cell (blkC n_k 1 rfl) hb,q_cell (blkC n_k 2 rfl) hb⟩
  have hC0:=(bel_refl y4).drew
  go_region_held3 (fun W=>W.cell? ⟨w.heap.size,0,none⟩=some (.int .i64 s00)∧W.cell? ⟨w.heap.size,1,none⟩=some (.int .i64 s01)∧W.cell? ⟨w.heap.size,2,none⟩=some (.int .i64 s02)∧W.cell? ⟨w.heap.size,3,none⟩=some (.int .i64 s10)∧W.cell? ⟨w.heap.size,4,none⟩=some (.int .i64 s11)∧W.cell? ⟨w.heap.size,5,none⟩=some (.int .i64 s12)∧W.cell? ⟨w.heap.size,6,none⟩=some (.int .i64 s20)∧W.cell? ⟨w.heap.size,7,none⟩=some (.int .i64 s21)∧W.cell? ⟨w.heap.size,8,none⟩=some (.int .i64 s22)∧W.cell? ⟨w.heap.size,9,none⟩=some (.int .i64 s30)∧W.cell? ⟨w.heap.size,10,none⟩=some (.int .i64 s31)∧W.cell? ⟨w.heap.size,11,none⟩=some (.int .i64 s32)∧W.cell? ⟨gn,0,none⟩=some (.bool x_g)∧W.cell? ⟨gn,1,none⟩=some (.slice x_o x_n x_c)∧W.cell? ⟨gn,2,none⟩=some (.int .i64 x_e))
    (with_reducible first | assumption | exact KK1 _ hC0 | exact KK1 _ hC1 | exact KK1 _ hC2 | fail)
    (first
      | (go_at_call 11; refine (CM.out _ _ _ _ _ _ (bel_trans hq hC1) hX).mono ?_; rintro _ y6 ⟨rfl,h6⟩; have hC2:=bel_trans hC1 h6)
      | (go_at_call 12; refine (CE.out _).mono ?_; rintro _ y5 ⟨n_g,n_o,n_n,n_c,n_e,rfl,hX,h5⟩; have hC1:=bel_trans hC0 h5))
  replace l_k:=blk_us hC2 l_k
  replace v_k:=blk_us hC2 v_k
  replace hb:=bel_trans hb hC2
  clear hC0 hC1 hC2 h5 h6 hX CM hq n_k KK1
  go_wp2_with fail
  have KK2:∀ W,Below y6.heap.size y6 W->W.cell? ⟨w.heap.size,0,none⟩=some (.int .i64 s00)∧W.cell? ⟨w.heap.size,1,none⟩=some (.int .i64 s01)∧W.cell? ⟨w.heap.size,2,none⟩=some (.int .i64 s02)∧W.cell? ⟨w.heap.size,3,none⟩=some (.int .i64 s10)∧W.cell? ⟨w.heap.size,4,none⟩=some (.int .i64 s11)∧W.cell? ⟨w.heap.size,5,none⟩=some (.int .i64 s12)∧W.cell? ⟨w.heap.size,6,none⟩=some (.int .i64 s20)∧W.cell? ⟨w.heap.size,7,none⟩=some (.int .i64 s21)∧W.cell? ⟨w.heap.size,8,none⟩=some (.int .i64 s22)∧W.cell? ⟨w.heap.size,9,none⟩=some (.int .i64 s30)∧W.cell? ⟨w.heap.size,10,none⟩=some (.int .i64 s31)∧W.cell? ⟨w.heap.size,11,none⟩=some (.int .i64 s32)∧W.cell? ⟨gv,0,none⟩=some (.int .i64 vs)∧W.cell? ⟨gv,1,none⟩=some (.int .i64 st):=fun W hb=>⟨q_cell (blkC l_k 0 rfl) hb,q_cell (blkC l_k 1 rfl) hb,q_cell (blkC l_k 2 rfl) hb,q_cell (blkC l_k 3 rfl) hb,q_cell (blkC l_k 4 rfl) hb,q_cell (blkC l_k 5 rfl) hb,q_cell (blkC l_k 6 rfl) hb,q_cell (blkC l_k 7 rfl) hb,q_cell (blkC l_k 8 rfl) hb,q_cell (blkC l_k 9 rfl) hb,q_cell (blkC l_k 10 rfl) hb,q_cell (blkC l_k 11 rfl) hb,q_cell (blkC v_k 0 rfl) hb,q_cell (blkC v_k 1 rfl) hb⟩
  have hC0:=(bel_refl y6).drew
  have hT0:Below w.heap.size w y6.drew:=hb.drew
  go_region_held3 (fun W=>W.cell? ⟨w.heap.size,0,none⟩=some (.int .i64 s00)∧W.cell? ⟨w.heap.size,1,none⟩=some (.int .i64 s01)∧W.cell? ⟨w.heap.size,2,none⟩=some (.int .i64 s02)∧W.cell? ⟨w.heap.size,3,none⟩=some (.int .i64 s10)∧W.cell? ⟨w.heap.size,4,none⟩=some (.int .i64 s11)∧W.cell? ⟨w.heap.size,5,none⟩=some (.int .i64 s12)∧W.cell? ⟨w.heap.size,6,none⟩=some (.int .i64 s20)∧W.cell? ⟨w.heap.size,7,none⟩=some (.int .i64 s21)∧W.cell? ⟨w.heap.size,8,none⟩=some (.int .i64 s22)∧W.cell? ⟨w.heap.size,9,none⟩=some (.int .i64 s30)∧W.cell? ⟨w.heap.size,10,none⟩=some (.int .i64 s31)∧W.cell? ⟨w.heap.size,11,none⟩=some (.int .i64 s32)∧W.cell? ⟨gv,0,none⟩=some (.int .i64 vs)∧W.cell? ⟨gv,1,none⟩=some (.int .i64 st))
    (with_reducible first | assumption | exact KK2 _ hC0 | exact KK2 _ hC1 | fail)
    (first
      | (go_at_call 10; refine (lnum12 _ _).mono ?_; rintro _ wz ⟨rfl,hwz⟩; replace hwz:=hwz.symm; subst hwz)
      | (go_at_call 13; refine (CR.out _).mono ?_; rintro _ yS ⟨rfl,hwS⟩; have hC1:=bel_trans hC0 hwS; have hT1:=bel_trans hT0 hwS))
  go_wp2
  all_goals go_ret
  all_goals exact ⟨ret_bool (by simp),by first | exact hT1 | exact hT1.drew⟩
theorem sSides_any {s:Nat->Nat->Int} (w:World) (hr:∀ i k,rng (s i k)) (H:Hold4 w) :
    Calls Tryz.prog 3 #[.agg #[.int .i64 (s 0 0),.int .i64 (s 0 1),.int .i64 (s 0 2),.int .i64 (s 1 0),.int .i64 (s 1 1),.int .i64 (s 1 2),.int .i64 (s 2 0),.int .i64 (s 2 1),.int .i64 (s 2 2),.int .i64 (s 3 0),.int .i64 (s 3 1),.int .i64 (s 3 2)]] w fun e w'=>e=.returned (.bool true)∧Below w.heap.size w w':=by
  cases hok:allB (sok s) 4
  . exact sSides_no w hr hok H
  . exact sSides_yes w hr hok H
end Go.Proofs.YtcklaogdjpbagaaGreatDoor
namespace Go.Proofs.YtcklaogdjpbagaaGreatDoor
open Go Go.RowKit Go.Proofs.YtcklaogdjpbagaaGreatDoor.M
theorem q_cells4:Tryz.prog.cellsOf 24=12:=by kernel_rfl
def four (s:Nat->Nat->Int):Array Value:=#[.int .i64 (s 0 0),.int .i64 (s 0 1),.int .i64 (s 0 2),.int .i64 (s 1 0),.int .i64 (s 1 1),.int .i64 (s 1 2),.int .i64 (s 2 0),.int .i64 (s 2 1),.int .i64 (s 2 2),.int .i64 (s 3 0),.int .i64 (s 3 1),.int .i64 (s 3 2)]
set_option maxRecDepth 100000 in
theorem okWide_array4 {W:World} {base:Nat} {v:Value} (hv:Value.okWide Tryz.prog W .any base 24 v):∃ cs,v=.agg cs∧cs.size=12:=by
  unfold Value.okWide at hv
  rw [Tryz.underlying24] at hv
  dsimp only at hv
  obtain ⟨cs,h1,h2,_⟩:=hv
  exact ⟨cs,h1,by rw [h2]; exact q_cells4⟩
set_option maxRecDepth 100000 in
theorem spaces4_of {H:Type} {enc:TypeId × Value->H} {W:World} {base:Nat} {v:Value} {d:DataW H} {p:List MemPlace} (hv:Value.okWide Tryz.prog W .any base 24 v)
    (h:DataW.Trod enc Tryz.prog W 0 (fun _=>true) true 24 v d p):∃ s:Nat->Nat->Int,v=.agg (four s)∧∀ i k,rng (s i k):=by
  obtain ⟨cs,rfl,hc⟩:=okWide_array4 hv
  obtain ⟨fuel,hf⟩:=h
  obtain ⟨xs,m,_,_,hl,hx,hf⟩:=DataW.trod_array Tryz.underlying24 hf
  rw [q_cells4] at hl
  change cs.toList.length=12 at hl
  rw [q_cellsSpace] at hf
  have K:∀ i,i<4->∃ a b c:Int,(cs.toList.drop (i*3)).take 3=[.int .i64 a,.int .i64 b,.int .i64 c]∧rng a∧rng b∧rng c:=fun i hi=>
    space_cells ((hf i hi).trans (List.getElem?_eq_getElem (by omega)))
  obtain ⟨a0,b0,c0,e0,r0⟩:=K 0 (by decide)
  obtain ⟨a1,b1,c1,e1,r1⟩:=K 1 (by decide)
  obtain ⟨a2,b2,c2,e2,r2⟩:=K 2 (by decide)
  obtain ⟨a3,b3,c3,e3,r3⟩:=K 3 (by decide)
  have hE:cs.toList.drop 12=[]:=List.drop_eq_nil_of_le (by omega)
  have hT:cs.toList=[.int .i64 a0,.int .i64 b0,.int .i64 c0,.int .i64 a1,.int .i64 b1,.int .i64 c1,.int .i64 a2,.int .i64 b2,.int .i64 c2,.int .i64 a3,.int .i64 b3,.int .i64 c3]:=by
    have h0:=chop3 cs.toList 0
    have h1:=chop3 cs.toList 3
    have h2:=chop3 cs.toList 6
    have h3:=chop3 cs.toList 9
    simp only [Nat.reduceMul,Nat.reduceAdd] at h0 h1 h2 h3 e0 e1 e2 e3
    rw [hE,e3] at h3
    rw [h3,e2] at h2
    rw [h2,e1] at h1
    rw [h1,e0,List.drop_zero] at h0
    exact h0
  refine ⟨fun i=>if i=0 then l3 a0 b0 c0 else if i=1 then l3 a1 b1 c1 else if i=2 then l3 a2 b2 c2 else l3 a3 b3 c3,?_,fun i k=>?_⟩
  . congr 1
    exact Array.toList_inj.1 hT
  . dsimp only
    split
    . exact rng_l3 r0 k
    . split
      . exact rng_l3 r1 k
      . split
        . exact rng_l3 r2 k
        . exact rng_l3 r3 k
end Go.Proofs.YtcklaogdjpbagaaGreatDoor
