/- Parts of the proof. -/
import Derived.Test.YtcklaogdjpbagaaGreatDoorSp36
import Derived.Test.YtcklaogdjpbagaaGreatDoorSp37
import Derived.Test.YtcklaogdjpbagaaGreatDoorSp21
import Derived.Test.YtcklaogdjpbagaaGreatDoorSp7
import Derived.Deep.RegionHeld3
set_option maxRecDepth 100000
set_option maxHeartbeats 8000000
set_option linter.unusedVariables false
set_option linter.unusedSimpArgs false
namespace Go.Proofs.YtcklaogdjpbagaaGreatDoor
open Go Go.RowKit Go.Proofs.YtcklaogdjpbagaaGreatDoor.M
theorem tG {s:Nat->Nat->Int} (hr:∀ i k,ax (s i k)) (hok:bL (cD s) 5=true) (hT:bL (dz s) 5=false) (w:World) :
  Calls Tryz.prog 17 #[.agg #[.int .i64 (s 0 0),.int .i64 (s 0 1),.int .i64 (s 0 2)],.agg #[.int .i64 (s 1 0),.int .i64 (s 1 1),.int .i64 (s 1 2)],.agg #[.int .i64 (s 2 0),.int .i64 (s 2 1),.int .i64 (s 2 2)],.agg #[.int .i64 (s 3 0),.int .i64 (s 3 1),.int .i64 (s 3 2)],.agg #[.int .i64 (s 4 0),.int .i64 (s 4 1),.int .i64 (s 4 2)]] w fun e w'=>e=.returned (.agg #[.int .i64 (aZ (sX (vL s 4)) 0),.int .i64 (cI s)])∧Below w.heap.size w w':=by
 have EX:Hid (∀ W,Calls Tryz.prog 16 #[.agg #[.int .i64 (s 0 0),.int .i64 (s 0 1),.int .i64 (s 0 2)],.agg #[.int .i64 (s 1 0),.int .i64 (s 1 1),.int .i64 (s 1 2)],.agg #[.int .i64 (s 2 0),.int .i64 (s 2 1),.int .i64 (s 2 2)],.agg #[.int .i64 (s 3 0),.int .i64 (s 3 1),.int .i64 (s 3 2)],.agg #[.int .i64 (s 4 0),.int .i64 (s 4 1),.int .i64 (s 4 2)]] W fun r w'=>∃ g o n c e V,r=.returned (.agg #[.bool g,.slice o n c,.int .i64 e])∧aR w' (.agg #[.bool g,.slice o n c,.int .i64 e]) V∧Hid (aZ V 0=aZ (sX (vL s 4)) 0)∧Below W.heap.size W w'):=fun W=>by
  refine(ls hr (fc hok) W).mono ?_
  rintro _ w' ⟨v,V,rfl,hd,hb,hv,-⟩
  obtain⟨g,o,n,c,e,rfl⟩:=hd.shape
  exact⟨g,o,n,c,e,V,rfl,hd.num,(by show _=_;rw[<- hv,uz (Int.mul_pos (aJ _) (Int.mul_pos (Int.mul_pos (aJ _) (aJ _)) (aJ _)))]),hb⟩
 have CT:Hid (∀ W g,W.heap[g]?=some (.cells #[.int .i64 (s 0 0),.int .i64 (s 0 1),.int .i64 (s 0 2),.int .i64 (s 1 0),.int .i64 (s 1 1),.int .i64 (s 1 2),.int .i64 (s 2 0),.int .i64 (s 2 1),.int .i64 (s 2 2),.int .i64 (s 3 0),.int .i64 (s 3 1),.int .i64 (s 3 2),.int .i64 (s 4 0),.int .i64 (s 4 1),.int .i64 (s 4 2)] 23 (0,0))->Calls Tryz.prog 25 #[.slice (some ⟨g,0,none⟩) 5 5] W fun x w'=>x=.returned (.bool false)∧w'=W):=fun W g h=>by
  have:=sT _ 5 5 s W (gk s W h) hr
  rw[hT] at this
  exact this
 have hst:Hid (cI s=6):=by
  show _=_
  unfold cI
  rw[hT];rfl
 clear hr hok hT
 generalize aZ (sX (vL s 4)) 0=sg at *
 generalize cI s=st at *
 obtain rfl:st=6:=hst.out
 generalize s 0 0=el at *
 generalize s 0 1=s01 at *
 generalize s 0 2=s02 at *
 generalize s 1 0=eL at *
 generalize s 1 1=s11 at *
 generalize s 1 2=s12 at *
 generalize s 2 0=s20 at *
 generalize s 2 1=s21 at *
 generalize s 2 2=s22 at *
 generalize s 3 0=s30 at *
 generalize s 3 1=s31 at *
 generalize s 3 2=s32 at *
 generalize s 4 0=s40 at *
 generalize s 4 1=s41 at *
 generalize s 4 2=s42 at *
 obtain⟨hb0,p0_k,p1_k,p2_k,p3_k,p4_k,o_k,hsz0⟩:=vt w (.cells #[.int .i64 el,.int .i64 s01,.int .i64 s02] 23) (.cells #[.int .i64 eL,.int .i64 s11,.int .i64 s12] 23) (.cells #[.int .i64 s20,.int .i64 s21,.int .i64 s22] 23) (.cells #[.int .i64 s30,.int .i64 s31,.int .i64 s32] 23) (.cells #[.int .i64 s40,.int .i64 s41,.int .i64 s42] 23) (.cells #[.int .i64 0,.int .i64 0] 27)
 clear hsz0
 go_enter Tryz.func17,Tryz.ntmps17
 have f_p00:=af p0_k 0 rfl
 have f_p01:=af p0_k 1 rfl
 have f_p02:=af p0_k 2 rfl
 have f_p10:=af p1_k 0 rfl
 have f_p11:=af p1_k 1 rfl
 have f_p12:=af p1_k 2 rfl
 have f_p20:=af p2_k 0 rfl
 have f_p21:=af p2_k 1 rfl
 have f_p22:=af p2_k 2 rfl
 have f_p30:=af p3_k 0 rfl
 have f_p31:=af p3_k 1 rfl
 have f_p32:=af p3_k 2 rfl
 have f_p40:=af p4_k 0 rfl
 have f_p41:=af p4_k 1 rfl
 have f_p42:=af p4_k 2 rfl
 go_wp2_with fail
 clear f_p00 f_p01 f_p02 f_p10 f_p11 f_p12 f_p20 f_p21 f_p22 f_p30 f_p31 f_p32 f_p40 f_p41 f_p42
 generalize ((((((w.alloc (.cells #[.int .i64 el,.int .i64 s01,.int .i64 s02] 23)).alloc (.cells #[.int .i64 eL,.int .i64 s11,.int .i64 s12] 23)).alloc (.cells #[.int .i64 s20,.int .i64 s21,.int .i64 s22] 23)).alloc (.cells #[.int .i64 s30,.int .i64 s31,.int .i64 s32] 23)).alloc (.cells #[.int .i64 s40,.int .i64 s41,.int .i64 s42] 23)).alloc (.cells #[.int .i64 0,.int .i64 0] 27))=x0 at hb0 p0_k p1_k p2_k p3_k p4_k o_k ⊢
 refine(EX.out _).mono ?_
 rintro _ y1 ⟨g,o,n,c,e,V,rfl,hD,hV,hw1⟩
 replace p0_k:=am hw1 p0_k
 replace p1_k:=am hw1 p1_k
 replace p2_k:=am hw1 p2_k
 replace p3_k:=am hw1 p3_k
 replace p4_k:=am hw1 p4_k
 replace o_k:=am hw1 o_k
 replace hb0:=ac hb0 hw1
 go_wp2_with fail
 refine(Ar hD hV.out).mono ?_
 rintro _ y2 ⟨rfl,hw2⟩
 clear hD hV
 replace p0_k:=am hw2 p0_k
 replace p1_k:=am hw2 p1_k
 replace p2_k:=am hw2 p2_k
 replace p3_k:=am hw2 p3_k
 replace p4_k:=am hw2 p4_k
 replace o_k:=am hw2 o_k
 replace hb0:=ac hb0 hw2
 have f_p00:=af p0_k 0 rfl
 have f_p01:=af p0_k 1 rfl
 have f_p02:=af p0_k 2 rfl
 have f_p10:=af p1_k 0 rfl
 have f_p11:=af p1_k 1 rfl
 have f_p12:=af p1_k 2 rfl
 have f_p20:=af p2_k 0 rfl
 have f_p21:=af p2_k 1 rfl
 have f_p22:=af p2_k 2 rfl
 have f_p30:=af p3_k 0 rfl
 have f_p31:=af p3_k 1 rfl
 have f_p32:=af p3_k 2 rfl
 have f_p40:=af p4_k 0 rfl
 have f_p41:=af p4_k 1 rfl
 have f_p42:=af p4_k 2 rfl
 go_wp2_with fail
 clear f_p00 f_p01 f_p02 f_p10 f_p11 f_p12 f_p20 f_p21 f_p22 f_p30 f_p31 f_p32 f_p40 f_p41 f_p42
 refine(CT.out _ _ (aC _ _)).mono ?_
 rintro _ _ ⟨rfl,rfl⟩
 have hw3:=ah y2 (.cells #[.int .i64 el,.int .i64 s01,.int .i64 s02,.int .i64 eL,.int .i64 s11,.int .i64 s12,.int .i64 s20,.int .i64 s21,.int .i64 s22,.int .i64 s30,.int .i64 s31,.int .i64 s32,.int .i64 s40,.int .i64 s41,.int .i64 s42] 23)
 replace p0_k:=am hw3 p0_k
 replace p1_k:=am hw3 p1_k
 replace p2_k:=am hw3 p2_k
 replace p3_k:=am hw3 p3_k
 replace p4_k:=am hw3 p4_k
 replace o_k:=am hw3 o_k
 replace hb0:=ac hb0 hw3
 generalize y2.alloc (.cells #[.int .i64 el,.int .i64 s01,.int .i64 s02,.int .i64 eL,.int .i64 s11,.int .i64 s12,.int .i64 s20,.int .i64 s21,.int .i64 s22,.int .i64 s30,.int .i64 s31,.int .i64 s32,.int .i64 s40,.int .i64 s41,.int .i64 s42] 23)=y3 at p0_k p1_k p2_k p3_k p4_k o_k hb0 ⊢
 clear hw3
 have k0:=af o_k 0 rfl
 have k1:=af o_k 1 rfl
 have z0:=av o_k 0
 have z1:=av o_k 1
 go_wp2
 exact bodyPost_ret (v:=.agg #[.int .i64 sg,.int .i64 6]) (by simp[results,Tryz.results17,go_sem,k0,k1]) rfl ⟨rfl,(hb0.setCell (p:=⟨w.heap.size+5,0,none⟩) (show w.heap.size<=w.heap.size+5 by omega) _).setCell (p:=⟨w.heap.size+5,1,none⟩) (show w.heap.size<=w.heap.size+5 by omega) _⟩
theorem tH {s:Nat->Nat->Int} (hr:∀ i k,ax (s i k)) (hok:bL (cD s) 5=true) (hT:bL (dz s) 5=true) (w:World) :
    Calls Tryz.prog 17 #[.agg #[.int .i64 (s 0 0),.int .i64 (s 0 1),.int .i64 (s 0 2)],.agg #[.int .i64 (s 1 0),.int .i64 (s 1 1),.int .i64 (s 1 2)],.agg #[.int .i64 (s 2 0),.int .i64 (s 2 1),.int .i64 (s 2 2)],.agg #[.int .i64 (s 3 0),.int .i64 (s 3 1),.int .i64 (s 3 2)],.agg #[.int .i64 (s 4 0),.int .i64 (s 4 1),.int .i64 (s 4 2)]] w fun e w'=>e=.returned (.agg #[.int .i64 (aZ (sX (vL s 4)) 0),.int .i64 (cI s)])∧Below w.heap.size w w':=by
  have EX:Hid (∀ W,Calls Tryz.prog 16 #[.agg #[.int .i64 (s 0 0),.int .i64 (s 0 1),.int .i64 (s 0 2)],.agg #[.int .i64 (s 1 0),.int .i64 (s 1 1),.int .i64 (s 1 2)],.agg #[.int .i64 (s 2 0),.int .i64 (s 2 1),.int .i64 (s 2 2)],.agg #[.int .i64 (s 3 0),.int .i64 (s 3 1),.int .i64 (s 3 2)],.agg #[.int .i64 (s 4 0),.int .i64 (s 4 1),.int .i64 (s 4 2)]] W fun r w'=>∃ g o n c e V,r=.returned (.agg #[.bool g,.slice o n c,.int .i64 e])∧aR w' (.agg #[.bool g,.slice o n c,.int .i64 e]) V∧Hid (aZ V 0=aZ (sX (vL s 4)) 0)∧Below W.heap.size W w'):=fun W=>by
    refine(ls hr (fc hok) W).mono ?_
    rintro _ w' ⟨v,V,rfl,hd,hb,hv,-⟩
    obtain⟨g,o,n,c,e,rfl⟩:=hd.shape
    exact⟨g,o,n,c,e,V,rfl,hd.num,(by show _=_;rw[<- hv,uz (Int.mul_pos (aJ _) (Int.mul_pos (Int.mul_pos (aJ _) (aJ _)) (aJ _)))]),hb⟩
  have CT:Hid (∀ W g,W.heap[g]?=some (.cells #[.int .i64 (s 0 0),.int .i64 (s 0 1),.int .i64 (s 0 2),.int .i64 (s 1 0),.int .i64 (s 1 1),.int .i64 (s 1 2),.int .i64 (s 2 0),.int .i64 (s 2 1),.int .i64 (s 2 2),.int .i64 (s 3 0),.int .i64 (s 3 1),.int .i64 (s 3 2),.int .i64 (s 4 0),.int .i64 (s 4 1),.int .i64 (s 4 2)] 23 (0,0))->Calls Tryz.prog 25 #[.slice (some ⟨g,0,none⟩) 5 5] W fun x w'=>x=.returned (.bool true)∧w'=W):=fun W g h=>by
    have:=sT _ 5 5 s W (gk s W h) hr
    rw[hT] at this
    exact this
  have hz:∀ i,i<=4->∀ k,k<3->Mz (s i k):=fun i hi k hk=>ir (hr i k) (iz hT i hi k hk)
  have hru:∀ i k,ax (uL s 4 i k):=fun i k=>by
    unfold uL
    split
    · exact bs (hr _ _) (eu (hr _ _))
    · exact zH
  have R0:Hid (∀ W,Calls Tryz.prog 27 #[.agg #[.int .i64 (s 0 0),.int .i64 (s 0 1),.int .i64 (s 0 2)],.agg #[.int .i64 (s 4 0),.int .i64 (s 4 1),.int .i64 (s 4 2)]] W fun e w'=>e=.returned (.agg #[.int .i64 (uL s 4 0 0),.int .i64 (uL s 4 0 1),.int .i64 (uL s 4 0 2)])∧Below W.heap.size W w'):=fun W=>je 0 4 hr W
  have R1:Hid (∀ W,Calls Tryz.prog 27 #[.agg #[.int .i64 (s 1 0),.int .i64 (s 1 1),.int .i64 (s 1 2)],.agg #[.int .i64 (s 4 0),.int .i64 (s 4 1),.int .i64 (s 4 2)]] W fun e w'=>e=.returned (.agg #[.int .i64 (uL s 4 1 0),.int .i64 (uL s 4 1 1),.int .i64 (uL s 4 1 2)])∧Below W.heap.size W w'):=fun W=>je 1 4 hr W
  have R2:Hid (∀ W,Calls Tryz.prog 27 #[.agg #[.int .i64 (s 2 0),.int .i64 (s 2 1),.int .i64 (s 2 2)],.agg #[.int .i64 (s 4 0),.int .i64 (s 4 1),.int .i64 (s 4 2)]] W fun e w'=>e=.returned (.agg #[.int .i64 (uL s 4 2 0),.int .i64 (uL s 4 2 1),.int .i64 (uL s 4 2 2)])∧Below W.heap.size W w'):=fun W=>je 2 4 hr W
  have R3:Hid (∀ W,Calls Tryz.prog 27 #[.agg #[.int .i64 (s 3 0),.int .i64 (s 3 1),.int .i64 (s 3 2)],.agg #[.int .i64 (s 4 0),.int .i64 (s 4 1),.int .i64 (s 4 2)]] W fun e w'=>e=.returned (.agg #[.int .i64 (uL s 4 3 0),.int .i64 (uL s 4 3 1),.int .i64 (uL s 4 3 2)])∧Below W.heap.size W w'):=fun W=>je 3 4 hr W
  have CF:Hid (∀ W,Calls Tryz.prog 35 #[.agg #[.int .i64 (uL s 4 0 0),.int .i64 (uL s 4 0 1),.int .i64 (uL s 4 0 2)],.agg #[.int .i64 (uL s 4 1 0),.int .i64 (uL s 4 1 1),.int .i64 (uL s 4 1 2)],.agg #[.int .i64 (uL s 4 2 0),.int .i64 (uL s 4 2 1),.int .i64 (uL s 4 2 2)],.agg #[.int .i64 (uL s 4 3 0),.int .i64 (uL s 4 3 1),.int .i64 (uL s 4 3 2)]] W fun e w'=>e=.returned (.tuple #[.int .i64 (oq (uL s 4)),.int .i64 (ot (uL s 4))])∧Below W.heap.size W w'):=fun W=>vF hru W
  have CK:Hid (∀ W,Calls Tryz.prog 29 #[.int .i64 4503599627370503,.int .i64 (-101)] W fun e w'=>e=.returned (.int .i64 sB)∧Below W.heap.size W w'):=fun W=>xT W
  have hsm:=ty (fun p _=>cm hz p)
  have hvv:=Ak (fun p _=>cm hz p)
  have hfx:=mi hz
  have rss:ax (ot (uL s 4)):=(Al (fun p _=>cm hz p)).r
  have hsg:Hid (bk (ay sB (fS (uL s 4)))<rg (fD (uL s 4))->fV (fD (uL s 4))=aZ (sX (vL s 4)) 0):=fun h=>oo hr hz h
  have CD:Hid (∀ W,Calls Tryz.prog 28 #[.int .i64 (oq (uL s 4)),.int .i64 (ot (uL s 4)),.int .i64 sB] W fun e w'=>e=.returned (.tuple #[.agg #[.int .i64 (fV (fD (uL s 4))),.int .i64 1],.bool (decide (bk (ay sB (fS (uL s 4)))<rg (fD (uL s 4))))])∧Below W.heap.size W w'):=fun W=>by
    have:=vG hvv.r rss eI W
    rw[hsm.1,hsm.2.1,hsm.2.2] at this
    exact this
  have hst:Hid (cI s=if bk (ay sB (fS (uL s 4)))<rg (fD (uL s 4)) then 1 else 4):=by
    show _=_
    unfold cI
    rw[hT];rfl
  clear hr hok hT hz hru hsm hvv hfx rss
  generalize aZ (sX (vL s 4)) 0=sg at *
  generalize cI s=st at *
  generalize fV (fD (uL s 4))=sd at *
  generalize hcc:(decide (bk (ay sB (fS (uL s 4)))<rg (fD (uL s 4))))=cc at *
  have hst2:Hid (st=if cc then 1 else 4):=by
    show st=_
    rw[hst.out,<- hcc]
    by_cases c:bk (ay sB (fS (uL s 4)))<rg (fD (uL s 4))
    · rw[if_pos c,decide_eq_true c];rfl
    · rw[if_neg c,decide_eq_false c];rfl
  have hsg2:Hid (cc=true->sd=sg):=fun h=>hsg.out (of_decide_eq_true (hcc.trans h))
  clear hst hsg hcc
  generalize oq (uL s 4)=DD at *
  generalize ot (uL s 4)=SS at *
  generalize sB=KA at *
  generalize uL s 4 0 0=u00 at *
  generalize uL s 4 0 1=u01 at *
  generalize uL s 4 0 2=u02 at *
  generalize uL s 4 1 0=u10 at *
  generalize uL s 4 1 1=u11 at *
  generalize uL s 4 1 2=u12 at *
  generalize uL s 4 2 0=u20 at *
  generalize uL s 4 2 1=u21 at *
  generalize uL s 4 2 2=u22 at *
  generalize uL s 4 3 0=u30 at *
  generalize uL s 4 3 1=u31 at *
  generalize uL s 4 3 2=u32 at *
  generalize s 0 0=el at *
  generalize s 0 1=s01 at *
  generalize s 0 2=s02 at *
  generalize s 1 0=eL at *
  generalize s 1 1=s11 at *
  generalize s 1 2=s12 at *
  generalize s 2 0=s20 at *
  generalize s 2 1=s21 at *
  generalize s 2 2=s22 at *
  generalize s 3 0=s30 at *
  generalize s 3 1=s31 at *
  generalize s 3 2=s32 at *
  generalize s 4 0=s40 at *
  generalize s 4 1=s41 at *
  generalize s 4 2=s42 at *
  obtain⟨hb0,p0_k,p1_k,p2_k,p3_k,p4_k,o_k,hsz0⟩:=vt w (.cells #[.int .i64 el,.int .i64 s01,.int .i64 s02] 23) (.cells #[.int .i64 eL,.int .i64 s11,.int .i64 s12] 23) (.cells #[.int .i64 s20,.int .i64 s21,.int .i64 s22] 23) (.cells #[.int .i64 s30,.int .i64 s31,.int .i64 s32] 23) (.cells #[.int .i64 s40,.int .i64 s41,.int .i64 s42] 23) (.cells #[.int .i64 0,.int .i64 0] 27)
  clear hsz0
  go_enter Tryz.func17,Tryz.ntmps17
  have f_p00:=af p0_k 0 rfl
  have f_p01:=af p0_k 1 rfl
  have f_p02:=af p0_k 2 rfl
  have f_p10:=af p1_k 0 rfl
  have f_p11:=af p1_k 1 rfl
  have f_p12:=af p1_k 2 rfl
  have f_p20:=af p2_k 0 rfl
  have f_p21:=af p2_k 1 rfl
  have f_p22:=af p2_k 2 rfl
  have f_p30:=af p3_k 0 rfl
  have f_p31:=af p3_k 1 rfl
  have f_p32:=af p3_k 2 rfl
  have f_p40:=af p4_k 0 rfl
  have f_p41:=af p4_k 1 rfl
  have f_p42:=af p4_k 2 rfl
  go_wp2_with fail
  clear f_p00 f_p01 f_p02 f_p10 f_p11 f_p12 f_p20 f_p21 f_p22 f_p30 f_p31 f_p32 f_p40 f_p41 f_p42
  generalize ((((((w.alloc (.cells #[.int .i64 el,.int .i64 s01,.int .i64 s02] 23)).alloc (.cells #[.int .i64 eL,.int .i64 s11,.int .i64 s12] 23)).alloc (.cells #[.int .i64 s20,.int .i64 s21,.int .i64 s22] 23)).alloc (.cells #[.int .i64 s30,.int .i64 s31,.int .i64 s32] 23)).alloc (.cells #[.int .i64 s40,.int .i64 s41,.int .i64 s42] 23)).alloc (.cells #[.int .i64 0,.int .i64 0] 27))=x0 at hb0 p0_k p1_k p2_k p3_k p4_k o_k ⊢
  refine(EX.out _).mono ?_
  rintro _ y1 ⟨g,o,n,c,e,V,rfl,hD,hV,hw1⟩
  replace p0_k:=am hw1 p0_k
  replace p1_k:=am hw1 p1_k
  replace p2_k:=am hw1 p2_k
  replace p3_k:=am hw1 p3_k
  replace p4_k:=am hw1 p4_k
  replace o_k:=am hw1 o_k
  replace hb0:=ac hb0 hw1
  go_wp2_with fail
  refine(Ar hD hV.out).mono ?_
  rintro _ y2 ⟨rfl,hw2⟩
  clear hD hV
  replace p0_k:=am hw2 p0_k
  replace p1_k:=am hw2 p1_k
  replace p2_k:=am hw2 p2_k
  replace p3_k:=am hw2 p3_k
  replace p4_k:=am hw2 p4_k
  replace o_k:=am hw2 o_k
  replace hb0:=ac hb0 hw2
  have f_p00:=af p0_k 0 rfl
  have f_p01:=af p0_k 1 rfl
  have f_p02:=af p0_k 2 rfl
  have f_p10:=af p1_k 0 rfl
  have f_p11:=af p1_k 1 rfl
  have f_p12:=af p1_k 2 rfl
  have f_p20:=af p2_k 0 rfl
  have f_p21:=af p2_k 1 rfl
  have f_p22:=af p2_k 2 rfl
  have f_p30:=af p3_k 0 rfl
  have f_p31:=af p3_k 1 rfl
  have f_p32:=af p3_k 2 rfl
  have f_p40:=af p4_k 0 rfl
  have f_p41:=af p4_k 1 rfl
  have f_p42:=af p4_k 2 rfl
  go_wp2_with fail
  clear f_p00 f_p01 f_p02 f_p10 f_p11 f_p12 f_p20 f_p21 f_p22 f_p30 f_p31 f_p32 f_p40 f_p41 f_p42
  refine(CT.out _ _ (aC _ _)).mono ?_
  rintro _ _ ⟨rfl,rfl⟩
  have hw3:=ah y2 (.cells #[.int .i64 el,.int .i64 s01,.int .i64 s02,.int .i64 eL,.int .i64 s11,.int .i64 s12,.int .i64 s20,.int .i64 s21,.int .i64 s22,.int .i64 s30,.int .i64 s31,.int .i64 s32,.int .i64 s40,.int .i64 s41,.int .i64 s42] 23)
  replace p0_k:=am hw3 p0_k
  replace p1_k:=am hw3 p1_k
  replace p2_k:=am hw3 p2_k
  replace p3_k:=am hw3 p3_k
  replace p4_k:=am hw3 p4_k
  replace o_k:=am hw3 o_k
  replace hb0:=ac hb0 hw3
  generalize y2.alloc (.cells #[.int .i64 el,.int .i64 s01,.int .i64 s02,.int .i64 eL,.int .i64 s11,.int .i64 s12,.int .i64 s20,.int .i64 s21,.int .i64 s22,.int .i64 s30,.int .i64 s31,.int .i64 s32,.int .i64 s40,.int .i64 s41,.int .i64 s42] 23)=y3 at p0_k p1_k p2_k p3_k p4_k o_k hb0 ⊢
  clear hw3
  go_wp2_with fail
  have KK4:∀ W,Below y3.heap.size y3 W->W.cell? ⟨w.heap.size,0,none⟩=some (.int .i64 el)∧W.cell? ⟨w.heap.size,1,none⟩=some (.int .i64 s01)∧W.cell? ⟨w.heap.size,2,none⟩=some (.int .i64 s02)∧W.cell? ⟨w.heap.size+1,0,none⟩=some (.int .i64 eL)∧W.cell? ⟨w.heap.size+1,1,none⟩=some (.int .i64 s11)∧W.cell? ⟨w.heap.size+1,2,none⟩=some (.int .i64 s12)∧W.cell? ⟨w.heap.size+2,0,none⟩=some (.int .i64 s20)∧W.cell? ⟨w.heap.size+2,1,none⟩=some (.int .i64 s21)∧W.cell? ⟨w.heap.size+2,2,none⟩=some (.int .i64 s22)∧W.cell? ⟨w.heap.size+3,0,none⟩=some (.int .i64 s30)∧W.cell? ⟨w.heap.size+3,1,none⟩=some (.int .i64 s31)∧W.cell? ⟨w.heap.size+3,2,none⟩=some (.int .i64 s32)∧W.cell? ⟨w.heap.size+4,0,none⟩=some (.int .i64 s40)∧W.cell? ⟨w.heap.size+4,1,none⟩=some (.int .i64 s41)∧W.cell? ⟨w.heap.size+4,2,none⟩=some (.int .i64 s42):=fun W hb=>⟨aj (af p0_k 0 rfl) hb,aj (af p0_k 1 rfl) hb,aj (af p0_k 2 rfl) hb,aj (af p1_k 0 rfl) hb,aj (af p1_k 1 rfl) hb,aj (af p1_k 2 rfl) hb,aj (af p2_k 0 rfl) hb,aj (af p2_k 1 rfl) hb,aj (af p2_k 2 rfl) hb,aj (af p3_k 0 rfl) hb,aj (af p3_k 1 rfl) hb,aj (af p3_k 2 rfl) hb,aj (af p4_k 0 rfl) hb,aj (af p4_k 1 rfl) hb,aj (af p4_k 2 rfl) hb⟩
  have hC4_0:=(ak y3).drew
  have hs4_0:=(ak y3).drew
  go_region_held3 (fun W=>W.cell? ⟨w.heap.size,0,none⟩=some (.int .i64 el)∧W.cell? ⟨w.heap.size,1,none⟩=some (.int .i64 s01)∧W.cell? ⟨w.heap.size,2,none⟩=some (.int .i64 s02)∧W.cell? ⟨w.heap.size+1,0,none⟩=some (.int .i64 eL)∧W.cell? ⟨w.heap.size+1,1,none⟩=some (.int .i64 s11)∧W.cell? ⟨w.heap.size+1,2,none⟩=some (.int .i64 s12)∧W.cell? ⟨w.heap.size+2,0,none⟩=some (.int .i64 s20)∧W.cell? ⟨w.heap.size+2,1,none⟩=some (.int .i64 s21)∧W.cell? ⟨w.heap.size+2,2,none⟩=some (.int .i64 s22)∧W.cell? ⟨w.heap.size+3,0,none⟩=some (.int .i64 s30)∧W.cell? ⟨w.heap.size+3,1,none⟩=some (.int .i64 s31)∧W.cell? ⟨w.heap.size+3,2,none⟩=some (.int .i64 s32)∧W.cell? ⟨w.heap.size+4,0,none⟩=some (.int .i64 s40)∧W.cell? ⟨w.heap.size+4,1,none⟩=some (.int .i64 s41)∧W.cell? ⟨w.heap.size+4,2,none⟩=some (.int .i64 s42))
    (with_reducible first|assumption|exact KK4 _ hC4_0|exact KK4 _ hC4_1|exact KK4 _ hC4_2|exact KK4 _ hC4_3|exact KK4 _ hC4_4|exact KK4 _ hC4_5|fail)
    (first
      | (go_at_call 35;have _t:=hs4_4;refine(CF.out _).mono ?_;rintro _ y4_5 ⟨rfl,hs4_5⟩;have hC4_5:=ac hC4_4 hs4_5)
      | (go_at_call 27;have _t:=hs4_3;refine(R3.out _).mono ?_;rintro _ y4_4 ⟨rfl,hs4_4⟩;have hC4_4:=ac hC4_3 hs4_4)
      | (go_at_call 27;have _t:=hs4_2;refine(R2.out _).mono ?_;rintro _ y4_3 ⟨rfl,hs4_3⟩;have hC4_3:=ac hC4_2 hs4_3)
      | (go_at_call 27;have _t:=hs4_1;refine(R1.out _).mono ?_;rintro _ y4_2 ⟨rfl,hs4_2⟩;have hC4_2:=ac hC4_1 hs4_2)
      | (go_at_call 27; refine (R0.out _).mono ?_; rintro _ y4_1 ⟨rfl,hs4_1⟩; have hC4_1:=ac hC4_0 hs4_1))
  replace p0_k:=am hC4_5 p0_k
  replace p1_k:=am hC4_5 p1_k
  replace p2_k:=am hC4_5 p2_k
  replace p3_k:=am hC4_5 p3_k
  replace p4_k:=am hC4_5 p4_k
  replace o_k:=am hC4_5 o_k
  replace hb0:=ac hb0 hC4_5
  go_wp2_with fail
  refine(CK.out _).mono ?_
  rintro _ y5 ⟨rfl,hw5⟩
  replace p0_k:=am hw5 p0_k
  replace p1_k:=am hw5 p1_k
  replace p2_k:=am hw5 p2_k
  replace p3_k:=am hw5 p3_k
  replace p4_k:=am hw5 p4_k
  replace o_k:=am hw5 o_k
  replace hb0:=ac hb0 hw5
  go_wp2_with fail
  refine(CD.out _).mono ?_
  rintro _ y6 ⟨rfl,hw6⟩
  replace p0_k:=am hw6 p0_k
  replace p1_k:=am hw6 p1_k
  replace p2_k:=am hw6 p2_k
  replace p3_k:=am hw6 p3_k
  replace p4_k:=am hw6 p4_k
  replace o_k:=am hw6 o_k
  replace hb0:=ac hb0 hw6
  have v_k:=aC y6 (.cells #[.int .i64 sd,.int .i64 1] 27)
  replace o_k:=ar (.cells #[.int .i64 sd,.int .i64 1] 27) o_k
  replace hb0:=ac hb0 (ah y6 (.cells #[.int .i64 sd,.int .i64 1] 27))
  have j0:=af v_k 0 rfl
  have j1:=af v_k 1 rfl
  have k0:=af o_k 0 rfl
  have k1:=af o_k 1 rfl
  have z0:=av o_k 0
  have z1:=av o_k 1
  cases cc
  · obtain rfl:st=4:=hst2.out
    go_wp2
    exact bodyPost_ret (v:=.agg #[.int .i64 sg,.int .i64 4]) (by simp[results,Tryz.results17,go_sem,k0,k1]) rfl ⟨rfl,(hb0.setCell (p:=⟨w.heap.size+5,0,none⟩) (show w.heap.size<=w.heap.size+5 by omega) _).setCell (p:=⟨w.heap.size+5,1,none⟩) (show w.heap.size<=w.heap.size+5 by omega) _⟩
  · obtain rfl:st=1:=hst2.out
    obtain rfl:sd=sg:=hsg2.out rfl
    go_wp2
    exact bodyPost_ret (v:=.agg #[.int .i64 sd,.int .i64 1]) (by simp[results,Tryz.results17,go_sem,k0,k1]) rfl ⟨rfl,(hb0.setCell (p:=⟨w.heap.size+5,0,none⟩) (show w.heap.size<=w.heap.size+5 by omega) _).setCell (p:=⟨w.heap.size+5,1,none⟩) (show w.heap.size<=w.heap.size+5 by omega) _⟩
theorem xU {a b:Int} (ha:ax a) (hb:ax b) (h:wd a=wd b):a=b:=by
 unfold wd at h
 unfold ax at ha hb
 omega
theorem kz {a b:Nat} {p q r:Int} (hx:Fx a b p) (hy:Fx a b q) (hb:b+1<=2097) (rr:ax r) (h:Ieee.double.add (wd p) (wd q)=some (wd r)):aE p q=r:=by
 obtain⟨s,-⟩:=hx.sum hy hb
 rcases rH (FW.pat (cr hx.p) hx.r) (FW.pat (cr hy.p) hy.r) with⟨z,e1,e2⟩|⟨e1,_⟩
 ·rw[h] at e1
  cases e1
  obtain⟨_,e3,_⟩:=e2.of (cr s.p)
  exact(xU rr s.r e3).symm
 ·rw[h] at e1
  cases e1
theorem jK {p q r:Int} (rp:ax p) (pp:aF p=true) (rq:ax q) (pq:aF q=true) (rr:ax r) (h:Ieee.double.mul (wd p) (wd q)=some (wd r)):ay p q=r:=by
 have c:=jI pp rp pq rq
 rcases wT (FW.pat (cr pp) rp) (FW.pat (cr pq) rq) with⟨z,e1,e2⟩|⟨e1,_⟩
 ·rw[h] at e1
  cases e1
  obtain⟨_,e3,_⟩:=e2.of c
  exact(xU rr (aS rp rq) e3).symm
 ·rw[h] at e1
  cases e1
def et:Int:=4607182418800017408
theorem fe:ax et:=by unfold ax et;omega
theorem fF:ax 0:=by unfold ax;omega
theorem sZ:Fx 872 1226 et:=(ir fe (by decide)).fx.up (by decide)
theorem jL:Fx 872 1226 0:=fE
theorem eL:aE et (neg 0)=et:=kz sZ jL.neg.1 (by decide) fe (by decide +kernel)
theorem el:aE 0 (neg 0)=0:=kz jL jL.neg.1 (by decide) fF (by decide +kernel)
theorem EQ:aE et 0=et:=kz sZ jL (by decide) fe (by decide +kernel)
theorem Eo:aE 0 et=et:=kz jL sZ (by decide) fe (by decide +kernel)
theorem Ep:aE 0 0=0:=kz jL jL (by decide) fF (by decide +kernel)
theorem Di:ay et et=et:=jK fe (by decide) fe (by decide) fe (by decide +kernel)
theorem ER:ay et 0=0:=jK fe (by decide) fF (by decide) fF (by decide +kernel)
theorem ES:ay 0 et=0:=jK fF (by decide) fe (by decide) fF (by decide +kernel)
theorem Dj:ay 0 0=0:=jK fF (by decide) fF (by decide) fF (by decide +kernel)
theorem Eq:ay sA et=sA:=jK fU (by decide) fe (by decide) fU (by decide +kernel)
theorem Ed:rg et=et:=by decide
theorem Ee:rg 0=0:=by decide
theorem ta (e:Int) (W:World):Calls Tryz.prog 10 #[.int .i64 e] W fun r w'=>r=.returned (.int .i64 e)∧w'=W:=by
 go_enter Tryz.func10,Tryz.ntmps10
 go_wp2
 go_ret
 exact⟨rfl,rfl⟩
def ly (p k:Nat):Int:=if p=k then et else 0
theorem oZ (p k:Nat):ax (ly p k):=by unfold ly;split;exact fe;exact fF
theorem jW (p k:Nat) (hp:p<3) (hk:k<3):uL ly 3 p k=if p=k then et else 0:=by
 unfold uL ly
 rw[if_pos hp,if_neg (show ¬ (3=k) by omega)]
 by_cases e:p=k
 ·rw[if_pos e,eL]
 ·rw[if_neg e,el]
theorem gC (p q:Nat) (hp:p<3) (hq:q<3):pL (uL ly 3) p q=if p=0∧q=1 then et else 0:=by
 unfold pL
 rw[jW p 0 hp (by decide),jW q 1 hq (by decide)]
 by_cases a:p=0<;>by_cases b:q=1
 ·rw[if_pos a,if_pos b,if_pos ⟨a,b⟩,Di]
 ·rw[if_pos a,if_neg b,if_neg (fun c=>b c.2),ER]
 ·rw[if_neg a,if_pos b,if_neg (fun c=>a c.1),ES]
 ·rw[if_neg a,if_neg b,if_neg (fun c=>a c.1),Dj]
theorem vI:dt (uL ly 3) 0 1 2=et:=by
 unfold dt mn
 rw[gC 1 2 (by decide) (by decide),gC 2 1 (by decide) (by decide),gC 0 2 (by decide) (by decide),gC 2 0 (by decide) (by decide),gC 0 1 (by decide) (by decide),gC 1 0 (by decide) (by decide),jW 0 2 (by decide) (by decide),jW 1 2 (by decide) (by decide),jW 2 2 (by decide) (by decide)]
 simp only[reduceIte,Nat.reduceEqDiff,and_true,and_false,false_and,true_and]
 rw[el,Dj,el,eL,Di,Eo]
theorem At:cw (uL ly 3) 0 1 2=et:=by
 unfold cw sz
 rw[gC 1 2 (by decide) (by decide),gC 2 1 (by decide) (by decide),gC 0 2 (by decide) (by decide),gC 2 0 (by decide) (by decide),gC 0 1 (by decide) (by decide),gC 1 0 (by decide) (by decide),jW 0 2 (by decide) (by decide),jW 1 2 (by decide) (by decide),jW 2 2 (by decide) (by decide)]
 simp only[reduceIte,Nat.reduceEqDiff,and_true,and_false,false_and,true_and,Ed,Ee]
 rw[Ep,Dj,Ep,EQ,Di,Eo]
theorem Ef (i k:Nat):Mz (ly i k):=ir (oZ i k) (by unfold ly;split<;>decide)
theorem Dk:iy ly=1:=by
 unfold iy
 rw[if_pos (by decide),vI,At,Eq,if_pos (by decide)]
theorem BF:aZ (dX (vL ly 3) 0 1 2) 0=1:=by
 rw[<- sF oZ (fun i _ k _=>Ef i k) (by rw[vI,At,Eq];decide),vI]
 decide
theorem uA (w:World) (H:cB w):Calls Tryz.prog 6 #[] w fun e w'=>e=.returned (.bool true)∧Below w.heap.size w w':=by
 have CS:Hid (∀ W,cB W->Calls Tryz.prog 7 #[.agg #[.int .i64 4607182418800017408,.int .i64 0,.int .i64 0],.agg #[.int .i64 0,.int .i64 4607182418800017408,.int .i64 0],.agg #[.int .i64 0,.int .i64 0,.int .i64 4607182418800017408],.agg #[.int .i64 0,.int .i64 0,.int .i64 0]] W fun e w'=>e=.returned (.tuple #[.agg #[.int .i64 1,.int .i64 1],.int .i64 0])∧Below W.heap.size W w'):=fun W hW=>by
  have:=zt ly W oZ (by decide) hW
  rw[BF,Dk] at this
  exact this
 have CN:Hid (∀ W,Calls Tryz.prog 10 #[.int .i64 0] W fun r w'=>r=.returned (.int .i64 0)∧w'=W):=fun W=>ta _ W
 go_enter Tryz.func6,Tryz.ntmps6
 go_wp2_with fail
 refine(CS.out _ H).mono ?_
 rintro _ y1 ⟨rfl,hw⟩
 have v_k:=aC y1 (.cells #[.int .i64 1,.int .i64 1] 27)
 have k0:=af v_k 0 rfl
 have k1:=af v_k 1 rfl
 go_wp2_with (first|(go_at_call 10;refine(CN.out _).mono ?_;rintro _ _ ⟨rfl,rfl⟩))
 go_ret
 exact⟨rfl,ac hw (ah _ _)⟩
end Go.Proofs.YtcklaogdjpbagaaGreatDoor
namespace Go.Proofs.YtcklaogdjpbagaaGreatDoor
open Go Go.ChangeShapes Go.WideShapes Go.ChangeAt Go.RowKit Go.Proofs.YtcklaogdjpbagaaGreatDoor.M
theorem tb:Tryz.prog.cellsOf 43=15:=by kernel_rfl
theorem mo:Tryz.prog.cellsOf 23=3:=by kernel_rfl
theorem tI:Tryz.prog.cellsOf 3=1:=by kernel_rfl
theorem tJ {H:Type} {enc:TypeId × Value->H} {W:World} {n:Nat} {cs:List Value} {x:DataW H × List MemPlace}
  (h:DataW.trod enc Tryz.prog W 0 (fun _=>true) true n 23 cs=some x) :
  ∃ a b c:Int,cs=[.int .i64 a,.int .i64 b,.int .i64 c]∧ax a∧ax b∧ax c:=by
 obtain⟨xs,m,_,rfl,hl,hlen,hf⟩:=DataW.trod_struct Tryz.underlying23 h
 rw[mo] at hl
 match cs,hl with
 | [v0,v1,v2],_=>
  match xs,hlen with
  | [y0,y1,y2],_=>
   have f0:DataW.trod enc Tryz.prog W 0 (fun _=>true) true m 3 (([v0,v1,v2].drop 0).take (Tryz.prog.cellsOf 3))=some y0:=hf 0 _ rfl
   have f1:DataW.trod enc Tryz.prog W 0 (fun _=>true) true m 3 (([v0,v1,v2].drop 1).take (Tryz.prog.cellsOf 3))=some y1:=hf 1 _ rfl
   have f2:DataW.trod enc Tryz.prog W 0 (fun _=>true) true m 3 (([v0,v1,v2].drop 2).take (Tryz.prog.cellsOf 3))=some y2:=hf 2 _ rfl
   rw[tI] at f0 f1 f2
   simp only[List.drop_zero,List.drop_succ_cons,List.take_succ_cons,List.take_zero] at f0 f1 f2
   obtain⟨k0,e0,_,w0⟩:=DataW.trod_int Tryz.underlying3 f0
   obtain⟨k1,e1,_,w1⟩:=DataW.trod_int Tryz.underlying3 f1
   obtain⟨k2,e2,_,w2⟩:=DataW.trod_int Tryz.underlying3 f2
   simp at e0 e1 e2
   subst e0 e1 e2
   exact⟨k0,k1,k2,rfl,rt w0,rt w1,rt w2⟩
theorem oE (cs:List Value) (k:Nat):cs.drop k=(cs.drop k).take 3 ++ cs.drop (k+3):=by
 rw[<- List.drop_drop]
 exact(List.take_append_drop 3 _).symm
def tc (s:Nat->Nat->Int):Array Value:=#[.int .i64 (s 0 0),.int .i64 (s 0 1),.int .i64 (s 0 2),.int .i64 (s 1 0),.int .i64 (s 1 1),.int .i64 (s 1 2),.int .i64 (s 2 0),.int .i64 (s 2 1),.int .i64 (s 2 2),.int .i64 (s 3 0),.int .i64 (s 3 1),.int .i64 (s 3 2),.int .i64 (s 4 0),.int .i64 (s 4 1),.int .i64 (s 4 2)]
theorem mp {a b c:Int} (h:ax a∧ax b∧ax c) (k:Nat):ax (l3 a b c k):=by
 unfold l3
 split
 ·exact h.1
 ·split
  ·exact h.2.1
  ·exact h.2.2
theorem qz {W:World} {base:Nat} {v:Value} (hv:Value.okWide Tryz.prog W .any base 43 v):∃ cs,v=.agg cs∧cs.size=15:=by
 unfold Value.okWide at hv
 rw[Tryz.underlying43] at hv
 dsimp only at hv
 obtain⟨cs,h1,h2,_⟩:=hv
 exact⟨cs,h1,by rw[h2];exact tb⟩
theorem vJ {H:Type} {enc:TypeId × Value->H} {W:World} {base:Nat} {v:Value} {d:DataW H} {p:List MemPlace} (hv:Value.okWide Tryz.prog W .any base 43 v)
  (h:DataW.Trod enc Tryz.prog W 0 (fun _=>true) true 43 v d p):∃ s:Nat->Nat->Int,v=.agg (tc s)∧∀ i k,ax (s i k):=by
 obtain⟨cs,rfl,hc⟩:=qz hv
 obtain⟨fuel,hf⟩:=h
 obtain⟨xs,m,_,_,hl,hx,hf⟩:=DataW.trod_array Tryz.underlying43 hf
 rw[tb] at hl
 change cs.toList.length=15 at hl
 rw[mo] at hf
 have K:∀ i,i<5->∃ a b c:Int,(cs.toList.drop (i*3)).take 3=[.int .i64 a,.int .i64 b,.int .i64 c]∧ax a∧ax b∧ax c:=fun i hi=>
  tJ ((hf i hi).trans (List.getElem?_eq_getElem (by omega)))
 obtain⟨a0,b0,c0,e0,r0⟩:=K 0 (by decide)
 obtain⟨a1,b1,c1,e1,r1⟩:=K 1 (by decide)
 obtain⟨a2,b2,c2,e2,r2⟩:=K 2 (by decide)
 obtain⟨a3,b3,c3,e3,r3⟩:=K 3 (by decide)
 obtain⟨a4,b4,c4,e4,r4⟩:=K 4 (by decide)
 have hE:cs.toList.drop 15=[]:=List.drop_eq_nil_of_le (by omega)
 have hT:cs.toList=[.int .i64 a0,.int .i64 b0,.int .i64 c0,.int .i64 a1,.int .i64 b1,.int .i64 c1,.int .i64 a2,.int .i64 b2,.int .i64 c2,.int .i64 a3,.int .i64 b3,.int .i64 c3,.int .i64 a4,.int .i64 b4,.int .i64 c4]:=by
  have h0:=oE cs.toList 0
  have h1:=oE cs.toList 3
  have h2:=oE cs.toList 6
  have h3:=oE cs.toList 9
  have h4:=oE cs.toList 12
  simp only[Nat.reduceMul,Nat.reduceAdd] at h0 h1 h2 h3 h4 e0 e1 e2 e3 e4
  rw[hE,e4] at h4
  rw[h4,e3] at h3
  rw[h3,e2] at h2
  rw[h2,e1] at h1
  rw[h1,e0,List.drop_zero] at h0
  exact h0
 refine⟨fun i=>if i=0 then l3 a0 b0 c0 else if i=1 then l3 a1 b1 c1 else if i=2 then l3 a2 b2 c2 else if i=3 then l3 a3 b3 c3 else l3 a4 b4 c4,?_,fun i k=>?_⟩
 ·congr 1
  exact Array.toList_inj.1 hT
 ·dsimp only
  split
  ·exact mp r0 k
  ·split
   ·exact mp r1 k
   ·split
    ·exact mp r2 k
    ·split
     ·exact mp r3 k
     ·exact mp r4 k
theorem Dl (s:Nat->Nat->Int) (w:World) {g:Nat} {t:TypeId} (h:w.heap[g]?=some (.cells (tc s) t (0,0))):fy w (some ⟨g,0,none⟩) 5 5 s :=
  ⟨by omega,by omega,fun _=>⟨g,0,rfl,(Array.getElem?_eq_some_iff.1 h).1,fun i hi=>by
    match i,hi with
    | 0,_=>exact⟨af h 0 rfl,af h 1 rfl,af h 2 rfl⟩
    | 1,_=>exact⟨af h 3 rfl,af h 4 rfl,af h 5 rfl⟩
    | 2,_=>exact⟨af h 6 rfl,af h 7 rfl,af h 8 rfl⟩
    | 3,_=>exact⟨af h 9 rfl,af h 10 rfl,af h 11 rfl⟩
    | 4,_=>exact ⟨af h 12 rfl,af h 13 rfl,af h 14 rfl⟩⟩⟩
end Go.Proofs.YtcklaogdjpbagaaGreatDoor
namespace Go.Proofs.YtcklaogdjpbagaaGreatDoor
open Go Go.RowKit Go.Proofs.YtcklaogdjpbagaaGreatDoor.M
theorem uB {w:World} {x y:Value} {A B:Int} (hx:aR w x A) (hy:aR w y B) :
  Calls Tryz.prog 11 #[x,y] w fun r w'=>r=.returned (.bool (decide (A=B)))∧Below w.heap.size w w':=by
 obtain⟨g,s,m,e,rfl,dx,ao,n,ca,a,rfl,hR,hN,rfl⟩:=hx
 obtain⟨g',s',m',e',rfl,dy,bo,n',cb,b,rfl,hR',hN',rfl⟩:=hy
 have hu:A=B->g=g'∧val a n=val b n'∧e=e':=fun q=>by subst q;exact dx.unique dy
 have hm1:=hR.max
 have hl1:=hR.le
 have hm2:=hR'.max
 have hl2:=hR'.le
 have hb2:=aO w (.cells #[.bool g,.slice ao n ca,.int .i64 e] 33) (.cells #[.bool g',.slice bo n' cb,.int .i64 e'] 33)
 by_cases hg:g=g'∧e=e'∧n=n'
 ·obtain⟨rfl,rfl,rfl⟩:=hg
  have q0:=bX w (.cells #[.bool g,.slice ao n ca,.int .i64 e] 33) (.cells #[.bool g,.slice bo n cb,.int .i64 e] 33)
  have q1:=bP w (.cells #[.bool g,.slice ao n ca,.int .i64 e] 33) (.cells #[.bool g,.slice bo n cb,.int .i64 e] 33)
  have HR:=hR.keeps hb2
  have HR':=hR'.keeps hb2
  have hAB:(∀ i,i<n->a i=b i)->A=B:=fun q=>by rw[dx.val,dy.val,dH q]
  go_enter Tryz.func11,Tryz.ntmps11
  go_wp2_with fail
  have k1:=af q0 1 rfl
  have j1:=af q1 1 rfl
  clear q0 q1 hu hR hR'
  generalize (w.alloc (.cells #[.bool g,.slice ao n ca,.int .i64 e] 33)).alloc (.cells #[.bool g,.slice bo n cb,.int .i64 e] 33)=wx at hb2 k1 j1 HR HR' ⊢
  have HNa:Hid (bZ a n):=hN
  have HNb:Hid (bZ b n):=hN'
  have HAB:Hid ((∀ i,i<n->a i=b i)->A=B):=hAB
  have HBA:Hid (A=B->∀ i,i<n->a i=b i):=fun q=>tL hN.1 hN'.1 (by subst q;exact(dx.unique dy).2.1)
  clear hN hN' hAB dx dy
  go_loopw [5] (fun i wr=>∃ k:Nat,k<=n∧i=.int .i64 k∧Hid (∀ i,i<k->a i=b i)∧Below wx.heap.size wx wr) (fun i _=>n-(intOf i).toNat)
  case atStart=>exact⟨0,Nat.zero_le _,rfl,fun i hi=>by omega,ak _⟩
  case round=>
   obtain⟨k,hk,rfl,HS,hbw⟩:=hrel
   have k1':=aP k1 hbw
   have j1':=aP j1 hbw
   by_cases hlt:k<n
   ·obtain⟨ba,fa,rfl,hba,hca⟩:=HR.spot (by omega)
    obtain⟨bb,fb,rfl,hbb,hcb⟩:=HR'.spot (by omega)
    have c1:=(hbw.cell (p:=⟨ba,fa+k,none⟩) hba).trans (hca k (by omega))
    have c2:=(hbw.cell (p:=⟨bb,fb+k,none⟩) hbb).trans (hcb k (by omega))
    clear hca hcb
    by_cases h1:a k=b k
    ·have h2:(a k == b k)=true:=by simpa using h1
     rw[h1] at c1
     go_wp2_with fail
     go_quiet (fail)
     go_wp2
     go_roundw
     case rel=>exact⟨k+1,by omega,by go_num,fun i hi=>by by_cases e:i=k;(· rw[e];exact h1);(· exact HS.out i (by omega)),aN hbw _⟩
     case measure=>simp[intOf];try omega
    ·have h2:(a k == b k)=false:=by simpa using h1
     have hne:A≠B:=fun q=>h1 (HBA.out q k hlt)
     have hdd:Hid (false=decide (A=B)):=(decide_eq_false hne).symm
     clear hne
     go_wp2_with fail
     go_quiet (fail)
     go_wp2
     go_ret
     exact⟨bD hdd.out,ac hb2 (aN hbw _)⟩
   ·obtain rfl:k=n:=by omega
    have hdd:Hid (true=decide (A=B)):=(decide_eq_true (HAB.out HS.out)).symm
    go_wp2
    go_ret
    exact⟨bD hdd.out,ac hb2 hbw⟩
 ·have hne:A≠B:=fun q=>hg ⟨(hu q).1,(hu q).2.2,Au hN hN' (hu q).2.1⟩
  rw[decide_eq_false hne]
  by_cases c1:g=g'
  ·subst c1
   by_cases c2:e=e'
   ·subst c2
    have c3:n≠n':=fun q=>hg ⟨rfl,rfl,q⟩
    have c4:((n:Int) == (n':Int))=false:=by simp;omega
    clear hu
    go_enter Tryz.func11,Tryz.ntmps11
    go_wp2
    all_goals go_ret
    all_goals exact⟨rfl,hb2⟩
   ·have c4:(e == e')=false:=by simpa using c2
    clear hu
    go_enter Tryz.func11,Tryz.ntmps11
    go_wp2
    all_goals go_ret
    all_goals exact⟨rfl,hb2⟩
  ·have c4:(g == g')=false:=by simpa using c1
   clear hu
   go_enter Tryz.func11,Tryz.ntmps11
   go_wp2
   all_goals go_ret
   all_goals exact⟨rfl,hb2⟩
end Go.Proofs.YtcklaogdjpbagaaGreatDoor
namespace Go.Proofs.YtcklaogdjpbagaaGreatDoor
open Go Go.ChangeShapes Go.WideShapes Go.ChangeAt Go.RowKit Go.Proofs.YtcklaogdjpbagaaGreatDoor Go.Proofs.YtcklaogdjpbagaaGreatDoor.M
def pe (s:Nat->Nat->Int) (W:World) (v:Value):Prop:=∃ V,aR W v V∧V*(2^4194304*2^4194304)=dX (vL s 3) 0 1 2
theorem pe.keeps {s:Nat->Nat->Int} {W W':World} {v:Value} (h:pe s W v) (k:Below W.heap.size W W'):pe s W' v:=by
 obtain⟨V,a,b⟩:=h
 exact⟨V,a.keeps k,b⟩
def fk (s:Nat->Nat->Int) (W:World) (v:Value):Prop:=∃ V,aR W v V∧V*(2^4194304*(2^4194304*2^4194304*2^4194304))=sX (vL s 4)
theorem fk.keeps {s:Nat->Nat->Int} {W W':World} {v:Value} (h:fk s W v) (k:Below W.heap.size W W'):fk s W' v:=by
 obtain⟨V,a,b⟩:=h
 exact⟨V,a.keeps k,b⟩
end Go.Proofs.YtcklaogdjpbagaaGreatDoor
