/- Parts of the proof. -/
import Derived.Test.YtcklaogdjpbagaaGreatDoorSa25
import Derived.Test.YtcklaogdjpbagaaGreatDoorSa26
import Derived.Test.YtcklaogdjpbagaaGreatDoorSa12
import Derived.Test.YtcklaogdjpbagaaGreatDoorSa4
import Derived.Deep.RegionHeld3
import Derived.Deep.Slices
set_option maxRecDepth 100000
set_option maxHeartbeats 8000000
set_option linter.unusedVariables false
set_option linter.unusedSimpArgs false
namespace Go.Proofs.YtcklaogdjpbagaaGreatDoor
open Go Go.Proofs.Tryz Go.RowKit Go.Proofs.YtcklaogdjpbagaaGreatDoor.M
theorem ta {s:Nat->Nat->Int} (hr:∀ i k,ax (s i k)) (hok:br (ce s) 5=true) (hT:br (dr s) 5=false) (w:World) :
  Calls prog 17 #[.agg #[.int .i64 (s 0 0),.int .i64 (s 0 1),.int .i64 (s 0 2)],.agg #[.int .i64 (s 1 0),.int .i64 (s 1 1),.int .i64 (s 1 2)],.agg #[.int .i64 (s 2 0),.int .i64 (s 2 1),.int .i64 (s 2 2)],.agg #[.int .i64 (s 3 0),.int .i64 (s 3 1),.int .i64 (s 3 2)],.agg #[.int .i64 (s 4 0),.int .i64 (s 4 1),.int .i64 (s 4 2)]] w fun e w'=>e=.returned (.agg #[.int .i64 (aT (sX (vL s 4)) 0),.int .i64 (cK s)])∧Below w.heap.size w w':=by
 have EX:Hid (∀ W,Calls prog 16 #[.agg #[.int .i64 (s 0 0),.int .i64 (s 0 1),.int .i64 (s 0 2)],.agg #[.int .i64 (s 1 0),.int .i64 (s 1 1),.int .i64 (s 1 2)],.agg #[.int .i64 (s 2 0),.int .i64 (s 2 1),.int .i64 (s 2 2)],.agg #[.int .i64 (s 3 0),.int .i64 (s 3 1),.int .i64 (s 3 2)],.agg #[.int .i64 (s 4 0),.int .i64 (s 4 1),.int .i64 (s 4 2)]] W fun r w'=>∃ g o n c e V,r=.returned (.agg #[.bool g,.slice o n c,.int .i64 e])∧aM w' (.agg #[.bool g,.slice o n c,.int .i64 e]) V∧Hid (aT V 0=aT (sX (vL s 4)) 0)∧Below W.heap.size W w'):=fun W=>by
  refine(kN hr (eU hok) W).mono ?_
  rintro _ w' ⟨v,V,rfl,hd,hb,hv,-⟩
  obtain⟨g,o,n,c,e,rfl⟩:=hd.shape
  exact⟨g,o,n,c,e,V,rfl,hd.num,(by show _=_;rw[<- hv,iW (Int.mul_pos (aJ _) (Int.mul_pos (Int.mul_pos (aJ _) (aJ _)) (aJ _)))]),hb⟩
 have CT:Hid (∀ W g,W.heap[g]?=some (.cells #[.int .i64 (s 0 0),.int .i64 (s 0 1),.int .i64 (s 0 2),.int .i64 (s 1 0),.int .i64 (s 1 1),.int .i64 (s 1 2),.int .i64 (s 2 0),.int .i64 (s 2 1),.int .i64 (s 2 2),.int .i64 (s 3 0),.int .i64 (s 3 1),.int .i64 (s 3 2),.int .i64 (s 4 0),.int .i64 (s 4 1),.int .i64 (s 4 2)] 23 (0,0))->Calls prog 25 #[.slice (some ⟨g,0,none⟩) 5 5] W fun x w'=>x=.returned (.bool false)∧w'=W):=fun W g h=>by
  have:=kM _ 5 5 s W (fW s W h) hr
  rw[hT] at this
  exact this
 have hst:Hid (cK s=6):=by
  show _=_
  unfold cK
  rw[hT];rfl
 clear hr hok hT
 generalize aT (sX (vL s 4)) 0=sg at *
 generalize cK s=st at *
 obtain rfl:st=6:=hst.out
 generalize s 0 0=cn at *
 generalize s 0 1=s01 at *
 generalize s 0 2=s02 at *
 generalize s 1 0=co at *
 generalize s 1 1=s11 at *
 generalize s 1 2=s12 at *
 generalize s 2 0=s20 at *
 generalize s 2 1=s21 at *
 generalize s 2 2=s22 at *
 generalize s 3 0=s30 at *
 generalize s 3 1=s31 at *
 generalize s 3 2=s32 at *
 generalize s 4 0=s40 at *
 generalize s 4 1=s41 at *
 generalize s 4 2=s42 at *
 obtain⟨hb0,p0_k,p1_k,p2_k,p3_k,p4_k,o_k,hsz0⟩:=uG w (.cells #[.int .i64 cn,.int .i64 s01,.int .i64 s02] 23) (.cells #[.int .i64 co,.int .i64 s11,.int .i64 s12] 23) (.cells #[.int .i64 s20,.int .i64 s21,.int .i64 s22] 23) (.cells #[.int .i64 s30,.int .i64 s31,.int .i64 s32] 23) (.cells #[.int .i64 s40,.int .i64 s41,.int .i64 s42] 23) (.cells #[.int .i64 0,.int .i64 0] 27)
 clear hsz0
 go_enter func17,ntmps17
 have f_p00:=af p0_k 0 rfl
 have f_p01:=af p0_k 1 rfl
 have f_p02:=af p0_k 2 rfl
 have f_p10:=af p1_k 0 rfl
 have f_p11:=af p1_k 1 rfl
 have f_p12:=af p1_k 2 rfl
 have f_p20:=af p2_k 0 rfl
 have f_p21:=af p2_k 1 rfl
 have f_p22:=af p2_k 2 rfl
 have f_p30:=af p3_k 0 rfl
 have f_p31:=af p3_k 1 rfl
 have f_p32:=af p3_k 2 rfl
 have f_p40:=af p4_k 0 rfl
 have f_p41:=af p4_k 1 rfl
 have f_p42:=af p4_k 2 rfl
 go_wp2_with fail
 clear f_p00 f_p01 f_p02 f_p10 f_p11 f_p12 f_p20 f_p21 f_p22 f_p30 f_p31 f_p32 f_p40 f_p41 f_p42
 generalize ((((((w.alloc (.cells #[.int .i64 cn,.int .i64 s01,.int .i64 s02] 23)).alloc (.cells #[.int .i64 co,.int .i64 s11,.int .i64 s12] 23)).alloc (.cells #[.int .i64 s20,.int .i64 s21,.int .i64 s22] 23)).alloc (.cells #[.int .i64 s30,.int .i64 s31,.int .i64 s32] 23)).alloc (.cells #[.int .i64 s40,.int .i64 s41,.int .i64 s42] 23)).alloc (.cells #[.int .i64 0,.int .i64 0] 27))=x0 at hb0 p0_k p1_k p2_k p3_k p4_k o_k ⊢
 refine(EX.out _).mono ?_
 rintro _ y1 ⟨g,o,n,c,e,V,rfl,hD,hV,hw1⟩
 replace p0_k:=ak hw1 p0_k
 replace p1_k:=ak hw1 p1_k
 replace p2_k:=ak hw1 p2_k
 replace p3_k:=ak hw1 p3_k
 replace p4_k:=ak hw1 p4_k
 replace o_k:=ak hw1 o_k
 replace hb0:=ac hb0 hw1
 go_wp2_with fail
 refine(qg hD hV.out).mono ?_
 rintro _ y2 ⟨rfl,hw2⟩
 clear hD hV
 replace p0_k:=ak hw2 p0_k
 replace p1_k:=ak hw2 p1_k
 replace p2_k:=ak hw2 p2_k
 replace p3_k:=ak hw2 p3_k
 replace p4_k:=ak hw2 p4_k
 replace o_k:=ak hw2 o_k
 replace hb0:=ac hb0 hw2
 have f_p00:=af p0_k 0 rfl
 have f_p01:=af p0_k 1 rfl
 have f_p02:=af p0_k 2 rfl
 have f_p10:=af p1_k 0 rfl
 have f_p11:=af p1_k 1 rfl
 have f_p12:=af p1_k 2 rfl
 have f_p20:=af p2_k 0 rfl
 have f_p21:=af p2_k 1 rfl
 have f_p22:=af p2_k 2 rfl
 have f_p30:=af p3_k 0 rfl
 have f_p31:=af p3_k 1 rfl
 have f_p32:=af p3_k 2 rfl
 have f_p40:=af p4_k 0 rfl
 have f_p41:=af p4_k 1 rfl
 have f_p42:=af p4_k 2 rfl
 go_wp2_with fail
 clear f_p00 f_p01 f_p02 f_p10 f_p11 f_p12 f_p20 f_p21 f_p22 f_p30 f_p31 f_p32 f_p40 f_p41 f_p42
 refine(CT.out _ _ (aA _ _)).mono ?_
 rintro _ _ ⟨rfl,rfl⟩
 have hw3:=ah y2 (.cells #[.int .i64 cn,.int .i64 s01,.int .i64 s02,.int .i64 co,.int .i64 s11,.int .i64 s12,.int .i64 s20,.int .i64 s21,.int .i64 s22,.int .i64 s30,.int .i64 s31,.int .i64 s32,.int .i64 s40,.int .i64 s41,.int .i64 s42] 23)
 replace p0_k:=ak hw3 p0_k
 replace p1_k:=ak hw3 p1_k
 replace p2_k:=ak hw3 p2_k
 replace p3_k:=ak hw3 p3_k
 replace p4_k:=ak hw3 p4_k
 replace o_k:=ak hw3 o_k
 replace hb0:=ac hb0 hw3
 generalize y2.alloc (.cells #[.int .i64 cn,.int .i64 s01,.int .i64 s02,.int .i64 co,.int .i64 s11,.int .i64 s12,.int .i64 s20,.int .i64 s21,.int .i64 s22,.int .i64 s30,.int .i64 s31,.int .i64 s32,.int .i64 s40,.int .i64 s41,.int .i64 s42] 23)=y3 at p0_k p1_k p2_k p3_k p4_k o_k hb0 ⊢
 clear hw3
 have k0:=af o_k 0 rfl
 have k1:=af o_k 1 rfl
 have z0:=ar o_k 0
 have z1:=ar o_k 1
 go_wp2
 exact bodyPost_ret (v:=.agg #[.int .i64 sg,.int .i64 6]) (by simp[results,results17,go_sem,k0,k1]) rfl ⟨rfl,(hb0.setCell (p:=⟨w.heap.size+5,0,none⟩) (show w.heap.size<=w.heap.size+5 by omega) _).setCell (p:=⟨w.heap.size+5,1,none⟩) (show w.heap.size<=w.heap.size+5 by omega) _⟩
theorem tb {s:Nat->Nat->Int} (hr:∀ i k,ax (s i k)) (hok:br (ce s) 5=true) (hT:br (dr s) 5=true) (w:World) :
    Calls prog 17 #[.agg #[.int .i64 (s 0 0),.int .i64 (s 0 1),.int .i64 (s 0 2)],.agg #[.int .i64 (s 1 0),.int .i64 (s 1 1),.int .i64 (s 1 2)],.agg #[.int .i64 (s 2 0),.int .i64 (s 2 1),.int .i64 (s 2 2)],.agg #[.int .i64 (s 3 0),.int .i64 (s 3 1),.int .i64 (s 3 2)],.agg #[.int .i64 (s 4 0),.int .i64 (s 4 1),.int .i64 (s 4 2)]] w fun e w'=>e=.returned (.agg #[.int .i64 (aT (sX (vL s 4)) 0),.int .i64 (cK s)])∧Below w.heap.size w w':=by
  have EX:Hid (∀ W,Calls prog 16 #[.agg #[.int .i64 (s 0 0),.int .i64 (s 0 1),.int .i64 (s 0 2)],.agg #[.int .i64 (s 1 0),.int .i64 (s 1 1),.int .i64 (s 1 2)],.agg #[.int .i64 (s 2 0),.int .i64 (s 2 1),.int .i64 (s 2 2)],.agg #[.int .i64 (s 3 0),.int .i64 (s 3 1),.int .i64 (s 3 2)],.agg #[.int .i64 (s 4 0),.int .i64 (s 4 1),.int .i64 (s 4 2)]] W fun r w'=>∃ g o n c e V,r=.returned (.agg #[.bool g,.slice o n c,.int .i64 e])∧aM w' (.agg #[.bool g,.slice o n c,.int .i64 e]) V∧Hid (aT V 0=aT (sX (vL s 4)) 0)∧Below W.heap.size W w'):=fun W=>by
    refine(kN hr (eU hok) W).mono ?_
    rintro _ w' ⟨v,V,rfl,hd,hb,hv,-⟩
    obtain⟨g,o,n,c,e,rfl⟩:=hd.shape
    exact⟨g,o,n,c,e,V,rfl,hd.num,(by show _=_;rw[<- hv,iW (Int.mul_pos (aJ _) (Int.mul_pos (Int.mul_pos (aJ _) (aJ _)) (aJ _)))]),hb⟩
  have CT:Hid (∀ W g,W.heap[g]?=some (.cells #[.int .i64 (s 0 0),.int .i64 (s 0 1),.int .i64 (s 0 2),.int .i64 (s 1 0),.int .i64 (s 1 1),.int .i64 (s 1 2),.int .i64 (s 2 0),.int .i64 (s 2 1),.int .i64 (s 2 2),.int .i64 (s 3 0),.int .i64 (s 3 1),.int .i64 (s 3 2),.int .i64 (s 4 0),.int .i64 (s 4 1),.int .i64 (s 4 2)] 23 (0,0))->Calls prog 25 #[.slice (some ⟨g,0,none⟩) 5 5] W fun x w'=>x=.returned (.bool true)∧w'=W):=fun W g h=>by
    have:=kM _ 5 5 s W (fW s W h) hr
    rw[hT] at this
    exact this
  have hz:∀ i,i<=4->∀ k,k<3->Mz (s i k):=fun i hi k hk=>gA (hr i k) (ic hT i hi k hk)
  have hru:∀ i k,ax (uL s 4 i k):=fun i k=>by
    unfold uL
    split
    · exact bk (hr _ _) (dD (hr _ _))
    · exact sq
  have R0:Hid (∀ W,Calls prog 27 #[.agg #[.int .i64 (s 0 0),.int .i64 (s 0 1),.int .i64 (s 0 2)],.agg #[.int .i64 (s 4 0),.int .i64 (s 4 1),.int .i64 (s 4 2)]] W fun e w'=>e=.returned (.agg #[.int .i64 (uL s 4 0 0),.int .i64 (uL s 4 0 1),.int .i64 (uL s 4 0 2)])∧Below W.heap.size W w'):=fun W=>fk 0 4 hr W
  have R1:Hid (∀ W,Calls prog 27 #[.agg #[.int .i64 (s 1 0),.int .i64 (s 1 1),.int .i64 (s 1 2)],.agg #[.int .i64 (s 4 0),.int .i64 (s 4 1),.int .i64 (s 4 2)]] W fun e w'=>e=.returned (.agg #[.int .i64 (uL s 4 1 0),.int .i64 (uL s 4 1 1),.int .i64 (uL s 4 1 2)])∧Below W.heap.size W w'):=fun W=>fk 1 4 hr W
  have R2:Hid (∀ W,Calls prog 27 #[.agg #[.int .i64 (s 2 0),.int .i64 (s 2 1),.int .i64 (s 2 2)],.agg #[.int .i64 (s 4 0),.int .i64 (s 4 1),.int .i64 (s 4 2)]] W fun e w'=>e=.returned (.agg #[.int .i64 (uL s 4 2 0),.int .i64 (uL s 4 2 1),.int .i64 (uL s 4 2 2)])∧Below W.heap.size W w'):=fun W=>fk 2 4 hr W
  have R3:Hid (∀ W,Calls prog 27 #[.agg #[.int .i64 (s 3 0),.int .i64 (s 3 1),.int .i64 (s 3 2)],.agg #[.int .i64 (s 4 0),.int .i64 (s 4 1),.int .i64 (s 4 2)]] W fun e w'=>e=.returned (.agg #[.int .i64 (uL s 4 3 0),.int .i64 (uL s 4 3 1),.int .i64 (uL s 4 3 2)])∧Below W.heap.size W w'):=fun W=>fk 3 4 hr W
  have CF:Hid (∀ W,Calls prog 35 #[.agg #[.int .i64 (uL s 4 0 0),.int .i64 (uL s 4 0 1),.int .i64 (uL s 4 0 2)],.agg #[.int .i64 (uL s 4 1 0),.int .i64 (uL s 4 1 1),.int .i64 (uL s 4 1 2)],.agg #[.int .i64 (uL s 4 2 0),.int .i64 (uL s 4 2 1),.int .i64 (uL s 4 2 2)],.agg #[.int .i64 (uL s 4 3 0),.int .i64 (uL s 4 3 1),.int .i64 (uL s 4 3 2)]] W fun e w'=>e=.returned (.tuple #[.int .i64 (nU (uL s 4)),.int .i64 (nV (uL s 4))])∧Below W.heap.size W w'):=fun W=>uW hru W
  have CK:Hid (∀ W,Calls prog 29 #[.int .i64 4503599627370503,.int .i64 (-101)] W fun e w'=>e=.returned (.int .i64 sB)∧Below W.heap.size W w'):=fun W=>xk W
  have hsm:=sR (fun p _=>bQ hz p)
  have hvv:=zC (fun p _=>bQ hz p)
  have hfx:=lG hz
  have rss:ax (nV (uL s 4)):=(zD (fun p _=>bQ hz p)).r
  have hsg:Hid (bl (av sB (fS (uL s 4)))<rg (fD (uL s 4))->eK (fD (uL s 4))=aT (sX (vL s 4)) 0):=fun h=>nT hr hz h
  have CD:Hid (∀ W,Calls prog 28 #[.int .i64 (nU (uL s 4)),.int .i64 (nV (uL s 4)),.int .i64 sB] W fun e w'=>e=.returned (.tuple #[.agg #[.int .i64 (eK (fD (uL s 4))),.int .i64 1],.bool (decide (bl (av sB (fS (uL s 4)))<rg (fD (uL s 4))))])∧Below W.heap.size W w'):=fun W=>by
    have:=oc hvv.r rss eI W
    rw[hsm.1,hsm.2.1,hsm.2.2] at this
    exact this
  have hst:Hid (cK s=if bl (av sB (fS (uL s 4)))<rg (fD (uL s 4)) then 1 else 4):=by
    show _=_
    unfold cK
    rw[hT];rfl
  clear hr hok hT hz hru hsm hvv hfx rss
  generalize aT (sX (vL s 4)) 0=sg at *
  generalize cK s=st at *
  generalize eK (fD (uL s 4))=sd at *
  generalize hcc:(decide (bl (av sB (fS (uL s 4)))<rg (fD (uL s 4))))=cc at *
  have hst2:Hid (st=if cc then 1 else 4):=by
    show st=_
    rw[hst.out,<- hcc]
    by_cases c:bl (av sB (fS (uL s 4)))<rg (fD (uL s 4))
    · rw[if_pos c,decide_eq_true c];rfl
    · rw[if_neg c,decide_eq_false c];rfl
  have hsg2:Hid (cc=true->sd=sg):=fun h=>hsg.out (of_decide_eq_true (hcc.trans h))
  clear hst hsg hcc
  generalize nU (uL s 4)=DD at *
  generalize nV (uL s 4)=SS at *
  generalize sB=KA at *
  generalize uL s 4 0 0=u00 at *
  generalize uL s 4 0 1=u01 at *
  generalize uL s 4 0 2=u02 at *
  generalize uL s 4 1 0=u10 at *
  generalize uL s 4 1 1=u11 at *
  generalize uL s 4 1 2=u12 at *
  generalize uL s 4 2 0=u20 at *
  generalize uL s 4 2 1=u21 at *
  generalize uL s 4 2 2=u22 at *
  generalize uL s 4 3 0=u30 at *
  generalize uL s 4 3 1=u31 at *
  generalize uL s 4 3 2=u32 at *
  generalize s 0 0=cn at *
  generalize s 0 1=s01 at *
  generalize s 0 2=s02 at *
  generalize s 1 0=co at *
  generalize s 1 1=s11 at *
  generalize s 1 2=s12 at *
  generalize s 2 0=s20 at *
  generalize s 2 1=s21 at *
  generalize s 2 2=s22 at *
  generalize s 3 0=s30 at *
  generalize s 3 1=s31 at *
  generalize s 3 2=s32 at *
  generalize s 4 0=s40 at *
  generalize s 4 1=s41 at *
  generalize s 4 2=s42 at *
  obtain⟨hb0,p0_k,p1_k,p2_k,p3_k,p4_k,o_k,hsz0⟩:=uG w (.cells #[.int .i64 cn,.int .i64 s01,.int .i64 s02] 23) (.cells #[.int .i64 co,.int .i64 s11,.int .i64 s12] 23) (.cells #[.int .i64 s20,.int .i64 s21,.int .i64 s22] 23) (.cells #[.int .i64 s30,.int .i64 s31,.int .i64 s32] 23) (.cells #[.int .i64 s40,.int .i64 s41,.int .i64 s42] 23) (.cells #[.int .i64 0,.int .i64 0] 27)
  clear hsz0
  go_enter func17,ntmps17
  have f_p00:=af p0_k 0 rfl
  have f_p01:=af p0_k 1 rfl
  have f_p02:=af p0_k 2 rfl
  have f_p10:=af p1_k 0 rfl
  have f_p11:=af p1_k 1 rfl
  have f_p12:=af p1_k 2 rfl
  have f_p20:=af p2_k 0 rfl
  have f_p21:=af p2_k 1 rfl
  have f_p22:=af p2_k 2 rfl
  have f_p30:=af p3_k 0 rfl
  have f_p31:=af p3_k 1 rfl
  have f_p32:=af p3_k 2 rfl
  have f_p40:=af p4_k 0 rfl
  have f_p41:=af p4_k 1 rfl
  have f_p42:=af p4_k 2 rfl
  go_wp2_with fail
  clear f_p00 f_p01 f_p02 f_p10 f_p11 f_p12 f_p20 f_p21 f_p22 f_p30 f_p31 f_p32 f_p40 f_p41 f_p42
  generalize ((((((w.alloc (.cells #[.int .i64 cn,.int .i64 s01,.int .i64 s02] 23)).alloc (.cells #[.int .i64 co,.int .i64 s11,.int .i64 s12] 23)).alloc (.cells #[.int .i64 s20,.int .i64 s21,.int .i64 s22] 23)).alloc (.cells #[.int .i64 s30,.int .i64 s31,.int .i64 s32] 23)).alloc (.cells #[.int .i64 s40,.int .i64 s41,.int .i64 s42] 23)).alloc (.cells #[.int .i64 0,.int .i64 0] 27))=x0 at hb0 p0_k p1_k p2_k p3_k p4_k o_k ⊢
  refine(EX.out _).mono ?_
  rintro _ y1 ⟨g,o,n,c,e,V,rfl,hD,hV,hw1⟩
  replace p0_k:=ak hw1 p0_k
  replace p1_k:=ak hw1 p1_k
  replace p2_k:=ak hw1 p2_k
  replace p3_k:=ak hw1 p3_k
  replace p4_k:=ak hw1 p4_k
  replace o_k:=ak hw1 o_k
  replace hb0:=ac hb0 hw1
  go_wp2_with fail
  refine(qg hD hV.out).mono ?_
  rintro _ y2 ⟨rfl,hw2⟩
  clear hD hV
  replace p0_k:=ak hw2 p0_k
  replace p1_k:=ak hw2 p1_k
  replace p2_k:=ak hw2 p2_k
  replace p3_k:=ak hw2 p3_k
  replace p4_k:=ak hw2 p4_k
  replace o_k:=ak hw2 o_k
  replace hb0:=ac hb0 hw2
  have f_p00:=af p0_k 0 rfl
  have f_p01:=af p0_k 1 rfl
  have f_p02:=af p0_k 2 rfl
  have f_p10:=af p1_k 0 rfl
  have f_p11:=af p1_k 1 rfl
  have f_p12:=af p1_k 2 rfl
  have f_p20:=af p2_k 0 rfl
  have f_p21:=af p2_k 1 rfl
  have f_p22:=af p2_k 2 rfl
  have f_p30:=af p3_k 0 rfl
  have f_p31:=af p3_k 1 rfl
  have f_p32:=af p3_k 2 rfl
  have f_p40:=af p4_k 0 rfl
  have f_p41:=af p4_k 1 rfl
  have f_p42:=af p4_k 2 rfl
  go_wp2_with fail
  clear f_p00 f_p01 f_p02 f_p10 f_p11 f_p12 f_p20 f_p21 f_p22 f_p30 f_p31 f_p32 f_p40 f_p41 f_p42
  refine(CT.out _ _ (aA _ _)).mono ?_
  rintro _ _ ⟨rfl,rfl⟩
  have hw3:=ah y2 (.cells #[.int .i64 cn,.int .i64 s01,.int .i64 s02,.int .i64 co,.int .i64 s11,.int .i64 s12,.int .i64 s20,.int .i64 s21,.int .i64 s22,.int .i64 s30,.int .i64 s31,.int .i64 s32,.int .i64 s40,.int .i64 s41,.int .i64 s42] 23)
  replace p0_k:=ak hw3 p0_k
  replace p1_k:=ak hw3 p1_k
  replace p2_k:=ak hw3 p2_k
  replace p3_k:=ak hw3 p3_k
  replace p4_k:=ak hw3 p4_k
  replace o_k:=ak hw3 o_k
  replace hb0:=ac hb0 hw3
  generalize y2.alloc (.cells #[.int .i64 cn,.int .i64 s01,.int .i64 s02,.int .i64 co,.int .i64 s11,.int .i64 s12,.int .i64 s20,.int .i64 s21,.int .i64 s22,.int .i64 s30,.int .i64 s31,.int .i64 s32,.int .i64 s40,.int .i64 s41,.int .i64 s42] 23)=y3 at p0_k p1_k p2_k p3_k p4_k o_k hb0 ⊢
  clear hw3
  go_wp2_with fail
  have KK4:∀ W,Below y3.heap.size y3 W->W.cell? ⟨w.heap.size,0,none⟩=some (.int .i64 cn)∧W.cell? ⟨w.heap.size,1,none⟩=some (.int .i64 s01)∧W.cell? ⟨w.heap.size,2,none⟩=some (.int .i64 s02)∧W.cell? ⟨w.heap.size+1,0,none⟩=some (.int .i64 co)∧W.cell? ⟨w.heap.size+1,1,none⟩=some (.int .i64 s11)∧W.cell? ⟨w.heap.size+1,2,none⟩=some (.int .i64 s12)∧W.cell? ⟨w.heap.size+2,0,none⟩=some (.int .i64 s20)∧W.cell? ⟨w.heap.size+2,1,none⟩=some (.int .i64 s21)∧W.cell? ⟨w.heap.size+2,2,none⟩=some (.int .i64 s22)∧W.cell? ⟨w.heap.size+3,0,none⟩=some (.int .i64 s30)∧W.cell? ⟨w.heap.size+3,1,none⟩=some (.int .i64 s31)∧W.cell? ⟨w.heap.size+3,2,none⟩=some (.int .i64 s32)∧W.cell? ⟨w.heap.size+4,0,none⟩=some (.int .i64 s40)∧W.cell? ⟨w.heap.size+4,1,none⟩=some (.int .i64 s41)∧W.cell? ⟨w.heap.size+4,2,none⟩=some (.int .i64 s42):=fun W hb=>⟨aj (af p0_k 0 rfl) hb,aj (af p0_k 1 rfl) hb,aj (af p0_k 2 rfl) hb,aj (af p1_k 0 rfl) hb,aj (af p1_k 1 rfl) hb,aj (af p1_k 2 rfl) hb,aj (af p2_k 0 rfl) hb,aj (af p2_k 1 rfl) hb,aj (af p2_k 2 rfl) hb,aj (af p3_k 0 rfl) hb,aj (af p3_k 1 rfl) hb,aj (af p3_k 2 rfl) hb,aj (af p4_k 0 rfl) hb,aj (af p4_k 1 rfl) hb,aj (af p4_k 2 rfl) hb⟩
  have hC4_0:=(al y3).drew
  have hs4_0:=(al y3).drew
  go_region_held3 (fun W=>W.cell? ⟨w.heap.size,0,none⟩=some (.int .i64 cn)∧W.cell? ⟨w.heap.size,1,none⟩=some (.int .i64 s01)∧W.cell? ⟨w.heap.size,2,none⟩=some (.int .i64 s02)∧W.cell? ⟨w.heap.size+1,0,none⟩=some (.int .i64 co)∧W.cell? ⟨w.heap.size+1,1,none⟩=some (.int .i64 s11)∧W.cell? ⟨w.heap.size+1,2,none⟩=some (.int .i64 s12)∧W.cell? ⟨w.heap.size+2,0,none⟩=some (.int .i64 s20)∧W.cell? ⟨w.heap.size+2,1,none⟩=some (.int .i64 s21)∧W.cell? ⟨w.heap.size+2,2,none⟩=some (.int .i64 s22)∧W.cell? ⟨w.heap.size+3,0,none⟩=some (.int .i64 s30)∧W.cell? ⟨w.heap.size+3,1,none⟩=some (.int .i64 s31)∧W.cell? ⟨w.heap.size+3,2,none⟩=some (.int .i64 s32)∧W.cell? ⟨w.heap.size+4,0,none⟩=some (.int .i64 s40)∧W.cell? ⟨w.heap.size+4,1,none⟩=some (.int .i64 s41)∧W.cell? ⟨w.heap.size+4,2,none⟩=some (.int .i64 s42))
    (with_reducible first|assumption|exact KK4 _ hC4_0|exact KK4 _ hC4_1|exact KK4 _ hC4_2|exact KK4 _ hC4_3|exact KK4 _ hC4_4|exact KK4 _ hC4_5|fail)
    (first
      | (go_at_call 35;have _t:=hs4_4;refine(CF.out _).mono ?_;rintro _ y4_5 ⟨rfl,hs4_5⟩;have hC4_5:=ac hC4_4 hs4_5)
      | (go_at_call 27;have _t:=hs4_3;refine(R3.out _).mono ?_;rintro _ y4_4 ⟨rfl,hs4_4⟩;have hC4_4:=ac hC4_3 hs4_4)
      | (go_at_call 27;have _t:=hs4_2;refine(R2.out _).mono ?_;rintro _ y4_3 ⟨rfl,hs4_3⟩;have hC4_3:=ac hC4_2 hs4_3)
      | (go_at_call 27;have _t:=hs4_1;refine(R1.out _).mono ?_;rintro _ y4_2 ⟨rfl,hs4_2⟩;have hC4_2:=ac hC4_1 hs4_2)
      | (go_at_call 27; refine (R0.out _).mono ?_; rintro _ y4_1 ⟨rfl,hs4_1⟩; have hC4_1:=ac hC4_0 hs4_1))
  replace p0_k:=ak hC4_5 p0_k
  replace p1_k:=ak hC4_5 p1_k
  replace p2_k:=ak hC4_5 p2_k
  replace p3_k:=ak hC4_5 p3_k
  replace p4_k:=ak hC4_5 p4_k
  replace o_k:=ak hC4_5 o_k
  replace hb0:=ac hb0 hC4_5
  go_wp2_with fail
  refine(CK.out _).mono ?_
  rintro _ y5 ⟨rfl,hw5⟩
  replace p0_k:=ak hw5 p0_k
  replace p1_k:=ak hw5 p1_k
  replace p2_k:=ak hw5 p2_k
  replace p3_k:=ak hw5 p3_k
  replace p4_k:=ak hw5 p4_k
  replace o_k:=ak hw5 o_k
  replace hb0:=ac hb0 hw5
  go_wp2_with fail
  refine(CD.out _).mono ?_
  rintro _ y6 ⟨rfl,hw6⟩
  replace p0_k:=ak hw6 p0_k
  replace p1_k:=ak hw6 p1_k
  replace p2_k:=ak hw6 p2_k
  replace p3_k:=ak hw6 p3_k
  replace p4_k:=ak hw6 p4_k
  replace o_k:=ak hw6 o_k
  replace hb0:=ac hb0 hw6
  have v_k:=aA y6 (.cells #[.int .i64 sd,.int .i64 1] 27)
  replace o_k:=ap (.cells #[.int .i64 sd,.int .i64 1] 27) o_k
  replace hb0:=ac hb0 (ah y6 (.cells #[.int .i64 sd,.int .i64 1] 27))
  have j0:=af v_k 0 rfl
  have j1:=af v_k 1 rfl
  have k0:=af o_k 0 rfl
  have k1:=af o_k 1 rfl
  have z0:=ar o_k 0
  have z1:=ar o_k 1
  cases cc
  · obtain rfl:st=4:=hst2.out
    go_wp2
    exact bodyPost_ret (v:=.agg #[.int .i64 sg,.int .i64 4]) (by simp[results,results17,go_sem,k0,k1]) rfl ⟨rfl,(hb0.setCell (p:=⟨w.heap.size+5,0,none⟩) (show w.heap.size<=w.heap.size+5 by omega) _).setCell (p:=⟨w.heap.size+5,1,none⟩) (show w.heap.size<=w.heap.size+5 by omega) _⟩
  · obtain rfl:st=1:=hst2.out
    obtain rfl:sd=sg:=hsg2.out rfl
    go_wp2
    exact bodyPost_ret (v:=.agg #[.int .i64 sd,.int .i64 1]) (by simp[results,results17,go_sem,k0,k1]) rfl ⟨rfl,(hb0.setCell (p:=⟨w.heap.size+5,0,none⟩) (show w.heap.size<=w.heap.size+5 by omega) _).setCell (p:=⟨w.heap.size+5,1,none⟩) (show w.heap.size<=w.heap.size+5 by omega) _⟩
theorem xq {a b:Int} (ha:ax a) (hb:ax b) (h:wd a=wd b):a=b:=by
 unfold wd at h
 unfold ax at ha hb
 omega
theorem kc {a b:Nat} {p q r:Int} (hx:Fx a b p) (hy:Fx a b q) (hb:b+1<=2097) (rr:ax r) (h:Ieee.double.add (wd p) (wd q)=some (wd r)):aE p q=r:=by
 obtain⟨s,-⟩:=hx.sum hy hb
 rcases qR (FW.pat (cv hx.p) hx.r) (FW.pat (cv hy.p) hy.r) with⟨z,e1,e2⟩|⟨e1,_⟩
 ·rw[h] at e1
  cases e1
  obtain⟨_,e3,_⟩:=e2.of (cv s.p)
  exact(xq rr s.r e3).symm
 ·rw[h] at e1
  cases e1
theorem jt {p q r:Int} (rp:ax p) (pp:aF p=true) (rq:ax q) (pq:aF q=true) (rr:ax r) (h:Ieee.double.mul (wd p) (wd q)=some (wd r)):av p q=r:=by
 have c:=jn pp rp pq rq
 rcases wn (FW.pat (cv pp) rp) (FW.pat (cv pq) rq) with⟨z,e1,e2⟩|⟨e1,_⟩
 ·rw[h] at e1
  cases e1
  obtain⟨_,e3,_⟩:=e2.of c
  exact(xq rr (aH rp rq) e3).symm
 ·rw[h] at e1
  cases e1
def el:Int:=4607182418800017408
theorem eV:ax el:=by unfold ax el;omega
theorem fy:ax 0:=by unfold ax;omega
theorem sr:Fx 872 1226 el:=(gA eV (by decide)).fx.up (by decide)
theorem ju:Fx 872 1226 0:=fv
theorem co:aE el (neg 0)=el:=kc sr ju.neg.1 (by decide) eV (by decide +kernel)
theorem cn:aE 0 (neg 0)=0:=kc ju ju.neg.1 (by decide) fy (by decide +kernel)
theorem DT:aE el 0=el:=kc sr ju (by decide) eV (by decide +kernel)
theorem Dn:aE 0 el=el:=kc ju sr (by decide) eV (by decide +kernel)
theorem Do:aE 0 0=0:=kc ju ju (by decide) fy (by decide +kernel)
theorem BT:av el el=el:=jt eV (by decide) eV (by decide) eV (by decide +kernel)
theorem DU:av el 0=0:=jt eV (by decide) fy (by decide) fy (by decide +kernel)
theorem DV:av 0 el=0:=jt fy (by decide) eV (by decide) fy (by decide +kernel)
theorem BU:av 0 0=0:=jt fy (by decide) fy (by decide) fy (by decide +kernel)
theorem Dp:av sA el=sA:=jt fo (by decide) eV (by decide) fo (by decide +kernel)
theorem Di:rg el=el:=by decide
theorem Dj:rg 0=0:=by decide
theorem lJ (e:Int) (W:World):Calls prog 10 #[.int .i64 e] W fun r w'=>r=.returned (.int .i64 e)∧w'=W:=by
 go_enter func10,ntmps10
 go_wp2
 go_ret
 exact⟨rfl,rfl⟩
def kS (p k:Nat):Int:=if p=k then el else 0
theorem oF (p k:Nat):ax (kS p k):=by unfold kS;split;exact eV;exact fy
theorem jH (p k:Nat) (hp:p<3) (hk:k<3):uL kS 3 p k=if p=k then el else 0:=by
 unfold uL kS
 rw[if_pos hp,if_neg (show ¬ (3=k) by omega)]
 by_cases e:p=k
 ·rw[if_pos e,co]
 ·rw[if_neg e,cn]
theorem gf (p q:Nat) (hp:p<3) (hq:q<3):pL (uL kS 3) p q=if p=0∧q=1 then el else 0:=by
 unfold pL
 rw[jH p 0 hp (by decide),jH q 1 hq (by decide)]
 by_cases a:p=0<;>by_cases b:q=1
 ·rw[if_pos a,if_pos b,if_pos ⟨a,b⟩,BT]
 ·rw[if_pos a,if_neg b,if_neg (fun c=>b c.2),DU]
 ·rw[if_neg a,if_pos b,if_neg (fun c=>a c.1),DV]
 ·rw[if_neg a,if_neg b,if_neg (fun c=>a c.1),BU]
theorem uY:dt (uL kS 3) 0 1 2=el:=by
 unfold dt mn
 rw[gf 1 2 (by decide) (by decide),gf 2 1 (by decide) (by decide),gf 0 2 (by decide) (by decide),gf 2 0 (by decide) (by decide),gf 0 1 (by decide) (by decide),gf 1 0 (by decide) (by decide),jH 0 2 (by decide) (by decide),jH 1 2 (by decide) (by decide),jH 2 2 (by decide) (by decide)]
 simp only[reduceIte,Nat.reduceEqDiff,and_true,and_false,false_and,true_and]
 rw[cn,BU,cn,co,BT,Dn]
theorem zI:bW (uL kS 3) 0 1 2=el:=by
 unfold bW sz
 rw[gf 1 2 (by decide) (by decide),gf 2 1 (by decide) (by decide),gf 0 2 (by decide) (by decide),gf 2 0 (by decide) (by decide),gf 0 1 (by decide) (by decide),gf 1 0 (by decide) (by decide),jH 0 2 (by decide) (by decide),jH 1 2 (by decide) (by decide),jH 2 2 (by decide) (by decide)]
 simp only[reduceIte,Nat.reduceEqDiff,and_true,and_false,false_and,true_and,Di,Dj]
 rw[Do,BU,Do,DT,BT,Dn]
theorem Dk (i k:Nat):Mz (kS i k):=gA (oF i k) (by unfold kS;split<;>decide)
theorem BV:di kS=1:=by
 unfold di
 rw[if_pos (by decide),uY,zI,Dp,if_pos (by decide)]
theorem AT:aT (dX (vL kS 3) 0 1 2) 0=1:=by
 rw[<- mN oF (fun i _ k _=>Dk i k) (by rw[uY,zI,Dp];decide),uY]
 decide
theorem kd (w:World) (H:bR w):Calls prog 6 #[] w fun e w'=>e=.returned (.bool true)∧Below w.heap.size w w':=by
 have CS:Hid (∀ W,bR W->Calls prog 7 #[.agg #[.int .i64 4607182418800017408,.int .i64 0,.int .i64 0],.agg #[.int .i64 0,.int .i64 4607182418800017408,.int .i64 0],.agg #[.int .i64 0,.int .i64 0,.int .i64 4607182418800017408],.agg #[.int .i64 0,.int .i64 0,.int .i64 0]] W fun e w'=>e=.returned (.tuple #[.agg #[.int .i64 1,.int .i64 1],.int .i64 0])∧Below W.heap.size W w'):=fun W hW=>by
  have:=rV kS W oF (by decide) hW
  rw[AT,BV] at this
  exact this
 have CN:Hid (∀ W,Calls prog 10 #[.int .i64 0] W fun r w'=>r=.returned (.int .i64 0)∧w'=W):=fun W=>lJ _ W
 go_enter func6,ntmps6
 go_wp2_with fail
 refine(CS.out _ H).mono ?_
 rintro _ y1 ⟨rfl,hw⟩
 have v_k:=aA y1 (.cells #[.int .i64 1,.int .i64 1] 27)
 have k0:=af v_k 0 rfl
 have k1:=af v_k 1 rfl
 go_wp2_with (first|(go_at_call 10;refine(CN.out _).mono ?_;rintro _ _ ⟨rfl,rfl⟩))
 go_ret
 exact⟨rfl,ac hw (ah _ _)⟩
end Go.Proofs.YtcklaogdjpbagaaGreatDoor
namespace Go.Proofs.YtcklaogdjpbagaaGreatDoor
open Go Go.Proofs.Tryz Go.ChangeShapes Go.WideShapes Go.ChangeAt Go.RowKit Go.Proofs.YtcklaogdjpbagaaGreatDoor.M
theorem sv:prog.cellsOf 43=15:=by kernel_rfl
theorem lK:prog.cellsOf 23=3:=by kernel_rfl
theorem tc:prog.cellsOf 3=1:=by kernel_rfl
theorem td {H:Type} {enc:TypeId × Value->H} {W:World} {n:Nat} {cs:List Value} {x:DataW H × List MemPlace}
  (h:DataW.trod enc prog W 0 (fun _=>true) true n 23 cs=some x) :
  ∃ a b c:Int,cs=[.int .i64 a,.int .i64 b,.int .i64 c]∧ax a∧ax b∧ax c:=by
 obtain⟨xs,m,_,rfl,hl,hlen,hf⟩:=DataW.trod_struct underlying23 h
 rw[lK] at hl
 match cs,hl with
 | [v0,v1,v2],_=>
  match xs,hlen with
  | [y0,y1,y2],_=>
   have f0:DataW.trod enc prog W 0 (fun _=>true) true m 3 (([v0,v1,v2].drop 0).take (prog.cellsOf 3))=some y0:=hf 0 _ rfl
   have f1:DataW.trod enc prog W 0 (fun _=>true) true m 3 (([v0,v1,v2].drop 1).take (prog.cellsOf 3))=some y1:=hf 1 _ rfl
   have f2:DataW.trod enc prog W 0 (fun _=>true) true m 3 (([v0,v1,v2].drop 2).take (prog.cellsOf 3))=some y2:=hf 2 _ rfl
   rw[tc] at f0 f1 f2
   simp only[List.drop_zero,List.drop_succ_cons,List.take_succ_cons,List.take_zero] at f0 f1 f2
   obtain⟨k0,e0,_,w0⟩:=DataW.trod_int underlying3 f0
   obtain⟨k1,e1,_,w1⟩:=DataW.trod_int underlying3 f1
   obtain⟨k2,e2,_,w2⟩:=DataW.trod_int underlying3 f2
   simp at e0 e1 e2
   subst e0 e1 e2
   exact⟨k0,k1,k2,rfl,qL w0,qL w1,qL w2⟩
theorem od (cs:List Value) (k:Nat):cs.drop k=(cs.drop k).take 3 ++ cs.drop (k+3):=by
 rw[<- List.drop_drop]
 exact(List.take_append_drop 3 _).symm
def BW (s:Nat->Nat->Int):Array Value:=#[.int .i64 (s 0 0),.int .i64 (s 0 1),.int .i64 (s 0 2),.int .i64 (s 1 0),.int .i64 (s 1 1),.int .i64 (s 1 2),.int .i64 (s 2 0),.int .i64 (s 2 1),.int .i64 (s 2 2),.int .i64 (s 3 0),.int .i64 (s 3 1),.int .i64 (s 3 2),.int .i64 (s 4 0),.int .i64 (s 4 1),.int .i64 (s 4 2)]
theorem lL {a b c:Int} (h:ax a∧ax b∧ax c) (k:Nat):ax (l3 a b c k):=by
 unfold l3
 split
 ·exact h.1
 ·split
  ·exact h.2.1
  ·exact h.2.2
theorem BX (s:Nat->Nat->Int) (w:World) {g:Nat} {t:TypeId} (h:w.heap[g]?=some (.cells (BW s) t (0,0))):eJ w (some ⟨g,0,none⟩) 5 5 s :=
  ⟨by omega,by omega,fun _=>⟨g,0,rfl,(Array.getElem?_eq_some_iff.1 h).1,fun i hi=>by
    match i,hi with
    | 0,_=>exact⟨af h 0 rfl,af h 1 rfl,af h 2 rfl⟩
    | 1,_=>exact⟨af h 3 rfl,af h 4 rfl,af h 5 rfl⟩
    | 2,_=>exact⟨af h 6 rfl,af h 7 rfl,af h 8 rfl⟩
    | 3,_=>exact⟨af h 9 rfl,af h 10 rfl,af h 11 rfl⟩
    | 4,_=>exact ⟨af h 12 rfl,af h 13 rfl,af h 14 rfl⟩⟩⟩
end Go.Proofs.YtcklaogdjpbagaaGreatDoor
namespace Go.Proofs.YtcklaogdjpbagaaGreatDoor
open Go Go.Proofs.Tryz Go.RowKit Go.Proofs.YtcklaogdjpbagaaGreatDoor.M
theorem me {w:World} {x y:Value} {A B:Int} (hx:aM w x A) (hy:aM w y B) :
  Calls prog 11 #[x,y] w fun r w'=>r=.returned (.bool (decide (A=B)))∧Below w.heap.size w w':=by
 obtain⟨g,s,m,e,rfl,dx,ao,n,ca,a,rfl,hR,hN,rfl⟩:=hx
 obtain⟨g',s',m',e',rfl,dy,bo,n',cb,b,rfl,hR',hN',rfl⟩:=hy
 have hu:A=B->g=g'∧val a n=val b n'∧e=e':=fun q=>by subst q;exact dx.unique dy
 have hm1:=hR.max
 have hl1:=hR.le
 have hm2:=hR'.max
 have hl2:=hR'.le
 have hb2:=aL w (.cells #[.bool g,.slice ao n ca,.int .i64 e] 33) (.cells #[.bool g',.slice bo n' cb,.int .i64 e'] 33)
 by_cases hg:g=g'∧e=e'∧n=n'
 ·obtain⟨rfl,rfl,rfl⟩:=hg
  have q0:=bO w (.cells #[.bool g,.slice ao n ca,.int .i64 e] 33) (.cells #[.bool g,.slice bo n cb,.int .i64 e] 33)
  have q1:=bH w (.cells #[.bool g,.slice ao n ca,.int .i64 e] 33) (.cells #[.bool g,.slice bo n cb,.int .i64 e] 33)
  have HR:=hR.keeps hb2
  have HR':=hR'.keeps hb2
  have hAB:(∀ i,i<n->a i=b i)->A=B:=fun q=>by rw[dx.val,dy.val,dY q]
  go_enter func11,ntmps11
  go_wp2_with fail
  have k1:=af q0 1 rfl
  have j1:=af q1 1 rfl
  clear q0 q1 hu hR hR'
  generalize (w.alloc (.cells #[.bool g,.slice ao n ca,.int .i64 e] 33)).alloc (.cells #[.bool g,.slice bo n cb,.int .i64 e] 33)=wx at hb2 k1 j1 HR HR' ⊢
  have HNa:Hid (cf a n):=hN
  have HNb:Hid (cf b n):=hN'
  have HAB:Hid ((∀ i,i<n->a i=b i)->A=B):=hAB
  have HBA:Hid (A=B->∀ i,i<n->a i=b i):=fun q=>zJ hN.1 hN'.1 (by subst q;exact(dx.unique dy).2.1)
  clear hN hN' hAB dx dy
  go_loopw [5] (fun i wr=>∃ k:Nat,k<=n∧i=.int .i64 k∧Hid (∀ i,i<k->a i=b i)∧Below wx.heap.size wx wr) (fun i _=>n-(intOf i).toNat)
  case atStart=>exact⟨0,Nat.zero_le _,rfl,fun i hi=>by omega,al _⟩
  case round=>
   obtain⟨k,hk,rfl,HS,hbw⟩:=hrel
   have k1':=aX k1 hbw
   have j1':=aX j1 hbw
   by_cases hlt:k<n
   ·obtain⟨ba,fa,rfl,hba,hca⟩:=HR.spot (by omega)
    obtain⟨bb,fb,rfl,hbb,hcb⟩:=HR'.spot (by omega)
    have c1:=(hbw.cell (p:=⟨ba,fa+k,none⟩) hba).trans (hca k (by omega))
    have c2:=(hbw.cell (p:=⟨bb,fb+k,none⟩) hbb).trans (hcb k (by omega))
    clear hca hcb
    by_cases h1:a k=b k
    ·have h2:(a k == b k)=true:=by simpa using h1
     rw[h1] at c1
     go_wp2_with fail
     go_quiet (fail)
     go_wp2
     go_roundw
     case rel=>exact⟨k+1,by omega,by go_num,fun i hi=>by by_cases e:i=k;(· rw[e];exact h1);(· exact HS.out i (by omega)),aO hbw _⟩
     case measure=>simp[intOf];try omega
    ·have h2:(a k == b k)=false:=by simpa using h1
     have hne:A≠B:=fun q=>h1 (HBA.out q k hlt)
     have hdd:Hid (false=decide (A=B)):=(decide_eq_false hne).symm
     clear hne
     go_wp2_with fail
     go_quiet (fail)
     go_wp2
     go_ret
     exact⟨bt hdd.out,ac hb2 (aO hbw _)⟩
   ·obtain rfl:k=n:=by omega
    have hdd:Hid (true=decide (A=B)):=(decide_eq_true (HAB.out HS.out)).symm
    go_wp2
    go_ret
    exact⟨bt hdd.out,ac hb2 hbw⟩
 ·have hne:A≠B:=fun q=>hg ⟨(hu q).1,(hu q).2.2,zK hN hN' (hu q).2.1⟩
  rw[decide_eq_false hne]
  by_cases c1:g=g'
  ·subst c1
   by_cases c2:e=e'
   ·subst c2
    have c3:n≠n':=fun q=>hg ⟨rfl,rfl,q⟩
    have c4:((n:Int) == (n':Int))=false:=by simp;omega
    clear hu
    go_enter func11,ntmps11
    go_wp2
    all_goals go_ret
    all_goals exact⟨rfl,hb2⟩
   ·have c4:(e == e')=false:=by simpa using c2
    clear hu
    go_enter func11,ntmps11
    go_wp2
    all_goals go_ret
    all_goals exact⟨rfl,hb2⟩
  ·have c4:(g == g')=false:=by simpa using c1
   clear hu
   go_enter func11,ntmps11
   go_wp2
   all_goals go_ret
   all_goals exact⟨rfl,hb2⟩
end Go.Proofs.YtcklaogdjpbagaaGreatDoor
namespace Go.Proofs.YtcklaogdjpbagaaGreatDoor
open Go Go.Proofs.Tryz Go.ChangeShapes Go.WideShapes Go.ChangeAt Go.RowKit Go.Proofs.YtcklaogdjpbagaaGreatDoor Go.Proofs.YtcklaogdjpbagaaGreatDoor.M
theorem yV {A B T M:Int} (a:A*T=M) (b:B*T=M) (h:T≠0:=by first|exact Int.ne_of_gt (Int.mul_pos (aJ _) (aJ _))|exact Int.ne_of_gt (Int.mul_pos (aJ _) (Int.mul_pos (Int.mul_pos (aJ _) (aJ _)) (aJ _)))):A=B :=
 Int.eq_of_mul_eq_mul_right h (a.trans b.symm)
def gF (s:Nat->Nat->Int) (W:World) (v:Value):Prop:=∃ V,aM W v V∧V*(2^4194304*2^4194304)=dX (vL s 3) 0 1 2
theorem gF.keeps {s:Nat->Nat->Int} {W W':World} {v:Value} (h:gF s W v) (k:Below W.heap.size W W'):gF s W' v:=by
 obtain⟨V,a,b⟩:=h
 exact⟨V,a.keeps k,b⟩
def ff (s:Nat->Nat->Int) (W:World) (v:Value):Prop:=∃ V,aM W v V∧V*(2^4194304*(2^4194304*2^4194304*2^4194304))=sX (vL s 4)
theorem ff.keeps {s:Nat->Nat->Int} {W W':World} {v:Value} (h:ff s W v) (k:Below W.heap.size W W'):ff s W' v:=by
 obtain⟨V,a,b⟩:=h
 exact⟨V,a.keeps k,b⟩
theorem BY (s:Nat->Nat->Int) (w:World) {g:Nat} {t:TypeId} (h:w.heap[g]?=some (.cells #[.int .i64 (s 0 0),.int .i64 (s 0 1),.int .i64 (s 0 2),.int .i64 (s 1 0),.int .i64 (s 1 1),.int .i64 (s 1 2),.int .i64 (s 2 0),.int .i64 (s 2 1),.int .i64 (s 2 2),.int .i64 (s 3 0),.int .i64 (s 3 1),.int .i64 (s 3 2)] t (0,0))):eJ w (some ⟨g,0,none⟩) 4 4 s :=
  ⟨Nat.le_refl _,by omega,fun _=>⟨g,0,rfl,(Array.getElem?_eq_some_iff.1 h).1,fun i hi=>by
    match i,hi with
    | 0,_=>exact⟨af h 0 rfl,af h 1 rfl,af h 2 rfl⟩
    | 1,_=>exact⟨af h 3 rfl,af h 4 rfl,af h 5 rfl⟩
    | 2,_=>exact⟨af h 6 rfl,af h 7 rfl,af h 8 rfl⟩
    | 3,_=>exact ⟨af h 9 rfl,af h 10 rfl,af h 11 rfl⟩⟩⟩
theorem xr {s:Nat->Nat->Int} (w:World) (hr:∀ i k,ax (s i k)) (hok:br (ce s) 4=false) (H:bR w) :
  Calls prog 3 #[.agg #[.int .i64 (s 0 0),.int .i64 (s 0 1),.int .i64 (s 0 2),.int .i64 (s 1 0),.int .i64 (s 1 1),.int .i64 (s 1 2),.int .i64 (s 2 0),.int .i64 (s 2 1),.int .i64 (s 2 2),.int .i64 (s 3 0),.int .i64 (s 3 1),.int .i64 (s 3 2)]] w fun e w'=>e=.returned (.bool true)∧Below w.heap.size w w':=by
 have CA:Hid (∀ W,bR W->Calls prog 6 #[] W fun e w'=>e=.returned (.bool true)∧Below W.heap.size W w'):=fun W HW=>kd W HW
 have CG:Hid (∀ W g,W.heap[g]?=some (.cells #[.int .i64 (s 0 0),.int .i64 (s 0 1),.int .i64 (s 0 2),.int .i64 (s 1 0),.int .i64 (s 1 1),.int .i64 (s 1 2),.int .i64 (s 2 0),.int .i64 (s 2 1),.int .i64 (s 2 2),.int .i64 (s 3 0),.int .i64 (s 3 1),.int .i64 (s 3 2)] 24 (0,0))->Calls prog 9 #[.slice (some ⟨g,0,none⟩) 4 4] W fun x w'=>x=.returned (.bool false)∧Below W.heap.size W w'):=fun W g hk=>by
  have:=iK _ 4 4 s W (BY s W hk) hr
  rw[hok] at this
  exact this
 have CS:Hid (∀ W,Calls prog 7 #[.agg #[.int .i64 (s 0 0),.int .i64 (s 0 1),.int .i64 (s 0 2)],.agg #[.int .i64 (s 1 0),.int .i64 (s 1 1),.int .i64 (s 1 2)],.agg #[.int .i64 (s 2 0),.int .i64 (s 2 1),.int .i64 (s 2 2)],.agg #[.int .i64 (s 3 0),.int .i64 (s 3 1),.int .i64 (s 3 2)]] W fun e w'=>e=.returned (.tuple #[.agg #[.int .i64 0,.int .i64 0],.int .i64 10])∧Below W.heap.size W w'):=fun W=>yI s W hr hok
 have CX:Hid (∀ W,Calls prog 8 #[.agg #[.int .i64 (s 0 0),.int .i64 (s 0 1),.int .i64 (s 0 2)],.agg #[.int .i64 (s 1 0),.int .i64 (s 1 1),.int .i64 (s 1 2)],.agg #[.int .i64 (s 2 0),.int .i64 (s 2 1),.int .i64 (s 2 2)],.agg #[.int .i64 (s 3 0),.int .i64 (s 3 1),.int .i64 (s 3 2)]] W fun e w'=>e=.returned (.tuple #[.agg #[.bool false,.slice none 0 0,.int .i64 0],.int .i64 10])∧Below W.heap.size W w'):=fun W=>pQ s W hr hok
 have CM:Hid (∀ W,Calls prog 11 #[.agg #[.bool false,.slice none 0 0,.int .i64 0],.agg #[.bool false,.slice none 0 0,.int .i64 0]] W fun r w'=>r=.returned (.bool true)∧Below W.heap.size W w'):=fun W=>(me (aM.zero W) (aM.zero W)).mono fun _ _ ⟨h,k⟩=>⟨by rw[h];simp,k⟩
 have heq:∀ (p q:Int) W,(binOp .eql 27 (.agg #[.int .i64 p,.int .i64 q]) (.agg #[.int .i64 p,.int .i64 q])).run prog W=.ok (.bool true) W:=fun p q W=>by simp[go_sem]
 clear hr hok
 generalize s 0 0=cn at *
 generalize s 0 1=s01 at *
 generalize s 0 2=s02 at *
 generalize s 1 0=co at *
 generalize s 1 1=s11 at *
 generalize s 1 2=s12 at *
 generalize s 2 0=s20 at *
 generalize s 2 1=s21 at *
 generalize s 2 2=s22 at *
 generalize s 3 0=s30 at *
 generalize s 3 1=s31 at *
 generalize s 3 2=s32 at *
 have l_k:=aA w (.cells #[.int .i64 cn,.int .i64 s01,.int .i64 s02,.int .i64 co,.int .i64 s11,.int .i64 s12,.int .i64 s20,.int .i64 s21,.int .i64 s22,.int .i64 s30,.int .i64 s31,.int .i64 s32] 24)
 have hb:=ah w (.cells #[.int .i64 cn,.int .i64 s01,.int .i64 s02,.int .i64 co,.int .i64 s11,.int .i64 s12,.int .i64 s20,.int .i64 s21,.int .i64 s22,.int .i64 s30,.int .i64 s31,.int .i64 s32] 24)
 have H1:=H.keeps hb
 go_enter func3,ntmps3
 go_wp2_with fail
 generalize w.alloc (.cells #[.int .i64 cn,.int .i64 s01,.int .i64 s02,.int .i64 co,.int .i64 s11,.int .i64 s12,.int .i64 s20,.int .i64 s21,.int .i64 s22,.int .i64 s30,.int .i64 s31,.int .i64 s32] 24)=x1 at l_k hb H1 ⊢
 refine(CA.out _ H1).mono ?_
 rintro _ y1 ⟨rfl,h1⟩
 replace l_k:=ak h1 l_k
 replace hb:=ac hb h1
 clear h1 H1
 have f0:=af l_k 0 rfl
 have f1:=af l_k 1 rfl
 have f2:=af l_k 2 rfl
 have f3:=af l_k 3 rfl
 have f4:=af l_k 4 rfl
 have f5:=af l_k 5 rfl
 have f6:=af l_k 6 rfl
 have f7:=af l_k 7 rfl
 have f8:=af l_k 8 rfl
 have f9:=af l_k 9 rfl
 have f10:=af l_k 10 rfl
 have f11:=af l_k 11 rfl
 go_wp2_with fail
 clear f0 f1 f2 f3 f4 f5 f6 f7 f8 f9 f10 f11
 refine(CS.out _).mono ?_
 rintro _ y2 ⟨rfl,h2⟩
 replace l_k:=ap (.cells #[.int .i64 0,.int .i64 0] 27) (ak h2 l_k)
 have v_k:=aA y2 (.cells #[.int .i64 0,.int .i64 0] 27)
 replace hb:=ac hb (ac h2 (ah y2 (.cells #[.int .i64 0,.int .i64 0] 27)))
 clear h2
 have f0:=af l_k 0 rfl
 have f1:=af l_k 1 rfl
 have f2:=af l_k 2 rfl
 have f3:=af l_k 3 rfl
 have f4:=af l_k 4 rfl
 have f5:=af l_k 5 rfl
 have f6:=af l_k 6 rfl
 have f7:=af l_k 7 rfl
 have f8:=af l_k 8 rfl
 have f9:=af l_k 9 rfl
 have f10:=af l_k 10 rfl
 have f11:=af l_k 11 rfl
 go_wp2_with fail
 clear f0 f1 f2 f3 f4 f5 f6 f7 f8 f9 f10 f11
 generalize y2.alloc (.cells #[.int .i64 0,.int .i64 0] 27)=x2 at l_k v_k hb ⊢
 generalize y2.heap.size=gv at v_k ⊢
 refine(CX.out _).mono ?_
 rintro _ y3 ⟨rfl,h3⟩
 replace l_k:=ap (.cells #[.bool false,.slice none 0 0,.int .i64 0] 33) (ak h3 l_k)
 replace v_k:=ap (.cells #[.bool false,.slice none 0 0,.int .i64 0] 33) (ak h3 v_k)
 have n_k:=aA y3 (.cells #[.bool false,.slice none 0 0,.int .i64 0] 33)
 replace hb:=ac hb (ac h3 (ah y3 (.cells #[.bool false,.slice none 0 0,.int .i64 0] 33)))
 clear h3
 go_wp2_with fail
 generalize y3.alloc (.cells #[.bool false,.slice none 0 0,.int .i64 0] 33)=x3 at l_k v_k n_k hb ⊢
 generalize y3.heap.size=gn at n_k ⊢
 refine(CG.out _ _ l_k).mono ?_
 rintro _ y4 ⟨rfl,h4⟩
 replace v_k:=ak h4 v_k
 replace n_k:=ak h4 n_k
 replace hb:=ac hb h4
 clear h4 l_k
 have e0:=af v_k 0 rfl
 have e1:=af v_k 1 rfl
 have e2:=af n_k 0 rfl
 have e3:=af n_k 1 rfl
 have e4:=af n_k 2 rfl
 go_wp2_with (first|(go_at_call 10;refine(lJ _ _).mono ?_;rintro _ wz ⟨rfl,hwz⟩;replace hwz:=hwz.symm;subst hwz)|(go_at_call 11;refine(CM.out _).mono ?_;rintro _ y5 ⟨rfl,h5⟩;have hb5:=ac hb h5))
 go_ret
 exact⟨rfl,hb5⟩
theorem va {s:Nat->Nat->Int} (w:World) (hr:∀ i k,ax (s i k)) (hok:br (ce s) 4=true) (H:bR w) :
    Calls prog 3 #[.agg #[.int .i64 (s 0 0),.int .i64 (s 0 1),.int .i64 (s 0 2),.int .i64 (s 1 0),.int .i64 (s 1 1),.int .i64 (s 1 2),.int .i64 (s 2 0),.int .i64 (s 2 1),.int .i64 (s 2 2),.int .i64 (s 3 0),.int .i64 (s 3 1),.int .i64 (s 3 2)]] w fun e w'=>e=.returned (.bool true)∧Below w.heap.size w w':=by
  have CA:Hid (∀ W,bR W->Calls prog 6 #[] W fun e w'=>e=.returned (.bool true)∧Below W.heap.size W w'):=fun W HW=>kd W HW
  have CG:Hid (∀ W g,W.heap[g]?=some (.cells #[.int .i64 (s 0 0),.int .i64 (s 0 1),.int .i64 (s 0 2),.int .i64 (s 1 0),.int .i64 (s 1 1),.int .i64 (s 1 2),.int .i64 (s 2 0),.int .i64 (s 2 1),.int .i64 (s 2 2),.int .i64 (s 3 0),.int .i64 (s 3 1),.int .i64 (s 3 2)] 24 (0,0))->Calls prog 9 #[.slice (some ⟨g,0,none⟩) 4 4] W fun x w'=>x=.returned (.bool true)∧Below W.heap.size W w'):=fun W g hk=>by
    have:=iK _ 4 4 s W (BY s W hk) hr
    rw[hok] at this
    exact this
  have CS:Hid (∀ W,bR W->Calls prog 7 #[.agg #[.int .i64 (s 0 0),.int .i64 (s 0 1),.int .i64 (s 0 2)],.agg #[.int .i64 (s 1 0),.int .i64 (s 1 1),.int .i64 (s 1 2)],.agg #[.int .i64 (s 2 0),.int .i64 (s 2 1),.int .i64 (s 2 2)],.agg #[.int .i64 (s 3 0),.int .i64 (s 3 1),.int .i64 (s 3 2)]] W fun e w'=>e=.returned (.tuple #[.agg #[.int .i64 (aT (dX (vL s 3) 0 1 2) 0),.int .i64 (di s)],.int .i64 0])∧Below W.heap.size W w'):=fun W HW=>rV s W hr hok HW
  have CX:Hid (∀ W,bR W->Calls prog 8 #[.agg #[.int .i64 (s 0 0),.int .i64 (s 0 1),.int .i64 (s 0 2)],.agg #[.int .i64 (s 1 0),.int .i64 (s 1 1),.int .i64 (s 1 2)],.agg #[.int .i64 (s 2 0),.int .i64 (s 2 1),.int .i64 (s 2 2)],.agg #[.int .i64 (s 3 0),.int .i64 (s 3 1),.int .i64 (s 3 2)]] W fun r w'=>∃ g o n c e,r=.returned (.tuple #[.agg #[.bool g,.slice o n c,.int .i64 e],.int .i64 0])∧(∀ W2 g' o' n' c' e',Below w'.heap.size w' W2->gF s W2 (.agg #[.bool g',.slice o' n' c',.int .i64 e'])->Calls prog 11 #[.agg #[.bool g,.slice o n c,.int .i64 e],.agg #[.bool g',.slice o' n' c',.int .i64 e']] W2 fun r2 w2=>r2=.returned (.bool true)∧Below W2.heap.size W2 w2)∧Below W.heap.size W w'):=fun W HW=>by
    refine(pT s W hr hok HW).mono ?_
    rintro _ w' ⟨v,D,rfl,hA,-,-,hD⟩
    obtain⟨g,o,n,c,e,rfl⟩:=aN hA
    refine⟨g,o,n,c,e,rfl,fun W2 g' o' n' c' e' h2 hR=>?_,hA.below⟩
    obtain⟨V,hV,hE⟩:=hR
    have:=me (hA.num.keeps h2) hV
    rw[decide_eq_true (yV hD hE)] at this
    exact this
  have CE:Hid (∀ W,Calls prog 12 #[.agg #[.int .i64 (s 0 0),.int .i64 (s 0 1),.int .i64 (s 0 2)],.agg #[.int .i64 (s 1 0),.int .i64 (s 1 1),.int .i64 (s 1 2)],.agg #[.int .i64 (s 2 0),.int .i64 (s 2 1),.int .i64 (s 2 2)],.agg #[.int .i64 (s 3 0),.int .i64 (s 3 1),.int .i64 (s 3 2)]] W fun r w'=>∃ g o n c e,r=.returned (.agg #[.bool g,.slice o n c,.int .i64 e])∧gF s w' (.agg #[.bool g,.slice o n c,.int .i64 e])∧Below W.heap.size W w'):=fun W=>by
    refine(mS hr (fL hok) W).mono ?_
    rintro _ w' ⟨v,V,rfl,hd,hb,hv,-⟩
    obtain⟨g,o,n,c,e,rfl⟩:=hd.shape
    exact⟨g,o,n,c,e,rfl,⟨V,hd.num,by rw[<- Int.mul_assoc];exact hv⟩,hb⟩
  have CR:Hid (∀ W,Calls prog 13 #[.agg #[.int .i64 (s 0 0),.int .i64 (s 0 1),.int .i64 (s 0 2)],.agg #[.int .i64 (s 1 0),.int .i64 (s 1 1),.int .i64 (s 1 2)],.agg #[.int .i64 (s 2 0),.int .i64 (s 2 1),.int .i64 (s 2 2)],.agg #[.int .i64 (s 3 0),.int .i64 (s 3 1),.int .i64 (s 3 2)]] W fun r w'=>r=.returned (.agg #[.int .i64 (aT (dX (vL s 3) 0 1 2) 0),.int .i64 (di s)])∧Below W.heap.size W w'):=fun W=>by
    cases hT:br (dr s) 4
    · exact xl hr hok hT W
    · exact xp hr hok hT W
  have heq:∀ (p q:Int) W,(binOp .eql 27 (.agg #[.int .i64 p,.int .i64 q]) (.agg #[.int .i64 p,.int .i64 q])).run prog W=.ok (.bool true) W:=fun p q W=>by simp[go_sem]
  have RK:∀ {W W':World} {v:Value},gF s W v->Below W.heap.size W W'->gF s W' v:=fun h k=>h.keeps k
  clear hr hok
  generalize aT (dX (vL s 3) 0 1 2) 0=vs at *
  generalize di s=st at *
  generalize gF s=RX at *
  generalize s 0 0=cn at *
  generalize s 0 1=s01 at *
  generalize s 0 2=s02 at *
  generalize s 1 0=co at *
  generalize s 1 1=s11 at *
  generalize s 1 2=s12 at *
  generalize s 2 0=s20 at *
  generalize s 2 1=s21 at *
  generalize s 2 2=s22 at *
  generalize s 3 0=s30 at *
  generalize s 3 1=s31 at *
  generalize s 3 2=s32 at *
  have l_k:=aA w (.cells #[.int .i64 cn,.int .i64 s01,.int .i64 s02,.int .i64 co,.int .i64 s11,.int .i64 s12,.int .i64 s20,.int .i64 s21,.int .i64 s22,.int .i64 s30,.int .i64 s31,.int .i64 s32] 24)
  have hb:=ah w (.cells #[.int .i64 cn,.int .i64 s01,.int .i64 s02,.int .i64 co,.int .i64 s11,.int .i64 s12,.int .i64 s20,.int .i64 s21,.int .i64 s22,.int .i64 s30,.int .i64 s31,.int .i64 s32] 24)
  have H1:=H.keeps hb
  go_enter func3,ntmps3
  go_wp2_with fail
  generalize w.alloc (.cells #[.int .i64 cn,.int .i64 s01,.int .i64 s02,.int .i64 co,.int .i64 s11,.int .i64 s12,.int .i64 s20,.int .i64 s21,.int .i64 s22,.int .i64 s30,.int .i64 s31,.int .i64 s32] 24)=x1 at l_k hb H1 ⊢
  refine(CA.out _ H1).mono ?_
  rintro _ y1 ⟨rfl,h1⟩
  replace l_k:=ak h1 l_k
  replace hb:=ac hb h1
  replace H1:=H1.keeps h1
  clear h1
  have f0:=af l_k 0 rfl
  have f1:=af l_k 1 rfl
  have f2:=af l_k 2 rfl
  have f3:=af l_k 3 rfl
  have f4:=af l_k 4 rfl
  have f5:=af l_k 5 rfl
  have f6:=af l_k 6 rfl
  have f7:=af l_k 7 rfl
  have f8:=af l_k 8 rfl
  have f9:=af l_k 9 rfl
  have f10:=af l_k 10 rfl
  have f11:=af l_k 11 rfl
  go_wp2_with fail
  clear f0 f1 f2 f3 f4 f5 f6 f7 f8 f9 f10 f11
  refine(CS.out _ H1).mono ?_
  rintro _ y2 ⟨rfl,h2⟩
  replace l_k:=ap (.cells #[.int .i64 vs,.int .i64 st] 27) (ak h2 l_k)
  have v_k:=aA y2 (.cells #[.int .i64 vs,.int .i64 st] 27)
  replace H1:=(H1.keeps h2).keeps (ah y2 (.cells #[.int .i64 vs,.int .i64 st] 27))
  replace hb:=ac hb (ac h2 (ah y2 (.cells #[.int .i64 vs,.int .i64 st] 27)))
  clear h2
  have f0:=af l_k 0 rfl
  have f1:=af l_k 1 rfl
  have f2:=af l_k 2 rfl
  have f3:=af l_k 3 rfl
  have f4:=af l_k 4 rfl
  have f5:=af l_k 5 rfl
  have f6:=af l_k 6 rfl
  have f7:=af l_k 7 rfl
  have f8:=af l_k 8 rfl
  have f9:=af l_k 9 rfl
  have f10:=af l_k 10 rfl
  have f11:=af l_k 11 rfl
  go_wp2_with fail
  clear f0 f1 f2 f3 f4 f5 f6 f7 f8 f9 f10 f11
  generalize y2.alloc (.cells #[.int .i64 vs,.int .i64 st] 27)=x2 at l_k v_k hb H1 ⊢
  generalize y2.heap.size=gv at v_k ⊢
  refine(CX.out _ H1).mono ?_
  rintro _ y3 ⟨x_g,x_o,x_n,x_c,x_e,rfl,CM,h3⟩
  replace l_k:=ap (.cells #[.bool x_g,.slice x_o x_n x_c,.int .i64 x_e] 33) (ak h3 l_k)
  replace v_k:=ap (.cells #[.bool x_g,.slice x_o x_n x_c,.int .i64 x_e] 33) (ak h3 v_k)
  have n_k:=aA y3 (.cells #[.bool x_g,.slice x_o x_n x_c,.int .i64 x_e] 33)
  have hq:=ah y3 (.cells #[.bool x_g,.slice x_o x_n x_c,.int .i64 x_e] 33)
  replace hb:=ac hb (ac h3 (ah y3 (.cells #[.bool x_g,.slice x_o x_n x_c,.int .i64 x_e] 33)))
  clear h3 H1
  replace CM:Hid _:=eG CM
  go_wp2_with fail
  generalize y3.alloc (.cells #[.bool x_g,.slice x_o x_n x_c,.int .i64 x_e] 33)=x3 at l_k v_k n_k hb hq ⊢
  generalize y3.heap.size=gn at n_k ⊢
  refine(CG.out _ _ l_k).mono ?_
  rintro _ y4 ⟨rfl,h4⟩
  replace l_k:=ak h4 l_k
  replace v_k:=ak h4 v_k
  replace n_k:=ak h4 n_k
  replace hb:=ac hb h4
  replace hq:=ac hq h4
  clear h4
  go_wp2_with fail
  have KK1:∀ W,Below y4.heap.size y4 W->W.cell? ⟨w.heap.size,0,none⟩=some (.int .i64 cn)∧W.cell? ⟨w.heap.size,1,none⟩=some (.int .i64 s01)∧W.cell? ⟨w.heap.size,2,none⟩=some (.int .i64 s02)∧W.cell? ⟨w.heap.size,3,none⟩=some (.int .i64 co)∧W.cell? ⟨w.heap.size,4,none⟩=some (.int .i64 s11)∧W.cell? ⟨w.heap.size,5,none⟩=some (.int .i64 s12)∧W.cell? ⟨w.heap.size,6,none⟩=some (.int .i64 s20)∧W.cell? ⟨w.heap.size,7,none⟩=some (.int .i64 s21)∧W.cell? ⟨w.heap.size,8,none⟩=some (.int .i64 s22)∧W.cell? ⟨w.heap.size,9,none⟩=some (.int .i64 s30)∧W.cell? ⟨w.heap.size,10,none⟩=some (.int .i64 s31)∧W.cell? ⟨w.heap.size,11,none⟩=some (.int .i64 s32)∧W.cell? ⟨gn,0,none⟩=some (.bool x_g)∧W.cell? ⟨gn,1,none⟩=some (.slice x_o x_n x_c)∧W.cell? ⟨gn,2,none⟩=some (.int .i64 x_e):=fun W hb=>⟨aj (af l_k 0 rfl) hb,aj (af l_k 1 rfl) hb,aj (af l_k 2 rfl) hb,aj (af l_k 3 rfl) hb,aj (af l_k 4 rfl) hb,aj (af l_k 5 rfl) hb,aj (af l_k 6 rfl) hb,aj (af l_k 7 rfl) hb,aj (af l_k 8 rfl) hb,aj (af l_k 9 rfl) hb,aj (af l_k 10 rfl) hb,aj (af l_k 11 rfl) hb,aj (af n_k 0 rfl) hb,aj (af n_k 1 rfl) hb,aj (af n_k 2 rfl) hb⟩
  have hC0:=(al y4).drew
  go_region_held3 (fun W=>W.cell? ⟨w.heap.size,0,none⟩=some (.int .i64 cn)∧W.cell? ⟨w.heap.size,1,none⟩=some (.int .i64 s01)∧W.cell? ⟨w.heap.size,2,none⟩=some (.int .i64 s02)∧W.cell? ⟨w.heap.size,3,none⟩=some (.int .i64 co)∧W.cell? ⟨w.heap.size,4,none⟩=some (.int .i64 s11)∧W.cell? ⟨w.heap.size,5,none⟩=some (.int .i64 s12)∧W.cell? ⟨w.heap.size,6,none⟩=some (.int .i64 s20)∧W.cell? ⟨w.heap.size,7,none⟩=some (.int .i64 s21)∧W.cell? ⟨w.heap.size,8,none⟩=some (.int .i64 s22)∧W.cell? ⟨w.heap.size,9,none⟩=some (.int .i64 s30)∧W.cell? ⟨w.heap.size,10,none⟩=some (.int .i64 s31)∧W.cell? ⟨w.heap.size,11,none⟩=some (.int .i64 s32)∧W.cell? ⟨gn,0,none⟩=some (.bool x_g)∧W.cell? ⟨gn,1,none⟩=some (.slice x_o x_n x_c)∧W.cell? ⟨gn,2,none⟩=some (.int .i64 x_e))
    (with_reducible first|assumption|exact KK1 _ hC0|exact KK1 _ hC1|exact KK1 _ hC2|fail)
    (first
      | (go_at_call 11;refine(CM.out _ _ _ _ _ _ (ac hq hC1) hX).mono ?_;rintro _ y6 ⟨rfl,h6⟩;have hC2:=ac hC1 h6)
      | (go_at_call 12; refine (CE.out _).mono ?_; rintro _ y5 ⟨n_g,n_o,n_n,n_c,n_e,rfl,hX,h5⟩; have hC1:=ac hC0 h5))
  replace l_k:=ak hC2 l_k
  replace v_k:=ak hC2 v_k
  replace hb:=ac hb hC2
  clear hC0 hC1 hC2 h5 h6 hX CM hq n_k KK1
  go_wp2_with fail
  have KK2:∀ W,Below y6.heap.size y6 W->W.cell? ⟨w.heap.size,0,none⟩=some (.int .i64 cn)∧W.cell? ⟨w.heap.size,1,none⟩=some (.int .i64 s01)∧W.cell? ⟨w.heap.size,2,none⟩=some (.int .i64 s02)∧W.cell? ⟨w.heap.size,3,none⟩=some (.int .i64 co)∧W.cell? ⟨w.heap.size,4,none⟩=some (.int .i64 s11)∧W.cell? ⟨w.heap.size,5,none⟩=some (.int .i64 s12)∧W.cell? ⟨w.heap.size,6,none⟩=some (.int .i64 s20)∧W.cell? ⟨w.heap.size,7,none⟩=some (.int .i64 s21)∧W.cell? ⟨w.heap.size,8,none⟩=some (.int .i64 s22)∧W.cell? ⟨w.heap.size,9,none⟩=some (.int .i64 s30)∧W.cell? ⟨w.heap.size,10,none⟩=some (.int .i64 s31)∧W.cell? ⟨w.heap.size,11,none⟩=some (.int .i64 s32)∧W.cell? ⟨gv,0,none⟩=some (.int .i64 vs)∧W.cell? ⟨gv,1,none⟩=some (.int .i64 st):=fun W hb=>⟨aj (af l_k 0 rfl) hb,aj (af l_k 1 rfl) hb,aj (af l_k 2 rfl) hb,aj (af l_k 3 rfl) hb,aj (af l_k 4 rfl) hb,aj (af l_k 5 rfl) hb,aj (af l_k 6 rfl) hb,aj (af l_k 7 rfl) hb,aj (af l_k 8 rfl) hb,aj (af l_k 9 rfl) hb,aj (af l_k 10 rfl) hb,aj (af l_k 11 rfl) hb,aj (af v_k 0 rfl) hb,aj (af v_k 1 rfl) hb⟩
  have hC0:=(al y6).drew
  have hT0:Below w.heap.size w y6.drew:=hb.drew
  go_region_held3 (fun W=>W.cell? ⟨w.heap.size,0,none⟩=some (.int .i64 cn)∧W.cell? ⟨w.heap.size,1,none⟩=some (.int .i64 s01)∧W.cell? ⟨w.heap.size,2,none⟩=some (.int .i64 s02)∧W.cell? ⟨w.heap.size,3,none⟩=some (.int .i64 co)∧W.cell? ⟨w.heap.size,4,none⟩=some (.int .i64 s11)∧W.cell? ⟨w.heap.size,5,none⟩=some (.int .i64 s12)∧W.cell? ⟨w.heap.size,6,none⟩=some (.int .i64 s20)∧W.cell? ⟨w.heap.size,7,none⟩=some (.int .i64 s21)∧W.cell? ⟨w.heap.size,8,none⟩=some (.int .i64 s22)∧W.cell? ⟨w.heap.size,9,none⟩=some (.int .i64 s30)∧W.cell? ⟨w.heap.size,10,none⟩=some (.int .i64 s31)∧W.cell? ⟨w.heap.size,11,none⟩=some (.int .i64 s32)∧W.cell? ⟨gv,0,none⟩=some (.int .i64 vs)∧W.cell? ⟨gv,1,none⟩=some (.int .i64 st))
    (with_reducible first|assumption|exact KK2 _ hC0|exact KK2 _ hC1|fail)
    (first
      | (go_at_call 10;refine(lJ _ _).mono ?_;rintro _ wz ⟨rfl,hwz⟩;replace hwz:=hwz.symm;subst hwz)
      | (go_at_call 13; refine (CR.out _).mono ?_; rintro _ yS ⟨rfl,hwS⟩; have hC1:=ac hC0 hwS; have hT1:=ac hT0 hwS))
  go_wp2
  all_goals go_ret
  all_goals exact⟨bt (by simp),by first|exact hT1|exact hT1.drew⟩
theorem vb {s:Nat->Nat->Int} (w:World) (hr:∀ i k,ax (s i k)) (H:bR w) :
  Calls prog 3 #[.agg #[.int .i64 (s 0 0),.int .i64 (s 0 1),.int .i64 (s 0 2),.int .i64 (s 1 0),.int .i64 (s 1 1),.int .i64 (s 1 2),.int .i64 (s 2 0),.int .i64 (s 2 1),.int .i64 (s 2 2),.int .i64 (s 3 0),.int .i64 (s 3 1),.int .i64 (s 3 2)]] w fun e w'=>e=.returned (.bool true)∧Below w.heap.size w w':=by
 cases hok:br (ce s) 4
 ·exact xr w hr hok H
 ·exact va w hr hok H
theorem yW {A B S M:Int} (h:0<S) (a:A*(S*(S*S*S))=M) (b:B*(S*(S*S*S))=M):A=B :=
 Int.eq_of_mul_eq_mul_right (Int.ne_of_gt (Int.mul_pos h (Int.mul_pos (Int.mul_pos h h) h))) (a.trans b.symm)
theorem te {s:Nat->Nat->Int} (w:World) (hr:∀ i k,ax (s i k)) (hok:br (ce s) 5=false) (H:bR w) :
  Calls prog 4 #[.agg #[.int .i64 (s 0 0),.int .i64 (s 0 1),.int .i64 (s 0 2),.int .i64 (s 1 0),.int .i64 (s 1 1),.int .i64 (s 1 2),.int .i64 (s 2 0),.int .i64 (s 2 1),.int .i64 (s 2 2),.int .i64 (s 3 0),.int .i64 (s 3 1),.int .i64 (s 3 2),.int .i64 (s 4 0),.int .i64 (s 4 1),.int .i64 (s 4 2)]] w fun e w'=>e=.returned (.bool true)∧Below w.heap.size w w':=by
 have CA:Hid (∀ W,bR W->Calls prog 6 #[] W fun e w'=>e=.returned (.bool true)∧Below W.heap.size W w'):=fun W HW=>kd W HW
 have CG:Hid (∀ W g,W.heap[g]?=some (.cells #[.int .i64 (s 0 0),.int .i64 (s 0 1),.int .i64 (s 0 2),.int .i64 (s 1 0),.int .i64 (s 1 1),.int .i64 (s 1 2),.int .i64 (s 2 0),.int .i64 (s 2 1),.int .i64 (s 2 2),.int .i64 (s 3 0),.int .i64 (s 3 1),.int .i64 (s 3 2),.int .i64 (s 4 0),.int .i64 (s 4 1),.int .i64 (s 4 2)] 43 (0,0))->Calls prog 9 #[.slice (some ⟨g,0,none⟩) 5 5] W fun x w'=>x=.returned (.bool false)∧Below W.heap.size W w'):=fun W g hk=>by
  have:=iK _ 5 5 s W (BX s W hk) hr
  rw[hok] at this
  exact this
 have CS:Hid (∀ W,Calls prog 14 #[.agg #[.int .i64 (s 0 0),.int .i64 (s 0 1),.int .i64 (s 0 2)],.agg #[.int .i64 (s 1 0),.int .i64 (s 1 1),.int .i64 (s 1 2)],.agg #[.int .i64 (s 2 0),.int .i64 (s 2 1),.int .i64 (s 2 2)],.agg #[.int .i64 (s 3 0),.int .i64 (s 3 1),.int .i64 (s 3 2)],.agg #[.int .i64 (s 4 0),.int .i64 (s 4 1),.int .i64 (s 4 2)]] W fun e w'=>e=.returned (.tuple #[.agg #[.int .i64 0,.int .i64 0],.int .i64 10])∧Below W.heap.size W w'):=fun W=>uP s W hr hok
 have CX:Hid (∀ W,Calls prog 15 #[.agg #[.int .i64 (s 0 0),.int .i64 (s 0 1),.int .i64 (s 0 2)],.agg #[.int .i64 (s 1 0),.int .i64 (s 1 1),.int .i64 (s 1 2)],.agg #[.int .i64 (s 2 0),.int .i64 (s 2 1),.int .i64 (s 2 2)],.agg #[.int .i64 (s 3 0),.int .i64 (s 3 1),.int .i64 (s 3 2)],.agg #[.int .i64 (s 4 0),.int .i64 (s 4 1),.int .i64 (s 4 2)]] W fun e w'=>e=.returned (.tuple #[.agg #[.bool false,.slice none 0 0,.int .i64 0],.int .i64 10])∧Below W.heap.size W w'):=fun W=>nW s W hr hok
 have CM:Hid (∀ W,Calls prog 11 #[.agg #[.bool false,.slice none 0 0,.int .i64 0],.agg #[.bool false,.slice none 0 0,.int .i64 0]] W fun r w'=>r=.returned (.bool true)∧Below W.heap.size W w'):=fun W=>(me (aM.zero W) (aM.zero W)).mono fun _ _ ⟨h,k⟩=>⟨by rw[h];simp,k⟩
 have heq:∀ (p q:Int) W,(binOp .eql 27 (.agg #[.int .i64 p,.int .i64 q]) (.agg #[.int .i64 p,.int .i64 q])).run prog W=.ok (.bool true) W:=fun p q W=>by simp[go_sem]
 clear hr hok
 generalize s 0 0=cn at *
 generalize s 0 1=s01 at *
 generalize s 0 2=s02 at *
 generalize s 1 0=co at *
 generalize s 1 1=s11 at *
 generalize s 1 2=s12 at *
 generalize s 2 0=s20 at *
 generalize s 2 1=s21 at *
 generalize s 2 2=s22 at *
 generalize s 3 0=s30 at *
 generalize s 3 1=s31 at *
 generalize s 3 2=s32 at *
 generalize s 4 0=s40 at *
 generalize s 4 1=s41 at *
 generalize s 4 2=s42 at *
 have l_k:=aA w (.cells #[.int .i64 cn,.int .i64 s01,.int .i64 s02,.int .i64 co,.int .i64 s11,.int .i64 s12,.int .i64 s20,.int .i64 s21,.int .i64 s22,.int .i64 s30,.int .i64 s31,.int .i64 s32,.int .i64 s40,.int .i64 s41,.int .i64 s42] 43)
 have hb:=ah w (.cells #[.int .i64 cn,.int .i64 s01,.int .i64 s02,.int .i64 co,.int .i64 s11,.int .i64 s12,.int .i64 s20,.int .i64 s21,.int .i64 s22,.int .i64 s30,.int .i64 s31,.int .i64 s32,.int .i64 s40,.int .i64 s41,.int .i64 s42] 43)
 have H1:=H.keeps hb
 go_enter func4,ntmps4
 go_wp2_with fail
 generalize w.alloc (.cells #[.int .i64 cn,.int .i64 s01,.int .i64 s02,.int .i64 co,.int .i64 s11,.int .i64 s12,.int .i64 s20,.int .i64 s21,.int .i64 s22,.int .i64 s30,.int .i64 s31,.int .i64 s32,.int .i64 s40,.int .i64 s41,.int .i64 s42] 43)=x1 at l_k hb H1 ⊢
 refine(CA.out _ H1).mono ?_
 rintro _ y1 ⟨rfl,h1⟩
 replace l_k:=ak h1 l_k
 replace hb:=ac hb h1
 clear h1 H1
 have f0:=af l_k 0 rfl
 have f1:=af l_k 1 rfl
 have f2:=af l_k 2 rfl
 have f3:=af l_k 3 rfl
 have f4:=af l_k 4 rfl
 have f5:=af l_k 5 rfl
 have f6:=af l_k 6 rfl
 have f7:=af l_k 7 rfl
 have f8:=af l_k 8 rfl
 have f9:=af l_k 9 rfl
 have f10:=af l_k 10 rfl
 have f11:=af l_k 11 rfl
 have f12:=af l_k 12 rfl
 have f13:=af l_k 13 rfl
 have f14:=af l_k 14 rfl
 go_wp2_with fail
 clear f0 f1 f2 f3 f4 f5 f6 f7 f8 f9 f10 f11 f12 f13 f14
 refine(CS.out _).mono ?_
 rintro _ y2 ⟨rfl,h2⟩
 replace l_k:=ap (.cells #[.int .i64 0,.int .i64 0] 27) (ak h2 l_k)
 have v_k:=aA y2 (.cells #[.int .i64 0,.int .i64 0] 27)
 replace hb:=ac hb (ac h2 (ah y2 (.cells #[.int .i64 0,.int .i64 0] 27)))
 clear h2
 have f0:=af l_k 0 rfl
 have f1:=af l_k 1 rfl
 have f2:=af l_k 2 rfl
 have f3:=af l_k 3 rfl
 have f4:=af l_k 4 rfl
 have f5:=af l_k 5 rfl
 have f6:=af l_k 6 rfl
 have f7:=af l_k 7 rfl
 have f8:=af l_k 8 rfl
 have f9:=af l_k 9 rfl
 have f10:=af l_k 10 rfl
 have f11:=af l_k 11 rfl
 have f12:=af l_k 12 rfl
 have f13:=af l_k 13 rfl
 have f14:=af l_k 14 rfl
 go_wp2_with fail
 clear f0 f1 f2 f3 f4 f5 f6 f7 f8 f9 f10 f11 f12 f13 f14
 generalize y2.alloc (.cells #[.int .i64 0,.int .i64 0] 27)=x2 at l_k v_k hb ⊢
 generalize y2.heap.size=gv at v_k ⊢
 refine(CX.out _).mono ?_
 rintro _ y3 ⟨rfl,h3⟩
 replace l_k:=ap (.cells #[.bool false,.slice none 0 0,.int .i64 0] 33) (ak h3 l_k)
 replace v_k:=ap (.cells #[.bool false,.slice none 0 0,.int .i64 0] 33) (ak h3 v_k)
 have n_k:=aA y3 (.cells #[.bool false,.slice none 0 0,.int .i64 0] 33)
 replace hb:=ac hb (ac h3 (ah y3 (.cells #[.bool false,.slice none 0 0,.int .i64 0] 33)))
 clear h3
 go_wp2_with fail
 generalize y3.alloc (.cells #[.bool false,.slice none 0 0,.int .i64 0] 33)=x3 at l_k v_k n_k hb ⊢
 generalize y3.heap.size=gn at n_k ⊢
 refine(CG.out _ _ l_k).mono ?_
 rintro _ y4 ⟨rfl,h4⟩
 replace v_k:=ak h4 v_k
 replace n_k:=ak h4 n_k
 replace hb:=ac hb h4
 clear h4 l_k
 have e0:=af v_k 0 rfl
 have e1:=af v_k 1 rfl
 have e2:=af n_k 0 rfl
 have e3:=af n_k 1 rfl
 have e4:=af n_k 2 rfl
 go_wp2_with (first|(go_at_call 10;refine(lJ _ _).mono ?_;rintro _ wz ⟨rfl,hwz⟩;replace hwz:=hwz.symm;subst hwz)|(go_at_call 11;refine(CM.out _).mono ?_;rintro _ y5 ⟨rfl,h5⟩;have hb5:=ac hb h5))
 go_ret
 exact⟨rfl,hb5⟩
theorem sw {s:Nat->Nat->Int} (w:World) (hr:∀ i k,ax (s i k)) (hok:br (ce s) 5=true) (H:bR w) :
    Calls prog 4 #[.agg #[.int .i64 (s 0 0),.int .i64 (s 0 1),.int .i64 (s 0 2),.int .i64 (s 1 0),.int .i64 (s 1 1),.int .i64 (s 1 2),.int .i64 (s 2 0),.int .i64 (s 2 1),.int .i64 (s 2 2),.int .i64 (s 3 0),.int .i64 (s 3 1),.int .i64 (s 3 2),.int .i64 (s 4 0),.int .i64 (s 4 1),.int .i64 (s 4 2)]] w fun e w'=>e=.returned (.bool true)∧Below w.heap.size w w':=by
  have CA:Hid (∀ W,bR W->Calls prog 6 #[] W fun e w'=>e=.returned (.bool true)∧Below W.heap.size W w'):=fun W HW=>kd W HW
  have CG:Hid (∀ W g,W.heap[g]?=some (.cells #[.int .i64 (s 0 0),.int .i64 (s 0 1),.int .i64 (s 0 2),.int .i64 (s 1 0),.int .i64 (s 1 1),.int .i64 (s 1 2),.int .i64 (s 2 0),.int .i64 (s 2 1),.int .i64 (s 2 2),.int .i64 (s 3 0),.int .i64 (s 3 1),.int .i64 (s 3 2),.int .i64 (s 4 0),.int .i64 (s 4 1),.int .i64 (s 4 2)] 43 (0,0))->Calls prog 9 #[.slice (some ⟨g,0,none⟩) 5 5] W fun x w'=>x=.returned (.bool true)∧Below W.heap.size W w'):=fun W g hk=>by
    have:=iK _ 5 5 s W (BX s W hk) hr
    rw[hok] at this
    exact this
  have CS:Hid (∀ W,bR W->Calls prog 14 #[.agg #[.int .i64 (s 0 0),.int .i64 (s 0 1),.int .i64 (s 0 2)],.agg #[.int .i64 (s 1 0),.int .i64 (s 1 1),.int .i64 (s 1 2)],.agg #[.int .i64 (s 2 0),.int .i64 (s 2 1),.int .i64 (s 2 2)],.agg #[.int .i64 (s 3 0),.int .i64 (s 3 1),.int .i64 (s 3 2)],.agg #[.int .i64 (s 4 0),.int .i64 (s 4 1),.int .i64 (s 4 2)]] W fun e w'=>e=.returned (.tuple #[.agg #[.int .i64 (aT (sX (vL s 4)) 0),.int .i64 (cK s)],.int .i64 0])∧Below W.heap.size W w'):=fun W HW=>uQ s W hr hok HW
  have CX:Hid (∀ W,bR W->Calls prog 15 #[.agg #[.int .i64 (s 0 0),.int .i64 (s 0 1),.int .i64 (s 0 2)],.agg #[.int .i64 (s 1 0),.int .i64 (s 1 1),.int .i64 (s 1 2)],.agg #[.int .i64 (s 2 0),.int .i64 (s 2 1),.int .i64 (s 2 2)],.agg #[.int .i64 (s 3 0),.int .i64 (s 3 1),.int .i64 (s 3 2)],.agg #[.int .i64 (s 4 0),.int .i64 (s 4 1),.int .i64 (s 4 2)]] W fun r w'=>∃ g o n c e,r=.returned (.tuple #[.agg #[.bool g,.slice o n c,.int .i64 e],.int .i64 0])∧(∀ W2 g' o' n' c' e',Below w'.heap.size w' W2->ff s W2 (.agg #[.bool g',.slice o' n' c',.int .i64 e'])->Calls prog 11 #[.agg #[.bool g,.slice o n c,.int .i64 e],.agg #[.bool g',.slice o' n' c',.int .i64 e']] W2 fun r2 w2=>r2=.returned (.bool true)∧Below W2.heap.size W2 w2)∧Below W.heap.size W w'):=fun W HW=>by
    refine(nX s W hr hok HW).mono ?_
    rintro _ w' ⟨v,D,rfl,hA,-,-,hD⟩
    obtain⟨g,o,n,c,e,rfl⟩:=aN hA
    refine⟨g,o,n,c,e,rfl,fun W2 g' o' n' c' e' h2 hR=>?_,hA.below⟩
    obtain⟨V,hV,hE⟩:=hR
    have:=me (hA.num.keeps h2) hV
    rw[decide_eq_true (yW (aJ _) hD hE)] at this
    exact this
  have CE:Hid (∀ W,Calls prog 16 #[.agg #[.int .i64 (s 0 0),.int .i64 (s 0 1),.int .i64 (s 0 2)],.agg #[.int .i64 (s 1 0),.int .i64 (s 1 1),.int .i64 (s 1 2)],.agg #[.int .i64 (s 2 0),.int .i64 (s 2 1),.int .i64 (s 2 2)],.agg #[.int .i64 (s 3 0),.int .i64 (s 3 1),.int .i64 (s 3 2)],.agg #[.int .i64 (s 4 0),.int .i64 (s 4 1),.int .i64 (s 4 2)]] W fun r w'=>∃ g o n c e,r=.returned (.agg #[.bool g,.slice o n c,.int .i64 e])∧ff s w' (.agg #[.bool g,.slice o n c,.int .i64 e])∧Below W.heap.size W w'):=fun W=>by
    refine(kN hr (eU hok) W).mono ?_
    rintro _ w' ⟨v,V,rfl,hd,hb,hv,-⟩
    obtain⟨g,o,n,c,e,rfl⟩:=hd.shape
    exact⟨g,o,n,c,e,rfl,⟨V,hd.num,hv⟩,hb⟩
  have CR:Hid (∀ W,Calls prog 17 #[.agg #[.int .i64 (s 0 0),.int .i64 (s 0 1),.int .i64 (s 0 2)],.agg #[.int .i64 (s 1 0),.int .i64 (s 1 1),.int .i64 (s 1 2)],.agg #[.int .i64 (s 2 0),.int .i64 (s 2 1),.int .i64 (s 2 2)],.agg #[.int .i64 (s 3 0),.int .i64 (s 3 1),.int .i64 (s 3 2)],.agg #[.int .i64 (s 4 0),.int .i64 (s 4 1),.int .i64 (s 4 2)]] W fun r w'=>r=.returned (.agg #[.int .i64 (aT (sX (vL s 4)) 0),.int .i64 (cK s)])∧Below W.heap.size W w'):=fun W=>by
    cases hT:br (dr s) 5
    · exact ta hr hok hT W
    · exact tb hr hok hT W
  have heq:∀ (p q:Int) W,(binOp .eql 27 (.agg #[.int .i64 p,.int .i64 q]) (.agg #[.int .i64 p,.int .i64 q])).run prog W=.ok (.bool true) W:=fun p q W=>by simp[go_sem]
  have RK:∀ {W W':World} {v:Value},ff s W v->Below W.heap.size W W'->ff s W' v:=fun h k=>h.keeps k
  clear hr hok
  generalize aT (sX (vL s 4)) 0=vs at *
  generalize cK s=st at *
  generalize ff s=RX at *
  generalize s 0 0=cn at *
  generalize s 0 1=s01 at *
  generalize s 0 2=s02 at *
  generalize s 1 0=co at *
  generalize s 1 1=s11 at *
  generalize s 1 2=s12 at *
  generalize s 2 0=s20 at *
  generalize s 2 1=s21 at *
  generalize s 2 2=s22 at *
  generalize s 3 0=s30 at *
  generalize s 3 1=s31 at *
  generalize s 3 2=s32 at *
  generalize s 4 0=s40 at *
  generalize s 4 1=s41 at *
  generalize s 4 2=s42 at *
  have l_k:=aA w (.cells #[.int .i64 cn,.int .i64 s01,.int .i64 s02,.int .i64 co,.int .i64 s11,.int .i64 s12,.int .i64 s20,.int .i64 s21,.int .i64 s22,.int .i64 s30,.int .i64 s31,.int .i64 s32,.int .i64 s40,.int .i64 s41,.int .i64 s42] 43)
  have hb:=ah w (.cells #[.int .i64 cn,.int .i64 s01,.int .i64 s02,.int .i64 co,.int .i64 s11,.int .i64 s12,.int .i64 s20,.int .i64 s21,.int .i64 s22,.int .i64 s30,.int .i64 s31,.int .i64 s32,.int .i64 s40,.int .i64 s41,.int .i64 s42] 43)
  have H1:=H.keeps hb
  go_enter func4,ntmps4
  go_wp2_with fail
  generalize w.alloc (.cells #[.int .i64 cn,.int .i64 s01,.int .i64 s02,.int .i64 co,.int .i64 s11,.int .i64 s12,.int .i64 s20,.int .i64 s21,.int .i64 s22,.int .i64 s30,.int .i64 s31,.int .i64 s32,.int .i64 s40,.int .i64 s41,.int .i64 s42] 43)=x1 at l_k hb H1 ⊢
  refine(CA.out _ H1).mono ?_
  rintro _ y1 ⟨rfl,h1⟩
  replace l_k:=ak h1 l_k
  replace hb:=ac hb h1
  replace H1:=H1.keeps h1
  clear h1
  have f0:=af l_k 0 rfl
  have f1:=af l_k 1 rfl
  have f2:=af l_k 2 rfl
  have f3:=af l_k 3 rfl
  have f4:=af l_k 4 rfl
  have f5:=af l_k 5 rfl
  have f6:=af l_k 6 rfl
  have f7:=af l_k 7 rfl
  have f8:=af l_k 8 rfl
  have f9:=af l_k 9 rfl
  have f10:=af l_k 10 rfl
  have f11:=af l_k 11 rfl
  have f12:=af l_k 12 rfl
  have f13:=af l_k 13 rfl
  have f14:=af l_k 14 rfl
  go_wp2_with fail
  clear f0 f1 f2 f3 f4 f5 f6 f7 f8 f9 f10 f11 f12 f13 f14
  refine(CS.out _ H1).mono ?_
  rintro _ y2 ⟨rfl,h2⟩
  replace l_k:=ap (.cells #[.int .i64 vs,.int .i64 st] 27) (ak h2 l_k)
  have v_k:=aA y2 (.cells #[.int .i64 vs,.int .i64 st] 27)
  replace H1:=(H1.keeps h2).keeps (ah y2 (.cells #[.int .i64 vs,.int .i64 st] 27))
  replace hb:=ac hb (ac h2 (ah y2 (.cells #[.int .i64 vs,.int .i64 st] 27)))
  clear h2
  have f0:=af l_k 0 rfl
  have f1:=af l_k 1 rfl
  have f2:=af l_k 2 rfl
  have f3:=af l_k 3 rfl
  have f4:=af l_k 4 rfl
  have f5:=af l_k 5 rfl
  have f6:=af l_k 6 rfl
  have f7:=af l_k 7 rfl
  have f8:=af l_k 8 rfl
  have f9:=af l_k 9 rfl
  have f10:=af l_k 10 rfl
  have f11:=af l_k 11 rfl
  have f12:=af l_k 12 rfl
  have f13:=af l_k 13 rfl
  have f14:=af l_k 14 rfl
  go_wp2_with fail
  clear f0 f1 f2 f3 f4 f5 f6 f7 f8 f9 f10 f11 f12 f13 f14
  generalize y2.alloc (.cells #[.int .i64 vs,.int .i64 st] 27)=x2 at l_k v_k hb H1 ⊢
  generalize y2.heap.size=gv at v_k ⊢
  refine(CX.out _ H1).mono ?_
  rintro _ y3 ⟨x_g,x_o,x_n,x_c,x_e,rfl,CM,h3⟩
  replace l_k:=ap (.cells #[.bool x_g,.slice x_o x_n x_c,.int .i64 x_e] 33) (ak h3 l_k)
  replace v_k:=ap (.cells #[.bool x_g,.slice x_o x_n x_c,.int .i64 x_e] 33) (ak h3 v_k)
  have n_k:=aA y3 (.cells #[.bool x_g,.slice x_o x_n x_c,.int .i64 x_e] 33)
  have hq:=ah y3 (.cells #[.bool x_g,.slice x_o x_n x_c,.int .i64 x_e] 33)
  replace hb:=ac hb (ac h3 (ah y3 (.cells #[.bool x_g,.slice x_o x_n x_c,.int .i64 x_e] 33)))
  clear h3 H1
  replace CM:Hid _:=eG CM
  go_wp2_with fail
  generalize y3.alloc (.cells #[.bool x_g,.slice x_o x_n x_c,.int .i64 x_e] 33)=x3 at l_k v_k n_k hb hq ⊢
  generalize y3.heap.size=gn at n_k ⊢
  refine(CG.out _ _ l_k).mono ?_
  rintro _ y4 ⟨rfl,h4⟩
  replace l_k:=ak h4 l_k
  replace v_k:=ak h4 v_k
  replace n_k:=ak h4 n_k
  replace hb:=ac hb h4
  replace hq:=ac hq h4
  clear h4
  go_wp2_with fail
  have KK1:∀ W,Below y4.heap.size y4 W->W.cell? ⟨w.heap.size,0,none⟩=some (.int .i64 cn)∧W.cell? ⟨w.heap.size,1,none⟩=some (.int .i64 s01)∧W.cell? ⟨w.heap.size,2,none⟩=some (.int .i64 s02)∧W.cell? ⟨w.heap.size,3,none⟩=some (.int .i64 co)∧W.cell? ⟨w.heap.size,4,none⟩=some (.int .i64 s11)∧W.cell? ⟨w.heap.size,5,none⟩=some (.int .i64 s12)∧W.cell? ⟨w.heap.size,6,none⟩=some (.int .i64 s20)∧W.cell? ⟨w.heap.size,7,none⟩=some (.int .i64 s21)∧W.cell? ⟨w.heap.size,8,none⟩=some (.int .i64 s22)∧W.cell? ⟨w.heap.size,9,none⟩=some (.int .i64 s30)∧W.cell? ⟨w.heap.size,10,none⟩=some (.int .i64 s31)∧W.cell? ⟨w.heap.size,11,none⟩=some (.int .i64 s32)∧W.cell? ⟨w.heap.size,12,none⟩=some (.int .i64 s40)∧W.cell? ⟨w.heap.size,13,none⟩=some (.int .i64 s41)∧W.cell? ⟨w.heap.size,14,none⟩=some (.int .i64 s42)∧W.cell? ⟨gn,0,none⟩=some (.bool x_g)∧W.cell? ⟨gn,1,none⟩=some (.slice x_o x_n x_c)∧W.cell? ⟨gn,2,none⟩=some (.int .i64 x_e):=fun W hb=>⟨aj (af l_k 0 rfl) hb,aj (af l_k 1 rfl) hb,aj (af l_k 2 rfl) hb,aj (af l_k 3 rfl) hb,aj (af l_k 4 rfl) hb,aj (af l_k 5 rfl) hb,aj (af l_k 6 rfl) hb,aj (af l_k 7 rfl) hb,aj (af l_k 8 rfl) hb,aj (af l_k 9 rfl) hb,aj (af l_k 10 rfl) hb,aj (af l_k 11 rfl) hb,aj (af l_k 12 rfl) hb,aj (af l_k 13 rfl) hb,aj (af l_k 14 rfl) hb,aj (af n_k 0 rfl) hb,aj (af n_k 1 rfl) hb,aj (af n_k 2 rfl) hb⟩
  have hC0:=(al y4).drew
  go_region_held3 (fun W=>W.cell? ⟨w.heap.size,0,none⟩=some (.int .i64 cn)∧W.cell? ⟨w.heap.size,1,none⟩=some (.int .i64 s01)∧W.cell? ⟨w.heap.size,2,none⟩=some (.int .i64 s02)∧W.cell? ⟨w.heap.size,3,none⟩=some (.int .i64 co)∧W.cell? ⟨w.heap.size,4,none⟩=some (.int .i64 s11)∧W.cell? ⟨w.heap.size,5,none⟩=some (.int .i64 s12)∧W.cell? ⟨w.heap.size,6,none⟩=some (.int .i64 s20)∧W.cell? ⟨w.heap.size,7,none⟩=some (.int .i64 s21)∧W.cell? ⟨w.heap.size,8,none⟩=some (.int .i64 s22)∧W.cell? ⟨w.heap.size,9,none⟩=some (.int .i64 s30)∧W.cell? ⟨w.heap.size,10,none⟩=some (.int .i64 s31)∧W.cell? ⟨w.heap.size,11,none⟩=some (.int .i64 s32)∧W.cell? ⟨w.heap.size,12,none⟩=some (.int .i64 s40)∧W.cell? ⟨w.heap.size,13,none⟩=some (.int .i64 s41)∧W.cell? ⟨w.heap.size,14,none⟩=some (.int .i64 s42)∧W.cell? ⟨gn,0,none⟩=some (.bool x_g)∧W.cell? ⟨gn,1,none⟩=some (.slice x_o x_n x_c)∧W.cell? ⟨gn,2,none⟩=some (.int .i64 x_e))
    (with_reducible first|assumption|exact KK1 _ hC0|exact KK1 _ hC1|exact KK1 _ hC2|fail)
    (first
      | (go_at_call 11;refine(CM.out _ _ _ _ _ _ (ac hq hC1) hX).mono ?_;rintro _ y6 ⟨rfl,h6⟩;have hC2:=ac hC1 h6)
      | (go_at_call 16; refine (CE.out _).mono ?_; rintro _ y5 ⟨n_g,n_o,n_n,n_c,n_e,rfl,hX,h5⟩; have hC1:=ac hC0 h5))
  replace l_k:=ak hC2 l_k
  replace v_k:=ak hC2 v_k
  replace hb:=ac hb hC2
  clear hC0 hC1 hC2 h5 h6 hX CM hq n_k KK1
  go_wp2_with fail
  have KK2:∀ W,Below y6.heap.size y6 W->W.cell? ⟨w.heap.size,0,none⟩=some (.int .i64 cn)∧W.cell? ⟨w.heap.size,1,none⟩=some (.int .i64 s01)∧W.cell? ⟨w.heap.size,2,none⟩=some (.int .i64 s02)∧W.cell? ⟨w.heap.size,3,none⟩=some (.int .i64 co)∧W.cell? ⟨w.heap.size,4,none⟩=some (.int .i64 s11)∧W.cell? ⟨w.heap.size,5,none⟩=some (.int .i64 s12)∧W.cell? ⟨w.heap.size,6,none⟩=some (.int .i64 s20)∧W.cell? ⟨w.heap.size,7,none⟩=some (.int .i64 s21)∧W.cell? ⟨w.heap.size,8,none⟩=some (.int .i64 s22)∧W.cell? ⟨w.heap.size,9,none⟩=some (.int .i64 s30)∧W.cell? ⟨w.heap.size,10,none⟩=some (.int .i64 s31)∧W.cell? ⟨w.heap.size,11,none⟩=some (.int .i64 s32)∧W.cell? ⟨w.heap.size,12,none⟩=some (.int .i64 s40)∧W.cell? ⟨w.heap.size,13,none⟩=some (.int .i64 s41)∧W.cell? ⟨w.heap.size,14,none⟩=some (.int .i64 s42)∧W.cell? ⟨gv,0,none⟩=some (.int .i64 vs)∧W.cell? ⟨gv,1,none⟩=some (.int .i64 st):=fun W hb=>⟨aj (af l_k 0 rfl) hb,aj (af l_k 1 rfl) hb,aj (af l_k 2 rfl) hb,aj (af l_k 3 rfl) hb,aj (af l_k 4 rfl) hb,aj (af l_k 5 rfl) hb,aj (af l_k 6 rfl) hb,aj (af l_k 7 rfl) hb,aj (af l_k 8 rfl) hb,aj (af l_k 9 rfl) hb,aj (af l_k 10 rfl) hb,aj (af l_k 11 rfl) hb,aj (af l_k 12 rfl) hb,aj (af l_k 13 rfl) hb,aj (af l_k 14 rfl) hb,aj (af v_k 0 rfl) hb,aj (af v_k 1 rfl) hb⟩
  have hC0:=(al y6).drew
  have hT0:Below w.heap.size w y6.drew:=hb.drew
  go_region_held3 (fun W=>W.cell? ⟨w.heap.size,0,none⟩=some (.int .i64 cn)∧W.cell? ⟨w.heap.size,1,none⟩=some (.int .i64 s01)∧W.cell? ⟨w.heap.size,2,none⟩=some (.int .i64 s02)∧W.cell? ⟨w.heap.size,3,none⟩=some (.int .i64 co)∧W.cell? ⟨w.heap.size,4,none⟩=some (.int .i64 s11)∧W.cell? ⟨w.heap.size,5,none⟩=some (.int .i64 s12)∧W.cell? ⟨w.heap.size,6,none⟩=some (.int .i64 s20)∧W.cell? ⟨w.heap.size,7,none⟩=some (.int .i64 s21)∧W.cell? ⟨w.heap.size,8,none⟩=some (.int .i64 s22)∧W.cell? ⟨w.heap.size,9,none⟩=some (.int .i64 s30)∧W.cell? ⟨w.heap.size,10,none⟩=some (.int .i64 s31)∧W.cell? ⟨w.heap.size,11,none⟩=some (.int .i64 s32)∧W.cell? ⟨w.heap.size,12,none⟩=some (.int .i64 s40)∧W.cell? ⟨w.heap.size,13,none⟩=some (.int .i64 s41)∧W.cell? ⟨w.heap.size,14,none⟩=some (.int .i64 s42)∧W.cell? ⟨gv,0,none⟩=some (.int .i64 vs)∧W.cell? ⟨gv,1,none⟩=some (.int .i64 st))
    (with_reducible first|assumption|exact KK2 _ hC0|exact KK2 _ hC1|fail)
    (first
      | (go_at_call 10;refine(lJ _ _).mono ?_;rintro _ wz ⟨rfl,hwz⟩;replace hwz:=hwz.symm;subst hwz)
      | (go_at_call 17; refine (CR.out _).mono ?_; rintro _ yS ⟨rfl,hwS⟩; have hC1:=ac hC0 hwS; have hT1:=ac hT0 hwS))
  go_wp2
  all_goals go_ret
  all_goals exact⟨bt (by simp),by first|exact hT1|exact hT1.drew⟩
theorem sC {s:Nat->Nat->Int} (w:World) (hr:∀ i k,ax (s i k)) (H:bR w) :
  Calls prog 4 #[.agg #[.int .i64 (s 0 0),.int .i64 (s 0 1),.int .i64 (s 0 2),.int .i64 (s 1 0),.int .i64 (s 1 1),.int .i64 (s 1 2),.int .i64 (s 2 0),.int .i64 (s 2 1),.int .i64 (s 2 2),.int .i64 (s 3 0),.int .i64 (s 3 1),.int .i64 (s 3 2),.int .i64 (s 4 0),.int .i64 (s 4 1),.int .i64 (s 4 2)]] w fun e w'=>e=.returned (.bool true)∧Below w.heap.size w w':=by
 cases hok:br (ce s) 5
 ·exact te w hr hok H
 ·exact sw w hr hok H
end Go.Proofs.YtcklaogdjpbagaaGreatDoor
namespace Go.Proofs.YtcklaogdjpbagaaGreatDoor
open Go Go.Proofs.Tryz Go.RowKit Go.Proofs.YtcklaogdjpbagaaGreatDoor.M
def mT (s:Nat->Nat->Int):Array Value:=#[.int .i64 (s 0 0),.int .i64 (s 0 1),.int .i64 (s 0 2),.int .i64 (s 1 0),.int .i64 (s 1 1),.int .i64 (s 1 2),.int .i64 (s 2 0),.int .i64 (s 2 1),.int .i64 (s 2 2),.int .i64 (s 3 0),.int .i64 (s 3 1),.int .i64 (s 3 2)]
end Go.Proofs.YtcklaogdjpbagaaGreatDoor
namespace Go.Proofs.YtcklaogdjpbagaaGreatDoor
open Go Go.Proofs.Tryz Go.ChangeShapes Go.WideShapes Go.ChangeAt Go.RowKit Go.Proofs.YtcklaogdjpbagaaGreatDoor.M
def kO (s:Nat->Nat->Int) (b:Bool):List Value:=[.int .i64 (s 0 0),.int .i64 (s 0 1),.int .i64 (s 0 2),.int .i64 (s 1 0),.int .i64 (s 1 1),.int .i64 (s 1 2),.int .i64 (s 2 0),.int .i64 (s 2 1),.int .i64 (s 2 2),.int .i64 (s 3 0),.int .i64 (s 3 1),.int .i64 (s 3 2),.int .i64 (s 4 0),.int .i64 (s 4 1),.int .i64 (s 4 2),.bool b]
theorem pV {H:Type} {enc:TypeId × Value->H} {W:World} {fuel:Nat} {cs:List Value} {y:DataW H × List MemPlace}
  (hf:DataW.trod enc prog W 0 (fun _=>true) true fuel 43 cs=some y):∃ s:Nat->Nat->Int,cs=[.int .i64 (s 0 0),.int .i64 (s 0 1),.int .i64 (s 0 2),.int .i64 (s 1 0),.int .i64 (s 1 1),.int .i64 (s 1 2),.int .i64 (s 2 0),.int .i64 (s 2 1),.int .i64 (s 2 2),.int .i64 (s 3 0),.int .i64 (s 3 1),.int .i64 (s 3 2),.int .i64 (s 4 0),.int .i64 (s 4 1),.int .i64 (s 4 2)]∧∀ i k,ax (s i k):=by
 obtain⟨xs,m,_,_,hl,hx,hf⟩:=DataW.trod_array underlying43 hf
 rw[sv] at hl
 rw[lK] at hf
 have K:∀ i,i<5->∃ a b c:Int,(cs.drop (i*3)).take 3=[.int .i64 a,.int .i64 b,.int .i64 c]∧ax a∧ax b∧ax c:=fun i hi=>
  td ((hf i hi).trans (List.getElem?_eq_getElem (by omega)))
 obtain⟨a0,b0,c0,e0,r0⟩:=K 0 (by decide)
 obtain⟨a1,b1,c1,e1,r1⟩:=K 1 (by decide)
 obtain⟨a2,b2,c2,e2,r2⟩:=K 2 (by decide)
 obtain⟨a3,b3,c3,e3,r3⟩:=K 3 (by decide)
 obtain⟨a4,b4,c4,e4,r4⟩:=K 4 (by decide)
 have hE:cs.drop 15=[]:=List.drop_eq_nil_of_le (by omega)
 have hT:cs=[.int .i64 a0,.int .i64 b0,.int .i64 c0,.int .i64 a1,.int .i64 b1,.int .i64 c1,.int .i64 a2,.int .i64 b2,.int .i64 c2,.int .i64 a3,.int .i64 b3,.int .i64 c3,.int .i64 a4,.int .i64 b4,.int .i64 c4]:=by
  have h0:=od cs 0
  have h1:=od cs 3
  have h2:=od cs 6
  have h3:=od cs 9
  have h4:=od cs 12
  simp only[Nat.reduceMul,Nat.reduceAdd] at h0 h1 h2 h3 h4 e0 e1 e2 e3 e4
  rw[hE,e4] at h4
  rw[h4,e3] at h3
  rw[h3,e2] at h2
  rw[h2,e1] at h1
  rw[h1,e0,List.drop_zero] at h0
  exact h0
 refine⟨fun i=>if i=0 then l3 a0 b0 c0 else if i=1 then l3 a1 b1 c1 else if i=2 then l3 a2 b2 c2 else if i=3 then l3 a3 b3 c3 else l3 a4 b4 c4,?_,fun i k=>?_⟩
 ·rw[hT];rfl
 ·dsimp only
  split
  ·exact lL r0 k
  ·split
   ·exact lL r1 k
   ·split
    ·exact lL r2 k
    ·split
     ·exact lL r3 k
     ·exact lL r4 k
theorem pK:prog.cellsOf 51=16:=by kernel_rfl
theorem tf:prog.cellsOf 4=1:=by kernel_rfl
theorem vd {H:Type} {enc:TypeId × Value->H} {W:World} {n:Nat} {cs:List Value} {x:DataW H × List MemPlace}
  (h:DataW.trod enc prog W 0 (fun _=>true) true n 51 cs=some x):∃ (s:Nat->Nat->Int) (b:Bool),cs=kO s b∧∀ i k,ax (s i k):=by
 obtain⟨xs,m,_,rfl,hl,hlen,hf⟩:=DataW.trod_struct underlying51 h
 rw[pK] at hl
 match xs,hlen with
 | [y0,y1],_=>
  have f0:DataW.trod enc prog W 0 (fun _=>true) true m 43 ((cs.drop 0).take (prog.cellsOf 43))=some y0:=hf 0 _ rfl
  have f1:DataW.trod enc prog W 0 (fun _=>true) true m 4 ((cs.drop 15).take (prog.cellsOf 4))=some y1:=hf 1 _ rfl
  rw[sv,List.drop_zero] at f0
  rw[tf] at f1
  obtain⟨s,e0,r0⟩:=pV f0
  obtain⟨b,e1,_⟩:=DataW.trod_bool underlying4 f1
  refine⟨s,b,?_,r0⟩
  have h15:(cs.drop 15).take 1=cs.drop 15:=List.take_of_length_le (by simp;omega)
  rw[h15] at e1
  have hc:cs=cs.take 15 ++ cs.drop 15:=(List.take_append_drop 15 cs).symm
  rw[hc,e0,e1]
  rfl
def tZ (w:World) (a:Option Addr) (len cap:Nat) (r:Nat->(Nat->Nat->Int) × Bool):Prop :=
 len=0∨∃ b off,a=some ⟨b,off,none⟩∧len<=cap∧cap<=9223372036854775807∧b<w.heap.size∧∀ i,i<len->(∀ j,j<16->w.cell? ⟨b,off+i*16+j,none⟩=(kO (r i).1 (r i).2)[j]?)∧∀ p k,ax ((r i).1 p k)
theorem yX {H:Type} {enc:TypeId × Value->H} {W:World} {fuel:Nat} {a:Option Addr} {len cap:Nat} {x:DataW H × List MemPlace}
  (h:DataW.trod enc prog W 0 (fun _=>true) true fuel 49 [.slice a len cap]=some x) (hw:∀ n ∈ x.1.weights prog 49,n<=reachBytes):∃ r,tZ W a len cap r:=by
 rcases Deep.open_slice underlying49 h with⟨hcs,_⟩|⟨p,l,c,m,n,D,Pl,hcs,_,hl,hm,hmm,hx,hel⟩
 ·simp at hcs
  obtain⟨rfl,rfl,rfl⟩:=hcs
  exact⟨fun _=>(fun _ _=>0,false),.inl rfl⟩
 ·simp at hcs
  obtain⟨rfl,rfl,rfl⟩:=hcs
  simp only[if_true] at hmm
  subst hmm
  by_cases h0:len=0
  ·exact⟨fun _=>(fun _ _=>0,false),.inl h0⟩
  have each:∀ i,i<len->∃ r:(Nat->Nat->Int) × Bool,W.cells? 0 (p.add (i*16)) 16=some (kO r.1 r.2)∧∀ p k,ax (r.1 p k):=by
   intro i hi
   obtain⟨cs',h1,h2⟩:=hel i (by omega)
   rw[pK] at h1
   obtain⟨s,b,rfl,hr⟩:=vd h2
   exact⟨(s,b),h1,hr⟩
  obtain⟨q,hq⟩:=Deep.choose_lt each
  have cell:∀ i j,i<len->j<16->W.cell? ((p.add (i*16)).add j)=(kO (q i).1 (q i).2)[j]?:=by
   intro i j hi hj
   exact(World.cells?_some (hq i hi).1).2.2 j hj
  obtain⟨b,off,spot⟩:=p
  have h2:W.cell? ⟨b,off,spot⟩=some (.int .i64 ((q 0).1 0 0)):=by simpa [Addr.add,kO] using cell 0 0 (by omega) (by omega)
  have hspot:spot=none:=World.cell?_spot h2
  subst hspot
  refine⟨q,.inr ⟨b,off,rfl,hl,by unfold maxLen at hm;exact hm,World.block_lt_of_cell? W _ h2,fun i hi=>⟨fun j hj=>?_,(hq i hi).2⟩⟩⟩
  have x0:=cell i j hi hj
  rw[mt,mt] at x0
  exact x0
end Go.Proofs.YtcklaogdjpbagaaGreatDoor
