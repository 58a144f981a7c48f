/-
  SumsOrders: for any two lists of ints, every int and every way the law returns true: the exact sums of finite floats hang on no order: one list behind the other, turned round, with what is added and taken off again. As a card: the library's tables and the layouts of package bits start as the program's text lays them.
-/
import Derived.Test.YteglfnnbpilheaaDoorPart8
import Derived.Test.YteglfnnbpilheaaDoorCards
import Derived.Test.YteglfnnbpilheaaDoorTie
set_option linter.unusedVariables false
set_option linter.unusedSimpArgs false
namespace Go.Proofs.YteglfnnbpilheaaDoor.sumsOrders
open Go Go.ChangeShapes Go.WideShapes Go.ChangeAt Go.RowKit Go.Proofs.YteglfnnbpilheaaDoor Go.Proofs.YteglfnnbpilheaaDoor.M
set_option maxRecDepth 100000 in
set_option maxHeartbeats 8000000 in
theorem walk (a0:Option Addr) (l0 c0:Nat) (z0:Nat->Int) (a1:Option Addr) (l1 c1:Nat) (z1:Nat->Int) (x way:Int) (w:World) (h0:Row w a0 l0 c0 z0) (hz0:∀ i,i < l0->rng (z0 i)) (h1:Row w a1 l1 c1 z1) (hz1:∀ i,i < l1->rng (z1 i)) (rx:rng x) (rw:rng way) (H:Hold4 w) :
    Calls Tryd.prog 4 #[.slice a0 l0 c0,.slice a1 l1 c1,.int .i64 x,.int .i64 way] w fun e w'=>e=.returned (.bool true)∧Below w.heap.size w w':=by
  obtain ⟨k,hk,hk0⟩:=way5 rw
  have CF:Hid (∀ W,Below w.heap.size w W->Calls Tryd.prog 6 #[.slice a0 l0 c0,.int .i64 200] W fun r w'=>∃ v m d,r=.returned v∧Out W.heap.size w' v m d∧m <= 200∧(∀ i,i < m->rng (d i)∧pok (d i)=true)∧Below W.heap.size W w'):=fun W h=>fin5 200 (by omega) W (h0.keeps h) hz0 (H.keeps h)
  have CG:Hid (∀ W,Below w.heap.size w W->Calls Tryd.prog 6 #[.slice a1 l1 c1,.int .i64 200] W fun r w'=>∃ v m d,r=.returned v∧Out W.heap.size w' v m d∧m <= 200∧(∀ i,i < m->rng (d i)∧pok (d i)=true)∧Below W.heap.size W w'):=fun W h=>fin5 200 (by omega) W (h1.keeps h) hz1 (H.keeps h)
  have HK:Hid (0 <= k∧k <= 3):=hk0
  have HH:Hid (Hold4 w):=H
  have HRX:Hid (rng x):=rx
  clear h0 hz0 h1 hz1 rw hk0 H rx
  go_enter Tryd.func4,Tryd.ntmps4
  go_wp2_with fail
  refine (CF.out _ (bel_refl _)).mono ?_
  rintro _ y1 ⟨va,n1,da,rfl,hOa,hn1,HA0,hb1⟩
  have HA:Hid (Fin5 da n1):=HA0
  obtain ⟨ao,ac,rfl,hRa⟩:=hOa.row
  go_wp2_with fail
  refine (CG.out _ hb1).mono ?_
  rintro _ y2 ⟨vb,n2,db,rfl,hOb,hn2,HB0,hb2⟩
  have HB:Hid (Fin5 db n2):=HB0
  obtain ⟨bo,bc,rfl,hRb⟩:=hOb.row
  have RA0:=hRa.keeps hb2
  have HRA:Hid (Row y2 ao n1 ac da):=RA0
  have HRB:Hid (Row y2 bo n2 bc db):=hRb
  have hla:=RA0.le
  have hma:=RA0.max
  have hlb:=hRb.le
  have hmb:=hRb.max
  have hbY:=bel_trans hb1 hb2
  clear HA0 HB0 CF CG hRa hRb hOa hOb RA0 hb1 hb2
  go_wp2_with fail
  go_loopw [11,12] (fun o i wr=>∃ (j:Nat),j <= n1∧i=.int .i64 ((n1:Int) - 1 - j)∧Out y2.heap.size wr o j (fun t=>da (n1 - 1 - t))∧Below y2.heap.size y2 wr) (fun _ i _=>(intOf i + 1).toNat)
  case atStart=>exact ⟨0,Nat.zero_le _,by go_num,Out.nil _ _ _,bel_refl _⟩
  case round=>
    obtain ⟨j,hj,rfl,hO1,hbw⟩:=hrel
    by_cases hlt:j < n1
    . have j0:(0:Int) <= (n1:Int) - 1 - j:=by omega
      obtain ⟨ba,fa,rfl,hba,hca⟩:=HRA.out.spot (by omega)
      have c1:=(hbw.cell (p:=⟨ba,fa + (n1 - 1 - j),none⟩) hba).trans (hca (n1 - 1 - j) (by omega))
      obtain ⟨i,hi⟩:∃ i:Nat,i=n1 - 1 - j:=⟨_,rfl⟩
      have hi2:(n1:Int) - 1 - j=(i:Int):=by omega
      rw [<- hi] at c1
      rw [hi2] at j0 ⊢
      have j1:(i:Int) < (n1:Int):=by omega
      have HI:Hid (i=n1 - 1 - j∧(n1:Int) - 1 - j=(i:Int)):=⟨hi,hi2⟩
      clear hca hi hi2
      obtain ⟨dv,hdv⟩:∃ y,da i=y:=⟨_,rfl⟩
      rw [hdv] at c1
      have HDV:Hid (da i=dv):=hdv
      clear hdv
      go_wp2_with (at_builtin; refine wpList_app rfl _ _ rfl y2.heap.size _ j (fun t=>da (n1 - 1 - t)) rfl (hO1.stays (bel_alloc _ _)) _ 1 1 (fun _=>dv) rfl (row1 _ _ rfl) (by omega) (by have:=hbw.size; simp; omega) ?_; intro v' w3 hO3 hg3)
      have hb3:Below y2.heap.size y2 w3:=(hbw.alloc hbw.size _).grown hg3 (by have:=hbw.size; simp; omega) (own_ge hO1)
      go_roundw
      case rel=>
        refine ⟨j + 1,by omega,?_,hO3.congr (fun t ht=>?_),hb3⟩
        . have:=HI.out; go_num
        . have e:=HI.out.1
          unfold cat
          by_cases q:t < j
          . rw [if_pos q]
          . rw [if_neg q]
            show dv=da (n1 - 1 - t)
            rw [show n1 - 1 - t=i by omega,HDV.out]
      case measure=>have:=HI.out; simp [intOf]; try omega
    . have ejm:j=n1:=by omega
      subst ejm
      have j0:¬ (0:Int) <= (j:Int) - 1 - j:=by omega
      obtain ⟨ko,kc,rfl,hR1⟩:=hO1.row
      have hbA:=bel_trans hbY hbw
      have RAw:=HRA.out.keeps hbw
      have RBw:=HRB.out.keeps hbw
      have HRAw:Hid (∀ W,Below wr.heap.size wr W->Row W ao j ac da):=fun W h=>RAw.keeps h
      have HRBw:Hid (∀ W,Below wr.heap.size wr W->Row W bo n2 bc db):=fun W h=>RBw.keeps h
      have HRKw:Hid (∀ W,Below wr.heap.size wr W->Row W ko j kc (fun t=>da (j - 1 - t))):=fun W h=>hR1.keeps h
      have CS:Hid (∀ W o n c d,Below wr.heap.size wr W->Row W o n c d->Fin5 d n->n <= 1000->Calls Tryd.prog 7 #[.slice o n c,.int .i64 k] W fun r w'=>∃ p,r=.returned (.tuple #[.int .i64 p,.int .i64 0])∧Rd5 k (sm5 d n) p∧Below W.heap.size W w'):=fun W o n c d h R f hn=>Sum5 k HK.out W R f hn (HH.out.keeps (bel_trans hbA h))
      have CA:Hid (∀ W,Below wr.heap.size wr W->Calls Tryd.prog 11 #[] W fun r w'=>r=.returned (.bool true)∧Below W.heap.size W w'):=fun W h=>alive5 W (HH.out.keeps (bel_trans hbA h))
      have CC:Hid (∀ W,Below wr.heap.size wr W->Calls Tryd.prog 12 #[.int .i64 x] W fun e w'=>e=.returned (.int .i64 (cls x))∧Below W.heap.size W w'):=fun W h=>(bitsClass _ W (HH.out.keeps (bel_trans hbA h)).env.lays).mono fun e w' q=>⟨q.1,q.2.be⟩
      have CN:Hid (∀ W,Below wr.heap.size wr W->Calls Tryd.prog 13 #[.int .i64 x] W fun e w'=>e=.returned (.int .i64 (neg x))∧Below W.heap.size W w'):=fun W h=>(bitsNeg _ W (HH.out.keeps (bel_trans hbA h)).env.lays HRX.out).mono fun e w' q=>⟨q.1,q.2.be⟩
      clear hR1 hO1 RAw RBw
      have hw0:=bel_refl wr
      go_wp2_with (first | (have _t:=hg1; at_builtin; refine wpList_app rfl _ _ rfl wr.heap.size _ (0 + j) (cat (fun _=>0) 0 da) rfl hO1 (bo) (n2) (bc) (db) rfl (HRBw.out _ (bel_trans hw0 hz1)) (by omega) hz1.size ?_; intro v2 q2 hO2 hg2) | (at_builtin; refine wpList_app rfl _ _ rfl wr.heap.size _ 0 (fun _=>0) rfl (Out.nil _ _ _) (ao) (j) (ac) (da) rfl (HRAw.out _ hw0) (by omega) (Nat.le_refl _) ?_; intro v1 q1 hO1 hg1; have hz1:Below wr.heap.size wr q1:=(bel_refl wr).grown hg1 (Nat.le_refl _) (fun g hg=>by have h:(none:Option Nat)=some g:=hg; cases h)))
      have hz2:Below wr.heap.size wr q2:=hz1.grown hg2 hz1.size (own_ge hO1)
      obtain ⟨so1,sc1,rfl,sR1⟩:=hO2.row
      refine (CS.out _ _ _ _ _ (bel_trans hw0 hz2) sR1 (((Fin5.nil _).cat HA.out).cat HB.out) (by omega)).mono ?_
      rintro _ u1 ⟨p1,rfl,P1,hu1⟩
      have h_u1:=bel_trans (bel_trans hw0 hz2) hu1
      clear hO1 hO2 hg1 hg2 hz1 hz2 sR1
      go_wp2_with (first | (have _t:=hg3; at_builtin; refine wpList_app rfl _ _ rfl u1.heap.size _ (0 + n2) (cat (fun _=>0) 0 db) rfl hO3 (ko) (j) (kc) ((fun t=>da (j - 1 - t))) rfl (HRKw.out _ (bel_trans h_u1 hz3)) (by omega) hz3.size ?_; intro v4 q4 hO4 hg4) | (at_builtin; refine wpList_app rfl _ _ rfl u1.heap.size _ 0 (fun _=>0) rfl (Out.nil _ _ _) (bo) (n2) (bc) (db) rfl (HRBw.out _ h_u1) (by omega) (Nat.le_refl _) ?_; intro v3 q3 hO3 hg3; have hz3:Below u1.heap.size u1 q3:=(bel_refl u1).grown hg3 (Nat.le_refl _) (fun g hg=>by have h:(none:Option Nat)=some g:=hg; cases h)))
      have hz4:Below u1.heap.size u1 q4:=hz3.grown hg4 hz3.size (own_ge hO3)
      obtain ⟨so3,sc3,rfl,sR3⟩:=hO4.row
      refine (CS.out _ _ _ _ _ (bel_trans h_u1 hz4) sR3 (((Fin5.nil _).cat HB.out).cat HA.out.rev) (by omega)).mono ?_
      rintro _ u2 ⟨p3,rfl,P3,hu3⟩
      have h_u2:=bel_trans (bel_trans h_u1 hz4) hu3
      clear hO3 hO4 hg3 hg4 hz3 hz4 sR3
      obtain rfl:p1=p3:=by
        rw [sm5_cat,sm5_cat,sm5_nil] at P1 P3
        rw [sm5_rev] at P3
        refine P1.unique ?_
        rw [show 0 + sm5 da j + sm5 db n2=0 + sm5 db n2 + sm5 da j by omega]
        exact P3
      clear P1 P3
      go_wp2_with (at_builtin; refine wpList_app rfl _ _ rfl u2.heap.size _ 0 (fun _=>0) rfl (Out.nil _ _ _) (ao) (j) (ac) (da) rfl (HRAw.out _ h_u2) (by omega) (Nat.le_refl _) ?_; intro v5 q5 hO5 hg5; have hz5:Below u2.heap.size u2 q5:=(bel_refl u2).grown hg5 (Nat.le_refl _) (fun g hg=>by have h:(none:Option Nat)=some g:=hg; cases h))
      obtain ⟨mo,mc,rfl,mR⟩:=hO5.row
      have h5:=bel_trans h_u2 hz5
      clear hO5 hg5
      cases hp:pok x
      . have e0:=cls_ge3 hp
        generalize cls x=cx at *
        refine (CC.out _ h5).mono ?_
        rintro _ u3 ⟨rfl,hu3⟩
        have h6:=bel_trans h5 hu3
        have mR2:=mR.keeps hu3
        have mF2:Fin5 (cat (fun _=>0) 0 da) (0 + j)∧sm5 (cat (fun _=>0) 0 da) (0 + j)=sm5 da j:=⟨(Fin5.nil _).cat HA.out,by rw [sm5_cat,sm5_nil,Int.zero_add]⟩
        rw [Nat.zero_add] at mR2 mF2
        have HM:=hideIt mR2
        have HMF:=hideIt mF2
        clear mR mR2 mF2
        go_wp2_with fail
        refine (CS.out _ _ _ _ _ h6 (HRAw.out _ h6) HA.out (by omega)).mono ?_
        rintro _ u4 ⟨p7,rfl,P7,hu4⟩
        have h7:=bel_trans h6 hu4
        go_wp2_with fail
        refine (CS.out _ _ _ _ _ h7 (HM.out.keeps hu4) HMF.out.1 (by omega)).mono ?_
        rintro _ u5 ⟨p8,rfl,P8,hu5⟩
        rw [HMF.out.2] at P8
        obtain rfl:=P7.unique P8
        have h8:=bel_trans h7 hu5
        go_wp2_with fail
        refine (CA.out _ h8).mono ?_
        rintro _ u6 ⟨rfl,hu6⟩
        go_wp2
        go_ret
        exact ⟨rfl,bel_trans hbA (bel_trans h8 hu6)⟩
      . have e0:=cls_lt3 hp
        obtain ⟨x1,x2,x3⟩:=opp5 HRX.out hp
        generalize cls x=cx at *
        refine (CC.out _ h5).mono ?_
        rintro _ u3 ⟨rfl,hu3⟩
        have h6:=bel_trans h5 hu3
        clear mR
        have HNX:Hid (patV (neg x)=-patV x∧rng (neg x)∧pok (neg x)=true∧pok x=true):=⟨x1,x2,x3,hp⟩
        generalize neg x=nx at *
        clear x1 x2 x3
        have hL1:=bel_alloc u3 (.cells #[.int .i64 x] 3)
        have hL2:=out_lit5 u3 x
        go_wp2_with (at_builtin; refine wpList_app rfl _ _ rfl u3.heap.size _ 1 (fun _=>x) rfl hL2 ao j ac da rfl (HRAw.out _ (bel_trans h6 hL1)) (by omega) hL1.size ?_; intro v9 q9 hO9 hg9)
        have hz9:Below u3.heap.size u3 q9:=hL1.grown hg9 hL1.size (own_ge hL2)
        refine (CN.out _ (bel_trans h6 hz9)).mono ?_
        rintro _ q10 ⟨rfl,hu10⟩
        have hz10:=bel_trans hz9 hu10
        have hO10:=hO9.stays hu10
        go_wp2_with (at_builtin; refine wpList_app rfl _ _ rfl u3.heap.size _ (1 + j) (cat (fun _=>x) 1 da) rfl (hO10.stays (bel_alloc _ _)) _ 1 1 (fun _=>nx) rfl (row1 _ _ rfl) (by omega) (by have:=hz10.size; simp; omega) ?_; intro v11 q11 hO11 hg11)
        have hz11:Below u3.heap.size u3 q11:=(hz10.alloc hz10.size _).grown hg11 (by have:=hz10.size; simp; omega) (own_ge hO10)
        obtain ⟨no,nc,rfl,nR⟩:=hO11.row
        clear hO9 hO10 hO11 hg9 hg11 hL1 hL2 hz9 hz10 hu10
        have HMF:Hid (Fin5 (cat (cat (fun _=>x) 1 da) (1 + j) (fun _=>nx)) (1 + j + 1)∧sm5 (cat (cat (fun _=>x) 1 da) (1 + j) (fun _=>nx)) (1 + j + 1)=sm5 da j):=⟨((Fin5.one HRX.out HNX.out.2.2.2).cat HA.out).cat (Fin5.one HNX.out.2.1 HNX.out.2.2.1),by rw [sm5_cat,sm5_cat,sm5_one,sm5_one,HNX.out.1]; omega⟩
        have h6:=bel_trans h6 hz11
        have mF2:=HMF.out
        clear HMF
        obtain ⟨nm,hnm⟩:∃ q,1 + j + 1=q:=⟨_,rfl⟩
        have HNM:Hid (nm <= 1000):=(show nm <= 1000 by omega)
        rw [hnm] at nR mF2 ⊢
        have HM:=hideIt nR
        have HMF:=hideIt mF2
        clear nR hz11 mF2 hnm
        refine (CS.out _ _ _ _ _ h6 (HRAw.out _ h6) HA.out (by omega)).mono ?_
        rintro _ u4 ⟨p7,rfl,P7,hu4⟩
        have h7:=bel_trans h6 hu4
        go_wp2_with fail
        refine (CS.out _ _ _ _ _ h7 (HM.out.keeps hu4) HMF.out.1 HNM.out).mono ?_
        rintro _ u5 ⟨p8,rfl,P8,hu5⟩
        rw [HMF.out.2] at P8
        obtain rfl:=P7.unique P8
        have h8:=bel_trans h7 hu5
        go_wp2_with fail
        refine (CA.out _ h8).mono ?_
        rintro _ u6 ⟨rfl,hu6⟩
        go_wp2
        go_ret
        exact ⟨rfl,bel_trans hbA (bel_trans h8 hu6)⟩
theorem own:ownKnob Tryd.prog.godebug=none:=by kernel_rfl
theorem laidOut:laidOutB Tryd.prog=true:=by kernel_rfl
theorem door_met (os:Os) (args:Array Value):laidMetH Tryd.prog Rows.sumsOrdersRow.laid ((World.doorLaid Tryd.prog 400 os).forCall (fun _ _=>0) ⟨#[],args,[]⟩).memory :=
  laidMetH_of_parts3 (fuel:=8) (laidMet_of_run' 8 (by kernel_rfl) (by kernel_rfl)) (by kernel_rfl) (by kernel_rfl)
set_option maxRecDepth 100000 in
theorem lifted (os:Os) (started:os.Started) (H:Type) (enc:TypeId × Value->H) :
    ReturnsInHanded {} Tryd.checked os 4 .any (fun w args=>(Rows.sumsOrdersSpec.pre enc Tryd.prog Tryd.f4 [] false w args∧laidMetH Tryd.prog Rows.sumsOrdersRow.laid w)∧sizedMet enc Tryd.prog Tryd.f4 (OpenSpec.ofChange Rows.sumsOrdersSpec) false w args)
      (Rows.sumsOrdersSpec.post enc Tryd.prog Tryd.f4 false true false false):=by
  refine returnsInHanded_of_change_and (C:=Tryd.checked) (X:=fun w _=>laidMetH Tryd.prog Rows.sumsOrdersRow.laid w) (fun _ _ _ hh h=>h.of_heap hh) own started (by kernel_rfl) Tryd.func4
    (ChangeSpec.witness_shaped (enc:=enc) (C:=Tryd.checked) (os:=os) (X:=fun w _=>laidMetH Tryd.prog Rows.sumsOrdersRow.laid w) false (World.doorLaid Tryd.prog 400 os) #[.slice none 0 0,.slice none 0 0,.int .i64 0,.int .i64 0] 8 rfl (World.shaped_of_RefB (by kernel_rfl) (by kernel_rfl)) (by kernel_rfl) (by kernel_rfl) (by kernel_rfl) (door_met os _)) ?_
  intro W base args ds gs before hval0 hW _ _ hL _
  have hval:∀ (j:Nat) t v,Tryd.f4.params[j]?=some t->args[j]?=some v->Value.okWide Tryd.prog W .any base t v:=hval0
  have hW':=hW
  obtain ⟨p,q,hA0,hV,rfl,hfz,hnd⟩:=hW
  have hA:DataW.TrodAll enc Tryd.prog W 0 (fun _=>true) true Tryd.f4.params.toList args.toList ds p:=hA0
  rw [Tryd.params4] at hA hval
  obtain ⟨v0,vs0,d0,ds0,p0,q0,hargs,rfl,rfl,h0,r0⟩:=trodAll_cons hA
  obtain ⟨v1,vs1,d1,ds1,p1,q1,rfl,rfl,rfl,h1,r1⟩:=trodAll_cons r0
  obtain ⟨v2,vs2,d2,ds2,p2,q2,rfl,rfl,rfl,h2,r2⟩:=trodAll_cons r1
  obtain ⟨v3,vs3,d3,ds3,p3,q3,rfl,rfl,rfl,h3,r3⟩:=trodAll_cons r2
  obtain ⟨rfl,rfl,rfl⟩:=trodAll_nil r3
  obtain rfl:args=#[v0,v1,v2,v3]:=by cases args; simp_all
  obtain ⟨rfl,rfl⟩:=trodVars_none hV
  obtain ⟨a0,l0,c0,rfl⟩:=okWide_slice Tryd.underlying22 (hval 0 22 v0 rfl rfl)
  have k0:=h0
  have lt0:∀ x ∈ p0,x.block < W.heap.size:=by obtain ⟨m,hm⟩:=k0; exact DataW.trod_lt m _ _ _ hm
  obtain ⟨z0,w0,g0⟩:=row_of h0
  obtain ⟨a1,l1,c1,rfl⟩:=okWide_slice Tryd.underlying22 (hval 1 22 v1 rfl rfl)
  have k1:=h1
  have lt1:∀ x ∈ p1,x.block < W.heap.size:=by obtain ⟨m,hm⟩:=k1; exact DataW.trod_lt m _ _ _ hm
  obtain ⟨z1,w1,g1⟩:=row_of h1
  obtain ⟨a2,rfl,rfl,rfl,w2⟩:=open_int Tryd.underlying3 (hval 2 3 v2 rfl rfl) h2
  obtain ⟨a3,rfl,rfl,rfl,w3⟩:=open_int Tryd.underlying3 (hval 3 3 v3 rfl rfl) h3
  clear hA0 hval0
  refine (walk a0 l0 c0 z0 a1 l1 c1 z1 a2 a3 W w0 g0 w1 g1 (rng_of w2) (rng_of w3) (hold4_of hL)).mono fun e W' ⟨he,bel⟩=>?_
  subst he
  exact ⟨_,rfl,_,_,_,[],_,[],hW',trodAll_mk1 (shut_bool Tryd.underlying4 _),(trodAll_cons_mk (Below.trod laidOut (by kernel_rfl) (of_decide_eq_true (by kernel_rfl)) k0 bel lt0) (trodAll_cons_mk (Below.trod laidOut (by kernel_rfl) (of_decide_eq_true (by kernel_rfl)) k1 bel lt1) (trodAll_cons_mk (shut_int Tryd.underlying3 w2) (trodAll_cons_mk (shut_int Tryd.underlying3 w3) trodAll_mk0)))),rfl,bel.frame _,fun h=>by cases h⟩
theorem said:Rows.SumsOrdersSaid :=
  OpenClaim.holds_of_wide 4 Tryd.f4 rfl rfl rfl rfl rfl rfl rfl ⟨rfl,rfl,rfl,rfl,rfl⟩ rfl rfl rfl rfl rfl (by kernel_rfl) Tryd.func4 (by kernel_rfl)
    (of_decide_eq_true (by kernel_rfl)) (by unfold Func.isWrapper; first | (rw [if_pos (by decide +kernel)]; kernel_rfl) | (rw [if_neg (by decide +kernel)]; exact ⟨rfl,rfl⟩))
    (fun os started H enc _=>lifted os started H enc)
theorem plain (f:FuncId) (fn:Func) (hf:Tryd.pinned.checked.prog.funcNamed Tryd.f4.name=some f) (hfn:Tryd.pinned.checked.prog.funcs[f]?=some fn) :
    true=Tryd.pinned.checked.prog.looks []∧∀ (j:Nat) t,fn.params[j]?=some t->Tryd.pinned.checked.prog.wantsStandIn t=false:=by
  obtain rfl:f=4:=Option.some.inj ((show Tryd.prog.funcNamed Tryd.f4.name=some 4 by kernel_rfl).symm.trans hf) |>.symm
  obtain rfl:fn=Tryd.f4:=(Option.some.inj (Tryd.func4.symm.trans hfn)).symm
  refine ⟨by kernel_rfl,fun j t ht=>?_⟩
  rw [Tryd.params4] at ht
  have ht2:t=22∨t=3:=by simpa using Array.mem_of_getElem? ht
  rcases ht2 with rfl | rfl
  . exact (show Tryd.prog.wantsStandIn 22=false by kernel_rfl)
  . exact (show Tryd.prog.wantsStandIn 3=false by kernel_rfl)
theorem card:Rows.SumsOrdersCardSaid :=
  Claim7.holds_tied_plain_at .later [] _ _ _ _ said (fun _ h=>by cases h) (by kernel_rfl) (fun _ h=>by cases h) sumsOrders_row_tie rfl ⟨rfl,rfl⟩ (by kernel_rfl) rfl plain (by kernel_rfl)
end Go.Proofs.YteglfnnbpilheaaDoor.sumsOrders
namespace Go.Proofs.YteglfnnbpilheaaDoor
theorem sumsOrders_holds:Rows.SumsOrdersCardSaid:=sumsOrders.card
end Go.Proofs.YteglfnnbpilheaaDoor
