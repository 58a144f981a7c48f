/-
  SumsSpecial: for every list of ints and any two ints the law returns true: beside finite floats an infinity is told, both infinities or what is no number tell that, Norm's infinity goes ahead of all; ways that are none are refused. As a card: the library's tables and the layouts of package bits start as the program's text lays them.
-/
import Derived.Test.YteglfnnbpilheaaGreatDoorPart9
import Derived.Test.YteglfnnbpilheaaGreatDoorCards
import Derived.Test.YteglfnnbpilheaaGreatDoorTie
set_option linter.unusedVariables false
set_option linter.unusedSimpArgs false
namespace Go.Proofs.YteglfnnbpilheaaGreatDoor.sumsSpecial
open Go Go.ChangeShapes Go.WideShapes Go.ChangeAt Go.RowKit Go.Proofs.YteglfnnbpilheaaGreatDoor Go.Proofs.YteglfnnbpilheaaGreatDoor.M
set_option maxRecDepth 100000 in
set_option maxHeartbeats 8000000 in
theorem walk (a0:Option Addr) (l0 c0:Nat) (z0:Nat->Int) (at' what:Int) (w:World) (h0:Row w a0 l0 c0 z0) (hz0:∀ i,i < l0->rng (z0 i)) (rat:rng at') (rwh:rng what) (H:Hold4 w) :
    Calls Tryz.prog 4 #[.slice a0 l0 c0,.int .i64 at',.int .i64 what] w fun e w'=>e=.returned (.bool true)∧Below w.heap.size w w':=by
  obtain ⟨kk,hkw,hkk⟩:=way5 rwh
  obtain ⟨z,hz30,hzl⟩:=and30 rat
  have CF:Hid (∀ W,Below w.heap.size w W->Calls Tryz.prog 19 #[.slice a0 l0 c0,.int .i64 100] W fun r w'=>∃ v m d,r=.returned v∧Out W.heap.size w' v m d∧m <= 100∧(∀ i,i < m->rng (d i)∧pok (d i)=true)∧Below W.heap.size W w'):=fun W h=>fin5 100 (by omega) W (h0.keeps h) hz0 (H.keeps h)
  have CN:Hid (∀ W,Below w.heap.size w W->Calls Tryz.prog 20 #[.int .i64 9218868437227405312] W fun e w'=>e=.returned (.int .i64 (-4503599627370496))∧Below W.heap.size W w'):=fun W h=>by
    have q:=bitsNeg 9218868437227405312 W (H.keeps h).env.lays (by unfold rng; decide)
    rw [show neg 9218868437227405312=(-4503599627370496) by decide] at q
    exact q.mono fun e w' q=>⟨q.1,q.2.be⟩
  have HH:=hideIt H
  clear h0 hz0 rat rwh H
  go_enter Tryz.func4,Tryz.ntmps4
  go_wp2_with fail
  refine (CF.out _ (bel_refl _)).mono ?_
  rintro _ y0 ⟨v,n,d,rfl,hO,hn,HD0,hb1⟩
  have HD:Hid (Fin5 d n):=HD0
  have hv:∀ vo vc,v=.slice vo n vc->vo=none∨∃ g,vo=some ⟨g,0,none⟩:=fun vo vc e=>by
    subst e
    rcases hO.2 with ⟨h,_⟩ | ⟨g',cap',cur,e,_⟩
    . simp at h; exact .inl h.1
    . simp only [Value.slice.injEq] at e; exact .inr ⟨g',e.1⟩
  obtain ⟨vo,vc,rfl,hR0⟩:=hO.row
  replace hv:=hv vo vc rfl
  clear HD0 CF hO
  go_wp2_with fail
  refine (CN.out _ hb1).mono ?_
  rintro _ y ⟨rfl,hy⟩
  have hby:=bel_trans hb1 hy
  have hR:=hR0.keeps hy
  have HW:∀ W,Below y.heap.size y W->Hold4 W:=fun W h=>HH.out.keeps (bel_trans hby h)
  have hw4:wrap64 (4 + kk)=4 + kk:=IntWalk.wrap64_in _ ⟨by omega,by omega⟩
  have hu0:=bel_refl y
  have hla:=hR.le
  have hma:=hR.max
  clear hR0 hy hb1 CN
  by_cases hn0:n=0
  . obtain ⟨k,hk,K,hK,hK0⟩:∃ k,k <= n∧∃ K:Int,K=(k:Int)∧K=0:=⟨0,by omega,0,rfl,rfl⟩
    have C1:Hid (∀ W so N sc,Below y.heap.size y W->Row W so N sc (pt5 d k (fun _=>9218868437227405312) 1)->N=k + 1 + (n - k)->Calls Tryz.prog 10 #[.slice so N sc,.int .i64 kk] W fun r w'=>r=.returned (.tuple #[.int .i64 9218868437227405312,.int .i64 0])∧Below W.heap.size W w'):=fun W so N sc h R hN=>by
      subst hN
      exact SumSp kk hkk W R (pt_rng HD.out (fun i hi=>by show rng _; unfold rng; decide) hk) (by omega) (by unfold Spc; simp) ((pt_one1 HD.out hk rfl).trans v_inf) (HW W h)
    have C2:Hid (∀ W so N sc,Below y.heap.size y W->Row W so N sc (pt5 d k (fun i=>if i=0 then (-4503599627370496) else (-4503599627370496)) 2)->N=k + 2 + (n - k)->Calls Tryz.prog 10 #[.slice so N sc,.int .i64 kk] W fun r w'=>r=.returned (.tuple #[.int .i64 (-4503599627370496),.int .i64 0])∧Below W.heap.size W w'):=fun W so N sc h R hN=>by
      subst hN
      exact SumSp kk hkk W R (pt_rng HD.out (fun i hi=>by show rng (if i=0 then _ else _); split <;> (unfold rng; decide)) hk) (by omega) (by unfold Spc; simp) ((pt_two1 HD.out hk rfl rfl).trans v_low) (HW W h)
    have C3:Hid (∀ W so N sc,Below y.heap.size y W->Row W so N sc (pt5 d k (fun i=>if i=0 then 9218868437227405312 else (-4503599627370496)) 2)->N=k + 2 + (n - k)->Calls Tryz.prog 10 #[.slice so N sc,.int .i64 kk] W fun r w'=>r=.returned (.tuple #[.int .i64 9221120237041090561,.int .i64 0])∧Below W.heap.size W w'):=fun W so N sc h R hN=>by
      subst hN
      exact SumSp kk hkk W R (pt_rng HD.out (fun i hi=>by show rng (if i=0 then _ else _); split <;> (unfold rng; decide)) hk) (by omega) (by unfold Spc; simp) ((pt_two1 HD.out hk rfl rfl).trans v_both) (HW W h)
    have C4:Hid (∀ W so N sc,Below y.heap.size y W->Row W so N sc (pt5 d k (fun i=>if i=0 then 9221120237041090561 else 9218868437227405312) 2)->N=k + 2 + (n - k)->Calls Tryz.prog 10 #[.slice so N sc,.int .i64 kk] W fun r w'=>r=.returned (.tuple #[.int .i64 9221120237041090561,.int .i64 0])∧Below W.heap.size W w'):=fun W so N sc h R hN=>by
      subst hN
      exact SumSp kk hkk W R (pt_rng HD.out (fun i hi=>by show rng (if i=0 then _ else _); split <;> (unfold rng; decide)) hk) (by omega) (by unfold Spc; simp) ((pt_two1 HD.out hk rfl rfl).trans v_none) (HW W h)
    have C5:Hid (∀ W so N sc,Below y.heap.size y W->Row W so N sc (pt5 d k (fun i=>if i=0 then 9221120237041090561 else (-4503599627370496)) 2)->N=k + 2 + (n - k)->Calls Tryz.prog 11 #[.slice so N sc,.int .i64 kk] W fun r w'=>r=.returned (.tuple #[.int .i64 9218868437227405312,.int .i64 0])∧Below W.heap.size W w'):=fun W so N sc h R hN=>by
      subst hN
      have q:=NormSp (p:=9221120237041090561) true kk hkk W R (pt_rng HD.out (fun i hi=>by show rng (if i=0 then _ else _); split <;> (unfold rng; decide)) hk) (by omega) (by unfold Spc; simp) ((pt_two2 HD.out hk rfl rfl).trans v_nn) ⟨(fun _=>⟨k + 1,by omega,by rw [pt5_mid (by omega)]; decide⟩),(fun _=>rfl)⟩ (HW W h)
      simpa using q
    have C6:Hid (∀ W so N sc,Below y.heap.size y W->Row W so N sc (pt5 d k (fun _=>9221120237041090561) 1)->N=k + 1 + (n - k)->Calls Tryz.prog 11 #[.slice so N sc,.int .i64 kk] W fun r w'=>r=.returned (.tuple #[.int .i64 9221120237041090561,.int .i64 0])∧Below W.heap.size W w'):=fun W so N sc h R hN=>by
      subst hN
      have q:=NormSp (p:=9221120237041090561) false kk hkk W R (pt_rng HD.out (fun i hi=>by show rng _; unfold rng; decide) hk) (by omega) (by unfold Spc; simp) ((pt_one2 HD.out hk rfl).trans v_n1) ⟨(fun h=>by cases h),(fun h=>absurd h (pt_noinf HD.out hk (fun i hi=>by show ¬ cls _=3; decide)))⟩ (HW W h)
      simpa using q
    have C7:Hid (∀ W so N sc po pc,Below y.heap.size y W->Row W so N sc (pt5 d k (fun _=>9218868437227405312) 1)->Row W po N pc (pt5 d k (fun _=>0) 1)->N=k + 1 + (n - k)->Calls Tryz.prog 22 #[.slice so N sc,.slice po N pc,.int .i64 kk] W fun r w'=>r=.returned (.tuple #[.int .i64 9221120237041090561,.int .i64 0])∧Below W.heap.size W w'):=fun W so N sc po pc h R R2 hN=>by
      subst hN
      exact DotSp kk hkk W R R2 (pt_rng HD.out (fun i hi=>by show rng _; unfold rng; decide) hk) (pt_rng HD.out (fun i hi=>by show rng _; unfold rng; decide) hk) (by omega) (by unfold Spc; simp) ((pt_one2 HD.out hk rfl).trans v_i0) (HW W h)
    have C8:Hid (∀ W,Calls Tryz.prog 10 #[.slice vo n vc,.int .i64 (4 + kk)] W fun r w'=>r=.returned (.tuple #[.int .i64 0,.int .i64 1])∧Below W.heap.size W w'):=fun W=>SumWay (4 + kk) (by omega) W
    have CA:Hid (∀ W,Below y.heap.size y W->Calls Tryz.prog 7 #[] W fun r w'=>r=.returned (.bool true)∧Below W.heap.size W w'):=fun W h=>alive5 W (HW W h)
    have PT:Hid (∀ W xo m xc X,Below y.heap.size y W->Row W xo m xc X->m <= 2->Calls Tryz.prog 21 #[.slice vo n vc,.int .i64 K,.slice xo m xc] W fun r w'=>∃ v N,r=.returned v∧Hid (N=k + m + (n - k))∧Out W.heap.size w' v N (pt5 d k X m)∧Below W.heap.size W w'):=fun W xo m xc X h R hm=>by
      subst hK
      refine (put5 W (hR.keeps h) hv R hk (by omega) (by omega)).mono ?_
      rintro _ w' ⟨v,rfl,hO,hb⟩
      exact ⟨v,_,rfl,rfl,hO,hb⟩
    have j0:¬ (0:Int) < (n:Int):=by omega
    subst hK0
    clear hR HW hv hn0 hK
    go_wp2_with fail
    refine (PT.out _ _ _ _ _ (bel_trans hu0 (bel_alloc _ _)) (row1 _ _ rfl) (by omega)).mono ?_
    rintro _ q1 ⟨v,N1,rfl,hN1,hO,hq⟩
    obtain ⟨so1,sc1,rfl,sR1⟩:=hO.row
    have hz1:=bel_trans (bel_trans hu0 (bel_alloc _ _)) hq
    have HS1:=hideIt sR1
    clear hO hq sR1
    go_wp2_with fail
    refine (C1.out _ _ _ _ hz1 HS1.out hN1.out).mono ?_
    rintro _ u1 ⟨rfl,hu1⟩
    replace hu1:=bel_trans hz1 hu1
    clear hz1 HS1 hN1
    go_wp2_with fail
    refine (PT.out _ _ _ _ _ (bel_trans hu1 (bel_alloc _ _)) (row2d _ _ _ rfl) (by omega)).mono ?_
    rintro _ q2 ⟨v,N2,rfl,hN2,hO,hq⟩
    obtain ⟨so2,sc2,rfl,sR2⟩:=hO.row
    have hz2:=bel_trans (bel_trans hu1 (bel_alloc _ _)) hq
    have HS2:=hideIt sR2
    clear hO hq sR2
    go_wp2_with fail
    refine (C2.out _ _ _ _ hz2 HS2.out hN2.out).mono ?_
    rintro _ u2 ⟨rfl,hu2⟩
    replace hu2:=bel_trans hz2 hu2
    clear hz2 HS2 hN2
    go_wp2_with fail
    refine (PT.out _ _ _ _ _ (bel_trans hu2 (bel_alloc _ _)) (row2d _ _ _ rfl) (by omega)).mono ?_
    rintro _ q3 ⟨v,N3,rfl,hN3,hO,hq⟩
    obtain ⟨so3,sc3,rfl,sR3⟩:=hO.row
    have hz3:=bel_trans (bel_trans hu2 (bel_alloc _ _)) hq
    have HS3:=hideIt sR3
    clear hO hq sR3
    go_wp2_with fail
    refine (C3.out _ _ _ _ hz3 HS3.out hN3.out).mono ?_
    rintro _ u3 ⟨rfl,hu3⟩
    replace hu3:=bel_trans hz3 hu3
    clear hz3 HS3 hN3
    go_wp2_with fail
    refine (PT.out _ _ _ _ _ (bel_trans hu3 (bel_alloc _ _)) (row2d _ _ _ rfl) (by omega)).mono ?_
    rintro _ q4 ⟨v,N4,rfl,hN4,hO,hq⟩
    obtain ⟨so4,sc4,rfl,sR4⟩:=hO.row
    have hz4:=bel_trans (bel_trans hu3 (bel_alloc _ _)) hq
    have HS4:=hideIt sR4
    clear hO hq sR4
    go_wp2_with fail
    refine (C4.out _ _ _ _ hz4 HS4.out hN4.out).mono ?_
    rintro _ u4 ⟨rfl,hu4⟩
    replace hu4:=bel_trans hz4 hu4
    clear hz4 HS4 hN4
    go_wp2_with fail
    refine (PT.out _ _ _ _ _ (bel_trans hu4 (bel_alloc _ _)) (row2d _ _ _ rfl) (by omega)).mono ?_
    rintro _ q5 ⟨v,N5,rfl,hN5,hO,hq⟩
    obtain ⟨so5,sc5,rfl,sR5⟩:=hO.row
    have hz5:=bel_trans (bel_trans hu4 (bel_alloc _ _)) hq
    have HS5:=hideIt sR5
    clear hO hq sR5
    go_wp2_with fail
    refine (C5.out _ _ _ _ hz5 HS5.out hN5.out).mono ?_
    rintro _ u5 ⟨rfl,hu5⟩
    replace hu5:=bel_trans hz5 hu5
    clear hz5 HS5 hN5
    go_wp2_with fail
    refine (PT.out _ _ _ _ _ (bel_trans hu5 (bel_alloc _ _)) (row1 _ _ rfl) (by omega)).mono ?_
    rintro _ q6 ⟨v,N6,rfl,hN6,hO,hq⟩
    obtain ⟨so6,sc6,rfl,sR6⟩:=hO.row
    have hz6:=bel_trans (bel_trans hu5 (bel_alloc _ _)) hq
    have HS6:=hideIt sR6
    clear hO hq sR6
    go_wp2_with fail
    refine (C6.out _ _ _ _ hz6 HS6.out hN6.out).mono ?_
    rintro _ u6 ⟨rfl,hu6⟩
    replace hu6:=bel_trans hz6 hu6
    clear hz6 HS6 hN6
    go_wp2_with fail
    refine (PT.out _ _ _ _ _ (bel_trans hu6 (bel_alloc _ _)) (row1 _ _ rfl) (by omega)).mono ?_
    rintro _ q7 ⟨v,N7,rfl,hN7,hO,hq⟩
    obtain ⟨so7,sc7,rfl,sR7⟩:=hO.row
    have hz7:=bel_trans (bel_trans hu6 (bel_alloc _ _)) hq
    have HS7:=hideIt sR7
    clear hO hq sR7
    go_wp2_with fail
    refine (PT.out _ _ _ _ _ (bel_trans hz7 (bel_alloc _ _)) (row1 _ _ rfl) (by omega)).mono ?_
    rintro _ q8 ⟨v,N8,rfl,hN8,hO,hq⟩
    have hq9:=hq
    obtain ⟨so8,sc8,rfl,sR8⟩:=hO.row
    have hz8:=bel_trans (bel_trans hz7 (bel_alloc _ _)) hq
    have HS8:=hideIt sR8
    clear hO hq sR8
    have hN9:N8=N7:=hN8.out.trans hN7.out.symm
    subst hN9
    go_wp2_with fail
    refine (C7.out _ _ _ _ _ _ hz8 (HS7.out.keeps (bel_trans (bel_alloc _ _) hq9)) HS8.out hN7.out).mono ?_
    rintro _ u9 ⟨rfl,hu9⟩
    replace hu9:=bel_trans hz8 hu9
    go_wp2_with fail
    refine (C8.out _).mono ?_
    rintro _ u10 ⟨rfl,hu10⟩
    replace hu10:=bel_trans hu9 hu10
    go_wp2_with fail
    refine (CA.out _ hu10).mono ?_
    rintro _ u11 ⟨rfl,hu11⟩
    go_wp2
    go_ret
    exact ⟨rfl,bel_trans hby (bel_trans hu10 hu11)⟩
  . obtain ⟨Z,hZ⟩:∃ Z:Int,(z:Int)=Z:=⟨_,rfl⟩
    have hK2:z % (n + 1) <= n:=by have:=Nat.mod_lt z (show 0 < n + 1 by omega); omega
    have j0:(0:Int) < (n:Int):=by omega
    have hK1:Z.tmod ((n:Int) + 1)=((z % (n + 1):Nat):Int):=by rw [<- hZ]; exact (Int.ofNat_tmod z (n + 1)).symm
    obtain ⟨k,hk,hK⟩:∃ k,k <= n∧Z.tmod ((n:Int) + 1)=(k:Int):=⟨z % (n + 1),hK2,hK1⟩
    have HKK:=hideIt hK
    clear hK hK1 hK2
    have C1:Hid (∀ W so N sc,Below y.heap.size y W->Row W so N sc (pt5 d k (fun _=>9218868437227405312) 1)->N=k + 1 + (n - k)->Calls Tryz.prog 10 #[.slice so N sc,.int .i64 kk] W fun r w'=>r=.returned (.tuple #[.int .i64 9218868437227405312,.int .i64 0])∧Below W.heap.size W w'):=fun W so N sc h R hN=>by
      subst hN
      exact SumSp kk hkk W R (pt_rng HD.out (fun i hi=>by show rng _; unfold rng; decide) hk) (by omega) (by unfold Spc; simp) ((pt_one1 HD.out hk rfl).trans v_inf) (HW W h)
    have C2:Hid (∀ W so N sc,Below y.heap.size y W->Row W so N sc (pt5 d k (fun i=>if i=0 then (-4503599627370496) else (-4503599627370496)) 2)->N=k + 2 + (n - k)->Calls Tryz.prog 10 #[.slice so N sc,.int .i64 kk] W fun r w'=>r=.returned (.tuple #[.int .i64 (-4503599627370496),.int .i64 0])∧Below W.heap.size W w'):=fun W so N sc h R hN=>by
      subst hN
      exact SumSp kk hkk W R (pt_rng HD.out (fun i hi=>by show rng (if i=0 then _ else _); split <;> (unfold rng; decide)) hk) (by omega) (by unfold Spc; simp) ((pt_two1 HD.out hk rfl rfl).trans v_low) (HW W h)
    have C3:Hid (∀ W so N sc,Below y.heap.size y W->Row W so N sc (pt5 d k (fun i=>if i=0 then 9218868437227405312 else (-4503599627370496)) 2)->N=k + 2 + (n - k)->Calls Tryz.prog 10 #[.slice so N sc,.int .i64 kk] W fun r w'=>r=.returned (.tuple #[.int .i64 9221120237041090561,.int .i64 0])∧Below W.heap.size W w'):=fun W so N sc h R hN=>by
      subst hN
      exact SumSp kk hkk W R (pt_rng HD.out (fun i hi=>by show rng (if i=0 then _ else _); split <;> (unfold rng; decide)) hk) (by omega) (by unfold Spc; simp) ((pt_two1 HD.out hk rfl rfl).trans v_both) (HW W h)
    have C4:Hid (∀ W so N sc,Below y.heap.size y W->Row W so N sc (pt5 d k (fun i=>if i=0 then 9221120237041090561 else 9218868437227405312) 2)->N=k + 2 + (n - k)->Calls Tryz.prog 10 #[.slice so N sc,.int .i64 kk] W fun r w'=>r=.returned (.tuple #[.int .i64 9221120237041090561,.int .i64 0])∧Below W.heap.size W w'):=fun W so N sc h R hN=>by
      subst hN
      exact SumSp kk hkk W R (pt_rng HD.out (fun i hi=>by show rng (if i=0 then _ else _); split <;> (unfold rng; decide)) hk) (by omega) (by unfold Spc; simp) ((pt_two1 HD.out hk rfl rfl).trans v_none) (HW W h)
    have C5:Hid (∀ W so N sc,Below y.heap.size y W->Row W so N sc (pt5 d k (fun i=>if i=0 then 9221120237041090561 else (-4503599627370496)) 2)->N=k + 2 + (n - k)->Calls Tryz.prog 11 #[.slice so N sc,.int .i64 kk] W fun r w'=>r=.returned (.tuple #[.int .i64 9218868437227405312,.int .i64 0])∧Below W.heap.size W w'):=fun W so N sc h R hN=>by
      subst hN
      have q:=NormSp (p:=9221120237041090561) true kk hkk W R (pt_rng HD.out (fun i hi=>by show rng (if i=0 then _ else _); split <;> (unfold rng; decide)) hk) (by omega) (by unfold Spc; simp) ((pt_two2 HD.out hk rfl rfl).trans v_nn) ⟨(fun _=>⟨k + 1,by omega,by rw [pt5_mid (by omega)]; decide⟩),(fun _=>rfl)⟩ (HW W h)
      simpa using q
    have C6:Hid (∀ W so N sc,Below y.heap.size y W->Row W so N sc (pt5 d k (fun _=>9221120237041090561) 1)->N=k + 1 + (n - k)->Calls Tryz.prog 11 #[.slice so N sc,.int .i64 kk] W fun r w'=>r=.returned (.tuple #[.int .i64 9221120237041090561,.int .i64 0])∧Below W.heap.size W w'):=fun W so N sc h R hN=>by
      subst hN
      have q:=NormSp (p:=9221120237041090561) false kk hkk W R (pt_rng HD.out (fun i hi=>by show rng _; unfold rng; decide) hk) (by omega) (by unfold Spc; simp) ((pt_one2 HD.out hk rfl).trans v_n1) ⟨(fun h=>by cases h),(fun h=>absurd h (pt_noinf HD.out hk (fun i hi=>by show ¬ cls _=3; decide)))⟩ (HW W h)
      simpa using q
    have C7:Hid (∀ W so N sc po pc,Below y.heap.size y W->Row W so N sc (pt5 d k (fun _=>9218868437227405312) 1)->Row W po N pc (pt5 d k (fun _=>0) 1)->N=k + 1 + (n - k)->Calls Tryz.prog 22 #[.slice so N sc,.slice po N pc,.int .i64 kk] W fun r w'=>r=.returned (.tuple #[.int .i64 9221120237041090561,.int .i64 0])∧Below W.heap.size W w'):=fun W so N sc po pc h R R2 hN=>by
      subst hN
      exact DotSp kk hkk W R R2 (pt_rng HD.out (fun i hi=>by show rng _; unfold rng; decide) hk) (pt_rng HD.out (fun i hi=>by show rng _; unfold rng; decide) hk) (by omega) (by unfold Spc; simp) ((pt_one2 HD.out hk rfl).trans v_i0) (HW W h)
    have C8:Hid (∀ W,Calls Tryz.prog 10 #[.slice vo n vc,.int .i64 (4 + kk)] W fun r w'=>r=.returned (.tuple #[.int .i64 0,.int .i64 1])∧Below W.heap.size W w'):=fun W=>SumWay (4 + kk) (by omega) W
    have CA:Hid (∀ W,Below y.heap.size y W->Calls Tryz.prog 7 #[] W fun r w'=>r=.returned (.bool true)∧Below W.heap.size W w'):=fun W h=>alive5 W (HW W h)
    have PT:Hid (∀ W xo m xc X,Below y.heap.size y W->Row W xo m xc X->m <= 2->Calls Tryz.prog 21 #[.slice vo n vc,.int .i64 (Z.tmod ((n:Int) + 1)),.slice xo m xc] W fun r w'=>∃ v N,r=.returned v∧Hid (N=k + m + (n - k))∧Out W.heap.size w' v N (pt5 d k X m)∧Below W.heap.size W w'):=fun W xo m xc X h R hm=>by
      rw [HKK.out]
      refine (put5 W (hR.keeps h) hv R hk (by omega) (by omega)).mono ?_
      rintro _ w' ⟨v,rfl,hO,hb⟩
      exact ⟨v,_,rfl,rfl,hO,hb⟩
    have j2:¬ ((n:Int) + 1=0):=fun h=>Int.ne_of_gt (Int.lt_add_one_of_le (Int.natCast_nonneg n)) h
    rw [hZ] at hz30
    clear hR HW hv hn0 hZ hzl HKK
    go_wp2_with fail
    refine (PT.out _ _ _ _ _ (bel_trans hu0 (bel_alloc _ _)) (row1 _ _ rfl) (by omega)).mono ?_
    rintro _ q1 ⟨v,N1,rfl,hN1,hO,hq⟩
    obtain ⟨so1,sc1,rfl,sR1⟩:=hO.row
    have hz1:=bel_trans (bel_trans hu0 (bel_alloc _ _)) hq
    have HS1:=hideIt sR1
    clear hO hq sR1
    go_wp2_with fail
    refine (C1.out _ _ _ _ hz1 HS1.out hN1.out).mono ?_
    rintro _ u1 ⟨rfl,hu1⟩
    replace hu1:=bel_trans hz1 hu1
    clear hz1 HS1 hN1
    go_wp2_with fail
    refine (PT.out _ _ _ _ _ (bel_trans hu1 (bel_alloc _ _)) (row2d _ _ _ rfl) (by omega)).mono ?_
    rintro _ q2 ⟨v,N2,rfl,hN2,hO,hq⟩
    obtain ⟨so2,sc2,rfl,sR2⟩:=hO.row
    have hz2:=bel_trans (bel_trans hu1 (bel_alloc _ _)) hq
    have HS2:=hideIt sR2
    clear hO hq sR2
    go_wp2_with fail
    refine (C2.out _ _ _ _ hz2 HS2.out hN2.out).mono ?_
    rintro _ u2 ⟨rfl,hu2⟩
    replace hu2:=bel_trans hz2 hu2
    clear hz2 HS2 hN2
    go_wp2_with fail
    refine (PT.out _ _ _ _ _ (bel_trans hu2 (bel_alloc _ _)) (row2d _ _ _ rfl) (by omega)).mono ?_
    rintro _ q3 ⟨v,N3,rfl,hN3,hO,hq⟩
    obtain ⟨so3,sc3,rfl,sR3⟩:=hO.row
    have hz3:=bel_trans (bel_trans hu2 (bel_alloc _ _)) hq
    have HS3:=hideIt sR3
    clear hO hq sR3
    go_wp2_with fail
    refine (C3.out _ _ _ _ hz3 HS3.out hN3.out).mono ?_
    rintro _ u3 ⟨rfl,hu3⟩
    replace hu3:=bel_trans hz3 hu3
    clear hz3 HS3 hN3
    go_wp2_with fail
    refine (PT.out _ _ _ _ _ (bel_trans hu3 (bel_alloc _ _)) (row2d _ _ _ rfl) (by omega)).mono ?_
    rintro _ q4 ⟨v,N4,rfl,hN4,hO,hq⟩
    obtain ⟨so4,sc4,rfl,sR4⟩:=hO.row
    have hz4:=bel_trans (bel_trans hu3 (bel_alloc _ _)) hq
    have HS4:=hideIt sR4
    clear hO hq sR4
    go_wp2_with fail
    refine (C4.out _ _ _ _ hz4 HS4.out hN4.out).mono ?_
    rintro _ u4 ⟨rfl,hu4⟩
    replace hu4:=bel_trans hz4 hu4
    clear hz4 HS4 hN4
    go_wp2_with fail
    refine (PT.out _ _ _ _ _ (bel_trans hu4 (bel_alloc _ _)) (row2d _ _ _ rfl) (by omega)).mono ?_
    rintro _ q5 ⟨v,N5,rfl,hN5,hO,hq⟩
    obtain ⟨so5,sc5,rfl,sR5⟩:=hO.row
    have hz5:=bel_trans (bel_trans hu4 (bel_alloc _ _)) hq
    have HS5:=hideIt sR5
    clear hO hq sR5
    go_wp2_with fail
    refine (C5.out _ _ _ _ hz5 HS5.out hN5.out).mono ?_
    rintro _ u5 ⟨rfl,hu5⟩
    replace hu5:=bel_trans hz5 hu5
    clear hz5 HS5 hN5
    go_wp2_with fail
    refine (PT.out _ _ _ _ _ (bel_trans hu5 (bel_alloc _ _)) (row1 _ _ rfl) (by omega)).mono ?_
    rintro _ q6 ⟨v,N6,rfl,hN6,hO,hq⟩
    obtain ⟨so6,sc6,rfl,sR6⟩:=hO.row
    have hz6:=bel_trans (bel_trans hu5 (bel_alloc _ _)) hq
    have HS6:=hideIt sR6
    clear hO hq sR6
    go_wp2_with fail
    refine (C6.out _ _ _ _ hz6 HS6.out hN6.out).mono ?_
    rintro _ u6 ⟨rfl,hu6⟩
    replace hu6:=bel_trans hz6 hu6
    clear hz6 HS6 hN6
    go_wp2_with fail
    refine (PT.out _ _ _ _ _ (bel_trans hu6 (bel_alloc _ _)) (row1 _ _ rfl) (by omega)).mono ?_
    rintro _ q7 ⟨v,N7,rfl,hN7,hO,hq⟩
    obtain ⟨so7,sc7,rfl,sR7⟩:=hO.row
    have hz7:=bel_trans (bel_trans hu6 (bel_alloc _ _)) hq
    have HS7:=hideIt sR7
    clear hO hq sR7
    go_wp2_with fail
    refine (PT.out _ _ _ _ _ (bel_trans hz7 (bel_alloc _ _)) (row1 _ _ rfl) (by omega)).mono ?_
    rintro _ q8 ⟨v,N8,rfl,hN8,hO,hq⟩
    have hq9:=hq
    obtain ⟨so8,sc8,rfl,sR8⟩:=hO.row
    have hz8:=bel_trans (bel_trans hz7 (bel_alloc _ _)) hq
    have HS8:=hideIt sR8
    clear hO hq sR8
    have hN9:N8=N7:=hN8.out.trans hN7.out.symm
    subst hN9
    go_wp2_with fail
    refine (C7.out _ _ _ _ _ _ hz8 (HS7.out.keeps (bel_trans (bel_alloc _ _) hq9)) HS8.out hN7.out).mono ?_
    rintro _ u9 ⟨rfl,hu9⟩
    replace hu9:=bel_trans hz8 hu9
    go_wp2_with fail
    refine (C8.out _).mono ?_
    rintro _ u10 ⟨rfl,hu10⟩
    replace hu10:=bel_trans hu9 hu10
    go_wp2_with fail
    refine (CA.out _ hu10).mono ?_
    rintro _ u11 ⟨rfl,hu11⟩
    go_wp2
    go_ret
    exact ⟨rfl,bel_trans hby (bel_trans hu10 hu11)⟩
theorem own:ownKnob Tryz.prog.godebug=none:=by kernel_rfl
theorem laidOut:laidOutB Tryz.prog=true:=by kernel_rfl
theorem door_met (os:Os) (args:Array Value):laidMetH Tryz.prog Rows.sumsSpecialRow.laid ((World.doorLaid Tryz.prog 400 os).forCall (fun _ _=>0) ⟨#[],args,[]⟩).memory :=
  laidMetH_of_parts3 (fuel:=8) (laidMet_of_run' 8 (by kernel_rfl) (by kernel_rfl)) (by kernel_rfl) (by kernel_rfl)
set_option maxRecDepth 100000 in
theorem lifted (os:Os) (started:os.Started) (H:Type) (enc:TypeId × Value->H) :
    ReturnsInHanded {} Tryz.checked os 4 .any (fun w args=>(Rows.sumsSpecialSpec.pre enc Tryz.prog Tryz.f4 [] false w args∧laidMetH Tryz.prog Rows.sumsSpecialRow.laid w)∧sizedMet enc Tryz.prog Tryz.f4 (OpenSpec.ofChange Rows.sumsSpecialSpec) false w args)
      (Rows.sumsSpecialSpec.post enc Tryz.prog Tryz.f4 false true false false):=by
  refine returnsInHanded_of_change_and (C:=Tryz.checked) (X:=fun w _=>laidMetH Tryz.prog Rows.sumsSpecialRow.laid w) (fun _ _ _ hh h=>h.of_heap hh) own started (by kernel_rfl) Tryz.func4
    (ChangeSpec.witness_shaped (enc:=enc) (C:=Tryz.checked) (os:=os) (X:=fun w _=>laidMetH Tryz.prog Rows.sumsSpecialRow.laid w) false (World.doorLaid Tryz.prog 400 os) #[.slice none 0 0,.int .i64 0,.int .i64 0] 8 rfl (World.shaped_of_RefB (by kernel_rfl) (by kernel_rfl)) (by kernel_rfl) (by kernel_rfl) (by kernel_rfl) (door_met os _)) ?_
  intro W base args ds gs before hval0 hW _ _ hL _
  have hval:∀ (j:Nat) t v,Tryz.f4.params[j]?=some t->args[j]?=some v->Value.okWide Tryz.prog W .any base t v:=hval0
  have hW':=hW
  obtain ⟨p,q,hA0,hV,rfl,hfz,hnd⟩:=hW
  have hA:DataW.TrodAll enc Tryz.prog W 0 (fun _=>true) true Tryz.f4.params.toList args.toList ds p:=hA0
  rw [Tryz.params4] at hA hval
  obtain ⟨v0,vs0,d0,ds0,p0,q0,hargs,rfl,rfl,h0,r0⟩:=trodAll_cons hA
  obtain ⟨v1,vs1,d1,ds1,p1,q1,rfl,rfl,rfl,h1,r1⟩:=trodAll_cons r0
  obtain ⟨v2,vs2,d2,ds2,p2,q2,rfl,rfl,rfl,h2,r2⟩:=trodAll_cons r1
  obtain ⟨rfl,rfl,rfl⟩:=trodAll_nil r2
  obtain rfl:args=#[v0,v1,v2]:=by cases args; simp_all
  obtain ⟨rfl,rfl⟩:=trodVars_none hV
  obtain ⟨a0,l0,c0,rfl⟩:=okWide_slice Tryz.underlying24 (hval 0 24 v0 rfl rfl)
  have k0:=h0
  have lt0:∀ x ∈ p0,x.block < W.heap.size:=by obtain ⟨m,hm⟩:=k0; exact DataW.trod_lt m _ _ _ hm
  obtain ⟨z0,w0,g0⟩:=row_of h0
  obtain ⟨a1,rfl,rfl,rfl,w1⟩:=open_int Tryz.underlying3 (hval 1 3 v1 rfl rfl) h1
  obtain ⟨a2,rfl,rfl,rfl,w2⟩:=open_int Tryz.underlying3 (hval 2 3 v2 rfl rfl) h2
  clear hA0 hval0
  refine (walk a0 l0 c0 z0 a1 a2 W w0 g0 (rng_of w1) (rng_of w2) (hold4_of hL)).mono fun e W' ⟨he,bel⟩=>?_
  subst he
  exact ⟨_,rfl,_,_,_,[],_,[],hW',trodAll_mk1 (shut_bool Tryz.underlying4 _),(trodAll_cons_mk (Below.trod laidOut (by kernel_rfl) (of_decide_eq_true (by kernel_rfl)) k0 bel lt0) (trodAll_cons_mk (shut_int Tryz.underlying3 w1) (trodAll_cons_mk (shut_int Tryz.underlying3 w2) trodAll_mk0))),rfl,bel.frame _,fun h=>by cases h⟩
theorem said:Rows.SumsSpecialSaid :=
  OpenClaim.holds_of_wide 4 Tryz.f4 rfl rfl rfl rfl rfl rfl rfl ⟨rfl,rfl,rfl,rfl,rfl⟩ rfl rfl rfl rfl rfl (by kernel_rfl) Tryz.func4 (by kernel_rfl)
    (of_decide_eq_true (by kernel_rfl)) (by unfold Func.isWrapper; first | (rw [if_pos (by decide +kernel)]; kernel_rfl) | (rw [if_neg (by decide +kernel)]; exact ⟨rfl,rfl⟩))
    (fun os started H enc _=>lifted os started H enc)
theorem plain (f:FuncId) (fn:Func) (hf:Tryz.pinned.checked.prog.funcNamed Tryz.f4.name=some f) (hfn:Tryz.pinned.checked.prog.funcs[f]?=some fn) :
    true=Tryz.pinned.checked.prog.looks []∧∀ (j:Nat) t,fn.params[j]?=some t->Tryz.pinned.checked.prog.wantsStandIn t=false:=by
  obtain rfl:f=4:=Option.some.inj ((show Tryz.prog.funcNamed Tryz.f4.name=some 4 by kernel_rfl).symm.trans hf) |>.symm
  obtain rfl:fn=Tryz.f4:=(Option.some.inj (Tryz.func4.symm.trans hfn)).symm
  refine ⟨by kernel_rfl,fun j t ht=>?_⟩
  rw [Tryz.params4] at ht
  have ht2:t=24∨t=3:=by simpa using Array.mem_of_getElem? ht
  rcases ht2 with rfl | rfl
  . exact (show Tryz.prog.wantsStandIn 24=false by kernel_rfl)
  . exact (show Tryz.prog.wantsStandIn 3=false by kernel_rfl)
theorem card:Rows.SumsSpecialCardSaid :=
  Claim7.holds_tied_plain_at .later [] _ _ _ _ said (fun _ h=>by cases h) (by kernel_rfl) (fun _ h=>by cases h) sumsSpecial_row_tie rfl ⟨rfl,rfl⟩ (by kernel_rfl) rfl plain (by kernel_rfl)
end Go.Proofs.YteglfnnbpilheaaGreatDoor.sumsSpecial
namespace Go.Proofs.YteglfnnbpilheaaGreatDoor
theorem sumsSpecial_holds:Rows.SumsSpecialCardSaid:=sumsSpecial.card
end Go.Proofs.YteglfnnbpilheaaGreatDoor
