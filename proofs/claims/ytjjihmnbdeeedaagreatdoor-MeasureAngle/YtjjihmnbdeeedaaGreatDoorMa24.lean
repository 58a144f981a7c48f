/- Parts of the proof. -/
import Derived.Test.YtjjihmnbdeeedaaGreatDoorMa22
import Derived.Deep.RegionHeld3
set_option maxRecDepth 100000
set_option maxHeartbeats 40000000
set_option linter.unusedVariables false
set_option linter.unusedSimpArgs false
namespace Go.Proofs.YtjjihmnbdeeedaaGreatDoor
open Go Go.Proofs.Tryz Go.RowKit Go.Proofs.YtjjihmnbdeeedaaGreatDoor.M
theorem Rs (wy:Int) (hwy:wy=0∨wy=1∨wy=2∨wy=3) (ao:Option Addr) (n cap:Nat) (d:Nat->Int) (exp:Int) (more:Bool) (w:World) (h:aU w ao n cap d) (nb:Nat) (E lw:Int) (K:Nat) (hf rs:Bool) (l:Int) (F:Fj ao n cap d exp more nb E lw K hf rs l) :
    Calls prog 234 #[eC,.bool true,.slice ao n cap,G6 exp,.bool more,G6 wy] w fun e w'=>e=.returned (.tuple #[G6 (eK wy true hf rs K E).1,.bool (eK wy true hf rs K E).2])∧Below w.heap.size w w':=by
  obtain⟨hnb,he,hlw,hE,hEl,hK,hl,hr1,hr2,hr3,hm1,hm2,CB,CS,CL,CI,CW,CJ⟩:=F
  obtain⟨way,hway⟩:∃ way,way=wy:=⟨_,rfl⟩
  rw[show G6 wy=G6 way by rw[hway]]
  have HC:Hid (way=0∨way=1∨way=2∨way=3):=by rw[hway];exact hwy
  have HY:Hid (way=wy):=hway
  clear hway hwy
  unfold eC at *
  have hba:=af w (.cells #[G6 53,G6 (-1074),G6 1024,G6 9218868437227405312,G6 (-9223372036854775808)] 147)
  have q0:=heap_alloc_new w (.cells #[G6 53,G6 (-1074),G6 1024,G6 9218868437227405312,G6 (-9223372036854775808)] 147)
  have HR:Hid (aU (w.alloc (.cells #[G6 53,G6 (-1074),G6 1024,G6 9218868437227405312,G6 (-9223372036854775808)] 147)) ao n cap d):=h.keeps hba
  have k0:=ae q0 0 rfl
  have k1:=ae q0 1 rfl
  have k2:=ae q0 2 rfl
  have k3:=ae q0 3 rfl
  have k4:=ae q0 4 rfl
  have hse:lw+exp=E:=by omega
  have wl:IntKind.i64.wrap (-lw)=-lw:=by rw[bK];omega
  have wl1:IntKind.i64.wrap (lw-1)=lw-1:=by rw[bK];omega
  have hfc:hf=false∨hf=true:=by cases hf<;>simp
  go_enter func234,ntmps234
  go_wp2_with fail
  generalize w.alloc (.cells #[G6 53,G6 (-1074),G6 1024,G6 9218868437227405312,G6 (-9223372036854775808)] 147)=wx at hba q0 k0 k1 k2 k3 k4 HR ⊢
  refine(CB _ HR.out).mono ?_
  rintro _ _ ⟨rfl,rfl⟩
  go_wp2_with fail
  refine(CS _ HR.out).mono ?_
  rintro _ w1 ⟨so,sn,sc,rfl,hb1,hN1⟩
  have HR1:Hid (aU w1 ao n cap d):=HR.out.keeps hb1
  have hbw:=ac hba hb1
  have p0:=(hb1.block _ (aGe q0).1).trans q0
  have k0':=ae p0 0 rfl
  have k1':=ae p0 1 rfl
  have k2':=ae p0 2 rfl
  have k3':=ae p0 3 rfl
  have k4':=ae p0 4 rfl
  clear k0 k1 k2 k3 k4 CS CB hm1 hm2 q0 HR hb1
  rcases hfc with hfb|hfb
  all_goals
    rw[hfb] at CI
    have HF:Hid (hf=_):=hfb
    clear hfb
    by_cases c0:lw<0
    focus
      have hmo:more=false:=by
        cases more
        · rfl
        · exact absurd (hr1 rfl).2 (by omega)
      subst hmo
      have HRS:Hid (rs=false):=hr2 rfl (by omega)
      clear hr1 hr2 hr3 hN1
      go_wp2_with fail
      refine(CL c0 _ HR1.out).mono ?_
      rintro _ wq ⟨so,sn,sc,rfl,hb2,hN2⟩
      have HR1:Hid (aU wq ao n cap d):=HR1.out.keeps hb2
      have hbw:=ac hbw hb2
      have p1:=(hb2.block _ (aGe p0).1).trans p0
      have k0':=ae p1 0 rfl
      have k1':=ae p1 1 rfl
      have k2':=ae p1 2 rfl
      have k3':=ae p1 3 rfl
      have k4':=ae p1 4 rfl
      have HN:Hid (dU wq (.slice so sn sc) K):=hN2
      clear hN2 CL hb2
      obtain⟨ao',n',ca',dk,e1,hRk,hNk,hVk⟩:=HN.out
      simp only[Value.slice.injEq] at e1
      obtain⟨rfl,rfl,rfl⟩:=e1
      have hmx:=hRk.max
      have hle:=hRk.le
      have HRk:Hid (aU wq so sn sc dk):=hRk
      have HNk:Hid (cT dk sn):=hNk
      have HVk:Hid (val dk sn=K):=hVk
      have HV1:Hid (val dk sn<9223372036854775808):=by unfold Hid;omega
      clear hRk hNk hVk HN
      go_wp2_with fail
      refine(CI _ HR1.out).mono ?_
      rintro _ wq ⟨rfl,rfl⟩
      go_wp2_with fail
    rotate_right
    focus
      have HN:Hid (dU w1 (.slice so sn sc) K):=hN1 (by omega)
      clear hN1 CL
      obtain⟨wq,rfl⟩:∃ wq,wq=w1:=⟨_,rfl⟩
      obtain⟨ao',n',ca',dk,e1,hRk,hNk,hVk⟩:=HN.out
      simp only[Value.slice.injEq] at e1
      obtain⟨rfl,rfl,rfl⟩:=e1
      have hmx:=hRk.max
      have hle:=hRk.le
      have HRk:Hid (aU wq so sn sc dk):=hRk
      have HNk:Hid (cT dk sn):=hNk
      have HVk:Hid (val dk sn=K):=hVk
      have HV1:Hid (val dk sn<9223372036854775808):=by unfold Hid;omega
      clear hRk hNk hVk HN
      cases more
      focus
        by_cases c1:lw<=1
        focus
          have HRS:Hid (rs=false):=hr2 rfl c1
          clear hr1 hr2 hr3
          go_wp2_with fail
          refine(CI _ HR1.out).mono ?_
          rintro _ wq ⟨rfl,rfl⟩
          go_wp2_with fail
        rotate_right
        focus
          have hrs:=hr3 rfl (by omega)
          clear hr1 hr2 hr3
          by_cases c2:l<lw-1
          focus
            have hc2:decide (l<lw-1)=true:=decide_eq_true c2
            have HRS:Hid (rs=true):=hrs.trans hc2
            clear hrs
            go_wp2_with fail
            refine(CI _ HR1.out).mono ?_
            rintro _ wq ⟨rfl,rfl⟩
            go_wp2_with fail
            refine(CW _ HR1.out).mono ?_
            rintro _ wq ⟨rfl,rfl⟩
            go_wp2_with fail
            refine(CW _ HR1.out).mono ?_
            rintro _ wq ⟨rfl,rfl⟩
            go_wp2_with fail
          rotate_right
          focus
            have hc2:decide (l<lw-1)=false:=decide_eq_false c2
            have HRS:Hid (rs=false):=hrs.trans hc2
            clear hrs
            go_wp2_with fail
            refine(CI _ HR1.out).mono ?_
            rintro _ wq ⟨rfl,rfl⟩
            go_wp2_with fail
            refine(CW _ HR1.out).mono ?_
            rintro _ wq ⟨rfl,rfl⟩
            go_wp2_with fail
            refine(CW _ HR1.out).mono ?_
            rintro _ wq ⟨rfl,rfl⟩
            go_wp2_with fail
      rotate_right
      focus
        have HRS:Hid (rs=true):=(hr1 rfl).1
        clear hr1 hr2 hr3
        go_wp2_with fail
        refine(CI _ HR1.out).mono ?_
        rintro _ wq ⟨rfl,rfl⟩
        go_wp2_with fail
    all_goals
      go_loop [20,21] (fun mv iv=>∃ (j:Nat) (W:Int),j<=sn∧iv=G6 ((j:Int)-1)∧mv=G6 W∧0<=W∧Hid (W*P j+val dk j=val dk sn)) (fun _ iv=>(intOf iv+1).toNat)
      case atStart=>exact⟨sn,0,Nat.le_refl _,rfl,rfl,by omega,by show _=_;omega⟩
      case round=>
        obtain⟨j,W,hj,rfl,rfl,hW0,HW⟩:=hrel
        by_cases hj0:0<j
        · obtain⟨m,rfl⟩:∃ m,j=m+1:=⟨j-1,by omega⟩
          have em:((m+1:Nat):Int)-1=m:=by omega
          obtain⟨hb1,hb2⟩:=wn (HNk.out.1.le hj) HW.out hW0 HV1.out
          have HB2':Hid ((W*1073741824+dk m)*P m+val dk m=val dk sn):=hb2
          obtain⟨ba,fa,hba,hblt,hca⟩:=HRk.out.spot (by omega)
          subst hba
          have c1:=hca m (by omega)
          have dm:=HNk.out.1 m (by omega)
          rw[em]
          clear hb2 hca
          go_wp2
          go_round
          case rel=>exact⟨m,W*1073741824+dk m,by omega,rfl,rfl,by omega,HB2'.out⟩
          case measure=>simp[intOf];try omega
        · obtain rfl:j=0:=by omega
          have HWK:Hid ((K:Int)=W):=by
            have h:=HW.out
            rw[show P 0=1 from rfl,show val dk 0=0 from rfl,HVk.out] at h
            show _=_
            omega
          have hW1:W<9007199254740992:=by have:=HWK.out;omega
          clear hK HW HRk HNk HVk HV1
          rcases HC.out with rfl|rfl|rfl|rfl
          all_goals clear HC
          all_goals
            as_aux_lemma=>
              rcases Bool.eq_false_or_eq_true (ig wy true hf rs K) with hA|hA
              all_goals try (exfalso;simp[ig,<- HY.out,HF.out,HRS.out] at hA;done)
              all_goals
                first
                  | (
                    have hU1:ig wy true hf rs K=true:=hA
                    have HUU:Hid (K+(if ig wy true hf rs K then 1 else 0)=K+1):=by show _=_;rw[hU1];rfl
                    clear hU1
                    try simp[ig,<- HY.out,HF.out,HRS.out] at hA
                    try (have hp1:W % 2=1:=by have:=HWK.out;omega)
                    obtain⟨Ui,hUi⟩:∃ Ui,W+1=Ui:=⟨_,rfl⟩
                    obtain⟨Un,hUn⟩:∃ Un,K+1=Un:=⟨_,rfl⟩
                    have HI:Hid (((Un:Nat):Int)=Ui):=by have:=HWK.out;show _=_;omega
                    rw[hUn] at HUU
                    clear hUn)
                  | (
                    have hU1:ig wy true hf rs K=false:=hA
                    obtain⟨Un,hUn⟩:∃ Un,Un=K:=⟨_,rfl⟩
                    have HUU:Hid (K+(if ig wy true hf rs K then 1 else 0)=Un):=by show _=_;rw[hU1,hUn];rfl
                    clear hU1
                    try simp[ig,<- HY.out,HF.out,HRS.out] at hA
                    try (have hp1:W % 2=0:=by have:=HWK.out;omega)
                    obtain⟨Ui,rfl⟩:∃ Ui,Ui=W:=⟨_,rfl⟩
                    have HI:Hid (((Un:Nat):Int)=Ui):=by have:=HWK.out;show _=_;omega
                    clear hUn)
                clear HWK
                by_cases u0:Ui<=0
                · first
                    | (exfalso;omega)
                    | (
                      have hno:¬ (4503599627370496<=Ui∧1024<(aQ Ui:Int)+E):=fun q=>by omega
                      have hg0:decide (0<Ui)=false:=decide_eq_false (by omega)
                      obtain⟨J,hJ,hJr,CJ⟩:=CJ Ui (by omega) (by omega)
                      have HT0:Hid (eK wy true hf rs K E=_):=mD Un Ui HI.out HUU.out hno
                      have HT1:Hid ((eK wy true hf rs K E).1=-9223372036854775808+J):=by rw[HT0.out,<- hJ];simp[Hid]
                      clear hJ hno
                      go_wp2_with fail
                      go_quiet (fail)
                      go_wp2_with fail
                      refine(CJ _).mono ?_
                      rintro _ w3 ⟨rfl,hb3⟩
                      go_wp2
                      all_goals go_ret2
                      all_goals first
                        | exact⟨cM HT1.out.symm (show true=_ by rw[HT0.out];simp[HF.out,HRS.out]),ac (cV hbw _) hb3⟩
                        | exact ⟨cM HT1.out.symm (show false=_ by rw [HT0.out]; simp [HF.out,HRS.out]),ac (cV hbw _) hb3⟩)
                have hg0:decide (0<Ui)=true:=decide_eq_true (by omega)
                by_cases u1:Ui<4503599627370496
                · have hno:¬ (4503599627370496<=Ui∧1024<(aQ Ui:Int)+E):=fun q=>by omega
                  have hg1:decide (4503599627370496<=Ui)=false:=decide_eq_false (by omega)
                  obtain⟨J,hJ,hJr,CJ⟩:=CJ Ui (by omega) (by omega)
                  have HT0:Hid (eK wy true hf rs K E=_):=mD Un Ui HI.out HUU.out hno
                  have HT1:Hid ((eK wy true hf rs K E).1=-9223372036854775808+J):=by rw[HT0.out,<- hJ];simp[Hid]
                  clear hJ hno
                  go_wp2_with fail
                  go_quiet (fail)
                  go_wp2_with fail
                  refine(CJ _).mono ?_
                  rintro _ w3 ⟨rfl,hb3⟩
                  go_wp2
                  all_goals go_ret2
                  all_goals first
                    | exact⟨cM HT1.out.symm (show true=_ by rw[HT0.out];simp[HF.out,HRS.out]),ac (cV hbw _) hb3⟩
                    | exact⟨cM HT1.out.symm (show false=_ by rw[HT0.out];simp[HF.out,HRS.out]),ac (cV hbw _) hb3⟩
                have HBO:Hid (∀ Wd,Calls prog 276 #[G6 Ui] Wd fun e w'=>e=.returned (G6 (aQ Ui))∧w'=Wd):=fun Wd=>ul _ Wd (by omega) (by omega)
                have hg1:decide (4503599627370496<=Ui)=true:=decide_eq_true (by omega)
                have hblu:aQ Ui<=60:=fO (by show _<(1152921504606846976:Int);omega)
                by_cases u2:1024<(aQ Ui:Int)+E
                · have HT0:=By (way:=wy) (ng:=true) (hf:=hf) (rs:=rs) (K:=K) (E:=E) Un Ui HI.out HUU.out ⟨by omega,u2⟩
                  first
                    | have HT1:Hid ((eK wy true hf rs K E).1=(-4503599627370496)):=by rw[HT0,<- HY.out];rfl
                    | have HT1:Hid ((eK wy true hf rs K E).1=(-4503599627370497)):=by rw[HT0,<- HY.out];rfl
                  have HT2:Hid ((eK wy true hf rs K E).2=true):=by first|(rw[HT0];done)|(rw[HT0];rfl)
                  clear HT0
                  generalize aQ Ui=bu at HBO hblu u2
                  have hg2:decide (1024<(bu:Int)+E)=true:=decide_eq_true u2
                  go_wp2_with fail
                  go_quiet ((go_at_call 276;exact Calls.quiet_of_same (HBO.out _)))
                  go_wp2
                  all_goals go_ret2
                  all_goals exact⟨cM HT1.out.symm HT2.out.symm,cV hbw _⟩
                · have hno:¬ (4503599627370496<=Ui∧1024<(aQ Ui:Int)+E):=fun q=>u2 q.2
                  have HNO:Hid (¬ (4503599627370496<=Ui∧1024<(aQ Ui:Int)+E)):=hno
                  clear hno
                  obtain⟨bu,hbu⟩:∃ bu,aQ Ui=bu:=⟨_,rfl⟩
                  rw[hbu] at HBO hblu u2
                  have hg2:decide (1024<(bu:Int)+E)=false:=decide_eq_false u2
                  clear hbu
                  have hno:=HNO.out
                  obtain⟨J,hJ,hJr,CJ⟩:=CJ Ui (by omega) (by omega)
                  have HT0:Hid (eK wy true hf rs K E=_):=mD Un Ui HI.out HUU.out hno
                  have HT1:Hid ((eK wy true hf rs K E).1=-9223372036854775808+J):=by rw[HT0.out,<- hJ];simp[Hid]
                  clear hJ hno
                  go_wp2_with fail
                  go_quiet ((go_at_call 276;exact Calls.quiet_of_same (HBO.out _)))
                  go_wp2_with fail
                  refine(CJ _).mono ?_
                  rintro _ w3 ⟨rfl,hb3⟩
                  go_wp2
                  all_goals go_ret2
                  all_goals first
                    | exact⟨cM HT1.out.symm (show true=_ by rw[HT0.out];simp[HF.out,HRS.out]),ac (cV hbw _) hb3⟩
                    | exact⟨cM HT1.out.symm (show false=_ by rw[HT0.out];simp[HF.out,HRS.out]),ac (cV hbw _) hb3⟩
end Go.Proofs.YtjjihmnbdeeedaaGreatDoor
