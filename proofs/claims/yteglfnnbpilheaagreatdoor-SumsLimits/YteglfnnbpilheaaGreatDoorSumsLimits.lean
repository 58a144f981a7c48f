/-
  SumsLimits: the law returns true: of 4,096 floats Sum, Dot and Norm tell the exact sum, rounded once; one more is refused, and so are lists of unlike lengths. As a card: the library's tables and the layouts of package bits start as the program's text lays them.
-/
import Derived.Test.YteglfnnbpilheaaGreatDoorPart11
import Derived.Test.YteglfnnbpilheaaGreatDoorCards
import Derived.Test.YteglfnnbpilheaaGreatDoorTie
set_option linter.unusedVariables false
set_option linter.unusedSimpArgs false
namespace Go.Proofs.YteglfnnbpilheaaGreatDoor.sumsLimits
open Go Go.ChangeShapes Go.WideShapes Go.ChangeAt Go.RowKit Go.Proofs.YteglfnnbpilheaaGreatDoor Go.Proofs.YteglfnnbpilheaaGreatDoor.M
theorem one_ip:ipP 1=4607182418800017408:=by
  have h:=ip_from (n:=1) (by unfold Sm; omega)
  rw [<- h]
  decide +kernel
theorem sum_ones (n:Nat):sumF (fun _=>(1:Int)) n=n:=by
  induction n with
  | zero=>rfl
  | succ n ih=>show sumF (fun _=>(1:Int)) n + 1=_; rw [ih]; omega
theorem ipl {w:World} {o:Option Addr} {n c:Nat} (R:Row w o n c (fun _=>4607182418800017408)) (hn:n <= 5000):IpL w o n c (fun _=>1) 1 :=
  ⟨R.congr fun i hi=>one_ip.symm,by omega,by omega,fun i hi=>by omega,by omega⟩
theorem sqs (n:Nat):sumF (fun i=>patV ((fun _=>4607182418800017408:Nat->Int) i) * patV ((fun _=>4607182418800017408:Nat->Int) i)) n=n * (pw 0 * pw 0):=by
  have e:sumF (fun _=>pw 0 * pw 0) n=n * (pw 0 * pw 0):=by
    generalize pw 0 * pw 0=q
    induction n with
    | zero=>show (0:Int)=_; simp
    | succ n ih=>show sumF (fun _=>q) n + q=_; rw [ih,Int.natCast_add,Int.add_mul]; simp
  rw [<- e]
  exact sumF_congr n fun i hi=>by show patV 4607182418800017408 * patV 4607182418800017408=_; rw [one5]
theorem dot_lim {X:Int} (h:X * 2 ^ 4194304=sumF (fun i=>patV ((fun _=>4607182418800017408:Nat->Int) i) * patV ((fun _=>4607182418800017408:Nat->Int) i)) 4096):X=4096 * pw 0:=by
  rw [sqs,<- pw_zero] at h
  have hp:=pw_pos 0
  generalize pw 0=y at *
  rw [<- Int.mul_assoc] at h
  exact Int.eq_of_mul_eq_mul_right (by omega) h
theorem fin1:rng 4607182418800017408∧pok 4607182418800017408=true:=⟨by unfold rng; decide,by decide⟩
theorem sm64:Sm 64:=by unfold Sm; omega
theorem abs64:canon (abs (ipP 64))=ipP 64:=by
  rw [<- ip_from sm64]
  decide +kernel
set_option maxRecDepth 100000 in
set_option maxHeartbeats 8000000 in
theorem walk (w:World) (H:Hold4 w) :
    Calls Tryz.prog 5 #[] w fun e w'=>e=.returned (.bool true)∧Below w.heap.size w w':=by
  have FN:Hid (∀ W (z:Int),Below w.heap.size w W->Sm z->Calls Tryz.prog 23 #[.int .i64 z,.int .i64 0] W fun r w'=>r=.returned (.tuple #[.int .i64 (ipP z),.int .i64 0])∧Below W.heap.size W w'):=fun W z h hz=>From_ip hz W (H.keeps h)
  have CA:Hid (∀ W,Below w.heap.size w W->Calls Tryz.prog 7 #[] W fun r w'=>r=.returned (.bool true)∧Below W.heap.size W w'):=fun W h=>alive5 W (H.keeps h)
  have S1:Hid (∀ W o c,Below w.heap.size w W->Row W o 4096 c (fun _=>4607182418800017408)->Calls Tryz.prog 10 #[.slice o 4096 c,.int .i64 0] W (fun r w'=>r=.returned (.tuple #[.int .i64 (ipP 4096),.int .i64 0])∧Below W.heap.size W w')∧Calls Tryz.prog 22 #[.slice o 4096 c,.slice o 4096 c,.int .i64 0] W (fun r w'=>r=.returned (.tuple #[.int .i64 (ipP 4096),.int .i64 0])∧Below W.heap.size W w')∧Calls Tryz.prog 11 #[.slice o 4096 c,.int .i64 0] W (fun r w'=>r=.returned (.tuple #[.int .i64 (ipP 64),.int .i64 0])∧Below W.heap.size W w')):=fun W o c h R=>by
    refine ⟨?_,?_,?_⟩
    . have:=Sum_ip (ipl R (by omega)) (by omega) (H.keeps h)
      rw [sum_ones] at this
      exact this
    . refine (dotFW 0 ⟨by omega,by omega⟩ W R R (fun i hi=>fin1) (fun i hi=>fin1) (by omega) (H.keeps h)).mono ?_
      rintro _ w' ⟨x,rfl,ok,hV,hb⟩
      rw [<- ip_rd (n:=4096) (by unfold Sm; omega) ⟨x,ok,dot_lim hV,rfl⟩]
      exact ⟨rfl,hb⟩
    . have q:=norm_by (way:=0) (s:=canon (abs (ipP 64))) (er:=0) false W R (H.keeps h) ⟨(fun h=>by cases h),(fun ⟨i,hi,h⟩=>by have:cls 4607182418800017408=3:=h; revert this; decide)⟩ fun W2 gl h2 hl=>sumR W2 hl (R.keeps h2) (fun i hi=>fin1) (by omega) (H.keeps (bel_trans h h2)) (ip_facts sm64).1 (ip_facts sm64).2.1 (by
        rw [sqs,(ip_facts sm64).2.2.1]
        generalize pw 0=y
        rw [show (64:Int) * y * (64 * y)=4096 * (y * y) by rw [Int.mul_assoc,Int.mul_left_comm y 64 y,<- Int.mul_assoc 64 64]; rfl]
        rfl)
      rw [abs64] at q
      simpa using q
  have S2:Hid (∀ W o c p d,Below w.heap.size w W->Row W o 4097 c (fun _=>4607182418800017408)->Calls Tryz.prog 10 #[.slice o 4097 c,.int .i64 0] W (fun r w'=>r=.returned (.tuple #[.int .i64 0,.int .i64 2])∧Below W.heap.size W w')∧Calls Tryz.prog 22 #[.slice o 4097 c,.slice o 4097 c,.int .i64 0] W (fun r w'=>r=.returned (.tuple #[.int .i64 0,.int .i64 2])∧Below W.heap.size W w')∧Calls Tryz.prog 22 #[.slice o 4097 c,.slice p 4096 d,.int .i64 0] W (fun r w'=>r=.returned (.tuple #[.int .i64 0,.int .i64 1])∧Below W.heap.size W w')∧Calls Tryz.prog 11 #[.slice o 4097 c,.int .i64 0] W (fun r w'=>r=.returned (.tuple #[.int .i64 0,.int .i64 2])∧Below W.heap.size W w')∧Calls Tryz.prog 12 #[.slice o 4097 c] W (fun r w'=>r=.returned (.int .i64 (ipP 4097))∧Below W.heap.size W w')∧Calls Tryz.prog 14 #[.slice o 4097 c] W (fun r w'=>r=.returned (.int .i64 (ipP 4097))∧Below W.heap.size W w')):=fun W o c p d h R=>by
    have K:=ipl R (by omega)
    have e:sumF (fun _=>(1:Int)) 4097=4097:=sum_ones 4097
    refine ⟨?_,?_,?_,?_,?_,?_⟩
    . exact Sum_by W fun W2 gl h2 hl=>sum_no (by omega) W2 fun W3 h3=>refusalLong1 (bo:=none) (cb:=0) 0 ⟨by omega,by omega⟩ W3 (blk_on h3 hl) (by omega) (H.keeps (bel_trans h (bel_trans h2 h3)))
    . exact Dot_by W fun W2 gl h2 hl=>sum_no (by omega) W2 fun W3 h3=>refusalLong2 0 ⟨by omega,by omega⟩ W3 (blk_on h3 hl) (by omega) (H.keeps (bel_trans h (bel_trans h2 h3)))
    . exact Dot_by W fun W2 gl h2 hl=>sum_no (by omega) W2 fun W3 h3=>refusalUneq 0 ⟨by omega,by omega⟩ W3 (blk_on h3 hl) (by omega) (H.keeps (bel_trans h (bel_trans h2 h3)))
    . have q:=norm_by (way:=0) (s:=0) (er:=2) false W R (H.keeps h) ⟨(fun h=>by cases h),(fun ⟨i,hi,h⟩=>by have:cls 4607182418800017408=3:=h; revert this; decide)⟩ fun W2 gl h2 hl=>sum_no (by omega) W2 fun W3 h3=>refusalLong2 0 ⟨by omega,by omega⟩ W3 (blk_on h3 hl) (by omega) (H.keeps (bel_trans h (bel_trans h2 h3)))
      simpa using q
    . have q:=Left_ip K
      rw [e] at q
      exact q
    . have q:=Pairs_ip K.m0 K.mx W K.row (fun i hi=>rfl) K.bd K.tot
      rw [e] at q
      exact q
  clear H
  go_enter Tryz.func5,Tryz.ntmps5
  go_wp2_with fail
  go_loopw [2,3] (fun o i wr=>∃ (j:Nat),j <= 4096∧i=.int .i64 j∧Hid (Out w.heap.size wr o j (fun _=>4607182418800017408))∧Below w.heap.size w wr) (fun _ i _=>4096 - (intOf i).toNat)
  case atStart=>exact ⟨0,Nat.zero_le _,rfl,Out.nil _ _ _,bel_refl _⟩
  case round=>
    obtain ⟨j,hj,rfl,hO1,hbw⟩:=hrel
    by_cases hlt:j < 4096
    . have j0:(j:Int) < 4096:=by omega
      go_wp2_with (at_builtin; refine wpList_app rfl _ _ rfl w.heap.size _ j (fun _=>4607182418800017408) rfl (hO1.out.stays (bel_alloc _ _)) _ 1 1 (fun _=>4607182418800017408) rfl (row1 _ _ rfl) (by omega) (by have:=hbw.size; simp; omega) ?_; intro v' w3 hO3 hg3)
      have hb3:Below w.heap.size w w3:=(hbw.alloc hbw.size _).grown hg3 (by have:=hbw.size; simp; omega) (own_ge hO1.out)
      go_roundw
      case rel=>exact ⟨j + 1,by omega,by go_num,hO3.congr (fun i hi=>by unfold cat; split <;> rfl),hb3⟩
      case measure=>simp [intOf]; omega
    . have ejm:j=4096:=by omega
      subst ejm
      have hO:=hO1.out
      obtain ⟨vo,vc,rfl,hR⟩:=hO.row
      obtain ⟨g,off,hvo,_,_⟩:=hR.spot (by omega)
      have hoff:off=0:=by
        rcases hO.2 with ⟨h,_⟩ | ⟨g',cap',cur,e,_⟩
        . rw [hvo] at h; simp at h
        . rw [hvo] at e
          simp only [Value.slice.injEq,Option.some.injEq,Addr.mk.injEq] at e
          exact e.1.2.1
      subst hvo
      subst hoff
      clear hlt hO1
      have HO:=hideIt hO
      have HR:=hideIt hR
      clear hO hR
      go_wp2_with fail
      refine (S1.out _ _ _ hbw HR.out).1.mono ?_
      rintro _ u1 ⟨rfl,hu1⟩
      go_wp2_with fail
      refine (S1.out _ _ _ (bel_trans hbw hu1) (HR.out.keeps hu1)).2.1.mono ?_
      rintro _ u2 ⟨rfl,hu2⟩
      replace hu2:=bel_trans hu1 hu2
      have hbz:=bel_trans hbw hu2
      go_wp2_with (at_builtin; refine wpList_appK rfl _ _ rfl w.heap.size g 4096 vc (fun _=>4607182418800017408) rfl ((HO.out.stays hu2).stays (bel_alloc _ _)) _ 4607182418800017408 rfl (blkC (heap_a1 u2 (.cells #[.int .i64 4607182418800017408] 3)) 0 rfl) (hbz.alloc hbz.size _).size (by omega) ?_; intro vm z0 hOm hRl hK)
      have hbq:Below w.heap.size w z0:=(hbz.alloc hbz.size _).trans hK
      obtain ⟨mo,mc,rfl,hRm⟩:=hOm.row
      have HP1:Hid (∀ W,Below z0.heap.size z0 W->Row W (some ⟨g,0,none⟩) 4096 vc (fun _=>4607182418800017408)∧Row W mo 4097 mc (fun _=>4607182418800017408)∧Below w.heap.size w W):=fun W h=>⟨hRl.keeps h,(hRm.keeps h).congr (fun i hi=>by unfold upd; split <;> rfl),bel_trans hbq h⟩
      clear hOm hRl hK hRm HO HR hu1 hu2 hbz
      have h0:=bel_refl z0
      refine ((S2.out _ _ _ none 0 (HP1.out _ h0).2.2 (HP1.out _ h0).2.1).1).mono ?_
      rintro _ u1 ⟨rfl,h1⟩
      replace h1:=bel_trans h0 h1
      go_wp2_with fail
      refine ((S2.out _ _ _ none 0 (HP1.out _ h1).2.2 (HP1.out _ h1).2.1).2.1).mono ?_
      rintro _ u2 ⟨rfl,h2⟩
      replace h2:=bel_trans h1 h2
      go_wp2_with fail
      refine ((S2.out _ _ _ _ _ (HP1.out _ h2).2.2 (HP1.out _ h2).2.1).2.2.1).mono ?_
      rintro _ u3 ⟨rfl,h3⟩
      replace h3:=bel_trans h2 h3
      go_wp2_with fail
      refine ((S1.out _ _ _ (HP1.out _ h3).2.2 (HP1.out _ h3).1).2.2).mono ?_
      rintro _ u4 ⟨rfl,h4⟩
      replace h4:=bel_trans h3 h4
      go_wp2_with fail
      refine ((S2.out _ _ _ none 0 (HP1.out _ h4).2.2 (HP1.out _ h4).2.1).2.2.2.1).mono ?_
      rintro _ u5 ⟨rfl,h5⟩
      replace h5:=bel_trans h4 h5
      go_wp2_with fail
      refine (FN.out _ 4096 (HP1.out _ h5).2.2 (by unfold Sm; omega)).mono ?_
      rintro _ u6 ⟨rfl,h6⟩
      replace h6:=bel_trans h5 h6
      go_wp2_with fail
      refine (FN.out _ 64 (HP1.out _ h6).2.2 (by unfold Sm; omega)).mono ?_
      rintro _ u7 ⟨rfl,h7⟩
      replace h7:=bel_trans h6 h7
      go_wp2_with fail
      refine (FN.out _ 4097 (HP1.out _ h7).2.2 (by unfold Sm; omega)).mono ?_
      rintro _ u8 ⟨rfl,h8⟩
      replace h8:=bel_trans h7 h8
      go_wp2_with fail
      refine (CA.out _ (HP1.out _ h8).2.2).mono ?_
      rintro _ u9 ⟨rfl,h9⟩
      replace h9:=bel_trans h8 h9
      go_wp2_with fail
      refine ((S2.out _ _ _ none 0 (HP1.out _ h9).2.2 (HP1.out _ h9).2.1).2.2.2.2.1).mono ?_
      rintro _ u10 ⟨rfl,h10⟩
      replace h10:=bel_trans h9 h10
      go_wp2_with fail
      refine ((S2.out _ _ _ none 0 (HP1.out _ h10).2.2 (HP1.out _ h10).2.1).2.2.2.2.2).mono ?_
      rintro _ u11 ⟨rfl,h11⟩
      replace h11:=bel_trans h10 h11
      go_wp2
      go_ret
      exact ⟨rfl,(HP1.out _ h11).2.2⟩
theorem own:ownKnob Tryz.prog.godebug=none:=by kernel_rfl
theorem laidOut:laidOutB Tryz.prog=true:=by kernel_rfl
theorem door_met (os:Os) (args:Array Value):laidMetH Tryz.prog Rows.sumsLimitsRow.laid ((World.doorLaid Tryz.prog 400 os).forCall (fun _ _=>0) ⟨#[],args,[]⟩).memory :=
  laidMetH_of_parts3 (fuel:=8) (laidMet_of_run' 8 (by kernel_rfl) (by kernel_rfl)) (by kernel_rfl) (by kernel_rfl)
set_option maxRecDepth 100000 in
theorem lifted (os:Os) (started:os.Started) (H:Type) (enc:TypeId × Value->H) :
    ReturnsInHanded {} Tryz.checked os 5 .any (fun w args=>(Rows.sumsLimitsSpec.pre enc Tryz.prog Tryz.f5 [] false w args∧laidMetH Tryz.prog Rows.sumsLimitsRow.laid w)∧sizedMet enc Tryz.prog Tryz.f5 (OpenSpec.ofChange Rows.sumsLimitsSpec) false w args)
      (Rows.sumsLimitsSpec.post enc Tryz.prog Tryz.f5 false true false false):=by
  refine returnsInHanded_of_change_and (C:=Tryz.checked) (X:=fun w _=>laidMetH Tryz.prog Rows.sumsLimitsRow.laid w) (fun _ _ _ hh h=>h.of_heap hh) own started (by kernel_rfl) Tryz.func5
    (ChangeSpec.witness_shaped (enc:=enc) (C:=Tryz.checked) (os:=os) (X:=fun w _=>laidMetH Tryz.prog Rows.sumsLimitsRow.laid w) false (World.doorLaid Tryz.prog 400 os) #[] 8 rfl (World.shaped_of_RefB (by kernel_rfl) (by kernel_rfl)) (by kernel_rfl) (by kernel_rfl) (by kernel_rfl) (door_met os _)) ?_
  intro W base args ds gs before hval0 hW _ _ hL _
  have hval:∀ (j:Nat) t v,Tryz.f5.params[j]?=some t->args[j]?=some v->Value.okWide Tryz.prog W .any base t v:=hval0
  have hW':=hW
  obtain ⟨p,q,hA0,hV,rfl,hfz,hnd⟩:=hW
  have hA:DataW.TrodAll enc Tryz.prog W 0 (fun _=>true) true Tryz.f5.params.toList args.toList ds p:=hA0
  rw [Tryz.params5] at hA hval
  obtain ⟨hargs,rfl,rfl⟩:=trodAll_nil hA
  obtain rfl:args=#[]:=by cases args; simp_all
  obtain ⟨rfl,rfl⟩:=trodVars_none hV
  clear hA0 hval0
  refine (walk  W  (hold4_of hL)).mono fun e W' ⟨he,bel⟩=>?_
  subst he
  exact ⟨_,rfl,_,_,_,[],_,[],hW',trodAll_mk1 (shut_bool Tryz.underlying4 _),trodAll_mk0,rfl,bel.frame _,fun h=>by cases h⟩
theorem said:Rows.SumsLimitsSaid :=
  OpenClaim.holds_of_wide 5 Tryz.f5 rfl rfl rfl rfl rfl rfl rfl ⟨rfl,rfl,rfl,rfl,rfl⟩ rfl rfl rfl rfl rfl (by kernel_rfl) Tryz.func5 (by kernel_rfl)
    (of_decide_eq_true (by kernel_rfl)) (by unfold Func.isWrapper; first | (rw [if_pos (by decide +kernel)]; kernel_rfl) | (rw [if_neg (by decide +kernel)]; exact ⟨rfl,rfl⟩))
    (fun os started H enc _=>lifted os started H enc)
theorem plain (f:FuncId) (fn:Func) (hf:Tryz.pinned.checked.prog.funcNamed Tryz.f5.name=some f) (hfn:Tryz.pinned.checked.prog.funcs[f]?=some fn) :
    true=Tryz.pinned.checked.prog.looks []∧∀ (j:Nat) t,fn.params[j]?=some t->Tryz.pinned.checked.prog.wantsStandIn t=false:=by
  obtain rfl:f=5:=Option.some.inj ((show Tryz.prog.funcNamed Tryz.f5.name=some 5 by kernel_rfl).symm.trans hf) |>.symm
  obtain rfl:fn=Tryz.f5:=(Option.some.inj (Tryz.func5.symm.trans hfn)).symm
  refine ⟨by kernel_rfl,fun j t ht=>?_⟩
  rw [Tryz.params5] at ht
  simp at ht
theorem card:Rows.SumsLimitsCardSaid :=
  Claim7.holds_tied_plain_at .later [] _ _ _ _ said (fun _ h=>by cases h) (by kernel_rfl) (fun _ h=>by cases h) sumsLimits_row_tie rfl ⟨rfl,rfl⟩ (by kernel_rfl) rfl plain (by kernel_rfl)
end Go.Proofs.YteglfnnbpilheaaGreatDoor.sumsLimits
namespace Go.Proofs.YteglfnnbpilheaaGreatDoor
theorem sumsLimits_holds:Rows.SumsLimitsCardSaid:=sumsLimits.card
end Go.Proofs.YteglfnnbpilheaaGreatDoor
