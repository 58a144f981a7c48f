/-
  SumsShort: for any two ints the law returns true: of one finite float all sums are it (0 for -0); of two Left, Right, Pairs and Sum are the single sum. As a card: the library's tables and the layouts of package bits start as the program's text lays them.
-/
import Derived.Test.YteglfnnbpilheaaGreatDoorPart11
import Derived.Test.YteglfnnbpilheaaGreatDoorCards
import Derived.Test.YteglfnnbpilheaaGreatDoorTie
set_option linter.unusedVariables false
set_option linter.unusedSimpArgs false
namespace Go.Proofs.YteglfnnbpilheaaGreatDoor.sumsShort
open Go Go.ChangeShapes Go.WideShapes Go.ChangeAt Go.RowKit Go.Proofs.YteglfnnbpilheaaGreatDoor Go.Proofs.YteglfnnbpilheaaGreatDoor.M
set_option maxRecDepth 100000 in
set_option maxHeartbeats 8000000 in
theorem walk (a b:Int) (w:World) (ra:rng a) (rb:rng b) (H:Hold4 w) :
    Calls Tryz.prog 3 #[.int .i64 a,.int .i64 b] w fun e w'=>e=.returned (.bool true)∧Below w.heap.size w w':=by
  have CCa:Hid (∀ W,Below w.heap.size w W->Calls Tryz.prog 6 #[.int .i64 a] W fun e w'=>e=.returned (.int .i64 (cls a))∧Below W.heap.size W w'):=fun W h=>(bitsClass _ W (H.keeps h).env.lays).mono fun e w' q=>⟨q.1,q.2.be⟩
  have CCb:Hid (∀ W,Below w.heap.size w W->Calls Tryz.prog 6 #[.int .i64 b] W fun e w'=>e=.returned (.int .i64 (cls b))∧Below W.heap.size W w'):=fun W h=>(bitsClass _ W (H.keeps h).env.lays).mono fun e w' q=>⟨q.1,q.2.be⟩
  have CA:Hid (∀ W,Below w.heap.size w W->Calls Tryz.prog 7 #[] W fun r w'=>r=.returned (.bool true)∧Below W.heap.size W w'):=fun W h=>alive5 W (H.keeps h)
  cases hpa:pok a
  . have e0:2 < cls a:=by have:=cls_ge3 hpa; omega
    clear ra rb H
    generalize cls a=ca at *
    go_enter Tryz.func3,Tryz.ntmps3
    go_wp2_with fail
    refine (CCa.out _ (bel_refl _)).mono ?_
    rintro _ y1 ⟨rfl,hw1⟩
    go_wp2_with fail
    refine (CA.out _ hw1).mono ?_
    rintro _ y2 ⟨rfl,hw2⟩
    go_wp2
    go_ret
    exact ⟨rfl,bel_trans hw1 hw2⟩
  . cases hpb:pok b
    . have e0:¬ 2 < cls a:=by have:=cls_lt3 hpa; omega
      have e1:2 < cls b:=by have:=cls_ge3 hpb; omega
      clear ra rb H
      generalize cls a=ca at *
      generalize cls b=cb at *
      go_enter Tryz.func3,Tryz.ntmps3
      go_wp2_with fail
      refine (CCa.out _ (bel_refl _)).mono ?_
      rintro _ y1 ⟨rfl,hw1⟩
      go_wp2_with fail
      refine (CCb.out _ hw1).mono ?_
      rintro _ y2 ⟨rfl,hw2⟩
      replace hw2:=bel_trans hw1 hw2
      go_wp2_with fail
      refine (CA.out _ hw2).mono ?_
      rintro _ y3 ⟨rfl,hw3⟩
      go_wp2
      go_ret
      exact ⟨rfl,bel_trans hw2 hw3⟩
    . have e0:¬ 2 < cls a:=by have:=cls_lt3 hpa; omega
      have e1:¬ 2 < cls b:=by have:=cls_lt3 hpb; omega
      have T:=two5 ra rb hpa hpb
      obtain ⟨y,f1,f2,ry,py,f3,f4⟩:=T.r1
      have hr1:∀ W g,Below w.heap.size w W->Row W (some ⟨g,0,none⟩) 1 1 (fun _=>a)->∀ W2,Below W.heap.size W W2->Row W2 (some ⟨g,0,none⟩) 1 1 (fun _=>a):=fun W g h R W2 h2=>R.keeps h2
      have K1:Hid (∀ W,Below w.heap.size w W->Calls Tryz.prog 8 #[.int .i64 a] W fun e w'=>e=.returned (.int .i64 (canon a))∧Below W.heap.size W w'):=fun W h=>canon_B (H.keeps h)
      have K2:Hid (∀ W,Below w.heap.size w W->Calls Tryz.prog 8 #[.int .i64 b] W fun e w'=>e=.returned (.int .i64 y)∧Below W.heap.size W w'):=fun W h=>by rw [<- f2]; exact canon_B (H.keeps h)
      have K3:Hid (∀ W,Below w.heap.size w W->Calls Tryz.prog 9 #[.int .i64 (canon a),.int .i64 b,.int .i64 0] W fun r w'=>r=.returned (.tuple #[.int .i64 (fsum (canon a) b),.int .i64 0])∧Below W.heap.size W w'):=fun W h=>AddTwo W T.rx T.px rb hpb (H.keeps h)
      have K4:Hid (∀ W,Below w.heap.size w W->Calls Tryz.prog 9 #[.int .i64 y,.int .i64 a,.int .i64 0] W fun r w'=>r=.returned (.tuple #[.int .i64 (fsum (canon b) a),.int .i64 0])∧Below W.heap.size W w'):=fun W h=>by have:=AddTwo W ry py ra hpa (H.keeps h); rw [f3] at this; exact this
      have K5:Hid (∀ W,Below w.heap.size w W->Calls Tryz.prog 17 #[.int .i64 (canon a)] W fun e w'=>e=.returned (.int .i64 (abs (canon a)))∧Below W.heap.size W w'):=fun W h=>abs_B T.rx (H.keeps h)
      have K6:Hid (∀ W,Below w.heap.size w W->Calls Tryz.prog 18 #[.int .i64 (fsum (canon a) b),.int .i64 (fsum (canon a) b)] W fun e w'=>e=.returned (.bool true)∧Below W.heap.size W w'):=fun W h=>by
        have q:=bitsSame (fsum (canon a) b) (fsum (canon a) b) W T.gs.1 T.gs.1
        rw [show same (fsum (canon a) b) (fsum (canon a) b)=true by unfold same; simp [T.gs.2]] at q
        exact q.mono fun e w' h=>⟨h.1,by rw [h.2]; exact bel_refl _⟩
      have L0:Hid (∀ W o c,Below w.heap.size w W->Row W o 1 c (fun _=>a)->Calls Tryz.prog 10 #[.slice o 1 c,.int .i64 0] W (fun r w'=>r=.returned (.tuple #[.int .i64 (canon a),.int .i64 0])∧Below W.heap.size W w')∧Calls Tryz.prog 11 #[.slice o 1 c,.int .i64 0] W (fun r w'=>r=.returned (.tuple #[.int .i64 (abs (canon a)),.int .i64 0])∧Below W.heap.size W w')∧Calls Tryz.prog 12 #[.slice o 1 c] W (fun r w'=>r=.returned (.int .i64 (canon a))∧Below W.heap.size W w')∧Calls Tryz.prog 13 #[.slice o 1 c] W (fun r w'=>r=.returned (.int .i64 (canon a))∧Below W.heap.size W w')∧Calls Tryz.prog 14 #[.slice o 1 c] W (fun r w'=>r=.returned (.int .i64 (canon a))∧Below W.heap.size W w')∧Calls Tryz.prog 15 #[.slice o 1 c] W (fun r w'=>r=.returned (.int .i64 (canon a))∧Below W.heap.size W w')∧Calls Tryz.prog 16 #[.slice o 1 c] W (fun r w'=>r=.returned (.int .i64 (canon a))∧Below W.heap.size W w')):=fun W o c h R=>⟨SumOne W R ra hpa (H.keeps h),NormOne W R ra hpa (H.keeps h),(ones5a W R ra hpa).1,(ones5a W R ra hpa).2,Pairs_1 W R rfl ra hpa,Kahan_1 W R ra hpa,Neumaier_1 W R ra hpa⟩
      have L1:Hid (∀ W g c,Below w.heap.size w W->Row W (some ⟨g,0,none⟩) 2 c (fun i=>if i=0 then a else b)->Calls Tryz.prog 10 #[.slice (some ⟨g,0,none⟩) 2 c,.int .i64 0] W (fun r w'=>r=.returned (.tuple #[.int .i64 (fsum (canon a) b),.int .i64 0])∧Below W.heap.size W w')∧Calls Tryz.prog 12 #[.slice (some ⟨g,0,none⟩) 2 c] W (fun r w'=>r=.returned (.int .i64 (fsum (canon a) b))∧Below W.heap.size W w')∧Calls Tryz.prog 13 #[.slice (some ⟨g,0,none⟩) 2 c] W (fun r w'=>r=.returned (.int .i64 (fsum (canon b) a))∧Below W.heap.size W w')∧Calls Tryz.prog 14 #[.slice (some ⟨g,0,none⟩) 2 c] W (fun r w'=>r=.returned (.int .i64 (fsum (canon a) b))∧Below W.heap.size W w')):=fun W g c h R=>⟨SumTwo W R ra hpa rb hpb (H.keeps h),Left_2 W R rfl rfl (fin_gd ra hpa) (fin_gd rb hpb) (fin_gd T.rx T.px) T.gs T.l1 T.l2,Right_2 W R rfl rfl (fin_gd rb hpb) (fin_gd ra hpa) (fin_gd ry py) T.gt f1 f3,Pairs_2 W R rfl rfl ra hpa rb hpb T.gs (show fsum (canon a) (canon b)=fsum (canon a) b by rw [f2]; exact f4)⟩
      clear T hr1 f1 f2 f3 f4 ry py ra rb H
      generalize fsum (canon a) b=s at *
      generalize fsum (canon b) a=t at *
      generalize abs (canon a)=ab at *
      generalize canon a=x at *
      generalize cls a=ca at *
      generalize cls b=cb at *
      clear hpa hpb
      go_enter Tryz.func3,Tryz.ntmps3
      go_wp2_with fail
      refine (CCa.out _ (bel_refl _)).mono ?_
      rintro _ y1 ⟨rfl,hw1⟩
      go_wp2_with fail
      refine (CCb.out _ hw1).mono ?_
      rintro _ y2 ⟨rfl,hw2⟩
      replace hw2:=bel_trans hw1 hw2
      have hu1:=bel_alloc y2 (.cells #[.int .i64 a] 3)
      have hu2:=bel_alloc (y2.alloc (.cells #[.int .i64 a] 3)) (.cells #[.int .i64 a,.int .i64 b] 3)
      have P1:=(row1 y2 a rfl).keeps hu2
      have P2:=row2d (y2.alloc (.cells #[.int .i64 a] 3)) a b (g:=y2.heap.size + 1) (by simp only [size_alloc])
      have hw3:=bel_trans hw2 (bel_trans hu1 hu2)
      have HP1:Hid (∀ W,Below ((y2.alloc (.cells #[.int .i64 a] 3)).alloc (.cells #[.int .i64 a,.int .i64 b] 3)).heap.size ((y2.alloc (.cells #[.int .i64 a] 3)).alloc (.cells #[.int .i64 a,.int .i64 b] 3)) W->Row W (some ⟨y2.heap.size,0,none⟩) 1 1 (fun _=>a)∧Row W (some ⟨y2.heap.size + 1,0,none⟩) 2 2 (fun i=>if i=0 then a else b)∧Below w.heap.size w W):=fun W h=>⟨P1.keeps h,P2.keeps h,bel_trans hw3 h⟩
      clear P1 P2 hu1 hu2
      go_wp2_with fail
      generalize (y2.alloc (.cells #[.int .i64 a] 3)).alloc (.cells #[.int .i64 a,.int .i64 b] 3)=z0 at HP1 hw3 ⊢
      have h0:=bel_refl z0
      refine (K1.out _ (HP1.out _ h0).2.2).mono ?_
      rintro _ u1 ⟨rfl,h1⟩
      replace h1:=bel_trans h0 h1
      go_wp2_with fail
      refine (K3.out _ (HP1.out _ h1).2.2).mono ?_
      rintro _ u2 ⟨rfl,h2⟩
      replace h2:=bel_trans h1 h2
      go_wp2_with fail
      refine ((L0.out _ _ _ (HP1.out _ h2).2.2 (HP1.out _ h2).1).1).mono ?_
      rintro _ u3 ⟨rfl,h3⟩
      replace h3:=bel_trans h2 h3
      go_wp2_with fail
      refine ((L1.out _ _ _ (HP1.out _ h3).2.2 (HP1.out _ h3).2.1).1).mono ?_
      rintro _ u4 ⟨rfl,h4⟩
      replace h4:=bel_trans h3 h4
      go_wp2_with fail
      refine ((L0.out _ _ _ (HP1.out _ h4).2.2 (HP1.out _ h4).1).2.1).mono ?_
      rintro _ u5 ⟨rfl,h5⟩
      replace h5:=bel_trans h4 h5
      go_wp2_with fail
      refine (K2.out _ (HP1.out _ h5).2.2).mono ?_
      rintro _ u6 ⟨rfl,h6⟩
      replace h6:=bel_trans h5 h6
      go_wp2_with fail
      refine (K4.out _ (HP1.out _ h6).2.2).mono ?_
      rintro _ u7 ⟨rfl,h7⟩
      replace h7:=bel_trans h6 h7
      go_wp2_with fail
      refine (CA.out _ (HP1.out _ h7).2.2).mono ?_
      rintro _ u8 ⟨rfl,h8⟩
      replace h8:=bel_trans h7 h8
      go_wp2_with fail
      refine ((L0.out _ _ _ (HP1.out _ h8).2.2 (HP1.out _ h8).1).2.2.1).mono ?_
      rintro _ u9 ⟨rfl,h9⟩
      replace h9:=bel_trans h8 h9
      go_wp2_with fail
      refine ((L0.out _ _ _ (HP1.out _ h9).2.2 (HP1.out _ h9).1).2.2.2.1).mono ?_
      rintro _ u10 ⟨rfl,h10⟩
      replace h10:=bel_trans h9 h10
      go_wp2_with fail
      refine ((L0.out _ _ _ (HP1.out _ h10).2.2 (HP1.out _ h10).1).2.2.2.2.1).mono ?_
      rintro _ u11 ⟨rfl,h11⟩
      replace h11:=bel_trans h10 h11
      go_wp2_with fail
      refine ((L0.out _ _ _ (HP1.out _ h11).2.2 (HP1.out _ h11).1).2.2.2.2.2.1).mono ?_
      rintro _ u12 ⟨rfl,h12⟩
      replace h12:=bel_trans h11 h12
      go_wp2_with fail
      refine ((L0.out _ _ _ (HP1.out _ h12).2.2 (HP1.out _ h12).1).2.2.2.2.2.2).mono ?_
      rintro _ u13 ⟨rfl,h13⟩
      replace h13:=bel_trans h12 h13
      go_wp2_with fail
      refine (K5.out _ (HP1.out _ h13).2.2).mono ?_
      rintro _ u14 ⟨rfl,h14⟩
      replace h14:=bel_trans h13 h14
      go_wp2_with fail
      refine ((L1.out _ _ _ (HP1.out _ h14).2.2 (HP1.out _ h14).2.1).2.1).mono ?_
      rintro _ u15 ⟨rfl,h15⟩
      replace h15:=bel_trans h14 h15
      go_wp2_with fail
      refine ((L1.out _ _ _ (HP1.out _ h15).2.2 (HP1.out _ h15).2.1).2.2.1).mono ?_
      rintro _ u16 ⟨rfl,h16⟩
      replace h16:=bel_trans h15 h16
      go_wp2_with fail
      refine ((L1.out _ _ _ (HP1.out _ h16).2.2 (HP1.out _ h16).2.1).2.2.2).mono ?_
      rintro _ u17 ⟨rfl,h17⟩
      replace h17:=bel_trans h16 h17
      go_wp2_with fail
      refine (K6.out _ (HP1.out _ h17).2.2).mono ?_
      rintro _ u18 ⟨rfl,h18⟩
      replace h18:=bel_trans h17 h18
      go_wp2_with fail
      refine (K6.out _ (HP1.out _ h18).2.2).mono ?_
      rintro _ u19 ⟨rfl,h19⟩
      replace h19:=bel_trans h18 h19
      go_wp2
      go_ret
      exact ⟨rfl,(HP1.out _ h19).2.2⟩
theorem own:ownKnob Tryz.prog.godebug=none:=by kernel_rfl
theorem laidOut:laidOutB Tryz.prog=true:=by kernel_rfl
theorem door_met (os:Os) (args:Array Value):laidMetH Tryz.prog Rows.sumsShortRow.laid ((World.doorLaid Tryz.prog 400 os).forCall (fun _ _=>0) ⟨#[],args,[]⟩).memory :=
  laidMetH_of_parts3 (fuel:=8) (laidMet_of_run' 8 (by kernel_rfl) (by kernel_rfl)) (by kernel_rfl) (by kernel_rfl)
set_option maxRecDepth 100000 in
theorem lifted (os:Os) (started:os.Started) (H:Type) (enc:TypeId × Value->H) :
    ReturnsInHanded {} Tryz.checked os 3 .any (fun w args=>(Rows.sumsShortSpec.pre enc Tryz.prog Tryz.f3 [] false w args∧laidMetH Tryz.prog Rows.sumsShortRow.laid w)∧sizedMet enc Tryz.prog Tryz.f3 (OpenSpec.ofChange Rows.sumsShortSpec) false w args)
      (Rows.sumsShortSpec.post enc Tryz.prog Tryz.f3 false true false false):=by
  refine returnsInHanded_of_change_and (C:=Tryz.checked) (X:=fun w _=>laidMetH Tryz.prog Rows.sumsShortRow.laid w) (fun _ _ _ hh h=>h.of_heap hh) own started (by kernel_rfl) Tryz.func3
    (ChangeSpec.witness_shaped (enc:=enc) (C:=Tryz.checked) (os:=os) (X:=fun w _=>laidMetH Tryz.prog Rows.sumsShortRow.laid w) false (World.doorLaid Tryz.prog 400 os) #[.int .i64 0,.int .i64 0] 8 rfl (World.shaped_of_RefB (by kernel_rfl) (by kernel_rfl)) (by kernel_rfl) (by kernel_rfl) (by kernel_rfl) (door_met os _)) ?_
  intro W base args ds gs before hval0 hW _ _ hL _
  have hval:∀ (j:Nat) t v,Tryz.f3.params[j]?=some t->args[j]?=some v->Value.okWide Tryz.prog W .any base t v:=hval0
  have hW':=hW
  obtain ⟨p,q,hA0,hV,rfl,hfz,hnd⟩:=hW
  have hA:DataW.TrodAll enc Tryz.prog W 0 (fun _=>true) true Tryz.f3.params.toList args.toList ds p:=hA0
  rw [Tryz.params3] at hA hval
  obtain ⟨v0,vs0,d0,ds0,p0,q0,hargs,rfl,rfl,h0,r0⟩:=trodAll_cons hA
  obtain ⟨v1,vs1,d1,ds1,p1,q1,rfl,rfl,rfl,h1,r1⟩:=trodAll_cons r0
  obtain ⟨rfl,rfl,rfl⟩:=trodAll_nil r1
  obtain rfl:args=#[v0,v1]:=by cases args; simp_all
  obtain ⟨rfl,rfl⟩:=trodVars_none hV
  obtain ⟨a0,rfl,rfl,rfl,w0⟩:=open_int Tryz.underlying3 (hval 0 3 v0 rfl rfl) h0
  obtain ⟨a1,rfl,rfl,rfl,w1⟩:=open_int Tryz.underlying3 (hval 1 3 v1 rfl rfl) h1
  clear hA0 hval0
  refine (walk a0 a1 W (rng_of w0) (rng_of w1) (hold4_of hL)).mono fun e W' ⟨he,bel⟩=>?_
  subst he
  exact ⟨_,rfl,_,_,_,[],_,[],hW',trodAll_mk1 (shut_bool Tryz.underlying4 _),(trodAll_cons_mk (shut_int Tryz.underlying3 w0) (trodAll_cons_mk (shut_int Tryz.underlying3 w1) trodAll_mk0)),rfl,bel.frame _,fun h=>by cases h⟩
theorem said:Rows.SumsShortSaid :=
  OpenClaim.holds_of_wide 3 Tryz.f3 rfl rfl rfl rfl rfl rfl rfl ⟨rfl,rfl,rfl,rfl,rfl⟩ rfl rfl rfl rfl rfl (by kernel_rfl) Tryz.func3 (by kernel_rfl)
    (of_decide_eq_true (by kernel_rfl)) (by unfold Func.isWrapper; first | (rw [if_pos (by decide +kernel)]; kernel_rfl) | (rw [if_neg (by decide +kernel)]; exact ⟨rfl,rfl⟩))
    (fun os started H enc _=>lifted os started H enc)
theorem plain (f:FuncId) (fn:Func) (hf:Tryz.pinned.checked.prog.funcNamed Tryz.f3.name=some f) (hfn:Tryz.pinned.checked.prog.funcs[f]?=some fn) :
    true=Tryz.pinned.checked.prog.looks []∧∀ (j:Nat) t,fn.params[j]?=some t->Tryz.pinned.checked.prog.wantsStandIn t=false:=by
  obtain rfl:f=3:=Option.some.inj ((show Tryz.prog.funcNamed Tryz.f3.name=some 3 by kernel_rfl).symm.trans hf) |>.symm
  obtain rfl:fn=Tryz.f3:=(Option.some.inj (Tryz.func3.symm.trans hfn)).symm
  refine ⟨by kernel_rfl,fun j t ht=>?_⟩
  rw [Tryz.params3] at ht
  obtain rfl:t=3:=by simpa using Array.mem_of_getElem? ht
  exact (show Tryz.prog.wantsStandIn 3=false by kernel_rfl)
theorem card:Rows.SumsShortCardSaid :=
  Claim7.holds_tied_plain_at .later [] _ _ _ _ said (fun _ h=>by cases h) (by kernel_rfl) (fun _ h=>by cases h) sumsShort_row_tie rfl ⟨rfl,rfl⟩ (by kernel_rfl) rfl plain (by kernel_rfl)
end Go.Proofs.YteglfnnbpilheaaGreatDoor.sumsShort
namespace Go.Proofs.YteglfnnbpilheaaGreatDoor
theorem sumsShort_holds:Rows.SumsShortCardSaid:=sumsShort.card
end Go.Proofs.YteglfnnbpilheaaGreatDoor
