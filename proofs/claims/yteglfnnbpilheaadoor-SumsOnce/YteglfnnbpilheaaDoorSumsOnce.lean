/-
  SumsOnce: for every list of ints and every way the law returns true: of the finite floats of the list (at most 300) Sum is the exact sum rounded once, and Dot with ones is the same. As a card: the library's tables and the layouts of package bits start as the program's text lays them.
-/
import Derived.Test.YteglfnnbpilheaaDoorPart9
import Derived.Test.YteglfnnbpilheaaDoorCards
import Derived.Test.YteglfnnbpilheaaDoorTie
set_option linter.unusedVariables false
set_option linter.unusedSimpArgs false
namespace Go.Proofs.YteglfnnbpilheaaDoor.sumsOnce
open Go Go.ChangeShapes Go.WideShapes Go.ChangeAt Go.RowKit Go.Proofs.YteglfnnbpilheaaDoor Go.Proofs.YteglfnnbpilheaaDoor.M
set_option maxRecDepth 100000 in
set_option maxHeartbeats 4000000 in
theorem walk (a0:Option Addr) (l0 c0:Nat) (z0:Nat->Int) (way:Int) (w:World) (h0:Row w a0 l0 c0 z0) (hz0:∀ i,i < l0->rng (z0 i)) (rw:rng way) (H:Hold4 w) :
    Calls Tryd.prog 3 #[.slice a0 l0 c0,.int .i64 way] w fun e w'=>e=.returned (.bool true)∧Below w.heap.size w w':=by
  obtain ⟨k,hk,hk0⟩:=way5 rw
  have CF:Hid (∀ W,Below w.heap.size w W->Calls Tryd.prog 6 #[.slice a0 l0 c0,.int .i64 300] W fun r w'=>∃ v m d,r=.returned v∧Out W.heap.size w' v m d∧m <= 300∧(∀ i,i < m->rng (d i)∧pok (d i)=true)∧Below W.heap.size W w'):=fun W h=>fin5 300 (by omega) W (h0.keeps h) hz0 (H.keeps h)
  have HK:Hid (0 <= k∧k <= 3):=hk0
  have HH:Hid (Hold4 w):=H
  clear h0 hz0 rw hk0 H
  go_enter Tryd.func3,Tryd.ntmps3
  go_wp2_with fail
  refine (CF.out _ (bel_refl _)).mono ?_
  rintro _ y1 ⟨v,m,d,rfl,hO,hm,HD0,hb1⟩
  have HD:Hid (Fin5 d m):=HD0
  clear HD0 CF
  obtain ⟨vo,vc,rfl,hR⟩:=hO.row
  have hl:=hR.le
  have hx:=hR.max
  go_wp2_with fail
  go_loopw [6,7] (fun o i wr=>∃ (j:Nat),j <= m∧i=.int .i64 j∧Out y1.heap.size wr o j (fun _=>4607182418800017408)∧Below y1.heap.size y1 wr) (fun _ i _=>m - (intOf i).toNat)
  case atStart=>exact ⟨0,Nat.zero_le _,rfl,Out.nil _ _ _,bel_refl _⟩
  case round=>
    obtain ⟨j,hj,rfl,hO1,hbw⟩:=hrel
    by_cases hlt:j < m
    . have j0:(j:Int) < (m:Int):=by omega
      go_wp2_with (at_builtin; refine wpList_app rfl _ _ rfl y1.heap.size _ j (fun _=>4607182418800017408) rfl (hO1.stays (bel_alloc _ _)) _ 1 1 (fun _=>4607182418800017408) rfl (row1 _ _ rfl) (by omega) (by have:=hbw.size; simp; omega) ?_; intro v' w3 hO3 hg3)
      have hb3:Below y1.heap.size y1 w3:=(hbw.alloc hbw.size _).grown hg3 (by have:=hbw.size; simp; omega) (own_ge hO1)
      go_roundw
      case rel=>exact ⟨j + 1,by omega,by go_num,hO3.congr (fun i hi=>by unfold cat; split <;> rfl),hb3⟩
      case measure=>simp [intOf]; omega
    . have ejm:j=m:=by omega
      subst ejm
      have j0:¬ (j:Int) < (j:Int):=by omega
      obtain ⟨oo,oc,rfl,hR1⟩:=hO1.row
      have hbA:=bel_trans hb1 hbw
      have CS:Hid (Calls Tryd.prog 7 #[.slice vo j vc,.int .i64 k] wr fun r w'=>∃ p,r=.returned (.tuple #[.int .i64 p,.int .i64 0])∧Rd5 k (sm5 d j) p∧Below wr.heap.size wr w'):=Sum5 k HK.out wr (hR.keeps hbw) HD.out (by omega) (HH.out.keeps hbA)
      have CT:Hid (∀ W,Below wr.heap.size wr W->Calls Tryd.prog 9 #[.slice vo j vc] W fun r w'=>∃ x:NumR,r=.returned (.agg #[.bool x.ng,.slice x.ao x.n x.cap,.int .i64 x.e])∧(∀ W2,Below w'.heap.size w' W2->Calls Tryd.prog 8 #[.agg #[.bool x.ng,.slice x.ao x.n x.cap,.int .i64 x.e],.int .i64 k] W2 fun r w'=>∃ p o,r=.returned (.tuple #[.int .i64 p,.bool o,.int .i64 0])∧Rd5 k (sm5 d j) p∧Below W2.heap.size W2 w')∧Below W.heap.size W w'):=fun W h=>by
        refine (tot5 W ((hR.keeps hbw).keeps h) (fun i hi=>(HD.out i hi).2) (by omega) (HH.out.keeps (bel_trans hbA h))).mono ?_
        rintro _ w' ⟨x,rfl,hx,ok,hV,hb⟩
        exact ⟨x,rfl,fun W2 h2=>To5 HK.out (hx.keeps h2) ok hV (HH.out.keeps (bel_trans hbA (bel_trans h (bel_trans hb h2)))),hb⟩
      have CD:Hid (∀ W,Below wr.heap.size wr W->Calls Tryd.prog 10 #[.slice vo j vc,.slice oo j oc,.int .i64 k] W fun r w'=>∃ p,r=.returned (.tuple #[.int .i64 p,.int .i64 0])∧Rd5 k (sm5 d j) p∧Below W.heap.size W w'):=fun W h=>Dot5 k HK.out W ((hR.keeps hbw).keeps h) (hR1.keeps h) HD.out (by omega) (HH.out.keeps (bel_trans hbA h))
      have CA:Hid (∀ W,Below wr.heap.size wr W->Calls Tryd.prog 11 #[] W fun r w'=>r=.returned (.bool true)∧Below W.heap.size W w'):=fun W h=>alive5 W (HH.out.keeps (bel_trans hbA h))
      clear hR hO hR1 hO1
      go_wp2_with fail
      refine CS.out.mono ?_
      rintro _ u1 ⟨p1,rfl,P1,hu1⟩
      go_wp2_with fail
      refine (CT.out _ hu1).mono ?_
      rintro _ u2 ⟨x,rfl,CX,hu2⟩
      have CXH:Hid _:=hideIt CX
      clear CX
      go_wp2_with fail
      refine (CXH.out _ (bel_refl _)).mono ?_
      rintro _ u3 ⟨p2,o2,rfl,P2,hu3⟩
      obtain rfl:=P1.unique P2
      have hU3:=bel_trans hu1 (bel_trans hu2 hu3)
      go_wp2_with fail
      refine (CD.out _ hU3).mono ?_
      rintro _ u4 ⟨p3,rfl,P3,hu4⟩
      obtain rfl:=P1.unique P3
      have hU4:=bel_trans hU3 hu4
      go_wp2_with fail
      refine (CA.out _ hU4).mono ?_
      rintro _ u5 ⟨rfl,hu5⟩
      go_wp2
      go_ret
      exact ⟨rfl,bel_trans hbA (bel_trans hU4 hu5)⟩
theorem own:ownKnob Tryd.prog.godebug=none:=by kernel_rfl
theorem laidOut:laidOutB Tryd.prog=true:=by kernel_rfl
theorem door_met (os:Os) (args:Array Value):laidMetH Tryd.prog Rows.sumsOnceRow.laid ((World.doorLaid Tryd.prog 400 os).forCall (fun _ _=>0) ⟨#[],args,[]⟩).memory :=
  laidMetH_of_parts3 (fuel:=8) (laidMet_of_run' 8 (by kernel_rfl) (by kernel_rfl)) (by kernel_rfl) (by kernel_rfl)
set_option maxRecDepth 100000 in
theorem lifted (os:Os) (started:os.Started) (H:Type) (enc:TypeId × Value->H) :
    ReturnsInHanded {} Tryd.checked os 3 .any (fun w args=>(Rows.sumsOnceSpec.pre enc Tryd.prog Tryd.f3 [] false w args∧laidMetH Tryd.prog Rows.sumsOnceRow.laid w)∧sizedMet enc Tryd.prog Tryd.f3 (OpenSpec.ofChange Rows.sumsOnceSpec) false w args)
      (Rows.sumsOnceSpec.post enc Tryd.prog Tryd.f3 false true false false):=by
  refine returnsInHanded_of_change_and (C:=Tryd.checked) (X:=fun w _=>laidMetH Tryd.prog Rows.sumsOnceRow.laid w) (fun _ _ _ hh h=>h.of_heap hh) own started (by kernel_rfl) Tryd.func3
    (ChangeSpec.witness_shaped (enc:=enc) (C:=Tryd.checked) (os:=os) (X:=fun w _=>laidMetH Tryd.prog Rows.sumsOnceRow.laid w) false (World.doorLaid Tryd.prog 400 os) #[.slice none 0 0,.int .i64 0] 8 rfl (World.shaped_of_RefB (by kernel_rfl) (by kernel_rfl)) (by kernel_rfl) (by kernel_rfl) (by kernel_rfl) (door_met os _)) ?_
  intro W base args ds gs before hval0 hW _ _ hL _
  have hval:∀ (j:Nat) t v,Tryd.f3.params[j]?=some t->args[j]?=some v->Value.okWide Tryd.prog W .any base t v:=hval0
  have hW':=hW
  obtain ⟨p,q,hA0,hV,rfl,hfz,hnd⟩:=hW
  have hA:DataW.TrodAll enc Tryd.prog W 0 (fun _=>true) true Tryd.f3.params.toList args.toList ds p:=hA0
  rw [Tryd.params3] at hA hval
  obtain ⟨v0,vs0,d0,ds0,p0,q0,hargs,rfl,rfl,h0,r0⟩:=trodAll_cons hA
  obtain ⟨v1,vs1,d1,ds1,p1,q1,rfl,rfl,rfl,h1,r1⟩:=trodAll_cons r0
  obtain ⟨rfl,rfl,rfl⟩:=trodAll_nil r1
  obtain rfl:args=#[v0,v1]:=by cases args; simp_all
  obtain ⟨rfl,rfl⟩:=trodVars_none hV
  obtain ⟨a0,l0,c0,rfl⟩:=okWide_slice Tryd.underlying22 (hval 0 22 v0 rfl rfl)
  have k0:=h0
  have lt0:∀ x ∈ p0,x.block < W.heap.size:=by obtain ⟨m,hm⟩:=k0; exact DataW.trod_lt m _ _ _ hm
  obtain ⟨z0,w0,g0⟩:=row_of h0
  obtain ⟨a1,rfl,rfl,rfl,w1⟩:=open_int Tryd.underlying3 (hval 1 3 v1 rfl rfl) h1
  clear hA0 hval0
  refine (walk a0 l0 c0 z0 a1 W w0 g0 (rng_of w1) (hold4_of hL)).mono fun e W' ⟨he,bel⟩=>?_
  subst he
  exact ⟨_,rfl,_,_,_,[],_,[],hW',trodAll_mk1 (shut_bool Tryd.underlying4 _),(trodAll_cons_mk (Below.trod laidOut (by kernel_rfl) (of_decide_eq_true (by kernel_rfl)) k0 bel lt0) (trodAll_cons_mk (shut_int Tryd.underlying3 w1) trodAll_mk0)),rfl,bel.frame _,fun h=>by cases h⟩
theorem said:Rows.SumsOnceSaid :=
  OpenClaim.holds_of_wide 3 Tryd.f3 rfl rfl rfl rfl rfl rfl rfl ⟨rfl,rfl,rfl,rfl,rfl⟩ rfl rfl rfl rfl rfl (by kernel_rfl) Tryd.func3 (by kernel_rfl)
    (of_decide_eq_true (by kernel_rfl)) (by unfold Func.isWrapper; first | (rw [if_pos (by decide +kernel)]; kernel_rfl) | (rw [if_neg (by decide +kernel)]; exact ⟨rfl,rfl⟩))
    (fun os started H enc _=>lifted os started H enc)
theorem plain (f:FuncId) (fn:Func) (hf:Tryd.pinned.checked.prog.funcNamed Tryd.f3.name=some f) (hfn:Tryd.pinned.checked.prog.funcs[f]?=some fn) :
    true=Tryd.pinned.checked.prog.looks []∧∀ (j:Nat) t,fn.params[j]?=some t->Tryd.pinned.checked.prog.wantsStandIn t=false:=by
  obtain rfl:f=3:=Option.some.inj ((show Tryd.prog.funcNamed Tryd.f3.name=some 3 by kernel_rfl).symm.trans hf) |>.symm
  obtain rfl:fn=Tryd.f3:=(Option.some.inj (Tryd.func3.symm.trans hfn)).symm
  refine ⟨by kernel_rfl,fun j t ht=>?_⟩
  rw [Tryd.params3] at ht
  have ht2:t=22∨t=3:=by simpa using Array.mem_of_getElem? ht
  rcases ht2 with rfl | rfl
  . exact (show Tryd.prog.wantsStandIn 22=false by kernel_rfl)
  . exact (show Tryd.prog.wantsStandIn 3=false by kernel_rfl)
theorem card:Rows.SumsOnceCardSaid :=
  Claim7.holds_tied_plain_at .later [] _ _ _ _ said (fun _ h=>by cases h) (by kernel_rfl) (fun _ h=>by cases h) sumsOnce_row_tie rfl ⟨rfl,rfl⟩ (by kernel_rfl) rfl plain (by kernel_rfl)
end Go.Proofs.YteglfnnbpilheaaDoor.sumsOnce
namespace Go.Proofs.YteglfnnbpilheaaDoor
theorem sumsOnce_holds:Rows.SumsOnceCardSaid:=sumsOnce.card
end Go.Proofs.YteglfnnbpilheaaDoor
