/-
  ExpansionBack: for any list the law returns true: the parts of an expansion's exact value are an expansion of the same value, of at most three floats a float of the first and one more. As a card: the library's tables and the layout of package bits start as the program's text lays them.
-/
import Derived.Test.YtijiabajfgnaoaaGreatDoorPart9
import Derived.Test.YtijiabajfgnaoaaGreatDoorCards
import Derived.Test.YtijiabajfgnaoaaGreatDoorTie
set_option linter.unusedVariables false
set_option linter.unusedSimpArgs false
namespace Go.Proofs.YtijiabajfgnaoaaGreatDoor.expansionBack
open Go Go.ChangeShapes Go.WideShapes Go.ChangeAt Go.RowKit Go.Proofs.YtijiabajfgnaoaaGreatDoor Go.Proofs.YtijiabajfgnaoaaGreatDoor.M
structure Md (E:Ls) (S:Int) (N:Nat):Prop where
  xv:XV E.d E.n
  le:E.n <= 12
  sum:lsm E.d E.n=S
  ps:PS S N
  few:N <= E.n * 3 + 1
theorem big_le {k:Nat} {x:Int} (hk:k <= 12) (h:x <= (k:Int) * 2 ^ 1130):x <= 9007199254740992 * 2 ^ 1081:=by
  have e:(9007199254740992:Int) * 2 ^ 1081=16 * 2 ^ 1130:=by
    rw [show (9007199254740992:Int)=16 * 2 ^ 49 by decide,Int.mul_assoc,<- Int.pow_add]
  rw [e]
  have hp:(0:Int) <= 2 ^ 1130:=Int.le_of_lt (p2 1130)
  have hm:(k:Int) * 2 ^ 1130 <= 16 * 2 ^ 1130:=Int.mul_le_mul_of_nonneg_right (by omega) hp
  exact Int.le_trans h hm
theorem big_max {x:Int} (h:x <= 9007199254740992 * 2 ^ 1081):x <= maxV:=by
  have e:(9007199254740992:Int) * 2 ^ 1081=2 ^ 1134:=by
    rw [show (9007199254740992:Int)=2 ^ 53 by decide,<- Int.pow_add]
  rw [e] at h
  exact Int.le_trans h (Int.le_trans (p2le (by omega)) maxV_ge)
theorem md_of (z:Nat->Int) (l:Nat):∃ S N,Md (mdS z l) S N:=by
  obtain ⟨_,h2,_,h4⟩:=gaS_all (s:=⟨0,fun _=>0⟩) (f:=fun i=>mdb (z i)) (m:=12) (b:=1130) (L:=12) ⟨fun i hi=>absurd hi (Nat.not_lt_zero _),fun i hi=>absurd hi (Nat.not_lt_zero _)⟩ (fun i _=>⟨(mid_facts (z i)).1,(mid_facts (z i)).2.1⟩) (fun i hi=>absurd hi (Nat.not_lt_zero _)) (fun i _=>(mid_facts (z i)).2.2.2) (by decide) (by decide) (min l 12) (by omega)
  have h5:=gaS_le ⟨0,fun _=>0⟩ (fun i=>mdb (z i)) (min l 12)
  have h5':(mdS z l).n <= 0 + min l 12:=h5
  obtain ⟨g1,g2⟩:=mid_sum z (min l 12) (by omega)
  have h4':lsm (mdS z l).d (mdS z l).n=lsm (fun i=>mdb (z i)) (min l 12):=by
    have:lsm (mdS z l).d (mdS z l).n=0 + lsm (fun i=>mdb (z i)) (min l 12):=h4
    omega
  have g3:=big_le (show min l 12 <= 12 by omega) g2
  obtain ⟨N,hN,hP⟩:=ps_of 822 (by omega) 5 1081 (lsm (fun i=>mdb (z i)) (min l 12)) g1 g3 (by omega) (big_max g3)
  have hx:XV (mdS z l).d (mdS z l).n:=h2
  refine ⟨_,N,hx,by omega,h4',hP,?_⟩
  rcases Nat.lt_or_ge (mdS z l).n 2 with c | c
  . rcases Nat.eq_zero_or_pos (mdS z l).n with c0 | c1
    . have e:lsm (fun i=>mdb (z i)) (min l 12)=0:=by
        rw [<- h4',c0]
        rfl
      rw [e] at hP
      have:=ps_nil hP
      omega
    . have c2:(mdS z l).n=1:=by omega
      have e:lsm (fun i=>mdb (z i)) (min l 12)=iV ((mdS z l).d 0):=by
        rw [<- h4',c2]
        show 0 + iV ((mdS z l).d 0)=_
        omega
      have:=ps_fl hP (by rw [e]; exact fl_iV _)
      omega
  . omega
theorem bd_of {d:Nat->Int} {n:Nat} (h:XV d n) (hn:n <= 24):Bd 5000 (psm d n):=(psm_bd (fun i hi=>(h.fin i hi).2.1) (by omega)).up (by omega) (by omega)
theorem psm_of {d:Nat->Int} {n:Nat} (h:XV d n):psm d n=lsm d n * pw (-1074):=psm_lsm fun i hi=>⟨(h.fin i hi).1,(h.fin i hi).2.1⟩
set_option maxRecDepth 100000 in
set_option maxHeartbeats 8000000 in
theorem walk (a0:Option Addr) (l0 c0:Nat) (z0:Nat->Int) (w:World) (R0:Row w a0 l0 c0 z0) (hz0:∀ i,i < l0->rng (z0 i)) (H:Hold4 w) :
    Calls Tryz.prog 3 #[.slice a0 l0 c0] w fun e w'=>e=.returned (.bool true)∧Below w.heap.size w w':=by
  have CM0:Hid (∀ W,Row W a0 l0 c0 z0->Hold4 W->Calls Tryz.prog 4 #[.slice a0 l0 c0,.int .i64 12] W fun r w'=>∃ eo ec,r=.returned (.tuple #[.slice eo (mdS z0 l0).n ec,.bool true])∧Row w' eo (mdS z0 l0).n ec (mdS z0 l0).d∧Below W.heap.size W w'):=fun W h hH=>made_any W h hH
  obtain ⟨S,N,ME⟩:=md_of z0 l0
  generalize mdS z0 l0=E at *
  have hE12:=ME.le
  have hfew:=ME.few
  have hpE:psm E.d E.n=S * pw (-1074):=by rw [psm_of ME.xv,ME.sum]
  have hpP:psm (pD S N) N=S * pw (-1074):=by rw [psm_of (ps_xv ME.ps),ps_sum ME.ps]
  have bE:Bd 5000 (S * pw (-1074)):=by rw [<- hpE]; exact bd_of ME.xv (by omega)
  have CVE:Hid (∀ W eo ec,Row W eo E.n ec E.d->Hold4 W->Calls Tryz.prog 6 #[.slice eo E.n ec] W fun r w'=>∃ v,r=.returned (.tuple #[v,.bool true])∧DAns W w' (S * pw (-1074)) v):=fun W eo ec h hH=>by
    have:=value_ok h ME.xv (by omega) hH
    rw [hpE] at this
    exact this
  have CVP:Hid (∀ W eo ec,Row W eo N ec (pD S N)->Hold4 W->Calls Tryz.prog 6 #[.slice eo N ec] W fun r w'=>∃ v,r=.returned (.tuple #[v,.bool true])∧DAns W w' (S * pw (-1074)) v):=fun W eo ec h hH=>by
    have:=value_ok h (ps_xv ME.ps) (by omega) hH
    rw [hpP] at this
    exact this
  have CPA:Hid (∀ W g so sn sc e,DNum W (.agg #[.bool g,.slice so sn sc,.int .i64 e]) (S * pw (-1074))->Hold4 W->Calls Tryz.prog 7 #[.agg #[.bool g,.slice so sn sc,.int .i64 e]] W fun r w'=>∃ po pc,r=.returned (.tuple #[.slice po N pc,.int .i64 0])∧Row w' po N pc (pD S N)∧Below W.heap.size W w'):=fun W g so sn sc e h hH=>xParts ME.ps (by omega) W h bE hH
  generalize pD S N=P at *
  generalize S * pw (-1074)=V at *
  have oV:Dok V:=bE.ok (by omega)
  have CS1:Hid (∀ W x y,DNum W x V->DNum W y V->Calls Tryz.prog 8 #[x,y] W fun r w'=>r=.returned (.bool true)∧Below W.heap.size W w'):=fun W x y hx hy=>by
    have:=same7_any hx hy oV oV
    rw [ord_eq rfl] at this
    exact this
  clear hz0 ME hpE hpP bE oV
  obtain ⟨En,hEn⟩:∃ n,n=E.n:=⟨_,rfl⟩
  have lx0:=R0.max
  have ly0:=R0.le
  have hW1:wrap64 ((E.n:Int) * 3)=(E.n:Int) * 3:=IntWalk.wrap64_in _ ⟨by omega,by omega⟩
  have hW2:wrap64 ((E.n:Int) * 3 + 1)=(E.n:Int) * 3 + 1:=IntWalk.wrap64_in _ ⟨by omega,by omega⟩
  have hcmp:(N:Int) <= (E.n:Int) * 3 + 1:=by omega
  clear hEn En hfew
  have hb0:=bel_refl w
  go_enter Tryz.func3,Tryz.ntmps3
  go_wp2_with fail
  refine (CM0.out _ R0 H).mono ?_
  rintro _ y1 ⟨e_o,e_c,rfl,RE,hw1⟩
  have H:=H.keeps hw1
  have R0:=R0.keeps hw1
  have hb1:=bel_trans hb0 hw1
  go_wp2_with fail
  refine (alive7 _ H).mono ?_
  rintro _ y2 ⟨rfl,hw2⟩
  have H:=H.keeps hw2
  have R0:=R0.keeps hw2
  have RE:=RE.keeps hw2
  have hb2:=bel_trans hb1 hw2
  go_wp2_with fail
  refine (CVE.out _ _ _ RE H).mono ?_
  rintro _ y3 ⟨v,rfl,h3⟩
  obtain ⟨x_g,x_o,x_n,x_c,x_e,rfl⟩:=dans_shape h3
  have hw3:=h3.below
  have x_D:=h3.num
  have H:=H.keeps hw3
  have R0:=R0.keeps hw3
  have RE:=RE.keeps hw3
  have hb3:=bel_trans hb2 hw3
  have x_k:=heap_a1 y3 (.cells #[.bool x_g,.slice x_o x_n x_c,.int .i64 x_e] 27)
  have x_D:=x_D.keeps (bel_alloc y3 (.cells #[.bool x_g,.slice x_o x_n x_c,.int .i64 x_e] 27))
  have H:=H.keeps (bel_alloc y3 (.cells #[.bool x_g,.slice x_o x_n x_c,.int .i64 x_e] 27))
  have R0:=R0.keeps (bel_alloc y3 (.cells #[.bool x_g,.slice x_o x_n x_c,.int .i64 x_e] 27))
  have RE:=RE.keeps (bel_alloc y3 (.cells #[.bool x_g,.slice x_o x_n x_c,.int .i64 x_e] 27))
  have hb4':=bel_trans hb3 (bel_alloc y3 (.cells #[.bool x_g,.slice x_o x_n x_c,.int .i64 x_e] 27))
  go_wp2_with fail
  generalize y3.alloc (.cells #[.bool x_g,.slice x_o x_n x_c,.int .i64 x_e] 27)=x4 at x_k x_D H R0 RE hb4' ⊢
  refine (CPA.out _ _ _ _ _ _ x_D H).mono ?_
  rintro _ y4 ⟨p_o,p_c,rfl,RP,hw4⟩
  have H:=H.keeps hw4
  have R0:=R0.keeps hw4
  have RE:=RE.keeps hw4
  have x_k:=(hw4.block _ (Array.getElem?_eq_some_iff.1 x_k).1).trans x_k
  have x_D:=x_D.keeps hw4
  have hb4:=bel_trans hb4' hw4
  go_wp2_with fail
  refine (CVP.out _ _ _ RP H).mono ?_
  rintro _ y5 ⟨v,rfl,h5⟩
  obtain ⟨y_g,y_o,y_n,y_c,y_e,rfl⟩:=dans_shape h5
  have hw5:=h5.below
  have y_D:=h5.num
  have H:=H.keeps hw5
  have R0:=R0.keeps hw5
  have RE:=RE.keeps hw5
  have RP:=RP.keeps hw5
  have x_k:=(hw5.block _ (Array.getElem?_eq_some_iff.1 x_k).1).trans x_k
  have x_D:=x_D.keeps hw5
  have hb5:=bel_trans hb4 hw5
  have x_k:=heap_past (.cells #[.bool y_g,.slice y_o y_n y_c,.int .i64 y_e] 27) x_k
  have y_k:=heap_a1 y5 (.cells #[.bool y_g,.slice y_o y_n y_c,.int .i64 y_e] 27)
  have x_D:=x_D.keeps (bel_alloc y5 (.cells #[.bool y_g,.slice y_o y_n y_c,.int .i64 y_e] 27))
  have y_D:=y_D.keeps (bel_alloc y5 (.cells #[.bool y_g,.slice y_o y_n y_c,.int .i64 y_e] 27))
  have H:=H.keeps (bel_alloc y5 (.cells #[.bool y_g,.slice y_o y_n y_c,.int .i64 y_e] 27))
  have R0:=R0.keeps (bel_alloc y5 (.cells #[.bool y_g,.slice y_o y_n y_c,.int .i64 y_e] 27))
  have RE:=RE.keeps (bel_alloc y5 (.cells #[.bool y_g,.slice y_o y_n y_c,.int .i64 y_e] 27))
  have RP:=RP.keeps (bel_alloc y5 (.cells #[.bool y_g,.slice y_o y_n y_c,.int .i64 y_e] 27))
  have hb6':=bel_trans hb5 (bel_alloc y5 (.cells #[.bool y_g,.slice y_o y_n y_c,.int .i64 y_e] 27))
  have f_x0:=blkC x_k 0 rfl
  have f_x1:=blkC x_k 1 rfl
  have f_x2:=blkC x_k 2 rfl
  go_wp2_with fail
  clear f_x0 f_x1 f_x2
  generalize y5.alloc (.cells #[.bool y_g,.slice y_o y_n y_c,.int .i64 y_e] 27)=x6 at x_k y_k x_D y_D H R0 RE RP hb6' ⊢
  refine (CS1.out _ _ _ x_D y_D).mono ?_
  rintro _ y6 ⟨rfl,hw6⟩
  have H:=H.keeps hw6
  have R0:=R0.keeps hw6
  have RE:=RE.keeps hw6
  have RP:=RP.keeps hw6
  have x_k:=(hw6.block _ (Array.getElem?_eq_some_iff.1 x_k).1).trans x_k
  have x_D:=x_D.keeps hw6
  have y_k:=(hw6.block _ (Array.getElem?_eq_some_iff.1 y_k).1).trans y_k
  have y_D:=y_D.keeps hw6
  have hb6:=bel_trans hb6' hw6
  go_wp2
  all_goals go_ret
  all_goals exact ⟨rfl,by first | exact hb6 | exact hb6.drew⟩
theorem own:ownKnob Tryz.prog.godebug=none:=by kernel_rfl
theorem laidOut:laidOutB Tryz.prog=true:=by kernel_rfl
theorem door_met (os:Os) (args:Array Value):laidMetH Tryz.prog Rows.expansionBackRow.laid ((World.doorLaid Tryz.prog 400 os).forCall (fun _ _=>0) ⟨#[],args,[]⟩).memory :=
  laidMetH_of_parts3 (fuel:=8) (laidMet_of_run' 8 (by kernel_rfl) (by kernel_rfl)) (by kernel_rfl) (by kernel_rfl)
set_option maxRecDepth 100000 in
theorem lifted (os:Os) (started:os.Started) (H:Type) (enc:TypeId × Value->H) :
    ReturnsInHanded {} Tryz.checked os 3 .any (fun w args=>(Rows.expansionBackSpec.pre enc Tryz.prog Tryz.f3 [] false w args∧laidMetH Tryz.prog Rows.expansionBackRow.laid w)∧sizedMet enc Tryz.prog Tryz.f3 (OpenSpec.ofChange Rows.expansionBackSpec) false w args)
      (Rows.expansionBackSpec.post enc Tryz.prog Tryz.f3 false true false false):=by
  refine returnsInHanded_of_change_and (C:=Tryz.checked) (X:=fun w _=>laidMetH Tryz.prog Rows.expansionBackRow.laid w) (fun _ _ _ hh h=>h.of_heap hh) own started (by kernel_rfl) Tryz.func3
    (ChangeSpec.witness_shaped (enc:=enc) (C:=Tryz.checked) (os:=os) (X:=fun w _=>laidMetH Tryz.prog Rows.expansionBackRow.laid w) false (World.doorLaid Tryz.prog 400 os) #[.slice none 0 0] 8 rfl (World.shaped_of_RefB (by kernel_rfl) (by kernel_rfl)) (by kernel_rfl) (by kernel_rfl) (by kernel_rfl) (door_met os _)) ?_
  intro W base args ds gs before hval0 hW _ _ hL _
  have hval:∀ (j:Nat) t v,Tryz.f3.params[j]?=some t->args[j]?=some v->Value.okWide Tryz.prog W .any base t v:=hval0
  have hW':=hW
  obtain ⟨p,q,hA0,hV,rfl,hfz,hnd⟩:=hW
  have hA:DataW.TrodAll enc Tryz.prog W 0 (fun _=>true) true Tryz.f3.params.toList args.toList ds p:=hA0
  rw [Tryz.params3] at hA hval
  obtain ⟨v0,vs0,d0,ds0,p0,q0,hargs,rfl,rfl,h0,r0⟩:=trodAll_cons hA
  obtain ⟨rfl,rfl,rfl⟩:=trodAll_nil r0
  obtain rfl:args=#[v0]:=by cases args; simp_all
  obtain ⟨rfl,rfl⟩:=trodVars_none hV
  obtain ⟨a0,l0,c0,rfl⟩:=okWide_slice Tryz.underlying22 (hval 0 22 v0 rfl rfl)
  have k0:=h0
  have lt0:∀ x ∈ p0,x.block < W.heap.size:=by obtain ⟨m,hm⟩:=k0; exact DataW.trod_lt m _ _ _ hm
  obtain ⟨z0,w0,g0⟩:=row_of h0
  clear hA0 hval0
  refine (walk a0 l0 c0 z0 W w0 g0 (hold6_of hL)).mono fun e W' ⟨he,bel⟩=>?_
  subst he
  exact ⟨_,rfl,_,_,_,[],_,[],hW',trodAll_mk1 (shut_bool Tryz.underlying4 _),(trodAll_cons_mk (Below.trod laidOut (by kernel_rfl) (of_decide_eq_true (by kernel_rfl)) k0 bel lt0) trodAll_mk0),rfl,bel.frame _,fun h=>by cases h⟩
theorem said:Rows.ExpansionBackSaid :=
  OpenClaim.holds_of_wide 3 Tryz.f3 rfl rfl rfl rfl rfl rfl rfl ⟨rfl,rfl,rfl,rfl,rfl⟩ rfl rfl rfl rfl rfl (by kernel_rfl) Tryz.func3 (by kernel_rfl)
    (of_decide_eq_true (by kernel_rfl)) (by unfold Func.isWrapper; first | (rw [if_pos (by decide +kernel)]; kernel_rfl) | (rw [if_neg (by decide +kernel)]; exact ⟨rfl,rfl⟩))
    (fun os started H enc _=>lifted os started H enc)
theorem plain (f:FuncId) (fn:Func) (hf:Tryz.pinned.checked.prog.funcNamed Tryz.f3.name=some f) (hfn:Tryz.pinned.checked.prog.funcs[f]?=some fn) :
    true=Tryz.pinned.checked.prog.looks []∧∀ (j:Nat) t,fn.params[j]?=some t->Tryz.pinned.checked.prog.wantsStandIn t=false:=by
  obtain rfl:f=3:=Option.some.inj ((show Tryz.prog.funcNamed Tryz.f3.name=some 3 by kernel_rfl).symm.trans hf) |>.symm
  obtain rfl:fn=Tryz.f3:=(Option.some.inj (Tryz.func3.symm.trans hfn)).symm
  refine ⟨by kernel_rfl,fun j t ht=>?_⟩
  rw [Tryz.params3] at ht
  obtain rfl:t=22:=by simpa using Array.mem_of_getElem? ht
  exact (show Tryz.prog.wantsStandIn 22=false by kernel_rfl)
theorem card:Rows.ExpansionBackCardSaid :=
  Claim7.holds_tied_plain_at .later [] _ _ _ _ said (fun _ h=>by cases h) (by kernel_rfl) (fun _ h=>by cases h) expansionBack_row_tie rfl ⟨rfl,rfl⟩ (by kernel_rfl) rfl plain (by kernel_rfl)
end Go.Proofs.YtijiabajfgnaoaaGreatDoor.expansionBack
namespace Go.Proofs.YtijiabajfgnaoaaGreatDoor
theorem expansionBack_holds:Rows.ExpansionBackCardSaid:=expansionBack.card
end Go.Proofs.YtijiabajfgnaoaaGreatDoor
