/-
  SumsKept: for every list of ints the law returns true: where every sum of some of the floats is exact (whole numbers below 2^40, at most 500), all ways to add them come to one. As a card: the library's tables and the layouts of package bits start as the program's text lays them.
-/
import Derived.Test.YteglfnnbpilheaaDoorPart9
import Derived.Test.YteglfnnbpilheaaDoorCards
import Derived.Test.YteglfnnbpilheaaDoorTie
set_option linter.unusedVariables false
set_option linter.unusedSimpArgs false
namespace Go.Proofs.YteglfnnbpilheaaDoor.sumsKept
open Go Go.ChangeShapes Go.WideShapes Go.ChangeAt Go.RowKit Go.Proofs.YteglfnnbpilheaaDoor Go.Proofs.YteglfnnbpilheaaDoor.M
set_option maxRecDepth 100000 in
set_option maxHeartbeats 8000000 in
theorem walk (a0:Option Addr) (l0 c0:Nat) (z0:Nat->Int) (w:World) (h0:Row w a0 l0 c0 z0) (hz0:∀ i,i < l0->rng (z0 i)) (H:Hold4 w) :
    Calls Tryd.prog 5 #[.slice a0 l0 c0] w fun e w'=>e=.returned (.bool true)∧Below w.heap.size w w':=by
  have HB:Hid (∀ i,-1099511627776 <= (z0 i).tmod 1099511627776∧(z0 i).tmod 1099511627776 <= 1099511627776):=fun i=>by
    have a:=Int.tmod_lt_of_pos (z0 i) (show (0:Int) < 1099511627776 by omega)
    have b:=Int.lt_tmod_of_pos (z0 i) (show (0:Int) < 1099511627776 by omega)
    omega
  have HH:Hid (Hold4 w):=H
  have hla:=h0.le
  have hma:=h0.max
  clear H
  go_enter Tryd.func5,Tryd.ntmps5
  go_wp2_with fail
  go_loopw [3,4,5] (fun o sv i wr=>∃ (k:Nat),k <= l0∧k <= 500∧i=.int .i64 k∧sv=.int .i64 (sumF (fun j=>(z0 j).tmod 1099511627776) k)∧Hid (Out w.heap.size wr o k (fun j=>ipP ((z0 j).tmod 1099511627776)))∧Below w.heap.size w wr) (fun _ _ i _=>l0 - (intOf i).toNat)
  case atStart=>exact ⟨0,Nat.zero_le _,Nat.zero_le _,rfl,rfl,Out.nil _ _ _,bel_refl _⟩
  case round=>
    obtain ⟨k,hk,hk5,rfl,rfl,hO,hbw⟩:=hrel
    have hS:=sumF_bd (z:=fun j=>(z0 j).tmod 1099511627776) (M:=1099511627776) k fun i hi=>HB.out i
    have hS1:-(k * 1099511627776:Int) <= sumF (fun j=>(z0 j).tmod 1099511627776) k∧sumF (fun j=>(z0 j).tmod 1099511627776) k <= k * 1099511627776:=hS
    clear hS
    by_cases hlt:k < l0∧k < 500
    . obtain ⟨hlt,hlt5⟩:=hlt
      have j0:(k:Int) < (l0:Int):=by omega
      have j1:(k:Int) < 500:=by omega
      have j2:(0:Int) <= (k:Int):=by omega
      obtain ⟨ba,fa,rfl,hba,hca⟩:=h0.spot (by omega)
      have c1:=(hbw.cell (p:=⟨ba,fa + k,none⟩) hba).trans (hca k hlt)
      have hb:=HB.out k
      have CN:Hid (∀ W,Below wr.heap.size wr W->Calls Tryd.prog 14 #[.int .i64 ((z0 k).tmod 1099511627776),.int .i64 0] W fun r w'=>r=.returned (.tuple #[.int .i64 (ipP ((z0 k).tmod 1099511627776)),.int .i64 0])∧Below W.heap.size W w'):=fun W h=>From_ip (by unfold Sm; omega) W (HH.out.keeps (bel_trans hbw h))
      obtain ⟨sv,hsv⟩:∃ s,sumF (fun j=>(z0 j).tmod 1099511627776) k=s:=⟨_,rfl⟩
      rw [hsv] at hS1 ⊢
      have HSV:=hideIt hsv
      have rz:=hz0 k hlt
      obtain ⟨zk,hzk⟩:∃ s,z0 k=s:=⟨_,rfl⟩
      rw [hzk] at c1 CN hb rz
      have HZK:=hideIt hzk
      obtain ⟨nk,hnk⟩:∃ s,zk.tmod 1099511627776=s:=⟨_,rfl⟩
      rw [hnk] at CN hb
      have HNK:=hideIt hnk
      have hw0:wrap64 nk=nk:=IntWalk.wrap64_in _ ⟨by omega,by omega⟩
      have hw1:wrap64 (sv + nk)=sv + nk:=IntWalk.wrap64_in _ ⟨by omega,by omega⟩
      have HW1:=hideIt hw1
      clear hsv hzk hca hS1 hb
      obtain ⟨pk,hpk⟩:∃ s,ipP nk=s:=⟨_,rfl⟩
      rw [hpk] at CN
      have HPK:=hideIt hpk
      clear hpk
      go_wp2_with fail
      refine (CN.out _ (bel_refl _)).mono ?_
      rintro _ w2 ⟨rfl,hw2⟩
      have hbw2:=bel_trans hbw hw2
      have hO2:=hO.out.stays hw2
      clear hnk
      go_wp2_with (at_builtin; refine wpList_app rfl _ _ rfl w.heap.size _ k _ rfl (hO2.stays (bel_alloc _ _)) _ 1 1 (fun _=>pk) rfl (row1 _ _ rfl) (by omega) (by have:=hbw2.size; simp; omega) ?_; intro v' w3 hO3 hg3)
      have hb3:Below w.heap.size w w3:=(hbw2.alloc hbw2.size _).grown hg3 (by have:=hbw2.size; simp; omega) (own_ge hO.out)
      go_roundw
      case rel=>
        refine ⟨k + 1,by omega,by omega,by go_num,?_,?_,hb3⟩
        . show _=Value.int .i64 (sumF _ k + (z0 k).tmod 1099511627776)
          rw [HSV.out,HZK.out,HNK.out,HW1.out]
        . refine hO3.congr fun i hi=>?_
          by_cases q:i < k
          . unfold cat; rw [if_pos q]
          . unfold cat; rw [if_neg q]
            obtain rfl:i=k:=by omega
            show pk=ipP ((z0 i).tmod 1099511627776)
            rw [HZK.out,HNK.out,HPK.out]
      case measure=>simp [intOf]; omega
    . have sD:Sm (sumF (fun j=>(z0 j).tmod 1099511627776) k):=by unfold Sm; omega
      obtain ⟨vo,vc,hvo,hR⟩:=hO.out.row
      subst hvo
      have hIp:∀ W,Below wr.heap.size wr W->IpL W vo k vc (fun j=>(z0 j).tmod 1099511627776) 1099511627776:=fun W h=>⟨hR.keeps h,by omega,by omega,fun i hi=>HB.out i,by omega⟩
      have hHW:∀ W,Below wr.heap.size wr W->Hold4 W:=fun W h=>HH.out.keeps (bel_trans hbw h)
      have CF:Hid (∀ W,Below wr.heap.size wr W->Calls Tryd.prog 14 #[.int .i64 (sumF (fun j=>(z0 j).tmod 1099511627776) k),.int .i64 0] W fun r w'=>r=.returned (.tuple #[.int .i64 (ipP (sumF (fun j=>(z0 j).tmod 1099511627776) k)),.int .i64 0])∧Below W.heap.size W w'):=fun W h=>From_ip sD W (hHW W h)
      have C1:Hid (∀ W,Below wr.heap.size wr W->Calls Tryd.prog 7 #[.slice vo k vc,.int .i64 0] W fun r w'=>r=.returned (.tuple #[.int .i64 (ipP (sumF (fun j=>(z0 j).tmod 1099511627776) k)),.int .i64 0])∧Below W.heap.size W w'):=fun W h=>Sum_ip (hIp W h) (by omega) (hHW W h)
      have C_Left:Hid (∀ W,Below wr.heap.size wr W->Calls Tryd.prog 15 #[.slice vo k vc] W fun r w'=>r=.returned (.int .i64 (ipP (sumF (fun j=>(z0 j).tmod 1099511627776) k)))∧Below W.heap.size W w'):=fun W h=>Left_ip (hIp W h)
      have C_Right:Hid (∀ W,Below wr.heap.size wr W->Calls Tryd.prog 16 #[.slice vo k vc] W fun r w'=>r=.returned (.int .i64 (ipP (sumF (fun j=>(z0 j).tmod 1099511627776) k)))∧Below W.heap.size W w'):=fun W h=>Right_ip (hIp W h)
      have C_Pairs:Hid (∀ W,Below wr.heap.size wr W->Calls Tryd.prog 17 #[.slice vo k vc] W fun r w'=>r=.returned (.int .i64 (ipP (sumF (fun j=>(z0 j).tmod 1099511627776) k)))∧Below W.heap.size W w'):=fun W h=>Pairs_ip (hIp W h).m0 (hIp W h).mx W (hIp W h).row (fun i hi=>rfl) (hIp W h).bd (hIp W h).tot
      have C_Kahan:Hid (∀ W,Below wr.heap.size wr W->Calls Tryd.prog 18 #[.slice vo k vc] W fun r w'=>r=.returned (.int .i64 (ipP (sumF (fun j=>(z0 j).tmod 1099511627776) k)))∧Below W.heap.size W w'):=fun W h=>Kahan_ip (hIp W h)
      have C_Neumaier:Hid (∀ W,Below wr.heap.size wr W->Calls Tryd.prog 19 #[.slice vo k vc] W fun r w'=>r=.returned (.int .i64 (ipP (sumF (fun j=>(z0 j).tmod 1099511627776) k)))∧Below W.heap.size W w'):=fun W h=>Neumaier_ip (hIp W h)
      have CA:Hid (∀ W,Below wr.heap.size wr W->Calls Tryd.prog 11 #[] W fun r w'=>r=.returned (.bool true)∧Below W.heap.size W w'):=fun W h=>alive5 W (hHW W h)
      have hend:(¬ (k:Int) < (l0:Int))∨((k:Int) < (l0:Int)∧¬ (k:Int) < 500):=by omega
      clear hR hIp hHW sD hS1 hlt hO
      generalize ipP (sumF (fun j=>(z0 j).tmod 1099511627776) k)=P at *
      generalize sumF (fun j=>(z0 j).tmod 1099511627776) k=sv at *
      rcases hend with j0 | ⟨j0,j1⟩
      all_goals
        go_wp2_with fail
        refine (CF.out _ (bel_refl _)).mono ?_
        rintro _ u1 ⟨rfl,hu1⟩
        go_wp2_with fail
        refine (C1.out _ hu1).mono ?_
        rintro _ u2 ⟨rfl,hu2⟩
        replace hu2:=bel_trans hu1 hu2
        go_wp2_with fail
        refine (CA.out _ hu2).mono ?_
        rintro _ u3 ⟨rfl,hu3⟩
        replace hu3:=bel_trans hu2 hu3
        go_wp2_with fail
        refine (C_Left.out _ hu3).mono ?_
        rintro _ u4 ⟨rfl,hu4⟩
        replace hu4:=bel_trans hu3 hu4
        go_wp2_with fail
        refine (C_Right.out _ hu4).mono ?_
        rintro _ u5 ⟨rfl,hu5⟩
        replace hu5:=bel_trans hu4 hu5
        go_wp2_with fail
        refine (C_Pairs.out _ hu5).mono ?_
        rintro _ u6 ⟨rfl,hu6⟩
        replace hu6:=bel_trans hu5 hu6
        go_wp2_with fail
        refine (C_Kahan.out _ hu6).mono ?_
        rintro _ u7 ⟨rfl,hu7⟩
        replace hu7:=bel_trans hu6 hu7
        go_wp2_with fail
        refine (C_Neumaier.out _ hu7).mono ?_
        rintro _ u8 ⟨rfl,hu8⟩
        replace hu8:=bel_trans hu7 hu8
        go_wp2
        go_ret
        exact ⟨rfl,bel_trans hbw hu8⟩
theorem own:ownKnob Tryd.prog.godebug=none:=by kernel_rfl
theorem laidOut:laidOutB Tryd.prog=true:=by kernel_rfl
theorem door_met (os:Os) (args:Array Value):laidMetH Tryd.prog Rows.sumsKeptRow.laid ((World.doorLaid Tryd.prog 400 os).forCall (fun _ _=>0) ⟨#[],args,[]⟩).memory :=
  laidMetH_of_parts3 (fuel:=8) (laidMet_of_run' 8 (by kernel_rfl) (by kernel_rfl)) (by kernel_rfl) (by kernel_rfl)
set_option maxRecDepth 100000 in
theorem lifted (os:Os) (started:os.Started) (H:Type) (enc:TypeId × Value->H) :
    ReturnsInHanded {} Tryd.checked os 5 .any (fun w args=>(Rows.sumsKeptSpec.pre enc Tryd.prog Tryd.f5 [] false w args∧laidMetH Tryd.prog Rows.sumsKeptRow.laid w)∧sizedMet enc Tryd.prog Tryd.f5 (OpenSpec.ofChange Rows.sumsKeptSpec) false w args)
      (Rows.sumsKeptSpec.post enc Tryd.prog Tryd.f5 false true false false):=by
  refine returnsInHanded_of_change_and (C:=Tryd.checked) (X:=fun w _=>laidMetH Tryd.prog Rows.sumsKeptRow.laid w) (fun _ _ _ hh h=>h.of_heap hh) own started (by kernel_rfl) Tryd.func5
    (ChangeSpec.witness_shaped (enc:=enc) (C:=Tryd.checked) (os:=os) (X:=fun w _=>laidMetH Tryd.prog Rows.sumsKeptRow.laid w) false (World.doorLaid Tryd.prog 400 os) #[.slice none 0 0] 8 rfl (World.shaped_of_RefB (by kernel_rfl) (by kernel_rfl)) (by kernel_rfl) (by kernel_rfl) (by kernel_rfl) (door_met os _)) ?_
  intro W base args ds gs before hval0 hW _ _ hL _
  have hval:∀ (j:Nat) t v,Tryd.f5.params[j]?=some t->args[j]?=some v->Value.okWide Tryd.prog W .any base t v:=hval0
  have hW':=hW
  obtain ⟨p,q,hA0,hV,rfl,hfz,hnd⟩:=hW
  have hA:DataW.TrodAll enc Tryd.prog W 0 (fun _=>true) true Tryd.f5.params.toList args.toList ds p:=hA0
  rw [Tryd.params5] at hA hval
  obtain ⟨v0,vs0,d0,ds0,p0,q0,hargs,rfl,rfl,h0,r0⟩:=trodAll_cons hA
  obtain ⟨rfl,rfl,rfl⟩:=trodAll_nil r0
  obtain rfl:args=#[v0]:=by cases args; simp_all
  obtain ⟨rfl,rfl⟩:=trodVars_none hV
  obtain ⟨a0,l0,c0,rfl⟩:=okWide_slice Tryd.underlying22 (hval 0 22 v0 rfl rfl)
  have k0:=h0
  have lt0:∀ x ∈ p0,x.block < W.heap.size:=by obtain ⟨m,hm⟩:=k0; exact DataW.trod_lt m _ _ _ hm
  obtain ⟨z0,w0,g0⟩:=row_of h0
  clear hA0 hval0
  refine (walk a0 l0 c0 z0 W w0 g0 (hold4_of hL)).mono fun e W' ⟨he,bel⟩=>?_
  subst he
  exact ⟨_,rfl,_,_,_,[],_,[],hW',trodAll_mk1 (shut_bool Tryd.underlying4 _),(trodAll_cons_mk (Below.trod laidOut (by kernel_rfl) (of_decide_eq_true (by kernel_rfl)) k0 bel lt0) trodAll_mk0),rfl,bel.frame _,fun h=>by cases h⟩
theorem said:Rows.SumsKeptSaid :=
  OpenClaim.holds_of_wide 5 Tryd.f5 rfl rfl rfl rfl rfl rfl rfl ⟨rfl,rfl,rfl,rfl,rfl⟩ rfl rfl rfl rfl rfl (by kernel_rfl) Tryd.func5 (by kernel_rfl)
    (of_decide_eq_true (by kernel_rfl)) (by unfold Func.isWrapper; first | (rw [if_pos (by decide +kernel)]; kernel_rfl) | (rw [if_neg (by decide +kernel)]; exact ⟨rfl,rfl⟩))
    (fun os started H enc _=>lifted os started H enc)
theorem plain (f:FuncId) (fn:Func) (hf:Tryd.pinned.checked.prog.funcNamed Tryd.f5.name=some f) (hfn:Tryd.pinned.checked.prog.funcs[f]?=some fn) :
    true=Tryd.pinned.checked.prog.looks []∧∀ (j:Nat) t,fn.params[j]?=some t->Tryd.pinned.checked.prog.wantsStandIn t=false:=by
  obtain rfl:f=5:=Option.some.inj ((show Tryd.prog.funcNamed Tryd.f5.name=some 5 by kernel_rfl).symm.trans hf) |>.symm
  obtain rfl:fn=Tryd.f5:=(Option.some.inj (Tryd.func5.symm.trans hfn)).symm
  refine ⟨by kernel_rfl,fun j t ht=>?_⟩
  rw [Tryd.params5] at ht
  obtain rfl:t=22:=by simpa using Array.mem_of_getElem? ht
  exact (show Tryd.prog.wantsStandIn 22=false by kernel_rfl)
theorem card:Rows.SumsKeptCardSaid :=
  Claim7.holds_tied_plain_at .later [] _ _ _ _ said (fun _ h=>by cases h) (by kernel_rfl) (fun _ h=>by cases h) sumsKept_row_tie rfl ⟨rfl,rfl⟩ (by kernel_rfl) rfl plain (by kernel_rfl)
end Go.Proofs.YteglfnnbpilheaaDoor.sumsKept
namespace Go.Proofs.YteglfnnbpilheaaDoor
theorem sumsKept_holds:Rows.SumsKeptCardSaid:=sumsKept.card
end Go.Proofs.YteglfnnbpilheaaDoor
