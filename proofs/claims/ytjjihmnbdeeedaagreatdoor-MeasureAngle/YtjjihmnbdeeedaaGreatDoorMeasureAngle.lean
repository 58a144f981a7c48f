/-
  MeasureAngle: for every three points the law returns true: Angle's sign and stage are the document's, or ErrFinite. As a card: the library's tables and the layout of package bits start as the program's text lays them.
-/
import Derived.Test.YtjjihmnbdeeedaaGreatDoorMa21
import Derived.Test.YtjjihmnbdeeedaaGreatDoorMa6
import Derived.Test.YtjjihmnbdeeedaaGreatDoorCards
import Derived.Test.YtjjihmnbdeeedaaGreatDoorTie
set_option maxRecDepth 100000
set_option maxHeartbeats 8000000
set_option linter.unusedVariables false
set_option linter.unusedSimpArgs false
namespace Go.Proofs.YtjjihmnbdeeedaaGreatDoor.measureAngle
open Go Go.Proofs.Tryz Go.ChangeShapes Go.WideShapes Go.ChangeAt Go.RowKit Go.Proofs.YtjjihmnbdeeedaaGreatDoor Go.Proofs.YtjjihmnbdeeedaaGreatDoor.M
theorem Od (ax ay bx by' cx cy:Int) (w:World) (rax:ag ax) (ray:ag ay) (rbx:ag bx) (rby:ag by') (rcx:ag cx) (rcy:ag cy) (hok:(co ax ay&&co bx by'&&co cx cy)=false) (H:aO w) :
  Calls prog 5 #[.agg #[G6 ax,G6 ay],.agg #[G6 bx,G6 by'],.agg #[G6 cx,G6 cy]] w fun e w'=>e=.returned (.bool true)∧Below w.heap.size w w':=by
 have CG:Hid (∀ W g,W.heap[g]?=some (.cells #[G6 ax,G6 ay,G6 bx,G6 by',G6 cx,G6 cy] 33)->Calls prog 18 #[.slice (some ⟨g,0,none⟩) 3 3] W fun x w'=>x=.returned (.bool false)∧Below W.heap.size W w'):=fun W g h=>by
  have:=xG _ _ _ _ _ W (pC W h) (iS rax rbx rcx) (iS ray rby rcy)
  rw[mG co,hok] at this
  exact this
 have CA:Hid (∀ W,aO W->Calls prog 17 #[.agg #[G6 ax,G6 ay],.agg #[G6 bx,G6 by'],.agg #[G6 cx,G6 cy]] W fun r w'=>r=.returned (.tuple #[.agg #[G6 0,G6 0],G6 10])∧Below W.heap.size W w'):=fun W h=>Cf rax ray rbx rby rcx rcy hok W h
 clear rax ray rbx rby rcx rcy hok
 obtain⟨hb0,a_k,b_k,c_k,hsz0⟩:=Fc w (.cells #[G6 ax,G6 ay] 33) (.cells #[G6 bx,G6 by'] 33) (.cells #[G6 cx,G6 cy] 33)
 clear hsz0
 go_enter func5,ntmps5
 go_wp2_with fail
 generalize (((w.alloc (.cells #[G6 ax,G6 ay] 33)).alloc (.cells #[G6 bx,G6 by'] 33)).alloc (.cells #[G6 cx,G6 cy] 33))=x0 at hb0 a_k b_k c_k ⊢
 replace H:=H.keeps hb0
 refine(Eb _ H).mono ?_
 rintro _ y1 ⟨rfl,hw⟩
 replace a_k:=aj hw a_k
 replace b_k:=aj hw b_k
 replace c_k:=aj hw c_k
 replace H:=H.keeps hw
 replace hb0:=ac hb0 hw
 clear hw
 have f_a0:=ae a_k 0 rfl
 have f_a1:=ae a_k 1 rfl
 have f_b0:=ae b_k 0 rfl
 have f_b1:=ae b_k 1 rfl
 have f_c0:=ae c_k 0 rfl
 have f_c1:=ae c_k 1 rfl
 go_wp2_with fail
 clear f_a0 f_a1 f_b0 f_b1 f_c0 f_c1
 refine(CA.out _ H).mono ?_
 rintro _ y2 ⟨rfl,hw⟩
 replace a_k:=aj hw a_k
 replace b_k:=aj hw b_k
 replace c_k:=aj hw c_k
 replace H:=H.keeps hw
 replace hb0:=ac hb0 hw
 clear hw
 replace a_k:=am (.cells #[G6 0,G6 0] 28) a_k
 replace b_k:=am (.cells #[G6 0,G6 0] 28) b_k
 replace c_k:=am (.cells #[G6 0,G6 0] 28) c_k
 have v_k:=aD y2 (.cells #[G6 0,G6 0] 28)
 replace H:=H.keeps (af y2 (.cells #[G6 0,G6 0] 28))
 replace hb0:=ac hb0 (af y2 (.cells #[G6 0,G6 0] 28))
 have hz:Hid (y2.heap.size+1=(y2.alloc (.cells #[G6 0,G6 0] 28)).heap.size):=(aw _ _).symm
 have f_a0:=ae a_k 0 rfl
 have f_a1:=ae a_k 1 rfl
 have f_b0:=ae b_k 0 rfl
 have f_b1:=ae b_k 1 rfl
 have f_c0:=ae c_k 0 rfl
 have f_c1:=ae c_k 1 rfl
 go_wp2_with fail
 clear f_a0 f_a1 f_b0 f_b1 f_c0 f_c1
 generalize y2.alloc (.cells #[G6 0,G6 0] 28)=x2 at a_k b_k c_k v_k H hb0 hz ⊢
 refine(CG.out _ _ (aE _ hz.out)).mono ?_
 rintro _ y3 ⟨rfl,hv⟩
 have hw:=ac (af x2 (.cells #[G6 ax,G6 ay,G6 bx,G6 by',G6 cx,G6 cy] 33)) hv
 replace a_k:=aj hw a_k
 replace b_k:=aj hw b_k
 replace c_k:=aj hw c_k
 replace v_k:=aj hw v_k
 replace H:=H.keeps hw
 replace hb0:=ac hb0 hw
 clear hw hv
 have f_v0:=ae v_k 0 rfl
 have f_v1:=ae v_k 1 rfl
 go_wp2_with (go_at_call 19;refine(Ld _ _).mono ?_;rintro _ wz ⟨rfl,hwz⟩;replace hwz:=hwz.symm;subst hwz)
 all_goals go_ret
 all_goals exact⟨bz (by simp),hb0⟩
theorem Le (ax ay bx by' cx cy:Int) (w:World) (rax:ag ax) (ray:ag ay) (rbx:ag bx) (rby:ag by') (rcx:ag cx) (rcy:ag cy) (pax:ak ax=true) (pay:ak ay=true) (pbx:ak bx=true) (pby:ak by'=true) (pcx:ak cx=true) (pcy:ak cy=true) (H:aO w) :
    Calls prog 5 #[.agg #[G6 ax,G6 ay],.agg #[G6 bx,G6 by'],.agg #[G6 cx,G6 cy]] w fun e w'=>e=.returned (.bool true)∧Below w.heap.size w w':=by
  have hok:(co ax ay&&co bx by'&&co cx cy)=true:=by unfold co;rw[pax,pay,pbx,pby,pcx,pcy];rfl
  have CG:Hid (∀ W g,W.heap[g]?=some (.cells #[G6 ax,G6 ay,G6 bx,G6 by',G6 cx,G6 cy] 33)->Calls prog 18 #[.slice (some ⟨g,0,none⟩) 3 3] W fun x w'=>x=.returned (.bool true)∧Below W.heap.size W w'):=fun W g h=>by
    have:=xG _ _ _ _ _ W (pC W h) (iS rax rbx rcx) (iS ray rby rcy)
    rw[mG co,hok] at this
    exact this
  have CA:Hid (∀ W,aO W->Calls prog 17 #[.agg #[G6 ax,G6 ay],.agg #[G6 bx,G6 by'],.agg #[G6 cx,G6 cy]] W fun r w'=>r=.returned (.tuple #[.agg #[G6 (bH (gG ax ay bx by' cx cy) 0),G6 (je ax ay bx by' cx cy)],G6 0])∧Below W.heap.size W w'):=fun W h=>Iy rax ray rbx rby rcx rcy pax pay pbx pby pcx pcy W h
  have CR:Hid (∀ W,Calls prog 20 #[.agg #[G6 ax,G6 ay],.agg #[G6 bx,G6 by'],.agg #[G6 cx,G6 cy]] W fun r w'=>r=.returned (.agg #[G6 (bH (gG ax ay bx by' cx cy) 0),G6 (je ax ay bx by' cx cy)])∧Below W.heap.size W w'):=fun W=>by
    cases hT:nG ax ay bx by' cx cy
    · exact Fs rax ray rbx rby rcx rcy pax pay pbx pby pcx pcy hT W
    · exact Fr rax ray rbx rby rcx rcy hT W
  have heq:∀ (p q:Int) W,(binOp .eql 28 (.agg #[G6 p,G6 q]) (.agg #[G6 p,G6 q])).run prog W=.ok (.bool true) W:=fun p q W=>by simp[go_sem]
  clear rax ray rbx rby rcx rcy pax pay pbx pby pcx pcy hok
  generalize bH (gG ax ay bx by' cx cy) 0=sx at *
  generalize je ax ay bx by' cx cy=st at *
  obtain⟨hb0,a_k,b_k,c_k,hsz0⟩:=Fc w (.cells #[G6 ax,G6 ay] 33) (.cells #[G6 bx,G6 by'] 33) (.cells #[G6 cx,G6 cy] 33)
  clear hsz0
  go_enter func5,ntmps5
  go_wp2_with fail
  generalize (((w.alloc (.cells #[G6 ax,G6 ay] 33)).alloc (.cells #[G6 bx,G6 by'] 33)).alloc (.cells #[G6 cx,G6 cy] 33))=x0 at hb0 a_k b_k c_k ⊢
  replace H:=H.keeps hb0
  refine(Eb _ H).mono ?_
  rintro _ y1 ⟨rfl,hw⟩
  replace a_k:=aj hw a_k
  replace b_k:=aj hw b_k
  replace c_k:=aj hw c_k
  replace H:=H.keeps hw
  replace hb0:=ac hb0 hw
  clear hw
  have f_a0:=ae a_k 0 rfl
  have f_a1:=ae a_k 1 rfl
  have f_b0:=ae b_k 0 rfl
  have f_b1:=ae b_k 1 rfl
  have f_c0:=ae c_k 0 rfl
  have f_c1:=ae c_k 1 rfl
  go_wp2_with fail
  clear f_a0 f_a1 f_b0 f_b1 f_c0 f_c1
  refine(CA.out _ H).mono ?_
  rintro _ y2 ⟨rfl,hw⟩
  replace a_k:=aj hw a_k
  replace b_k:=aj hw b_k
  replace c_k:=aj hw c_k
  replace H:=H.keeps hw
  replace hb0:=ac hb0 hw
  clear hw
  replace a_k:=am (.cells #[G6 sx,G6 st] 28) a_k
  replace b_k:=am (.cells #[G6 sx,G6 st] 28) b_k
  replace c_k:=am (.cells #[G6 sx,G6 st] 28) c_k
  have v_k:=aD y2 (.cells #[G6 sx,G6 st] 28)
  replace H:=H.keeps (af y2 (.cells #[G6 sx,G6 st] 28))
  replace hb0:=ac hb0 (af y2 (.cells #[G6 sx,G6 st] 28))
  have hz:Hid (y2.heap.size+1=(y2.alloc (.cells #[G6 sx,G6 st] 28)).heap.size):=(aw _ _).symm
  have f_a0:=ae a_k 0 rfl
  have f_a1:=ae a_k 1 rfl
  have f_b0:=ae b_k 0 rfl
  have f_b1:=ae b_k 1 rfl
  have f_c0:=ae c_k 0 rfl
  have f_c1:=ae c_k 1 rfl
  go_wp2_with fail
  clear f_a0 f_a1 f_b0 f_b1 f_c0 f_c1
  generalize y2.alloc (.cells #[G6 sx,G6 st] 28)=x2 at a_k b_k c_k v_k H hb0 hz ⊢
  refine(CG.out _ _ (aE _ hz.out)).mono ?_
  rintro _ y3 ⟨rfl,hv⟩
  have hw:=ac (af x2 (.cells #[G6 ax,G6 ay,G6 bx,G6 by',G6 cx,G6 cy] 33)) hv
  replace a_k:=aj hw a_k
  replace b_k:=aj hw b_k
  replace c_k:=aj hw c_k
  replace v_k:=aj hw v_k
  replace H:=H.keeps hw
  replace hb0:=ac hb0 hw
  clear hw hv
  go_wp2_with fail
  have KK1:∀ W,Below y3.heap.size y3 W->W.cell? ⟨w.heap.size,0,none⟩=some (G6 ax)∧W.cell? ⟨w.heap.size,1,none⟩=some (G6 ay)∧W.cell? ⟨w.heap.size+1,0,none⟩=some (G6 bx)∧W.cell? ⟨w.heap.size+1,1,none⟩=some (G6 by')∧W.cell? ⟨w.heap.size+2,0,none⟩=some (G6 cx)∧W.cell? ⟨w.heap.size+2,1,none⟩=some (G6 cy)∧W.cell? ⟨y2.heap.size,0,none⟩=some (G6 sx)∧W.cell? ⟨y2.heap.size,1,none⟩=some (G6 st):=fun W hb=>⟨ar (ae a_k 0 rfl) hb,ar (ae a_k 1 rfl) hb,ar (ae b_k 0 rfl) hb,ar (ae b_k 1 rfl) hb,ar (ae c_k 0 rfl) hb,ar (ae c_k 1 rfl) hb,ar (ae v_k 0 rfl) hb,ar (ae v_k 1 rfl) hb⟩
  have hC1_0:=(ap y3).drew
  have hT1_0:Below w.heap.size w y3.drew:=hb0.drew
  go_region_held3 (fun W=>W.cell? ⟨w.heap.size,0,none⟩=some (G6 ax)∧W.cell? ⟨w.heap.size,1,none⟩=some (G6 ay)∧W.cell? ⟨w.heap.size+1,0,none⟩=some (G6 bx)∧W.cell? ⟨w.heap.size+1,1,none⟩=some (G6 by')∧W.cell? ⟨w.heap.size+2,0,none⟩=some (G6 cx)∧W.cell? ⟨w.heap.size+2,1,none⟩=some (G6 cy)∧W.cell? ⟨y2.heap.size,0,none⟩=some (G6 sx)∧W.cell? ⟨y2.heap.size,1,none⟩=some (G6 st))
    (with_reducible first|assumption|exact KK1 _ hC1_0|exact KK1 _ hC1_1|fail)
    (first
      | (go_at_call 19;refine(Ld _ _).mono ?_;rintro _ wz ⟨rfl,hwz⟩;replace hwz:=hwz.symm;subst hwz)
      | (go_at_call 20; refine (CR.out _).mono ?_; rintro _ yS ⟨rfl,hwS⟩; have hC1_1:=ac hC1_0 hwS; have hT1_1:=ac hT1_0 hwS))
  go_wp2
  all_goals go_ret
  all_goals exact⟨bz (by simp),by first|exact hT1_1|exact hT1_1.drew⟩
theorem walk (ax ay bx by' cx cy:Int) (w:World) (rax:ag ax) (ray:ag ay) (rbx:ag bx) (rby:ag by') (rcx:ag cx) (rcy:ag cy) (H:aO w) :
  Calls prog 5 #[.agg #[G6 ax,G6 ay],.agg #[G6 bx,G6 by'],.agg #[G6 cx,G6 cy]] w fun e w'=>e=.returned (.bool true)∧Below w.heap.size w w':=by
 cases h:(co ax ay&&co bx by'&&co cx cy)
 ·exact Od ax ay bx by' cx cy w rax ray rbx rby rcx rcy h H
 ·have h':((ak ax=true∧ak ay=true)∧ak bx=true∧ak by'=true)∧ak cx=true∧ak cy=true:=by unfold co at h;simpa using h
  obtain⟨⟨⟨h1,h2⟩,h3,h4⟩,h5,h6⟩:=h'
  exact Le ax ay bx by' cx cy w rax ray rbx rby rcx rcy h1 h2 h3 h4 h5 h6 H
theorem own:ownKnob prog.godebug=none:=by kernel_rfl
theorem laidOut:laidOutB prog=true:=by kernel_rfl
theorem door_met (os:Os) (args:Array Value):laidMetH prog Rows.measureAngleRow.laid ((World.doorLaid prog 400 os).forCall (fun _ _=>0) ⟨#[],args,[]⟩).memory :=
 laidMetH_of_parts3 (fuel:=8) (laidMet_of_run' 8 (by kernel_rfl) (by kernel_rfl)) (by kernel_rfl) (by kernel_rfl)
theorem lifted (os:Os) (started:os.Started) (H:Type) (enc:TypeId × Value->H) :
  ReturnsInHanded {} checked os 5 .any (fun w args=>(Rows.measureAngleSpec.pre enc prog f5 [] false w args∧laidMetH prog Rows.measureAngleRow.laid w)∧sizedMet enc prog f5 (OpenSpec.ofChange Rows.measureAngleSpec) false w args)
   (Rows.measureAngleSpec.post enc prog f5 false true false false):=by
 refine returnsInHanded_of_change_and (C:=checked) (X:=fun w _=>laidMetH prog Rows.measureAngleRow.laid w) (fun _ _ _ hh h=>h.of_heap hh) own started (by kernel_rfl) func5
  (ChangeSpec.witness_shaped (enc:=enc) (C:=checked) (os:=os) (X:=fun w _=>laidMetH prog Rows.measureAngleRow.laid w) false (World.doorLaid prog 400 os) #[.agg #[G6 0,G6 0],.agg #[G6 0,G6 0],.agg #[G6 0,G6 0]] 8 rfl (World.shaped_of_RefB (by kernel_rfl) (by kernel_rfl)) (by kernel_rfl) (by kernel_rfl) (by kernel_rfl) (door_met os _)) ?_
 intro W base args ds gs before hval0 hW _ _ hL _
 have hval:∀ (j:Nat) t v,f5.params[j]?=some t->args[j]?=some v->Value.okWide prog W .any base t v:=hval0
 have hW':=hW
 obtain⟨p,q,hA0,hV,rfl,hfz,hnd⟩:=hW
 have hA:DataW.TrodAll enc prog W 0 (fun _=>true) true f5.params.toList args.toList ds p:=hA0
 rw[params5] at hA hval
 obtain⟨v0,vs0,d0,ds0,p0,q0,hargs,rfl,rfl,h0,r0⟩:=trodAll_cons hA
 obtain⟨v1,vs1,d1,ds1,p1,q1,rfl,rfl,rfl,h1,r1⟩:=trodAll_cons r0
 obtain⟨v2,vs2,d2,ds2,p2,q2,rfl,rfl,rfl,h2,r2⟩:=trodAll_cons r1
 obtain⟨rfl,rfl,rfl⟩:=trodAll_nil r2
 obtain rfl:args=#[v0,v1,v2]:=by cases args;simp_all
 obtain⟨rfl,rfl⟩:=trodVars_none hV
 have k0:=h0
 have lt0:∀ x ∈ p0,x.block<W.heap.size:=by obtain⟨m,hm⟩:=k0;exact DataW.trod_lt m _ _ _ hm
 obtain⟨x0,y0,rfl,w0,g0⟩:=uZ (hval 0 33 v0 rfl rfl) h0
 have k1:=h1
 have lt1:∀ x ∈ p1,x.block<W.heap.size:=by obtain⟨m,hm⟩:=k1;exact DataW.trod_lt m _ _ _ hm
 obtain⟨x1,y1,rfl,w1,g1⟩:=uZ (hval 1 33 v1 rfl rfl) h1
 have k2:=h2
 have lt2:∀ x ∈ p2,x.block<W.heap.size:=by obtain⟨m,hm⟩:=k2;exact DataW.trod_lt m _ _ _ hm
 obtain⟨x2,y2,rfl,w2,g2⟩:=uZ (hval 2 33 v2 rfl rfl) h2
 clear hA0 hval0
 refine(walk x0 y0 x1 y1 x2 y2 W w0 g0 w1 g1 w2 g2 (JN hL)).mono fun e W' ⟨he,bel⟩=>?_
 subst he
 exact⟨_,rfl,_,_,_,[],_,[],hW',trodAll_mk1 (shut_bool underlying4 _),(trodAll_cons_mk (Below.trod laidOut (by kernel_rfl) (of_decide_eq_true (by kernel_rfl)) k0 bel lt0) (trodAll_cons_mk (Below.trod laidOut (by kernel_rfl) (of_decide_eq_true (by kernel_rfl)) k1 bel lt1) (trodAll_cons_mk (Below.trod laidOut (by kernel_rfl) (of_decide_eq_true (by kernel_rfl)) k2 bel lt2) trodAll_mk0))),rfl,bel.frame _,fun h=>by cases h⟩
theorem said:Rows.MeasureAngleSaid :=
 OpenClaim.holds_of_wide 5 f5 rfl rfl rfl rfl rfl rfl rfl ⟨rfl,rfl,rfl,rfl,rfl⟩ rfl rfl rfl rfl rfl (by kernel_rfl) func5 (by kernel_rfl)
  (of_decide_eq_true (by kernel_rfl)) (by unfold Func.isWrapper;first|(rw[if_pos (by decide +kernel)];kernel_rfl)|(rw[if_neg (by decide +kernel)];exact⟨rfl,rfl⟩))
  (fun os started H enc _=>lifted os started H enc)
theorem tZ (f:FuncId) (fn:Func) (hf:Tryz.pinned.checked.prog.funcNamed f5.name=some f) (hfn:Tryz.pinned.checked.prog.funcs[f]?=some fn) :
  true=Tryz.pinned.checked.prog.looks []∧∀ (j:Nat) t,fn.params[j]?=some t->Tryz.pinned.checked.prog.wantsStandIn t=false:=by
 obtain rfl:f=5:=Option.some.inj ((show prog.funcNamed f5.name=some 5 by kernel_rfl).symm.trans hf) |>.symm
 obtain rfl:fn=f5:=(Option.some.inj (func5.symm.trans hfn)).symm
 refine⟨by kernel_rfl,fun j t ht=>?_⟩
 rw[params5] at ht
 obtain rfl:t=33:=by simpa using Array.mem_of_getElem? ht
 exact(show prog.wantsStandIn 33=false by kernel_rfl)
theorem card:Rows.MeasureAngleCardSaid :=
 Claim7.holds_tied_plain_at .later [] _ _ _ _ said (fun _ h=>by cases h) (by kernel_rfl) (fun _ h=>by cases h) measureAngle_row_tie rfl ⟨rfl,rfl⟩ (by kernel_rfl) rfl tZ (by kernel_rfl)
end Go.Proofs.YtjjihmnbdeeedaaGreatDoor.measureAngle
namespace Go.Proofs.YtjjihmnbdeeedaaGreatDoor
theorem measureAngle_holds:Rows.MeasureAngleCardSaid:=measureAngle.card
end Go.Proofs.YtjjihmnbdeeedaaGreatDoor
