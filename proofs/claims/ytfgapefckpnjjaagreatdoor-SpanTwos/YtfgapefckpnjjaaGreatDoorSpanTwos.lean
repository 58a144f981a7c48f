/-
  SpanTwos: for any two intervals, given by any four bit patterns, the law returns true: Add, Sub, Mul, Meet and Join answer as the document's own intervals do, rounded outward, or refuse where one of the two is none; so they do with the two exchanged. As a card: the library's tables and the layout of package bits start as the program's text lays them.
-/
import Derived.Test.YtfgapefckpnjjaaGreatDoorPart40
import Derived.Test.YtfgapefckpnjjaaGreatDoorPart33
import Derived.Test.YtfgapefckpnjjaaGreatDoorCards
import Derived.Test.YtfgapefckpnjjaaGreatDoorTie
set_option linter.unusedVariables false
set_option linter.unusedSimpArgs false
namespace Go.Proofs.YtfgapefckpnjjaaGreatDoor.spanTwos
open Go Go.ChangeShapes Go.WideShapes Go.ChangeAt Go.RowKit Go.Proofs.YtfgapefckpnjjaaGreatDoor Go.Proofs.YtfgapefckpnjjaaGreatDoor.M
theorem hold9_of {W : World} (h : laidMetH Tryz.prog [("math/bits.deBruijn32tab", Rows.laid_math_bits_deBruijn32tab), ("math/bits.deBruijn64tab", Rows.laid_math_bits_deBruijn64tab), ("plumb/bits.binary64", Rows.laid_plumb_bits_binary64)] W) : Hold4 W := by
  have k:=hold_of h
  exact ⟨k.lay,k.tab,⟨⟨k.lay.a0,k.lay.a1,k.lay.a2,trivial,trivial,trivial⟩,k.tab⟩⟩
set_option maxRecDepth 100000 in
set_option maxHeartbeats 4000000 in
theorem walk (a b c d:Int) (w:World) (ra:rng a) (rb:rng b) (rc:rng c) (rd:rng d) (H:Hold4 w) :
    Calls Tryz.prog 4 #[.agg #[.int .i64 a,.int .i64 b],.agg #[.int .i64 c,.int .i64 d]] w fun e w'=>e=.returned (.bool true)∧Below w.heap.size w w':=by
  have CA:Hid (∀ W,Hold4 W->Calls Tryz.prog 6 #[] W fun e w'=>e=.returned (.bool true)∧Below W.heap.size W w'):=fun W HW=>alive8 W HW.env.lays
  have C1:Hid (∀ W,Hold4 W->Calls Tryz.prog 8 #[.agg #[.int .i64 a,.int .i64 b],.agg #[.int .i64 c,.int .i64 d]] W fun e w'=>e=.returned (.bool true)∧Below W.heap.size W w'):=fun W HW=>twos_ok ra rb rc rd W HW
  have C2:Hid (∀ W,Hold4 W->Calls Tryz.prog 8 #[.agg #[.int .i64 c,.int .i64 d],.agg #[.int .i64 a,.int .i64 b]] W fun e w'=>e=.returned (.bool true)∧Below W.heap.size W w'):=fun W HW=>twos_ok rc rd ra rb W HW
  go_enter Tryz.func4,Tryz.ntmps4
  have s_k:=heap_a2 w (.cells #[.int .i64 a,.int .i64 b] 23) (.cells #[.int .i64 c,.int .i64 d] 23)
  have t_k:=heap_b2 w (.cells #[.int .i64 a,.int .i64 b] 23) (.cells #[.int .i64 c,.int .i64 d] 23)
  have hb:=bel_alloc2 w (.cells #[.int .i64 a,.int .i64 b] 23) (.cells #[.int .i64 c,.int .i64 d] 23)
  go_wp2_with fail
  generalize ((w.alloc (.cells #[.int .i64 a,.int .i64 b] 23)).alloc (.cells #[.int .i64 c,.int .i64 d] 23))=x1 at s_k t_k hb ⊢
  have H1:=H.keeps hb
  refine (CA.out _ H1).mono ?_
  rintro _ y1 ⟨rfl,h1⟩
  have s_k:=blk_up h1 s_k
  have t_k:=blk_up h1 t_k
  have H1:=H1.keeps h1
  have hb:=bel_trans hb h1
  have f_s0:=blkC s_k 0 rfl
  have f_s1:=blkC s_k 1 rfl
  have f_t0:=blkC t_k 0 rfl
  have f_t1:=blkC t_k 1 rfl
  go_wp2_with fail
  refine (C1.out _ H1).mono ?_
  rintro _ y2 ⟨rfl,h1⟩
  have s_k:=blk_up h1 s_k
  have t_k:=blk_up h1 t_k
  have H1:=H1.keeps h1
  have hb:=bel_trans hb h1
  have f_s0:=blkC s_k 0 rfl
  have f_s1:=blkC s_k 1 rfl
  have f_t0:=blkC t_k 0 rfl
  have f_t1:=blkC t_k 1 rfl
  go_wp2_with fail
  refine (C2.out _ H1).mono ?_
  rintro _ y3 ⟨rfl,h1⟩
  have hb:=bel_trans hb h1
  go_wp2
  all_goals go_ret
  all_goals exact ⟨rfl,hb⟩
theorem own:ownKnob Tryz.prog.godebug=none:=by kernel_rfl
theorem laidOut:laidOutB Tryz.prog=true:=by kernel_rfl
theorem door_met (os:Os) (args:Array Value):laidMetH Tryz.prog Rows.spanTwosRow.laid ((World.doorLaid Tryz.prog 400 os).forCall (fun _ _=>0) ⟨#[],args,[]⟩).memory :=
  laidMetH_of_parts3 (fuel:=8) (laidMet_of_run' 8 (by kernel_rfl) (by kernel_rfl)) (by kernel_rfl) (by kernel_rfl)
set_option maxRecDepth 100000 in
theorem lifted (os:Os) (started:os.Started) (H:Type) (enc:TypeId × Value->H) :
    ReturnsInHanded {} Tryz.checked os 4 .any (fun w args=>(Rows.spanTwosSpec.pre enc Tryz.prog Tryz.f4 [] false w args∧laidMetH Tryz.prog Rows.spanTwosRow.laid w)∧sizedMet enc Tryz.prog Tryz.f4 (OpenSpec.ofChange Rows.spanTwosSpec) false w args)
      (Rows.spanTwosSpec.post enc Tryz.prog Tryz.f4 false true false false):=by
  refine returnsInHanded_of_change_and (C:=Tryz.checked) (X:=fun w _=>laidMetH Tryz.prog Rows.spanTwosRow.laid w) (fun _ _ _ hh h=>h.of_heap hh) own started (by kernel_rfl) Tryz.func4
    (ChangeSpec.witness_shaped (enc:=enc) (C:=Tryz.checked) (os:=os) (X:=fun w _=>laidMetH Tryz.prog Rows.spanTwosRow.laid w) false (World.doorLaid Tryz.prog 400 os) #[.agg #[.int .i64 0,.int .i64 0],.agg #[.int .i64 0,.int .i64 0]] 8 rfl (World.shaped_of_RefB (by kernel_rfl) (by kernel_rfl)) (by kernel_rfl) (by kernel_rfl) (by kernel_rfl) (door_met os _)) ?_
  intro W base args ds gs before hval0 hW _ _ hL _
  have hval:∀ (j:Nat) t v,Tryz.f4.params[j]?=some t->args[j]?=some v->Value.okWide Tryz.prog W .any base t v:=hval0
  have hW':=hW
  obtain ⟨p,q,hA0,hV,rfl,hfz,hnd⟩:=hW
  have hA:DataW.TrodAll enc Tryz.prog W 0 (fun _=>true) true Tryz.f4.params.toList args.toList ds p:=hA0
  rw [Tryz.params4] at hA hval
  obtain ⟨v0,vs0,d0,ds0,p0,q0,hargs,rfl,rfl,h0,r0⟩:=trodAll_cons hA
  obtain ⟨v1,vs1,d1,ds1,p1,q1,rfl,rfl,rfl,h1,r1⟩:=trodAll_cons r0
  obtain ⟨rfl,rfl,rfl⟩:=trodAll_nil r1
  obtain rfl:args=#[v0,v1]:=by cases args; simp_all
  obtain ⟨rfl,rfl⟩:=trodVars_none hV
  have k0:=h0
  have lt0:∀ x ∈ p0,x.block < W.heap.size:=by obtain ⟨m,hm⟩:=k0; exact DataW.trod_lt m _ _ _ hm
  obtain ⟨x0,y0,rfl,w0,g0⟩:=span_of (hval 0 23 v0 rfl rfl) h0
  have k1:=h1
  have lt1:∀ x ∈ p1,x.block < W.heap.size:=by obtain ⟨m,hm⟩:=k1; exact DataW.trod_lt m _ _ _ hm
  obtain ⟨x1,y1,rfl,w1,g1⟩:=span_of (hval 1 23 v1 rfl rfl) h1
  clear hA0 hval0
  refine (walk x0 y0 x1 y1 W w0 g0 w1 g1 (hold9_of hL)).mono fun e W' ⟨he,bel⟩=>?_
  subst he
  exact ⟨_,rfl,_,_,_,[],_,[],hW',trodAll_mk1 (shut_bool Tryz.underlying4 _),(trodAll_cons_mk (Below.trod laidOut (by kernel_rfl) (of_decide_eq_true (by kernel_rfl)) k0 bel lt0) (trodAll_cons_mk (Below.trod laidOut (by kernel_rfl) (of_decide_eq_true (by kernel_rfl)) k1 bel lt1) trodAll_mk0)),rfl,bel.frame _,fun h=>by cases h⟩
theorem said:Rows.SpanTwosSaid :=
  OpenClaim.holds_of_wide 4 Tryz.f4 rfl rfl rfl rfl rfl rfl rfl ⟨rfl,rfl,rfl,rfl,rfl⟩ rfl rfl rfl rfl rfl (by kernel_rfl) Tryz.func4 (by kernel_rfl)
    (of_decide_eq_true (by kernel_rfl)) (by unfold Func.isWrapper; first | (rw [if_pos (by decide +kernel)]; kernel_rfl) | (rw [if_neg (by decide +kernel)]; exact ⟨rfl,rfl⟩))
    (fun os started H enc _=>lifted os started H enc)
theorem plain (f:FuncId) (fn:Func) (hf:Tryz.pinned.checked.prog.funcNamed Tryz.f4.name=some f) (hfn:Tryz.pinned.checked.prog.funcs[f]?=some fn) :
    true=Tryz.pinned.checked.prog.looks []∧∀ (j:Nat) t,fn.params[j]?=some t->Tryz.pinned.checked.prog.wantsStandIn t=false:=by
  obtain rfl:f=4:=Option.some.inj ((show Tryz.prog.funcNamed Tryz.f4.name=some 4 by kernel_rfl).symm.trans hf) |>.symm
  obtain rfl:fn=Tryz.f4:=(Option.some.inj (Tryz.func4.symm.trans hfn)).symm
  refine ⟨by kernel_rfl,fun j t ht=>?_⟩
  rw [Tryz.params4] at ht
  obtain rfl:t=23:=by simpa using Array.mem_of_getElem? ht
  exact (show Tryz.prog.wantsStandIn 23=false by kernel_rfl)
theorem card:Rows.SpanTwosCardSaid :=
  Claim7.holds_tied_plain_at .later [] _ _ _ _ said (fun _ h=>by cases h) (by kernel_rfl) (fun _ h=>by cases h) spanTwos_row_tie rfl ⟨rfl,rfl⟩ (by kernel_rfl) rfl plain (by kernel_rfl)
end Go.Proofs.YtfgapefckpnjjaaGreatDoor.spanTwos
namespace Go.Proofs.YtfgapefckpnjjaaGreatDoor
theorem spanTwos_holds:Rows.SpanTwosCardSaid:=spanTwos.card
end Go.Proofs.YtfgapefckpnjjaaGreatDoor
