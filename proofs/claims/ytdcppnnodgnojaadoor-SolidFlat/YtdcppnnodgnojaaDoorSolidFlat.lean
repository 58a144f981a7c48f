/-
  SolidFlat: for any five places by any bit patterns, and any bit pattern for the third coordinate of all, the law returns true: where one is no place it says so, else Side and Sphere answer with the sign 0. As a card: the library's tables and the layout of package bits start as the program's text lays them.
-/
import Derived.Test.YtdcppnnodgnojaaDoorPart19
import Derived.Test.YtdcppnnodgnojaaDoorPart6
import Derived.Test.YtdcppnnodgnojaaDoorCards
import Derived.Test.YtdcppnnodgnojaaDoorTie
set_option linter.unusedVariables false
set_option linter.unusedSimpArgs false
namespace Go.Proofs.YtdcppnnodgnojaaDoor.solidFlat
open Go Go.ChangeShapes Go.WideShapes Go.ChangeAt Go.RowKit Go.Proofs.YtdcppnnodgnojaaDoor Go.Proofs.YtdcppnnodgnojaaDoor.M
theorem hold9_of {W : World} (h : laidMetH Tryd.prog [("math/bits.deBruijn32tab", Rows.laid_math_bits_deBruijn32tab), ("math/bits.deBruijn64tab", Rows.laid_math_bits_deBruijn64tab), ("plumb/bits.binary64", Rows.laid_plumb_bits_binary64)] W) : Hold4 W := by
  have k:=hold_of h
  exact ⟨k.lay,k.tab,⟨⟨k.lay.a0,k.lay.a1,k.lay.a2,trivial,trivial,trivial⟩,k.tab⟩⟩
set_option maxRecDepth 100000 in
set_option maxHeartbeats 4000000 in
theorem walk (s:Nat->Nat->Int) (z:Int) (w:World) (hr:∀ i k,rng (s i k)) (rz:rng z) (H:Hold4 w) :
    Calls Tryd.prog 4 #[.agg (five s),.int .i64 z] w fun e w'=>e=.returned (.bool true)∧Below w.heap.size w w':=by
  have hF:∀ i k,rng (flt s z 5 i k):=fun i k=>rng_flt hr rz 5 i k
  have CA:Hid (∀ W,Hold4 W->Calls Tryd.prog 5 #[] W fun e w'=>e=.returned (.bool true)∧Below W.heap.size W w'):=fun W HW=>alive12 W HW
  have CG:Hid (∀ W g,W.heap[g]?=some (.cells #[.int .i64 (s 0 0),.int .i64 (s 0 1),.int .i64 z,.int .i64 (s 1 0),.int .i64 (s 1 1),.int .i64 z,.int .i64 (s 2 0),.int .i64 (s 2 1),.int .i64 z,.int .i64 (s 3 0),.int .i64 (s 3 1),.int .i64 z,.int .i64 (s 4 0),.int .i64 (s 4 1),.int .i64 z] 24 (0,0))->Calls Tryd.prog 6 #[.slice (some ⟨g,0,none⟩) 5 5] W fun x w'=>x=.returned (.bool (allB (sok (flt s z 5)) 5))∧Below W.heap.size W w'):=fun W g hk=>slgood_any _ 5 5 (flt s z 5) W (sps5 (flt s z 5) W hk) hF
  have CS:Hid (allB (sok (flt s z 5)) 5=true->∀ W,Below w.heap.size w W->Calls Tryd.prog 7 #[.agg #[.int .i64 (s 0 0),.int .i64 (s 0 1),.int .i64 z],.agg #[.int .i64 (s 1 0),.int .i64 (s 1 1),.int .i64 z],.agg #[.int .i64 (s 2 0),.int .i64 (s 2 1),.int .i64 z],.agg #[.int .i64 (s 3 0),.int .i64 (s 3 1),.int .i64 z]] W fun e w'=>e=.returned (.tuple #[.agg #[.int .i64 0,.int .i64 (st_side (flt s z 5))],.int .i64 0])∧Below W.heap.size W w'):=fun q W hW=>by
    have:=sSide_ok (flt s z 5) W hF (sok54 q) (H.keeps hW)
    rw [ord_flat_side] at this
    exact this
  have CP:Hid (allB (sok (flt s z 5)) 5=true->∀ W,Below w.heap.size w W->Calls Tryd.prog 9 #[.agg #[.int .i64 (s 0 0),.int .i64 (s 0 1),.int .i64 z],.agg #[.int .i64 (s 1 0),.int .i64 (s 1 1),.int .i64 z],.agg #[.int .i64 (s 2 0),.int .i64 (s 2 1),.int .i64 z],.agg #[.int .i64 (s 3 0),.int .i64 (s 3 1),.int .i64 z],.agg #[.int .i64 (s 4 0),.int .i64 (s 4 1),.int .i64 z]] W fun e w'=>e=.returned (.tuple #[.agg #[.int .i64 0,.int .i64 (st_sphere (flt s z 5))],.int .i64 0])∧Below W.heap.size W w'):=fun q W hW=>by
    have:=sSphere_ok (flt s z 5) W hF q (H.keeps hW)
    rw [ord_flat_sphere] at this
    exact this
  have CN:Hid (∀ W,Calls Tryd.prog 12 #[.int .i64 0] W fun r w'=>r=.returned (.int .i64 0)∧w'=W):=fun W=>lnum12 _ W
  clear hF hr rz
  generalize st_side (flt s z 5)=st at *
  generalize st_sphere (flt s z 5)=sv at *
  generalize allB (sok (flt s z 5)) 5=b at *
  unfold five
  generalize s 0 0=a0 at *
  generalize s 0 1=b0 at *
  generalize s 0 2=c0 at *
  generalize s 1 0=a1 at *
  generalize s 1 1=b1 at *
  generalize s 1 2=c1 at *
  generalize s 2 0=a2 at *
  generalize s 2 1=b2 at *
  generalize s 2 2=c2 at *
  generalize s 3 0=a3 at *
  generalize s 3 1=b3 at *
  generalize s 3 2=c3 at *
  generalize s 4 0=a4 at *
  generalize s 4 1=b4 at *
  generalize s 4 2=c4 at *
  go_enter Tryd.func4,Tryd.ntmps4
  have l_k:=heap_a1 w (.cells #[.int .i64 a0,.int .i64 b0,.int .i64 c0,.int .i64 a1,.int .i64 b1,.int .i64 c1,.int .i64 a2,.int .i64 b2,.int .i64 c2,.int .i64 a3,.int .i64 b3,.int .i64 c3,.int .i64 a4,.int .i64 b4,.int .i64 c4] 24)
  have hb:=bel_alloc w (.cells #[.int .i64 a0,.int .i64 b0,.int .i64 c0,.int .i64 a1,.int .i64 b1,.int .i64 c1,.int .i64 a2,.int .i64 b2,.int .i64 c2,.int .i64 a3,.int .i64 b3,.int .i64 c3,.int .i64 a4,.int .i64 b4,.int .i64 c4] 24)
  have H1:=H.keeps hb
  go_wp2_with fail
  generalize w.alloc (.cells #[.int .i64 a0,.int .i64 b0,.int .i64 c0,.int .i64 a1,.int .i64 b1,.int .i64 c1,.int .i64 a2,.int .i64 b2,.int .i64 c2,.int .i64 a3,.int .i64 b3,.int .i64 c3,.int .i64 a4,.int .i64 b4,.int .i64 c4] 24)=x1 at l_k hb H1 ⊢
  refine (CA.out _ H1).mono ?_
  rintro _ y1 ⟨rfl,h1⟩
  replace l_k:=blk_us h1 l_k
  replace hb:=bel_trans hb h1
  clear h1 H1
  go_wp2_with fail
  go_loopw [6] (fun i wr=>Below w.heap.size w wr∧((i=.int .i64 0∧wr.heap[w.heap.size]?=some (.cells #[.int .i64 a0,.int .i64 b0,.int .i64 c0,.int .i64 a1,.int .i64 b1,.int .i64 c1,.int .i64 a2,.int .i64 b2,.int .i64 c2,.int .i64 a3,.int .i64 b3,.int .i64 c3,.int .i64 a4,.int .i64 b4,.int .i64 c4] 24 (0,0)))∨(i=.int .i64 1∧wr.heap[w.heap.size]?=some (.cells #[.int .i64 a0,.int .i64 b0,.int .i64 z,.int .i64 a1,.int .i64 b1,.int .i64 c1,.int .i64 a2,.int .i64 b2,.int .i64 c2,.int .i64 a3,.int .i64 b3,.int .i64 c3,.int .i64 a4,.int .i64 b4,.int .i64 c4] 24 (0,0)))∨(i=.int .i64 2∧wr.heap[w.heap.size]?=some (.cells #[.int .i64 a0,.int .i64 b0,.int .i64 z,.int .i64 a1,.int .i64 b1,.int .i64 z,.int .i64 a2,.int .i64 b2,.int .i64 c2,.int .i64 a3,.int .i64 b3,.int .i64 c3,.int .i64 a4,.int .i64 b4,.int .i64 c4] 24 (0,0)))∨(i=.int .i64 3∧wr.heap[w.heap.size]?=some (.cells #[.int .i64 a0,.int .i64 b0,.int .i64 z,.int .i64 a1,.int .i64 b1,.int .i64 z,.int .i64 a2,.int .i64 b2,.int .i64 z,.int .i64 a3,.int .i64 b3,.int .i64 c3,.int .i64 a4,.int .i64 b4,.int .i64 c4] 24 (0,0)))∨(i=.int .i64 4∧wr.heap[w.heap.size]?=some (.cells #[.int .i64 a0,.int .i64 b0,.int .i64 z,.int .i64 a1,.int .i64 b1,.int .i64 z,.int .i64 a2,.int .i64 b2,.int .i64 z,.int .i64 a3,.int .i64 b3,.int .i64 z,.int .i64 a4,.int .i64 b4,.int .i64 c4] 24 (0,0)))∨(i=.int .i64 5∧wr.heap[w.heap.size]?=some (.cells #[.int .i64 a0,.int .i64 b0,.int .i64 z,.int .i64 a1,.int .i64 b1,.int .i64 z,.int .i64 a2,.int .i64 b2,.int .i64 z,.int .i64 a3,.int .i64 b3,.int .i64 z,.int .i64 a4,.int .i64 b4,.int .i64 z] 24 (0,0))))) (fun i _=>5 - (intOf i).toNat)
  case atStart=>exact ⟨hb,.inl ⟨rfl,l_k⟩⟩
  case round=>
    clear l_k hb
    obtain ⟨hb,hrel⟩:=hrel
    rcases hrel with ⟨rfl,l_k⟩ | ⟨rfl,l_k⟩ | ⟨rfl,l_k⟩ | ⟨rfl,l_k⟩ | ⟨rfl,l_k⟩ | ⟨rfl,l_k⟩
    . have e1:=blkC l_k 2 rfl
      have e2:=blkF l_k 2
      go_wp2_with fail
      clear e1 e2
      replace l_k:=heap_set l_k 2 (.int .i64 z)
      replace hb:=hb.setCell (p:=⟨w.heap.size,2,none⟩) (Nat.le_refl _) (.int .i64 z)
      go_roundw
      case rel=>exact ⟨hb,.inr (.inl ⟨by go_num,l_k⟩)⟩
      case measure=>simp [intOf]
    . have e1:=blkC l_k 5 rfl
      have e2:=blkF l_k 5
      go_wp2_with fail
      clear e1 e2
      replace l_k:=heap_set l_k 5 (.int .i64 z)
      replace hb:=hb.setCell (p:=⟨w.heap.size,5,none⟩) (Nat.le_refl _) (.int .i64 z)
      go_roundw
      case rel=>exact ⟨hb,.inr (.inr (.inl ⟨by go_num,l_k⟩))⟩
      case measure=>simp [intOf]
    . have e1:=blkC l_k 8 rfl
      have e2:=blkF l_k 8
      go_wp2_with fail
      clear e1 e2
      replace l_k:=heap_set l_k 8 (.int .i64 z)
      replace hb:=hb.setCell (p:=⟨w.heap.size,8,none⟩) (Nat.le_refl _) (.int .i64 z)
      go_roundw
      case rel=>exact ⟨hb,.inr (.inr (.inr (.inl ⟨by go_num,l_k⟩)))⟩
      case measure=>simp [intOf]
    . have e1:=blkC l_k 11 rfl
      have e2:=blkF l_k 11
      go_wp2_with fail
      clear e1 e2
      replace l_k:=heap_set l_k 11 (.int .i64 z)
      replace hb:=hb.setCell (p:=⟨w.heap.size,11,none⟩) (Nat.le_refl _) (.int .i64 z)
      go_roundw
      case rel=>exact ⟨hb,.inr (.inr (.inr (.inr (.inl ⟨by go_num,l_k⟩))))⟩
      case measure=>simp [intOf]
    . have e1:=blkC l_k 14 rfl
      have e2:=blkF l_k 14
      go_wp2_with fail
      clear e1 e2
      replace l_k:=heap_set l_k 14 (.int .i64 z)
      replace hb:=hb.setCell (p:=⟨w.heap.size,14,none⟩) (Nat.le_refl _) (.int .i64 z)
      go_roundw
      case rel=>exact ⟨hb,.inr (.inr (.inr (.inr (.inr (⟨by go_num,l_k⟩)))))⟩
      case measure=>simp [intOf]
    . go_wp2_with fail
      refine (CG.out _ _ l_k).mono ?_
      rintro _ y2 ⟨rfl,h2⟩
      replace l_k:=blk_us h2 l_k
      replace hb:=bel_trans hb h2
      clear h2
      cases b
      . go_wp2
        go_ret
        exact ⟨rfl,hb⟩
      . replace CS:=CS.out rfl
        replace CP:=CP.out rfl
        have f0:=blkC l_k 0 rfl
        have f1:=blkC l_k 1 rfl
        have f2:=blkC l_k 2 rfl
        have f3:=blkC l_k 3 rfl
        have f4:=blkC l_k 4 rfl
        have f5:=blkC l_k 5 rfl
        have f6:=blkC l_k 6 rfl
        have f7:=blkC l_k 7 rfl
        have f8:=blkC l_k 8 rfl
        have f9:=blkC l_k 9 rfl
        have f10:=blkC l_k 10 rfl
        have f11:=blkC l_k 11 rfl
        have f12:=blkC l_k 12 rfl
        have f13:=blkC l_k 13 rfl
        have f14:=blkC l_k 14 rfl
        go_wp2_with fail
        clear f0 f1 f2 f3 f4 f5 f6 f7 f8 f9 f10 f11 f12 f13 f14
        refine (CS _ hb).mono ?_
        rintro _ y3 ⟨rfl,h3⟩
        replace l_k:=heap_past (.cells #[.int .i64 0,.int .i64 st] 29) (blk_us h3 l_k)
        replace hb:=bel_trans hb h3
        have v_k:=heap_a1 y3 (.cells #[.int .i64 0,.int .i64 st] 29)
        have hb2:=bel_trans hb (bel_alloc y3 (.cells #[.int .i64 0,.int .i64 st] 29))
        have f0:=blkC l_k 0 rfl
        have f1:=blkC l_k 1 rfl
        have f2:=blkC l_k 2 rfl
        have f3:=blkC l_k 3 rfl
        have f4:=blkC l_k 4 rfl
        have f5:=blkC l_k 5 rfl
        have f6:=blkC l_k 6 rfl
        have f7:=blkC l_k 7 rfl
        have f8:=blkC l_k 8 rfl
        have f9:=blkC l_k 9 rfl
        have f10:=blkC l_k 10 rfl
        have f11:=blkC l_k 11 rfl
        have f12:=blkC l_k 12 rfl
        have f13:=blkC l_k 13 rfl
        have f14:=blkC l_k 14 rfl
        go_wp2_with fail
        clear f0 f1 f2 f3 f4 f5 f6 f7 f8 f9 f10 f11 f12 f13 f14
        generalize y3.alloc (.cells #[.int .i64 0,.int .i64 st] 29)=x4 at l_k v_k hb2 ⊢
        refine (CP _ hb2).mono ?_
        rintro _ y5 ⟨rfl,h5⟩
        replace v_k:=heap_past (.cells #[.int .i64 0,.int .i64 sv] 29) (blk_us h5 v_k)
        have u_k:=heap_a1 y5 (.cells #[.int .i64 0,.int .i64 sv] 29)
        replace hb2:=bel_trans hb2 (bel_trans h5 (bel_alloc y5 (.cells #[.int .i64 0,.int .i64 sv] 29)))
        have e0:=blkC v_k 0 rfl
        have e1:=blkC u_k 0 rfl
        go_wp2_with (first | (go_at_call 12; refine (CN.out _).mono ?_; rintro _ _ ⟨rfl,rfl⟩))
        go_ret
        exact ⟨rfl,hb2⟩
theorem own:ownKnob Tryd.prog.godebug=none:=by kernel_rfl
theorem laidOut:laidOutB Tryd.prog=true:=by kernel_rfl
theorem door_met (os:Os) (args:Array Value):laidMetH Tryd.prog Rows.solidFlatRow.laid ((World.doorLaid Tryd.prog 400 os).forCall (fun _ _=>0) ⟨#[],args,[]⟩).memory :=
  laidMetH_of_parts3 (fuel:=8) (laidMet_of_run' 8 (by kernel_rfl) (by kernel_rfl)) (by kernel_rfl) (by kernel_rfl)
set_option maxRecDepth 100000 in
theorem lifted (os:Os) (started:os.Started) (H:Type) (enc:TypeId × Value->H) :
    ReturnsInHanded {} Tryd.checked os 4 .any (fun w args=>(Rows.solidFlatSpec.pre enc Tryd.prog Tryd.f4 [] false w args∧laidMetH Tryd.prog Rows.solidFlatRow.laid w)∧sizedMet enc Tryd.prog Tryd.f4 (OpenSpec.ofChange Rows.solidFlatSpec) false w args)
      (Rows.solidFlatSpec.post enc Tryd.prog Tryd.f4 false true false false):=by
  refine returnsInHanded_of_change_and (C:=Tryd.checked) (X:=fun w _=>laidMetH Tryd.prog Rows.solidFlatRow.laid w) (fun _ _ _ hh h=>h.of_heap hh) own started (by kernel_rfl) Tryd.func4
    (ChangeSpec.witness_shaped (enc:=enc) (C:=Tryd.checked) (os:=os) (X:=fun w _=>laidMetH Tryd.prog Rows.solidFlatRow.laid w) false (World.doorLaid Tryd.prog 400 os) #[.agg #[.int .i64 0,.int .i64 0,.int .i64 0,.int .i64 0,.int .i64 0,.int .i64 0,.int .i64 0,.int .i64 0,.int .i64 0,.int .i64 0,.int .i64 0,.int .i64 0,.int .i64 0,.int .i64 0,.int .i64 0],.int .i64 0] 8 rfl (World.shaped_of_RefB (by kernel_rfl) (by kernel_rfl)) (by kernel_rfl) (by kernel_rfl) (by kernel_rfl) (door_met os _)) ?_
  intro W base args ds gs before hval0 hW _ _ hL _
  have hval:∀ (j:Nat) t v,Tryd.f4.params[j]?=some t->args[j]?=some v->Value.okWide Tryd.prog W .any base t v:=hval0
  have hW':=hW
  obtain ⟨p,q,hA0,hV,rfl,hfz,hnd⟩:=hW
  have hA:DataW.TrodAll enc Tryd.prog W 0 (fun _=>true) true Tryd.f4.params.toList args.toList ds p:=hA0
  rw [Tryd.params4] at hA hval
  obtain ⟨v0,vs0,d0,ds0,p0,q0,hargs,rfl,rfl,h0,r0⟩:=trodAll_cons hA
  obtain ⟨v1,vs1,d1,ds1,p1,q1,rfl,rfl,rfl,h1,r1⟩:=trodAll_cons r0
  obtain ⟨rfl,rfl,rfl⟩:=trodAll_nil r1
  obtain rfl:args=#[v0,v1]:=by cases args; simp_all
  obtain ⟨rfl,rfl⟩:=trodVars_none hV
  have k0:=h0
  have lt0:∀ x ∈ p0,x.block < W.heap.size:=by obtain ⟨m,hm⟩:=k0; exact DataW.trod_lt m _ _ _ hm
  obtain ⟨x0,rfl,w0⟩:=spaces5_of (hval 0 24 v0 rfl rfl) h0
  obtain ⟨a1,rfl,rfl,rfl,w1⟩:=open_int Tryd.underlying3 (hval 1 3 v1 rfl rfl) h1
  clear hA0 hval0
  refine (walk x0 a1 W w0 (rng_of w1) (hold9_of hL)).mono fun e W' ⟨he,bel⟩=>?_
  subst he
  exact ⟨_,rfl,_,_,_,[],_,[],hW',trodAll_mk1 (shut_bool Tryd.underlying4 _),(trodAll_cons_mk (Below.trod laidOut (by kernel_rfl) (of_decide_eq_true (by kernel_rfl)) k0 bel lt0) (trodAll_cons_mk (shut_int Tryd.underlying3 w1) trodAll_mk0)),rfl,bel.frame _,fun h=>by cases h⟩
theorem said:Rows.SolidFlatSaid :=
  OpenClaim.holds_of_wide 4 Tryd.f4 rfl rfl rfl rfl rfl rfl rfl ⟨rfl,rfl,rfl,rfl,rfl⟩ rfl rfl rfl rfl rfl (by kernel_rfl) Tryd.func4 (by kernel_rfl)
    (of_decide_eq_true (by kernel_rfl)) (by unfold Func.isWrapper; first | (rw [if_pos (by decide +kernel)]; kernel_rfl) | (rw [if_neg (by decide +kernel)]; exact ⟨rfl,rfl⟩))
    (fun os started H enc _=>lifted os started H enc)
theorem plain (f:FuncId) (fn:Func) (hf:Tryd.pinned.checked.prog.funcNamed Tryd.f4.name=some f) (hfn:Tryd.pinned.checked.prog.funcs[f]?=some fn) :
    true=Tryd.pinned.checked.prog.looks []∧∀ (j:Nat) t,fn.params[j]?=some t->Tryd.pinned.checked.prog.wantsStandIn t=false:=by
  obtain rfl:f=4:=Option.some.inj ((show Tryd.prog.funcNamed Tryd.f4.name=some 4 by kernel_rfl).symm.trans hf) |>.symm
  obtain rfl:fn=Tryd.f4:=(Option.some.inj (Tryd.func4.symm.trans hfn)).symm
  refine ⟨by kernel_rfl,fun j t ht=>?_⟩
  rw [Tryd.params4] at ht
  have ht2:t=24∨t=3:=by simpa using Array.mem_of_getElem? ht
  rcases ht2 with rfl | rfl
  . exact (show Tryd.prog.wantsStandIn 24=false by kernel_rfl)
  . exact (show Tryd.prog.wantsStandIn 3=false by kernel_rfl)
theorem card:Rows.SolidFlatCardSaid :=
  Claim7.holds_tied_plain_at .later [] _ _ _ _ said (fun _ h=>by cases h) (by kernel_rfl) (fun _ h=>by cases h) solidFlat_row_tie rfl ⟨rfl,rfl⟩ (by kernel_rfl) rfl plain (by kernel_rfl)
end Go.Proofs.YtdcppnnodgnojaaDoor.solidFlat
namespace Go.Proofs.YtdcppnnodgnojaaDoor
theorem solidFlat_holds:Rows.SolidFlatCardSaid:=solidFlat.card
end Go.Proofs.YtdcppnnodgnojaaDoor
