/-
  SolidTrue: for any five places by any bit patterns the law returns true: where one is no place it says so, else the signs are those of the exact values, an exchange of two places turns both signs, and two of one place make 0. As a card: the library's tables and the layout of package bits start as the program's text lays them.
-/
import Derived.Test.YtobofhgpidbpmaaDoorSt22
import Derived.Test.YtobofhgpidbpmaaDoorSt23
import Derived.Test.YtobofhgpidbpmaaDoorSt24
import Derived.Test.YtobofhgpidbpmaaDoorSt6
import Derived.Test.YtobofhgpidbpmaaDoorCards
import Derived.Test.YtobofhgpidbpmaaDoorTie
set_option linter.unusedVariables false
set_option linter.unusedSimpArgs false
namespace Go.Proofs.YtobofhgpidbpmaaDoor.solidTrue
open Go Go.ChangeShapes Go.WideShapes Go.ChangeAt Go.RowKit Go.Proofs.YtobofhgpidbpmaaDoor Go.Proofs.YtobofhgpidbpmaaDoor.M
theorem hold9_of {W : World} (h : laidMetH Tryd.prog [("math/bits.deBruijn32tab", Rows.laid_math_bits_deBruijn32tab), ("math/bits.deBruijn64tab", Rows.laid_math_bits_deBruijn64tab), ("plumb/bits.binary64", Rows.laid_plumb_bits_binary64)] W) : Hold4 W := by
  have k:=hold_of h
  exact ⟨k.lay,k.tab,⟨⟨k.lay.a0,k.lay.a1,k.lay.a2,trivial,trivial,trivial⟩,k.tab⟩⟩
theorem wrap_sg {v:Int} (h:-1<=v∧v<=1):IntKind.i64.wrap (-v)=-v:=by
  have q:v=-1∨v=0∨v=1:=by omega
  rcases q with rfl | rfl | rfl <;> decide
set_option maxRecDepth 100000 in
set_option maxHeartbeats 4000000 in
theorem cts (s:Nat->Nat->Int) (w:World) (hr:∀ i k,rng (s i k)) (H:Hold4 w) (q:allB (sok s) 5=true):∃ vs ws st sv tp01 td01 ts01 tp02 td02 ts02 tp03 td03 ts03 tp04 td04 tp12 td12 ts12 tp13 td13 ts13 tp14 td14 tp23 td23 ts23 tp24 td24 tp34 td34,Cts s w vs ws st sv tp01 td01 ts01 tp02 td02 ts02 tp03 td03 ts03 tp04 td04 tp12 td12 ts12 tp13 td13 ts13 tp14 td14 tp23 td23 ts23 tp24 td24 tp34 td34:=by
  have hvs:-1<=ord (dX (vL s 3) 0 1 2) 0∧ord (dX (vL s 3) 0 1 2) 0<=1:=by unfold ord; split <;> (try split) <;> omega
  have hws:-1<=ord (sX (vL s 4)) 0∧ord (sX (vL s 4)) 0<=1:=by unfold ord; split <;> (try split) <;> omega
  refine ⟨ord (dX (vL s 3) 0 1 2) 0,ord (sX (vL s 4)) 0,st_side s,st_sphere s,st_sphere (sw s 0 1),st_sphere (cp s 0 1),st_side (sw s 0 1),st_sphere (sw s 0 2),st_sphere (cp s 0 2),st_side (sw s 0 2),st_sphere (sw s 0 3),st_sphere (cp s 0 3),st_side (sw s 0 3),st_sphere (sw s 0 4),st_sphere (cp s 0 4),st_sphere (sw s 1 2),st_sphere (cp s 1 2),st_side (sw s 1 2),st_sphere (sw s 1 3),st_sphere (cp s 1 3),st_side (sw s 1 3),st_sphere (sw s 1 4),st_sphere (cp s 1 4),st_sphere (sw s 2 3),st_sphere (cp s 2 3),st_side (sw s 2 3),st_sphere (sw s 2 4),st_sphere (cp s 2 4),st_sphere (sw s 3 4),st_sphere (cp s 3 4),⟨wrap_sg hvs,wrap_sg hws,?_,?_,?_,?_,?_,?_,?_,?_,?_,?_,?_,?_,?_,?_,?_,?_,?_,?_,?_,?_,?_,?_,?_,?_,?_,?_,?_,?_,?_,?_,?_,?_,?_⟩⟩
  . exact (fun W HW=>alive12 W HW)
  . exact (fun W g hk=>by
      have:=slgood_any _ 5 5 s W (sps5 s W hk) hr
      rw [q] at this
      exact this)
  . exact (fun W=>lnum12 _ W)
  . exact (fun W hW=>sSide_ok s W hr (sok54 q) (H.keeps hW))
  . exact (fun W hW=>sSphere_ok s W hr q (H.keeps hW))
  . exact (fun W hW=>by
      refine (sSideExact_ok s W hr (sok54 q) (H.keeps hW)).mono ?_
      rintro _ w' ⟨v,D,rfl,hA,hD,-,-⟩
      obtain ⟨g,o,n,c,e,rfl⟩:=dans_shape hA
      refine ⟨g,o,n,c,e,rfl,fun W2 h2=>?_,hA.below⟩
      have:=dSig (hA.num.keeps h2)
      rw [hD] at this
      exact this)
  . exact (fun W hW=>by
      refine (sSphereExact_ok s W hr q (H.keeps hW)).mono ?_
      rintro _ w' ⟨v,D,rfl,hA,hD,-,-⟩
      obtain ⟨g,o,n,c,e,rfl⟩:=dans_shape hA
      refine ⟨g,o,n,c,e,rfl,fun W2 h2=>?_,hA.below⟩
      have:=dSig (hA.num.keeps h2)
      rw [hD] at this
      exact this)
  . exact (fun W hW=>by
      have:=sSphere_ok (sw s 0 1) W (rng_sw hr 0 1) (sok_sw q (by decide) (by decide)) (H.keeps hW)
      rw [ord_sph_sw s (by decide) (by decide)] at this
      exact this)
  . exact (fun W hW=>by
      have:=sSphere_ok (cp s 0 1) W (rng_cp hr 0 1) (sok_cp q (by decide)) (H.keeps hW)
      rw [ord_sph_cp s (by decide) (by decide)] at this
      exact this)
  . exact (fun W hW=>by
      have:=sSide_ok (sw s 0 1) W (rng_sw hr 0 1) (sok_sw (sok54 q) (by decide) (by decide)) (H.keeps hW)
      rw [ord_side_sw s (by decide) (by decide)] at this
      exact this)
  . exact (fun W hW=>by
      have:=sSphere_ok (sw s 0 2) W (rng_sw hr 0 2) (sok_sw q (by decide) (by decide)) (H.keeps hW)
      rw [ord_sph_sw s (by decide) (by decide)] at this
      exact this)
  . exact (fun W hW=>by
      have:=sSphere_ok (cp s 0 2) W (rng_cp hr 0 2) (sok_cp q (by decide)) (H.keeps hW)
      rw [ord_sph_cp s (by decide) (by decide)] at this
      exact this)
  . exact (fun W hW=>by
      have:=sSide_ok (sw s 0 2) W (rng_sw hr 0 2) (sok_sw (sok54 q) (by decide) (by decide)) (H.keeps hW)
      rw [ord_side_sw s (by decide) (by decide)] at this
      exact this)
  . exact (fun W hW=>by
      have:=sSphere_ok (sw s 0 3) W (rng_sw hr 0 3) (sok_sw q (by decide) (by decide)) (H.keeps hW)
      rw [ord_sph_sw s (by decide) (by decide)] at this
      exact this)
  . exact (fun W hW=>by
      have:=sSphere_ok (cp s 0 3) W (rng_cp hr 0 3) (sok_cp q (by decide)) (H.keeps hW)
      rw [ord_sph_cp s (by decide) (by decide)] at this
      exact this)
  . exact (fun W hW=>by
      have:=sSide_ok (sw s 0 3) W (rng_sw hr 0 3) (sok_sw (sok54 q) (by decide) (by decide)) (H.keeps hW)
      rw [ord_side_sw s (by decide) (by decide)] at this
      exact this)
  . exact (fun W hW=>by
      have:=sSphere_ok (sw s 0 4) W (rng_sw hr 0 4) (sok_sw q (by decide) (by decide)) (H.keeps hW)
      rw [ord_sph_sw s (by decide) (by decide)] at this
      exact this)
  . exact (fun W hW=>by
      have:=sSphere_ok (cp s 0 4) W (rng_cp hr 0 4) (sok_cp q (by decide)) (H.keeps hW)
      rw [ord_sph_cp s (by decide) (by decide)] at this
      exact this)
  . exact (fun W hW=>by
      have:=sSphere_ok (sw s 1 2) W (rng_sw hr 1 2) (sok_sw q (by decide) (by decide)) (H.keeps hW)
      rw [ord_sph_sw s (by decide) (by decide)] at this
      exact this)
  . exact (fun W hW=>by
      have:=sSphere_ok (cp s 1 2) W (rng_cp hr 1 2) (sok_cp q (by decide)) (H.keeps hW)
      rw [ord_sph_cp s (by decide) (by decide)] at this
      exact this)
  . exact (fun W hW=>by
      have:=sSide_ok (sw s 1 2) W (rng_sw hr 1 2) (sok_sw (sok54 q) (by decide) (by decide)) (H.keeps hW)
      rw [ord_side_sw s (by decide) (by decide)] at this
      exact this)
  . exact (fun W hW=>by
      have:=sSphere_ok (sw s 1 3) W (rng_sw hr 1 3) (sok_sw q (by decide) (by decide)) (H.keeps hW)
      rw [ord_sph_sw s (by decide) (by decide)] at this
      exact this)
  . exact (fun W hW=>by
      have:=sSphere_ok (cp s 1 3) W (rng_cp hr 1 3) (sok_cp q (by decide)) (H.keeps hW)
      rw [ord_sph_cp s (by decide) (by decide)] at this
      exact this)
  . exact (fun W hW=>by
      have:=sSide_ok (sw s 1 3) W (rng_sw hr 1 3) (sok_sw (sok54 q) (by decide) (by decide)) (H.keeps hW)
      rw [ord_side_sw s (by decide) (by decide)] at this
      exact this)
  . exact (fun W hW=>by
      have:=sSphere_ok (sw s 1 4) W (rng_sw hr 1 4) (sok_sw q (by decide) (by decide)) (H.keeps hW)
      rw [ord_sph_sw s (by decide) (by decide)] at this
      exact this)
  . exact (fun W hW=>by
      have:=sSphere_ok (cp s 1 4) W (rng_cp hr 1 4) (sok_cp q (by decide)) (H.keeps hW)
      rw [ord_sph_cp s (by decide) (by decide)] at this
      exact this)
  . exact (fun W hW=>by
      have:=sSphere_ok (sw s 2 3) W (rng_sw hr 2 3) (sok_sw q (by decide) (by decide)) (H.keeps hW)
      rw [ord_sph_sw s (by decide) (by decide)] at this
      exact this)
  . exact (fun W hW=>by
      have:=sSphere_ok (cp s 2 3) W (rng_cp hr 2 3) (sok_cp q (by decide)) (H.keeps hW)
      rw [ord_sph_cp s (by decide) (by decide)] at this
      exact this)
  . exact (fun W hW=>by
      have:=sSide_ok (sw s 2 3) W (rng_sw hr 2 3) (sok_sw (sok54 q) (by decide) (by decide)) (H.keeps hW)
      rw [ord_side_sw s (by decide) (by decide)] at this
      exact this)
  . exact (fun W hW=>by
      have:=sSphere_ok (sw s 2 4) W (rng_sw hr 2 4) (sok_sw q (by decide) (by decide)) (H.keeps hW)
      rw [ord_sph_sw s (by decide) (by decide)] at this
      exact this)
  . exact (fun W hW=>by
      have:=sSphere_ok (cp s 2 4) W (rng_cp hr 2 4) (sok_cp q (by decide)) (H.keeps hW)
      rw [ord_sph_cp s (by decide) (by decide)] at this
      exact this)
  . exact (fun W hW=>by
      have:=sSphere_ok (sw s 3 4) W (rng_sw hr 3 4) (sok_sw q (by decide) (by decide)) (H.keeps hW)
      rw [ord_sph_sw s (by decide) (by decide)] at this
      exact this)
  . exact (fun W hW=>by
      have:=sSphere_ok (cp s 3 4) W (rng_cp hr 3 4) (sok_cp q (by decide)) (H.keeps hW)
      rw [ord_sph_cp s (by decide) (by decide)] at this
      exact this)
set_option maxRecDepth 100000 in
set_option maxHeartbeats 4000000 in
theorem walk (s:Nat->Nat->Int) (w:World) (hr:∀ i k,rng (s i k)) (H:Hold4 w) :
    Calls Tryd.prog 3 #[.agg (five s)] w fun e w'=>e=.returned (.bool true)∧Below w.heap.size w w':=by
  cases q:allB (sok s) 5
  . have CA:Hid (∀ W,Hold4 W->Calls Tryd.prog 4 #[] W fun e w'=>e=.returned (.bool true)∧Below W.heap.size W w'):=fun W HW=>alive12 W HW
    have CG:Hid (∀ W g,W.heap[g]?=some (.cells #[.int .i64 (s 0 0),.int .i64 (s 0 1),.int .i64 (s 0 2),.int .i64 (s 1 0),.int .i64 (s 1 1),.int .i64 (s 1 2),.int .i64 (s 2 0),.int .i64 (s 2 1),.int .i64 (s 2 2),.int .i64 (s 3 0),.int .i64 (s 3 1),.int .i64 (s 3 2),.int .i64 (s 4 0),.int .i64 (s 4 1),.int .i64 (s 4 2)] 24 (0,0))->Calls Tryd.prog 5 #[.slice (some ⟨g,0,none⟩) 5 5] W fun x w'=>x=.returned (.bool false)∧Below W.heap.size W w'):=fun W g hk=>by
      have:=slgood_any _ 5 5 s W (sps5 s W hk) hr
      rw [q] at this
      exact this
    clear hr q
    unfold five
    go_enter Tryd.func3,Tryd.ntmps3
    have l_k:=heap_a1 w (.cells #[.int .i64 (s 0 0),.int .i64 (s 0 1),.int .i64 (s 0 2),.int .i64 (s 1 0),.int .i64 (s 1 1),.int .i64 (s 1 2),.int .i64 (s 2 0),.int .i64 (s 2 1),.int .i64 (s 2 2),.int .i64 (s 3 0),.int .i64 (s 3 1),.int .i64 (s 3 2),.int .i64 (s 4 0),.int .i64 (s 4 1),.int .i64 (s 4 2)] 24)
    have hb:=bel_alloc w (.cells #[.int .i64 (s 0 0),.int .i64 (s 0 1),.int .i64 (s 0 2),.int .i64 (s 1 0),.int .i64 (s 1 1),.int .i64 (s 1 2),.int .i64 (s 2 0),.int .i64 (s 2 1),.int .i64 (s 2 2),.int .i64 (s 3 0),.int .i64 (s 3 1),.int .i64 (s 3 2),.int .i64 (s 4 0),.int .i64 (s 4 1),.int .i64 (s 4 2)] 24)
    have H1:=H.keeps hb
    go_wp2_with fail
    generalize w.alloc (.cells #[.int .i64 (s 0 0),.int .i64 (s 0 1),.int .i64 (s 0 2),.int .i64 (s 1 0),.int .i64 (s 1 1),.int .i64 (s 1 2),.int .i64 (s 2 0),.int .i64 (s 2 1),.int .i64 (s 2 2),.int .i64 (s 3 0),.int .i64 (s 3 1),.int .i64 (s 3 2),.int .i64 (s 4 0),.int .i64 (s 4 1),.int .i64 (s 4 2)] 24)=x1 at l_k hb H1 ⊢
    refine (CA.out _ H1).mono ?_
    rintro _ y1 ⟨rfl,h1⟩
    replace l_k:=blk_us h1 l_k
    replace hb:=bel_trans hb h1
    clear h1 H1
    go_wp2_with fail
    refine (CG.out _ _ l_k).mono ?_
    rintro _ y2 ⟨rfl,h2⟩
    replace l_k:=blk_us h2 l_k
    replace hb:=bel_trans hb h2
    clear h2
    go_wp2
    go_ret
    exact ⟨rfl,hb⟩
  . obtain ⟨vs,ws,st,sv,tp01,td01,ts01,tp02,td02,ts02,tp03,td03,ts03,tp04,td04,tp12,td12,ts12,tp13,td13,ts13,tp14,td14,tp23,td23,ts23,tp24,td24,tp34,td34,C⟩:=cts s w hr H q
    exact (pre C H).f ⟨p01 C H⟩ ⟨p02 C H⟩ ⟨p03 C H⟩ ⟨p04 C H⟩ ⟨p12 C H⟩ ⟨p13 C H⟩ ⟨p14 C H⟩ ⟨p23 C H⟩ ⟨p24 C H⟩ ⟨p34 C H⟩
theorem own:ownKnob Tryd.prog.godebug=none:=by kernel_rfl
theorem laidOut:laidOutB Tryd.prog=true:=by kernel_rfl
theorem door_met (os:Os) (args:Array Value):laidMetH Tryd.prog Rows.solidTrueRow.laid ((World.doorLaid Tryd.prog 400 os).forCall (fun _ _=>0) ⟨#[],args,[]⟩).memory :=
  laidMetH_of_parts3 (fuel:=8) (laidMet_of_run' 8 (by kernel_rfl) (by kernel_rfl)) (by kernel_rfl) (by kernel_rfl)
set_option maxRecDepth 100000 in
theorem lifted (os:Os) (started:os.Started) (H:Type) (enc:TypeId × Value->H) :
    ReturnsInHanded {} Tryd.checked os 3 .any (fun w args=>(Rows.solidTrueSpec.pre enc Tryd.prog Tryd.f3 [] false w args∧laidMetH Tryd.prog Rows.solidTrueRow.laid w)∧sizedMet enc Tryd.prog Tryd.f3 (OpenSpec.ofChange Rows.solidTrueSpec) false w args)
      (Rows.solidTrueSpec.post enc Tryd.prog Tryd.f3 false true false false):=by
  refine returnsInHanded_of_change_and (C:=Tryd.checked) (X:=fun w _=>laidMetH Tryd.prog Rows.solidTrueRow.laid w) (fun _ _ _ hh h=>h.of_heap hh) own started (by kernel_rfl) Tryd.func3
    (ChangeSpec.witness_shaped (enc:=enc) (C:=Tryd.checked) (os:=os) (X:=fun w _=>laidMetH Tryd.prog Rows.solidTrueRow.laid w) false (World.doorLaid Tryd.prog 400 os) #[.agg #[.int .i64 0,.int .i64 0,.int .i64 0,.int .i64 0,.int .i64 0,.int .i64 0,.int .i64 0,.int .i64 0,.int .i64 0,.int .i64 0,.int .i64 0,.int .i64 0,.int .i64 0,.int .i64 0,.int .i64 0]] 8 rfl (World.shaped_of_RefB (by kernel_rfl) (by kernel_rfl)) (by kernel_rfl) (by kernel_rfl) (by kernel_rfl) (door_met os _)) ?_
  intro W base args ds gs before hval0 hW _ _ hL _
  have hval:∀ (j:Nat) t v,Tryd.f3.params[j]?=some t->args[j]?=some v->Value.okWide Tryd.prog W .any base t v:=hval0
  have hW':=hW
  obtain ⟨p,q,hA0,hV,rfl,hfz,hnd⟩:=hW
  have hA:DataW.TrodAll enc Tryd.prog W 0 (fun _=>true) true Tryd.f3.params.toList args.toList ds p:=hA0
  rw [Tryd.params3] at hA hval
  obtain ⟨v0,vs0,d0,ds0,p0,q0,hargs,rfl,rfl,h0,r0⟩:=trodAll_cons hA
  obtain ⟨rfl,rfl,rfl⟩:=trodAll_nil r0
  obtain rfl:args=#[v0]:=by cases args; simp_all
  obtain ⟨rfl,rfl⟩:=trodVars_none hV
  have k0:=h0
  have lt0:∀ x ∈ p0,x.block<W.heap.size:=by obtain ⟨m,hm⟩:=k0; exact DataW.trod_lt m _ _ _ hm
  obtain ⟨x0,rfl,w0⟩:=spaces5_of (hval 0 24 v0 rfl rfl) h0
  clear hA0 hval0
  refine (walk x0 W w0 (hold9_of hL)).mono fun e W' ⟨he,bel⟩=>?_
  subst he
  exact ⟨_,rfl,_,_,_,[],_,[],hW',trodAll_mk1 (shut_bool Tryd.underlying4 _),(trodAll_cons_mk (Below.trod laidOut (by kernel_rfl) (of_decide_eq_true (by kernel_rfl)) k0 bel lt0) trodAll_mk0),rfl,bel.frame _,fun h=>by cases h⟩
theorem said:Rows.SolidTrueSaid :=
  OpenClaim.holds_of_wide 3 Tryd.f3 rfl rfl rfl rfl rfl rfl rfl ⟨rfl,rfl,rfl,rfl,rfl⟩ rfl rfl rfl rfl rfl (by kernel_rfl) Tryd.func3 (by kernel_rfl)
    (of_decide_eq_true (by kernel_rfl)) (by unfold Func.isWrapper; first | (rw [if_pos (by decide +kernel)]; kernel_rfl) | (rw [if_neg (by decide +kernel)]; exact ⟨rfl,rfl⟩))
    (fun os started H enc _=>lifted os started H enc)
theorem plain (f:FuncId) (fn:Func) (hf:Tryd.pinned.checked.prog.funcNamed Tryd.f3.name=some f) (hfn:Tryd.pinned.checked.prog.funcs[f]?=some fn) :
    true=Tryd.pinned.checked.prog.looks []∧∀ (j:Nat) t,fn.params[j]?=some t->Tryd.pinned.checked.prog.wantsStandIn t=false:=by
  obtain rfl:f=3:=Option.some.inj ((show Tryd.prog.funcNamed Tryd.f3.name=some 3 by kernel_rfl).symm.trans hf) |>.symm
  obtain rfl:fn=Tryd.f3:=(Option.some.inj (Tryd.func3.symm.trans hfn)).symm
  refine ⟨by kernel_rfl,fun j t ht=>?_⟩
  rw [Tryd.params3] at ht
  obtain rfl:t=24:=by simpa using Array.mem_of_getElem? ht
  exact (show Tryd.prog.wantsStandIn 24=false by kernel_rfl)
theorem card:Rows.SolidTrueCardSaid :=
  Claim7.holds_tied_plain_at .later [] _ _ _ _ said (fun _ h=>by cases h) (by kernel_rfl) (fun _ h=>by cases h) solidTrue_row_tie rfl ⟨rfl,rfl⟩ (by kernel_rfl) rfl plain (by kernel_rfl)
end Go.Proofs.YtobofhgpidbpmaaDoor.solidTrue
namespace Go.Proofs.YtobofhgpidbpmaaDoor
theorem solidTrue_holds:Rows.SolidTrueCardSaid:=solidTrue.card
end Go.Proofs.YtobofhgpidbpmaaDoor
