/-
  SpanOnes: for any interval, given by any two bit patterns, any bit pattern and any number of up to 300 digits, the law returns true: Valid, Neg, Square, Sign, Of, Around and Has answer as the document's own intervals do, rounded outward, or refuse where the interval, the float or the number is none. As a card: the library's tables and the layout of package bits start as the program's text lays them.
-/
import Derived.Test.YtkkpppgfoilgmaaGreatDoorPart35
import Derived.Test.YtkkpppgfoilgmaaGreatDoorPart27
import Derived.Test.YtkkpppgfoilgmaaGreatDoorPart7
import Derived.Test.YtkkpppgfoilgmaaGreatDoorCards
import Derived.Test.YtkkpppgfoilgmaaGreatDoorTie
set_option maxRecDepth 100000
set_option maxHeartbeats 8000000
set_option linter.unusedVariables false
set_option linter.unusedSimpArgs false
namespace Go.Proofs.YtkkpppgfoilgmaaGreatDoor.spanOnes
open Go Go.Proofs.Tryz Go.ChangeShapes Go.WideShapes Go.ChangeAt Go.RowKit Go.Proofs.YtkkpppgfoilgmaaGreatDoor Go.Proofs.YtkkpppgfoilgmaaGreatDoor.M
theorem xC {W : World} (h : laidMetH Tryz.prog [("math/bits.deBruijn32tab", Rows.laid_math_bits_deBruijn32tab), ("math/bits.deBruijn64tab", Rows.laid_math_bits_deBruijn64tab), ("plumb/bits.binary64", Rows.laid_plumb_bits_binary64)] W) : aA W := by
 have k:=yD h
 exact⟨k.lay,k.tab,⟨⟨k.lay.a0,k.lay.a1,k.lay.a2,trivial,trivial,trivial⟩,k.tab⟩⟩
theorem walk (a b bb:Int) (x:aE) (w:World) (ra:au a) (rb:au b) (rbb:au bb) (hx:aG w x.ao x.n x.cap x.d) (re:au x.e) (H:aA w) :
  Calls prog 3 #[.agg #[.int .i64 a,.int .i64 b],.int .i64 bb,x.v] w fun e w'=>e=.returned (.bool true)∧Below w.heap.size w w':=by
 have CA:Hid (∀ W,aA W->Calls prog 5 #[] W fun e w'=>e=.returned (.bool true)∧Below W.heap.size W w'):=fun W HW=>Bp W HW.env.lays
 have C1:Hid (∀ W,Below w.heap.size w W->aA W->Calls prog 6 #[.agg #[.int .i64 a,.int .i64 b],.int .i64 bb,x.v] W fun e w'=>e=.returned (.bool true)∧Below W.heap.size W w'):=fun W hW HW=>zT ra rb rbb (hx.keeps hW) HW
 have hle:=hx.le
 have hma:=hx.max
 clear hx re
 obtain⟨x_g,x_o,x_n,x_c,x_d,x_e⟩:=x
 unfold aE.v at *
 simp only at *
 go_enter func3,ntmps3
 have s_k:=bv w (.cells #[.int .i64 a,.int .i64 b] 23) (.cells #[.bool x_g,.slice x_o x_n x_c,.int .i64 x_e] 26)
 have t_k:=bh w (.cells #[.int .i64 a,.int .i64 b] 23) (.cells #[.bool x_g,.slice x_o x_n x_c,.int .i64 x_e] 26)
 have hb:=ax w (.cells #[.int .i64 a,.int .i64 b] 23) (.cells #[.bool x_g,.slice x_o x_n x_c,.int .i64 x_e] 26)
 go_wp2_with fail
 generalize ((w.alloc (.cells #[.int .i64 a,.int .i64 b] 23)).alloc (.cells #[.bool x_g,.slice x_o x_n x_c,.int .i64 x_e] 26))=x1 at s_k t_k hb ⊢
 have H1:=H.keeps hb
 refine(CA.out _ H1).mono ?_
 rintro _ y1 ⟨rfl,h1⟩
 have s_k:=ac h1 s_k
 have t_k:=ac h1 t_k
 have H1:=H1.keeps h1
 have hb:=aa hb h1
 have f_s0:=ab s_k 0 rfl
 have f_s1:=ab s_k 1 rfl
 have f_t0:=ab t_k 0 rfl
 have f_t1:=ab t_k 1 rfl
 have f_t2:=ab t_k 2 rfl
 by_cases hn:300<x_n
 ·have hn':decide ((300:Int)<(x_n:Int))=true:=decide_eq_true (by omega)
  go_wp2
  all_goals go_ret
  all_goals exact⟨rfl,hb⟩
 ·have hn':decide ((300:Int)<(x_n:Int))=false:=decide_eq_false (by omega)
  go_wp2_with fail
  refine(C1.out _ hb H1).mono ?_
  rintro _ y2 ⟨rfl,h1⟩
  have hb:=aa hb h1
  go_wp2
  all_goals go_ret
  all_goals exact⟨rfl,hb⟩
theorem own:ownKnob prog.godebug=none:=by kernel_rfl
theorem laidOut:laidOutB prog=true:=by kernel_rfl
theorem door_met (os:Os) (args:Array Value):laidMetH prog Rows.spanOnesRow.laid ((World.doorLaid prog 400 os).forCall (fun _ _=>0) ⟨#[],args,[]⟩).memory :=
 laidMetH_of_parts3 (fuel:=8) (laidMet_of_run' 8 (by kernel_rfl) (by kernel_rfl)) (by kernel_rfl) (by kernel_rfl)
theorem lifted (os:Os) (started:os.Started) (H:Type) (enc:TypeId × Value->H) :
  ReturnsInHanded {} checked os 3 .any (fun w args=>(Rows.spanOnesSpec.pre enc prog f3 [] false w args∧laidMetH prog Rows.spanOnesRow.laid w)∧sizedMet enc prog f3 (OpenSpec.ofChange Rows.spanOnesSpec) false w args)
   (Rows.spanOnesSpec.post enc prog f3 false true false false):=by
 refine returnsInHanded_of_change_and (C:=checked) (X:=fun w _=>laidMetH prog Rows.spanOnesRow.laid w) (fun _ _ _ hh h=>h.of_heap hh) own started (by kernel_rfl) func3
  (ChangeSpec.witness_shaped (enc:=enc) (C:=checked) (os:=os) (X:=fun w _=>laidMetH prog Rows.spanOnesRow.laid w) false (World.doorLaid prog 400 os) #[.agg #[.int .i64 0,.int .i64 0],.int .i64 0,.agg #[.bool false,.slice none 0 0,.int .i64 0]] 8 rfl (World.shaped_of_RefB (by kernel_rfl) (by kernel_rfl)) (by kernel_rfl) (by kernel_rfl) (by kernel_rfl) (door_met os _)) ?_
 intro W base args ds gs before hval0 hW _ _ hL _
 have hval:∀ (j:Nat) t v,f3.params[j]?=some t->args[j]?=some v->Value.okWide prog W .any base t v:=hval0
 have hW':=hW
 obtain⟨p,q,hA0,hV,rfl,hfz,hnd⟩:=hW
 have hA:DataW.TrodAll enc prog W 0 (fun _=>true) true f3.params.toList args.toList ds p:=hA0
 rw[params3] at hA hval
 obtain⟨v0,vs0,d0,ds0,p0,q0,hargs,rfl,rfl,h0,r0⟩:=trodAll_cons hA
 obtain⟨v1,vs1,d1,ds1,p1,q1,rfl,rfl,rfl,h1,r1⟩:=trodAll_cons r0
 obtain⟨v2,vs2,d2,ds2,p2,q2,rfl,rfl,rfl,h2,r2⟩:=trodAll_cons r1
 obtain⟨rfl,rfl,rfl⟩:=trodAll_nil r2
 obtain rfl:args=#[v0,v1,v2]:=by cases args;simp_all
 obtain⟨rfl,rfl⟩:=trodVars_none hV
 have k0:=h0
 have lt0:∀ x ∈ p0,x.block<W.heap.size:=by obtain⟨m,hm⟩:=k0;exact DataW.trod_lt m _ _ _ hm
 obtain⟨x0,y0,rfl,w0,g0⟩:=zU (hval 0 23 v0 rfl rfl) h0
 obtain⟨a1,rfl,rfl,rfl,w1⟩:=open_int underlying3 (hval 1 3 v1 rfl rfl) h1
 have k2:=h2
 have lt2:∀ x ∈ p2,x.block<W.heap.size:=by obtain⟨m,hm⟩:=k2;exact DataW.trod_lt m _ _ _ hm
 obtain⟨x2,rfl,w2,g2⟩:=Av (hval 2 26 v2 rfl rfl) h2
 clear hA0 hval0
 refine(walk x0 y0 a1 x2 W w0 g0 (jA w1) w2 g2 (xC hL)).mono fun e W' ⟨he,bel⟩=>?_
 subst he
 exact⟨_,rfl,_,_,_,[],_,[],hW',trodAll_mk1 (shut_bool underlying4 _),(trodAll_cons_mk (Below.trod laidOut (by kernel_rfl) (of_decide_eq_true (by kernel_rfl)) k0 bel lt0) (trodAll_cons_mk (shut_int underlying3 w1) (trodAll_cons_mk (Below.trod laidOut (by kernel_rfl) (of_decide_eq_true (by kernel_rfl)) k2 bel lt2) trodAll_mk0))),rfl,bel.frame _,fun h=>by cases h⟩
theorem said:Rows.SpanOnesSaid :=
 OpenClaim.holds_of_wide 3 f3 rfl rfl rfl rfl rfl rfl rfl ⟨rfl,rfl,rfl,rfl,rfl⟩ rfl rfl rfl rfl rfl (by kernel_rfl) func3 (by kernel_rfl)
  (of_decide_eq_true (by kernel_rfl)) (by unfold Func.isWrapper;first|(rw[if_pos (by decide +kernel)];kernel_rfl)|(rw[if_neg (by decide +kernel)];exact⟨rfl,rfl⟩))
  (fun os started H enc _=>lifted os started H enc)
theorem lO (f:FuncId) (fn:Func) (hf:Tryz.pinned.checked.prog.funcNamed f3.name=some f) (hfn:Tryz.pinned.checked.prog.funcs[f]?=some fn) :
  true=Tryz.pinned.checked.prog.looks []∧∀ (j:Nat) t,fn.params[j]?=some t->Tryz.pinned.checked.prog.wantsStandIn t=false:=by
 obtain rfl:f=3:=Option.some.inj ((show prog.funcNamed f3.name=some 3 by kernel_rfl).symm.trans hf) |>.symm
 obtain rfl:fn=f3:=(Option.some.inj (func3.symm.trans hfn)).symm
 refine⟨by kernel_rfl,fun j t ht=>?_⟩
 rw[params3] at ht
 have ht2:t=23∨t=3∨t=26:=by simpa using Array.mem_of_getElem? ht
 rcases ht2 with rfl|rfl|rfl
 ·exact(show prog.wantsStandIn 23=false by kernel_rfl)
 ·exact(show prog.wantsStandIn 3=false by kernel_rfl)
 ·exact(show prog.wantsStandIn 26=false by kernel_rfl)
theorem card:Rows.SpanOnesCardSaid :=
 Claim7.holds_tied_plain_at .later [] _ _ _ _ said (fun _ h=>by cases h) (by kernel_rfl) (fun _ h=>by cases h) spanOnes_row_tie rfl ⟨rfl,rfl⟩ (by kernel_rfl) rfl lO (by kernel_rfl)
end Go.Proofs.YtkkpppgfoilgmaaGreatDoor.spanOnes
namespace Go.Proofs.YtkkpppgfoilgmaaGreatDoor
theorem spanOnes_holds:Rows.SpanOnesCardSaid:=spanOnes.card
end Go.Proofs.YtkkpppgfoilgmaaGreatDoor
