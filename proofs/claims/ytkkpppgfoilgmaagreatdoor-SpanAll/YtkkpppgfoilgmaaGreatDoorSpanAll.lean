/-
  SpanAll: for any script of asks, the law returns true: the calls on one interval, one float, one number and those on two intervals answer as the document says, in any order, whatever was asked ahead. As a card: the library's tables and the layout of package bits start as the program's text lays them.
-/
import Derived.Test.YtkkpppgfoilgmaaGreatDoorPart37
import Derived.Test.YtkkpppgfoilgmaaGreatDoorPart42
import Derived.Test.YtkkpppgfoilgmaaGreatDoorPart29
import Derived.Test.YtkkpppgfoilgmaaGreatDoorCards
import Derived.Test.YtkkpppgfoilgmaaGreatDoorTie
set_option maxRecDepth 100000
set_option maxHeartbeats 8000000
set_option linter.unusedVariables false
set_option linter.unusedSimpArgs false
namespace Go.Proofs.YtkkpppgfoilgmaaGreatDoor.spanAll
open Go Go.Proofs.Tryz Go.ChangeShapes Go.WideShapes Go.ChangeAt Go.RowKit Go.Proofs.YtkkpppgfoilgmaaGreatDoor Go.Proofs.YtkkpppgfoilgmaaGreatDoor.M
theorem Ai {W : World} (h : laidMetH Tryz.prog [("math/bits.deBruijn32tab", Rows.laid_math_bits_deBruijn32tab), ("math/bits.deBruijn64tab", Rows.laid_math_bits_deBruijn64tab), ("plumb/bits.binary64", Rows.laid_plumb_bits_binary64)] W) : ax W := by
 have k:=Bo h
 exact⟨k.lay,k.tab,⟨⟨k.lay.a0,k.lay.a1,k.lay.a2,trivial,trivial,trivial⟩,k.tab⟩⟩
theorem vZ {w w':World} {b o:Nat} {r:i7} (h:th w b o r) (hb:Below w.heap.size w w') (hlt:b<w.heap.size) :
  w'.cell? ⟨b,o,none⟩=some (.int .i64 r.k)∧w'.cell? ⟨b,o+1,none⟩=some (.int .i64 r.b)∧w'.cell? ⟨b,o+2,none⟩=some (.int .i64 r.s0)∧w'.cell? ⟨b,o+3,none⟩=some (.int .i64 r.s1)∧w'.cell? ⟨b,o+4,none⟩=some (.int .i64 r.t0)∧w'.cell? ⟨b,o+5,none⟩=some (.int .i64 r.t1)∧w'.cell? ⟨b,o+6,none⟩=some (.bool r.x.ng)∧w'.cell? ⟨b,o+7,none⟩=some (.slice r.x.ao r.x.n r.x.cap)∧w'.cell? ⟨b,o+8,none⟩=some (.int .i64 r.x.e):=by
 have c:=fun j (hj:j<9)=>(hb.cell (p:=⟨b,o+j,none⟩) hlt).trans (h.cell j hj)
 exact⟨c 0 (by decide),c 1 (by decide),c 2 (by decide),c 3 (by decide),c 4 (by decide),c 5 (by decide),c 6 (by decide),c 7 (by decide),c 8 (by decide)⟩
theorem walk (a:Option Addr) (len cap:Nat) (r:Nat->i7) (w:World) (hs:uI w a len cap r) (H:ax w) :
  Calls prog 4 #[.slice a len cap] w fun e w'=>e=.returned (.bool true)∧Below w.heap.size w w':=by
 have HC:Hid (∀ i,i<len->∃ b off,a=some ⟨b,off,none⟩∧b<w.heap.size∧th w b (off+i*9) (r i)):=fun i hi=>by
  rcases hs with h|⟨b,off,h1,_,_,h2,h3⟩
  ·omega
  ·exact⟨b,off,h1,h2,h3 i hi⟩
 have hl:len<=cap∨len=0:=by
  rcases hs with h|⟨b,off,h1,h2,_⟩
  ·exact .inr h
  ·exact .inl h2
 have hm:len<=9223372036854775807:=by
  rcases hs with h|⟨b,off,h1,h2,h3,_⟩
  ·omega
  ·omega
 have HA:Hid (∀ W,ax W->Calls prog 5 #[] W fun e w'=>e=.returned (.bool true)∧Below W.heap.size W w'):=fun W HW=>Em W HW.env.lays
 have HH:Hid (ax w):=H
 clear hs H
 go_enter func4,ntmps4
 go_wp2
 go_loopw [3] (fun iv wr=>∃ (j:Nat),iv=.int .i64 j∧j<=len∧j<=60∧Hid (Below w.heap.size w wr)) (fun iv _=>len-(intOf iv).toNat)
 case atStart=>exact⟨0,rfl,Nat.zero_le _,by omega,ap _⟩
 case round=>
  obtain⟨j,rfl,hj,hj60,HB⟩:=hrel
  have HD:Hid (ax wr):=HH.out.keeps HB.out
  by_cases c1:j<len
  ·by_cases c2:j<60
   ·obtain⟨b,off,rfl,hbl,hask⟩:=HC.out j c1
    generalize r j=q at hask
    obtain⟨d0,d1,d2,d3,d4,d5,d6,d7,d8⟩:=vZ hask HB.out hbl
    have hF:=hask.fact
    clear hask
    obtain⟨qk,qb,s0,s1,t0,t1,⟨x_g,x_o,x_n,x_c,x_d,x_e⟩⟩:=q
    obtain⟨rk,rb,r0,r1,r2,r3,rx⟩:=hF
    simp only at d0 d1 d2 d3 d4 d5 d6 d7 d8 rk rb r0 r1 r2 r3 rx
    have C1:Hid (∀ W,Below w.heap.size w W->ax W->Calls prog 6 #[.agg #[.int .i64 s0,.int .i64 s1],.int .i64 qb,.agg #[.bool x_g,.slice x_o x_n x_c,.int .i64 x_e]] W fun e w'=>e=.returned (.bool true)∧Below W.heap.size W w'):=fun W hW HW=>Cz (x:=⟨x_g,x_o,x_n,x_c,x_d,x_e⟩) r0 r1 rb (rx.keeps hW) HW
    have C2:Hid (∀ W,ax W->Calls prog 7 #[.agg #[.int .i64 s0,.int .i64 s1],.agg #[.int .i64 t0,.int .i64 t1]] W fun e w'=>e=.returned (.bool true)∧Below W.heap.size W w'):=fun W HW=>CH r0 r1 r2 r3 W HW
    have hxl:=rx.le
    have hxm:=rx.max
    clear rk rb r0 r1 r2 r3 rx
    have _z:=True.intro
    have hb2:=ae wr (.cells #[.int .i64 qk,.int .i64 qb,.int .i64 s0,.int .i64 s1,.int .i64 t0,.int .i64 t1,.bool x_g,.slice x_o x_n x_c,.int .i64 x_e] 31)
    have x_k:=aB wr (.cells #[.int .i64 qk,.int .i64 qb,.int .i64 s0,.int .i64 s1,.int .i64 t0,.int .i64 t1,.bool x_g,.slice x_o x_n x_c,.int .i64 x_e] 31)
    by_cases hn:x_n<=40
    ·have hn':decide ((x_n:Int)<=40)=true:=decide_eq_true (by omega)
     have f_0:=aa x_k 0 rfl
     have f_1:=aa x_k 1 rfl
     have f_2:=aa x_k 2 rfl
     have f_3:=aa x_k 3 rfl
     have f_4:=aa x_k 4 rfl
     have f_5:=aa x_k 5 rfl
     have f_6:=aa x_k 6 rfl
     have f_7:=aa x_k 7 rfl
     have f_8:=aa x_k 8 rfl
     go_wp2_with fail
     clear f_0 f_1 f_2 f_3 f_4 f_5 f_6 f_7 f_8 d0 d1 d2 d3 d4 d5 d6 d7 d8
     generalize wr.alloc (.cells #[.int .i64 qk,.int .i64 qb,.int .i64 s0,.int .i64 s1,.int .i64 t0,.int .i64 t1,.bool x_g,.slice x_o x_n x_c,.int .i64 x_e] 31)=wx at hb2 x_k ⊢
     have H2:=HD.out.keeps hb2
     have hbx:=ab HB.out hb2
     refine(C1.out _ hbx H2).mono ?_
     rintro _ y1 ⟨rfl,h1⟩
     have x_k:=ac h1 x_k
     have H2:=H2.keeps h1
     have hbx:=ab hbx h1
     have f_0:=aa x_k 0 rfl
     have f_1:=aa x_k 1 rfl
     have f_2:=aa x_k 2 rfl
     have f_3:=aa x_k 3 rfl
     have f_4:=aa x_k 4 rfl
     have f_5:=aa x_k 5 rfl
     have f_6:=aa x_k 6 rfl
     have f_7:=aa x_k 7 rfl
     have f_8:=aa x_k 8 rfl
     by_cases hk:qk=1
     ·subst hk
      go_wp2_with fail
      refine(C2.out _ H2).mono ?_
      rintro _ y2 ⟨rfl,h2⟩
      have hbx:=ab hbx h2
      go_wp2
      all_goals
       go_roundw
       case rel=>exact⟨j+1,by go_num,by omega,by omega,hbx⟩
       case measure=>simp[intOf];omega
     ·have hk':decide (qk=1)=false:=decide_eq_false hk
      go_wp2
      all_goals
       go_roundw
       case rel=>exact⟨j+1,by go_num,by omega,by omega,hbx⟩
       case measure=>simp[intOf];omega
    ·have hn':decide ((x_n:Int)<=40)=false:=decide_eq_false (by omega)
     have hbx:=ab HB.out hb2
     have f_0:=aa x_k 0 rfl
     have f_1:=aa x_k 1 rfl
     have f_2:=aa x_k 2 rfl
     have f_3:=aa x_k 3 rfl
     have f_4:=aa x_k 4 rfl
     have f_5:=aa x_k 5 rfl
     have f_6:=aa x_k 6 rfl
     have f_7:=aa x_k 7 rfl
     have f_8:=aa x_k 8 rfl
     by_cases hk:qk=1
     ·subst hk
      go_wp2_with fail
      clear f_0 f_1 f_2 f_3 f_4 f_5 f_6 f_7 f_8 d0 d1 d2 d3 d4 d5 d6 d7 d8
      generalize wr.alloc (.cells #[.int .i64 1,.int .i64 qb,.int .i64 s0,.int .i64 s1,.int .i64 t0,.int .i64 t1,.bool x_g,.slice x_o x_n x_c,.int .i64 x_e] 31)=wx at hb2 x_k hbx ⊢
      have H2:=HD.out.keeps hb2
      refine(C2.out _ H2).mono ?_
      rintro _ y2 ⟨rfl,h2⟩
      have hbx:=ab hbx h2
      go_wp2
      all_goals
       go_roundw
       case rel=>exact⟨j+1,by go_num,by omega,by omega,hbx⟩
       case measure=>simp[intOf];omega
     ·have hk':decide (qk=1)=false:=decide_eq_false hk
      go_wp2
      all_goals
       go_roundw
       case rel=>exact⟨j+1,by go_num,by omega,by omega,hbx⟩
       case measure=>simp[intOf];omega
   ·go_wp2_with fail
    refine(HA.out _ HD.out).mono ?_
    rintro _ w2 ⟨rfl,hb⟩
    go_wp2
    go_ret
    exact⟨rfl,ab HB.out hb⟩
  ·obtain rfl:j=len:=by omega
   go_wp2_with fail
   refine(HA.out _ HD.out).mono ?_
   rintro _ w2 ⟨rfl,hb⟩
   go_wp2
   go_ret
   exact⟨rfl,ab HB.out hb⟩
theorem own:ownKnob prog.godebug=none:=by kernel_rfl
theorem laidOut:laidOutB prog=true:=by kernel_rfl
theorem door_met (os:Os) (args:Array Value):laidMetH prog Rows.spanAllRow.laid ((World.doorLaid prog 400 os).forCall (fun _ _=>0) ⟨#[],args,[]⟩).memory :=
 laidMetH_of_parts3 (fuel:=8) (laidMet_of_run' 8 (by kernel_rfl) (by kernel_rfl)) (by kernel_rfl) (by kernel_rfl)
theorem lifted (os:Os) (started:os.Started) (H:Type) (enc:TypeId × Value->H) :
  ReturnsInHanded {} checked os 4 .any (fun w args=>(Rows.spanAllSpec.pre enc prog f4 [] false w args∧laidMetH prog Rows.spanAllRow.laid w)∧sizedMet enc prog f4 (OpenSpec.ofChange Rows.spanAllSpec) false w args)
   (Rows.spanAllSpec.post enc prog f4 false true false false):=by
 refine returnsInHanded_of_change_and (C:=checked) (X:=fun w _=>laidMetH prog Rows.spanAllRow.laid w) (fun _ _ _ hh h=>h.of_heap hh) own started (by kernel_rfl) func4
  (ChangeSpec.witness_shaped (enc:=enc) (C:=checked) (os:=os) (X:=fun w _=>laidMetH prog Rows.spanAllRow.laid w) false (World.doorLaid prog 400 os) #[.slice none 0 0] 8 rfl (World.shaped_of_RefB (by kernel_rfl) (by kernel_rfl)) (by kernel_rfl) (by kernel_rfl) (by kernel_rfl) (door_met os _)) ?_
 intro W base args ds gs before hval0 hW _ hsz hL _
 have hval:∀ (j:Nat) t v,f4.params[j]?=some t->args[j]?=some v->Value.okWide prog W .any base t v:=hval0
 have hW':=hW
 obtain⟨p,q,hA0,hV,rfl,hfz,hnd⟩:=hW
 have hA:DataW.TrodAll enc prog W 0 (fun _=>true) true f4.params.toList args.toList ds p:=hA0
 rw[params4] at hA hval
 obtain⟨v0,vs0,d0,ds0,p0,q0,hargs,rfl,rfl,h0,r0⟩:=trodAll_cons hA
 obtain⟨rfl,rfl,rfl⟩:=trodAll_nil r0
 obtain rfl:args=#[v0]:=by cases args;simp_all
 obtain⟨rfl,rfl⟩:=trodVars_none hV
 obtain⟨a0,l0,c0,rfl⟩:=okWide_slice underlying29 (hval 0 29 v0 rfl rfl)
 have k0:=h0
 have lt0:∀ x ∈ p0,x.block<W.heap.size:=by obtain⟨m,hm⟩:=k0;exact DataW.trod_lt m _ _ _ hm
 obtain⟨fu0,hf0⟩:=h0
 obtain⟨z0,w0⟩:=Ah (by simpa [Value.cells] using hf0) (fun n hn=>of_decide_eq_true (List.all_eq_true.1 hsz n (DataW.weights_mem_each (j:=0) (t:=29) (by kernel_rfl) rfl n hn)))
 clear hA0 hval0
 refine(walk a0 l0 c0 z0 W w0 (Ai hL)).mono fun e W' ⟨he,bel⟩=>?_
 subst he
 exact⟨_,rfl,_,_,_,[],_,[],hW',trodAll_mk1 (shut_bool underlying4 _),(trodAll_cons_mk (Below.trod laidOut (by kernel_rfl) (of_decide_eq_true (by kernel_rfl)) k0 bel lt0) trodAll_mk0),rfl,bel.frame _,fun h=>by cases h⟩
theorem said:Rows.SpanAllSaid :=
 OpenClaim.holds_of_wide 4 f4 rfl rfl rfl rfl rfl rfl rfl ⟨rfl,rfl,rfl,rfl,rfl⟩ rfl rfl rfl rfl rfl (by kernel_rfl) func4 (by kernel_rfl)
  (of_decide_eq_true (by kernel_rfl)) (by unfold Func.isWrapper;first|(rw[if_pos (by decide +kernel)];kernel_rfl)|(rw[if_neg (by decide +kernel)];exact⟨rfl,rfl⟩))
  (fun os started H enc _=>lifted os started H enc)
theorem m9 (f:FuncId) (fn:Func) (hf:Tryz.pinned.checked.prog.funcNamed f4.name=some f) (hfn:Tryz.pinned.checked.prog.funcs[f]?=some fn) :
  true=Tryz.pinned.checked.prog.looks []∧∀ (j:Nat) t,fn.params[j]?=some t->Tryz.pinned.checked.prog.wantsStandIn t=false:=by
 obtain rfl:f=4:=Option.some.inj ((show prog.funcNamed f4.name=some 4 by kernel_rfl).symm.trans hf) |>.symm
 obtain rfl:fn=f4:=(Option.some.inj (func4.symm.trans hfn)).symm
 refine⟨by kernel_rfl,fun j t ht=>?_⟩
 rw[params4] at ht
 obtain rfl:t=29:=by simpa using Array.mem_of_getElem? ht
 exact(show prog.wantsStandIn 29=false by kernel_rfl)
theorem card:Rows.SpanAllCardSaid :=
 Claim7.holds_tied_plain_at .later [] _ _ _ _ said (fun _ h=>by cases h) (by kernel_rfl) (fun _ h=>by cases h) spanAll_row_tie rfl ⟨rfl,rfl⟩ (by kernel_rfl) rfl m9 (by kernel_rfl)
end Go.Proofs.YtkkpppgfoilgmaaGreatDoor.spanAll
namespace Go.Proofs.YtkkpppgfoilgmaaGreatDoor
theorem spanAll_holds:Rows.SpanAllCardSaid:=spanAll.card
end Go.Proofs.YtkkpppgfoilgmaaGreatDoor
