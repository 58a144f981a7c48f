/-
  SolidAll: for every script of calls the law returns true: what package solid tells, asked in any order and again, is what the document says. As a card: the library's tables and the layout of package bits start as the program's text lays them.
-/
import Derived.Test.YtcklaogdjpbagaaGreatDoorSa27
import Derived.Test.YtcklaogdjpbagaaGreatDoorSa4
import Derived.Test.YtcklaogdjpbagaaGreatDoorCards
import Derived.Test.YtcklaogdjpbagaaGreatDoorTie
set_option maxRecDepth 100000
set_option maxHeartbeats 8000000
set_option linter.unusedVariables false
set_option linter.unusedSimpArgs false
namespace Go.Proofs.YtcklaogdjpbagaaGreatDoor.solidAll
open Go Go.Proofs.Tryz Go.ChangeShapes Go.WideShapes Go.ChangeAt Go.RowKit Go.Proofs.YtcklaogdjpbagaaGreatDoor Go.Proofs.YtcklaogdjpbagaaGreatDoor.M
theorem yY {W : World} (h : laidMetH Tryz.prog [("math/bits.deBruijn32tab", Rows.laid_math_bits_deBruijn32tab), ("math/bits.deBruijn64tab", Rows.laid_math_bits_deBruijn64tab), ("plumb/bits.binary64", Rows.laid_plumb_bits_binary64)] W) : bR W := by
 have k:=Ae h
 exact⟨k.lay,k.tab,⟨⟨k.lay.a0,k.lay.a1,k.lay.a2,trivial,trivial,trivial⟩,k.tab⟩⟩
theorem walk (a:Option Addr) (len cap:Nat) (r:Nat->(Nat->Nat->Int) × Bool) (w:World) (hs:tZ w a len cap r) (H:bR w) :
  Calls prog 5 #[.slice a len cap] w fun e w'=>e=.returned (.bool true)∧Below w.heap.size w w':=by
 have HA:Hid (∀ W:World,Below w.heap.size w W->Calls prog 6 #[] W fun e w'=>e=.returned (.bool true)∧Below W.heap.size W w'):=fun W hW=>kd W (H.keeps hW)
 have HS4:Hid (∀ (s:Nat->Nat->Int) W,(∀ i k,ax (s i k))->Below w.heap.size w W->Calls prog 3 #[.agg #[.int .i64 (s 0 0),.int .i64 (s 0 1),.int .i64 (s 0 2),.int .i64 (s 1 0),.int .i64 (s 1 1),.int .i64 (s 1 2),.int .i64 (s 2 0),.int .i64 (s 2 1),.int .i64 (s 2 2),.int .i64 (s 3 0),.int .i64 (s 3 1),.int .i64 (s 3 2)]] W fun e w'=>e=.returned (.bool true)∧Below W.heap.size W w'):=fun s W hr hW=>vb W hr (H.keeps hW)
 have HS5:Hid (∀ (s:Nat->Nat->Int) W,(∀ i k,ax (s i k))->Below w.heap.size w W->Calls prog 4 #[.agg #[.int .i64 (s 0 0),.int .i64 (s 0 1),.int .i64 (s 0 2),.int .i64 (s 1 0),.int .i64 (s 1 1),.int .i64 (s 1 2),.int .i64 (s 2 0),.int .i64 (s 2 1),.int .i64 (s 2 2),.int .i64 (s 3 0),.int .i64 (s 3 1),.int .i64 (s 3 2),.int .i64 (s 4 0),.int .i64 (s 4 1),.int .i64 (s 4 2)]] W fun e w'=>e=.returned (.bool true)∧Below W.heap.size W w'):=fun s W hr hW=>sC W hr (H.keeps hW)
 have HC:Hid (∀ i,i<len->∃ b off,a=some ⟨b,off,none⟩∧b<w.heap.size∧(∀ j,j<16->w.cell? ⟨b,off+i*16+j,none⟩=(kO (r i).1 (r i).2)[j]?)∧∀ p k,ax ((r i).1 p k)):=fun i hi=>by
  rcases hs with h|⟨b,off,h1,_,_,h2,h3⟩
  ·omega
  ·exact⟨b,off,h1,h2,h3 i hi⟩
 have hl:len<=cap∨len=0:=by
  rcases hs with h|⟨b,off,h1,h2,_⟩
  ·exact .inr h
  ·exact .inl h2
 have hm:len<=9223372036854775807:=by
  rcases hs with h|⟨b,off,h1,h2,h3,_⟩
  ·omega
  ·omega
 clear hs H
 go_enter func5,ntmps5
 go_wp2_with fail
 refine(HA.out _ (al _)).mono ?_
 rintro _ y1 ⟨rfl,hb1⟩
 by_cases hlen:len<=150
 ·go_wp2
  go_loopw [4] (fun iv wr=>∃ j:Nat,iv=.int .i64 j∧j<=2*len∧Hid (Below w.heap.size w wr)) (fun iv _=>2*len-(intOf iv).toNat)
  case atStart=>exact⟨0,rfl,Nat.zero_le _,hb1⟩
  case round=>
   obtain⟨j,rfl,hj,HB⟩:=hrel
   by_cases c1:j<2*len
   ·have hjl:j % len<len:=Nat.mod_lt _ (by omega)
    have hmod:Int.tmod (j:Int) (len:Int)=((j % len:Nat):Int):=rfl
    obtain⟨b,off,rfl,hbl,hd,hr⟩:=HC.out (j % len) hjl
    have S4:=fun W hW=>HS4.out (r (j % len)).1 W hr hW
    have S5:=fun W hW=>HS5.out (r (j % len)).1 W hr hW
    have hcell:∀ q,q<16->wr.cell? ⟨b,off+j % len*16+q,none⟩=(kO (r (j % len)).1 (r (j % len)).2)[q]?:=fun q hq=>(HB.out.cell (p:=⟨b,off+j % len*16+q,none⟩) hbl).trans (hd q hq)
    have f0:wr.cell? ⟨b,off+j % len*16,none⟩=some (.int .i64 ((r (j % len)).1 0 0)):=hcell 0 (by decide)
    have f1:wr.cell? ⟨b,off+j % len*16+1,none⟩=some (.int .i64 ((r (j % len)).1 0 1)):=hcell 1 (by decide)
    have f2:wr.cell? ⟨b,off+j % len*16+2,none⟩=some (.int .i64 ((r (j % len)).1 0 2)):=hcell 2 (by decide)
    have f3:wr.cell? ⟨b,off+j % len*16+3,none⟩=some (.int .i64 ((r (j % len)).1 1 0)):=hcell 3 (by decide)
    have f4:wr.cell? ⟨b,off+j % len*16+4,none⟩=some (.int .i64 ((r (j % len)).1 1 1)):=hcell 4 (by decide)
    have f5:wr.cell? ⟨b,off+j % len*16+5,none⟩=some (.int .i64 ((r (j % len)).1 1 2)):=hcell 5 (by decide)
    have f6:wr.cell? ⟨b,off+j % len*16+6,none⟩=some (.int .i64 ((r (j % len)).1 2 0)):=hcell 6 (by decide)
    have f7:wr.cell? ⟨b,off+j % len*16+7,none⟩=some (.int .i64 ((r (j % len)).1 2 1)):=hcell 7 (by decide)
    have f8:wr.cell? ⟨b,off+j % len*16+8,none⟩=some (.int .i64 ((r (j % len)).1 2 2)):=hcell 8 (by decide)
    have f9:wr.cell? ⟨b,off+j % len*16+9,none⟩=some (.int .i64 ((r (j % len)).1 3 0)):=hcell 9 (by decide)
    have f10:wr.cell? ⟨b,off+j % len*16+10,none⟩=some (.int .i64 ((r (j % len)).1 3 1)):=hcell 10 (by decide)
    have f11:wr.cell? ⟨b,off+j % len*16+11,none⟩=some (.int .i64 ((r (j % len)).1 3 2)):=hcell 11 (by decide)
    have f12:wr.cell? ⟨b,off+j % len*16+12,none⟩=some (.int .i64 ((r (j % len)).1 4 0)):=hcell 12 (by decide)
    have f13:wr.cell? ⟨b,off+j % len*16+13,none⟩=some (.int .i64 ((r (j % len)).1 4 1)):=hcell 13 (by decide)
    have f14:wr.cell? ⟨b,off+j % len*16+14,none⟩=some (.int .i64 ((r (j % len)).1 4 2)):=hcell 14 (by decide)
    have f15:wr.cell? ⟨b,off+j % len*16+15,none⟩=some (.bool (r (j % len)).2):=hcell 15 (by decide)
    clear hcell hd hr
    generalize (r (j % len)).2=bb at *
    generalize (r (j % len)).1 0 0=cn at *
    generalize (r (j % len)).1 0 1=s01 at *
    generalize (r (j % len)).1 0 2=s02 at *
    generalize (r (j % len)).1 1 0=co at *
    generalize (r (j % len)).1 1 1=s11 at *
    generalize (r (j % len)).1 1 2=s12 at *
    generalize (r (j % len)).1 2 0=s20 at *
    generalize (r (j % len)).1 2 1=s21 at *
    generalize (r (j % len)).1 2 2=s22 at *
    generalize (r (j % len)).1 3 0=s30 at *
    generalize (r (j % len)).1 3 1=s31 at *
    generalize (r (j % len)).1 3 2=s32 at *
    generalize (r (j % len)).1 4 0=s40 at *
    generalize (r (j % len)).1 4 1=s41 at *
    generalize (r (j % len)).1 4 2=s42 at *
    replace S4:Hid _:=eG S4
    replace S5:Hid _:=eG S5
    generalize j % len=q at *
    cases bb
    ·go_wp2_with fail
     refine(S4.out _ (ac HB.out (ah _ _))).mono ?_
     rintro _ y2 ⟨rfl,hb2⟩
     go_wp2
     go_roundw
     case rel=>exact⟨j+1,by go_num,by omega,ac HB.out (ac (ah _ _) hb2)⟩
     case measure=>simp[intOf];omega
    ·go_wp2_with fail
     refine(S5.out _ (ac HB.out (ah _ _))).mono ?_
     rintro _ y2 ⟨rfl,hb2⟩
     go_wp2
     go_roundw
     case rel=>exact⟨j+1,by go_num,by omega,ac HB.out (ac (ah _ _) hb2)⟩
     case measure=>simp[intOf];omega
   ·obtain rfl:j=2*len:=by omega
    go_wp2
    go_ret
    exact⟨rfl,HB.out⟩
 ·go_wp2
  go_ret
  exact⟨rfl,hb1⟩
theorem own:ownKnob prog.godebug=none:=by kernel_rfl
theorem laidOut:laidOutB prog=true:=by kernel_rfl
theorem door_met (os:Os) (args:Array Value):laidMetH prog Rows.solidAllRow.laid ((World.doorLaid prog 400 os).forCall (fun _ _=>0) ⟨#[],args,[]⟩).memory :=
 laidMetH_of_parts3 (fuel:=8) (laidMet_of_run' 8 (by kernel_rfl) (by kernel_rfl)) (by kernel_rfl) (by kernel_rfl)
theorem lifted (os:Os) (started:os.Started) (H:Type) (enc:TypeId × Value->H) :
  ReturnsInHanded {} checked os 5 .any (fun w args=>(Rows.solidAllSpec.pre enc prog f5 [] false w args∧laidMetH prog Rows.solidAllRow.laid w)∧sizedMet enc prog f5 (OpenSpec.ofChange Rows.solidAllSpec) false w args)
   (Rows.solidAllSpec.post enc prog f5 false true false false):=by
 refine returnsInHanded_of_change_and (C:=checked) (X:=fun w _=>laidMetH prog Rows.solidAllRow.laid w) (fun _ _ _ hh h=>h.of_heap hh) own started (by kernel_rfl) func5
  (ChangeSpec.witness_shaped (enc:=enc) (C:=checked) (os:=os) (X:=fun w _=>laidMetH prog Rows.solidAllRow.laid w) false (World.doorLaid prog 400 os) #[.slice none 0 0] 8 rfl (World.shaped_of_RefB (by kernel_rfl) (by kernel_rfl)) (by kernel_rfl) (by kernel_rfl) (by kernel_rfl) (door_met os _)) ?_
 intro W base args ds gs before hval0 hW _ hsz hL _
 have hval:∀ (j:Nat) t v,f5.params[j]?=some t->args[j]?=some v->Value.okWide prog W .any base t v:=hval0
 have hW':=hW
 obtain⟨p,q,hA0,hV,rfl,hfz,hnd⟩:=hW
 have hA:DataW.TrodAll enc prog W 0 (fun _=>true) true f5.params.toList args.toList ds p:=hA0
 rw[params5] at hA hval
 obtain⟨v0,vs0,d0,ds0,p0,q0,hargs,rfl,rfl,h0,r0⟩:=trodAll_cons hA
 obtain⟨rfl,rfl,rfl⟩:=trodAll_nil r0
 obtain rfl:args=#[v0]:=by cases args;simp_all
 obtain⟨rfl,rfl⟩:=trodVars_none hV
 obtain⟨a0,l0,c0,rfl⟩:=okWide_slice underlying49 (hval 0 49 v0 rfl rfl)
 have k0:=h0
 have lt0:∀ x ∈ p0,x.block<W.heap.size:=by obtain⟨m,hm⟩:=k0;exact DataW.trod_lt m _ _ _ hm
 obtain⟨fu0,hf0⟩:=h0
 obtain⟨z0,w0⟩:=yX (by simpa [Value.cells] using hf0) (fun n hn=>of_decide_eq_true (List.all_eq_true.1 hsz n (DataW.weights_mem_each (j:=0) (t:=49) (by kernel_rfl) rfl n hn)))
 clear hA0 hval0
 refine(walk a0 l0 c0 z0 W w0 (yY hL)).mono fun e W' ⟨he,bel⟩=>?_
 subst he
 exact⟨_,rfl,_,_,_,[],_,[],hW',trodAll_mk1 (shut_bool underlying4 _),(trodAll_cons_mk (Below.trod laidOut (by kernel_rfl) (of_decide_eq_true (by kernel_rfl)) k0 bel lt0) trodAll_mk0),rfl,bel.frame _,fun h=>by cases h⟩
theorem said:Rows.SolidAllSaid :=
 OpenClaim.holds_of_wide 5 f5 rfl rfl rfl rfl rfl rfl rfl ⟨rfl,rfl,rfl,rfl,rfl⟩ rfl rfl rfl rfl rfl (by kernel_rfl) func5 (by kernel_rfl)
  (of_decide_eq_true (by kernel_rfl)) (by unfold Func.isWrapper;first|(rw[if_pos (by decide +kernel)];kernel_rfl)|(rw[if_neg (by decide +kernel)];exact⟨rfl,rfl⟩))
  (fun os started H enc _=>lifted os started H enc)
theorem oe (f:FuncId) (fn:Func) (hf:Tryz.pinned.checked.prog.funcNamed f5.name=some f) (hfn:Tryz.pinned.checked.prog.funcs[f]?=some fn) :
  true=Tryz.pinned.checked.prog.looks []∧∀ (j:Nat) t,fn.params[j]?=some t->Tryz.pinned.checked.prog.wantsStandIn t=false:=by
 obtain rfl:f=5:=Option.some.inj ((show prog.funcNamed f5.name=some 5 by kernel_rfl).symm.trans hf) |>.symm
 obtain rfl:fn=f5:=(Option.some.inj (func5.symm.trans hfn)).symm
 refine⟨by kernel_rfl,fun j t ht=>?_⟩
 rw[params5] at ht
 obtain rfl:t=49:=by simpa using Array.mem_of_getElem? ht
 exact(show prog.wantsStandIn 49=false by kernel_rfl)
theorem card:Rows.SolidAllCardSaid :=
 Claim7.holds_tied_plain_at .later [] _ _ _ _ said (fun _ h=>by cases h) (by kernel_rfl) (fun _ h=>by cases h) solidAll_row_tie rfl ⟨rfl,rfl⟩ (by kernel_rfl) rfl oe (by kernel_rfl)
end Go.Proofs.YtcklaogdjpbagaaGreatDoor.solidAll
namespace Go.Proofs.YtcklaogdjpbagaaGreatDoor
theorem solidAll_holds:Rows.SolidAllCardSaid:=solidAll.card
end Go.Proofs.YtcklaogdjpbagaaGreatDoor
