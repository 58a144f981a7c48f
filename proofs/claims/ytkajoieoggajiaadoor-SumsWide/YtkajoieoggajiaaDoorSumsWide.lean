/-
  SumsWide: for every list of ints and every way the law returns true: of the finite binary32 of the list (of its first 200) Sum32 is the exact sum of their binary64, rounded once to binary32. As a card: the library's tables and the layouts of package bits start as the program's text lays them.
-/
import Derived.Test.YtkajoieoggajiaaDoorPart9
import Derived.Test.YtkajoieoggajiaaDoorCards
import Derived.Test.YtkajoieoggajiaaDoorTie
set_option linter.unusedVariables false
set_option linter.unusedSimpArgs false
namespace Go.Proofs.YtkajoieoggajiaaDoor.sumsWide
open Go Go.ChangeShapes Go.WideShapes Go.ChangeAt Go.RowKit Go.Proofs.YtkajoieoggajiaaDoor Go.Proofs.YtkajoieoggajiaaDoor.M
theorem appO {w:World} {ops:Array Oper} {rest:List Oper} {o:Oper} {a:Act} {Q:Exit->Act->World->Prop} (hgd:o.guard=none) (s x:Operand)
    (ho:o.op=.call { callee:=.builtin .append,args:=#[s,x],argTypes:=#[22,22] }) (B:Nat) (v:Value) (n:Nat) (d:Nat->Int) (hs:a.eval s=v) (hO:Out B w v n d)
    (bo:Option Addr) (m cb:Nat) (e:Nat->Int) (hx:a.eval x=.slice bo m cb) (hR:Row w bo m cb e) (hlen:n + m <= 1000000) (hB:B <= w.heap.size)
    (h:∀ v' w',Out B w' v' (n + m) (cat d n e)->w.grownBy w' v.ownBlock->(v'.ownBlock=v.ownBlock∨v'.ownBlock=some w.heap.size)->wpList Tryd.prog ops Q rest (a.put o.dst v') w'):wpList Tryd.prog ops Q (o :: rest) a w :=
  wpList_plain hgd fun _ hK=>wp_app s x ho B v n d hs hO bo m cb e hx hR hlen hB fun v' w' h1 h2 h3=>hK _ _ (h v' w' h1 h2 h3)
theorem grown_list {B:Nat} {w w':World} {row:Option Nat} {x:Value} {m:Nat} {d:Nat->Int} (h:Out B w x m d) (hg:w.grownBy w' row) (hne:∀ g,x.ownBlock=some g->row ≠ some g):Out B w' x m d:=by
  refine ⟨h.1,?_⟩
  rcases h.2 with hn | ⟨g,cap,cur,rfl,hbb,hh,rest⟩
  . exact .inl hn
  . exact .inr ⟨g,cap,cur,rfl,hbb,(hg.block g (Array.getElem?_eq_some_iff.1 hh).1 (fun e=>hne g rfl e.symm)).trans hh,rest⟩
def Ap (a b:Value):Prop:=∀ g,a.ownBlock=some g->b.ownBlock ≠ some g
theorem Ap.comm {a b:Value} (h:Ap a b):Ap b a:=fun g hb ha=>h g ha hb
theorem Ap.app {w:World} {a a' b:Value} {B n:Nat} {d:Nat->Int} (h:Ap a b) (hb:Out B w b n d) (e:a'.ownBlock=a.ownBlock∨a'.ownBlock=some w.heap.size):Ap a' b:=fun g ha hg=>by
  rcases e with e | e
  . exact h g (e ▸ ha) hg
  . have:=(World.ownsRow.lt hb g hg).2
    rw [e] at ha
    cases ha
    omega
theorem low32 {z:Int} (h:rng z):∃ x,bits BinOp.and IntKind.i64 z 4294967295=x∧0 <= x∧x < 4294967296:=by
  refine ⟨_,rfl,?_⟩
  rw [bits_and64,show ((4294967295:Int) % 18446744073709551616).toNat=2 ^ 32 - 1 from by decide,Nat.and_two_pow_sub_one_eq_mod,wrap_i64_eq]
  omega
theorem sum_wide {d:Nat->Int}:∀ (m:Nat),(∀ i,i < m->pok32 (d i)=true)->sumF (fun i=>patV (wide (d i))) m=sumF (fun i=>patV32 (d i)) m:=fun m h=>
  sumF_congr m fun i hi=>(wide_fin (h i hi)).2.2
set_option maxRecDepth 100000 in
set_option maxHeartbeats 4000000 in
theorem walk (a0:Option Addr) (l0 c0:Nat) (z0:Nat->Int) (way:Int) (w:World) (h0:Row w a0 l0 c0 z0) (hz0:∀ i,i < l0->rng (z0 i)) (rw:rng way) (H:Hold4 w) :
    Calls Tryd.prog 3 #[.slice a0 l0 c0,.int .i64 way] w fun e w'=>e=.returned (.bool true)∧Below w.heap.size w w':=by
  obtain ⟨k,hk,hk0⟩:=way5 rw
  have HK:Hid (0 <= k∧k <= 3):=hk0
  have HH:Hid (Hold4 w):=H
  have hla:=h0.le
  have hma:=h0.max
  clear rw hk0 H
  go_enter Tryd.func3,Tryd.ntmps3
  go_wp2
  go_loopw [5,6,7] (fun av bv i wr=>∃ (j m:Nat) (d:Nat->Int),j <= l0∧j <= 200∧m <= j∧i=.int .i64 j∧Hid (Out w.heap.size wr av m d)∧Hid (Out w.heap.size wr bv m (fun i=>wide (d i)))∧Hid (Ap av bv)∧Hid (∀ i,i < m->pok32 (d i)=true)∧Below w.heap.size w wr) (fun _ _ i _=>l0 - (intOf i).toNat)
  case atStart=>exact ⟨0,0,fun _=>0,Nat.zero_le _,Nat.zero_le _,Nat.zero_le _,rfl,Out.nil _ _ _,Out.nil _ _ _,(fun g h=>by cases h),(fun j hj=>by omega),bel_refl _⟩
  case round=>
    obtain ⟨j,m,d,hj,hj2,hm,rfl,HA,HB,HP,HD,hbw⟩:=hrel
    by_cases hlt:j < l0
    . have j0:(j:Int) < (l0:Int):=by omega
      have j1:(0:Int) <= (j:Int):=by omega
      by_cases hmN:j < 200
      . have j2:(j:Int) < (200:Int):=by omega
        obtain ⟨ba,fa,rfl,hba,hca⟩:=h0.spot (by omega)
        have c1:=(hbw.cell (p:=⟨ba,fa + j,none⟩) hba).trans (hca j hlt)
        obtain ⟨x,hx,hx1,hx2⟩:=low32 (hz0 j hlt)
        have HX:Hid (0 <= x∧x < 4294967296):=⟨hx1,hx2⟩
        have rx:rng x:=by unfold rng; omega
        have CC:Hid (∀ W,Hold4 W->Calls Tryd.prog 4 #[.int .i64 x] W fun e w'=>e=.returned (.int .i64 (cls32 x))∧Below W.heap.size W w'):=fun W h=>(bitsClass32 _ W h.env.lays).mono fun e w' q=>⟨q.1,q.2.be⟩
        have H0:Hid (Hold4 wr):=HH.out.keeps hbw
        have ec:=cls32_ok x
        clear hx1 hx2 rx hca
        cases hp:pok32 x
        . rw [hp] at ec
          have e0:¬ cls32 x < 3:=of_decide_eq_false ec
          clear ec
          generalize cls32 x=cz at *
          go_wp2_with fail
          refine (CC.out _ H0.out).mono ?_
          rintro _ w1 ⟨rfl,hw1⟩
          go_wp2
          go_roundw
          case rel=>exact ⟨j + 1,m,d,by omega,by omega,by omega,by go_num,HA.out.stays hw1,HB.out.stays hw1,HP.out,HD.out,bel_trans hbw hw1⟩
          case measure=>simp [intOf]; omega
        . rw [hp] at ec
          have e0:cls32 x < 3:=of_decide_eq_true ec
          clear ec
          have CW:Hid (∀ W,Calls Tryd.prog 5 #[.int .i64 x] W fun e w'=>e=.returned (.int .i64 (wide x))∧Below W.heap.size W w'):=fun W=>widenF hp W
          have HQ:Hid (pok32 x=true):=hp
          clear hp
          generalize cls32 x=cz at *
          go_wp2_with fail
          refine (CC.out _ H0.out).mono ?_
          rintro _ w1 ⟨rfl,hw1⟩
          have hbw1:=bel_trans hbw hw1
          have hA1:=HA.out.stays hw1
          have hB1:=HB.out.stays hw1
          go_wp2_with (at_builtin; refine appO rfl _ _ rfl w.heap.size _ m d rfl (hA1.stays (bel_alloc _ _)) _ 1 1 (fun _=>x) rfl (row1 _ _ rfl) (by omega) (by have:=hbw1.size; simp; omega) ?_; intro v2 w2 hA2 hg2 hv2)
          refine (CW.out _).mono ?_
          rintro _ w3 ⟨rfl,hw3⟩
          have hb2:Below w.heap.size w w2:=(hbw1.alloc hbw1.size _).grown hg2 (by have:=hbw1.size; simp; omega) (own_ge hA1)
          have hB1':=hB1.stays (bel_alloc w1 (.cells #[.int .i64 x] 3))
          have hB2:=grown_list hB1' hg2 HP.out.comm
          have hP2:=Ap.app HP.out hB1' hv2
          have hbw3:=bel_trans hb2 hw3
          have hA3:=hA2.stays hw3
          have hB3:=hB2.stays hw3
          go_wp2_with (at_builtin; refine appO rfl _ _ rfl w.heap.size _ m (fun i=>wide (d i)) rfl (hB3.stays (bel_alloc _ _)) _ 1 1 (fun _=>wide x) rfl (row1 _ _ rfl) (by omega) (by have:=hbw3.size; simp; omega) ?_; intro v4 w4 hB4 hg4 hv4)
          have hb4:Below w.heap.size w w4:=(hbw3.alloc hbw3.size _).grown hg4 (by have:=hbw3.size; simp; omega) (own_ge hB3)
          have hA3':=hA3.stays (bel_alloc w3 (.cells #[.int .i64 (wide x)] 3))
          have hA4:=grown_list hA3' hg4 hP2
          have hP4:=(Ap.app hP2.comm hA3' hv4).comm
          go_roundw
          case rel=>
            refine ⟨j + 1,m + 1,upd d m x,by omega,by omega,by omega,by go_num,hA4.congr (cat_upd d m _),hB4.congr (fun i hi=>?_),hP4,fun i hi=>?_,hb4⟩
            . unfold cat
              by_cases e:i < m
              . rw [if_pos e,upd_other _ _ (by omega)]
              . rw [if_neg e,show i=m by omega,upd_same]
            . by_cases e:i=m
              . subst e; rw [upd_same]; exact HQ.out
              . rw [upd_other _ _ e]; exact HD.out i (by omega)
          case measure=>simp [intOf]; omega
      . have j2:¬ (j:Int) < (200:Int):=by omega
        obtain ⟨ao,ac,rfl,RA⟩:=HA.out.row
        obtain ⟨bo,bc,rfl,RB⟩:=HB.out.row
        have CS:Hid (Calls Tryd.prog 6 #[.slice ao m ac,.int .i64 k] wr fun r w'=>∃ p,r=.returned (.tuple #[.int .i64 p,.int .i64 0])∧Rd32 k (sumF (fun i=>patV32 (d i)) m) p∧Below wr.heap.size wr w'):=Sum32F k HK.out wr RA HD.out (by omega) (HH.out.keeps hbw)
        have CT:Hid (∀ W,Below wr.heap.size wr W->Calls Tryd.prog 8 #[.slice bo m bc] W fun r w'=>∃ x:NumR,r=.returned (.agg #[.bool x.ng,.slice x.ao x.n x.cap,.int .i64 x.e])∧(∀ W2,Below w'.heap.size w' W2->Calls Tryd.prog 7 #[.agg #[.bool x.ng,.slice x.ao x.n x.cap,.int .i64 x.e],.int .i64 k] W2 fun r w'=>∃ p o,r=.returned (.tuple #[.int .i64 p,.bool o,.int .i64 0])∧Rd32 k (sumF (fun i=>patV32 (d i)) m) p∧Below W2.heap.size W2 w')∧Below W.heap.size W w'):=fun W h=>by
          refine (tot5 W (RB.keeps h) (fun i hi=>(wide_fin (HD.out i hi)).2.1) (by omega) (HH.out.keeps (bel_trans hbw h))).mono ?_
          rintro _ w' ⟨x,rfl,hx,ok,hV,hb⟩
          rw [sum_wide m HD.out] at hV
          exact ⟨x,rfl,fun W2 h2=>To32F HK.out (hx.keeps h2) ok hV (HH.out.keeps (bel_trans hbw (bel_trans h (bel_trans hb h2)))),hb⟩
        have CA:Hid (∀ W,Below wr.heap.size wr W->Calls Tryd.prog 9 #[] W fun r w'=>r=.returned (.bool true)∧Below W.heap.size W w'):=fun W h=>alive5 W (HH.out.keeps (bel_trans hbw h))
        clear RA RB HA HB HP HD h0 hz0
        go_wp2_with fail
        refine CS.out.mono ?_
        rintro _ u1 ⟨p1,rfl,P1,hu1⟩
        go_wp2_with fail
        refine (CT.out _ hu1).mono ?_
        rintro _ u2 ⟨x,rfl,CX,hu2⟩
        have CXH:Hid _:=hideIt CX
        clear CX
        go_wp2_with fail
        refine (CXH.out _ (bel_refl _)).mono ?_
        rintro _ u3 ⟨p2,o2,rfl,P2,hu3⟩
        obtain rfl:=P1.unique P2
        have hU3:=bel_trans hu1 (bel_trans hu2 hu3)
        go_wp2_with fail
        refine (CA.out _ hU3).mono ?_
        rintro _ u4 ⟨rfl,hu4⟩
        go_wp2
        go_ret
        exact ⟨rfl,bel_trans hbw (bel_trans hU3 hu4)⟩
    . have j0:¬ (j:Int) < (l0:Int):=by omega
      obtain ⟨ao,ac,rfl,RA⟩:=HA.out.row
      obtain ⟨bo,bc,rfl,RB⟩:=HB.out.row
      have CS:Hid (Calls Tryd.prog 6 #[.slice ao m ac,.int .i64 k] wr fun r w'=>∃ p,r=.returned (.tuple #[.int .i64 p,.int .i64 0])∧Rd32 k (sumF (fun i=>patV32 (d i)) m) p∧Below wr.heap.size wr w'):=Sum32F k HK.out wr RA HD.out (by omega) (HH.out.keeps hbw)
      have CT:Hid (∀ W,Below wr.heap.size wr W->Calls Tryd.prog 8 #[.slice bo m bc] W fun r w'=>∃ x:NumR,r=.returned (.agg #[.bool x.ng,.slice x.ao x.n x.cap,.int .i64 x.e])∧(∀ W2,Below w'.heap.size w' W2->Calls Tryd.prog 7 #[.agg #[.bool x.ng,.slice x.ao x.n x.cap,.int .i64 x.e],.int .i64 k] W2 fun r w'=>∃ p o,r=.returned (.tuple #[.int .i64 p,.bool o,.int .i64 0])∧Rd32 k (sumF (fun i=>patV32 (d i)) m) p∧Below W2.heap.size W2 w')∧Below W.heap.size W w'):=fun W h=>by
        refine (tot5 W (RB.keeps h) (fun i hi=>(wide_fin (HD.out i hi)).2.1) (by omega) (HH.out.keeps (bel_trans hbw h))).mono ?_
        rintro _ w' ⟨x,rfl,hx,ok,hV,hb⟩
        rw [sum_wide m HD.out] at hV
        exact ⟨x,rfl,fun W2 h2=>To32F HK.out (hx.keeps h2) ok hV (HH.out.keeps (bel_trans hbw (bel_trans h (bel_trans hb h2)))),hb⟩
      have CA:Hid (∀ W,Below wr.heap.size wr W->Calls Tryd.prog 9 #[] W fun r w'=>r=.returned (.bool true)∧Below W.heap.size W w'):=fun W h=>alive5 W (HH.out.keeps (bel_trans hbw h))
      clear RA RB HA HB HP HD h0 hz0
      go_wp2_with fail
      refine CS.out.mono ?_
      rintro _ u1 ⟨p1,rfl,P1,hu1⟩
      go_wp2_with fail
      refine (CT.out _ hu1).mono ?_
      rintro _ u2 ⟨x,rfl,CX,hu2⟩
      have CXH:Hid _:=hideIt CX
      clear CX
      go_wp2_with fail
      refine (CXH.out _ (bel_refl _)).mono ?_
      rintro _ u3 ⟨p2,o2,rfl,P2,hu3⟩
      obtain rfl:=P1.unique P2
      have hU3:=bel_trans hu1 (bel_trans hu2 hu3)
      go_wp2_with fail
      refine (CA.out _ hU3).mono ?_
      rintro _ u4 ⟨rfl,hu4⟩
      go_wp2
      go_ret
      exact ⟨rfl,bel_trans hbw (bel_trans hU3 hu4)⟩
theorem own:ownKnob Tryd.prog.godebug=none:=by kernel_rfl
theorem laidOut:laidOutB Tryd.prog=true:=by kernel_rfl
theorem door_met (os:Os) (args:Array Value):laidMetH Tryd.prog Rows.sumsWideRow.laid ((World.doorLaid Tryd.prog 400 os).forCall (fun _ _=>0) ⟨#[],args,[]⟩).memory :=
  laidMetH_of_parts3 (fuel:=8) (laidMet_of_run' 8 (by kernel_rfl) (by kernel_rfl)) (by kernel_rfl) (by kernel_rfl)
set_option maxRecDepth 100000 in
theorem lifted (os:Os) (started:os.Started) (H:Type) (enc:TypeId × Value->H) :
    ReturnsInHanded {} Tryd.checked os 3 .any (fun w args=>(Rows.sumsWideSpec.pre enc Tryd.prog Tryd.f3 [] false w args∧laidMetH Tryd.prog Rows.sumsWideRow.laid w)∧sizedMet enc Tryd.prog Tryd.f3 (OpenSpec.ofChange Rows.sumsWideSpec) false w args)
      (Rows.sumsWideSpec.post enc Tryd.prog Tryd.f3 false true false false):=by
  refine returnsInHanded_of_change_and (C:=Tryd.checked) (X:=fun w _=>laidMetH Tryd.prog Rows.sumsWideRow.laid w) (fun _ _ _ hh h=>h.of_heap hh) own started (by kernel_rfl) Tryd.func3
    (ChangeSpec.witness_shaped (enc:=enc) (C:=Tryd.checked) (os:=os) (X:=fun w _=>laidMetH Tryd.prog Rows.sumsWideRow.laid w) false (World.doorLaid Tryd.prog 400 os) #[.slice none 0 0,.int .i64 0] 8 rfl (World.shaped_of_RefB (by kernel_rfl) (by kernel_rfl)) (by kernel_rfl) (by kernel_rfl) (by kernel_rfl) (door_met os _)) ?_
  intro W base args ds gs before hval0 hW _ _ hL _
  have hval:∀ (j:Nat) t v,Tryd.f3.params[j]?=some t->args[j]?=some v->Value.okWide Tryd.prog W .any base t v:=hval0
  have hW':=hW
  obtain ⟨p,q,hA0,hV,rfl,hfz,hnd⟩:=hW
  have hA:DataW.TrodAll enc Tryd.prog W 0 (fun _=>true) true Tryd.f3.params.toList args.toList ds p:=hA0
  rw [Tryd.params3] at hA hval
  obtain ⟨v0,vs0,d0,ds0,p0,q0,hargs,rfl,rfl,h0,r0⟩:=trodAll_cons hA
  obtain ⟨v1,vs1,d1,ds1,p1,q1,rfl,rfl,rfl,h1,r1⟩:=trodAll_cons r0
  obtain ⟨rfl,rfl,rfl⟩:=trodAll_nil r1
  obtain rfl:args=#[v0,v1]:=by cases args; simp_all
  obtain ⟨rfl,rfl⟩:=trodVars_none hV
  obtain ⟨a0,l0,c0,rfl⟩:=okWide_slice Tryd.underlying22 (hval 0 22 v0 rfl rfl)
  have k0:=h0
  have lt0:∀ x ∈ p0,x.block < W.heap.size:=by obtain ⟨m,hm⟩:=k0; exact DataW.trod_lt m _ _ _ hm
  obtain ⟨z0,w0,g0⟩:=row_of h0
  obtain ⟨a1,rfl,rfl,rfl,w1⟩:=open_int Tryd.underlying3 (hval 1 3 v1 rfl rfl) h1
  clear hA0 hval0
  refine (walk a0 l0 c0 z0 a1 W w0 g0 (rng_of w1) (hold4_of hL)).mono fun e W' ⟨he,bel⟩=>?_
  subst he
  exact ⟨_,rfl,_,_,_,[],_,[],hW',trodAll_mk1 (shut_bool Tryd.underlying4 _),(trodAll_cons_mk (Below.trod laidOut (by kernel_rfl) (of_decide_eq_true (by kernel_rfl)) k0 bel lt0) (trodAll_cons_mk (shut_int Tryd.underlying3 w1) trodAll_mk0)),rfl,bel.frame _,fun h=>by cases h⟩
theorem said:Rows.SumsWideSaid :=
  OpenClaim.holds_of_wide 3 Tryd.f3 rfl rfl rfl rfl rfl rfl rfl ⟨rfl,rfl,rfl,rfl,rfl⟩ rfl rfl rfl rfl rfl (by kernel_rfl) Tryd.func3 (by kernel_rfl)
    (of_decide_eq_true (by kernel_rfl)) (by unfold Func.isWrapper; first | (rw [if_pos (by decide +kernel)]; kernel_rfl) | (rw [if_neg (by decide +kernel)]; exact ⟨rfl,rfl⟩))
    (fun os started H enc _=>lifted os started H enc)
theorem plain (f:FuncId) (fn:Func) (hf:Tryd.pinned.checked.prog.funcNamed Tryd.f3.name=some f) (hfn:Tryd.pinned.checked.prog.funcs[f]?=some fn) :
    true=Tryd.pinned.checked.prog.looks []∧∀ (j:Nat) t,fn.params[j]?=some t->Tryd.pinned.checked.prog.wantsStandIn t=false:=by
  obtain rfl:f=3:=Option.some.inj ((show Tryd.prog.funcNamed Tryd.f3.name=some 3 by kernel_rfl).symm.trans hf) |>.symm
  obtain rfl:fn=Tryd.f3:=(Option.some.inj (Tryd.func3.symm.trans hfn)).symm
  refine ⟨by kernel_rfl,fun j t ht=>?_⟩
  rw [Tryd.params3] at ht
  have ht2:t=22∨t=3:=by simpa using Array.mem_of_getElem? ht
  rcases ht2 with rfl | rfl
  . exact (show Tryd.prog.wantsStandIn 22=false by kernel_rfl)
  . exact (show Tryd.prog.wantsStandIn 3=false by kernel_rfl)
theorem card:Rows.SumsWideCardSaid :=
  Claim7.holds_tied_plain_at .later [] _ _ _ _ said (fun _ h=>by cases h) (by kernel_rfl) (fun _ h=>by cases h) sumsWide_row_tie rfl ⟨rfl,rfl⟩ (by kernel_rfl) rfl plain (by kernel_rfl)
end Go.Proofs.YtkajoieoggajiaaDoor.sumsWide
namespace Go.Proofs.YtkajoieoggajiaaDoor
theorem sumsWide_holds:Rows.SumsWideCardSaid:=sumsWide.card
end Go.Proofs.YtkajoieoggajiaaDoor
