/- Parts of the proof. -/
import Derived.Test.YtcjfonaolcokbaaGreatDoorPart6
import Derived.Lib.AppendZerosOnto
set_option maxRecDepth 100000
set_option maxHeartbeats 8000000
set_option linter.unusedVariables false
set_option linter.unusedSimpArgs false
namespace Go.Proofs.YtcjfonaolcokbaaGreatDoor
open Go Go.RowKit Go.Proofs.YtcjfonaolcokbaaGreatDoor.M
theorem JA (w:World):(binOp .eql 20 Value.nilIface Value.nilIface).run Tryz.prog w=.ok (.bool true) w:=by kernel_rfl
theorem JB (w:World):(binOp .eql 20 (.iface 29 (.int .i64 14)) Value.nilIface).run Tryz.prog w=.ok (.bool false) w:=by kernel_rfl
theorem KW (w:World):(binOp .eql 20 (.iface 29 (.int .i64 14)) (.iface 29 (.int .i64 14))).run Tryz.prog w=.ok (.bool true) w:=by kernel_rfl
theorem sJ (p:Addr) (x:Value) (older:List PanicEntry) (w:World) (hc:w.cell? p=some x) (hz:w.frozen? p=false) :
  CallsD Tryz.prog 129 #[.pointer (some p)] (.panicking ({ v:=.iface 29 (.int .i64 14),recovered:=false } :: older)) w fun e u' w'=>
   e=.returned (.tuple #[])∧u'=.panicking ({ v:=.iface 29 (.int .i64 14),recovered:=true } :: older)∧w'=w.setCell p (.int .i64 14):=by
 have h1:=JB
 have h2:=KW
 refine callsD_of_wpS Tryz.func129 rfl fun c₀ cs hu=>?_
 apply wpS_seq
 apply wpS_region
 simp [wpOpsS,go_sem,recoverD,hu,Tryz.ntmps129,Exit.thenS]
 refine wpS_of_wp ?_
 go_wp2
 simp [bodyPostS,results,Tryz.results129]
theorem zH (p:Addr) (w:World) :
  CallsD Tryz.prog 129 #[.pointer (some p)] .returning w fun e u' w'=>e=.returned (.tuple #[])∧u'=.returning∧w'=w:=by
 have h1:=JA
 refine callsD_of_wpS Tryz.func129 rfl fun c₀ cs hu=>?_
 apply wpS_seq
 apply wpS_region
 simp [wpOpsS,go_sem,recoverD,hu,Tryz.ntmps129,Exit.thenS]
 refine wpS_of_wp ?_
 go_wp2
 cases c₀
 simp_all [bodyPostS,results,Tryz.results129]
theorem Gu (F:Nat) (cap:Array Value) (w:World) (hE:∀ w,(callFunc F cap).run Tryz.prog w=.ok (.enter F cap) w) (hF:∀ W,Below w.heap.size w W->Calls Tryz.prog F cap W fun r W'=>r=ck∧Below W.heap.size W W') :
  Calls Tryz.prog 101 #[.func (.func F) #[] cap] w fun r w'=>r=.returned (.tuple #[.slice none 0 0,.int .i64 14])∧Below w.heap.size w w':=by
 have hmf:∀ (fn:Fn) (first cap:Array Value) (w:World),(Instr.makeFunc fn first cap).run Tryz.prog w=.ok (.func fn first cap) w:=fun _ _ _ _=>rfl
 go_enter_defers Tryz.func101,Tryz.ntmps101
 go_wp2_with fail
 refine (hF _ (ah _ _)).mono ?_
 rintro r W' ⟨rfl,hb⟩
 unfold ck
 have q1:=(hb.block w.heap.size (by rw [fl]; omega)).trans (aB _ _)
 have f0:=aw q1 0
 have k0:=ac q1 0 rfl
 go_wp2_with fail
 refine leaves_cons (f:=129) (args:=#[.pointer (some ⟨w.heap.size,0,none⟩)]) (by simp) (by simp [go_sem]) ?_
 refine (sJ ⟨w.heap.size,0,none⟩ _ [] _ k0 f0).mono ?_
 rintro e u' w'' ⟨rfl,rfl,rfl⟩
 simp [Leaves,settle,results,Tryz.results101,go_sem,k0]
 exact (aa (ah _ _) hb).setCell (Nat.le_refl _) _
theorem D6 (F:Nat) (cap:Array Value) (w:World) (s:Ls) (hE:∀ w,(callFunc F cap).run Tryz.prog w=.ok (.enter F cap) w) (hF:∀ W,Below w.heap.size w W->Calls Tryz.prog F cap W fun r W'=>∃ v,r=.returned v∧gT W.heap.size W' v s∧Below W.heap.size W W') :
  Calls Tryz.prog 101 #[.func (.func F) #[] cap] w fun r w'=>∃ v,r=.returned (.tuple #[v,.int .i64 0])∧gT w.heap.size w' v s∧Below w.heap.size w w':=by
 have hmf:∀ (fn:Fn) (first cap:Array Value) (w:World),(Instr.makeFunc fn first cap).run Tryz.prog w=.ok (.func fn first cap) w:=fun _ _ _ _=>rfl
 go_enter_defers Tryz.func101,Tryz.ntmps101
 go_wp2_with fail
 refine (hF _ (ah _ _)).mono ?_
 rintro r W' ⟨v,rfl,hL,hb⟩
 have q1:=(hb.block w.heap.size (by rw [fl]; omega)).trans (aB _ _)
 have f0:=aw q1 0
 have k0:=ac q1 0 rfl
 have hL2:gT w.heap.size (W'.setCell ⟨w.heap.size,0,none⟩ (.int .i64 0)) v s:=by
  rcases hL with h | h
  ·exact .inl ((h.set_below (a:=⟨w.heap.size,0,none⟩) (by rw [fl]; exact Nat.lt_succ_self _) _).lower (by rw [fl]; omega))
  ·exact .inr h
 have hb2:Below w.heap.size w (W'.setCell ⟨w.heap.size,0,none⟩ (.int .i64 0)):=(aa (ah _ _) hb).setCell (p:=⟨w.heap.size,0,none⟩) (Nat.le_refl _) _
 obtain ⟨ao,cc,rfl⟩:=hL.shape
 go_wp2_with fail
 refine leaves_cons (f:=129) (args:=#[.pointer (some ⟨w.heap.size,0,none⟩)]) (by simp) (by simp [go_sem]) ?_
 refine (zH ⟨w.heap.size,0,none⟩ _).mono ?_
 rintro e u' w'' ⟨rfl,rfl,rfl⟩
 simp [Leaves,settle,results,Tryz.results101,go_sem,k0]
 first | exact hb2 | exact ⟨hL2,hb2⟩ | exact ⟨_,rfl,hL2,hb2⟩
def qj (d:Nat->Int):Nat->Int
 | 0=>-9223372036854775808
 | k+1=>bi (d k)+bh (aK (d k))
def Av (d:Nat->Int) (k:Nat):Bool:=!decide (aK (d k)=0) && !decide (bi (d k)+jz (aK (d k))<qj d k)
def gJ (d:Nat->Int):Nat->Bool
 | 0=>true
 | k+1=>gJ d k && Av d k
theorem lr (d:Nat->Int) (k:Nat):gJ d (k+1)=(gJ d k && Av d k):=rfl
theorem vR {d:Nat->Int}:∀ {k j},j<=k->gJ d k=true->gJ d j=true
 | 0,j,h,hx=>by
  obtain rfl:j=0:=by omega
  rfl
 | k+1,j,h,hx=>by
  by_cases e:j=k+1
  ·subst e; exact hx
  ·rw [lr,Bool.and_eq_true] at hx
   exact vR (by omega) hx.1
theorem qP (b:Int):0<=aK b∧aK b<9007199254740992∧-2000<=bi b∧bi b<=2000:=by
 cases h:ak b
 ·have:bN b=2047:=by simpa [ak] using h
  unfold aK bi
  rw [if_pos this,if_pos this]
  omega
 ·have:=eE h
  omega
theorem Gv (b:Int):aK b≠0->jz (aK b)<=64:=fun hne=>by
 have hm:=qP b
 have h1:(aK b).toNat<2^64:=Nat.lt_of_lt_of_le (show (aK b).toNat<9007199254740992 by omega) (by decide)
 exact Nat.le_of_lt (Lib.lowest_bit 64 (aK b).toNat (by omega) h1).2
theorem oQ {eo:Option Addr} {n ec:Nat} {d:Nat->Int} (w:World) (h:aQ w eo n ec d) (H:aD w) :
    Calls Tryz.prog 73 #[.slice eo n ec] w fun e w'=>e=.returned (.bool (gJ d n))∧Below w.heap.size w w':=by
  have hle:=h.le
  have hmx:=h.max
  have HR:Hid (aQ w eo n ec d):=h
  have HH:Hid (aD w):=H
  clear h H
  go_enter Tryz.func73,Tryz.ntmps73
  go_wp2_with fail
  go_loopw [3,12] (fun av iv wr=>∃ k:Nat,k<=n∧iv=.int .i64 k∧av=.int .i64 (qj d k)∧Hid (gJ d k=true)∧Below w.heap.size w wr) (fun _ iv _=>n-(intOf iv).toNat)
  case atStart=>exact ⟨0,Nat.zero_le _,rfl,rfl,rfl,aA _⟩
  case round=>
    obtain ⟨k,hk,rfl,rfl,HX,hbw⟩:=hrel
    by_cases hlt:k<n
    · obtain ⟨b,off,rfl,hbb,hc⟩:=(HR.out.keeps hbw).spot (by omega)
      have c0:=hc k hlt
      clear hc
      have H:=HH.out.keeps hbw
      have CP:=kt (d k) wr H.lay
      have m1:=qP (d k)
      have HNO:Hid (Av d k=false->gJ d n=false):=fun hno=>by
        cases hx:gJ d n
        · rfl
        · have:=vR (show k+1<=n by omega) hx
          rw [lr,hno,Bool.and_false] at this
          cases this
      have HO:Hid (Av d k=(!decide (aK (d k)=0) && !decide (bi (d k)+jz (aK (d k))<qj d k))):=rfl
      have HA:Hid (qj d (k+1)=bi (d k)+bh (aK (d k))):=rfl
      have hab:-9223372036854775808<=qj d k:=by
        cases k with
        | zero=>exact Int.le_refl _
        | succ j=>
          show _<=bi (d j)+((bh (aK (d j)):Nat):Int)
          have:=qP (d j)
          omega
      have CT:Hid (∀ W,iG W->0<aK (d k)->Calls Tryz.prog 108 #[.int .u64 (aK (d k))] W fun e w'=>e=.returned (.int .i64 (jz (aK (d k))))∧w'=W):=fun W hT hp=>vN _ hp (by omega) W hT
      have CL:Hid (∀ W,Calls Tryz.prog 109 #[.int .u64 (aK (d k))] W fun e w'=>e=.returned (.int .i64 (bh (aK (d k))))∧w'=W):=fun W=>zW _ W (by omega) (by omega)
      have hj:=Gv (d k)
      have hbl:bh (aK (d k))<=63:=i9 (show aK (d k)<9223372036854775808 by omega)
      have cv:IntKind.u64.wrap (aK (d k))=aK (d k):=by rw [IntKind.wrap_u64]; omega
      generalize hmg:aK (d k)=mg at *
      generalize hex:bi (d k)=ex at *
      generalize hH (d k)=ng at *
      generalize ak (d k)=fn at *
      generalize hdk:d k=dk at *
      generalize hbn:bh mg=bn at *
      clear hmg hex hdk hbn
      have i0:(0:Int)<=(k:Int):=by omega
      have i1:(k:Int)<(n:Int):=by omega
      by_cases hm:mg=0
      · subst hm
        have hno:Hid (false=gJ d n):=(HNO.out (by rw [HO.out]; simp)).symm
        go_wp2_with fail
        refine CP.mono ?_
        rintro _ w1 ⟨rfl,hb1⟩
        go_wp2
        all_goals go_ret
        all_goals exact ⟨b5 hno.out,by first | exact aa hbw hb1 | exact (aa hbw hb1).drew⟩
      · have hm0:(mg == 0)=false:=by simpa using hm
        have hmp:0<mg:=by omega
        have hj':=hj hm
        generalize hjj:jz mg=jj at *
        clear hj hjj
        by_cases hl:ex+(jj:Int)<qj d k
        · have hno:Hid (false=gJ d n):=(HNO.out (by rw [HO.out]; simp [hl])).symm
          generalize qj d k=ab at *
          go_wp2_with fail
          refine CP.mono ?_
          rintro _ w1 ⟨rfl,hb1⟩
          have hbw1:=aa hbw hb1
          have HT:Hid (iG w1):=(HH.out.keeps hbw1).tab
          go_wp2_with (go_at_call 108; refine (CT.out _ HT.out hmp).mono ?_; rintro _ wz ⟨rfl,hw⟩; replace hw:=hw.symm; subst hw)
          all_goals go_ret
          all_goals exact ⟨b5 hno.out,by first | exact hbw1 | exact hbw1.drew⟩
        · have hyes:gJ d (k+1)=true:=by rw [lr,HX.out,HO.out]; simp [hl,hm]
          have hl':¬ (ex+(jj:Int)<qj d k):=hl
          clear hl
          generalize qj d k=ab at *
          go_wp2_with fail
          refine CP.mono ?_
          rintro _ w1 ⟨rfl,hb1⟩
          have hbw1:=aa hbw hb1
          have HT:Hid (iG w1):=(HH.out.keeps hbw1).tab
          go_wp2_with (first
            | (go_at_call 108; refine (CT.out _ HT.out hmp).mono ?_; rintro _ wz ⟨rfl,hw⟩; replace hw:=hw.symm; subst hw)
            | (go_at_call 109; refine (CL.out _).mono ?_; rintro _ wz ⟨rfl,hw⟩; replace hw:=hw.symm; subst hw))
          go_roundw
          case rel=>exact ⟨k+1,by omega,by go_num,by rw [HA.out],hyes,by first | exact hbw1 | exact hbw1.drew⟩
          case measure=>simp [intOf]; omega
    · obtain rfl:k=n:=by omega
      go_wp2
      go_ret
      exact ⟨b5 HX.out.symm,hbw⟩
def XR (w:World) (ok:Bool) (s:Ls) (r:Ending) (w':World):Prop:=((ok=true∧∃ v,r=.returned v∧gT w.heap.size w' v s)∨(ok=false∧r=ck))∧Below w.heap.size w w'
def XA (w:World) (ok:Bool) (s:Ls) (r:Ending) (w':World):Prop:=((ok=true∧∃ v,r=.returned (.tuple #[v,.int .i64 0])∧gT w.heap.size w' v s)∨(ok=false∧r=.returned (.tuple #[.slice none 0 0,.int .i64 14])))∧Below w.heap.size w w'
theorem D7 (F:Nat) (cap:Array Value) (w:World) (ok:Bool) (s:Ls) (hE:∀ w,(callFunc F cap).run Tryz.prog w=.ok (.enter F cap) w) (hF:∀ W,Below w.heap.size w W->Calls Tryz.prog F cap W fun r W'=>XR W ok s r W') :
  Calls Tryz.prog 101 #[.func (.func F) #[] cap] w fun r w'=>XA w ok s r w':=by
 cases ok
 ·refine (Gu F cap w hE fun W hW=>(hF W hW).mono ?_).mono ?_
  ·rintro r W' ⟨(⟨h,_⟩ | ⟨_,h⟩),hb⟩
   ·cases h
   ·exact ⟨h,hb⟩
  ·rintro r w' ⟨h,hb⟩
   exact ⟨.inr ⟨rfl,h⟩,hb⟩
 ·refine (D6 F cap w s hE fun W hW=>(hF W hW).mono ?_).mono ?_
  ·rintro r W' ⟨(⟨_,v,h1,h2⟩ | ⟨h,_⟩),hb⟩
   ·exact ⟨v,h1,h2,hb⟩
   ·cases h
  ·rintro r w' ⟨v,h1,h2,hb⟩
   exact ⟨.inl ⟨rfl,v,h1,h2⟩,hb⟩
theorem NN (G:Nat) (eo fo:Option Addr) (n ec m fc:Nat) (p0 p1 p2:Addr) (w:World) (ok:Bool) (s:Ls) (hEG:∀ (cap:Array Value) (w:World),(callFunc G cap).run Tryz.prog w=.ok (.enter G cap) w) (c0:w.cell? p0=some (.func (.func G) #[] #[])) (c1:w.cell? p1=some (.slice eo n ec)) (c2:w.cell? p2=some (.slice fo m fc))
  (hG:Calls Tryz.prog G #[.slice eo n ec,.slice fo m fc] w fun r w'=>XR w ok s r w') :
  Calls Tryz.prog 102 #[.pointer (some p0),.pointer (some p1),.pointer (some p2)] w fun r w'=>XR w ok s r w':=by
 go_enter Tryz.func102,Tryz.ntmps102
 go_wp2_with fail
 refine hG.mono ?_
 rintro r w' ⟨(⟨h1,v,rfl,h2⟩ | ⟨h1,rfl⟩),hb⟩
 ·obtain ⟨ao,cc,rfl⟩:=h2.shape
  go_wp2
  go_ret
  exact ⟨.inl ⟨h1,_,rfl,h2⟩,hb⟩
 ·unfold ck
  go_wp2
  exact ⟨rfl,.inr ⟨h1,rfl⟩,hb⟩
theorem D8 (G:Nat) {eo fo:Option Addr} {n ec m fc:Nat} {d f:Nat->Int} (w:World) (ok:Bool) (s:Ls) (hEG:∀ (cap:Array Value) (w:World),(callFunc G cap).run Tryz.prog w=.ok (.enter G cap) w) (h:aQ w eo n ec d) (hf:aQ w fo m fc f) (hv:gJ d n=true) (hu:gJ f m=true) (H:aD w)
  (hG:∀ W,Below w.heap.size w W->Calls Tryz.prog G #[.slice eo n ec,.slice fo m fc] W fun r w'=>XR W ok s r w') :
  Calls Tryz.prog 69 #[.slice eo n ec,.slice fo m fc,.func (.func G) #[] #[]] w fun r w'=>XA w ok s r w':=by
 have hmf:∀ (fn:Fn) (first cap:Array Value) (w:World),(Instr.makeFunc fn first cap).run Tryz.prog w=.ok (.func fn first cap) w:=fun _ _ _ _=>rfl
 have hst:∀ p F m w,(store p (.func (.func F) #[] #[]) m).run Tryz.prog w=stored Tryz.prog w p (.func (.func F) #[] #[]) m:=fun p F m w=>run_store _ w p _ m rfl
 have hE:∀ (cap:Array Value) (w:World),(callFunc 102 cap).run Tryz.prog w=.ok (.enter 102 cap) w:=by
  intro cap w
  simp [go_sem]
 have k0:=xk w (.cells #[.slice eo n ec] 32) (.cells #[.slice fo m fc] 32) (.cells #[.func (.func G) #[] #[]] 109)
 have k1:=xl w (.cells #[.slice eo n ec] 32) (.cells #[.slice fo m fc] 32) (.cells #[.func (.func G) #[] #[]] 109)
 have k2:=xm w (.cells #[.slice eo n ec] 32) (.cells #[.slice fo m fc] 32) (.cells #[.func (.func G) #[] #[]] 109)
 have hb0:=nI w (.cells #[.slice eo n ec] 32) (.cells #[.slice fo m fc] 32) (.cells #[.func (.func G) #[] #[]] 109)
 have CV:=fun W hW=>oQ W (h.keeps hW) (H.keeps hW)
 rw [hv] at CV
 have CP:=fun W hW=>oQ W (hf.keeps hW) (H.keeps hW)
 rw [hu] at CP
 go_enter Tryz.func69,Tryz.ntmps69
 go_wp2_with fail
 generalize ((w.alloc (.cells #[.slice eo n ec] 32)).alloc (.cells #[.slice fo m fc] 32)).alloc (.cells #[.func (.func G) #[] #[]] 109)=x0 at k0 k1 k2 hb0 ⊢
 refine (CV _ hb0).mono ?_
 rintro _ y1 ⟨rfl,hw1⟩
 have k0:=(hw1.block _ (Array.getElem?_eq_some_iff.1 k0).1).trans k0
 have k1:=(hw1.block _ (Array.getElem?_eq_some_iff.1 k1).1).trans k1
 have k2:=(hw1.block _ (Array.getElem?_eq_some_iff.1 k2).1).trans k2
 have hbA:=aa hb0 hw1
 have c1:=ac k1 0 rfl
 go_wp2_with fail
 refine (CP _ hbA).mono ?_
 rintro _ y2 ⟨rfl,hw2⟩
 have k0:=(hw2.block _ (Array.getElem?_eq_some_iff.1 k0).1).trans k0
 have k1:=(hw2.block _ (Array.getElem?_eq_some_iff.1 k1).1).trans k1
 have k2:=(hw2.block _ (Array.getElem?_eq_some_iff.1 k2).1).trans k2
 have hbB:=aa hbA hw2
 have c0:=ac k0 0 rfl
 have c1:=ac k1 0 rfl
 have c2:=ac k2 0 rfl
 go_wp2_with fail
 refine (D7 102 _ _ ok s (hE _) (fun W hW=>?_)).mono ?_
 ·have k0:=(hW.block _ (Array.getElem?_eq_some_iff.1 k0).1).trans k0
  have k1:=(hW.block _ (Array.getElem?_eq_some_iff.1 k1).1).trans k1
  have k2:=(hW.block _ (Array.getElem?_eq_some_iff.1 k2).1).trans k2
  exact NN G eo fo n ec m fc _ _ _ W ok s hEG (ac k2 0 rfl) (ac k0 0 rfl) (ac k1 0 rfl) (hG W (aa hbB hW))
 rintro r w2 ⟨(⟨h1,v,rfl,h2⟩ | ⟨h1,rfl⟩),hb2⟩
 ·obtain ⟨ao,cc,rfl⟩:=h2.shape
  go_wp2
  refine bodyPost_ret (v:=.tuple #[.slice ao s.n cc,.int .i64 0]) (by simp [results,Tryz.results69,go_sem]) rfl ⟨.inl ⟨h1,_,rfl,h2.lower hbB.size⟩,aa hbB hb2⟩
 ·go_wp2
  refine bodyPost_ret (v:=.tuple #[.slice none 0 0,.int .i64 14]) (by simp [results,Tryz.results69,go_sem]) rfl ⟨.inr ⟨h1,rfl⟩,aa hbB hb2⟩
theorem ms {d:Nat->Int}:∀ {n},gJ d n=true->∀ i,i<n->ak (d i)=true
 | 0,_,i,hi=>absurd hi (Nat.not_lt_zero _)
 | n+1,h,i,hi=>by
  rw [lr,Bool.and_eq_true] at h
  by_cases e:i=n
  ·subst e
   have h2:=h.2
   unfold Av at h2
   rw [Bool.and_eq_true] at h2
   cases hp:ak (d i)
   ·exfalso
    have hf:bN (d i)=2047:=by simpa [ak] using hp
    have:aK (d i)=0:=by unfold aK; rw [if_pos hf]
    simp [this] at h2
   ·rfl
  ·exact ms h.1 i (by omega)
theorem XR.of_gr {w w1 w':World} {ok:Bool} {s:Ls} {r:Ending} (hb:w.grownBy w1 none) (h:(ok=true∧∃ v,r=.returned v∧gT w.heap.size w' v s∧Below w.heap.size w1 w')∨(ok=false∧r=ck∧Below w.heap.size w1 w')):XR w ok s r w':=by
 have hb0:Below w.heap.size w w1:=kV hb
 rcases h with ⟨h1,v,h2,h3,h4⟩ | ⟨h1,h2,h3⟩
 ·exact ⟨.inl ⟨h1,v,h2,h3⟩,hb0.trans h4⟩
 ·exact ⟨.inr ⟨h1,h2⟩,hb0.trans h3⟩
theorem Gw {eo fo:Option Addr} {n ec m fc:Nat} {d f:Nat->Int} (w:World) (h:aQ w eo n ec d) (hf:aQ w fo m fc f) (hd:∀ i,i<n->aj (d i)∧ak (d i)=true) (hff:∀ i,i<m->aj (f i)∧ak (f i)=true) (hn:n+m<=600000) :
  Calls Tryz.prog 107 #[.slice eo n ec,.slice fo m fc] w fun r w'=>XR w (cO ⟨n,d⟩ f m) (bX ⟨n,d⟩ f m) r w':=by
 have CO:=xZ w h (by omega)
 have CG:Hid (∀ W v,w.grownBy W none->gT w.heap.size W v ⟨n,d⟩->Calls Tryz.prog 104 #[v,.slice fo m fc] W fun e w'=>(cO ⟨n,d⟩ f m=true∧∃ v',e=.returned v'∧gT w.heap.size w' v' (bX ⟨n,d⟩ f m)∧Below w.heap.size W w')∨(cO ⟨n,d⟩ f m=false∧e=ck∧Below w.heap.size W w')):=fun W v hW hL=>
  zG W hL hd (fun W' hW'=>hf.keeps ((kV hW).trans hW')) hff (show n+m<=700000 by omega) hW.size
 generalize cO ⟨n,d⟩ f m=X at *
 generalize bX ⟨n,d⟩ f m=S at *
 go_enter Tryz.func107,Tryz.ntmps107
 go_wp2_with fail
 refine CO.mono ?_
 rintro _ w1 ⟨v,rfl,hL,hg⟩
 obtain ⟨ao,cc,rfl⟩:=hL.shape
 go_wp2_with fail
 refine (CG.out _ _ hg hL).mono ?_
 rintro _ w2 (⟨h1,v',rfl,h3,h4⟩ | ⟨h1,rfl,h3⟩)
 ·obtain ⟨ao',cc',rfl⟩:=h3.shape
  go_wp2
  go_ret
  exact XR.of_gr hg (.inl ⟨h1,_,rfl,h3,h4⟩)
 ·unfold ck
  go_wp2
  exact ⟨rfl,XR.of_gr hg (.inr ⟨h1,rfl,h3⟩)⟩
def cU (d:Nat->Int) (b:Int):Nat->Ls
 | 0=>⟨0,fun _=>0⟩
 | n+1=>if rg b=0 then ⟨0,fun _=>0⟩ else vQ ⟨0,fun _=>0⟩ d b n
def mu (d:Nat->Int) (b:Int):Nat->Bool
 | 0=>true
 | n+1=>if rg b=0 then true else sx d b n
end Go.Proofs.YtcjfonaolcokbaaGreatDoor
namespace Go.Proofs.YtcjfonaolcokbaaGreatDoor
open Go Go.RowKit Go.Proofs.YtcjfonaolcokbaaGreatDoor.M Ieee
end Go.Proofs.YtcjfonaolcokbaaGreatDoor
namespace Go.Proofs.YtcjfonaolcokbaaGreatDoor
open Go Go.RowKit Go.Proofs.YtcjfonaolcokbaaGreatDoor.M
theorem gT.row {B:Nat} {w:World} {v:Value} {s:Ls} (h:gT B w v s):∃ ao cap,v=.slice ao s.n cap∧aQ w ao s.n cap s.d:=by
 rcases h with h | ⟨h0,ad,rfl⟩
 ·exact h.row
 ·rw [h0]
  exact ⟨some ad,0,rfl,Nat.le_refl _,by decide,(fun q=>by cases q),fun q=>by omega⟩
theorem XA.yes {w w':World} {ok:Bool} {s:Ls} {r:Ending} (h:XA w ok s r w') (ho:ok=true):∃ ao cap,r=.returned (.tuple #[.slice ao s.n cap,.int .i64 0])∧aQ w' ao s.n cap s.d∧Below w.heap.size w w':=by
 obtain ⟨(⟨_,v,h1,h2⟩ | ⟨h1,_⟩),hb⟩:=h
 ·obtain ⟨ao,cap,rfl,hR⟩:=h2.row
  exact ⟨ao,cap,h1,hR,hb⟩
 ·rw [ho] at h1; cases h1
theorem XA.no {w w':World} {ok:Bool} {s:Ls} {r:Ending} (h:XA w ok s r w') (ho:ok=false):r=.returned (.tuple #[.slice none 0 0,.int .i64 14])∧Below w.heap.size w w':=by
 obtain ⟨(⟨h1,_⟩ | ⟨_,h1⟩),hb⟩:=h
 ·rw [ho] at h1; cases h1
 ·exact ⟨h1,hb⟩
end Go.Proofs.YtcjfonaolcokbaaGreatDoor
namespace Go.Proofs.YtcjfonaolcokbaaGreatDoor
open Go Go.RowKit Go.Proofs.YtcjfonaolcokbaaGreatDoor.M Ieee
theorem MC {a c B M:Int} (h:(a.natAbs:Int)<=B) (hM:268435455*B<=M):((134217729*a).natAbs:Int)<=M:=by omega
theorem MD {a c B M:Int} (h:(a.natAbs:Int)<=B) (hM:268435455*B<=M) (r:1000*(c-134217729*a).natAbs<=(134217729*a).natAbs):((c-a).natAbs:Int)<=M∧((c-a).natAbs:Int)<=200000000*B:=by omega
theorem ME {a c d B M:Int} (h:(a.natAbs:Int)<=B) (hM:268435455*B<=M) (g:((c-a).natAbs:Int)<=200000000*B) (r:1000*(d-(c-a)).natAbs<=(c-a).natAbs):((c-d).natAbs:Int)<=M∧((c-d).natAbs:Int)<=300000*B:=by omega
theorem MF {a c d x B M:Int} (h:(a.natAbs:Int)<=B) (hM:268435455*B<=M) (g:((c-d).natAbs:Int)<=300000*B) (r:1000*(x-(c-d)).natAbs<=(c-d).natAbs):((a-x).natAbs:Int)<=M:=by omega
theorem yj {p B:Int} (hp:M.aj p) (pp:ak p=true) (h:((iV p).natAbs:Int)<=B) (hM:268435455*B<=ii):ak (fI p)=true:=by
 have rc:M.aj (cC p):=aU lU hp
 have rd:=aH rc (aZ hp)
 have rH:M.aj (gN p):=aH rc (aZ rd)
 have S1:=vI hp pp
 have pc:=S1.fin (MC (c:=0) h hM)
 have r1:=gm (S1.nr pc)
 obtain ⟨g1,g2⟩:=MD h hM r1
 have S2:=bP rc hp pc pp
 have pd:=S2.fin g1
 have r2:=gm (S2.nr pd)
 obtain ⟨g3,g4⟩:=ME h hM g2 r2
 have S3:=bP rc rd pc pd
 have pH:=S3.fin g3
 have r3:=gm (S3.nr pH)
 exact (bP hp rH pp pH).fin (MF h hM g4 r3)
theorem NO {a b h M:Int} (h1:((a.natAbs:Int)+b.natAbs)<=M):((a+b).natAbs:Int)<=M:=by omega
theorem NP {a b h M:Int} (ha:2*(a.natAbs:Int)<=M) (hb:2*(b.natAbs:Int)<=M) (e1:(h-(a+b)).natAbs<=(a-(a+b)).natAbs):((h-a).natAbs:Int)<=M:=by omega
theorem NQ {a b h v M:Int} (ha:2*(a.natAbs:Int)<=M) (e2:(h-(a+b)).natAbs<=(b-(a+b)).natAbs) (e3:(v-(h-a)).natAbs<=(b-(h-a)).natAbs):((h-v).natAbs:Int)<=M:=by omega
theorem NR {a b h v u M:Int} (ha:2*(a.natAbs:Int)<=M) (e2:(h-(a+b)).natAbs<=(b-(a+b)).natAbs) (e3:(v-(h-a)).natAbs<=(b-(h-a)).natAbs) (e4:(u-(h-v)).natAbs<=(a-(h-v)).natAbs):((a-u).natAbs:Int)<=M∧(a-u).natAbs<=2*(h-(a+b)).natAbs:=by omega
theorem NS {a b h v M:Int} (hb:2*(b.natAbs:Int)<=M) (e1:(h-(a+b)).natAbs<=(a-(a+b)).natAbs) (e3:(v-(h-a)).natAbs<=(b-(h-a)).natAbs):((b-v).natAbs:Int)<=M∧(b-v).natAbs<=2*(h-(a+b)).natAbs:=by omega
theorem NT {S h x y p q M:Int} (hM:(S.natAbs:Int)<=M) (r:1000*(h-S).natAbs<=S.natAbs) (g1:x.natAbs<=2*(h-S).natAbs) (g2:y.natAbs<=2*(h-S).natAbs) (n1:(p-x).natAbs<=(0-x).natAbs) (n2:(q-y).natAbs<=(0-y).natAbs):((p+q).natAbs:Int)<=M:=by omega
theorem qQ {p q:Int} (hp:M.aj p) (hq:M.aj q) (pp:ak p=true) (pq:ak q=true) (h1:2*((iV p).natAbs:Int)<=ii) (h2:2*((iV q).natAbs:Int)<=ii):ak (ap p q)=true∧ak (sL p q)=true:=by
 have rh:=aH hp hq
 have rv:M.aj (sV p q):=aH rh (aZ hp)
 have rU:=aH rh (aZ rv)
 have rX:=aH hp (aZ rU)
 have rY:=aH hq (aZ rv)
 have Sh:=eI hp hq pp pq
 have hM:=NO (h:=0) (a:=iV p) (b:=iV q) (M:=ii) (by omega)
 have ph:=Sh.fin hM
 have nh:=Sh.nr ph
 have e1:=nh.2 _ (dE p)
 have e2:=nh.2 _ (dE q)
 have Sv:=bP rh hp ph pp
 have pv:=Sv.fin (NP h1 h2 e1)
 have nv:=Sv.nr pv
 have e3:=nv.2 _ (dE q)
 have SU:=bP rh rv ph pv
 have pU:=SU.fin (NQ h1 e2 e3)
 have e4:=(SU.nr pU).2 _ (dE p)
 have SX:=bP hp rU pp pU
 obtain ⟨g1,g2⟩:=NR h1 e2 e3 e4
 have pX:=SX.fin g1
 have SY:=bP hq rv pq pv
 obtain ⟨g3,g4⟩:=NS h2 e1 e3
 have pY:=SY.fin g3
 exact ⟨ph,(eI rX rY pX pY).fin (NT hM (gm nh) g2 g4 ((SX.nr pX).2 _ co) ((SY.nr pY).2 _ co))⟩
theorem ql {a h l:Int} (H:Ar a h l):67108864*(l.natAbs:Int)<=(a.natAbs:Int):=by
 by_cases h0:a=0
 ·have:=H.zero h0
  have:=H.sum
  omega
 ·obtain ⟨x,j,s,g1,g2⟩:=H.spl h0
  have e:2^x*a-2^x*h=2^x*l:=by rw [<- Int.mul_sub]; congr 1; have:=H.sum; omega
  have u4:=s.low
  rw [e,c7] at u4
  rw [c7] at g1
  have hx:=p2 x
  have hj:=p2 j
  have:(2:Int)^x*(67108864*(l.natAbs:Int))<=2^x*(a.natAbs:Int):=by
   rw [show (2:Int)^x*(67108864*(l.natAbs:Int))=67108864*(2^x*(l.natAbs:Int)) by ac_rfl]
   omega
  exact Int.le_of_mul_le_mul_left this hx
theorem sK {K T U a b x y c:Int} (hK:0<K) (hT:K*T=a*b) (hU:K*U=x*y) (h:c*((x*y).natAbs:Int)<=((a*b).natAbs:Int)):c*(U.natAbs:Int)<=(T.natAbs:Int):=by
 rw [<- hT,<- hU,Int.natAbs_mul,Int.natAbs_mul,Int.natCast_mul,Int.natCast_mul,show ((K.natAbs:Nat):Int)=K by omega,show c*(K*(U.natAbs:Int))=K*(c*(U.natAbs:Int)) by ac_rfl] at h
 exact Int.le_of_mul_le_mul_left h hK
theorem BL {q r a b:Int} (hq:67108864*(q.natAbs:Int)<=(a.natAbs:Int)) (hr:(r.natAbs:Int)<=2*(b.natAbs:Int)):33554432*((q*r).natAbs:Int)<=((a*b).natAbs:Int):=by
 rw [Int.natAbs_mul,Int.natAbs_mul,Int.natCast_mul,Int.natCast_mul]
 have h1:=Int.mul_le_mul hq hr (by omega) (by omega)
 generalize (q.natAbs:Int)=Q at *
 generalize (r.natAbs:Int)=R at *
 generalize (a.natAbs:Int)=A at *
 generalize (b.natAbs:Int)=B at *
 rw [show 67108864*Q*R=67108864*(Q*R) by ac_rfl,show A*(2*B)=2*(A*B) by ac_rfl] at h1
 omega
end Go.Proofs.YtcjfonaolcokbaaGreatDoor
namespace Go.Proofs.YtcjfonaolcokbaaGreatDoor
open Go Go.RowKit Go.Proofs.YtcjfonaolcokbaaGreatDoor.M
theorem tI {b:Int} (hb:aj b):aG b=0 ↔ rg b=0:=by
 have h1:=mO hb
 rw [<- h1]
 constructor
 ·intro h
  have hr:=(fQ hb).1
  have h0:0<=rg b:=(fQ hb).2
  generalize rg b=r at *
  unfold aj at hr
  unfold aG bN cf at h
  split at h
  ·split at h <;> omega
  ·split at h
   ·split at h
    ·omega
    ·omega
   ·omega
 ·intro h; rw [h]; decide
theorem Ls.same.refl (s:Ls):s.same s:=⟨rfl,fun _ _=>rfl⟩
theorem Ls.same.symm {s t:Ls} (h:s.same t):t.same s:=⟨h.1.symm,fun i hi=>(h.2 i (by rw [h.1]; exact hi)).symm⟩
theorem Ls.same.trans {s t u:Ls} (h:s.same t) (k:t.same u):s.same u:=⟨h.1.trans k.1,fun i hi=>(h.2 i hi).trans (k.2 i (by rw [<- h.1]; exact hi))⟩
theorem uQ {d f:Nat->Int} {q:Int} {n:Nat} (h:∀ i,i<n->d i=f i):∀ k,k<=n->gq d q k=gq f q k
 | 0,_=>rfl
 | k+1,hk=>by
  show ap (gq d q k) (d k)=ap (gq f q k) (f k)
  rw [uQ h k (by omega),h k (by omega)]
theorem Aw {d f:Nat->Int} {q:Int} {n:Nat} (h:∀ i,i<n->d i=f i) (k:Nat) (hk:k<n):gl d q k=gl f q k:=by
 unfold gl
 rw [uQ h k (by omega),h k hk]
theorem Ax {d f:Nat->Int} {q:Int} {n:Nat} (h:∀ i,i<n->d i=f i):∀ k,k<=n->gx d q k=gx f q k
 | 0,_=>rfl
 | k+1,hk=>by
  show (gx d q k && ak (gl d q k))=(gx f q k && ak (gl f q k))
  rw [Ax h k (by omega),Aw h k (by omega)]
theorem Ay {d f:Nat->Int} {q:Int} {n:Nat} (h:∀ i,i<n->d i=f i):∀ k,k<=n->(gs d q k).same (gs f q k)
 | 0,_=>⟨rfl,fun i hi=>absurd hi (Nat.not_lt_zero _)⟩
 | k+1,hk=>by
  show ((gs d q k).add (gl d q k)).same ((gs f q k).add (gl f q k))
  rw [Aw h k (by omega)]
  exact (Ay h k (by omega)).add _
theorem Gx {d f:Nat->Int} {q:Int} {n:Nat} (h:∀ i,i<n->d i=f i):(gO n d q).same (gO n f q):=by
 unfold gO
 rw [uQ h n (Nat.le_refl _)]
 exact (Ay h n (Nat.le_refl _)).add _
theorem Az {s t:Ls} (h:s.same t) (d:Nat->Int) (b:Int):∀ k,(ss s d b k).same (ss t d b k)
 | 0=>h.add _
 | k+1=>((Az h d b k).add _).add _
theorem yk {s t:Ls} (h:s.same t) {f g:Nat->Int} {m:Nat} (hf:∀ i,i<m->f i=g i):∀ k,k<=m->(bX s f k).same (bX t g k)∧cO s f k=cO t g k
 | 0,_=>⟨h,rfl⟩
 | k+1,hk=>by
  obtain ⟨h1,h2⟩:=yk h hf k (by omega)
  rw [mq,mq,jG,jG,h2,hf k (by omega),<- h1.1,Ax h1.2 _ (Nat.le_refl _)]
  exact ⟨Gx h1.2,rfl⟩
theorem uR (d:Nat->Int) (b:Int):∀ n,(cU d b n).n<=2*n
 | 0=>Nat.le_refl _
 | n+1=>by
  show (if rg b=0 then (⟨0,fun _=>0⟩:Ls) else vQ ⟨0,fun _=>0⟩ d b n).n<=_
  split
  ·exact Nat.zero_le _
  ·have h1:=BK ⟨0,fun _=>0⟩ d b n
   have h2:=((ss ⟨0,fun _=>0⟩ d b n).add_le (sq d b n)).2
   have h1':(ss ⟨0,fun _=>0⟩ d b n).n<=0+2*n+1:=h1
   show ((ss ⟨0,fun _=>0⟩ d b n).add (sq d b n)).n<=_
   omega
def Lo (x y:Int):Prop:=∃ s:Nat,(x.natAbs:Int)<2^s∧(2^s:Int) ∣ y
theorem ik {x y:Int} (h:x ∣ y) (h0:y≠0) (hx:0<x):x<=(y.natAbs:Int):=by
 have h1:x ∣ (y.natAbs:Int):=Int.dvd_natAbs.2 h
 exact Int.le_of_dvd (by omega) h1
theorem lZ {S x:Int} (n:Nr S x) (hne:x≠S):∃ u:Nat,(2^u:Int) ∣ x∧((S-x).natAbs:Int)<2^u:=by
 obtain ⟨k,h1,h2⟩:=tt (S.natAbs:Int) (by omega)
 rcases h2 with rfl | h2
 ·exfalso
  have:Fl S:=⟨0,⟨S,by simp⟩,by simpa using h1⟩
  exact hne (aY this n)
 ·have f:Fl (4503599627370496*2^k:Int):=by
   have:=tA k (m:=4503599627370496) (by decide)
   exact this
  have h3:=Ny n f h2
  have h4:=lq n (i:=k) (by omega)
  have p:=p2 k
  exact ⟨k,ml n.1 h3,by omega⟩
theorem qR {a b x:Int} (ha:Fl a) (n:Nr (a+b) x):(a+b-x).natAbs<=b.natAbs:=by
 have:=n.2 a ha
 omega
theorem Lo.trans {x y z:Int} (h:Lo x y) (hy:y≠0) (k:Lo y z):Lo x z:=by
 obtain ⟨s,h1,h2⟩:=h
 obtain ⟨t,k1,k2⟩:=k
 have h3:=ik h2 hy (p2 s)
 have h4:s<t:=oN (Int.lt_of_le_of_lt h3 k1)
 exact ⟨s,h1,Int.dvd_trans (ct (by omega)) k2⟩
theorem vT {b:Int} (hb:aj b) (h:rg b=0):iV b=0:=by
 have:=ix b
 rw [h] at this
 have h2:(V Ieee.double (0:Int).toNat:Int)=0:=by decide +kernel
 omega
theorem gU {b:Int} (hb:aj b) (pb:ak b=true) (h:rg b≠0):iV b≠0∧aK b≠0:=by
 have e:=iz hb pb
 have hm:aK b≠0:=by
  intro q
  have hc:aG b=0:=by
   have hf:bN b≠2047:=by simpa [ak] using pb
   have:=pD b
   unfold aK at q
   rw [if_neg hf] at q
   unfold aG
   rw [if_neg hf]
   by_cases h0:bN b=0
   ·rw [if_pos h0] at q ⊢
    rw [if_pos q]
   ·rw [if_neg h0] at q
    omega
  exact h ((tI hb).1 hc)
 refine ⟨fun q=>?_,hm⟩
 obtain ⟨i0,_⟩:=eE pb
 have p1:=aO (bi b+1074).toNat
 have:0<aK b*2^(bi b+1074).toNat:=Int.mul_pos (by omega) p1
 rw [q] at e
 omega
theorem AC {s t:Nat} {m:Int} (h:(2^s:Int) ∣ 2^t*(2*m+1)):s<=t:=by
 apply Classical.byContradiction
 intro hn
 obtain ⟨r,rfl⟩:∃ r,s=t+1+r:=⟨s-t-1,by omega⟩
 obtain ⟨c,hc⟩:=h
 rw [Int.pow_add,Int.pow_add,Int.mul_assoc,Int.mul_assoc] at hc
 have:=Int.eq_of_mul_eq_mul_left (Int.ne_of_gt (aO t)) hc
 omega
theorem KX {a b:Int} (ha:aj a) (hb:aj b) (pa:ak a=true) (pb:ak b=true) (ma:aK a≠0) (mb:aK b≠0):(bi a+bh (aK a)<=bi b+jz (aK b)) ↔ Lo (iV a) (iV b):=by
 obtain ⟨i0,i1,i2,i3⟩:=eE pa
 obtain ⟨j0,j1,j2,j3⟩:=eE pb
 obtain ⟨m,hm,_,_⟩:=fV (show 0<aK b by omega) (by omega)
 have e1:=iz ha pa
 have e2:=iz hb pb
 have hl:=nG (aK a)
 obtain ⟨_,hg⟩:=iP (show 0<aK a by omega)
 have hb1:1<=bh (aK a):=(iP (show 0<aK a by omega)).1
 have p1:=aO (bi a+1074).toNat
 have p2':=aO (bi b+1074).toNat
 have s1:aK a*2^(bi a+1074).toNat<2^bh (aK a)*2^(bi a+1074).toNat:=Int.mul_lt_mul_of_pos_right hl p1
 rw [<- Int.pow_add] at s1
 have s2:(2:Int)^(bh (aK a)-1)*2^(bi a+1074).toNat<=aK a*2^(bi a+1074).toNat:=Int.mul_le_mul_of_nonneg_right hg (by omega)
 rw [<- Int.pow_add] at s2
 have e3:((iV b).natAbs:Int)=2^(jz (aK b)+(bi b+1074).toNat)*(2*(m:Int)+1):=by
  rw [e2,Int.pow_add]
  calc aK b*2^(bi b+1074).toNat=2^jz (aK b)*(2*(m:Int)+1)*2^(bi b+1074).toNat:=by rw [<- hm]
   _=_:=by rw [Int.mul_assoc,Int.mul_comm (2*(m:Int)+1),<- Int.mul_assoc]
 constructor
 ·intro h
  refine ⟨bh (aK a)+(bi a+1074).toNat,by rw [e1]; exact s1,?_⟩
  apply Int.dvd_natAbs.1
  rw [e3]
  exact Int.dvd_trans (ct (by omega)) ⟨_,rfl⟩
 ·rintro ⟨s,h1,h2⟩
  have h3:(2^s:Int) ∣ 2^(jz (aK b)+(bi b+1074).toNat)*(2*(m:Int)+1):=by
   rw [<- e3]
   exact Int.dvd_natAbs.2 h2
  have h4:=AC h3
  rw [e1] at h1
  have h5:=oN (Int.lt_of_le_of_lt s2 h1)
  omega
structure XV (d:Nat->Int) (n:Nat):Prop where
 fin:∀ i,i<n->aj (d i)∧ak (d i)=true∧rg (d i)≠0
 lo:∀ i,i+1<n->Lo (iV (d i)) (iV (d (i+1)))
theorem XV.ne {d:Nat->Int} {n:Nat} (h:XV d n) {i:Nat} (hi:i<n):iV (d i)≠0:=(gU (h.fin i hi).1 (h.fin i hi).2.1 (h.fin i hi).2.2).1
theorem l5 {d:Nat->Int}:∀ {n},XV d n->gJ d n=true
 | 0,_=>rfl
 | n+1,h=>by
  have ih:gJ d n=true:=l5 ⟨fun i hi=>h.fin i (by omega),fun i hi=>h.lo i (by omega)⟩
  rw [lr,ih,Bool.true_and]
  obtain ⟨r,p,z⟩:=h.fin n (by omega)
  have hm:=(gU r p z).2
  have hx:=qP (d n)
  unfold Av
  have hz:decide (aK (d n)=0)=false:=decide_eq_false hm
  rw [hz]
  cases n with
  | zero=>
   have:qj d 0=-9223372036854775808:=rfl
   rw [this]
   have:¬ (bi (d 0)+jz (aK (d 0)) < -9223372036854775808):=by omega
   simp [this]
  | succ j=>
   have e:qj d (j+1)=bi (d j)+bh (aK (d j)):=rfl
   obtain ⟨r',p',z'⟩:=h.fin j (by omega)
   have:=(KX r' r p' p (gU r' p' z').2 hm).2 (h.lo j (by omega))
   rw [e]
   have:¬ (bi (d (j+1))+jz (aK (d (j+1)))<bi (d j)+bh (aK (d j))):=by omega
   simp [this]
theorem XV.far {d:Nat->Int} {n:Nat} (h:XV d n) {i:Nat}:∀ {j},i<j->j<n->Lo (iV (d i)) (iV (d j))
 | 0,hij,_=>absurd hij (Nat.not_lt_zero _)
 | j+1,hij,hj=>by
  by_cases e:i=j
  ·subst e; exact h.lo i hj
  ·exact (h.far (show i<j by omega) (by omega)).trans (h.ne (by omega)) (h.lo j hj)
structure GI (d:Nat->Int) (q:Int) (n k:Nat):Prop where
 xv:XV (gs d q k).d (gs d q k).n
 up:∀ i,i<(gs d q k).n->∃ s:Nat,((iV ((gs d q k).d i)).natAbs:Int)<2^s∧(2^s:Int) ∣ iV (gq d q k)∧∀ j,k<=j->j<n->(2^s:Int) ∣ iV (d j)
theorem XV.add {s:Ls} (h:XV s.d s.n) {b:Int} (hb:aj b) (pb:ak b=true) (hlo:∀ i,i<s.n->Lo (iV (s.d i)) (iV b)):XV (s.add b).d (s.add b).n:=by
 unfold Ls.add
 split
 ·exact h
 ·rename_i hz
  refine ⟨fun i hi=>?_,fun i hi=>?_⟩
  ·show aj (b7 s.d s.n b i)∧ak (b7 s.d s.n b i)=true∧rg (b7 s.d s.n b i)≠0
   by_cases e:i=s.n
   ·subst e; rw [bt]; exact ⟨hb,pb,hz⟩
   ·rw [aV _ _ e]; exact h.fin i (by have:i<s.n+1:=hi; omega)
  ·have hi':i+1<s.n+1:=hi
   show Lo (iV (b7 s.d s.n b i)) (iV (b7 s.d s.n b (i+1)))
   rw [aV _ _ (show i≠s.n by omega)]
   by_cases e:i+1=s.n
   ·rw [e,bt]; exact hlo i (by omega)
   ·rw [aV _ _ e]; exact h.lo i (by omega)
theorem kN {p q:Int} (hp:aj p) (hq:aj q) (h:ak (sL p q)=true):Nr (iV p+iV q) (iV (ap p q)):=by
 obtain ⟨⟨pp,pq⟩,ps,e⟩:=ij hp hq h
 exact (eI hp hq pp pq).nr ps
theorem JC {d:Nat->Int} {q:Int} {n k:Nat} (hd:XV d n) (hq:aj q) (pq:ak q=true) (hk:k<n) (hx:gx d q (k+1)=true) (h:GI d q n k):GI d q n (k+1):=by
 have hfin:∀ i,i<n->aj (d i)∧ak (d i)=true:=fun i hi=>⟨(hd.fin i hi).1,(hd.fin i hi).2.1⟩
 have hx':(gx d q k && ak (gl d q k))=true:=hx
 rw [Bool.and_eq_true] at hx'
 obtain ⟨r1,r2⟩:=ju hfin hq pq k (by omega) hx'.1
 obtain ⟨d1,d2⟩:=hfin k hk
 have hl:ak (sL (gq d q k) (d k))=true:=hx'.2
 obtain ⟨_,ps,e⟩:=ij r1 d1 hl
 have nr:=kN r1 d1 hl
 have rl:aj (gl d q k):=jt r1 d1
 have eq1:gq d q (k+1)=ap (gq d q k) (d k):=rfl
 have egl:gl d q k=sL (gq d q k) (d k):=rfl
 have es:gs d q (k+1)=(gs d q k).add (gl d q k):=rfl
 rw [<- egl,<- eq1] at e
 rw [<- eq1] at nr
 have herr:iV (gl d q k)=iV (gq d q k)+iV (d k)-iV (gq d q (k+1)):=by omega
 have hold:∀ i,i<(gs d q k).n->∃ s:Nat,((iV ((gs d q k).d i)).natAbs:Int)<2^s∧(2^s:Int) ∣ iV (gq d q (k+1))∧(2^s:Int) ∣ iV (gl d q k)∧∀ j,k+1<=j->j<n->(2^s:Int) ∣ iV (d j):=fun i hi=>by
  obtain ⟨s,h1,h2,h3⟩:=h.up i hi
  have h4:(2^s:Int) ∣ iV (gq d q k)+iV (d k):=Int.dvd_add h2 (h3 k (Nat.le_refl _) hk)
  have h5:=gk nr h4
  exact ⟨s,h1,h5,by rw [herr]; exact Int.dvd_sub h4 h5,fun j hj hjn=>h3 j (by omega) hjn⟩
 have hnew:rg (gl d q k)≠0->∃ s:Nat,((iV (gl d q k)).natAbs:Int)<2^s∧(2^s:Int) ∣ iV (gq d q (k+1))∧∀ j,k+1<=j->j<n->(2^s:Int) ∣ iV (d j):=fun hz=>by
  have hne:=(gU rl hx'.2 hz).1
  obtain ⟨u,h1,h2⟩:=lZ nr (fun c=>hne (by rw [herr,c]; omega))
  rw [<- herr] at h2
  by_cases hlast:k+1<n
  ·obtain ⟨t,k1,k2⟩:=hd.lo k hlast
   have h3:=qR (dE (gq d q k)) nr
   rw [<- herr] at h3
   have hup:∀ j,k+1<=j->j<n->(2^t:Int) ∣ iV (d j):=fun j hj hjn=>by
    by_cases e:j=k+1
    ·subst e; exact k2
    ·obtain ⟨t2,m1,m2⟩:=hd.far (show k+1<j by omega) hjn
     have h4:=ik k2 (hd.ne hlast) (p2 t)
     have h5:t<t2:=oN (Int.lt_of_le_of_lt h4 m1)
     exact Int.dvd_trans (ct (by omega)) m2
   by_cases hut:u<=t
   ·exact ⟨u,h2,h1,fun j hj hjn=>Int.dvd_trans (ct hut) (hup j hj hjn)⟩
   ·exact ⟨t,by omega,Int.dvd_trans (ct (by omega)) h1,hup⟩
  ·exact ⟨u,h2,h1,fun j hj hjn=>by omega⟩
 refine ⟨?_,?_⟩
 ·rw [es]
  exact h.xv.add rl hx'.2 fun i hi=>by
   obtain ⟨s,h1,_,h3,_⟩:=hold i hi
   exact ⟨s,h1,h3⟩
 ·rw [es]
  intro i hi
  by_cases hz:rg (gl d q k)=0
  ·have ea:(gs d q k).add (gl d q k)=gs d q k:=by unfold Ls.add; rw [if_pos hz]
   rw [ea] at hi ⊢
   obtain ⟨s,h1,h2,_,h4⟩:=hold i hi
   exact ⟨s,h1,h2,h4⟩
  ·have ea:(gs d q k).add (gl d q k)=⟨(gs d q k).n+1,b7 (gs d q k).d (gs d q k).n (gl d q k)⟩:=by unfold Ls.add; rw [if_neg hz]
   rw [ea] at hi ⊢
   have hi':i<(gs d q k).n+1:=hi
   show ∃ s:Nat,((iV (b7 (gs d q k).d (gs d q k).n (gl d q k) i)).natAbs:Int)<2^s∧_
   by_cases e:i=(gs d q k).n
   ·subst e
    rw [bt]
    exact hnew hz
   ·rw [aV _ _ e]
    obtain ⟨s,h1,h2,_,h4⟩:=hold i (by omega)
    exact ⟨s,h1,h2,h4⟩
theorem yl {d:Nat->Int} {q:Int} {n:Nat} (hd:XV d n) (hq:aj q) (pq:ak q=true):∀ k,k<=n->gx d q k=true->GI d q n k
 | 0,_,_=>⟨⟨fun i hi=>absurd hi (Nat.not_lt_zero _),fun i hi=>absurd hi (Nat.not_lt_zero _)⟩,fun i hi=>absurd hi (Nat.not_lt_zero _)⟩
 | k+1,hk,hx=>by
  have hx':(gx d q k && ak (gl d q k))=true:=hx
  rw [Bool.and_eq_true] at hx'
  exact JC hd hq pq (by omega) hx (yl hd hq pq k (by omega) hx'.1)
theorem KY {d:Nat->Int} {q:Int} {n:Nat} (hd:XV d n) (hq:aj q) (pq:ak q=true) (hx:gx d q n=true):XV (gO n d q).d (gO n d q).n:=by
 have hfin:∀ i,i<n->aj (d i)∧ak (d i)=true:=fun i hi=>⟨(hd.fin i hi).1,(hd.fin i hi).2.1⟩
 obtain ⟨r1,r2⟩:=ju hfin hq pq n (Nat.le_refl _) hx
 have h:=yl hd hq pq n (Nat.le_refl _) hx
 exact h.xv.add r1 r2 fun i hi=>by
  obtain ⟨s,h1,h2,_⟩:=h.up i hi
  exact ⟨s,h1,h2⟩
def cu (d:Nat->Int):Nat->Int
 | 0=>0
 | k+1=>cu d k+iV (d k)
theorem eZ (d:Nat->Int) (k:Nat):cu d (k+1)=cu d k+iV (d k):=rfl
theorem vU {d e:Nat->Int}:∀ {n},(∀ i,i<n->d i=e i)->cu d n=cu e n
 | 0,_=>rfl
 | n+1,h=>by rw [eZ,eZ,vU fun i hi=>h i (by omega),h n (by omega)]
theorem jf {s:Ls} {b:Int} (hb:aj b):cu (s.add b).d (s.add b).n=cu s.d s.n+iV b:=by
 unfold Ls.add
 split
 ·rename_i hz
  rw [vT hb hz,Int.add_zero]
 ·show cu (b7 s.d s.n b) s.n+iV (b7 s.d s.n b s.n)=_
  rw [bt,vU (e:=s.d) fun i hi=>aV _ _ (by omega)]
theorem ym {d:Nat->Int} {q:Int} {n:Nat} (hd:∀ i,i<n->aj (d i)∧ak (d i)=true) (hq:aj q) (pq:ak q=true):∀ k,k<=n->gx d q k=true->cu (gs d q k).d (gs d q k).n+iV (gq d q k)=iV q+cu d k
 | 0,_,_=>by show 0+iV q=iV q+0; omega
 | k+1,hk,hx=>by
  have hx':(gx d q k && ak (gl d q k))=true:=hx
  rw [Bool.and_eq_true] at hx'
  have ih:=ym hd hq pq k (by omega) hx'.1
  obtain ⟨r1,r2⟩:=ju hd hq pq k (by omega) hx'.1
  obtain ⟨d1,d2⟩:=hd k (by omega)
  have rl:aj (gl d q k):=jt r1 d1
  obtain ⟨_,ps,e⟩:=ij r1 d1 (show ak (sL (gq d q k) (d k))=true from hx'.2)
  have eq1:gq d q (k+1)=ap (gq d q k) (d k):=rfl
  have egl:gl d q k=sL (gq d q k) (d k):=rfl
  have es:gs d q (k+1)=(gs d q k).add (gl d q k):=rfl
  rw [<- egl,<- eq1] at e
  rw [es,jf rl,eZ]
  omega
theorem JD {d:Nat->Int} {q:Int} {n:Nat} (hd:∀ i,i<n->aj (d i)∧ak (d i)=true) (hq:aj q) (pq:ak q=true) (hx:gx d q n=true):cu (gO n d q).d (gO n d q).n=iV q+cu d n:=by
 have h:=ym hd hq pq n (Nat.le_refl _) hx
 obtain ⟨r1,r2⟩:=ju hd hq pq n (Nat.le_refl _) hx
 show cu ((gs d q n).add (gq d q n)).d ((gs d q n).add (gq d q n)).n=_
 rw [jf r1]
 exact h
theorem uS {x u t:Int} {s:Nat} (hs:(2^s:Int) ∣ x) (hu:(2^s:Int) ∣ t) (h:(x.natAbs:Int)<t):(x.natAbs:Int)+2^s<=t:=by
 obtain ⟨a,ha⟩:=Int.dvd_natAbs.2 hs
 obtain ⟨b,hb⟩:=hu
 have p:=p2 s
 rw [ha,hb] at h ⊢
 have:a<b:=Int.lt_of_mul_lt_mul_left h (Int.le_of_lt p)
 have h2:(2:Int)^s*(a+1)<=2^s*b:=Int.mul_le_mul_of_nonneg_left (by omega) (Int.le_of_lt p)
 rw [Int.mul_add,Int.mul_one] at h2
 exact h2
theorem mv {d:Nat->Int}:∀ {n},XV d (n+1)->∀ t:Nat,((iV (d n)).natAbs:Int)<2^t->((cu d (n+1)).natAbs:Int)<2^t
 | 0,h,t,ht=>by
  have:cu d 1=iV (d 0):=by rw [eZ]; show 0+_=_; omega
  rw [this]; exact ht
 | n+1,h,t,ht=>by
  obtain ⟨s,h1,h2⟩:=h.lo n (by omega)
  have ih:=mv (n:=n) ⟨fun i hi=>h.fin i (by omega),fun i hi=>h.lo i (by omega)⟩ s h1
  have hge:=ik h2 (h.ne (by omega)) (p2 s)
  have hst:s<t:=oN (Int.lt_of_le_of_lt hge ht)
  have h3:=uS (u:=0) h2 (ct (show s<=t by omega)) ht
  rw [eZ]
  omega
theorem fY:(2:Int)^2097<=ii:=by
 have h:(2:Int)^2097<=(V Ieee.double 9218868437227405311:Int):=by decide +kernel
 exact h
theorem lO {b c:Nat} {x:Int} (h:(x.natAbs:Int)<=2^b) (hbc:b<=c):(x.natAbs:Int)<=2^c:=Int.le_trans h (eY hbc)
def LB (s:Ls) (b:Nat):Prop:=∀ i,i<s.n->((iV (s.d i)).natAbs:Int)<=2^b
theorem LB.add {s:Ls} {b:Nat} (h:LB s b) {x:Int} (hx:((iV x).natAbs:Int)<=2^b):LB (s.add x) b:=by
 unfold Ls.add
 split
 ·exact h
 ·intro i hi
  show ((iV (b7 s.d s.n x i)).natAbs:Int)<=_
  by_cases e:i=s.n
  ·subst e; rw [bt]; exact hx
  ·rw [aV _ _ e]; exact h i (by have:i<s.n+1:=hi; omega)
theorem XV.fn {s:Ls} (h:XV s.d s.n):s.fin:=fun i hi=>⟨(h.fin i hi).1,(h.fin i hi).2.1⟩
theorem AD {f:Nat->Int}:∀ {m},(∀ i,i<m->aj (f i)∧ak (f i)=true)->cu (fun i=>neg (f i)) m=-cu f m
 | 0,_=>rfl
 | m+1,h=>by
  rw [eZ,eZ,AD fun i hi=>h i (by omega),(bS (h m (by omega)).1 (h m (by omega)).2).2.2]
  omega
def vV (d T:Nat->Int) (b:Int) (n:Nat):Prop:=∀ j,j<n->2^1074*T j=iV (d j)*iV b
def vW (T:Nat->Int):Nat->Int
 | 0=>0
 | k+1=>vW T k+T k
theorem oT (T:Nat->Int) (k:Nat):vW T (k+1)=vW T k+T k:=rfl
theorem mw {d T:Nat->Int} {b:Int} {n:Nat} (h:vV d T b n):∀ k,k<=n->2^1074*vW T k=cu d k*iV b
 | 0,_=>by show 2^1074*(0:Int)=0*iV b; rw [Int.mul_zero,Int.zero_mul]
 | k+1,hk=>by rw [oT,eZ,Int.mul_add,Int.add_mul,mw h k (by omega),h k (by omega)]
theorem D9 {t B:Nat} {x b T:Int} (hx:(2^t:Int) ∣ x) (hb:(2^B:Int) ∣ b) (hT:2^1074*T=x*b):(2^(t+B-1074):Int) ∣ T:=by
 by_cases h:t+B<=1074
 ·rw [Nat.sub_eq_zero_of_le h,Int.pow_zero]; exact Int.one_dvd _
 ·obtain ⟨a,ha⟩:=hx
  obtain ⟨c,hc⟩:=hb
  refine ⟨a*c,?_⟩
  have e:(2:Int)^1074*T=2^1074*(2^(t+B-1074)*(a*c)):=by
   rw [hT,ha,hc,<- Int.mul_assoc (2^1074),<- Int.pow_add,show 1074+(t+B-1074)=t+B by omega,Int.pow_add]
   generalize (2:Int)^t=X
   generalize (2:Int)^B=Y
   grind
  exact Int.eq_of_mul_eq_mul_left (Int.ne_of_gt (p2 1074)) e
theorem KZ {b:Int} {B:Nat} (h1:(2^B:Int) ∣ b) (h2:(b.natAbs:Int)<9007199254740992*2^B):(b.natAbs:Int)<=9007199254740991*2^B:=by
 have h3:=uS (u:=0) h1 (⟨9007199254740992,by rw [Int.mul_comm]⟩:(2^B:Int) ∣ 9007199254740992*2^B) h2
 generalize (2:Int)^B=Y at *
 omega
theorem JE {A C X Y M:Int} (hA:0<=A) (hC:0<=C) (h1:A<=X-1) (h2:C<=M*Y) (hM:0<M) (hY:0<Y):A*C<X*Y*M:=by
 have e1:A*C<=(X-1)*C:=Int.mul_le_mul_of_nonneg_right h1 hC
 have e2:(X-1)*C<=(X-1)*(M*Y):=Int.mul_le_mul_of_nonneg_left h2 (by omega)
 have e3:0<M*Y:=Int.mul_pos hM hY
 have e4:(X-1)*(M*Y)=X*Y*M-M*Y:=by grind
 omega
theorem nN {t B:Nat} {x b T:Int} (hx:(x.natAbs:Int)<2^t) (h1:(2^B:Int) ∣ b) (h2:(b.natAbs:Int)<9007199254740992*2^B) (hT:2^1074*T=x*b):(T.natAbs:Int)<9007199254740991*2^(t+B-1074):=by
 have h3:=KZ h1 h2
 have e1:((2^1074*T).natAbs:Int)=2^1074*(T.natAbs:Int):=c7 1074 T
 have e2:((x*b).natAbs:Int)=(x.natAbs:Int)*(b.natAbs:Int):=by rw [Int.natAbs_mul,Int.natCast_mul]
 have e3:=JE (A:=(x.natAbs:Int)) (C:=(b.natAbs:Int)) (X:=2^t) (Y:=2^B) (M:=9007199254740991) (by omega) (by omega) (by omega) h3 (by decide) (p2 B)
 rw [<- e2,<- hT,e1,<- Int.pow_add] at e3
 have e4:(2:Int)^(t+B)<=2^(1074+(t+B-1074)):=eY (by omega)
 rw [Int.pow_add 2 1074] at e4
 have e5:(2:Int)^(t+B)*9007199254740991<=2^1074*2^(t+B-1074)*9007199254740991:=Int.mul_le_mul_of_nonneg_right e4 (by decide)
 have e6:(2:Int)^1074*(T.natAbs:Int)<2^1074*(9007199254740991*2^(t+B-1074)):=by
  refine Int.lt_of_lt_of_le e3 (Int.le_trans e5 ?_)
  rw [Int.mul_assoc,Int.mul_comm (2^(t+B-1074)) 9007199254740991]
  exact Int.le_refl _
 exact Int.lt_of_mul_lt_mul_left e6 (Int.le_of_lt (p2 1074))
theorem iA {L:Ls} {l:Int} (P:Int->Prop) (h:∀ i,i<L.n->P (L.d i)) (hl:rg l≠0->P l):∀ i,i<(L.add l).n->P ((L.add l).d i):=by
 intro i
 unfold Ls.add
 split
 ·exact h i
 ·rename_i hz
  intro hi
  have hi':i<L.n+1:=hi
  show P (b7 L.d L.n l i)
  by_cases e:i=L.n
  ·subst e; rw [bt]; exact hl hz
  ·rw [aV _ _ e]; exact h i (by omega)
theorem qS {d:Nat->Int} {n t:Nat} (h:XV d n) (ht:∀ i,i<n->((iV (d i)).natAbs:Int)<2^t):((cu d n).natAbs:Int)<2^t:=by
 cases n with
 | zero=>have:=p2 t; show (((0:Int).natAbs:Nat):Int)<_; omega
 | succ n=>exact mv h t (ht n (by omega))
structure SI (d T:Nat->Int) (B N k:Nat) (L:Ls) (q:Int):Prop where
 xv:XV L.d L.n
 sum:cu L.d L.n+iV q=vW T (k+1)
 up:∀ i,i<L.n->∃ s:Nat,((iV (L.d i)).natAbs:Int)<2^s∧(2^s:Int) ∣ iV q∧∀ j,k<j->j<=N->(2^s:Int) ∣ T j
 small:∀ t:Nat,((iV (d k)).natAbs:Int)<2^t->∀ i,i<L.n->((iV (L.d i)).natAbs:Int)<2^(t+B-1074)
theorem uU {d T:Nat->Int} {b:Int} {B N k:Nat} (hd:XV d (N+1)) (hB1:(2^B:Int) ∣ iV b) (hT:vV d T b (N+1)) (hk:k<=N):∃ t:Nat,((iV (d k)).natAbs:Int)<2^t∧∀ j,k<j->j<=N->(2^(t+B-1074):Int) ∣ T j:=by
 by_cases h:k<N
 ·obtain ⟨t,k1,k2⟩:=hd.lo k (by omega)
  refine ⟨t,k1,fun j hj hjn=>D9 ?_ hB1 (hT j (by omega))⟩
  by_cases e:j=k+1
  ·subst e; exact k2
  ·obtain ⟨t2,m1,m2⟩:=hd.far (show k+1<j by omega) (by omega)
   have h4:=ik k2 (hd.ne (by omega)) (p2 t)
   have h5:t<t2:=oN (Int.lt_of_le_of_lt h4 m1)
   exact Int.dvd_trans (ct (by omega)) m2
 ·refine ⟨(iV (d k)).natAbs,?_,fun j hj hjn=>by omega⟩
  have:(iV (d k)).natAbs<2^(iV (d k)).natAbs:=Nat.lt_two_pow_self
  have h2:(((iV (d k)).natAbs:Nat):Int)<((2^(iV (d k)).natAbs:Nat):Int):=by omega
  rwa [Il] at h2
theorem qT {x:Int} {g:Nat} (h:2*(x.natAbs:Int)<=2^g):(x.natAbs:Int)<2^g:=by
 have:=p2 g
 omega
theorem lP {x b T:Int} (rx:aj x) (rb:aj b) (hx:pX x b=true) (hT:2^1074*T=iV x*iV b):ak (aq x b)=true∧ak (bm x b)=true∧iV (aq x b)+iV (bm x b)=T∧Nr T (iV (aq x b)):=by
 unfold pX at hx
 rw [Bool.and_eq_true] at hx
 obtain ⟨⟨px,pb⟩,pf,e⟩:=vM rx rb hx.1 hT
 exact ⟨pf,hx.1,e,(dq rx rb px pb hT).nr pf⟩
theorem JF {d T:Nat->Int} {b:Int} {B N:Nat} (hd:XV d (N+1)) (rb:aj b) (hB1:(2^B:Int) ∣ iV b) (hB2:((iV b).natAbs:Int)<9007199254740992*2^B) (hT:vV d T b (N+1)) (hx:pX (d 0) b=true):SI d T B N 0 ((⟨0,fun _=>0⟩:Ls).add (bm (d 0) b)) (aq (d 0) b):=by
 obtain ⟨r0,p0,z0⟩:=hd.fin 0 (by omega)
 obtain ⟨pf,pl,e,nr⟩:=lP r0 rb hx (hT 0 (by omega))
 have rl:=dU r0 rb
 have small:∀ t:Nat,((iV (d 0)).natAbs:Int)<2^t->((iV (bm (d 0) b)).natAbs:Int)<2^(t+B-1074):=fun t ht=>by
  have h1:=nN ht hB1 hB2 (hT 0 (by omega))
  have h2:=lq nr (i:=t+B-1074) (by have:=p2 (t+B-1074); omega)
  have h3:iV (bm (d 0) b)=T 0-iV (aq (d 0) b):=by omega
  refine qT ?_
  rw [h3]
  omega
 refine ⟨XV.add ⟨fun i hi=>absurd hi (Nat.not_lt_zero _),fun i hi=>absurd hi (Nat.not_lt_zero _)⟩ rl pl (fun i hi=>absurd hi (Nat.not_lt_zero _)),?_,?_,fun t ht=>iA (fun x=>((iV x).natAbs:Int)<2^(t+B-1074)) (fun i hi=>absurd hi (Nat.not_lt_zero _)) fun _=>small t ht⟩
 ·rw [jf rl,oT]
  show (0:Int)+_+_=0+_
  omega
 ·refine iA (fun x=>∃ s:Nat,((iV x).natAbs:Int)<2^s∧(2^s:Int) ∣ iV (aq (d 0) b)∧∀ j,0<j->j<=N->(2^s:Int) ∣ T j) (fun i hi=>absurd hi (Nat.not_lt_zero _)) fun hz=>?_
  have hne:=(gU rl pl hz).1
  obtain ⟨u,h1,h2⟩:=lZ nr (fun c=>hne (by omega))
  obtain ⟨t,k1,k2⟩:=uU hd hB1 hT (k:=0) (by omega)
  have h3:=small t k1
  have h4:iV (bm (d 0) b)=T 0-iV (aq (d 0) b):=by omega
  rw [<- h4] at h2
  by_cases hut:u<=t+B-1074
  ·exact ⟨u,h2,h1,fun j hj hjn=>Int.dvd_trans (ct hut) (k2 j hj hjn)⟩
  ·exact ⟨t+B-1074,h3,Int.dvd_trans (ct (by omega)) h1,k2⟩
theorem JG {d T:Nat->Int} {b:Int} {B N k:Nat} (hd:XV d (N+1)) (rb:aj b) (hB1:(2^B:Int) ∣ iV b) (hB2:((iV b).natAbs:Int)<9007199254740992*2^B) (hT:vV d T b (N+1)) (hk:k<N) {L:Ls} {q:Int} (rq:aj q) (pq:ak q=true) (h:SI d T B N k L q)
    (hx1:pX (d (k+1)) b=true) (hx2:ak (sL q (bm (d (k+1)) b))=true) (hx3:fX (aq (d (k+1)) b) (ap q (bm (d (k+1)) b))=true) :
    SI d T B N (k+1) ((L.add (sL q (bm (d (k+1)) b))).add (fL (aq (d (k+1)) b) (ap q (bm (d (k+1)) b)))) (ap (aq (d (k+1)) b) (ap q (bm (d (k+1)) b))):=by
  obtain ⟨rx,px,zx⟩:=hd.fin (k+1) (by omega)
  have xne:=hd.ne (show k+1<N+1 by omega)
  have hTk:=hT (k+1) (by omega)
  obtain ⟨pT,pu,eT,nT⟩:=lP rx rb hx1 hTk
  have ru:=dU rx rb
  have rT:=aU rx rb
  have n1:=kN rq ru hx2
  obtain ⟨_,p1,e1⟩:=ij rq ru hx2
  have r1:=aH rq ru
  have rl1:aj (sL q (bm (d (k+1)) b)):=jt rq ru
  obtain ⟨p2',pl2⟩:=yb rT r1 hx3
  have e2:iV (ap (aq (d (k+1)) b) (ap q (bm (d (k+1)) b)))+iV (fL (aq (d (k+1)) b) (ap q (bm (d (k+1)) b)))=iV (aq (d (k+1)) b)+iV (ap q (bm (d (k+1)) b)):=by
    have:=DP rT r1 pl2
    rw [hx3] at this
    exact of_decide_eq_true this.symm
  have n2:=(eI rT r1 pT p1).nr p2'
  have rl2:aj (fL (aq (d (k+1)) b) (ap q (bm (d (k+1)) b))):=xR rT r1
  obtain ⟨hxv,hsum,hup,hsmall⟩:=h
  have hl1:=qR (dE q) n1
  generalize fL (aq (d (k+1)) b) (ap q (bm (d (k+1)) b))=l2 at *
  generalize ap (aq (d (k+1)) b) (ap q (bm (d (k+1)) b))=q2 at *
  generalize sL q (bm (d (k+1)) b)=l1 at *
  generalize ap q (bm (d (k+1)) b)=q1 at *
  generalize bm (d (k+1)) b=u at *
  generalize aq (d (k+1)) b=Tp at *
  have eu:iV u=T (k+1)-iV Tp:=by omega
  have el1:iV l1=iV q+iV u-iV q1:=by omega
  have el2:iV l2=iV Tp+iV q1-iV q2:=by omega
  rw [<- el1] at hl1
  have hold:∀ i,i<L.n->∃ s:Nat,((iV (L.d i)).natAbs:Int)<2^s∧(2^s:Int) ∣ iV l1∧(2^s:Int) ∣ iV l2∧(2^s:Int) ∣ iV q2∧∀ j,k+1<j->j<=N->(2^s:Int) ∣ T j:=fun i hi=>by
    obtain ⟨s,h1,h2,h3⟩:=hup i hi
    have d1:=h3 (k+1) (by omega) (by omega)
    have d2:=gk nT d1
    have d3:(2^s:Int) ∣ iV u:=by rw [eu]; exact Int.dvd_sub d1 d2
    have d4:(2^s:Int) ∣ iV q+iV u:=Int.dvd_add h2 d3
    have d5:=gk n1 d4
    have d6:(2^s:Int) ∣ iV Tp+iV q1:=Int.dvd_add d2 d5
    have d7:=gk n2 d6
    exact ⟨s,h1,by rw [el1]; exact Int.dvd_sub d4 d5,by rw [el2]; exact Int.dvd_sub d6 d7,d7,fun j hj hjn=>h3 j (by omega) hjn⟩
  have hxv1:XV (L.add l1).d (L.add l1).n:=hxv.add rl1 hx2 fun i hi=>by
    obtain ⟨s,h1,h2,_⟩:=hold i hi
    exact ⟨s,h1,h2⟩
  have hu:∀ t:Nat,((iV (d (k+1))).natAbs:Int)<2^t->2*((iV u).natAbs:Int)<=2^(t+B-1074):=fun t ht=>by
    have h1:=nN ht hB1 hB2 hTk
    have h2:=lq nT (i:=t+B-1074) (by have:=p2 (t+B-1074); omega)
    rw [eu]
    omega
  have hs1:∀ t:Nat,((iV (d (k+1))).natAbs:Int)<2^t->∀ i,i<(L.add l1).n->((iV ((L.add l1).d i)).natAbs:Int)<2^(t+B-1074):=fun t ht=>by
    refine iA (fun x=>((iV x).natAbs:Int)<2^(t+B-1074)) (fun i hi=>?_) fun _=>?_
    · obtain ⟨t0,k1,k2⟩:=hd.lo k (by omega)
      have h1:=hsmall t0 k1 i hi
      have h2:=ik k2 xne (p2 t0)
      have h3:t0<t:=oN (Int.lt_of_le_of_lt h2 ht)
      exact Int.lt_of_lt_of_le h1 (eY (by omega))
    · have:=qT (hu t ht)
      omega
  have hl2:∀ t:Nat,((iV (d (k+1))).natAbs:Int)<2^t->((iV l2).natAbs:Int)<2^(t+B-1074):=fun t ht=>by
    have h1:=qS hxv1 (hs1 t ht)
    rw [jf rl1] at h1
    have hxk:XV d (k+1+1):=⟨fun i hi=>hd.fin i (by omega),fun i hi=>hd.lo i (by omega)⟩
    have h2:=nN (mv hxk t ht) hB1 hB2 (mw hT (k+1+1) (by omega))
    rw [oT] at h2
    have h3:=lq n2 (i:=t+B-1074) (by
      generalize (2:Int)^(t+B-1074)=Y at *
      omega)
    refine qT ?_
    rw [el2]
    omega
  have hl1s:rg l1≠0->∃ s:Nat,((iV l1).natAbs:Int)<2^s∧(2^s:Int) ∣ iV l2∧(2^s:Int) ∣ iV q2∧∀ j,k+1<j->j<=N->(2^s:Int) ∣ T j:=fun hz=>by
    have hne:=(gU rl1 hx2 hz).1
    obtain ⟨u1,a1,a2⟩:=lZ n1 (fun c=>hne (by omega))
    rw [<- el1] at a2
    obtain ⟨u2,b1,b2⟩:=lZ nT (fun c=>hne (by omega))
    rw [<- eu] at b2
    obtain ⟨t,k1,k2⟩:=uU hd hB1 hT (k:=k+1) (by omega)
    have c2:=qT (hu t k1)
    obtain ⟨s,hs1,hs2,hs3,hs4⟩:∃ s:Nat,s<=u1∧s<=u2∧s<=t+B-1074∧((iV l1).natAbs:Int)<2^s:=by
      by_cases h1:u1<=u2∧u1<=t+B-1074
      · exact ⟨u1,Nat.le_refl _,h1.1,h1.2,a2⟩
      · by_cases h2:u2<=t+B-1074∧u2<=u1
        · exact ⟨u2,h2.2,Nat.le_refl _,h2.1,by omega⟩
        · exact ⟨t+B-1074,by omega,by omega,Nat.le_refl _,by omega⟩
    have d6:(2^s:Int) ∣ iV Tp+iV q1:=Int.dvd_add (Int.dvd_trans (ct hs2) b1) (Int.dvd_trans (ct hs1) a1)
    have d7:=gk n2 d6
    exact ⟨s,hs4,by rw [el2]; exact Int.dvd_sub d6 d7,d7,fun j hj hjn=>Int.dvd_trans (ct hs3) (k2 j hj hjn)⟩
  have hl2s:rg l2≠0->∃ s:Nat,((iV l2).natAbs:Int)<2^s∧(2^s:Int) ∣ iV q2∧∀ j,k+1<j->j<=N->(2^s:Int) ∣ T j:=fun hz=>by
    have hne:=(gU rl2 pl2 hz).1
    obtain ⟨u3,a1,a2⟩:=lZ n2 (fun c=>hne (by omega))
    rw [<- el2] at a2
    obtain ⟨t,k1,k2⟩:=uU hd hB1 hT (k:=k+1) (by omega)
    have c2:=hl2 t k1
    by_cases hut:u3<=t+B-1074
    · exact ⟨u3,a2,a1,fun j hj hjn=>Int.dvd_trans (ct hut) (k2 j hj hjn)⟩
    · exact ⟨t+B-1074,c2,Int.dvd_trans (ct (by omega)) a1,k2⟩
  refine ⟨hxv1.add rl2 pl2 ?_,?_,?_,fun t ht=>iA (fun x=>((iV x).natAbs:Int)<2^(t+B-1074)) (hs1 t ht) fun _=>hl2 t ht⟩
  · refine iA (fun x=>Lo (iV x) (iV l2)) (fun i hi=>?_) fun hz=>?_
    · obtain ⟨s,h1,_,h3,_⟩:=hold i hi
      exact ⟨s,h1,h3⟩
    · obtain ⟨s,h1,h2,_⟩:=hl1s hz
      exact ⟨s,h1,h2⟩
  · rw [jf rl2,jf rl1,oT]
    omega
  · refine iA (fun x=>∃ s:Nat,((iV x).natAbs:Int)<2^s∧(2^s:Int) ∣ iV q2∧∀ j,k+1<j->j<=N->(2^s:Int) ∣ T j) ?_ hl2s
    refine iA (fun x=>∃ s:Nat,((iV x).natAbs:Int)<2^s∧(2^s:Int) ∣ iV q2∧∀ j,k+1<j->j<=N->(2^s:Int) ∣ T j) (fun i hi=>?_) fun hz=>?_
    · obtain ⟨s,h1,_,_,h4,h5⟩:=hold i hi
      exact ⟨s,h1,h4,h5⟩
    · obtain ⟨s,h1,_,h3,h4⟩:=hl1s hz
      exact ⟨s,h1,h3,h4⟩
def PB (P:Nat->Prop) (w:World):Prop:=∀ k,P k->k<w.heap.size
structure a9 (P:Nat->Prop) (w w':World):Prop where
 os:w'.os=w.os
 tape:w'.tape=w.tape
 output:w'.output=w.output
 size:w.heap.size<=w'.heap.size
 block:∀ k,P k->w'.heap[k]?=w.heap[k]?
theorem a9.refl (P:Nat->Prop) (w:World):a9 P w w:=⟨rfl,rfl,rfl,Nat.le_refl _,fun _ _=>rfl⟩
theorem a9.trans {P:Nat->Prop} {a b c:World} (h:a9 P a b) (k:a9 P b c):a9 P a c :=
 ⟨k.os.trans h.os,k.tape.trans h.tape,k.output.trans h.output,Nat.le_trans h.size k.size,fun i hi=>(k.block i hi).trans (h.block i hi)⟩
theorem a9.of {P:Nat->Prop} {w w':World} (h:Below w.heap.size w w') (hP:PB P w):a9 P w w':=⟨h.os,h.tape,h.output,h.size,fun k hk=>h.block k (hP k hk)⟩
theorem PB.le {P:Nat->Prop} {w w':World} (h:PB P w) (hs:w.heap.size<=w'.heap.size):PB P w':=fun k hk=>Nat.lt_of_lt_of_le (h k hk) hs
def b6 (P:Nat->Prop) (w:World) (v:Value) (s:Ls):Prop:=aX 0 w v s.n s.d∧∀ k,v.ownBlock=some k->¬ P k
theorem b6.shape {P:Nat->Prop} {w:World} {v:Value} {s:Ls} (h:b6 P w v s):∃ ao cap,v=.slice ao s.n cap:=by
 obtain ⟨ao,cap,e,_⟩:=h.1.row
 exact ⟨ao,cap,e⟩
theorem b6.stays {P:Nat->Prop} {w w':World} {v:Value} {s:Ls} (h:b6 P w v s) (hb:Below w.heap.size w w'):b6 P w' v s:=⟨h.1.stays hb,h.2⟩
theorem b6.gr {P:Nat->Prop} {w w':World} {v:Value} {s:Ls} (h:b6 P w v s) (hP:PB P w) (g:w.grownBy w' v.ownBlock):a9 P w w' :=
 ⟨g.os,g.tape,g.output,g.size,fun k hk=>g.block k (hP k hk) fun e=>h.2 k e.symm hk⟩
theorem zI {w:World} {ops:Array Oper} {rest:List Oper} {o:Oper} {a:Act} {Q:Exit->Act->World->Prop} (hgd:o.guard=none) (s x:Operand) (ho:o.op=.call { callee:=.builtin .append,args:=#[s,x],argTypes:=#[32,32] })
  (B:Nat) (v:Value) (n:Nat) (d:Nat->Int) (hs:a.eval s=v) (hO:aX B w v n d) (bo:Option Addr) (m cb:Nat) (e:Nat->Int) (hx:a.eval x=.slice bo m cb) (hR:aQ w bo m cb e) (hlen:n+m<=1000000) (hB:B<=w.heap.size)
  (h:∀ v' w',aX B w' v' (n+m) (kr d n e)->w.grownBy w' v.ownBlock->(v'.ownBlock=v.ownBlock∨v'.ownBlock=some w.heap.size)->wpList Tryz.prog ops Q rest (a.put o.dst v') w'):wpList Tryz.prog ops Q (o :: rest) a w:=by
 obtain ⟨v',w',hr,h2,h3,h4⟩:=Jd o.type B v n d hO bo m cb e hR hlen hB
 exact Lib.wpList_append_run w hgd s x _ _ ho v (.slice bo m cb) hs hx _ w' hr (h v' w' h2 h3 h4)
theorem oU {P:Nat->Prop} {v:Value} {s:Ls} {b:Int} (w:World) (h:b6 P w v s) (hb:aj b) (hn:s.n<=900000) (hP:PB P w) :
    Calls Tryz.prog 132 #[v,.int .i64 b] w fun e w'=>∃ v',e=.returned v'∧b6 P w' v' (s.add b)∧a9 P w w':=by
  have hz:=fun W=>lX hb W
  by_cases h0:rg b=0
  · have e:s.add b=s:=by unfold Ls.add; rw [if_pos h0]
    rw [decide_eq_true h0] at hz
    rw [e]
    go_enter Tryz.func132,Tryz.ntmps132
    go_wp2_with (go_at_call 130; refine (hz _).mono ?_; rintro _ _ ⟨rfl,rfl⟩)
    go_ret
    exact ⟨v,rfl,h,a9.refl _ _⟩
  · have e:s.add b=⟨s.n+1,b7 s.d s.n b⟩:=by unfold Ls.add; rw [if_neg h0]
    rw [decide_eq_false h0] at hz
    rw [e]
    go_enter Tryz.func132,Tryz.ntmps132
    go_wp2_with (first
      | (go_at_call 130; refine (hz _).mono ?_; rintro _ _ ⟨rfl,rfl⟩)
      | (at_builtin; refine zI rfl _ _ rfl 0 _ s.n s.d rfl (h.1.stays (ah _ _)) _ 1 1 (fun _=>b) rfl (r7 _ _ rfl) (by omega) (Nat.zero_le _) ?_; intro v' w1 hO1 hg1 hat1))
    go_ret
    refine ⟨v',rfl,⟨hO1.congr fun i hi=>?_,fun k hk=>?_⟩,h.gr hP (lM hg1)⟩
    · by_cases e:i<s.n
      · simp [kr,e,aV s.d _ (show i≠s.n by omega)]
      · obtain rfl:i=s.n:=by omega
        simp [kr,bt]
    · rcases hat1 with q | q
      · exact h.2 k (q.symm.trans hk)
      · rw [hk] at q
        intro hPk
        have:=hP k hPk
        simp at q
        omega
theorem zJ {P:Nat->Prop} {g n cap:Nat} {d:Nat->Int} {q:Int} (w:World) (h0:b6 P w (.slice (some ⟨g,0,none⟩) n cap) ⟨n,d⟩) (hd:∀ i,i<n->aj (d i)∧ak (d i)=true) (hq:aj q) (pq:ak q=true) (hn:n<=800000) (hP:PB P w) :
  Calls Tryz.prog 134 #[.slice (some ⟨g,0,none⟩) n cap,.int .i64 q] w fun e w'=>(gx d q n=true∧∃ v',e=.returned v'∧b6 P w' v' (gO n d q)∧a9 P w w')∨(gx d q n=false∧e=ck∧a9 P w w'):=by
 have h:aX 0 w (.slice (some ⟨g,0,none⟩) n cap) n d:=h0.1
 have HNP:Hid (¬ P g):=h0.2 g rfl
 have HPB:Hid (PB P w):=hP
 have HGP:Hid (∀ W,w.grownBy W (some g)->a9 P w W):=fun W hW=>h0.gr hP hW
 clear h0 hP
 obtain ⟨hI,hnc,hcm,hBg⟩:=h.inB
 have HQ:Hid (∀ k,k<=n->gx d q k=true->aj (gq d q k)∧ak (gq d q k)=true):=ju hd hq pq
 have HDD:Hid (∀ i,i<n->aj (d i)∧ak (d i)=true):=hd
 have hgl:g<w.heap.size:=by obtain ⟨cur,h1,_⟩:=hI; exact (Array.getElem?_eq_some_iff.1 h1).1
 clear hd h hq pq
 go_enter Tryz.func134,Tryz.ntmps134
 go_wp2_with fail
 go_loopw [1,5,13] (fun qv gv iv wr=>∃ k:Nat,k<=n∧iv=.int .i64 k∧qv=.int .i64 (gq d q k)∧gv=.slice (some ⟨g,0,none⟩) (gs d q k).n cap∧Hid (gx d q k=true)∧Hid (mP wr g cap n (gs d q k))∧Hid (w.grownBy wr (some g))) (fun _ _ iv _=>n-(intOf iv).toNat)
 case atStart=>exact ⟨0,Nat.zero_le _,rfl,rfl,rfl,rfl,hI,World.grownBy.refl _ _⟩
 case round=>
  obtain ⟨k,hk,rfl,rfl,rfl,HX,HI,HG⟩:=hrel
  clear hI
  have hsn:=tF d q k
  by_cases hlt:k<n
  ·obtain ⟨r1,r2⟩:=HQ.out k hk HX.out
   obtain ⟨d1,d2⟩:=HDD.out k hlt
   have c0:wr.cell? ⟨g,k,none⟩=some (.int .i64 (d k)):=by
    obtain ⟨cur,h1,h2,h3⟩:=HI.out
    rw [cell_of_row wr g k cur _ _ h1,h3 k hlt,qN d q k k (Nat.le_refl _)]
   have CT:Hid (∀ W,Calls Tryz.prog 120 #[.int .i64 (gq d q k),.int .i64 (d k)] W fun e w'=>e=.returned (.tuple #[.int .i64 (gq d q (k+1)),.int .i64 (gl d q k),.bool (ak (gl d q k))])∧Below W.heap.size W w'):=fun W=>uM r1 d1 r2 d2 W
   have rl:aj (gl d q k):=jt r1 d1
   have i0:(0:Int)<=(k:Int):=by omega
   have i1:(k:Int)<(n:Int):=by omega
   have HS:Hid (gs d q (k+1)=(gs d q k).add (gl d q k)):=rfl
   have HXS:Hid (gx d q (k+1)=(gx d q k && ak (gl d q k))):=rfl
   have HNO:Hid (ak (gl d q k)=false->gx d q n=false):=fun hno=>by
    cases hx:gx d q n
    ·rfl
    ·have:=uL (show k+1<=n by omega) hx
     rw [HXS.out,hno,Bool.and_false] at this
     cases this
   obtain ⟨q',hq'⟩:∃ q',gq d q (k+1)=q':=⟨_,rfl⟩
   rw [hq'] at CT
   have HQ':Hid (gq d q (k+1)=q'):=hq'
   clear hq'
   generalize gl d q k=l at *
   generalize gq d q k=q0 at *
   generalize hd0:d k=dk at *
   have HD0:Hid (d k=dk):=hd0
   clear hd0 r1 r2 d1 d2
   have CA:=fun W h=>Au (g:=g) (cap:=cap) (N:=n) (s:=gs d q k) (b:=l) W h rl (by omega)
   generalize hs0:gs d q k=s0 at *
   have HS0:Hid (gs d q k=s0):=hs0
   clear hs0
   cases hl:ak l
   ·rw [hl] at CT
    go_wp2_with fail
    refine (CT.out _).mono ?_
    rintro _ w1 ⟨rfl,hb1⟩
    go_wp2_with fail
    refine (kM _ _ _).mono ?_
    rintro _ _ ⟨rfl,rfl⟩
    unfold ck
    go_wp2
    exact ⟨rfl,.inr ⟨HNO.out hl,rfl,HGP.out _ (lN HG.out hb1)⟩⟩
   ·rw [hl] at CT
    go_wp2_with fail
    refine (CT.out _).mono ?_
    rintro _ w1 ⟨rfl,hb1⟩
    go_wp2_with fail
    refine (gp _ _ _).mono ?_
    rintro _ _ ⟨rfl,rfl⟩
    rename_i w1
    go_wp2_with fail
    refine (CA _ (HI.out.keeps hb1)).mono ?_
    rintro _ w2 ⟨rfl,hI2,hg2⟩
    go_wp2
    go_roundw
    case rel=>exact ⟨k+1,by omega,by go_num,by rw [HQ'.out],by rw [HS.out],by show _=_; rw [HXS.out,HX.out,hl]; rfl,by show mP _ _ _ _ _; rw [HS.out]; exact hI2,qi (lN HG.out hb1) hg2⟩
    case measure=>simp [intOf]; omega
  ·obtain rfl:k=n:=by omega
   have hO:b6 P wr (.slice (some ⟨g,0,none⟩) (gs d q k).n cap) (gs d q k):=⟨HI.out.out (B:=0) hsn hnc (Nat.zero_le _) hcm,fun j hj=>by cases hj; exact HNP.out⟩
   have HQ2:Hid (aj (gq d q k)∧ak (gq d q k)=true):=HQ.out k hk HX.out
   have CA:Hid (∀ W,W=wr->Calls Tryz.prog 132 #[.slice (some ⟨g,0,none⟩) (gs d q k).n cap,.int .i64 (gq d q k)] W fun e w'=>∃ v',e=.returned v'∧b6 P w' v' (gO k d q)∧a9 P W w'):=fun W hW=>by
    subst hW
    exact oU W hO HQ2.out.1 (by omega) (HPB.out.le HG.out.size)
   generalize gq d q k=q0 at *
   generalize gs d q k=s0 at *
   clear hO
   go_wp2_with fail
   refine (CA.out _ rfl).mono ?_
   rintro _ w2 ⟨v',rfl,hO2,hg2⟩
   go_wp2
   go_ret
   exact .inl ⟨HX.out,v',rfl,hO2,(HGP.out _ HG.out).trans hg2⟩
theorem K5 {P:Nat->Prop} {v:Value} {s:Ls} {q:Int} (w:World) (h:b6 P w v s) (hd:s.fin) (hq:aj q) (pq:ak q=true) (hn:s.n<=800000) (hP:PB P w) :
  Calls Tryz.prog 134 #[v,.int .i64 q] w fun e w'=>(gx s.d q s.n=true∧∃ v',e=.returned v'∧b6 P w' v' (gO s.n s.d q)∧a9 P w w')∨(gx s.d q s.n=false∧e=ck∧a9 P w w'):=by
 obtain ⟨n,d⟩:=s
 rcases id h.1.2 with ⟨rfl,h0⟩ | ⟨g,cap,cur,rfl,_⟩
 ·have h0':n=0:=h0
  subst h0'
  have CA:Hid (∀ W,W=w->Calls Tryz.prog 132 #[.slice none 0 0,.int .i64 q] W fun e w'=>∃ v',e=.returned v'∧b6 P w' v' (gO 0 d q)∧a9 P W w'):=fun W hW=>by
   subst hW
   exact oU (s:=⟨0,d⟩) W h hq (Nat.zero_le _) hP
  clear h hd hq pq
  go_enter Tryz.func134,Tryz.ntmps134
  go_wp2_with fail
  go_loopw [1,5,13] (fun qv gv iv wr=>iv=.int .i64 0∧qv=.int .i64 q∧gv=.slice none 0 0∧wr=w) (fun _ _ iv _=>0)
  case atStart=>exact ⟨rfl,rfl,rfl,rfl⟩
  case round=>
   obtain ⟨rfl,rfl,rfl,rfl⟩:=hrel
   go_wp2_with fail
   refine (CA.out _ rfl).mono ?_
   rintro _ w2 ⟨v',rfl,hO2,hg2⟩
   go_wp2
   go_ret
   exact .inl ⟨rfl,v',rfl,hO2,hg2⟩
 ·exact zJ w h hd hq pq hn hP
theorem Gy {P:Nat->Prop} {v:Value} {s:Ls} {fo:Option Addr} {m fc:Nat} {f:Nat->Int} (w:World) (h:b6 P w v s) (hs:s.fin) (hf:∀ W,a9 P w W->aQ W fo m fc f) (hff:∀ i,i<m->aj (f i)∧ak (f i)=true) (hn:s.n+m<=700000) (hB:PB P w) :
  Calls Tryz.prog 104 #[v,.slice fo m fc] w fun e w'=>(cO s f m=true∧∃ v',e=.returned v'∧b6 P w' v' (bX s f m)∧a9 P w w')∨(cO s f m=false∧e=ck∧a9 P w w'):=by
 have hR:=hf w (a9.refl _ _)
 have hle:=hR.le
 have hmx:=hR.max
 have HF:Hid (∀ W,a9 P w W->aQ W fo m fc f):=hf
 have HFF:Hid (∀ i,i<m->aj (f i)∧ak (f i)=true):=hff
 have HFI:Hid (∀ k,k<=m->cO s f k=true->(bX s f k).fin):=qO hs hff
 have hL:=tH s f
 obtain ⟨ao0,cap0,rfl⟩:=h.shape
 clear hf hff hR hs
 go_enter Tryz.func104,Tryz.ntmps104
 go_wp2_with fail
 go_loopw [0,9] (fun hv iv wr=>∃ (k:Nat) (v0:Value),k<=m∧iv=.int .i64 k∧hv=v0∧Hid (cO s f k=true)∧Hid (b6 P wr v0 (bX s f k))∧Hid (a9 P w wr)) (fun _ iv _=>m-(intOf iv).toNat)
 case atStart=>exact ⟨0,_,Nat.zero_le _,rfl,rfl,rfl,h,a9.refl _ _⟩
 case round=>
  obtain ⟨k,hv,hk,rfl,hve,HX,HL,HBW⟩:=hrel
  replace hve:=hve.symm
  subst hve
  clear h
  have hLk:=hL k
  by_cases hlt:k<m
  ·obtain ⟨b,off,rfl,hbb,hc⟩:=(HF.out _ HBW.out).spot (by omega)
   have c0:=hc k hlt
   clear hc
   obtain ⟨d1,d2⟩:=HFF.out k hlt
   have hwr:PB P wr:=PB.le hB HBW.out.size
   have CG:Hid (∀ W,W=wr->Calls Tryz.prog 134 #[hv,.int .i64 (f k)] W fun e w'=>(cO s f (k+1)=true∧∃ v',e=.returned v'∧b6 P w' v' (bX s f (k+1))∧a9 P W w')∨(cO s f m=false∧e=ck∧a9 P W w')):=fun W hW=>by
    subst hW
    rw [mq,jG]
    refine (K5 W HL.out (HFI.out k hk HX.out) d1 d2 (by omega) hwr).mono ?_
    rintro e w' (⟨h1,v',h2,h3,h4⟩ | ⟨h1,h2,h3⟩)
    ·exact .inl ⟨by rw [HX.out,h1]; rfl,v',h2,h3,h4⟩
    ·refine .inr ⟨?_,h2,h3⟩
     cases hx:cO s f m
     ·rfl
     ·have:=sI (show k+1<=m by omega) hx
      rw [jG,h1,Bool.and_false] at this
      cases this
   generalize f k=fk at *
   have i0:(0:Int)<=(k:Int):=by omega
   have i1:(k:Int)<(m:Int):=by omega
   go_wp2_with fail
   refine (CG.out _ rfl).mono ?_
   rintro _ w1 (⟨h1,v',rfl,h3,h4⟩ | ⟨h1,rfl,h3⟩)
   ·go_wp2
    go_roundw
    case rel=>exact ⟨k+1,_,by omega,by go_num,rfl,h1,h3,HBW.out.trans h4⟩
    case measure=>simp [intOf]; omega
   ·unfold ck
    go_wp2
    exact ⟨rfl,.inr ⟨h1,rfl,HBW.out.trans h3⟩⟩
  ·obtain rfl:k=m:=by omega
   go_wp2
   go_ret
   exact .inl ⟨HX.out,_,rfl,HL.out,HBW.out⟩
theorem JH {P:Nat->Prop} {v:Value} {s:Ls} {eo:Option Addr} {N ec:Nat} {d:Nat->Int} {b:Int} (w:World) (h:b6 P w v s) (hE:∀ W,a9 P w W->aQ W eo (N+1) ec d) (hd:∀ i,i<=N->aj (d i)∧ak (d i)=true) (hb:aj b) (pb:ak b=true) (h0:¬ rg b=0) (hn:s.n+2*N<=700000) (hB:PB P w) (H:∀ W,a9 P w W->aD W) :
  Calls Tryz.prog 103 #[v,.slice eo (N+1) ec,.int .i64 b] w fun e w'=>(sx d b N=true∧∃ v',e=.returned v'∧b6 P w' v' (vQ s d b N)∧a9 P w w')∨(sx d b N=false∧e=ck∧a9 P w w'):=by
 have hz:=fun W=>lX hb W
 rw [decide_eq_false h0] at hz
 have hR:=hE w (a9.refl _ _)
 have hle:=hR.le
 have hmx:=hR.max
 obtain ⟨bb,off,rfl,hbb,hc⟩:=hR.spot (by omega)
 have c0:=hc 0 (by omega)
 rw [Nat.add_zero] at c0
 have HE:Hid (∀ W,a9 P w W->aQ W (some ⟨bb,off,none⟩) (N+1) ec d):=hE
 have HH:Hid (∀ W,a9 P w W->aD W):=H
 have HD:Hid (∀ i,i<=N->aj (d i)∧ak (d i)=true):=hd
 have HSQ:Hid (∀ k,k<=N->sx d b k=true->aj (sq d b k)∧ak (sq d b k)=true):=mr hd hb
 have HSL:=BK s d b
 have HB:Hid (aj b∧ak b=true):=⟨hb,pb⟩
 have CP:Hid (∀ W,aD W->Calls Tryz.prog 66 #[.int .i64 (d 0),.int .i64 b] W fun e w'=>e=.returned (.tuple #[.int .i64 (sq d b 0),.int .i64 (bm (d 0) b),.bool (sx d b 0)])∧Below W.heap.size W w'):=fun W hW=>yd (hd 0 (by omega)).1 hb (hd 0 (by omega)).2 pb W hW
 have HS0:Hid (ss s d b 0=s.add (bm (d 0) b)):=rfl
 have rl0:aj (bm (d 0) b):=dU (hd 0 (by omega)).1 hb
 have HNO:Hid (sx d b 0=false->sx d b N=false):=fun hno=>by
  cases hx:sx d b N
  ·rfl
  ·have:=uP (Nat.zero_le N) hx
   rw [hno] at this
   cases this
 clear hE H hd hc hR hb pb
 have hN1:((N:Int)+1 == 0)=false:=by simp; omega
 obtain ⟨ao0,cap0,rfl⟩:=h.shape
 cases hx0:sx d b 0
 ·rw [hx0] at CP
  generalize sq d b 0=q0 at *
  generalize bm (d 0) b=l0 at *
  generalize d 0=d0 at *
  go_enter Tryz.func103,Tryz.ntmps103
  go_wp2_with (go_at_call 130; refine (hz _).mono ?_; rintro _ wz ⟨rfl,hw⟩; replace hw:=hw.symm; subst hw)
  refine (CP.out _ (HH.out _ (a9.refl _ _))).mono ?_
  rintro _ w1 ⟨rfl,hb1⟩
  have hB1:a9 P w w1:=a9.of hb1 hB
  go_wp2_with fail
  refine (kM _ _ _).mono ?_
  rintro _ wz ⟨rfl,hw⟩
  replace hw:=hw.symm
  subst hw
  unfold ck
  go_wp2
  exact ⟨rfl,.inr ⟨HNO.out hx0,rfl,hB1⟩⟩
 ·rw [hx0] at CP
  have CA:Hid (∀ W,a9 P w W->b6 P W (.slice ao0 s.n cap0) s->Calls Tryz.prog 132 #[.slice ao0 s.n cap0,.int .i64 (bm (d 0) b)] W fun e w'=>∃ v',e=.returned v'∧b6 P w' v' (ss s d b 0)∧a9 P W w'):=fun W hW hL=>by
   rw [HS0.out]
   exact oU W hL rl0 (by omega) (PB.le hB hW.size)
  have HK:Hid (∀ W,Below w.heap.size w W->b6 P W (.slice ao0 s.n cap0) s):=fun W hW=>h.stays hW
  clear h
  obtain ⟨q0,hq0⟩:∃ q0,sq d b 0=q0:=⟨_,rfl⟩
  obtain ⟨l0,hl0⟩:∃ l0,bm (d 0) b=l0:=⟨_,rfl⟩
  rw [hq0,hl0] at CP
  rw [hl0] at CA
  have HQ0:Hid (sq d b 0=q0):=hq0
  clear hq0 hl0 rl0 HS0 HNO
  generalize hd0:d 0=d0 at c0 CP
  clear hd0
  go_enter Tryz.func103,Tryz.ntmps103
  go_wp2_with (go_at_call 130; refine (hz _).mono ?_; rintro _ wz ⟨rfl,hw⟩; replace hw:=hw.symm; subst hw)
  refine (CP.out _ (HH.out _ (a9.refl _ _))).mono ?_
  rintro _ w1 ⟨rfl,hb1⟩
  have hB1:a9 P w w1:=a9.of hb1 hB
  go_wp2_with fail
  refine (gp _ _ _).mono ?_
  rintro _ wz ⟨rfl,hw⟩
  replace hw:=hw.symm
  subst hw
  go_wp2_with fail
  refine (CA.out _ hB1 (HK.out _ hb1)).mono ?_
  rintro _ w2 ⟨v2,rfl,hL2,hb2⟩
  have hB2:=hB1.trans hb2
  clear CP CA HK hz
  go_wp2_with fail
  ·have hN0:N=0:=by omega
   go_loopw [0,7,39] (fun hv qv iv wr=>∃ (k:Nat) (v0:Value),k<=N∧iv=.int .i64 k∧hv=v0∧qv=.int .i64 (sq d b k)∧Hid (sx d b k=true)∧Hid (b6 P wr v0 (ss s d b k))∧Hid (a9 P w wr)) (fun _ _ iv _=>N-(intOf iv).toNat)
   case atStart=>exact ⟨0,_,Nat.zero_le _,rfl,rfl,by rw [HQ0.out],hx0,hL2,hB2⟩
   case round=>
    obtain ⟨k,hv,hk,rfl,hve,rfl,HX,HL,HBW⟩:=hrel
    replace hve:=hve.symm
    subst hve
    clear hL2 hB2 HQ0
    have hLk:=HSL k
    obtain rfl:k=N:=by omega
    obtain ⟨r1,r2⟩:=HSQ.out k hk HX.out
    have hwr:PB P wr:=PB.le hB HBW.out.size
    have CA:Hid (∀ W,W=wr->Calls Tryz.prog 132 #[hv,.int .i64 (sq d b k)] W fun e w'=>∃ v',e=.returned v'∧b6 P w' v' (vQ s d b k)∧a9 P W w'):=fun W hW=>by
     subst hW
     exact oU W HL.out r1 (by omega) hwr
    clear r1 r2
    generalize sq d b k=qk at *
    go_wp2_with fail
    refine (CA.out _ rfl).mono ?_
    rintro _ w3 ⟨v3,rfl,hL3,hb3⟩
    go_wp2
    go_ret
    exact .inl ⟨HX.out,v3,rfl,hL3,HBW.out.trans hb3⟩
  ·go_loopw [0,7,39] (fun hv qv iv wr=>∃ (k:Nat) (v0:Value),k<=N∧iv=.int .i64 k∧hv=v0∧qv=.int .i64 (sq d b k)∧Hid (sx d b k=true)∧Hid (b6 P wr v0 (ss s d b k))∧Hid (a9 P w wr)) (fun _ _ iv _=>N-(intOf iv).toNat)
   case atStart=>exact ⟨0,_,Nat.zero_le _,rfl,rfl,by rw [HQ0.out],hx0,hL2,hB2⟩
   case round=>
    obtain ⟨k,hv,hk,rfl,hve,rfl,HX,HL,HBW⟩:=hrel
    replace hve:=hve.symm
    subst hve
    clear hL2 hB2 HQ0
    have hLk:=HSL k
    by_cases hlt:k<N
    ·obtain ⟨bb',off',e1,hbb',hc⟩:=(HE.out _ HBW.out).spot (by omega)
     simp only [Option.some.injEq,Addr.mk.injEq,and_true] at e1
     obtain ⟨rfl,rfl⟩:=e1
     have c1:=hc (k+1) (by omega)
     rw [show off+(k+1)=off+1+k by omega] at c1
     clear hc
     obtain ⟨d1,d2⟩:=HD.out (k+1) (by omega)
     obtain ⟨r1,r2⟩:=HSQ.out k hk HX.out
     obtain ⟨b1,b2⟩:=HB.out
     have hwr:PB P wr:=PB.le hB HBW.out.size
     have C1:Hid (∀ W,aD W->Calls Tryz.prog 66 #[.int .i64 (d (k+1)),.int .i64 b] W fun e w'=>e=.returned (.tuple #[.int .i64 (aq (d (k+1)) b),.int .i64 (bm (d (k+1)) b),.bool (pX (d (k+1)) b)])∧Below W.heap.size W w'):=fun W hW=>yd d1 b1 d2 b2 W hW
     have rt:aj (aq (d (k+1)) b):=aU d1 b1
     have ru:aj (bm (d (k+1)) b):=dU d1 b1
     have HP:Hid (pX (d (k+1)) b=true->ak (aq (d (k+1)) b)=true∧ak (bm (d (k+1)) b)=true):=x8 d1 b1
     have HXS:Hid (sx d b (k+1)=(sx d b k && (pX (d (k+1)) b && (ak (sL (sq d b k) (bm (d (k+1)) b)) && fX (aq (d (k+1)) b) (ap (sq d b k) (bm (d (k+1)) b)))))):=lY d b k
     have HQS:Hid (sq d b (k+1)=ap (aq (d (k+1)) b) (ap (sq d b k) (bm (d (k+1)) b))):=uN d b k
     have HSS:Hid (ss s d b (k+1)=((ss s d b k).add (sL (sq d b k) (bm (d (k+1)) b))).add (fL (aq (d (k+1)) b) (ap (sq d b k) (bm (d (k+1)) b)))):=uO s d b k
     have HNO:Hid (sx d b (k+1)=false->sx d b N=false):=fun hno=>by
      cases hx:sx d b N
      ·rfl
      ·have:=uP (show k+1<=N by omega) hx
       rw [hno] at this
       cases this
     generalize aq (d (k+1)) b=t at *
     generalize bm (d (k+1)) b=u at *
     generalize pX (d (k+1)) b=x1 at *
     generalize d (k+1)=dk at *
     obtain ⟨qk,hqk⟩:∃ qk,sq d b k=qk:=⟨_,rfl⟩
     rw [hqk] at HXS HQS HSS r1 r2 ⊢
     obtain ⟨sk,hsk⟩:∃ sk,ss s d b k=sk:=⟨_,rfl⟩
     rw [hsk] at HL HSS hLk
     clear hqk hsk d1 d2 HSQ HD HSL
     have i0:(0:Int)<=(k:Int):=by omega
     have i1:(k:Int)<(N:Int):=by omega
     cases hx1:x1
     ·rw [hx1] at C1
      have hno:sx d b N=false:=HNO.out (by rw [HXS.out,hx1]; simp)
      go_wp2_with fail
      refine (C1.out _ (HH.out _ HBW.out)).mono ?_
      rintro _ w3 ⟨rfl,hb3⟩
      go_wp2_with fail
      refine (kM _ _ _).mono ?_
      rintro _ wz ⟨rfl,hw⟩
      replace hw:=hw.symm
      subst hw
      unfold ck
      go_wp2
      exact ⟨rfl,.inr ⟨hno,rfl,HBW.out.trans (a9.of hb3 hwr)⟩⟩
     ·rw [hx1] at C1
      obtain ⟨pt,pu⟩:=HP.out hx1
      have C2:Hid (∀ W,Calls Tryz.prog 120 #[.int .i64 qk,.int .i64 u] W fun e w'=>e=.returned (.tuple #[.int .i64 (ap qk u),.int .i64 (sL qk u),.bool (ak (sL qk u))])∧Below W.heap.size W w'):=fun W=>uM r1 ru r2 pu W
      have rl1:aj (sL qk u):=jt r1 ru
      have rq1:aj (ap qk u):=aH r1 ru
      have HP2:Hid (ak (sL qk u)=true->ak (ap qk u)=true):=fun hh=>(ij r1 ru hh).2.1
      clear HP r1 r2 ru pu
      generalize sL qk u=l1 at *
      generalize ap qk u=q1 at *
      cases hx2:ak l1
      ·rw [hx2] at C2
       have hno:sx d b N=false:=HNO.out (by rw [HXS.out,hx2]; simp)
       go_wp2_with fail
       refine (C1.out _ (HH.out _ HBW.out)).mono ?_
       rintro _ w3 ⟨rfl,hb3⟩
       go_wp2_with fail
       refine (gp _ _ _).mono ?_
       rintro _ wz ⟨rfl,hw⟩
       replace hw:=hw.symm
       subst hw
       go_wp2_with fail
       refine (C2.out _).mono ?_
       rintro _ w4 ⟨rfl,hb4⟩
       go_wp2_with fail
       refine (kM _ _ _).mono ?_
       rintro _ wz ⟨rfl,hw⟩
       replace hw:=hw.symm
       subst hw
       unfold ck
       go_wp2
       exact ⟨rfl,.inr ⟨hno,rfl,HBW.out.trans (a9.of (aa hb3 hb4) hwr)⟩⟩
      ·rw [hx2] at C2
       have pq1:=HP2.out hx2
       have C3:Hid (∀ W,Calls Tryz.prog 133 #[.int .i64 t,.int .i64 q1] W fun e w'=>e=.returned (.tuple #[.int .i64 (ap t q1),.int .i64 (fL t q1),.bool (fX t q1)])∧Below W.heap.size W w'):=fun W=>MB rt rq1 pt pq1 W
       have rl2:aj (fL t q1):=xR rt rq1
       have hA1:=(sk.add_le l1).2
       have CA1:Hid (∀ W,a9 P wr W->b6 P W hv sk->Calls Tryz.prog 132 #[hv,.int .i64 l1] W fun e w'=>∃ v',e=.returned v'∧b6 P w' v' (sk.add l1)∧a9 P W w'):=fun W hW hL=>oU W hL rl1 (by omega) (PB.le hwr hW.size)
       have CA2:Hid (∀ W v',a9 P wr W->b6 P W v' (sk.add l1)->Calls Tryz.prog 132 #[v',.int .i64 (fL t q1)] W fun e w'=>∃ v'',e=.returned v''∧b6 P w' v'' ((sk.add l1).add (fL t q1))∧a9 P W w'):=fun W v' hW hL=>oU W hL rl2 (by omega) (PB.le hwr hW.size)
       have HKP:Hid (∀ {W W' v' s'},b6 P W v' s'->Below W.heap.size W W'->b6 P W' v' s'):=fun {W W' v' s'} hL hW=>hL.stays hW
       clear HP2 rl1 rl2 rq1 rt pt pq1 b1 b2
       generalize fL t q1=l2 at *
       generalize ap t q1=q2 at *
       cases hx3:fX t q1
       ·rw [hx3] at C3
        have hno:sx d b N=false:=HNO.out (by rw [HXS.out,hx3]; simp)
        go_wp2_with fail
        refine (C1.out _ (HH.out _ HBW.out)).mono ?_
        rintro _ w3 ⟨rfl,hb3⟩
        go_wp2_with fail
        refine (gp _ _ _).mono ?_
        rintro _ wz ⟨rfl,hw⟩
        replace hw:=hw.symm
        subst hw
        go_wp2_with fail
        refine (C2.out _).mono ?_
        rintro _ w4 ⟨rfl,hb4⟩
        go_wp2_with fail
        refine (gp _ _ _).mono ?_
        rintro _ wz ⟨rfl,hw⟩
        replace hw:=hw.symm
        subst hw
        have hb34:=aa hb3 hb4
        go_wp2_with fail
        refine (CA1.out _ (a9.of hb34 hwr) (HKP.out HL.out hb34)).mono ?_
        rintro _ w5 ⟨v5,rfl,hL5,hb5⟩
        go_wp2_with fail
        refine (C3.out _).mono ?_
        rintro _ w6 ⟨rfl,hb6⟩
        go_wp2_with fail
        refine (kM _ _ _).mono ?_
        rintro _ wz ⟨rfl,hw⟩
        replace hw:=hw.symm
        subst hw
        have hb56:=((a9.of hb34 hwr).trans hb5).trans (a9.of hb6 (PB.le hwr ((a9.of hb34 hwr).trans hb5).size))
        unfold ck
        go_wp2
        exact ⟨rfl,.inr ⟨hno,rfl,HBW.out.trans hb56⟩⟩
       ·rw [hx3] at C3
        have hyes:sx d b (k+1)=true:=by rw [HXS.out,HX.out,hx1,hx2,hx3]; rfl
        go_wp2_with fail
        refine (C1.out _ (HH.out _ HBW.out)).mono ?_
        rintro _ w3 ⟨rfl,hb3⟩
        go_wp2_with fail
        refine (gp _ _ _).mono ?_
        rintro _ wz ⟨rfl,hw⟩
        replace hw:=hw.symm
        subst hw
        go_wp2_with fail
        refine (C2.out _).mono ?_
        rintro _ w4 ⟨rfl,hb4⟩
        go_wp2_with fail
        refine (gp _ _ _).mono ?_
        rintro _ wz ⟨rfl,hw⟩
        replace hw:=hw.symm
        subst hw
        have hb34:=aa hb3 hb4
        go_wp2_with fail
        refine (CA1.out _ (a9.of hb34 hwr) (HKP.out HL.out hb34)).mono ?_
        rintro _ w5 ⟨v5,rfl,hL5,hb5⟩
        go_wp2_with fail
        refine (C3.out _).mono ?_
        rintro _ w6 ⟨rfl,hb6⟩
        go_wp2_with fail
        refine (gp _ _ _).mono ?_
        rintro _ wz ⟨rfl,hw⟩
        replace hw:=hw.symm
        subst hw
        have hb56:=((a9.of hb34 hwr).trans hb5).trans (a9.of hb6 (PB.le hwr ((a9.of hb34 hwr).trans hb5).size))
        go_wp2_with fail
        refine (CA2.out _ _ hb56 (HKP.out hL5 hb6)).mono ?_
        rintro _ w7 ⟨v7,rfl,hL7,hb7⟩
        go_wp2
        go_roundw
        case rel=>exact ⟨k+1,_,by omega,by go_num,rfl,by rw [HQS.out],hyes,by show b6 _ _ _ _; rw [HSS.out]; exact hL7,HBW.out.trans (hb56.trans hb7)⟩
        case measure=>simp [intOf]; omega
    ·obtain rfl:k=N:=by omega
     obtain ⟨r1,r2⟩:=HSQ.out k hk HX.out
     have hwr:PB P wr:=PB.le hB HBW.out.size
     have CA:Hid (∀ W,W=wr->Calls Tryz.prog 132 #[hv,.int .i64 (sq d b k)] W fun e w'=>∃ v',e=.returned v'∧b6 P w' v' (vQ s d b k)∧a9 P W w'):=fun W hW=>by
      subst hW
      exact oU W HL.out r1 (by omega) hwr
     clear r1 r2
     generalize sq d b k=qk at *
     go_wp2_with fail
     refine (CA.out _ rfl).mono ?_
     rintro _ w3 ⟨v3,rfl,hL3,hb3⟩
     go_wp2
     go_ret
     exact .inl ⟨HX.out,v3,rfl,hL3,HBW.out.trans hb3⟩
end Go.Proofs.YtcjfonaolcokbaaGreatDoor
