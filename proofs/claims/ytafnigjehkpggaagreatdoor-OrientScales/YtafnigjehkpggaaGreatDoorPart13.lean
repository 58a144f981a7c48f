/-
  Parts of the proof, one behind another.
-/
import Derived.Test.YtafnigjehkpggaaGreatDoorPart12
import Derived.Test.YtafnigjehkpggaaGreatDoorPart3
import Derived.Test.YtafnigjehkpggaaGreatDoorPart11
import Derived.Test.YtafnigjehkpggaaGreatDoorPart4
import Derived.Test.YtafnigjehkpggaaGreatDoorPart1
import Derived.Test.YtafnigjehkpggaaGreatDoorPart7
namespace Go.Proofs.YtafnigjehkpggaaGreatDoor
open Go Go.RowKit Go.Proofs.YtafnigjehkpggaaGreatDoor.M
set_option linter.unusedSimpArgs false
set_option linter.unusedVariables false
def xab (d:Nat->Int):Nat->Int
  | 0=>-9223372036854775808
  | k + 1=>pexp (d k) + blen (pmag (d k))
def xok (d:Nat->Int) (k:Nat):Bool:=!decide (pmag (d k)=0) && !decide (pexp (d k) + jz (pmag (d k)) < xab d k)
def xval (d:Nat->Int):Nat->Bool
  | 0=>true
  | k + 1=>xval d k && xok d k
theorem xval_succ (d:Nat->Int) (k:Nat):xval d (k + 1)=(xval d k && xok d k):=rfl
theorem xval_mono {d:Nat->Int}:∀ {k j},j <= k->xval d k=true->xval d j=true
  | 0,j,h,hx=>by
    obtain rfl:j=0:=by omega
    rfl
  | k + 1,j,h,hx=>by
    by_cases e:j=k + 1
    . subst e; exact hx
    . rw [xval_succ,Bool.and_eq_true] at hx
      exact xval_mono (by omega) hx.1
theorem xmag_in (b:Int):0 <= pmag b∧pmag b < 9007199254740992∧-2000 <= pexp b∧pexp b <= 2000:=by
  cases h:pok b
  . have:fld b=2047:=by simpa [pok] using h
    unfold pmag pexp
    rw [if_pos this,if_pos this]
    omega
  . have:=pmag_in h
    omega
theorem jz_small (b:Int):pmag b ≠ 0->jz (pmag b) <= 64:=fun hne=>by
  have hm:=xmag_in b
  have h1:(pmag b).toNat < 2 ^ 64:=Nat.lt_of_lt_of_le (show (pmag b).toNat < 9007199254740992 by omega) (by decide)
  exact Nat.le_of_lt (Lib.lowest_bit 64 (pmag b).toNat (by omega) h1).2
set_option maxRecDepth 100000 in
set_option maxHeartbeats 1000000 in
theorem xvalid_any {eo:Option Addr} {n ec:Nat} {d:Nat->Int} (w:World) (h:Row w eo n ec d) (H:Hold4 w) :
    Calls Tryz.prog 80 #[.slice eo n ec] w fun e w'=>e=.returned (.bool (xval d n))∧Below w.heap.size w w':=by
  have hle:=h.le
  have hmx:=h.max
  have HR:Hid (Row w eo n ec d):=h
  have HH:Hid (Hold4 w):=H
  clear h H
  go_enter Tryz.func80,Tryz.ntmps80
  go_wp2_with fail
  go_loopw [3,12] (fun av iv wr=>∃ k:Nat,k <= n∧iv=.int .i64 k∧av=.int .i64 (xab d k)∧Hid (xval d k=true)∧Below w.heap.size w wr) (fun _ iv _=>n - (intOf iv).toNat)
  case atStart=>exact ⟨0,Nat.zero_le _,rfl,rfl,rfl,bel_refl _⟩
  case round=>
    obtain ⟨k,hk,rfl,rfl,HX,hbw⟩:=hrel
    by_cases hlt:k < n
    . obtain ⟨b,off,rfl,hbb,hc⟩:=(HR.out.keeps hbw).spot (by omega)
      have c0:=hc k hlt
      clear hc
      have H:=HH.out.keeps hbw
      have CP:=bitsPartsA (d k) wr H.lay
      have m1:=xmag_in (d k)
      have HNO:Hid (xok d k=false->xval d n=false):=fun hno=>by
        cases hx:xval d n
        . rfl
        . have:=xval_mono (show k + 1 <= n by omega) hx
          rw [xval_succ,hno,Bool.and_false] at this
          cases this
      have HO:Hid (xok d k=(!decide (pmag (d k)=0) && !decide (pexp (d k) + jz (pmag (d k)) < xab d k))):=rfl
      have HA:Hid (xab d (k + 1)=pexp (d k) + blen (pmag (d k))):=rfl
      have hab:-9223372036854775808 <= xab d k:=by
        cases k with
        | zero=>exact Int.le_refl _
        | succ j=>
          show _ <= pexp (d j) + ((blen (pmag (d j)):Nat):Int)
          have:=xmag_in (d j)
          omega
      have CT:Hid (∀ W,b_Tab W->0 < pmag (d k)->Calls Tryz.prog 115 #[.int .u64 (pmag (d k))] W fun e w'=>e=.returned (.int .i64 (jz (pmag (d k))))∧w'=W):=fun W hT hp=>tzero_any _ hp (by omega) W hT
      have CL:Hid (∀ W,Calls Tryz.prog 116 #[.int .u64 (pmag (d k))] W fun e w'=>e=.returned (.int .i64 (blen (pmag (d k))))∧w'=W):=fun W=>len_any _ W (by omega) (by omega)
      have hj:=jz_small (d k)
      have hbl:blen (pmag (d k)) <= 63:=blen_le (show pmag (d k) < 9223372036854775808 by omega)
      have cv:IntKind.u64.wrap (pmag (d k))=pmag (d k):=by rw [IntKind.wrap_u64]; omega
      generalize hmg:pmag (d k)=mg at *
      generalize hex:pexp (d k)=ex at *
      generalize pneg (d k)=ng at *
      generalize pok (d k)=fn at *
      generalize hdk:d k=dk at *
      generalize hbn:blen mg=bn at *
      clear hmg hex hdk hbn
      have i0:(0:Int) <= (k:Int):=by omega
      have i1:(k:Int) < (n:Int):=by omega
      by_cases hm:mg=0
      . subst hm
        have hno:Hid (false=xval d n):=(HNO.out (by rw [HO.out]; simp)).symm
        go_wp2_with fail
        refine CP.mono ?_
        rintro _ w1 ⟨rfl,hb1⟩
        go_wp2
        all_goals go_ret
        all_goals exact ⟨ret_bool hno.out,by first | exact bel_trans hbw hb1 | exact (bel_trans hbw hb1).drew⟩
      . have hm0:(mg == 0)=false:=by simpa using hm
        have hmp:0 < mg:=by omega
        have hj':=hj hm
        generalize hjj:jz mg=jj at *
        clear hj hjj
        by_cases hl:ex + (jj:Int) < xab d k
        . have hno:Hid (false=xval d n):=(HNO.out (by rw [HO.out]; simp [hl])).symm
          generalize xab d k=ab at *
          go_wp2_with fail
          refine CP.mono ?_
          rintro _ w1 ⟨rfl,hb1⟩
          have hbw1:=bel_trans hbw hb1
          have HT:Hid (b_Tab w1):=(HH.out.keeps hbw1).tab
          go_wp2_with (go_at_call 115; refine (CT.out _ HT.out hmp).mono ?_; rintro _ wz ⟨rfl,hw⟩; replace hw:=hw.symm; subst hw)
          all_goals go_ret
          all_goals exact ⟨ret_bool hno.out,by first | exact hbw1 | exact hbw1.drew⟩
        . have hyes:xval d (k + 1)=true:=by rw [xval_succ,HX.out,HO.out]; simp [hl,hm]
          have hl':¬ (ex + (jj:Int) < xab d k):=hl
          clear hl
          generalize xab d k=ab at *
          go_wp2_with fail
          refine CP.mono ?_
          rintro _ w1 ⟨rfl,hb1⟩
          have hbw1:=bel_trans hbw hb1
          have HT:Hid (b_Tab w1):=(HH.out.keeps hbw1).tab
          go_wp2_with (first
            | (go_at_call 115; refine (CT.out _ HT.out hmp).mono ?_; rintro _ wz ⟨rfl,hw⟩; replace hw:=hw.symm; subst hw)
            | (go_at_call 116; refine (CL.out _).mono ?_; rintro _ wz ⟨rfl,hw⟩; replace hw:=hw.symm; subst hw))
          go_roundw
          case rel=>exact ⟨k + 1,by omega,by go_num,by rw [HA.out],hyes,by first | exact hbw1 | exact hbw1.drew⟩
          case measure=>simp [intOf]; omega
    . obtain rfl:k=n:=by omega
      go_wp2
      go_ret
      exact ⟨ret_bool HX.out.symm,hbw⟩
def XR (w:World) (ok:Bool) (s:Ls) (r:Ending) (w':World):Prop:=((ok=true∧∃ v,r=.returned v∧LsO w.heap.size w' v s)∨(ok=false∧r=gaveX))∧Below w.heap.size w w'
def XA (w:World) (ok:Bool) (s:Ls) (r:Ending) (w':World):Prop:=((ok=true∧∃ v,r=.returned (.tuple #[v,.int .i64 0])∧LsO w.heap.size w' v s)∨(ok=false∧r=.returned (.tuple #[.slice none 0 0,.int .i64 14])))∧Below w.heap.size w w'
theorem xtold_any (F:Nat) (cap:Array Value) (w:World) (ok:Bool) (s:Ls) (hE:∀ w,(callFunc F cap).run Tryz.prog w=.ok (.enter F cap) w) (hF:∀ W,Below w.heap.size w W->Calls Tryz.prog F cap W fun r W'=>XR W ok s r W') :
    Calls Tryz.prog 108 #[.func (.func F) #[] cap] w fun r w'=>XA w ok s r w':=by
  cases ok
  . refine (xtold_no F cap w hE fun W hW=>(hF W hW).mono ?_).mono ?_
    . rintro r W' ⟨(⟨h,_⟩ | ⟨_,h⟩),hb⟩
      . cases h
      . exact ⟨h,hb⟩
    . rintro r w' ⟨h,hb⟩
      exact ⟨.inr ⟨rfl,h⟩,hb⟩
  . refine (xtold_yes F cap w s hE fun W hW=>(hF W hW).mono ?_).mono ?_
    . rintro r W' ⟨(⟨_,v,h1,h2⟩ | ⟨h,_⟩),hb⟩
      . exact ⟨v,h1,h2,hb⟩
      . cases h
    . rintro r w' ⟨v,h1,h2,hb⟩
      exact ⟨.inl ⟨rfl,v,h1,h2⟩,hb⟩
set_option maxRecDepth 100000 in
theorem xwl1 (G:Nat) (eo fo:Option Addr) (n ec m fc:Nat) (p0 p1 p2:Addr) (w:World) (ok:Bool) (s:Ls) (hEG:∀ (cap:Array Value) (w:World),(callFunc G cap).run Tryz.prog w=.ok (.enter G cap) w) (c0:w.cell? p0=some (.func (.func G) #[] #[])) (c1:w.cell? p1=some (.slice eo n ec)) (c2:w.cell? p2=some (.slice fo m fc))
    (hG:Calls Tryz.prog G #[.slice eo n ec,.slice fo m fc] w fun r w'=>XR w ok s r w') :
    Calls Tryz.prog 109 #[.pointer (some p0),.pointer (some p1),.pointer (some p2)] w fun r w'=>XR w ok s r w':=by
  go_enter Tryz.func109,Tryz.ntmps109
  go_wp2_with fail
  refine hG.mono ?_
  rintro r w' ⟨(⟨h1,v,rfl,h2⟩ | ⟨h1,rfl⟩),hb⟩
  . obtain ⟨ao,cc,rfl⟩:=h2.shape
    go_wp2
    go_ret
    exact ⟨.inl ⟨h1,_,rfl,h2⟩,hb⟩
  . unfold gaveX
    go_wp2
    exact ⟨rfl,.inr ⟨h1,rfl⟩,hb⟩
set_option maxRecDepth 100000 in
set_option maxHeartbeats 1000000 in
theorem xwl_ok (G:Nat) {eo fo:Option Addr} {n ec m fc:Nat} {d f:Nat->Int} (w:World) (ok:Bool) (s:Ls) (hEG:∀ (cap:Array Value) (w:World),(callFunc G cap).run Tryz.prog w=.ok (.enter G cap) w) (h:Row w eo n ec d) (hf:Row w fo m fc f) (hv:xval d n=true) (hu:xval f m=true) (H:Hold4 w)
    (hG:∀ W,Below w.heap.size w W->Calls Tryz.prog G #[.slice eo n ec,.slice fo m fc] W fun r w'=>XR W ok s r w') :
    Calls Tryz.prog 76 #[.slice eo n ec,.slice fo m fc,.func (.func G) #[] #[]] w fun r w'=>XA w ok s r w':=by
  have hmf:∀ (fn:Fn) (first cap:Array Value) (w:World),(Instr.makeFunc fn first cap).run Tryz.prog w=.ok (.func fn first cap) w:=fun _ _ _ _=>rfl
  have hst:∀ p F m w,(store p (.func (.func F) #[] #[]) m).run Tryz.prog w=stored Tryz.prog w p (.func (.func F) #[] #[]) m:=fun p F m w=>run_store _ w p _ m rfl
  have hE:∀ (cap:Array Value) (w:World),(callFunc 109 cap).run Tryz.prog w=.ok (.enter 109 cap) w:=by
    intro cap w
    simp [go_sem]
  have k0:=h3_0 w (.cells #[.slice eo n ec] 30) (.cells #[.slice fo m fc] 30) (.cells #[.func (.func G) #[] #[]] 121)
  have k1:=h3_1 w (.cells #[.slice eo n ec] 30) (.cells #[.slice fo m fc] 30) (.cells #[.func (.func G) #[] #[]] 121)
  have k2:=h3_2 w (.cells #[.slice eo n ec] 30) (.cells #[.slice fo m fc] 30) (.cells #[.func (.func G) #[] #[]] 121)
  have hb0:=bel_a3 w (.cells #[.slice eo n ec] 30) (.cells #[.slice fo m fc] 30) (.cells #[.func (.func G) #[] #[]] 121)
  have CV:=fun W hW=>xvalid_any W (h.keeps hW) (H.keeps hW)
  rw [hv] at CV
  have CP:=fun W hW=>xvalid_any W (hf.keeps hW) (H.keeps hW)
  rw [hu] at CP
  go_enter Tryz.func76,Tryz.ntmps76
  go_wp2_with fail
  generalize ((w.alloc (.cells #[.slice eo n ec] 30)).alloc (.cells #[.slice fo m fc] 30)).alloc (.cells #[.func (.func G) #[] #[]] 121)=x0 at k0 k1 k2 hb0 ⊢
  refine (CV _ hb0).mono ?_
  rintro _ y1 ⟨rfl,hw1⟩
  have k0:=(hw1.block _ (Array.getElem?_eq_some_iff.1 k0).1).trans k0
  have k1:=(hw1.block _ (Array.getElem?_eq_some_iff.1 k1).1).trans k1
  have k2:=(hw1.block _ (Array.getElem?_eq_some_iff.1 k2).1).trans k2
  have hbA:=bel_trans hb0 hw1
  have c1:=blkC k1 0 rfl
  go_wp2_with fail
  refine (CP _ hbA).mono ?_
  rintro _ y2 ⟨rfl,hw2⟩
  have k0:=(hw2.block _ (Array.getElem?_eq_some_iff.1 k0).1).trans k0
  have k1:=(hw2.block _ (Array.getElem?_eq_some_iff.1 k1).1).trans k1
  have k2:=(hw2.block _ (Array.getElem?_eq_some_iff.1 k2).1).trans k2
  have hbB:=bel_trans hbA hw2
  have c0:=blkC k0 0 rfl
  have c1:=blkC k1 0 rfl
  have c2:=blkC k2 0 rfl
  go_wp2_with fail
  refine (xtold_any 109 _ _ ok s (hE _) (fun W hW=>?_)).mono ?_
  . have k0:=(hW.block _ (Array.getElem?_eq_some_iff.1 k0).1).trans k0
    have k1:=(hW.block _ (Array.getElem?_eq_some_iff.1 k1).1).trans k1
    have k2:=(hW.block _ (Array.getElem?_eq_some_iff.1 k2).1).trans k2
    exact xwl1 G eo fo n ec m fc _ _ _ W ok s hEG (blkC k2 0 rfl) (blkC k0 0 rfl) (blkC k1 0 rfl) (hG W (bel_trans hbB hW))
  rintro r w2 ⟨(⟨h1,v,rfl,h2⟩ | ⟨h1,rfl⟩),hb2⟩
  . obtain ⟨ao,cc,rfl⟩:=h2.shape
    go_wp2
    refine bodyPost_ret (v:=.tuple #[.slice ao s.n cc,.int .i64 0]) (by simp [results,Tryz.results76,go_sem]) rfl ⟨.inl ⟨h1,_,rfl,h2.lower hbB.size⟩,bel_trans hbB hb2⟩
  . go_wp2
    refine bodyPost_ret (v:=.tuple #[.slice none 0 0,.int .i64 14]) (by simp [results,Tryz.results76,go_sem]) rfl ⟨.inr ⟨h1,rfl⟩,bel_trans hbB hb2⟩
theorem xval_fin {d:Nat->Int}:∀ {n},xval d n=true->∀ i,i < n->pok (d i)=true
  | 0,_,i,hi=>absurd hi (Nat.not_lt_zero _)
  | n + 1,h,i,hi=>by
    rw [xval_succ,Bool.and_eq_true] at h
    by_cases e:i=n
    . subst e
      have h2:=h.2
      unfold xok at h2
      rw [Bool.and_eq_true] at h2
      cases hp:pok (d i)
      . exfalso
        have hf:fld (d i)=2047:=by simpa [pok] using hp
        have:pmag (d i)=0:=by unfold pmag; rw [if_pos hf]
        simp [this] at h2
      . rfl
    . exact xval_fin h.1 i (by omega)
theorem XR.of_gr {w w1 w':World} {ok:Bool} {s:Ls} {r:Ending} (hb:w.grownBy w1 none) (h:(ok=true∧∃ v,r=.returned v∧LsO w.heap.size w' v s∧Below w.heap.size w1 w')∨(ok=false∧r=gaveX∧Below w.heap.size w1 w')):XR w ok s r w':=by
  have hb0:Below w.heap.size w w1:=grown_below hb
  rcases h with ⟨h1,v,h2,h3,h4⟩ | ⟨h1,h2,h3⟩
  . exact ⟨.inl ⟨h1,v,h2,h3⟩,hb0.trans h4⟩
  . exact ⟨.inr ⟨h1,h2⟩,hb0.trans h3⟩
set_option maxRecDepth 100000 in
theorem xsum_any {eo fo:Option Addr} {n ec m fc:Nat} {d f:Nat->Int} (w:World) (h:Row w eo n ec d) (hf:Row w fo m fc f) (hd:∀ i,i < n->rng (d i)∧pok (d i)=true) (hff:∀ i,i < m->rng (f i)∧pok (f i)=true) (hn:n + m <= 600000) :
    Calls Tryz.prog 114 #[.slice eo n ec,.slice fo m fc] w fun r w'=>XR w (gaX ⟨n,d⟩ f m) (gaS ⟨n,d⟩ f m) r w':=by
  have CO:=xown_any w h (by omega)
  have CG:Hid (∀ W v,w.grownBy W none->LsO w.heap.size W v ⟨n,d⟩->Calls Tryz.prog 111 #[v,.slice fo m fc] W fun e w'=>(gaX ⟨n,d⟩ f m=true∧∃ v',e=.returned v'∧LsO w.heap.size w' v' (gaS ⟨n,d⟩ f m)∧Below w.heap.size W w')∨(gaX ⟨n,d⟩ f m=false∧e=gaveX∧Below w.heap.size W w')):=fun W v hW hL=>
    xgather_any W hL hd (fun W' hW'=>hf.keeps ((grown_below hW).trans hW')) hff (show n + m <= 700000 by omega) hW.size
  generalize gaX ⟨n,d⟩ f m=X at *
  generalize gaS ⟨n,d⟩ f m=S at *
  go_enter Tryz.func114,Tryz.ntmps114
  go_wp2_with fail
  refine CO.mono ?_
  rintro _ w1 ⟨v,rfl,hL,hg⟩
  obtain ⟨ao,cc,rfl⟩:=hL.shape
  go_wp2_with fail
  refine (CG.out _ _ hg hL).mono ?_
  rintro _ w2 (⟨h1,v',rfl,h3,h4⟩ | ⟨h1,rfl,h3⟩)
  . obtain ⟨ao',cc',rfl⟩:=h3.shape
    go_wp2
    go_ret
    exact XR.of_gr hg (.inl ⟨h1,_,rfl,h3,h4⟩)
  . unfold gaveX
    go_wp2
    exact ⟨rfl,XR.of_gr hg (.inr ⟨h1,rfl,h3⟩)⟩
def sclN (d:Nat->Int) (b:Int):Nat->Ls
  | 0=>⟨0,fun _=>0⟩
  | n + 1=>if rg b=0 then ⟨0,fun _=>0⟩ else scl ⟨0,fun _=>0⟩ d b n
def sxN (d:Nat->Int) (b:Int):Nat->Bool
  | 0=>true
  | n + 1=>if rg b=0 then true else sx d b n
end Go.Proofs.YtafnigjehkpggaaGreatDoor
namespace Go.Proofs.YtafnigjehkpggaaGreatDoor
open Go Go.RowKit Go.Proofs.YtafnigjehkpggaaGreatDoor.M Ieee
set_option linter.unusedSimpArgs false
set_option linter.unusedVariables false
end Go.Proofs.YtafnigjehkpggaaGreatDoor
namespace Go.Proofs.YtafnigjehkpggaaGreatDoor
open Go Go.RowKit Go.Proofs.YtafnigjehkpggaaGreatDoor.M
set_option linter.unusedSimpArgs false
set_option linter.unusedVariables false
theorem LsO.row {B:Nat} {w:World} {v:Value} {s:Ls} (h:LsO B w v s):∃ ao cap,v=.slice ao s.n cap∧Row w ao s.n cap s.d:=by
  rcases h with h | ⟨h0,ad,rfl⟩
  . exact h.row
  . rw [h0]
    exact ⟨some ad,0,rfl,Nat.le_refl _,by decide,(fun q=>by cases q),fun q=>by omega⟩
theorem XA.yes {w w':World} {ok:Bool} {s:Ls} {r:Ending} (h:XA w ok s r w') (ho:ok=true):∃ ao cap,r=.returned (.tuple #[.slice ao s.n cap,.int .i64 0])∧Row w' ao s.n cap s.d∧Below w.heap.size w w':=by
  obtain ⟨(⟨_,v,h1,h2⟩ | ⟨h1,_⟩),hb⟩:=h
  . obtain ⟨ao,cap,rfl,hR⟩:=h2.row
    exact ⟨ao,cap,h1,hR,hb⟩
  . rw [ho] at h1; cases h1
theorem XA.no {w w':World} {ok:Bool} {s:Ls} {r:Ending} (h:XA w ok s r w') (ho:ok=false):r=.returned (.tuple #[.slice none 0 0,.int .i64 14])∧Below w.heap.size w w':=by
  obtain ⟨(⟨h1,_⟩ | ⟨_,h1⟩),hb⟩:=h
  . rw [ho] at h1; cases h1
  . exact ⟨h1,hb⟩
end Go.Proofs.YtafnigjehkpggaaGreatDoor
namespace Go.Proofs.YtafnigjehkpggaaGreatDoor
open Go Go.RowKit Go.Proofs.YtafnigjehkpggaaGreatDoor.M Ieee
set_option linter.unusedSimpArgs false
set_option linter.unusedVariables false
theorem k_sp1 {a c B M:Int} (h:(a.natAbs:Int) <= B) (hM:268435455 * B <= M):((134217729 * a).natAbs:Int) <= M:=by omega
theorem k_sp2 {a c B M:Int} (h:(a.natAbs:Int) <= B) (hM:268435455 * B <= M) (r:1000 * (c - 134217729 * a).natAbs <= (134217729 * a).natAbs):((c - a).natAbs:Int) <= M∧((c - a).natAbs:Int) <= 200000000 * B:=by omega
theorem k_sp3 {a c d B M:Int} (h:(a.natAbs:Int) <= B) (hM:268435455 * B <= M) (g:((c - a).natAbs:Int) <= 200000000 * B) (r:1000 * (d - (c - a)).natAbs <= (c - a).natAbs):((c - d).natAbs:Int) <= M∧((c - d).natAbs:Int) <= 300000 * B:=by omega
theorem k_sp4 {a c d x B M:Int} (h:(a.natAbs:Int) <= B) (hM:268435455 * B <= M) (g:((c - d).natAbs:Int) <= 300000 * B) (r:1000 * (x - (c - d)).natAbs <= (c - d).natAbs):((a - x).natAbs:Int) <= M:=by omega
theorem sp_fin {p B:Int} (hp:M.rng p) (pp:pok p=true) (h:((iV p).natAbs:Int) <= B) (hM:268435455 * B <= maxV):pok (spL p)=true:=by
  have rc:M.rng (cC p):=fprod_rng spl_rng hp
  have rd:=fsum_rng rc (neg_rng hp)
  have rH:M.rng (spH p):=fsum_rng rc (neg_rng rd)
  have S1:=stp_split hp pp
  have pc:=S1.fin (k_sp1 (c:=0) h hM)
  have r1:=nr_rel (S1.nr pc)
  obtain ⟨g1,g2⟩:=k_sp2 h hM r1
  have S2:=stp_diff rc hp pc pp
  have pd:=S2.fin g1
  have r2:=nr_rel (S2.nr pd)
  obtain ⟨g3,g4⟩:=k_sp3 h hM g2 r2
  have S3:=stp_diff rc rd pc pd
  have pH:=S3.fin g3
  have r3:=nr_rel (S3.nr pH)
  exact (stp_diff hp rH pp pH).fin (k_sp4 h hM g4 r3)
theorem pr_1 {a b h M:Int} (h1:((a.natAbs:Int) + b.natAbs) <= M):((a + b).natAbs:Int) <= M:=by omega
theorem pr_2 {a b h M:Int} (ha:2 * (a.natAbs:Int) <= M) (hb:2 * (b.natAbs:Int) <= M) (e1:(h - (a + b)).natAbs <= (a - (a + b)).natAbs):((h - a).natAbs:Int) <= M:=by omega
theorem pr_3 {a b h v M:Int} (ha:2 * (a.natAbs:Int) <= M) (e2:(h - (a + b)).natAbs <= (b - (a + b)).natAbs) (e3:(v - (h - a)).natAbs <= (b - (h - a)).natAbs):((h - v).natAbs:Int) <= M:=by omega
theorem pr_4 {a b h v u M:Int} (ha:2 * (a.natAbs:Int) <= M) (e2:(h - (a + b)).natAbs <= (b - (a + b)).natAbs) (e3:(v - (h - a)).natAbs <= (b - (h - a)).natAbs) (e4:(u - (h - v)).natAbs <= (a - (h - v)).natAbs):((a - u).natAbs:Int) <= M∧(a - u).natAbs <= 2 * (h - (a + b)).natAbs:=by omega
theorem pr_5 {a b h v M:Int} (hb:2 * (b.natAbs:Int) <= M) (e1:(h - (a + b)).natAbs <= (a - (a + b)).natAbs) (e3:(v - (h - a)).natAbs <= (b - (h - a)).natAbs):((b - v).natAbs:Int) <= M∧(b - v).natAbs <= 2 * (h - (a + b)).natAbs:=by omega
theorem pr_6 {S h x y p q M:Int} (hM:(S.natAbs:Int) <= M) (r:1000 * (h - S).natAbs <= S.natAbs) (g1:x.natAbs <= 2 * (h - S).natAbs) (g2:y.natAbs <= 2 * (h - S).natAbs) (n1:(p - x).natAbs <= (0 - x).natAbs) (n2:(q - y).natAbs <= (0 - y).natAbs):((p + q).natAbs:Int) <= M:=by omega
theorem sum_fin {p q:Int} (hp:M.rng p) (hq:M.rng q) (pp:pok p=true) (pq:pok q=true) (h1:2 * ((iV p).natAbs:Int) <= maxV) (h2:2 * ((iV q).natAbs:Int) <= maxV):pok (fsum p q)=true∧pok (sL p q)=true:=by
  have rh:=fsum_rng hp hq
  have rv:M.rng (sV p q):=fsum_rng rh (neg_rng hp)
  have rU:=fsum_rng rh (neg_rng rv)
  have rX:=fsum_rng hp (neg_rng rU)
  have rY:=fsum_rng hq (neg_rng rv)
  have Sh:=stp_sum hp hq pp pq
  have hM:=pr_1 (h:=0) (a:=iV p) (b:=iV q) (M:=maxV) (by omega)
  have ph:=Sh.fin hM
  have nh:=Sh.nr ph
  have e1:=nh.2 _ (fl_iV p)
  have e2:=nh.2 _ (fl_iV q)
  have Sv:=stp_diff rh hp ph pp
  have pv:=Sv.fin (pr_2 h1 h2 e1)
  have nv:=Sv.nr pv
  have e3:=nv.2 _ (fl_iV q)
  have SU:=stp_diff rh rv ph pv
  have pU:=SU.fin (pr_3 h1 e2 e3)
  have e4:=(SU.nr pU).2 _ (fl_iV p)
  have SX:=stp_diff hp rU pp pU
  obtain ⟨g1,g2⟩:=pr_4 h1 e2 e3 e4
  have pX:=SX.fin g1
  have SY:=stp_diff hq rv pq pv
  obtain ⟨g3,g4⟩:=pr_5 h2 e1 e3
  have pY:=SY.fin g3
  exact ⟨ph,(stp_sum rX rY pX pY).fin (pr_6 hM (nr_rel nh) g2 g4 ((SX.nr pX).2 _ fl_zero) ((SY.nr pY).2 _ fl_zero))⟩
theorem hlv_small {a h l:Int} (H:Hlv a h l):67108864 * (l.natAbs:Int) <= (a.natAbs:Int):=by
  by_cases h0:a=0
  . have:=H.zero h0
    have:=H.sum
    omega
  . obtain ⟨x,j,s,g1,g2⟩:=H.spl h0
    have e:2 ^ x * a - 2 ^ x * h=2 ^ x * l:=by rw [<- Int.mul_sub]; congr 1; have:=H.sum; omega
    have u4:=s.low
    rw [e,natAbs_p2] at u4
    rw [natAbs_p2] at g1
    have hx:=p2 x
    have hj:=p2 j
    have:(2:Int) ^ x * (67108864 * (l.natAbs:Int)) <= 2 ^ x * (a.natAbs:Int):=by
      rw [show (2:Int) ^ x * (67108864 * (l.natAbs:Int))=67108864 * (2 ^ x * (l.natAbs:Int)) by ac_rfl]
      omega
    exact Int.le_of_mul_le_mul_left this hx
theorem pr_ratio {K T U a b x y c:Int} (hK:0 < K) (hT:K * T=a * b) (hU:K * U=x * y) (h:c * ((x * y).natAbs:Int) <= ((a * b).natAbs:Int)):c * (U.natAbs:Int) <= (T.natAbs:Int):=by
  rw [<- hT,<- hU,Int.natAbs_mul,Int.natAbs_mul,Int.natCast_mul,Int.natCast_mul,show ((K.natAbs:Nat):Int)=K by omega,show c * (K * (U.natAbs:Int))=K * (c * (U.natAbs:Int)) by ac_rfl] at h
  exact Int.le_of_mul_le_mul_left h hK
theorem pr_m1 {q r a b:Int} (hq:67108864 * (q.natAbs:Int) <= (a.natAbs:Int)) (hr:(r.natAbs:Int) <= 2 * (b.natAbs:Int)):33554432 * ((q * r).natAbs:Int) <= ((a * b).natAbs:Int):=by
  rw [Int.natAbs_mul,Int.natAbs_mul,Int.natCast_mul,Int.natCast_mul]
  have h1:=Int.mul_le_mul hq hr (by omega) (by omega)
  generalize (q.natAbs:Int)=Q at *
  generalize (r.natAbs:Int)=R at *
  generalize (a.natAbs:Int)=A at *
  generalize (b.natAbs:Int)=B at *
  rw [show 67108864 * Q * R=67108864 * (Q * R) by ac_rfl,show A * (2 * B)=2 * (A * B) by ac_rfl] at h1
  omega
end Go.Proofs.YtafnigjehkpggaaGreatDoor
namespace Go.Proofs.YtafnigjehkpggaaGreatDoor
open Go Go.RowKit Go.Proofs.YtafnigjehkpggaaGreatDoor.M
set_option linter.unusedSimpArgs false
set_option linter.unusedVariables false
theorem cls_nought {b:Int} (hb:rng b):cls b=0 ↔ rg b=0:=by
  have h1:=q_cls hb
  rw [<- h1]
  constructor
  . intro h
    have hr:=(q_rg hb).1
    have h0:0 <= rg b:=(q_rg hb).2
    generalize rg b=r at *
    unfold rng at hr
    unfold cls fld frc at h
    split at h
    . split at h <;> omega
    . split at h
      . split at h
        . omega
        . omega
      . omega
  . intro h; rw [h]; decide
theorem Ls.same.refl (s:Ls):s.same s:=⟨rfl,fun _ _=>rfl⟩
theorem Ls.same.symm {s t:Ls} (h:s.same t):t.same s:=⟨h.1.symm,fun i hi=>(h.2 i (by rw [h.1]; exact hi)).symm⟩
theorem Ls.same.trans {s t u:Ls} (h:s.same t) (k:t.same u):s.same u:=⟨h.1.trans k.1,fun i hi=>(h.2 i hi).trans (k.2 i (by rw [<- h.1]; exact hi))⟩
theorem gq_same {d f:Nat->Int} {q:Int} {n:Nat} (h:∀ i,i < n->d i=f i):∀ k,k <= n->gq d q k=gq f q k
  | 0,_=>rfl
  | k + 1,hk=>by
    show fsum (gq d q k) (d k)=fsum (gq f q k) (f k)
    rw [gq_same h k (by omega),h k (by omega)]
theorem gl_same {d f:Nat->Int} {q:Int} {n:Nat} (h:∀ i,i < n->d i=f i) (k:Nat) (hk:k < n):gl d q k=gl f q k:=by
  unfold gl
  rw [gq_same h k (by omega),h k hk]
theorem gx_same {d f:Nat->Int} {q:Int} {n:Nat} (h:∀ i,i < n->d i=f i):∀ k,k <= n->gx d q k=gx f q k
  | 0,_=>rfl
  | k + 1,hk=>by
    show (gx d q k && pok (gl d q k))=(gx f q k && pok (gl f q k))
    rw [gx_same h k (by omega),gl_same h k (by omega)]
theorem gs_same {d f:Nat->Int} {q:Int} {n:Nat} (h:∀ i,i < n->d i=f i):∀ k,k <= n->(gs d q k).same (gs f q k)
  | 0,_=>⟨rfl,fun i hi=>absurd hi (Nat.not_lt_zero _)⟩
  | k + 1,hk=>by
    show ((gs d q k).add (gl d q k)).same ((gs f q k).add (gl f q k))
    rw [gl_same h k (by omega)]
    exact (gs_same h k (by omega)).add _
theorem grw_same {d f:Nat->Int} {q:Int} {n:Nat} (h:∀ i,i < n->d i=f i):(grw n d q).same (grw n f q):=by
  unfold grw
  rw [gq_same h n (Nat.le_refl _)]
  exact (gs_same h n (Nat.le_refl _)).add _
theorem ss_same {s t:Ls} (h:s.same t) (d:Nat->Int) (b:Int):∀ k,(ss s d b k).same (ss t d b k)
  | 0=>h.add _
  | k + 1=>((ss_same h d b k).add _).add _
theorem gaS_same {s t:Ls} (h:s.same t) {f g:Nat->Int} {m:Nat} (hf:∀ i,i < m->f i=g i):∀ k,k <= m->(gaS s f k).same (gaS t g k)∧gaX s f k=gaX t g k
  | 0,_=>⟨h,rfl⟩
  | k + 1,hk=>by
    obtain ⟨h1,h2⟩:=gaS_same h hf k (by omega)
    rw [gaS_succ,gaS_succ,gaX_succ,gaX_succ,h2,hf k (by omega),<- h1.1,gx_same h1.2 _ (Nat.le_refl _)]
    exact ⟨grw_same h1.2,rfl⟩
theorem sclN_le (d:Nat->Int) (b:Int):∀ n,(sclN d b n).n <= 2 * n
  | 0=>Nat.le_refl _
  | n + 1=>by
    show (if rg b=0 then (⟨0,fun _=>0⟩:Ls) else scl ⟨0,fun _=>0⟩ d b n).n <= _
    split
    . exact Nat.zero_le _
    . have h1:=ss_le ⟨0,fun _=>0⟩ d b n
      have h2:=((ss ⟨0,fun _=>0⟩ d b n).add_le (sq d b n)).2
      have h1':(ss ⟨0,fun _=>0⟩ d b n).n <= 0 + 2 * n + 1:=h1
      show ((ss ⟨0,fun _=>0⟩ d b n).add (sq d b n)).n <= _
      omega
def Lo (x y:Int):Prop:=∃ s:Nat,(x.natAbs:Int) < 2 ^ s∧(2 ^ s:Int) ∣ y
theorem dvd_abs_le {x y:Int} (h:x ∣ y) (h0:y ≠ 0) (hx:0 < x):x <= (y.natAbs:Int):=by
  have h1:x ∣ (y.natAbs:Int):=Int.dvd_natAbs.2 h
  exact Int.le_of_dvd (by omega) h1
theorem nr_unit {S x:Int} (n:Nr S x) (hne:x ≠ S):∃ u:Nat,(2 ^ u:Int) ∣ x∧((S - x).natAbs:Int) < 2 ^ u:=by
  obtain ⟨k,h1,h2⟩:=binade (S.natAbs:Int) (by omega)
  rcases h2 with rfl | h2
  . exfalso
    have:Fl S:=⟨0,⟨S,by simp⟩,by simpa using h1⟩
    exact hne (nr_self this n)
  . have f:Fl (4503599627370496 * 2 ^ k:Int):=by
      have:=fl_p2 k (m:=4503599627370496) (by decide)
      exact this
    have h3:=dk5 n f h2
    have h4:=nr_err n (i:=k) (by omega)
    have p:=p2 k
    exact ⟨k,fl_units n.1 h3,by omega⟩
theorem nr_loss {a b x:Int} (ha:Fl a) (n:Nr (a + b) x):(a + b - x).natAbs <= b.natAbs:=by
  have:=n.2 a ha
  omega
theorem Lo.trans {x y z:Int} (h:Lo x y) (hy:y ≠ 0) (k:Lo y z):Lo x z:=by
  obtain ⟨s,h1,h2⟩:=h
  obtain ⟨t,k1,k2⟩:=k
  have h3:=dvd_abs_le h2 hy (p2 s)
  have h4:s < t:=p2lt (Int.lt_of_le_of_lt h3 k1)
  exact ⟨s,h1,Int.dvd_trans (p2dvd (by omega)) k2⟩
theorem iV_nought {b:Int} (hb:rng b) (h:rg b=0):iV b=0:=by
  have:=iV_abs b
  rw [h] at this
  have h2:(V Ieee.double (0:Int).toNat:Int)=0:=by decide +kernel
  omega
theorem iV_some {b:Int} (hb:rng b) (pb:pok b=true) (h:rg b ≠ 0):iV b ≠ 0∧pmag b ≠ 0:=by
  have e:=iV_form hb pb
  have hm:pmag b ≠ 0:=by
    intro q
    have hc:cls b=0:=by
      have hf:fld b ≠ 2047:=by simpa [pok] using pb
      have:=frc_le b
      unfold pmag at q
      rw [if_neg hf] at q
      unfold cls
      rw [if_neg hf]
      by_cases h0:fld b=0
      . rw [if_pos h0] at q ⊢
        rw [if_pos q]
      . rw [if_neg h0] at q
        omega
    exact h ((cls_nought hb).1 hc)
  refine ⟨fun q=>?_,hm⟩
  obtain ⟨i0,_⟩:=pmag_in pb
  have p1:=two_pos (pexp b + 1074).toNat
  have:0 < pmag b * 2 ^ (pexp b + 1074).toNat:=Int.mul_pos (by omega) p1
  rw [q] at e
  omega
theorem odd_dvd {s t:Nat} {m:Int} (h:(2 ^ s:Int) ∣ 2 ^ t * (2 * m + 1)):s <= t:=by
  apply Classical.byContradiction
  intro hn
  obtain ⟨r,rfl⟩:∃ r,s=t + 1 + r:=⟨s - t - 1,by omega⟩
  obtain ⟨c,hc⟩:=h
  rw [Int.pow_add,Int.pow_add,Int.mul_assoc,Int.mul_assoc] at hc
  have:=Int.eq_of_mul_eq_mul_left (Int.ne_of_gt (two_pos t)) hc
  omega
theorem lo_iff {a b:Int} (ha:rng a) (hb:rng b) (pa:pok a=true) (pb:pok b=true) (ma:pmag a ≠ 0) (mb:pmag b ≠ 0):(pexp a + blen (pmag a) <= pexp b + jz (pmag b)) ↔ Lo (iV a) (iV b):=by
  obtain ⟨i0,i1,i2,i3⟩:=pmag_in pa
  obtain ⟨j0,j1,j2,j3⟩:=pmag_in pb
  obtain ⟨m,hm,_,_⟩:=jz_spec (show 0 < pmag b by omega) (by omega)
  have e1:=iV_form ha pa
  have e2:=iV_form hb pb
  have hl:=blen_lt (pmag a)
  obtain ⟨_,hg⟩:=blen_pos (show 0 < pmag a by omega)
  have hb1:1 <= blen (pmag a):=(blen_pos (show 0 < pmag a by omega)).1
  have p1:=two_pos (pexp a + 1074).toNat
  have p2':=two_pos (pexp b + 1074).toNat
  have s1:pmag a * 2 ^ (pexp a + 1074).toNat < 2 ^ blen (pmag a) * 2 ^ (pexp a + 1074).toNat:=Int.mul_lt_mul_of_pos_right hl p1
  rw [<- Int.pow_add] at s1
  have s2:(2:Int) ^ (blen (pmag a) - 1) * 2 ^ (pexp a + 1074).toNat <= pmag a * 2 ^ (pexp a + 1074).toNat:=Int.mul_le_mul_of_nonneg_right hg (by omega)
  rw [<- Int.pow_add] at s2
  have e3:((iV b).natAbs:Int)=2 ^ (jz (pmag b) + (pexp b + 1074).toNat) * (2 * (m:Int) + 1):=by
    rw [e2,Int.pow_add]
    calc pmag b * 2 ^ (pexp b + 1074).toNat=2 ^ jz (pmag b) * (2 * (m:Int) + 1) * 2 ^ (pexp b + 1074).toNat:=by rw [<- hm]
      _=_:=by rw [Int.mul_assoc,Int.mul_comm (2 * (m:Int) + 1),<- Int.mul_assoc]
  constructor
  . intro h
    refine ⟨blen (pmag a) + (pexp a + 1074).toNat,by rw [e1]; exact s1,?_⟩
    apply Int.dvd_natAbs.1
    rw [e3]
    exact Int.dvd_trans (p2dvd (by omega)) ⟨_,rfl⟩
  . rintro ⟨s,h1,h2⟩
    have h3:(2 ^ s:Int) ∣ 2 ^ (jz (pmag b) + (pexp b + 1074).toNat) * (2 * (m:Int) + 1):=by
      rw [<- e3]
      exact Int.dvd_natAbs.2 h2
    have h4:=odd_dvd h3
    rw [e1] at h1
    have h5:=p2lt (Int.lt_of_le_of_lt s2 h1)
    omega
structure XV (d:Nat->Int) (n:Nat):Prop where
  fin:∀ i,i < n->rng (d i)∧pok (d i)=true∧rg (d i) ≠ 0
  lo:∀ i,i + 1 < n->Lo (iV (d i)) (iV (d (i + 1)))
theorem XV.ne {d:Nat->Int} {n:Nat} (h:XV d n) {i:Nat} (hi:i < n):iV (d i) ≠ 0:=(iV_some (h.fin i hi).1 (h.fin i hi).2.1 (h.fin i hi).2.2).1
theorem xval_of {d:Nat->Int}:∀ {n},XV d n->xval d n=true
  | 0,_=>rfl
  | n + 1,h=>by
    have ih:xval d n=true:=xval_of ⟨fun i hi=>h.fin i (by omega),fun i hi=>h.lo i (by omega)⟩
    rw [xval_succ,ih,Bool.true_and]
    obtain ⟨r,p,z⟩:=h.fin n (by omega)
    have hm:=(iV_some r p z).2
    have hx:=xmag_in (d n)
    unfold xok
    have hz:decide (pmag (d n)=0)=false:=decide_eq_false hm
    rw [hz]
    cases n with
    | zero=>
      have:xab d 0=-9223372036854775808:=rfl
      rw [this]
      have:¬ (pexp (d 0) + jz (pmag (d 0)) < -9223372036854775808):=by omega
      simp [this]
    | succ j=>
      have e:xab d (j + 1)=pexp (d j) + blen (pmag (d j)):=rfl
      obtain ⟨r',p',z'⟩:=h.fin j (by omega)
      have:=(lo_iff r' r p' p (iV_some r' p' z').2 hm).2 (h.lo j (by omega))
      rw [e]
      have:¬ (pexp (d (j + 1)) + jz (pmag (d (j + 1))) < pexp (d j) + blen (pmag (d j))):=by omega
      simp [this]
theorem XV.far {d:Nat->Int} {n:Nat} (h:XV d n) {i:Nat}:∀ {j},i < j->j < n->Lo (iV (d i)) (iV (d j))
  | 0,hij,_=>absurd hij (Nat.not_lt_zero _)
  | j + 1,hij,hj=>by
    by_cases e:i=j
    . subst e; exact h.lo i hj
    . exact (h.far (show i < j by omega) (by omega)).trans (h.ne (by omega)) (h.lo j hj)
structure GI (d:Nat->Int) (q:Int) (n k:Nat):Prop where
  xv:XV (gs d q k).d (gs d q k).n
  up:∀ i,i < (gs d q k).n->∃ s:Nat,((iV ((gs d q k).d i)).natAbs:Int) < 2 ^ s∧(2 ^ s:Int) ∣ iV (gq d q k)∧∀ j,k <= j->j < n->(2 ^ s:Int) ∣ iV (d j)
theorem XV.add {s:Ls} (h:XV s.d s.n) {b:Int} (hb:rng b) (pb:pok b=true) (hlo:∀ i,i < s.n->Lo (iV (s.d i)) (iV b)):XV (s.add b).d (s.add b).n:=by
  unfold Ls.add
  split
  . exact h
  . rename_i hz
    refine ⟨fun i hi=>?_,fun i hi=>?_⟩
    . show rng (upd s.d s.n b i)∧pok (upd s.d s.n b i)=true∧rg (upd s.d s.n b i) ≠ 0
      by_cases e:i=s.n
      . subst e; rw [upd_same]; exact ⟨hb,pb,hz⟩
      . rw [upd_other _ _ e]; exact h.fin i (by have:i < s.n + 1:=hi; omega)
    . have hi':i + 1 < s.n + 1:=hi
      show Lo (iV (upd s.d s.n b i)) (iV (upd s.d s.n b (i + 1)))
      rw [upd_other _ _ (show i ≠ s.n by omega)]
      by_cases e:i + 1=s.n
      . rw [e,upd_same]; exact hlo i (by omega)
      . rw [upd_other _ _ e]; exact h.lo i (by omega)
theorem fsum_nr {p q:Int} (hp:rng p) (hq:rng q) (h:pok (sL p q)=true):Nr (iV p + iV q) (iV (fsum p q)):=by
  obtain ⟨⟨pp,pq⟩,ps,e⟩:=sL_exact hp hq h
  exact (stp_sum hp hq pp pq).nr ps
theorem gi_step {d:Nat->Int} {q:Int} {n k:Nat} (hd:XV d n) (hq:rng q) (pq:pok q=true) (hk:k < n) (hx:gx d q (k + 1)=true) (h:GI d q n k):GI d q n (k + 1):=by
  have hfin:∀ i,i < n->rng (d i)∧pok (d i)=true:=fun i hi=>⟨(hd.fin i hi).1,(hd.fin i hi).2.1⟩
  have hx':(gx d q k && pok (gl d q k))=true:=hx
  rw [Bool.and_eq_true] at hx'
  obtain ⟨r1,r2⟩:=gq_fin hfin hq pq k (by omega) hx'.1
  obtain ⟨d1,d2⟩:=hfin k hk
  have hl:pok (sL (gq d q k) (d k))=true:=hx'.2
  obtain ⟨_,ps,e⟩:=sL_exact r1 d1 hl
  have nr:=fsum_nr r1 d1 hl
  have rl:rng (gl d q k):=sL_rng r1 d1
  have eq1:gq d q (k + 1)=fsum (gq d q k) (d k):=rfl
  have egl:gl d q k=sL (gq d q k) (d k):=rfl
  have es:gs d q (k + 1)=(gs d q k).add (gl d q k):=rfl
  rw [<- egl,<- eq1] at e
  rw [<- eq1] at nr
  have herr:iV (gl d q k)=iV (gq d q k) + iV (d k) - iV (gq d q (k + 1)):=by omega
  have hold:∀ i,i < (gs d q k).n->∃ s:Nat,((iV ((gs d q k).d i)).natAbs:Int) < 2 ^ s∧(2 ^ s:Int) ∣ iV (gq d q (k + 1))∧(2 ^ s:Int) ∣ iV (gl d q k)∧∀ j,k + 1 <= j->j < n->(2 ^ s:Int) ∣ iV (d j):=fun i hi=>by
    obtain ⟨s,h1,h2,h3⟩:=h.up i hi
    have h4:(2 ^ s:Int) ∣ iV (gq d q k) + iV (d k):=Int.dvd_add h2 (h3 k (Nat.le_refl _) hk)
    have h5:=nr_dvd nr h4
    exact ⟨s,h1,h5,by rw [herr]; exact Int.dvd_sub h4 h5,fun j hj hjn=>h3 j (by omega) hjn⟩
  have hnew:rg (gl d q k) ≠ 0->∃ s:Nat,((iV (gl d q k)).natAbs:Int) < 2 ^ s∧(2 ^ s:Int) ∣ iV (gq d q (k + 1))∧∀ j,k + 1 <= j->j < n->(2 ^ s:Int) ∣ iV (d j):=fun hz=>by
    have hne:=(iV_some rl hx'.2 hz).1
    obtain ⟨u,h1,h2⟩:=nr_unit nr (fun c=>hne (by rw [herr,c]; omega))
    rw [<- herr] at h2
    by_cases hlast:k + 1 < n
    . obtain ⟨t,k1,k2⟩:=hd.lo k hlast
      have h3:=nr_loss (fl_iV (gq d q k)) nr
      rw [<- herr] at h3
      have hup:∀ j,k + 1 <= j->j < n->(2 ^ t:Int) ∣ iV (d j):=fun j hj hjn=>by
        by_cases e:j=k + 1
        . subst e; exact k2
        . obtain ⟨t2,m1,m2⟩:=hd.far (show k + 1 < j by omega) hjn
          have h4:=dvd_abs_le k2 (hd.ne hlast) (p2 t)
          have h5:t < t2:=p2lt (Int.lt_of_le_of_lt h4 m1)
          exact Int.dvd_trans (p2dvd (by omega)) m2
      by_cases hut:u <= t
      . exact ⟨u,h2,h1,fun j hj hjn=>Int.dvd_trans (p2dvd hut) (hup j hj hjn)⟩
      . exact ⟨t,by omega,Int.dvd_trans (p2dvd (by omega)) h1,hup⟩
    . exact ⟨u,h2,h1,fun j hj hjn=>by omega⟩
  refine ⟨?_,?_⟩
  . rw [es]
    exact h.xv.add rl hx'.2 fun i hi=>by
      obtain ⟨s,h1,_,h3,_⟩:=hold i hi
      exact ⟨s,h1,h3⟩
  . rw [es]
    intro i hi
    by_cases hz:rg (gl d q k)=0
    . have ea:(gs d q k).add (gl d q k)=gs d q k:=by unfold Ls.add; rw [if_pos hz]
      rw [ea] at hi ⊢
      obtain ⟨s,h1,h2,_,h4⟩:=hold i hi
      exact ⟨s,h1,h2,h4⟩
    . have ea:(gs d q k).add (gl d q k)=⟨(gs d q k).n + 1,upd (gs d q k).d (gs d q k).n (gl d q k)⟩:=by unfold Ls.add; rw [if_neg hz]
      rw [ea] at hi ⊢
      have hi':i < (gs d q k).n + 1:=hi
      show ∃ s:Nat,((iV (upd (gs d q k).d (gs d q k).n (gl d q k) i)).natAbs:Int) < 2 ^ s∧_
      by_cases e:i=(gs d q k).n
      . subst e
        rw [upd_same]
        exact hnew hz
      . rw [upd_other _ _ e]
        obtain ⟨s,h1,h2,_,h4⟩:=hold i (by omega)
        exact ⟨s,h1,h2,h4⟩
theorem gi_all {d:Nat->Int} {q:Int} {n:Nat} (hd:XV d n) (hq:rng q) (pq:pok q=true):∀ k,k <= n->gx d q k=true->GI d q n k
  | 0,_,_=>⟨⟨fun i hi=>absurd hi (Nat.not_lt_zero _),fun i hi=>absurd hi (Nat.not_lt_zero _)⟩,fun i hi=>absurd hi (Nat.not_lt_zero _)⟩
  | k + 1,hk,hx=>by
    have hx':(gx d q k && pok (gl d q k))=true:=hx
    rw [Bool.and_eq_true] at hx'
    exact gi_step hd hq pq (by omega) hx (gi_all hd hq pq k (by omega) hx'.1)
theorem grw_xv {d:Nat->Int} {q:Int} {n:Nat} (hd:XV d n) (hq:rng q) (pq:pok q=true) (hx:gx d q n=true):XV (grw n d q).d (grw n d q).n:=by
  have hfin:∀ i,i < n->rng (d i)∧pok (d i)=true:=fun i hi=>⟨(hd.fin i hi).1,(hd.fin i hi).2.1⟩
  obtain ⟨r1,r2⟩:=gq_fin hfin hq pq n (Nat.le_refl _) hx
  have h:=gi_all hd hq pq n (Nat.le_refl _) hx
  exact h.xv.add r1 r2 fun i hi=>by
    obtain ⟨s,h1,h2,_⟩:=h.up i hi
    exact ⟨s,h1,h2⟩
def lsm (d:Nat->Int):Nat->Int
  | 0=>0
  | k + 1=>lsm d k + iV (d k)
theorem lsm_succ (d:Nat->Int) (k:Nat):lsm d (k + 1)=lsm d k + iV (d k):=rfl
theorem lsm_congr {d e:Nat->Int}:∀ {n},(∀ i,i < n->d i=e i)->lsm d n=lsm e n
  | 0,_=>rfl
  | n + 1,h=>by rw [lsm_succ,lsm_succ,lsm_congr fun i hi=>h i (by omega),h n (by omega)]
theorem lsm_add {s:Ls} {b:Int} (hb:rng b):lsm (s.add b).d (s.add b).n=lsm s.d s.n + iV b:=by
  unfold Ls.add
  split
  . rename_i hz
    rw [iV_nought hb hz,Int.add_zero]
  . show lsm (upd s.d s.n b) s.n + iV (upd s.d s.n b s.n)=_
    rw [upd_same,lsm_congr (e:=s.d) fun i hi=>upd_other _ _ (by omega)]
theorem gs_sum {d:Nat->Int} {q:Int} {n:Nat} (hd:∀ i,i < n->rng (d i)∧pok (d i)=true) (hq:rng q) (pq:pok q=true):∀ k,k <= n->gx d q k=true->lsm (gs d q k).d (gs d q k).n + iV (gq d q k)=iV q + lsm d k
  | 0,_,_=>by show 0 + iV q=iV q + 0; omega
  | k + 1,hk,hx=>by
    have hx':(gx d q k && pok (gl d q k))=true:=hx
    rw [Bool.and_eq_true] at hx'
    have ih:=gs_sum hd hq pq k (by omega) hx'.1
    obtain ⟨r1,r2⟩:=gq_fin hd hq pq k (by omega) hx'.1
    obtain ⟨d1,d2⟩:=hd k (by omega)
    have rl:rng (gl d q k):=sL_rng r1 d1
    obtain ⟨_,ps,e⟩:=sL_exact r1 d1 (show pok (sL (gq d q k) (d k))=true from hx'.2)
    have eq1:gq d q (k + 1)=fsum (gq d q k) (d k):=rfl
    have egl:gl d q k=sL (gq d q k) (d k):=rfl
    have es:gs d q (k + 1)=(gs d q k).add (gl d q k):=rfl
    rw [<- egl,<- eq1] at e
    rw [es,lsm_add rl,lsm_succ]
    omega
theorem grw_sum {d:Nat->Int} {q:Int} {n:Nat} (hd:∀ i,i < n->rng (d i)∧pok (d i)=true) (hq:rng q) (pq:pok q=true) (hx:gx d q n=true):lsm (grw n d q).d (grw n d q).n=iV q + lsm d n:=by
  have h:=gs_sum hd hq pq n (Nat.le_refl _) hx
  obtain ⟨r1,r2⟩:=gq_fin hd hq pq n (Nat.le_refl _) hx
  show lsm ((gs d q n).add (gq d q n)).d ((gs d q n).add (gq d q n)).n=_
  rw [lsm_add r1]
  exact h
theorem mult_lt {x u t:Int} {s:Nat} (hs:(2 ^ s:Int) ∣ x) (hu:(2 ^ s:Int) ∣ t) (h:(x.natAbs:Int) < t):(x.natAbs:Int) + 2 ^ s <= t:=by
  obtain ⟨a,ha⟩:=Int.dvd_natAbs.2 hs
  obtain ⟨b,hb⟩:=hu
  have p:=p2 s
  rw [ha,hb] at h ⊢
  have:a < b:=Int.lt_of_mul_lt_mul_left h (Int.le_of_lt p)
  have h2:(2:Int) ^ s * (a + 1) <= 2 ^ s * b:=Int.mul_le_mul_of_nonneg_left (by omega) (Int.le_of_lt p)
  rw [Int.mul_add,Int.mul_one] at h2
  exact h2
theorem lsm_lt {d:Nat->Int}:∀ {n},XV d (n + 1)->∀ t:Nat,((iV (d n)).natAbs:Int) < 2 ^ t->((lsm d (n + 1)).natAbs:Int) < 2 ^ t
  | 0,h,t,ht=>by
    have:lsm d 1=iV (d 0):=by rw [lsm_succ]; show 0 + _=_; omega
    rw [this]; exact ht
  | n + 1,h,t,ht=>by
    obtain ⟨s,h1,h2⟩:=h.lo n (by omega)
    have ih:=lsm_lt (n:=n) ⟨fun i hi=>h.fin i (by omega),fun i hi=>h.lo i (by omega)⟩ s h1
    have hge:=dvd_abs_le h2 (h.ne (by omega)) (p2 s)
    have hst:s < t:=p2lt (Int.lt_of_le_of_lt hge ht)
    have h3:=mult_lt (u:=0) h2 (p2dvd (show s <= t by omega)) ht
    rw [lsm_succ]
    omega
theorem maxV_ge:(2:Int) ^ 2097 <= maxV:=by
  have h:(2:Int) ^ 2097 <= (V Ieee.double 9218868437227405311:Int):=by decide +kernel
  exact h
theorem p2_up {b c:Nat} {x:Int} (h:(x.natAbs:Int) <= 2 ^ b) (hbc:b <= c):(x.natAbs:Int) <= 2 ^ c:=Int.le_trans h (p2le hbc)
def LB (s:Ls) (b:Nat):Prop:=∀ i,i < s.n->((iV (s.d i)).natAbs:Int) <= 2 ^ b
theorem LB.add {s:Ls} {b:Nat} (h:LB s b) {x:Int} (hx:((iV x).natAbs:Int) <= 2 ^ b):LB (s.add x) b:=by
  unfold Ls.add
  split
  . exact h
  . intro i hi
    show ((iV (upd s.d s.n x i)).natAbs:Int) <= _
    by_cases e:i=s.n
    . subst e; rw [upd_same]; exact hx
    . rw [upd_other _ _ e]; exact h i (by have:i < s.n + 1:=hi; omega)
theorem XV.fn {s:Ls} (h:XV s.d s.n):s.fin:=fun i hi=>⟨(h.fin i hi).1,(h.fin i hi).2.1⟩
theorem lsm_neg {f:Nat->Int}:∀ {m},(∀ i,i < m->rng (f i)∧pok (f i)=true)->lsm (fun i=>neg (f i)) m=-lsm f m
  | 0,_=>rfl
  | m + 1,h=>by
    rw [lsm_succ,lsm_succ,lsm_neg fun i hi=>h i (by omega),(neg_facts (h m (by omega)).1 (h m (by omega)).2).2.2]
    omega
end Go.Proofs.YtafnigjehkpggaaGreatDoor
