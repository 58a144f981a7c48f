/- Parts of the proof. -/
import Derived.Test.YtjjihmnbdeeedaaGreatDoorCe11
import Derived.Test.YtjjihmnbdeeedaaGreatDoorCe13
set_option linter.unusedVariables false
set_option linter.unusedSimpArgs false
namespace Go.Proofs.YtjjihmnbdeeedaaGreatDoor
open Go Go.RowKit Go.Proofs.YtjjihmnbdeeedaaGreatDoor.M
def pttame (x y:Int):Bool:=tame x && tame y
set_option maxRecDepth 100000 in
set_option maxHeartbeats 2000000 in
theorem cgood_any (px py:Nat->Int) (w:World) (hx:∀ i,rng (px i)) (hy:∀ i,rng (py i)) :
    Calls Tryz.prog 26 #[.agg #[.int .i64 (px 0),.int .i64 (py 0),.int .i64 (px 1),.int .i64 (py 1),.int .i64 (px 2),.int .i64 (py 2),.int .i64 (px 3),.int .i64 (py 3)]] w fun x w'=>x=.returned (.bool (allB (fun i=>ptok (px i) (py i)) 4))∧Below w.heap.size w w':=by
  have CC:Hid (∀ i W,Calls Tryz.prog 65 #[.agg #[.int .i64 (px i),.int .i64 (py i)]] W fun e w'=>e=.returned (.int .i64 (errF (ptok (px i) (py i))))∧Below W.heap.size W w'):=fun i W=>pointCheck (hx i) (hy i) W
  have e0:errF true=0:=rfl
  have e1:errF false=10:=rfl
  clear hx hy
  have hb0:=bel_alloc w (.cells #[.int .i64 (px 0),.int .i64 (py 0),.int .i64 (px 1),.int .i64 (py 1),.int .i64 (px 2),.int .i64 (py 2),.int .i64 (px 3),.int .i64 (py 3)] 52)
  have f_k:=heap_a1 w (.cells #[.int .i64 (px 0),.int .i64 (py 0),.int .i64 (px 1),.int .i64 (py 1),.int .i64 (px 2),.int .i64 (py 2),.int .i64 (px 3),.int .i64 (py 3)] 52)
  have f0:=blkC f_k 0 rfl
  have f1:=blkC f_k 1 rfl
  have f2:=blkC f_k 2 rfl
  have f3:=blkC f_k 3 rfl
  have f4:=blkC f_k 4 rfl
  have f5:=blkC f_k 5 rfl
  have f6:=blkC f_k 6 rfl
  have f7:=blkC f_k 7 rfl
  go_enter Tryz.func26,Tryz.ntmps26
  go_wp2_with fail
  clear f0 f1 f2 f3 f4 f5 f6 f7
  generalize w.alloc (.cells #[.int .i64 (px 0),.int .i64 (py 0),.int .i64 (px 1),.int .i64 (py 1),.int .i64 (px 2),.int .i64 (py 2),.int .i64 (px 3),.int .i64 (py 3)] 52)=x0 at hb0 f_k ⊢
  go_loopw [6] (fun i wr=>∃ k:Nat,k<=4∧i=.int .i64 k∧Hid (∀ j,j<k->ptok (px j) (py j)=true)∧Below w.heap.size w wr∧Below x0.heap.size x0 wr) (fun i _=>4-(intOf i).toNat)
  case atStart=>exact ⟨0,Nat.zero_le _,rfl,fun j hj=>by omega,hb0,bel_refl _⟩
  case round=>
    obtain ⟨k,hk,rfl,HO,hbw,hbx⟩:=hrel
    by_cases hlt:k<4
    . have k4:(k:Int)<4:=by omega
      have k0:(0:Int)<=(k:Int):=by omega
      have ix:∀ W,(Instr.index 52 (.agg #[.int .i64 (px 0),.int .i64 (py 0),.int .i64 (px 1),.int .i64 (py 1),.int .i64 (px 2),.int .i64 (py 2),.int .i64 (px 3),.int .i64 (py 3)]) (.int .i64 k)).run Tryz.prog W=.ok (.agg #[.int .i64 (px k),.int .i64 (py k)]) W:=fun W=>match k,hlt with
        | 0,_=>by kernel_rfl
        | 1,_=>by kernel_rfl
        | 2,_=>by kernel_rfl
        | 3,_=>by kernel_rfl
      have HK:Hid (ptok (px k) (py k)=false->false=allB (fun i=>ptok (px i) (py i)) 4):=fun q=>(decide_eq_false fun hx=>by have:=hx k hlt; simp only at this; rw [this] at q; cases q).symm
      have HY:Hid (ptok (px k) (py k)=true->∀ j,j<k+1->ptok (px j) (py j)=true):=fun q j hj=>by
        by_cases e:j=k
        . subst e; exact q
        . exact HO.out j (by omega)
      have CK:=CC.out k
      by_cases hok:ptok (px k) (py k)=true
      . rw [hok,e0] at CK
        have CKH:=hideIt CK
        clear CK
        replace HY:Hid (∀ j,j<k+1->ptok (px j) (py j)=true):=HY.out hok
        clear hok
        go_wp2_with (go_at_call 65; refine (CKH.out _).mono ?_; rintro x w1 ⟨rfl,hb1⟩)
        go_roundw
        case rel=>exact ⟨k+1,by omega,by go_num,HY,hbw.trans ((bel_trans (bel_alloc _ _) hb1).mono hbw.size),hbx.trans ((bel_trans (bel_alloc _ _) hb1).mono hbx.size)⟩
        case measure=>simp [intOf]; omega
      . have hok':ptok (px k) (py k)=false:=by simpa using hok
        rw [hok',e1] at CK
        have CKH:=hideIt CK
        clear CK
        replace HK:Hid (false=allB (fun i=>ptok (px i) (py i)) 4):=HK.out hok'
        clear hok hok' HY
        go_wp2_with (go_at_call 65; refine (CKH.out _).mono ?_; rintro x w1 ⟨rfl,hb1⟩)
        go_ret
        exact ⟨ret_bool HK.out,hbw.trans ((bel_trans (bel_alloc _ _) hb1).mono hbw.size)⟩
    . obtain rfl:k=4:=by omega
      have HD:Hid (true=allB (fun i=>ptok (px i) (py i)) 4):=(decide_eq_true HO.out).symm
      go_wp2
      go_ret
      exact ⟨ret_bool HD.out,hbw⟩
set_option maxRecDepth 100000 in
set_option maxHeartbeats 2000000 in
theorem lgood11_any (px py:Nat->Int) (w:World) (hx:∀ i,rng (px i)) (hy:∀ i,rng (py i)) :
    Calls Tryz.prog 12 #[.agg #[.int .i64 (px 0),.int .i64 (py 0),.int .i64 (px 1),.int .i64 (py 1),.int .i64 (px 2),.int .i64 (py 2),.int .i64 (px 3),.int .i64 (py 3)]] w fun x w'=>x=.returned (.bool (allB (fun i=>ptok (px i) (py i)) 4))∧Below w.heap.size w w':=by
  have CC:Hid (∀ i W,Calls Tryz.prog 28 #[.agg #[.int .i64 (px i),.int .i64 (py i)]] W fun e w'=>e=.returned (.bool (ptok (px i) (py i)))∧Below W.heap.size W w'):=fun i W=>q_refFinite (hx i) (hy i) W
  clear hx hy
  have hb0:=bel_alloc w (.cells #[.int .i64 (px 0),.int .i64 (py 0),.int .i64 (px 1),.int .i64 (py 1),.int .i64 (px 2),.int .i64 (py 2),.int .i64 (px 3),.int .i64 (py 3)] 44)
  have f_k:=heap_a1 w (.cells #[.int .i64 (px 0),.int .i64 (py 0),.int .i64 (px 1),.int .i64 (py 1),.int .i64 (px 2),.int .i64 (py 2),.int .i64 (px 3),.int .i64 (py 3)] 44)
  go_enter Tryz.func12,Tryz.ntmps12
  go_wp2_with fail
  generalize w.alloc (.cells #[.int .i64 (px 0),.int .i64 (py 0),.int .i64 (px 1),.int .i64 (py 1),.int .i64 (px 2),.int .i64 (py 2),.int .i64 (px 3),.int .i64 (py 3)] 44)=x0 at hb0 f_k ⊢
  go_loopw [3] (fun i wr=>∃ k:Nat,k<=4∧i=.int .i64 k∧Hid (∀ j,j<k->ptok (px j) (py j)=true)∧Below w.heap.size w wr∧Below x0.heap.size x0 wr) (fun i _=>4-(intOf i).toNat)
  case atStart=>exact ⟨0,Nat.zero_le _,rfl,fun j hj=>by omega,hb0,bel_refl _⟩
  case round=>
    obtain ⟨k,hk,rfl,HO,hbw,hbx⟩:=hrel
    by_cases hlt:k<4
    . have k4:(k:Int)<4:=by omega
      have k0:(0:Int)<=(k:Int):=by omega
      obtain ⟨c0,c1⟩:=cc_pts (blk_on hbx f_k) hlt
      have HK:Hid (ptok (px k) (py k)=false->false=allB (fun i=>ptok (px i) (py i)) 4):=fun q=>(decide_eq_false fun hx=>by have:=hx k hlt; simp only at this; rw [this] at q; cases q).symm
      have HY:Hid (ptok (px k) (py k)=true->∀ j,j<k+1->ptok (px j) (py j)=true):=fun q j hj=>by
        by_cases e:j=k
        . subst e; exact q
        . exact HO.out j (by omega)
      have CK:=CC.out k
      by_cases hok:ptok (px k) (py k)=true
      . rw [hok] at CK
        have CKH:=hideIt CK
        clear CK
        replace HY:Hid (∀ j,j<k+1->ptok (px j) (py j)=true):=HY.out hok
        clear hok
        go_wp2_with (go_at_call 28; refine (CKH.out _).mono ?_; rintro x w1 ⟨rfl,hb1⟩)
        go_roundw
        case rel=>exact ⟨k+1,by omega,by go_num,HY,hbw.trans (hb1.mono hbw.size),hbx.trans (hb1.mono hbx.size)⟩
        case measure=>simp [intOf]; omega
      . have hok':ptok (px k) (py k)=false:=by simpa using hok
        rw [hok'] at CK
        have CKH:=hideIt CK
        clear CK
        replace HK:Hid (false=allB (fun i=>ptok (px i) (py i)) 4):=HK.out hok'
        clear hok hok' HY
        go_wp2_with (go_at_call 28; refine (CKH.out _).mono ?_; rintro x w1 ⟨rfl,hb1⟩)
        go_ret
        exact ⟨ret_bool HK.out,hbw.trans (hb1.mono hbw.size)⟩
    . obtain rfl:k=4:=by omega
      have HD:Hid (true=allB (fun i=>ptok (px i) (py i)) 4):=(decide_eq_true HO.out).symm
      go_wp2
      go_ret
      exact ⟨ret_bool HD.out,hbw⟩
set_option maxRecDepth 100000 in
set_option maxHeartbeats 2000000 in
theorem ctame_any (px py:Nat->Int) (w:World) (hx:∀ i,rng (px i)) (hy:∀ i,rng (py i)) :
    Calls Tryz.prog 72 #[.agg #[.int .i64 (px 0),.int .i64 (py 0),.int .i64 (px 1),.int .i64 (py 1),.int .i64 (px 2),.int .i64 (py 2),.int .i64 (px 3),.int .i64 (py 3)]] w fun x w'=>x=.returned (.bool (allB (fun i=>pttame (px i) (py i)) 4))∧Below w.heap.size w w':=by
  have CC:Hid (∀ b W,rng b->Calls Tryz.prog 57 #[.int .i64 b] W fun e w'=>e=.returned (.bool (tame b))∧w'=W):=fun b W hb=>pointTame hb W
  have HX:Hid (∀ i,rng (px i)):=hx
  have HYY:Hid (∀ i,rng (py i)):=hy
  clear hx hy
  have hb0:=bel_alloc w (.cells #[.int .i64 (px 0),.int .i64 (py 0),.int .i64 (px 1),.int .i64 (py 1),.int .i64 (px 2),.int .i64 (py 2),.int .i64 (px 3),.int .i64 (py 3)] 52)
  have f_k:=heap_a1 w (.cells #[.int .i64 (px 0),.int .i64 (py 0),.int .i64 (px 1),.int .i64 (py 1),.int .i64 (px 2),.int .i64 (py 2),.int .i64 (px 3),.int .i64 (py 3)] 52)
  have f0:=blkC f_k 0 rfl
  have f1:=blkC f_k 1 rfl
  have f2:=blkC f_k 2 rfl
  have f3:=blkC f_k 3 rfl
  have f4:=blkC f_k 4 rfl
  have f5:=blkC f_k 5 rfl
  have f6:=blkC f_k 6 rfl
  have f7:=blkC f_k 7 rfl
  go_enter Tryz.func72,Tryz.ntmps72
  go_wp2_with fail
  clear f0 f1 f2 f3 f4 f5 f6 f7
  generalize w.alloc (.cells #[.int .i64 (px 0),.int .i64 (py 0),.int .i64 (px 1),.int .i64 (py 1),.int .i64 (px 2),.int .i64 (py 2),.int .i64 (px 3),.int .i64 (py 3)] 52)=x0 at hb0 f_k ⊢
  go_loopw [6] (fun i wr=>∃ k:Nat,k<=4∧i=.int .i64 k∧Hid (∀ j,j<k->pttame (px j) (py j)=true)∧Below w.heap.size w wr∧Below x0.heap.size x0 wr) (fun i _=>4-(intOf i).toNat)
  case atStart=>exact ⟨0,Nat.zero_le _,rfl,fun j hj=>by omega,hb0,bel_refl _⟩
  case round=>
    obtain ⟨k,hk,rfl,HO,hbw,hbx⟩:=hrel
    by_cases hlt:k<4
    . have k4:(k:Int)<4:=by omega
      have k0:(0:Int)<=(k:Int):=by omega
      have ix:∀ W,(Instr.index 52 (.agg #[.int .i64 (px 0),.int .i64 (py 0),.int .i64 (px 1),.int .i64 (py 1),.int .i64 (px 2),.int .i64 (py 2),.int .i64 (px 3),.int .i64 (py 3)]) (.int .i64 k)).run Tryz.prog W=.ok (.agg #[.int .i64 (px k),.int .i64 (py k)]) W:=fun W=>match k,hlt with
        | 0,_=>by kernel_rfl
        | 1,_=>by kernel_rfl
        | 2,_=>by kernel_rfl
        | 3,_=>by kernel_rfl
      have HK:Hid (pttame (px k) (py k)=false->false=allB (fun i=>pttame (px i) (py i)) 4):=fun q=>(decide_eq_false fun hx=>by have:=hx k hlt; simp only at this; rw [this] at q; cases q).symm
      have HY:Hid (pttame (px k) (py k)=true->∀ j,j<k+1->pttame (px j) (py j)=true):=fun q j hj=>by
        by_cases e:j=k
        . subst e; exact q
        . exact HO.out j (by omega)
      have CX:Hid (∀ W,Calls Tryz.prog 57 #[.int .i64 (px k)] W fun e w'=>e=.returned (.bool (tame (px k)))∧w'=W):=fun W=>CC.out _ W (HX.out k)
      have CY:Hid (∀ W,Calls Tryz.prog 57 #[.int .i64 (py k)] W fun e w'=>e=.returned (.bool (tame (py k)))∧w'=W):=fun W=>CC.out _ W (HYY.out k)
      cases hp:tame (px k)
      . replace HK:Hid (false=allB (fun i=>pttame (px i) (py i)) 4):=HK.out (by unfold pttame; rw [hp]; rfl)
        rw [hp] at CX
        clear hp HY
        (go_wp2_with fail; refine (CX.out _).mono ?_; rintro _ wz ⟨rfl,hwz⟩; replace hwz:=hwz.symm; subst hwz; go_wp2)
        go_ret
        exact ⟨ret_bool HK.out,hbw.trans ((bel_alloc _ _).mono hbw.size)⟩
      . rw [hp] at CX
        cases hq:tame (py k)
        . replace HK:Hid (false=allB (fun i=>pttame (px i) (py i)) 4):=HK.out (by unfold pttame; rw [hp,hq]; rfl)
          rw [hq] at CY
          clear hp hq HY
          (go_wp2_with fail; refine (CX.out _).mono ?_; rintro _ wz ⟨rfl,hwz⟩; replace hwz:=hwz.symm; subst hwz; go_wp2_with fail; refine (CY.out _).mono ?_; rintro _ wz ⟨rfl,hwz⟩; replace hwz:=hwz.symm; subst hwz; go_wp2)
          go_ret
          exact ⟨ret_bool HK.out,hbw.trans ((bel_alloc _ _).mono hbw.size)⟩
        . replace HY:Hid (∀ j,j<k+1->pttame (px j) (py j)=true):=HY.out (by unfold pttame; rw [hp,hq]; rfl)
          rw [hq] at CY
          clear hp hq HK
          (go_wp2_with fail; refine (CX.out _).mono ?_; rintro _ wz ⟨rfl,hwz⟩; replace hwz:=hwz.symm; subst hwz; go_wp2_with fail; refine (CY.out _).mono ?_; rintro _ wz ⟨rfl,hwz⟩; replace hwz:=hwz.symm; subst hwz; go_wp2)
          go_roundw
          case rel=>exact ⟨k+1,by omega,by go_num,HY,hbw.trans ((bel_alloc _ _).mono hbw.size),hbx.trans ((bel_alloc _ _).mono hbx.size)⟩
          case measure=>simp [intOf]; omega
    . obtain rfl:k=4:=by omega
      have HD:Hid (true=allB (fun i=>pttame (px i) (py i)) 4):=(decide_eq_true HO.out).symm
      go_wp2
      go_ret
      exact ⟨ret_bool HD.out,hbw⟩
theorem cc_bd {b:Int} (hr:rng b) (h:pok b=true):Bd 1074 (patV b):=by
  obtain ⟨i0,i1,i2,i3⟩:=pmag_in h
  have f:=iV_form hr h
  have hb:((iV b).natAbs:Int)<2^(2*1074):=by
    rw [f]
    have e1:(2:Int)^(pexp b+1074).toNat<=2^2045:=p2le (by omega)
    have p:=p2 (pexp b+1074).toNat
    have e2:(2:Int)^(2*1074)=2^103*2^2045:=by rw [<- Int.pow_add]
    have e3:pmag b*2^(pexp b+1074).toNat<=9007199254740992*2^2045:=Int.mul_le_mul (by omega) e1 (Int.le_of_lt p) (by decide)
    have p3:=p2 2045
    rw [e2,show (2:Int)^103=10141204801825835211973625643008 by decide]
    generalize (2:Int)^2045=z at *
    omega
  refine ⟨iV b,patV_iV hr h,by omega,by omega⟩
set_option maxRecDepth 100000 in
set_option maxHeartbeats 4000000 in
theorem cexact_any {px py:Nat->Int} (hx:∀ i,rng (px i)) (hy:∀ i,rng (py i)) (hpx:∀ i,i<4->pok (px i)=true) (hpy:∀ i,i<4->pok (py i)=true) (w:World) (H:Hold4 w) :
    Calls Tryz.prog 27 #[.agg #[.int .i64 (px 0),.int .i64 (py 0),.int .i64 (px 1),.int .i64 (py 1),.int .i64 (px 2),.int .i64 (py 2),.int .i64 (px 3),.int .i64 (py 3)]] w fun r w'=>∃ v V,r=.returned v∧DAn w.heap.size w' V v∧Below w.heap.size w w'∧V*2^4194304*2^4194304*2^4194304=cdet (cwX px) (cwX py)∧Bd (4*1075+5) V:=by
  have hE:∀ (cap:Array Value) (w:World),(callFunc 77 cap).run Tryz.prog w=.ok (.enter 77 cap) w:=by intro cap w; simp [go_sem]
  have CN:Hid (∀ W,Calls Tryz.prog 75 #[] W fun r w'=>r=.returned (.agg #[.func (.func 97) #[] #[],.func (.func 98) #[] #[],.func (.func 99) #[] #[],.func (.func 148) #[] #[]])∧Below W.heap.size W w'):=fun W=>cnums W
  have bX:∀ i,i<3->Bd 1075 (cwX px i):=fun i hi=>(cc_bd (hx i) (hpx i (by omega))).sub (cc_bd (hx 3) (hpx 3 (by decide))) (by decide)
  have bY:∀ i,i<3->Bd 1075 (cwX py i):=fun i hi=>(cc_bd (hy i) (hpy i (by omega))).sub (cc_bd (hy 3) (hpy 3 (by decide))) (by decide)
  obtain ⟨hb0,f_k,r_k,hsz0⟩:=blks2 w (.cells #[.int .i64 (px 0),.int .i64 (py 0),.int .i64 (px 1),.int .i64 (py 1),.int .i64 (px 2),.int .i64 (py 2),.int .i64 (px 3),.int .i64 (py 3)] 52) (.cells #[.bool false,.slice none 0 0,.int .i64 0] 40)
  clear hsz0
  go_enter Tryz.func27,Tryz.ntmps27
  go_wp2_with fail
  generalize (w.alloc (.cells #[.int .i64 (px 0),.int .i64 (py 0),.int .i64 (px 1),.int .i64 (py 1),.int .i64 (px 2),.int .i64 (py 2),.int .i64 (px 3),.int .i64 (py 3)] 52)).alloc (.cells #[.bool false,.slice none 0 0,.int .i64 0] 40)=x0 at hb0 f_k r_k ⊢
  refine (CN.out _).mono ?_
  rintro _ y1 ⟨rfl,hw1⟩
  replace f_k:=blk_on hw1 f_k
  replace r_k:=blk_on hw1 r_k
  replace hb0:=bel_trans hb0 hw1
  have CV:Hid (Calls Tryz.prog 76 #[.agg #[.func (.func 97) #[] #[],.func (.func 98) #[] #[],.func (.func 99) #[] #[],.func (.func 148) #[] #[]],.func (.func 77) #[] #[.pointer (some ⟨w.heap.size,0,none⟩)]] y1 fun r w'=>∃ v V,r=.returned v∧DAn y1.heap.size w' V v∧Below y1.heap.size y1 w'∧V*2^4194304*2^4194304*2^4194304=cdet (cwX px) (cwX py)∧Bd (4*1075+5) V):=cval_any (X:=cwX px) (Y:=cwX py) y1 hE (fun i hi W hW=>cex1_any hi hpx hpy W (blk_on hW f_k) (H.keeps (bel_trans hb0 hW))) bX bY (by decide) (H.tab.keeps hb0)
  clear hE CN bX bY H hx hy hpx hpy
  go_wp2_with fail
  refine CV.out.mono ?_
  rintro _ y2 ⟨v,V,rfl,h2,hw2,hV,hB⟩
  obtain ⟨n_g,n_o,n_n,n_c,n_e,rfl⟩:=h2.shape
  replace r_k:=blk_on hw2 r_k
  have k0:=blkC r_k 0 rfl
  have k1:=blkC r_k 1 rfl
  have k2:=blkC r_k 2 rfl
  have z0:=blkF r_k 0
  have z1:=blkF r_k 1
  have z2:=blkF r_k 2
  go_wp2
  exact bodyPost_ret (v:=.agg #[.bool n_g,.slice n_o n_n n_c,.int .i64 n_e]) (by simp [results,Tryz.results27,go_sem,k0,k1,k2]) rfl ⟨_,V,rfl,dan_res3 (h2.lower hb0.size) r_k _ _ _,bel_set3 (bel_trans hb0 hw2) (by omega) _ _ _,hV,hB⟩
set_option maxRecDepth 100000 in
set_option maxHeartbeats 4000000 in
theorem cExact_yes {px py:Nat->Int} (hx:∀ i,rng (px i)) (hy:∀ i,rng (py i)) (hpx:∀ i,i<4->pok (px i)=true) (hpy:∀ i,i<4->pok (py i)=true) (w:World) (H:Hold4 w) :
    Calls Tryz.prog 11 #[.agg #[.int .i64 (px 0),.int .i64 (py 0)],.agg #[.int .i64 (px 1),.int .i64 (py 1)],.agg #[.int .i64 (px 2),.int .i64 (py 2)],.agg #[.int .i64 (px 3),.int .i64 (py 3)]] w fun r w'=>∃ v V,r=.returned (.tuple #[v,.int .i64 0])∧DAn w.heap.size w' V v∧Below w.heap.size w w'∧V*2^4194304*2^4194304*2^4194304=cdet (cwX px) (cwX py)∧Bd (4*1075+5) V:=by
  have CG:Hid (∀ W,Calls Tryz.prog 26 #[.agg #[.int .i64 (px 0),.int .i64 (py 0),.int .i64 (px 1),.int .i64 (py 1),.int .i64 (px 2),.int .i64 (py 2),.int .i64 (px 3),.int .i64 (py 3)]] W fun x w'=>x=.returned (.bool true)∧Below W.heap.size W w'):=fun W=>by
    have:=cgood_any px py W hx hy
    rwa [show allB (fun i=>ptok (px i) (py i)) 4=true from decide_eq_true fun i hi=>by show (pok (px i) && pok (py i))=true; rw [hpx i hi,hpy i hi]; rfl] at this
  have CE:Hid (∀ W,Hold4 W->Calls Tryz.prog 27 #[.agg #[.int .i64 (px 0),.int .i64 (py 0),.int .i64 (px 1),.int .i64 (py 1),.int .i64 (px 2),.int .i64 (py 2),.int .i64 (px 3),.int .i64 (py 3)]] W fun r w'=>∃ v V,r=.returned v∧DAn W.heap.size w' V v∧Below W.heap.size W w'∧V*2^4194304*2^4194304*2^4194304=cdet (cwX px) (cwX py)∧Bd (4*1075+5) V):=fun W h=>cexact_any hx hy hpx hpy W h
  clear hx hy hpx hpy
  obtain ⟨hb0,a_k,b_k,c_k,d_k,r_k,hsz0⟩:=blks5 w (.cells #[.int .i64 (px 0),.int .i64 (py 0)] 33) (.cells #[.int .i64 (px 1),.int .i64 (py 1)] 33) (.cells #[.int .i64 (px 2),.int .i64 (py 2)] 33) (.cells #[.int .i64 (px 3),.int .i64 (py 3)] 33) (.cells #[.bool false,.slice none 0 0,.int .i64 0] 40)
  have f_a0:=blkC a_k 0 rfl
  have f_a1:=blkC a_k 1 rfl
  have f_b0:=blkC b_k 0 rfl
  have f_b1:=blkC b_k 1 rfl
  have f_c0:=blkC c_k 0 rfl
  have f_c1:=blkC c_k 1 rfl
  have f_d0:=blkC d_k 0 rfl
  have f_d1:=blkC d_k 1 rfl
  go_enter Tryz.func11,Tryz.ntmps11
  go_wp2_with fail
  clear f_a0 f_a1 f_b0 f_b1 f_c0 f_c1 f_d0 f_d1
  replace r_k:=heap_past (.cells #[.int .i64 (px 0),.int .i64 (py 0),.int .i64 (px 1),.int .i64 (py 1),.int .i64 (px 2),.int .i64 (py 2),.int .i64 (px 3),.int .i64 (py 3)] 52) r_k
  have p_k:=heap_a1 (((((w.alloc (.cells #[.int .i64 (px 0),.int .i64 (py 0)] 33)).alloc (.cells #[.int .i64 (px 1),.int .i64 (py 1)] 33)).alloc (.cells #[.int .i64 (px 2),.int .i64 (py 2)] 33)).alloc (.cells #[.int .i64 (px 3),.int .i64 (py 3)] 33)).alloc (.cells #[.bool false,.slice none 0 0,.int .i64 0] 40)) (.cells #[.int .i64 (px 0),.int .i64 (py 0),.int .i64 (px 1),.int .i64 (py 1),.int .i64 (px 2),.int .i64 (py 2),.int .i64 (px 3),.int .i64 (py 3)] 52)
  rw [hsz0] at p_k
  replace hb0:=bel_trans hb0 (bel_alloc (((((w.alloc (.cells #[.int .i64 (px 0),.int .i64 (py 0)] 33)).alloc (.cells #[.int .i64 (px 1),.int .i64 (py 1)] 33)).alloc (.cells #[.int .i64 (px 2),.int .i64 (py 2)] 33)).alloc (.cells #[.int .i64 (px 3),.int .i64 (py 3)] 33)).alloc (.cells #[.bool false,.slice none 0 0,.int .i64 0] 40)) (.cells #[.int .i64 (px 0),.int .i64 (py 0),.int .i64 (px 1),.int .i64 (py 1),.int .i64 (px 2),.int .i64 (py 2),.int .i64 (px 3),.int .i64 (py 3)] 52))
  generalize (((((w.alloc (.cells #[.int .i64 (px 0),.int .i64 (py 0)] 33)).alloc (.cells #[.int .i64 (px 1),.int .i64 (py 1)] 33)).alloc (.cells #[.int .i64 (px 2),.int .i64 (py 2)] 33)).alloc (.cells #[.int .i64 (px 3),.int .i64 (py 3)] 33)).alloc (.cells #[.bool false,.slice none 0 0,.int .i64 0] 40)).alloc (.cells #[.int .i64 (px 0),.int .i64 (py 0),.int .i64 (px 1),.int .i64 (py 1),.int .i64 (px 2),.int .i64 (py 2),.int .i64 (px 3),.int .i64 (py 3)] 52)=x0 at hb0 r_k p_k ⊢
  refine (CG.out _).mono ?_
  rintro _ y1 ⟨rfl,hw1⟩
  replace r_k:=blk_on hw1 r_k
  replace p_k:=blk_on hw1 p_k
  replace hb0:=bel_trans hb0 hw1
  replace H:=H.keeps hb0
  have f0:=blkC p_k 0 rfl
  have f1:=blkC p_k 1 rfl
  have f2:=blkC p_k 2 rfl
  have f3:=blkC p_k 3 rfl
  have f4:=blkC p_k 4 rfl
  have f5:=blkC p_k 5 rfl
  have f6:=blkC p_k 6 rfl
  have f7:=blkC p_k 7 rfl
  go_wp2_with fail
  clear f0 f1 f2 f3 f4 f5 f6 f7
  refine (CE.out _ H).mono ?_
  rintro _ y2 ⟨v,V,rfl,h2,hw2,hV,hB⟩
  obtain ⟨n_g,n_o,n_n,n_c,n_e,rfl⟩:=h2.shape
  replace r_k:=blk_on hw2 r_k
  have k0:=blkC r_k 0 rfl
  have z0:=blkF r_k 0
  have k1:=blkC r_k 1 rfl
  have z1:=blkF r_k 1
  have k2:=blkC r_k 2 rfl
  have z2:=blkF r_k 2
  go_wp2
  exact bodyPost_ret (v:=.tuple #[.agg #[.bool n_g,.slice n_o n_n n_c,.int .i64 n_e],.int .i64 0]) (by simp [results,Tryz.results11,go_sem,k0,k1,k2]) rfl ⟨_,V,rfl,dan_res3 (h2.lower hb0.size) r_k _ _ _,bel_set3 (bel_trans hb0 hw2) (by omega) _ _ _,hV,hB⟩
set_option maxRecDepth 100000 in
set_option maxHeartbeats 4000000 in
theorem cExact_no {px py:Nat->Int} (hx:∀ i,rng (px i)) (hy:∀ i,rng (py i)) (hno:allB (fun i=>ptok (px i) (py i)) 4=false) (w:World) :
    Calls Tryz.prog 11 #[.agg #[.int .i64 (px 0),.int .i64 (py 0)],.agg #[.int .i64 (px 1),.int .i64 (py 1)],.agg #[.int .i64 (px 2),.int .i64 (py 2)],.agg #[.int .i64 (px 3),.int .i64 (py 3)]] w fun r w'=>r=.returned (.tuple #[.agg #[.bool false,.slice none 0 0,.int .i64 0],.int .i64 10])∧Below w.heap.size w w':=by
  have CG:Hid (∀ W,Calls Tryz.prog 26 #[.agg #[.int .i64 (px 0),.int .i64 (py 0),.int .i64 (px 1),.int .i64 (py 1),.int .i64 (px 2),.int .i64 (py 2),.int .i64 (px 3),.int .i64 (py 3)]] W fun x w'=>x=.returned (.bool false)∧Below W.heap.size W w'):=fun W=>by
    have:=cgood_any px py W hx hy
    rwa [hno] at this
  clear hx hy hno
  obtain ⟨hb0,a_k,b_k,c_k,d_k,r_k,hsz0⟩:=blks5 w (.cells #[.int .i64 (px 0),.int .i64 (py 0)] 33) (.cells #[.int .i64 (px 1),.int .i64 (py 1)] 33) (.cells #[.int .i64 (px 2),.int .i64 (py 2)] 33) (.cells #[.int .i64 (px 3),.int .i64 (py 3)] 33) (.cells #[.bool false,.slice none 0 0,.int .i64 0] 40)
  have f_a0:=blkC a_k 0 rfl
  have f_a1:=blkC a_k 1 rfl
  have f_b0:=blkC b_k 0 rfl
  have f_b1:=blkC b_k 1 rfl
  have f_c0:=blkC c_k 0 rfl
  have f_c1:=blkC c_k 1 rfl
  have f_d0:=blkC d_k 0 rfl
  have f_d1:=blkC d_k 1 rfl
  go_enter Tryz.func11,Tryz.ntmps11
  go_wp2_with fail
  clear f_a0 f_a1 f_b0 f_b1 f_c0 f_c1 f_d0 f_d1
  replace r_k:=heap_past (.cells #[.int .i64 (px 0),.int .i64 (py 0),.int .i64 (px 1),.int .i64 (py 1),.int .i64 (px 2),.int .i64 (py 2),.int .i64 (px 3),.int .i64 (py 3)] 52) r_k
  have p_k:=heap_a1 (((((w.alloc (.cells #[.int .i64 (px 0),.int .i64 (py 0)] 33)).alloc (.cells #[.int .i64 (px 1),.int .i64 (py 1)] 33)).alloc (.cells #[.int .i64 (px 2),.int .i64 (py 2)] 33)).alloc (.cells #[.int .i64 (px 3),.int .i64 (py 3)] 33)).alloc (.cells #[.bool false,.slice none 0 0,.int .i64 0] 40)) (.cells #[.int .i64 (px 0),.int .i64 (py 0),.int .i64 (px 1),.int .i64 (py 1),.int .i64 (px 2),.int .i64 (py 2),.int .i64 (px 3),.int .i64 (py 3)] 52)
  rw [hsz0] at p_k
  replace hb0:=bel_trans hb0 (bel_alloc (((((w.alloc (.cells #[.int .i64 (px 0),.int .i64 (py 0)] 33)).alloc (.cells #[.int .i64 (px 1),.int .i64 (py 1)] 33)).alloc (.cells #[.int .i64 (px 2),.int .i64 (py 2)] 33)).alloc (.cells #[.int .i64 (px 3),.int .i64 (py 3)] 33)).alloc (.cells #[.bool false,.slice none 0 0,.int .i64 0] 40)) (.cells #[.int .i64 (px 0),.int .i64 (py 0),.int .i64 (px 1),.int .i64 (py 1),.int .i64 (px 2),.int .i64 (py 2),.int .i64 (px 3),.int .i64 (py 3)] 52))
  generalize (((((w.alloc (.cells #[.int .i64 (px 0),.int .i64 (py 0)] 33)).alloc (.cells #[.int .i64 (px 1),.int .i64 (py 1)] 33)).alloc (.cells #[.int .i64 (px 2),.int .i64 (py 2)] 33)).alloc (.cells #[.int .i64 (px 3),.int .i64 (py 3)] 33)).alloc (.cells #[.bool false,.slice none 0 0,.int .i64 0] 40)).alloc (.cells #[.int .i64 (px 0),.int .i64 (py 0),.int .i64 (px 1),.int .i64 (py 1),.int .i64 (px 2),.int .i64 (py 2),.int .i64 (px 3),.int .i64 (py 3)] 52)=x0 at hb0 r_k p_k ⊢
  refine (CG.out _).mono ?_
  rintro _ y1 ⟨rfl,hw1⟩
  replace r_k:=blk_on hw1 r_k
  replace p_k:=blk_on hw1 p_k
  replace hb0:=bel_trans hb0 hw1
  have k0:=blkC r_k 0 rfl
  have z0:=blkF r_k 0
  have k1:=blkC r_k 1 rfl
  have z1:=blkF r_k 1
  have k2:=blkC r_k 2 rfl
  have z2:=blkF r_k 2
  go_wp2
  exact bodyPost_ret (v:=.tuple #[.agg #[.bool false,.slice none 0 0,.int .i64 0],.int .i64 10]) (by simp [results,Tryz.results11,go_sem,k0,k1,k2]) rfl ⟨rfl,by first | exact bel_set3 hb0 (by omega) _ _ _ | exact hb0⟩
end Go.Proofs.YtjjihmnbdeeedaaGreatDoor
