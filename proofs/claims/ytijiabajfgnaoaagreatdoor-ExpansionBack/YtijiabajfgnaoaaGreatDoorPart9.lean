/- Parts of the proof. -/
import Derived.Test.YtijiabajfgnaoaaGreatDoorPart8
set_option linter.unusedVariables false
set_option linter.unusedSimpArgs false
namespace Go.Proofs.YtijiabajfgnaoaaGreatDoor
open Go Go.RowKit Go.Proofs.YtijiabajfgnaoaaGreatDoor.M
def mdS (z:Nat->Int) (l:Nat):Ls:=gaS ⟨0,fun _=>0⟩ (fun i=>mdb (z i)) (min l 12)
theorem mdS_all (z:Nat->Int) (k:Nat) (hk:k <= 12):gaX ⟨0,fun _=>0⟩ (fun i=>mdb (z i)) k=true∧XV (gaS ⟨0,fun _=>0⟩ (fun i=>mdb (z i)) k).d (gaS ⟨0,fun _=>0⟩ (fun i=>mdb (z i)) k).n∧LB (gaS ⟨0,fun _=>0⟩ (fun i=>mdb (z i)) k) (1130 + 2 * 12 * k):=by
  obtain ⟨h1,h2,h3,_⟩:=gaS_all (s:=⟨0,fun _=>0⟩) (f:=fun i=>mdb (z i)) (m:=12) (b:=1130) (L:=12) ⟨fun i hi=>absurd hi (Nat.not_lt_zero _),fun i hi=>absurd hi (Nat.not_lt_zero _)⟩ (fun i _=>⟨(mid_facts (z i)).1,(mid_facts (z i)).2.1⟩) (fun i hi=>absurd hi (Nat.not_lt_zero _)) (fun i _=>(mid_facts (z i)).2.2.2) (by decide) (by decide) k hk
  exact ⟨h1,h2,h3⟩
set_option maxRecDepth 100000 in
set_option maxHeartbeats 1000000 in
theorem made_any {lo:Option Addr} {l lc:Nat} {z:Nat->Int} (w:World) (h:Row w lo l lc z) (H:Hold4 w) :
    Calls Tryz.prog 4 #[.slice lo l lc,.int .i64 12] w fun r w'=>∃ eo ec,r=.returned (.tuple #[.slice eo (mdS z l).n ec,.bool true])∧Row w' eo (mdS z l).n ec (mdS z l).d∧Below w.heap.size w w':=by
  have HR:Hid (Row w lo l lc z):=h
  have hle:=h.le
  have hmx:=h.max
  have HH:Hid (Hold4 w):=H
  clear h H
  go_enter Tryz.func4,Tryz.ntmps4
  go_wp2_with fail
  go_loopw [6,7] (fun ev iv wr=>∃ (k:Nat) (eo:Option Addr) (ec:Nat),k <= min l 12∧iv=.int .i64 k∧ev=.slice eo (gaS ⟨0,fun _=>0⟩ (fun i=>mdb (z i)) k).n ec∧Hid (Row wr eo (gaS ⟨0,fun _=>0⟩ (fun i=>mdb (z i)) k).n ec (gaS ⟨0,fun _=>0⟩ (fun i=>mdb (z i)) k).d)∧Below w.heap.size w wr) (fun _ iv _=>12 - (intOf iv).toNat)
  case atStart=>exact ⟨0,none,0,Nat.zero_le _,rfl,rfl,Row.nil _ _,bel_refl _⟩
  case round=>
    obtain ⟨k,eo,ec,hk,rfl,rfl,HE,hbw⟩:=hrel
    by_cases hlt:k < min l 12
    . obtain ⟨bb,off,rfl,hbb,hc⟩:=(HR.out.keeps hbw).spot (by omega)
      have c0:=hc k (by omega)
      clear hc
      obtain ⟨x1,x2,x3⟩:=mdS_all z k (by omega)
      obtain ⟨m1,m2,m3,m4⟩:=mid_facts (z k)
      have CG:=fun W (hW:Below wr.heap.size wr W)=>xGrow W (HE.out.keeps hW) (fun i hi=>(x2.fin i hi).1) (xval_of x2) m1 m2 (by have:=gaS_le ⟨0,fun _=>0⟩ (fun i=>mdb (z i)) k; have:(gaS ⟨0,fun _=>0⟩ (fun i=>mdb (z i)) k).n <= 0 + k:=this; omega) (HH.out.keeps (bel_trans hbw hW))
      have HX:Hid (gx (gaS ⟨0,fun _=>0⟩ (fun i=>mdb (z i)) k).d (mdb (z k)) (gaS ⟨0,fun _=>0⟩ (fun i=>mdb (z i)) k).n=true):=by
        have:=(mdS_all z (k + 1) (by omega)).1
        rw [gaX_succ,Bool.and_eq_true] at this
        exact this.2
      have HS:Hid (gaS ⟨0,fun _=>0⟩ (fun i=>mdb (z i)) (k + 1)=grw (gaS ⟨0,fun _=>0⟩ (fun i=>mdb (z i)) k).n (gaS ⟨0,fun _=>0⟩ (fun i=>mdb (z i)) k).d (mdb (z k))):=gaS_succ _ _ _
      have HMD:Hid (bits .or .i64 (bits .andNot .i64 (z k) 9218868437227405312) ((823 + z k / 4503599627370496 % 256) * 4503599627370496)=mdb (z k)):=rfl
      clear x1 x2 x3 m1 m2 m3 m4
      have i0:(0:Int) <= (k:Int):=by omega
      have i1:(k:Int) < (l:Int):=by omega
      have i2:(k:Int) < 12:=by omega
      go_wp2_with fail
      go_region_held3 (fun W=>W.cell? ⟨bb,off + k,none⟩=some (.int .i64 (z k))) (first | exact c0 | go_keep | fail) (fail)
      all_goals
        go_wp2_with fail
        rw [mdb_eq]
        refine (CG _ (bel_refl _).drew).mono ?_
        rintro _ w2 hx
        obtain ⟨ao,cap,rfl,hR2,hb2⟩:=hx.yes HX.out
        have hb2':=bel_trans (bel_refl wr).drew hb2
        go_wp2
        go_roundw
        case rel=>exact ⟨k + 1,ao,cap,by omega,by go_num,by rw [HS.out],by show Row _ _ _ _ _; rw [HS.out]; exact hR2,bel_trans hbw hb2'⟩
        case measure=>simp [intOf]; omega
    . obtain rfl:k=min l 12:=by omega
      have HFIN:Hid (Row wr eo (mdS z l).n ec (mdS z l).d):=HE.out
      have HSE:Hid (gaS ⟨0,fun _=>0⟩ (fun i=>mdb (z i)) (min l 12)=mdS z l):=rfl
      rw [HSE.out]
      generalize hK:min l 12=K at *
      have hor:¬ (K:Int) < (l:Int)∨¬ (K:Int) < 12:=by omega
      clear HE HSE
      rcases hor with h1 | h1
      . go_wp2
        all_goals refine bodyPost_ret (v:=.tuple #[.slice eo (mdS z l).n ec,.bool true]) (by simp [results,Tryz.results4,go_sem]) rfl ⟨_,_,rfl,HFIN.out,hbw⟩
      . by_cases h2:(K:Int) < (l:Int)
        all_goals
          go_wp2
          refine bodyPost_ret (v:=.tuple #[.slice eo (mdS z l).n ec,.bool true]) (by simp [results,Tryz.results4,go_sem]) rfl ⟨_,_,rfl,HFIN.out,hbw⟩
theorem psm_bd {d:Nat->Int}:∀ {n},(∀ i,i < n->pok (d i)=true)->n <= 1000->Bd (4000 + n) (psm d n)
  | 0,_,_=>⟨0,by show (0:Int)=0 * _; rw [Int.zero_mul],by have:=two_pos (2 * (4000 + 0)); omega,two_pos _⟩
  | n + 1,h,hn=>by
    have h1:=psm_bd (n:=n) (fun i hi=>h i (by omega)) (by omega)
    have h2:=(patV_bd (h n (by omega))).up (show 4000 <= 4000 + n by omega) (by omega)
    rw [psm_succ]
    exact h1.add h2 (by omega)
set_option maxRecDepth 100000 in
set_option maxHeartbeats 1000000 in
theorem same7_any {w:World} {x y:Value} {A B:Int} (hx:DNum w x A) (hy:DNum w y B) (oA:Dok A) (oB:Dok B) :
    Calls Tryz.prog 8 #[x,y] w fun r w'=>r=.returned (.bool (ord A B == 0))∧Below w.heap.size w w':=by
  obtain ⟨a_g,a_s,a_m,a_e,rfl,a_y,a_num⟩:=id hx
  obtain ⟨b_g,b_s,b_m,b_e,rfl,b_y,b_num⟩:=id hy
  obtain ⟨a_o,a_n,a_c,rfl⟩:=a_num.shape
  obtain ⟨b_o,b_n,b_c,rfl⟩:=b_num.shape
  have hb2:=bel_alloc2 w (.cells #[.bool a_g,.slice a_o a_n a_c,.int .i64 a_e] 27) (.cells #[.bool b_g,.slice b_o b_n b_c,.int .i64 b_e] 27)
  have CC:=cmp_D (hx.keeps hb2) (hy.keeps hb2) oA oB
  clear hx hy a_y b_y a_num b_num
  generalize ord A B=c at *
  go_enter Tryz.func8,Tryz.ntmps8
  go_wp2_with fail
  refine CC.mono ?_
  rintro _ w1 ⟨rfl,hb1⟩
  go_wp2
  go_ret
  exact ⟨rfl,bel_trans hb2 hb1⟩
set_option maxRecDepth 100000 in
set_option maxHeartbeats 1000000 in
theorem value_ok {eo:Option Addr} {n ec:Nat} {d:Nat->Int} {w:World} (h:Row w eo n ec d) (xv:XV d n) (hn:n <= 1000) (H:Hold4 w) :
    Calls Tryz.prog 6 #[.slice eo n ec] w fun r w'=>∃ v,r=.returned (.tuple #[v,.bool true])∧DAns w w' (psm d n) v:=by
  have hv:=xval_of xv
  have hok:Dok (psm d n):=(psm_bd (fun i hi=>(xv.fin i hi).2.1) hn).ok (by omega)
  have hb0:=bel_alloc w (.cells #[.bool false,.slice none 0 0,.int .i64 0] 27)
  have CE:=xExact_any _ (h.keeps hb0) hv (fun i hi=>(xv.fin i hi).1) hn (H.keeps hb0)
  have CV:Hid (∀ W,Below w.heap.size w W->Calls Tryz.prog 12 #[.slice eo n ec] W fun e w'=>e=.returned (.bool true)∧Below W.heap.size W w'):=fun W hW=>by
    have:=xvalid_any W (h.keeps hW) (H.keeps hW)
    rw [hv] at this
    exact this
  clear h H xv hv
  generalize psm d n=V at *
  go_enter Tryz.func6,Tryz.ntmps6
  go_wp2_with fail
  refine CE.mono ?_
  rintro _ w1 ⟨v,er,rfl,hb1,(⟨_,rfl,hA⟩ | ⟨hno,_⟩)⟩
  . obtain ⟨x_g,x_o,x_n,x_c,x_e,rfl⟩:=dans_shape hA
    have q0:=(hb1.block w.heap.size (by rw [size1]; omega)).trans (heap_a1 _ _)
    have hbw1:=bel_trans hb0 hb1
    have hlw:w.heap.size < w1.heap.size:=Nat.lt_of_lt_of_le (by rw [size1]; omega) hb1.size
    have hbx:=bel_alloc w1 (.cells #[.bool x_g,.slice x_o x_n x_c,.int .i64 x_e] 27)
    have qx:=heap_a1 w1 (.cells #[.bool x_g,.slice x_o x_n x_c,.int .i64 x_e] 27)
    have q1:=(hbx.block w.heap.size hlw).trans q0
    have kc0:(w1.alloc (.cells #[.bool x_g,.slice x_o x_n x_c,.int .i64 x_e] 27)).drew.cell? ⟨w1.heap.size,0,none⟩=some (.bool x_g)∧(w1.alloc (.cells #[.bool x_g,.slice x_o x_n x_c,.int .i64 x_e] 27)).drew.cell? ⟨w1.heap.size,1,none⟩=some (.slice x_o x_n x_c)∧(w1.alloc (.cells #[.bool x_g,.slice x_o x_n x_c,.int .i64 x_e] 27)).drew.cell? ⟨w1.heap.size,2,none⟩=some (.int .i64 x_e):=⟨blkC qx 0 rfl,blkC qx 1 rfl,blkC qx 2 rfl⟩
    have HQ1:Hid (w1.heap.size <= (w1.alloc (.cells #[.bool x_g,.slice x_o x_n x_c,.int .i64 x_e] 27)).heap.size):=hbx.size
    have HBX:Hid (Below w.heap.size w (w1.alloc (.cells #[.bool x_g,.slice x_o x_n x_c,.int .i64 x_e] 27))):=bel_trans hbw1 hbx
    have HBY:Hid (Below w1.heap.size w1 (w1.alloc (.cells #[.bool x_g,.slice x_o x_n x_c,.int .i64 x_e] 27))):=hbx
    go_wp2_with fail
    generalize w1.alloc (.cells #[.bool x_g,.slice x_o x_n x_c,.int .i64 x_e] 27)=wy at *
    go_region_held3 (fun W=>W.cell? ⟨w1.heap.size,0,none⟩=some (.bool x_g)∧W.cell? ⟨w1.heap.size,1,none⟩=some (.slice x_o x_n x_c)∧W.cell? ⟨w1.heap.size,2,none⟩=some (.int .i64 x_e))
      (first | assumption | exact kc0 | exact kc1 | exact keep3W kc1 (wr3 _ _ _ _ _ _ _ _) (by omega) | exact keep3W kc0 (wr3 _ _ _ _ _ _ _ _) (by omega) | fail)
      ((go_at_call 12; refine (CV.out _ HBX.out.drew).mono ?_; rintro _ w3 ⟨rfl,hb3⟩; have kc1:=keep3B kc0 hb3; have q3:=(hb3.block w.heap.size (Nat.lt_of_lt_of_le hlw HQ1.out)).trans q1; have x0:=blkC q3 0 rfl; have x1:=blkC q3 1 rfl; have x2:=blkC q3 2 rfl; have z0:=blkF q3 0; have z1:=blkF q3 1; have z2:=blkF q3 2))
    all_goals go_wp2
    all_goals
      refine bodyPost_ret (v:=.tuple #[.agg #[.bool x_g,.slice x_o x_n x_c,.int .i64 x_e],.bool true]) (by simp [results,Tryz.results6,go_sem,x0,x1,x2]) rfl ⟨_,rfl,?_⟩
      have hA3:=(hA.stays HBY.out).stays (bel_trans (bel_refl wy).drew hb3)
      exact dans_res3 (g:=w.heap.size) hA3 hb0 (Nat.le_refl _) (by rw [size1]; omega) _ _ _
  . exact absurd hok hno
end Go.Proofs.YtijiabajfgnaoaaGreatDoor
