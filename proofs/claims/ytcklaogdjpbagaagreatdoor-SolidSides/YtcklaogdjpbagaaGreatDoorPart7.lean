/- Parts of the proof. -/
import Derived.Test.YtcklaogdjpbagaaGreatDoorPart5
import Derived.Deep.RegionHeld3
import Derived.Test.YtcklaogdjpbagaaGreatDoorPart6
import Derived.Test.YtcklaogdjpbagaaGreatDoorPart4
import Derived.Test.YtcklaogdjpbagaaGreatDoorPart3
import Derived.Deep.AppendLies
import Derived.Deep.RegionLaw
import Derived.Test.YtcklaogdjpbagaaGreatDoorRows
import Derived.Test.YtcklaogdjpbagaaGreatDoorPart2
import Derived.ProofKit
import Derived.OpenShut
import Derived.ChangeOld
import Derived.LaidMore
import Derived.Deep.Strs
import Derived.Lib.LaidTab
import Derived.MakeChecks
import Derived.Stop.LaidErr
set_option linter.unusedVariables false
set_option linter.unusedSimpArgs false
namespace Go.Proofs.YtcklaogdjpbagaaGreatDoor
open Go Go.RowKit Go.Proofs.YtcklaogdjpbagaaGreatDoor.M
set_option maxRecDepth 100000 in
set_option maxHeartbeats 1000000 in
theorem dsignF_any (x:NumR) (w:World) (hx:Row w x.ao x.n x.cap x.d) :
    Calls Tryz.prog 73 #[x.v] w fun r w'=>r=.returned (.tuple #[.int .i64 (if okR x then sgn x.ng x.n else 0),.int .i64 (if okR x then 0 else 11)])∧Below w.heap.size w w':=by
  have hV:=fun W hb=>dvalid_any x.ng x.ao x.n x.cap x.d x.e W (hx.keeps hb)
  have hS:=fun W=>dsign_any x.ng x.ao x.n x.cap x.e W (by have:=hx.le; have:=hx.max; omega)
  have hk:okN x.ng x.d x.n x.e=okR x:=rfl
  rw [hk] at hV
  unfold NumR.v
  generalize okR x=ok at *
  obtain ⟨an,ao,n,ca,a,e⟩:=x
  simp only at *
  cases ok
  . go_enter Tryz.func73,Tryz.ntmps73
    go_wp2_with fail
    refine (hV _ (bel_alloc _ _)).mono ?_
    rintro r w1 ⟨rfl,hb1⟩
    go_wp2
    go_ret2
    exact ⟨rfl,bel_trans (bel_alloc _ _) hb1⟩
  . go_enter Tryz.func73,Tryz.ntmps73
    go_wp2_with fail
    refine (hV _ (bel_alloc _ _)).mono ?_
    rintro r w1 ⟨rfl,hb1⟩
    have g0:=(hb1.block w.heap.size (by rw [size1]; omega)).trans (heap_a1 _ _)
    have k0:=blkC g0 0 rfl
    have k1:=blkC g0 1 rfl
    have k2:=blkC g0 2 rfl
    go_wp2_with fail
    refine (hS _).mono ?_
    rintro r w2 ⟨rfl,hb2⟩
    go_wp2
    go_ret2
    exact ⟨rfl,bel_trans (bel_trans (bel_alloc _ _) hb1) hb2⟩
set_option maxRecDepth 100000 in
set_option maxHeartbeats 1000000 in
theorem withSign_any (ng:Bool) (x:NumR) (w:World) (hx:Row w x.ao x.n x.cap x.d) (sx:Sane x) :
    Calls Tryz.prog 138 #[.bool ng,x.v] w fun r w'=>∃ s,r=.returned (.agg #[.bool (ng && decide (0<x.n)),s,.int .i64 x.e])∧Ans w w' (val x.d x.n) s:=by
  have hC:∀ W,Below w.heap.size w W->Calls Tryz.prog 156 #[.slice x.ao x.n x.cap] W fun r w'=>∃ so sn sc,r=.returned (.slice so sn sc)∧Ans W w' (val x.d x.n) (.slice so sn sc)∧Below W.heap.size W w':=fun W hb=>by
    refine (clone_num (w:=W) (ao:=x.ao) (n:=x.n) (cap:=x.cap) (A:=val x.d x.n) ⟨_,_,_,_,rfl,hx.keeps hb,sx.1,rfl⟩ (by have:=sx.2.1; omega)).mono ?_
    rintro r w' ⟨v,rfl,hA⟩
    obtain ⟨so,sn,sc,rfl⟩:=hA.num.shape
    exact ⟨so,sn,sc,rfl,hA,hA.below⟩
  obtain ⟨an,ao,n,ca,a,e⟩:=x
  unfold NumR.v
  simp only at *
  have hb2:=bel_alloc2 w (.cells #[.bool an,.slice ao n ca,.int .i64 e] 33) (.cells #[.bool false,.slice none 0 0,.int .i64 0] 33)
  have g0:=heap_a2 w (.cells #[.bool an,.slice ao n ca,.int .i64 e] 33) (.cells #[.bool false,.slice none 0 0,.int .i64 0] 33)
  have g1:=heap_b2 w (.cells #[.bool an,.slice ao n ca,.int .i64 e] 33) (.cells #[.bool false,.slice none 0 0,.int .i64 0] 33)
  have hs:=size2 w (.cells #[.bool an,.slice ao n ca,.int .i64 e] 33) (.cells #[.bool false,.slice none 0 0,.int .i64 0] 33)
  have hdn:decide ((0:Int)<n)=decide (0<n):=by simp
  cases ng
  ·
    go_enter Tryz.func138,Tryz.ntmps138
    go_wp2_with fail
    generalize (w.alloc (.cells #[.bool an,.slice ao n ca,.int .i64 e] 33)).alloc (.cells #[.bool false,.slice none 0 0,.int .i64 0] 33)=wx at hb2 g0 g1 hs ⊢
    have k0:=blkC g0 0 rfl
    have k1:=blkC g0 1 rfl
    have k2:=blkC g0 2 rfl
    have hb1:=bel_refl wx
    refine wp_region_held_drew (S:=fun W=>W.cell? ⟨w.heap.size,0,none⟩=some (.bool an)∧W.cell? ⟨w.heap.size,1,none⟩=some (.slice ao n ca)∧W.cell? ⟨w.heap.size,2,none⟩=some (.int .i64 e)) (by kernel_rfl) ⟨k0,k1,k2⟩ (fun hHeld=>?_)
    refine wpAnyH_take (i:=0) (v:=?_) rfl (by kernel_rfl) (by kernel_rfl) (by kernel_rfl) (fun _ _ _ h=>h) (Or.inl ⟨by rfl,?_⟩) (by assumption) ?_
    rotate_left
    . intro w hSw; (try dsimp only at hSw); go_simp; first | done | with_reducible rfl
    simp only [Act.put,List.setIfInBounds_toArray,List.set_cons_zero,List.set_cons_succ]
    refine wpAnyH_take (i:=1) (v:=?_) rfl (by kernel_rfl) (by kernel_rfl) (by kernel_rfl) (fun _ _ _ h=>h) (Or.inl ⟨by rfl,?_⟩) (by assumption) ?_
    rotate_left
    . intro w hSw; (try dsimp only at hSw); go_simp; first | done | with_reducible rfl
    simp only [Act.put,List.setIfInBounds_toArray,List.set_cons_zero,List.set_cons_succ]
    refine wpAnyH_take (i:=2) (v:=undef) rfl (by kernel_rfl) (by kernel_rfl) (by kernel_rfl) (fun _ _ _ h=>h) (Or.inr ⟨by rfl,rfl⟩) (by assumption) ?_
    simp only [Act.put,List.setIfInBounds_toArray,List.set_cons_zero,List.set_cons_succ]
    refine wpAnyH_take (i:=3) (v:=undef) rfl (by kernel_rfl) (by kernel_rfl) (by kernel_rfl) (fun _ _ _ h=>h) (Or.inr ⟨by rfl,rfl⟩) (by assumption) ?_
    simp only [Act.put,List.setIfInBounds_toArray,List.set_cons_zero,List.set_cons_succ]
    refine wpAnyH_take (i:=4) (v:=undef) rfl (by kernel_rfl) (by kernel_rfl) (by kernel_rfl) (fun _ _ _ h=>h) (Or.inr ⟨by rfl,rfl⟩) (by assumption) ?_
    simp only [Act.put,List.setIfInBounds_toArray,List.set_cons_zero,List.set_cons_succ]
    refine wpAnyH_take (i:=5) (v:=undef) rfl (by kernel_rfl) (by kernel_rfl) (by kernel_rfl) (fun _ _ _ h=>h) (Or.inr ⟨by rfl,rfl⟩) (by assumption) ?_
    simp only [Act.put,List.setIfInBounds_toArray,List.set_cons_zero,List.set_cons_succ]
    refine wpAnyH_take (i:=6) (v:=?_) rfl (by kernel_rfl) (by kernel_rfl) (by kernel_rfl) (fun _ _ _ h=>h) (Or.inl ⟨by rfl,?_⟩) (by assumption) ?_
    rotate_left
    . intro w hSw; (try dsimp only at hSw); go_simp; first | done | with_reducible rfl
    simp only [Act.put,List.setIfInBounds_toArray,List.set_cons_zero,List.set_cons_succ]
    refine wpAnyH_take (i:=7) (v:=?_) rfl (by kernel_rfl) (by kernel_rfl) (by kernel_rfl) (fun _ _ _ h=>h) (Or.inl ⟨by rfl,?_⟩) (by assumption) ?_
    rotate_left
    . intro w hSw; (try dsimp only at hSw); go_simp; first | done | with_reducible rfl
    simp only [Act.put,List.setIfInBounds_toArray,List.set_cons_zero,List.set_cons_succ]
    refine wpAnyH_take (i:=8) (v:=?_) rfl (by kernel_rfl) (by kernel_rfl) (by kernel_rfl) (fun _ _ _ h=>h) (Or.inl ⟨by rfl,?_⟩) (by assumption) ?_
    rotate_left
    . intro w hSw; (try dsimp only at hSw); go_simp; first | done | with_reducible rfl
    simp only [Act.put,List.setIfInBounds_toArray,List.set_cons_zero,List.set_cons_succ]
    refine wpAnyH_take (i:=10) (v:=?_) rfl (by kernel_rfl) (by kernel_rfl) (by kernel_rfl) (fun _ _ _ h=>h) (Or.inl ⟨by rfl,?_⟩) (by assumption) ?_
    rotate_left
    . intro w hSw; (try dsimp only at hSw); go_simp; first | done | with_reducible rfl
    simp only [Act.put,List.setIfInBounds_toArray,List.set_cons_zero,List.set_cons_succ]
    refine wpAnyH_take (i:=11) (v:=?_) rfl (by kernel_rfl) (by kernel_rfl) (by kernel_rfl) (fun _ _ _ h=>h) (Or.inl ⟨by rfl,?_⟩) (by assumption) ?_
    rotate_left
    . intro w hSw; (try dsimp only at hSw); go_simp; first | done | with_reducible rfl
    simp only [Act.put,List.setIfInBounds_toArray,List.set_cons_zero,List.set_cons_succ]
    refine wpAnyH_ready (rs:=[9]) (by kernel_rfl) (by simp) ?_
    refine AllReadyH.cons rfl (fun K hK=>?_) AllReadyH.nil
    go_simp
    refine (hC _ (bel_trans hb2 hb1.drew)).mono ?_
    rintro y w3 ⟨so,sn,sc,rfl,hv,hbv1⟩
    have q0:=(hbv1.block (w.heap.size+1) (by show _<wx.heap.size; omega)).trans g1
    have x0:=blkC q0 0 rfl
    have x1:=blkC q0 1 rfl
    have x2:=blkC q0 2 rfl
    have z0:=blkF q0 0
    have z1:=blkF q0 1
    have z2:=blkF q0 2
    refine hK.out _ _ (keepB (W:=wx.drew) ⟨k0,k1,k2⟩ hbv1) (fun hHeld2=>?_)
    clear hK K hHeld
    try simp only [Act.put,List.setIfInBounds_toArray,List.set_cons_zero,List.set_cons_succ]
    refine wpAnyH_take (i:=12) (v:=?_) rfl (by kernel_rfl) (by kernel_rfl) (by kernel_rfl) (fun _ _ _ h=>h) (Or.inl ⟨by rfl,?_⟩) (by assumption) ?_
    rotate_left
    . intro w hSw; (try dsimp only at hSw); go_simp; first | done | with_reducible rfl
    simp only [Act.put,List.setIfInBounds_toArray,List.set_cons_zero,List.set_cons_succ]
    refine wpAnyH_ready (rs:=[13]) (by kernel_rfl) (by simp) ?_
    refine AllReadyH.cons rfl (fun K hK=>?_) AllReadyH.nil
    go_simp
    refine hK.out _ _ (keepS hHeld2 (by omega) _ _ _) (fun hHeld3=>?_)
    clear hK K
    refine wpAnyH_done (by kernel_rfl) ?_ _
    all_goals go_wp2
    all_goals
      refine bodyPost_ret (v:=.agg #[.bool false,.slice so sn sc,.int .i64 e]) (by simp [results,Tryz.results138,go_sem,x0,x1,x2]) rfl ⟨_,rfl,?_⟩
      exact ans_res (g:=w.heap.size+1) (hv.from hb1.drew) hb2 (by omega) (by omega) _ _ _
  ·
    go_enter Tryz.func138,Tryz.ntmps138
    go_wp2_with fail
    generalize (w.alloc (.cells #[.bool an,.slice ao n ca,.int .i64 e] 33)).alloc (.cells #[.bool false,.slice none 0 0,.int .i64 0] 33)=wx at hb2 g0 g1 hs ⊢
    have k0:=blkC g0 0 rfl
    have k1:=blkC g0 1 rfl
    have k2:=blkC g0 2 rfl
    have hb1:=bel_refl wx
    go_region_held3 (fun W=>W.cell? ⟨w.heap.size,0,none⟩=some (.bool an)∧W.cell? ⟨w.heap.size,1,none⟩=some (.slice ao n ca)∧W.cell? ⟨w.heap.size,2,none⟩=some (.int .i64 e))
      (first | assumption | exact ⟨k0,k1,k2⟩ | exact keepB (W:=wx.drew) ⟨k0,k1,k2⟩ hbv1 | exact keepS (keepB (W:=wx.drew) ⟨k0,k1,k2⟩ hbv1) (by omega) _ _ _)
      (first | (go_at_call 156; refine (hC _ (bel_trans hb2 hb1.drew)).mono ?_; rintro y w3 ⟨so,sn,sc,rfl,hv,hbv1⟩; have q0:=(hbv1.block (w.heap.size+1) (by show _<wx.heap.size; omega)).trans g1; have x0:=blkC q0 0 rfl; have x1:=blkC q0 1 rfl; have x2:=blkC q0 2 rfl; have z0:=blkF q0 0; have z1:=blkF q0 1; have z2:=blkF q0 2) | fail)
    all_goals go_wp2
    all_goals
      refine bodyPost_ret (v:=.agg #[.bool (decide (0<n)),.slice so sn sc,.int .i64 e]) (by simp [results,Tryz.results138,go_sem,x0,x1,x2]) rfl ⟨_,rfl,?_⟩
      exact ans_res (g:=w.heap.size+1) (hv.from hb1.drew) hb2 (by omega) (by omega) _ _ _
theorem neg_dy {x:NumR} (h:okR x=true):Dy (-x.V) (!x.ng && decide (0<x.n)) (val x.d x.n) x.e:=by
  have hd:=(okR_dy h).1
  by_cases h0:0<x.n
  . have hv:=val_pos (okR_sane h).1 h0
    have:=hd.neg hv
    simpa [h0] using this
  . rcases of_decide_eq_true h with ⟨h1,h2,h3⟩ | ⟨h1,_⟩
    . have hv:val x.d x.n=0:=by rw [h1]; rfl
      have:=hd.eq_zero.2 hv
      rw [this,hv,h3]
      simpa [h0] using Dy.zero
    . omega
set_option maxRecDepth 100000 in
set_option maxHeartbeats 1000000 in
theorem dneg_ok (x:NumR) (w:World) (hx:Row w x.ao x.n x.cap x.d) (ok:okR x=true) :
    Calls Tryz.prog 114 #[x.v] w fun r w'=>∃ v,r=.returned (.tuple #[v,.int .i64 0])∧DAns w w' (-x.V) v:=by
  have hV:=fun W hb=>dvalid_any x.ng x.ao x.n x.cap x.d x.e W (hx.keeps hb)
  have hS:=fun W hb=>withSign_any (!x.ng) x W (hx.keeps hb) (okR_sane ok)
  have hy:Dy (-x.V) (!x.ng && decide (0<x.n)) (val x.d x.n) x.e:=neg_dy ok
  have hk:okN x.ng x.d x.n x.e=okR x:=rfl
  rw [hk,ok] at hV
  clear ok hk
  generalize -x.V=V at hy ⊢
  unfold NumR.v at hS ⊢
  obtain ⟨an,ao,n,ca,a,e⟩:=x
  simp only at *
  go_enter Tryz.func114,Tryz.ntmps114
  go_wp2_with fail
  refine (hV _ (bel_alloc2 _ _ _)).mono ?_
  rintro r w1 ⟨rfl,hb1⟩
  have hbw:=bel_trans (bel_alloc2 w _ _) hb1
  have g0:=(hb1.block w.heap.size (by rw [size2]; omega)).trans (heap_a2 _ _ _)
  have g1:=(hb1.block (w.heap.size+1) (by rw [size2]; omega)).trans (heap_b2 _ _ _)
  have hs2:w.heap.size+2<=w1.heap.size:=by have:=hb1.size; rw [size2] at this; exact this
  have k0:=blkC g0 0 rfl
  have k1:=blkC g0 1 rfl
  have k2:=blkC g0 2 rfl
  go_wp2_with fail
  refine (hS _ hbw).mono ?_
  rintro r w3 ⟨s,rfl,hA⟩
  obtain ⟨so,sn,sc,rfl⟩:=hA.num.shape
  have q0:=(hA.below.block (w.heap.size+1) (by omega)).trans g1
  have x0:=blkC q0 0 rfl
  have x1:=blkC q0 1 rfl
  have x2:=blkC q0 2 rfl
  have z0:=blkF q0 0
  have z1:=blkF q0 1
  have z2:=blkF q0 2
  generalize hsg:(!an && decide (0<n))=sgx at *
  go_wp2
  refine bodyPost_ret (v:=.tuple #[.agg #[.bool sgx,.slice so sn sc,.int .i64 e],.int .i64 0]) (by simp [results,Tryz.results114,go_sem,x0,x1,x2]) rfl ⟨_,rfl,?_⟩
  exact ⟨_,_,_,_,rfl,hy,ans_res (g:=w.heap.size+1) hA hbw (by omega) (by omega) _ _ _⟩
theorem ord_scale {a b p:Int} (hp:0<p):ord (a*p) (b*p)=ord a b:=by
  rcases Int.lt_trichotomy a b with h | h | h
  . rw [ord_lt h,ord_lt (Int.mul_lt_mul_of_pos_right h hp)]
  . rw [ord_eq h,ord_eq (by rw [h])]
  . rw [ord_gt h,ord_gt (Int.mul_lt_mul_of_pos_right h hp)]
theorem keep66 {W w':World} {g h:Nat} {a b c d e f:Value} (hb:Below W.heap.size W w') (hS:(W.cell? ⟨g,0,none⟩=some a∧W.cell? ⟨g,1,none⟩=some b∧W.cell? ⟨g,2,none⟩=some c)∧W.cell? ⟨h,0,none⟩=some d∧W.cell? ⟨h,1,none⟩=some e∧W.cell? ⟨h,2,none⟩=some f) :
    (w'.cell? ⟨g,0,none⟩=some a∧w'.cell? ⟨g,1,none⟩=some b∧w'.cell? ⟨g,2,none⟩=some c)∧w'.cell? ⟨h,0,none⟩=some d∧w'.cell? ⟨h,1,none⟩=some e∧w'.cell? ⟨h,2,none⟩=some f :=
  ⟨keepB hS.1 hb,keepB hS.2 hb⟩
theorem sgn_V {x:NumR} (sx:Sane x):(sgn x.ng x.n=0∧x.V=0∧x.n=0)∨(sgn x.ng x.n=1∧0<x.V∧0<x.n∧x.ng=false)∨(sgn x.ng x.n=-1∧x.V<0∧0<x.n∧x.ng=true):=by
  by_cases h0:x.n=0
  . left
    refine ⟨by simp [sgn,h0],?_,h0⟩
    show sg x.ng (val x.d x.n)*_=0
    rw [h0]
    show sg x.ng 0*_=0
    rw [sg_zero,Int.zero_mul]
  . right
    have hp:=Int.mul_pos (val_pos sx.1 (show 0<x.n by omega)) (pw_pos x.e)
    have hV:x.V=sg x.ng (val x.d x.n)*pw x.e:=rfl
    cases hg:x.ng
    . left
      rw [hg] at hV
      exact ⟨by simp [sgn,h0],by rw [hV]; exact hp,by omega,rfl⟩
    . right
      rw [hg] at hV
      refine ⟨by simp [sgn,h0],?_,by omega,rfl⟩
      rw [hV]
      show -val x.d x.n*pw x.e<0
      rw [Int.neg_mul]; omega
theorem ord_neg (a b:Int):ord (-a) (-b)=-ord a b:=by
  rcases Int.lt_trichotomy a b with h | h | h
  . rw [ord_lt h,ord_gt (by omega)]; rfl
  . rw [ord_eq h,ord_eq (by omega)]; rfl
  . rw [ord_gt h,ord_lt (by omega)]
theorem DNum.open {w:World} {v:Value} {V:Int} (h:DNum w v V) (ok:Dok V):∃ x:NumR,v=x.v∧Row w x.ao x.n x.cap x.d∧okR x=true∧x.V=V:=by
  obtain ⟨ng,s,m,e,rfl,hy,ao,n,cap,d,rfl,hR,hN,rfl⟩:=h
  refine ⟨⟨ng,ao,n,cap,d,e⟩,rfl,hR,?_,hy.val.symm⟩
  obtain ⟨o1,o2,o3⟩:=hy.ok.1 ok
  refine decide_eq_true ?_
  by_cases h0:n=0
  . left
    have hz:val d n=0:=by rw [h0]; rfl
    rcases hy.form with ⟨_,f2,f3⟩ | ⟨f1,_⟩
    . exact ⟨h0,f2,f3⟩
    . omega
  . right
    have hp:=val_pos hN (show 0<n by omega)
    rcases hy.form with ⟨f1,_⟩ | ⟨_,f2⟩
    . omega
    . refine ⟨by show 0<n; omega,⟨?_,hN⟩,?_,o2,o3⟩
      . exact Num.len (w:=w) (ao:=ao) (cap:=cap) ⟨_,_,_,_,rfl,hR,hN,rfl⟩ o1
      . obtain ⟨k,hk⟩:∃ k,n=1+k:=⟨n-1,by omega⟩
        have:=val_split d 1 k
        rw [<- hk] at this
        rw [this,show val d 1=d 0 by show 0+d 0*1=_; omega,show P 1=1073741824 from rfl] at f2
        show d 0 % 2=1
        omega
theorem DFit.yes {w w':World} {V er:Int} {v:Value} (h:DFit w w' V v er) (ok:Dok V):er=0∧DAns w w' V v:=by
  rcases h.2 with ⟨_,h1,h2⟩ | ⟨hn,_⟩
  . exact ⟨h1,h2⟩
  . exact absurd ok hn
theorem sub_D {w:World} {x y:Value} {A B:Int} (hx:DNum w x A) (hy:DNum w y B) (oA:Dok A) (oB:Dok B) (hT:Tab w) :
    Calls Tryz.prog 79 #[x,y] w fun r w'=>∃ v er,r=.returned (.tuple #[v,.int .i64 er])∧DFit w w' (A-B) v er:=by
  obtain ⟨x,rfl,hR,ok,rfl⟩:=hx.open oA
  obtain ⟨y,rfl,hR',ok',rfl⟩:=hy.open oB
  exact dsub_ok x y w hR hR' ok ok' hT
theorem sign_D {w:World} {x:Value} {A:Int} (hx:DNum w x A) (oA:Dok A) :
    Calls Tryz.prog 73 #[x] w fun r w'=>r=.returned (.tuple #[.int .i64 (ord A 0),.int .i64 0])∧Below w.heap.size w w':=by
  obtain ⟨x,rfl,hR,ok,rfl⟩:=hx.open oA
  have:=dsignF_any x w hR
  rw [ok] at this
  have e:sgn x.ng x.n=ord x.V 0:=by
    rcases sgn_V (okR_sane ok) with ⟨a,b,_⟩ | ⟨a,b,_⟩ | ⟨a,b,_⟩
    . rw [a,b,ord_eq rfl]
    . rw [a,ord_gt b]
    . rw [a,ord_lt b]
  rw [<- e]
  exact this
theorem neg_D {w:World} {x:Value} {A:Int} (hx:DNum w x A) (oA:Dok A) :
    Calls Tryz.prog 114 #[x] w fun r w'=>∃ v,r=.returned (.tuple #[v,.int .i64 0])∧DAns w w' (-A) v:=by
  obtain ⟨x,rfl,hR,ok,rfl⟩:=hx.open oA
  exact dneg_ok x w hR ok
set_option maxHeartbeats 1000000 in
theorem rshl_qp (ao:Option Addr) (n ca q p:Nat) (a:Nat->Int) (w:World) (ha:Row w ao n ca a) (da:Dig a n) (hn:n<=100000) (hq:q<=100000) (hp:p<30) (k:Int) (hk:k=30*q+p) :
    Calls Tryz.prog 94 #[.slice ao n ca,.int .i64 k] w fun e w'=>∃ v,e=.returned v∧Ans w w' (P q*(2^p*val a n)) v:=by
  have hla:=ha.le
  have hma:=ha.max
  have e1:k/30=q:=by omega
  have e2:k % 30=p:=by omega
  have hk0:0<=k:=by omega
  clear hk
  have hu:=two_pos p
  have hu2:(2:Int)^p<=2^29:=two_le (by omega)
  by_cases hn0:n=0
  . subst hn0
    have H0:Hid (P q*(2^p*val a 0)=0):=by show _=_; simp [val]
    go_enter Tryz.func94,Tryz.ntmps94
    go_wp2
    go_ret
    exact ⟨_,rfl,by rw [H0.out]; exact Ans.nil (bel_refl _)⟩
  . have en:((n:Int) == 0)=false:=by simp; omega
    go_enter Tryz.func94,Tryz.ntmps94
    go_wp2_with (at_make; refine wpList_mk rfl _ _ rfl _ _ q rfl rfl (by omega) (by omega) (by omega) ?_; intro w1 hB1 hb1)
    rw [e2]
    go_loopw [5,7,8] (fun l c i wr=>∃ (k:Nat) (c':Int) (r:Nat->Int),k<=n∧i=.int .i64 k∧c=.int .i64 c'∧0<=c'∧c'<2^p∧Out w.heap.size wr l (q+k) r∧Dig r (q+k)∧Hid (∀ i,i<q->r i=0)∧Hid (val (fun i=>r (q+i)) k+c'*P k=2^p*val a k)∧Below w.heap.size w wr) (fun _ _ i _=>n-(intOf i).toNat)
    case atStart=>exact ⟨0,0,fun _=>0,Nat.zero_le _,rfl,rfl,by omega,hu,hB1.out (Nat.le_refl _) (Nat.le_refl _) (by omega),zero_dig _,fun _ _=>rfl,by show _=_; show (0:Int)+0*1=2^p*0; omega,hb1⟩
    case round=>
      obtain ⟨k,c,r,hk,rfl,rfl,hc0,hc1,hO,hD,HZ,HV,hbw⟩:=hrel
      by_cases hlt:k<n
      . obtain ⟨ba,fa,rfl,hba,hca⟩:=ha.spot (by omega)
        have c1:=(hbw.cell (p:=⟨ba,fa+k,none⟩) hba).trans (hca k hlt)
        have dk:=da k hlt
        obtain ⟨s0,s1,s2⟩:=shl_dig dk (show p<=30 by omega)
        have hc2:(a k*2^p+c)/1073741824<2^p:=by omega
        go_wp2_with (at_builtin; refine wpList_app rfl _ _ rfl w.heap.size _ (q+k) r rfl (hO.stays (bel_alloc _ _)) _ 1 1 (fun _=>(a k*2^p+c) % 1073741824) rfl (row1 _ _ rfl) (by omega) (by have:=hbw.size; simp; omega) ?_; intro v' w1 hO1 hg1)
        have hb1:Below w.heap.size w w1:=(hbw.alloc hbw.size _).grown hg1 (by have:=hbw.size; simp; omega) (own_ge hO)
        have hs:=sum_step (x:=a k*2^p) HV.out
        rw [Int.add_comm c] at hs
        go_roundw
        case rel=>exact ⟨k+1,(a k*2^p+c)/1073741824,upd r (q+k) ((a k*2^p+c) % 1073741824),by omega,by go_num,rfl,by omega,hc2,hO1.congr (cat_upd r (q+k) _),dig_upd2 hD (mod_dig _),fun i hi=>by rw [upd_other r _ (by omega)]; exact HZ.out i hi,by show _=_; rw [upd_shift,hs,val_succ]; grind,hb1⟩
        case measure=>simp [intOf]; omega
      . obtain rfl:k=n:=by omega
        go_wp2_with (at_builtin; refine wpList_app rfl _ _ rfl w.heap.size _ (q+k) r rfl (hO.stays (bel_alloc _ _)) _ 1 1 (fun _=>c) rfl (row1 _ _ rfl) (by omega) (by have:=hbw.size; simp; omega) ?_; intro v' w1 hO1 hg1)
        have hb1:Below w.heap.size w w1:=(hbw.alloc hbw.size _).grown hg1 (by have:=hbw.size; simp; omega) (own_ge hO)
        have D2:Dig (upd r (q+k) c) (q+k+1):=dig_upd2 hD ⟨hc0,by omega⟩
        refine (rtrim_ans (hO1.congr (cat_upd r (q+k) c)) D2 hb1).mono ?_
        rintro e w3 ⟨v',rfl,hA,rfl⟩
        go_wp2
        go_ret
        refine ⟨_,rfl,?_⟩
        rw [Nat.add_assoc,val_shift0 _ _ _ (fun i hi=>by rw [upd_other r _ (by omega)]; exact HZ.out i hi),upd_shift,val_succ,upd_same,val_upd_ge _ _ (Nat.le_refl _),HV.out] at hA
        exact hA
theorem rshl_any (ao:Option Addr) (n ca k:Nat) (a:Nat->Int) (w:World) (ha:Row w ao n ca a) (da:Dig a n) (hn:n<=100000) (hk:k<=2000000) :
    Calls Tryz.prog 94 #[.slice ao n ca,.int .i64 k] w fun e w'=>∃ v,e=.returned v∧Ans w w' (val a n*2^k) v:=by
  refine (rshl_qp ao n ca (k/30) (k % 30) a w ha da hn (by omega) (by omega) k (by omega)).mono ?_
  rintro e w' ⟨v,he,h⟩
  refine ⟨v,he,?_⟩
  rw [two_split k]
  rwa [show val a n*(P (k/30)*2^(k % 30))=P (k/30)*(2^(k % 30)*val a n) by grind]
set_option maxRecDepth 100000 in
set_option maxHeartbeats 1000000 in
theorem rshr_qp (ao:Option Addr) (n ca q p:Nat) (a:Nat->Int) (w:World) (ha:Row w ao n ca a) (da:Dig a n) (hn:n<=100000) (hp:p<30) (k:Int) (hk:k=30*q+p) (hkm:k<=4000000) :
    Calls Tryz.prog 116 #[.slice ao n ca,.int .i64 k] w fun e w'=>∃ v,e=.returned v∧Ans w w' (val a n/P q/2^p) v:=by
  have hla:=ha.le
  have hma:=ha.max
  have e1:k/30=q:=by omega
  have e2:k % 30=p:=by omega
  have hk0:0<=k:=by omega
  have hq1:q<=200000:=by omega
  clear hk
  have hu:=two_pos p
  have hu2:(2:Int)^p<=2^29:=two_le (by omega)
  have huv:(2:Int)^p*2^(30-p)=1073741824:=by rw [<- Int.pow_add,show p+(30-p)=30 by omega]; rfl
  have HU:Hid ((2:Int)^p*2^(30-p)=1073741824):=huv
  have hdv:(1073741824:Int)/2^p=2^(30-p):=by rw [<- huv]; exact Int.mul_ediv_cancel_left _ (by omega)
  have hz:((2:Int)^p == 0)=false:=by simp; omega
  clear huv
  by_cases hqn:n<=q
  . have H0:Hid (val a n/P q/2^p=0):=by
      show _=_
      rw [Int.ediv_eq_zero_of_lt (val_nonneg da) (by have:=val_lt da; have:=P_le hqn; omega)]; exact Int.zero_ediv _
    go_enter Tryz.func116,Tryz.ntmps116
    go_wp2
    go_ret
    exact ⟨_,rfl,by rw [H0.out]; exact Ans.nil (bel_refl _)⟩
  . obtain ⟨ba,fa,rfl,hba,hca⟩:=ha.spot (by omega)
    obtain ⟨N,hN⟩:∃ N,n=q+N:=⟨n-q,by omega⟩
    have HN:Hid (n=q+N):=hN
    have hn1:q+N<=n:=by omega
    have hn2:n<=q+N:=by omega
    have hN0:0<N:=by omega
    clear hN
    go_enter Tryz.func116,Tryz.ntmps116
    go_wp2
    rw [e1,e2]
    go_loopw [5,7] (fun l i wr=>∃ (k:Nat) (r:Nat->Int),k<=N∧i=.int .i64 ((q:Int)+k)∧Out w.heap.size wr l k r∧Hid (∀ i,i<k->r i=low (fun j=>ext a n (q+j)) (2^p) (2^(30-p)) i)∧Below w.heap.size w wr) (fun _ i _=>n-(intOf i).toNat)
    case atStart=>exact ⟨0,fun _=>0,Nat.zero_le _,by simp,Out.nil _ _ _,fun i hi=>by omega,bel_refl _⟩
    case round=>
      obtain ⟨k,r,hk,rfl,hO,HV,hbw⟩:=hrel
      by_cases hlt:k<N
      . have c1:=(hbw.cell (p:=⟨ba,fa+(q+k),none⟩) hba).trans (hca (q+k) (by omega))
        have dx:=da (q+k) (by omega)
        by_cases hl2:q+k+1<n
        . have dy:=da (q+k+1) (by omega)
          obtain ⟨s0,s1,s2,s3,s4⟩:=shr_part dx dy hp
          have s5:0<=a (q+k+1) % 2^p*2^(30-p):=Int.mul_nonneg s3 (Int.le_of_lt (two_pos _))
          have s6:(2:Int)^(30-p)<=2^30:=two_le (by omega)
          have c2:=(hbw.cell (p:=⟨ba,fa+(q+k+1),none⟩) hba).trans (hca (q+k+1) (by omega))
          clear s2
          go_wp2
          go_quiet (fail)
          go_wp2_with (at_builtin; refine wpList_app rfl _ _ rfl w.heap.size _ k r rfl ((hO.stays (bDrewN (bel_refl _) _)).stays (bel_alloc _ _)) _ 1 1 (fun _=>(a (q+k)/2^p+a (q+k+1) % 2^p*2^(30-p))) rfl (row1 _ _ rfl) (by omega) (by have:=hbw.size; simp [World.drewN]; omega) ?_; intro v' w1 hO1 hg1)
          have hb1:Below w.heap.size w w1:=((bDrewN hbw _).alloc hbw.size _).grown hg1 (by have:=hbw.size; simp [World.drewN]; omega) (own_ge hO)
          go_roundw
          case rel=>exact ⟨k+1,upd r k (a (q+k)/2^p+a (q+k+1) % 2^p*2^(30-p)),by omega,by go_num,hO1.congr (cat_upd r k _),fun i hi=>by
              by_cases e:i=k
              . rw [e,upd_same]
                show _=ext a n (q+k)/2^p+ext a n (q+(k+1)) % 2^p*2^(30-p)
                rw [ext_lt a (by omega),ext_lt a (by omega),Nat.add_assoc]
              . rw [upd_other _ _ e]; exact HV.out i (by omega),hb1⟩
          case measure=>simp [intOf]; omega
        . obtain ⟨s0,s1,_,_,_⟩:=shr_part dx dx hp
          have s6:(2:Int)^(30-p)<=2^30:=two_le (by omega)
          go_wp2_with (at_builtin; refine wpList_app rfl _ _ rfl w.heap.size _ k r rfl (hO.stays (bel_alloc _ _)) _ 1 1 (fun _=>(a (q+k)/2^p)) rfl (row1 _ _ rfl) (by omega) (by have:=hbw.size; simp; omega) ?_; intro v' w1 hO1 hg1)
          have hb1:Below w.heap.size w w1:=(hbw.alloc hbw.size _).grown hg1 (by have:=hbw.size; simp; omega) (own_ge hO)
          go_roundw
          case rel=>exact ⟨k+1,upd r k (a (q+k)/2^p),by omega,by go_num,hO1.congr (cat_upd r k _),fun i hi=>by
              by_cases e:i=k
              . rw [e,upd_same,low_last (s:=fun j=>ext a n (q+j)) (ext_ge a (by omega)),ext_lt a (by omega)]
              . rw [upd_other r _ e]; exact HV.out i (by omega),hb1⟩
          case measure=>simp [intOf]; omega
      . obtain rfl:k=N:=by omega
        have DS:Dig (fun j=>ext a n (q+j)) (k+1):=fun i hi=>ext_dig da (q+k+1) (q+i) (by omega)
        have D2:Dig r k:=(low_dig hu HU.out DS).congr fun i hi=>(HV.out i hi).symm
        have HD2:Hid (Dig r k):=D2
        clear D2 DS
        go_wp2_with fail
        refine (rtrim_ans hO HD2.out hbw).mono ?_
        rintro e w3 ⟨v',rfl,hA,rfl⟩
        go_wp2
        go_ret
        refine ⟨_,rfl,?_⟩
        rw [val_congr HV.out,low_eq (s:=fun j=>ext a n (q+j)) hu HU.out (ext_ge a (by omega))] at hA
        have e3:=val_drop a (show q<=n by omega) da
        rw [<- e3,show n-q=k by omega]
        rw [show val (fun j=>ext a n (q+j)) k=val (fun i=>a (q+i)) k from val_congr fun i hi=>ext_lt a (by omega)] at hA
        exact hA
theorem rshr_any (ao:Option Addr) (n ca k:Nat) (a:Nat->Int) (w:World) (ha:Row w ao n ca a) (da:Dig a n) (hn:n<=100000) (hk:k<=4000000) :
    Calls Tryz.prog 116 #[.slice ao n ca,.int .i64 k] w fun e w'=>∃ v,e=.returned v∧Ans w w' (val a n/2^k) v:=by
  refine (rshr_qp ao n ca (k/30) (k % 30) a w ha da hn (by omega) k (by omega) (by omega)).mono ?_
  rintro e w' ⟨v,he,h⟩
  refine ⟨v,he,?_⟩
  rw [two_split k,<- Int.ediv_ediv_of_nonneg (Int.le_of_lt (P_pos _))]
  exact h
def updV {α:Type} (v:Nat->α) (i:Nat) (x:α):Nat->α:=fun j=>if j=i then x else v j
theorem updV_same {α:Type} (v:Nat->α) (i:Nat) (x:α):updV v i x i=x:=by simp [updV]
theorem updV_other {α:Type} (v:Nat->α) {i j:Nat} (x:α) (h:j≠i):updV v i x j=v j:=by simp [updV,h]
def valsV (v:Nat->Value) (m:Nat):List Value:=(List.range m).map v
def OutV (B:Nat) (w:World) (x:Value) (m:Nat) (v:Nat->Value):Prop:=w.ownsRow B 31 1 x m (valsV v m)
theorem OutV.shape {B:Nat} {w:World} {x:Value} {m:Nat} {v:Nat->Value} (h:OutV B w x m v):∃ xo xc,x=.slice xo m xc∧m<=xc∧xc<=9223372036854775807∧(0<m->∃ g,xo=some ⟨g,0,none⟩):=by
  rcases h.2 with ⟨rfl,rfl⟩ | ⟨g,cap,cur,rfl,hb,hg,hn,hm,_⟩
  . exact ⟨none,0,rfl,Nat.le_refl _,by decide,fun h=>by omega⟩
  . exact ⟨_,cap,rfl,hn,by unfold maxLen at hm; exact hm,fun _=>⟨g,rfl⟩⟩
theorem OutV.of_block {B:Nat} {w w':World} {x:Value} {m:Nat} {v:Nat->Value} (h:OutV B w x m v) (hb:∀ g,x.ownBlock=some g->w'.heap[g]?=w.heap[g]?):OutV B w' x m v:=by
  refine ⟨h.1,?_⟩
  rcases h.2 with hn | ⟨g,cap,cur,rfl,hbb,hg,rest⟩
  . exact .inl hn
  . exact .inr ⟨g,cap,cur,rfl,hbb,(hb g rfl).trans hg,rest⟩
theorem Out.of_block {B:Nat} {w w':World} {x:Value} {n:Nat} {d:Nat->Int} (h:Out B w x n d) (hb:∀ g,x.ownBlock=some g->w'.heap[g]?=w.heap[g]?):Out B w' x n d:=by
  refine ⟨h.1,?_⟩
  rcases h.2 with hn | ⟨g,cap,cur,rfl,hbb,hg,rest⟩
  . exact .inl hn
  . exact .inr ⟨g,cap,cur,rfl,hbb,(hb g rfl).trans hg,rest⟩
theorem Out.typed {B:Nat} {w:World} {x:Value} {n:Nat} {d:Nat->Int} (h:Out B w x n d) {g:Nat} (hg:x.ownBlock=some g):∃ cur z,w.heap[g]?=some (.cells cur 3 z):=by
  rcases h.2 with ⟨rfl,_⟩ | ⟨g',cap,cur,rfl,hbb,hg',rest⟩
  . simp [Value.ownBlock] at hg
  . simp only [Value.ownBlock,Option.some.injEq] at hg; subst hg; exact ⟨cur,_,hg'⟩
theorem OutV.typed {B:Nat} {w:World} {x:Value} {n:Nat} {v:Nat->Value} (h:OutV B w x n v) {g:Nat} (hg:x.ownBlock=some g):∃ cur z,w.heap[g]?=some (.cells cur 31 z):=by
  rcases h.2 with ⟨rfl,_⟩ | ⟨g',cap,cur,rfl,hbb,hg',rest⟩
  . simp [Value.ownBlock] at hg
  . simp only [Value.ownBlock,Option.some.injEq] at hg; subst hg; exact ⟨cur,_,hg'⟩
theorem OutV.ge {B:Nat} {w:World} {x:Value} {n:Nat} {v:Nat->Value} (h:OutV B w x n v) {g:Nat} (hg:x.ownBlock=some g):B<=g∧g<w.heap.size:=by
  rcases h.2 with ⟨rfl,_⟩ | ⟨g',cap,cur,rfl,hbb,hg',rest⟩
  . simp [Value.ownBlock] at hg
  . simp only [Value.ownBlock,Option.some.injEq] at hg; subst hg; exact ⟨hbb,(Array.getElem?_eq_some_iff.1 hg').1⟩
theorem Out.ge {B:Nat} {w:World} {x:Value} {n:Nat} {v:Nat->Int} (h:Out B w x n v) {g:Nat} (hg:x.ownBlock=some g):B<=g∧g<w.heap.size:=by
  rcases h.2 with ⟨rfl,_⟩ | ⟨g',cap,cur,rfl,hbb,hg',rest⟩
  . simp [Value.ownBlock] at hg
  . simp only [Value.ownBlock,Option.some.injEq] at hg; subst hg; exact ⟨hbb,(Array.getElem?_eq_some_iff.1 hg').1⟩
theorem OutV.alloc {B:Nat} {w:World} {x:Value} {m:Nat} {v:Nat->Value} (h:OutV B w x m v) (o:Obj):OutV B (w.alloc o) x m v:=h.of_block fun g hg=>Below.heap_alloc _ _ _ (h.ge hg).2
def An (B:Nat) (w:World) (v:Value) (V:Int):Prop:=∃ t d,Out B w v t d∧Nrm d t∧val d t=V
theorem An.keeps {B:Nat} {w w':World} {v:Value} {V:Int} (h:An B w v V) (k:Below w.heap.size w w'):An B w' v V:=by
  obtain ⟨t,d,h1,h2⟩:=h
  exact ⟨t,d,h1.stays k,h2⟩
theorem An.lower {B B':Nat} {w:World} {v:Value} {V:Int} (h:An B w v V) (hB:B'<=B):An B' w v V:=by
  obtain ⟨t,d,h1,h2⟩:=h
  exact ⟨t,d,h1.lower hB,h2⟩
theorem An.nil (B:Nat) (w:World):An B w (.slice none 0 0) 0:=⟨0,fun _=>0,Out.nil _ _ _,⟨fun i hi=>by omega,.inl rfl⟩,rfl⟩
theorem Ans.an {w w':World} {V:Int} {v:Value} (h:Ans w w' V v):An w.heap.size w' v V:=by
  obtain ⟨t,d,h1,h2,h3,h4⟩:=h
  exact ⟨t,d,h1,h2,h3⟩
theorem An.shape {B:Nat} {w:World} {v:Value} {V:Int} (h:An B w v V):∃ ao n cap,v=.slice ao n cap:=by
  obtain ⟨t,d,h1,h2⟩:=h
  obtain ⟨ao,cap,e,_⟩:=h1.row
  exact ⟨ao,t,cap,e⟩
theorem An.num {B:Nat} {w:World} {v:Value} {V:Int} (h:An B w v V):Num w v V:=by
  obtain ⟨t,d,h1,h2,h3⟩:=h
  obtain ⟨ao,cap,rfl,hR⟩:=h1.row
  exact ⟨ao,t,cap,d,rfl,hR,h2,h3⟩
theorem An.ge {B:Nat} {w:World} {v:Value} {V:Int} (h:An B w v V) {g:Nat} (hg:v.ownBlock=some g):B<=g∧g<w.heap.size:=by
  obtain ⟨t,d,h1,h2,h3⟩:=h
  exact h1.ge hg
def S2 (S:Nat->Prop) (l:Value) (s:Nat):Nat->Prop:=fun g=>S g∨l.ownBlock=some g∨s<=g
def FitA (B:Nat) (w:World) (V:Int) (v:Value) (er:Int):Prop:=(V<P 2000∧er=0∧An B w v V)∨(P 2000<=V∧er=2∧v=.slice none 0 0)
theorem FitA.keeps {B:Nat} {w w':World} {v:Value} {V er:Int} (h:FitA B w V v er) (k:Below w.heap.size w w'):FitA B w' V v er:=by
  rcases h with ⟨h1,h2,h3⟩ | h
  . exact .inl ⟨h1,h2,h3.keeps k⟩
  . exact .inr h
theorem FitA.lower {B B':Nat} {w:World} {v:Value} {V er:Int} (h:FitA B w V v er) (hB:B'<=B):FitA B' w V v er:=by
  rcases h with ⟨h1,h2,h3⟩ | h
  . exact .inl ⟨h1,h2,h3.lower hB⟩
  . exact .inr h
theorem FitA.ge {B:Nat} {w:World} {v:Value} {V er:Int} (h:FitA B w V v er) {g:Nat} (hg:v.ownBlock=some g):B<=g∧g<w.heap.size:=by
  rcases h with ⟨h1,h2,h3⟩ | ⟨_,_,rfl⟩
  . exact h3.ge hg
  . simp [Value.ownBlock] at hg
theorem FitA.shape {B:Nat} {w:World} {v:Value} {V er:Int} (h:FitA B w V v er):∃ ao n cap,v=.slice ao n cap:=by
  rcases h with ⟨h1,h2,h3⟩ | ⟨_,_,rfl⟩
  . exact h3.shape
  . exact ⟨_,_,_,rfl⟩
def lentD (a:Nat->Int) (n:Nat):Nat->Int:=cat a n (fun i=>-71-(i:Int))
def LentA (w w':World) (v:Value) (n:Nat) (a:Nat->Int):Prop:=∃ g cap,v=.slice (some ⟨g,0,none⟩) (n+3) cap∧Out w.heap.size w' v (n+3) (lentD a n)∧Below w.heap.size w w'
theorem LentA.below {w w':World} {v:Value} {n:Nat} {a:Nat->Int} (h:LentA w w' v n a):Below w.heap.size w w':=by
  obtain ⟨g,cap,_,_,hb⟩:=h
  exact hb
theorem LentA.parts {w w':World} {v:Value} {n:Nat} {a:Nat->Int} (h:LentA w w' v n a):∃ g cap,v=.slice (some ⟨g,0,none⟩) (n+3) cap∧Out w.heap.size w' (.slice (some ⟨g,0,none⟩) (n+3) cap) (n+3) (lentD a n):=by
  obtain ⟨g,cap,rfl,h,_⟩:=h
  exact ⟨g,cap,rfl,h⟩
theorem lowA_unique {A l m:Int} (h:LowA A l) (k:LowA A m):l=m:=by
  have hz:∀ i:Nat,¬ IsLow 0 i:=fun i ⟨q,e⟩=>by
    have h2:=two_pos i
    have h3:(2*q+1)≠0:=by omega
    rcases Int.mul_eq_zero.1 e.symm with h | h
    . exact h3 h
    . omega
  rcases h with ⟨h0,h1⟩ | ⟨i,h1,hi⟩ <;> rcases k with ⟨k0,k1⟩ | ⟨j,k1,hj⟩
  . omega
  . subst h0; exact absurd hj (hz j)
  . subst k0; exact absurd hi (hz i)
  . rw [h1,k1,low_unique hi hj]
set_option maxHeartbeats 400000 in
theorem rlow_any (ao:Option Addr) (n cap:Nat) (d:Nat->Int) (w:World) (h:Row w ao n cap d) (hd:Dig d n) (hn:n<=100000) :
    Calls Tryz.prog 115 #[.slice ao n cap] w fun e w'=>∃ l,e=.returned (.int .i64 l)∧LowA (val d n) l∧w'=w:=by
  have hl:=h.le
  have hm:=h.max
  go_enter Tryz.func115,Tryz.ntmps115
  go_wp2
  go_loop [3] (fun i=>∃ k:Nat,k<=n∧i=.int .i64 k∧Hid (∀ j,j<k->d j=0)) (fun i=>n-(intOf i).toNat)
  case atStart=>exact ⟨0,Nat.zero_le _,rfl,fun j hj=>by omega⟩
  case round=>
    obtain ⟨k,hk,rfl,HZ⟩:=hrel
    by_cases hlt:k<n
    . obtain ⟨b,off,rfl,hb,hc⟩:=h.spot (by omega)
      have c:=hc k hlt
      have dk:=hd k hlt
      by_cases h0:d k=0
      . have e0:(d k != 0)=false:=by simp [h0]
        go_wp2
        go_round
        case rel=>exact ⟨k+1,by omega,by go_num,fun j hj=>by by_cases e:j=k; (· rw [e]; exact h0); (· exact HZ.out j (by omega))⟩
        case measure=>simp [intOf]; omega
      . have e0:(d k != 0)=true:=by simp [h0]
        have hpos:0<d k:=by omega
        go_wp2
        go_loop [4,5] (fun s v=>∃ (x:Int) (t:Nat),s=.int .i64 ((30*k+t:Nat):Int)∧v=.int .i64 x∧0<x∧x<1073741824∧t<=30∧Hid (x*2^t=d k)) (fun _ v=>(intOf v).toNat)
        case atStart=>exact ⟨d k,0,by go_num,rfl,hpos,dk.2,by omega,by show _=_; simp⟩
        case round=>
          obtain ⟨x,t,rfl,rfl,hx0,hx1,ht,HT⟩:=hrel
          by_cases he:x % 2=0
          . have ee:(x % 2 == 0)=true:=by simp [he]
            have HT2:Hid (x/2*2^(t+1)=d k):=by
              show _=_
              rw [Int.pow_succ,Int.mul_comm (2^t) 2,<- Int.mul_assoc,show x/2*2=x by omega]; exact HT.out
            have ht2:t+1<=30:=by
              have h1:1*2^(t+1)<=x/2*2^(t+1):=Int.mul_le_mul_of_nonneg_right (by omega) (Int.le_of_lt (two_pos _))
              rw [HT2.out] at h1
              have h2:(2:Int)^(t+1)<2^30:=by have:(2:Int)^30=1073741824:=rfl; omega
              have:=two_lt_iff h2
              omega
            go_wp2
            go_round
            case rel=>exact ⟨x/2,t+1,by go_num,rfl,by omega,by omega,ht2,HT2.out⟩
            case measure=>simp [intOf]; omega
          . have ee:(x % 2 == 0)=false:=by simp [he]
            have HL:Hid (IsLow (d k) t):=⟨x/2,by rw [show 2*(x/2)+1=x by omega]; exact HT.out.symm⟩
            go_wp2
            go_ret
            exact ⟨_,rfl,.inr ⟨30*k+t,rfl,isLow_val hlt HZ.out HL.out (low_lt hpos dk.2 HL.out)⟩,rfl⟩
    . obtain rfl:k=n:=by omega
      go_wp2
      go_ret
      exact ⟨_,rfl,.inl ⟨by rw [val_zeros (Nat.zero_le _) (fun i _ hi=>HZ.out i hi)]; rfl,rfl⟩,rfl⟩
set_option maxRecDepth 100000 in
set_option maxHeartbeats 1000000 in
theorem rnorm_any (ng:Bool) (ao:Option Addr) (n cap:Nat) (d:Nat->Int) (e:Int) (w:World) (h:Row w ao n cap d) (hd:Dig d n) (hn:n<=40000) (he0:-4194304<=e) (he1:e<=4194304) :
    Calls Tryz.prog 92 #[.bool ng,.slice ao n cap,.int .i64 e] w fun r w'=>∃ v,r=.returned v∧DAns w w' (sg ng (val d n)*pw e) v:=by
  by_cases h0:val d n=0
  . rw [h0,sg_zero,Int.zero_mul]
    go_enter Tryz.func92,Tryz.ntmps92
    go_wp2_with fail
    refine (rlow_any _ _ _ _ _ (h.keeps (bel_alloc _ _)) hd (by omega)).mono ?_
    rintro r w1 ⟨l,rfl,hl,rfl⟩
    have hl1:l=-1:=by
      rcases hl with ⟨_,h1⟩ | ⟨k,_,m,hm⟩
      . exact h1
      . exfalso
        rw [h0] at hm
        rcases Int.mul_eq_zero.1 hm.symm with x | x
        . omega
        . have:=two_pos k; omega
    subst hl1
    go_wp2
    refine bodyPost_ret (v:=zeroV) (by simp [results,Tryz.results92,go_sem,zeroV]) rfl ⟨_,rfl,?_⟩
    exact DAns.zero (bel_alloc _ _)
  . have hp:0<val d n:=by have:=val_nonneg hd; omega
    go_enter Tryz.func92,Tryz.ntmps92
    go_wp2_with fail
    refine (rlow_any _ _ _ _ _ (h.keeps (bel_alloc _ _)) hd (by omega)).mono ?_
    rintro r w1 ⟨l,rfl,hl,rfl⟩
    have hl2:∃ k:Nat,l=k∧IsLow (val d n) k:=by
      rcases hl with ⟨h1,_⟩ | h1
      . omega
      . exact h1
    obtain ⟨k,rfl,hk⟩:=hl2
    have hkn:k<30*n:=by
      have h1:=val_lt hd
      rw [P_two] at h1
      obtain ⟨a,b,c⟩:=isLow_odd hk hp
      have h2:(1:Int)*2^k<=val d n/2^k*2^k:=Int.mul_le_mul_of_nonneg_right (by omega) (Int.le_of_lt (two_pos k))
      exact two_lt_iff (by omega)
    have hy:=Dy.of ng hk hp he0
    have HY:Hid (Dy (sg ng (val d n)*pw e) ng (val d n/2^k) (e+k)):=hy
    clear hy hl hk
    go_wp2_with fail
    refine (rshr_any _ _ _ k d _ (h.keeps (bel_alloc _ _)) hd (by omega) (by omega)).mono ?_
    rintro r w2 ⟨v,rfl,hA⟩
    obtain ⟨so,sn,sc,rfl⟩:=hA.num.shape
    have q0:=(hA.below.block w.heap.size (by rw [size1]; omega)).trans (heap_a1 _ _)
    have x0:=blkC q0 0 rfl
    have x1:=blkC q0 1 rfl
    have x2:=blkC q0 2 rfl
    have z0:=blkF q0 0
    have z1:=blkF q0 1
    have z2:=blkF q0 2
    go_wp2
    refine bodyPost_ret (v:=.agg #[.bool ng,.slice so sn sc,.int .i64 (e+k)]) (by simp [results,Tryz.results92,go_sem,x0,x1,x2]) rfl ⟨_,rfl,?_⟩
    exact ⟨_,_,_,_,rfl,HY.out,ans_res (g:=w.heap.size) hA (bel_alloc _ _) (Nat.le_refl _) (by rw [size1]; omega) _ _ _⟩
def Bd (B:Nat) (V:Int):Prop:=∃ m:Int,V=m*pw (-(B:Int))∧-(2^(2*B))<m∧m<2^(2*B)
theorem Bd.ok {B:Nat} {V:Int} (h:Bd B V) (hB:B<=29000):Dok V:=by
  obtain ⟨m,rfl,h1,h2⟩:=h
  by_cases h0:m=0
  . rw [h0,Int.zero_mul]; exact dok_zero
  . have key:∀ (ng:Bool) (M:Int),0<M->M<2^(2*B)->Dok (sg ng M*pw (-(B:Int))):=fun ng M hM hlt=>by
      obtain ⟨l,hl⟩:=isLow_ex hM
      have hy:=Dy.of ng hl hM (show -4194304 <= -(B:Int) by omega)
      obtain ⟨c1,c2,c3⟩:=isLow_odd hl hM
      have hl2:l<2*B:=by
        have h3:(1:Int)*2^l<=M/2^l*2^l:=Int.mul_le_mul_of_nonneg_right (by omega) (Int.le_of_lt (two_pos l))
        rw [c3] at h3
        exact two_lt_iff (by omega)
      refine hy.ok.2 ⟨?_,by omega,by omega⟩
      have h4:M/2^l<=M:=Int.ediv_le_self _ (by omega)
      have h5:(2:Int)^(2*B)<=2^(30*2000):=two_le (by omega)
      rw [P_two]
      omega
    by_cases hp:0<m
    . exact key false m hp h2
    . have:=key true (-m) (by omega) (by omega)
      rwa [show sg true (-m)=m by simp [sg]] at this
theorem Bd.up {B C:Nat} {V:Int} (h:Bd B V) (hBC:B<=C) (hC:C<=4194304):Bd C V:=by
  obtain ⟨m,rfl,h1,h2⟩:=h
  have hp:=two_pos (C-B)
  have e:pw (-(B:Int))=pw (-(C:Int))*2^(C-B):=by
    rw [<- pw_add (by omega)]; congr 1; omega
  have hle:(2:Int)^(2*B)*2^(C-B)<=2^(2*C):=by rw [<- Int.pow_add]; exact two_le (by omega)
  refine ⟨m*2^(C-B),by rw [e]; grind,?_,?_⟩
  . have:-(2^(2*B))*2^(C-B)<m*2^(C-B):=Int.mul_lt_mul_of_pos_right h1 hp
    rw [Int.neg_mul] at this
    omega
  . have:=Int.mul_lt_mul_of_pos_right h2 hp
    omega
theorem Bd.add {B:Nat} {V W:Int} (h:Bd B V) (k:Bd B W) (hB:B<4194304):Bd (B+1) (V+W):=by
  obtain ⟨m,rfl,h1,h2⟩:=h
  obtain ⟨n,rfl,k1,k2⟩:=k
  have e:pw (-(B:Int))=pw (-((B+1:Nat):Int))*2:=by
    have:=pw_add (e:=-((B+1:Nat):Int)) (by omega) 1
    rw [Int.pow_succ,Int.pow_zero,Int.one_mul] at this
    rw [<- this]; congr 1; omega
  have e2:(2:Int)^(2*(B+1))=2^(2*B)*4:=by rw [show 2*(B+1)=2*B+2 by omega,Int.pow_add]; rfl
  refine ⟨2*(m+n),by rw [e]; grind,?_,?_⟩ <;> rw [e2] <;> omega
theorem Bd.neg {B:Nat} {V:Int} (h:Bd B V):Bd B (-V):=by
  obtain ⟨m,rfl,h1,h2⟩:=h
  exact ⟨-m,by rw [Int.neg_mul],by omega,by omega⟩
theorem Bd.mul {B:Nat} {V W U:Int} (h:Bd B V) (k:Bd B W) (hU:U*2^4194304=V*W) (hB:B<=1000000):Bd (2*B) U:=by
  obtain ⟨m,rfl,h1,h2⟩:=h
  obtain ⟨n,rfl,k1,k2⟩:=k
  have e:U=m*n*pw (-((2*B:Nat):Int)):=by
    refine scale_inj ?_
    rw [hU,Int.mul_assoc (m*n),show -((2*B:Nat):Int)=-(B:Int) + -(B:Int) by omega,<- pw_mul (by omega) (by omega)]; grind
  refine ⟨m*n,e,?_,?_⟩
  all_goals
    have hab:(m*n).natAbs<((2:Int)^(2*(2*B))).natAbs:=by
      rw [Int.natAbs_mul,show 2*(2*B)=2*B+2*B by omega,Int.pow_add,Int.natAbs_mul]
      exact Nat.mul_lt_mul'' (by have:=two_pos (2*B); omega) (by have:=two_pos (2*B); omega)
    have:=two_pos (2*(2*B))
    omega
theorem bd_num {ng:Bool} {M e:Int} (h0:0<=M) (h1:M<P 30) (e0:-3000<e) (e1:e<3000):Bd 4000 (sg ng M*pw e):=by
  have hs:pw e=pw (-((4000:Nat):Int))*2^(e+4000).toNat:=by
    rw [<- pw_add (by omega)]; congr 1; omega
  have hp:=two_pos (e+4000).toNat
  have hlt:M*2^(e+4000).toNat<2^(2*4000):=by
    have a:M*2^(e+4000).toNat<P 30*2^(e+4000).toNat:=Int.mul_lt_mul_of_pos_right h1 hp
    rw [P_two,<- Int.pow_add] at a
    have b:(2:Int)^(30*30+(e+4000).toNat)<=2^(2*4000):=two_le (by omega)
    omega
  have hn:0<=M*2^(e+4000).toNat:=Int.mul_nonneg h0 (Int.le_of_lt hp)
  refine ⟨sg ng (M*2^(e+4000).toNat),by rw [hs,sg_sgn,sg_sgn]; grind,?_,?_⟩
  all_goals
    generalize M*2^(e+4000).toNat=X at *
    generalize (2:Int)^(2*4000)=T at *
    cases ng <;> simp only [sg] <;> simp <;> omega
end Go.Proofs.YtcklaogdjpbagaaGreatDoor
namespace Go.Proofs.YtcklaogdjpbagaaGreatDoor
open Go Go.ChangeShapes Go.WideShapes Go.ChangeAt Go.RowKit Go.Proofs.YtcklaogdjpbagaaGreatDoor.M
theorem rng_of {x:Int} (h:(Lit.int .i64 x).wf=true):rng x:=by
  simp [Lit.wf,IntKind.min,IntKind.max,IntKind.signed,IntKind.bits] at h
  unfold rng; omega
end Go.Proofs.YtcklaogdjpbagaaGreatDoor
namespace Go.Proofs.YtcklaogdjpbagaaGreatDoor
open Go Go.RowKit Go.ChangeShapes Go.Proofs.YtcklaogdjpbagaaGreatDoor.M
theorem gTab : Tryz.prog.globalNamed "math/bits.deBruijn64tab" = some 3 := by kernel_rfl
theorem gTabType:(Tryz.prog.globals[(3:Nat)]?).map (·.type)=some 183:=by kernel_rfl
theorem cellsTab:Tryz.prog.cellsOf 183=64:=by kernel_rfl
theorem cellsByte:Tryz.prog.cellsOf 5=1:=by kernel_rfl
def tabInts:List Int:=Lib.deBruijn64tab.map Int.ofNat
theorem tab_get:∀ j,j<64->tabInts.getD j 0=((Lib.deBruijn64tab.getD j 0:Nat):Int):=by decide +kernel
theorem cellsInt:Tryz.prog.cellsOf 3=1:=by kernel_rfl
theorem cellsLayout:Tryz.prog.cellsOf 160=3:=by kernel_rfl
theorem g64 : Tryz.prog.globalNamed "plumb/bits.binary64" = some 1 := by kernel_rfl
theorem g64Type:(Tryz.prog.globals[(1:Nat)]?).map (·.type)=some 160:=by kernel_rfl
set_option maxRecDepth 100000 in
theorem three {W:World} {name:String} {g:Nat} {a b c:Int} {rest:List (String × DataW Unit)} (hg:Tryz.prog.globalNamed name=some g) (hty:(Tryz.prog.globals[g]?).map (·.type)=some 160)
    (h:laidMet Tryz.prog ((name,.agg [.lit (.int .i64 a),.lit (.int .i64 b),.lit (.int .i64 c)]) :: rest) W) :
    W.cell? ⟨g,0,none⟩=some (.int .i64 a)∧W.cell? ⟨g,1,none⟩=some (.int .i64 b)∧W.cell? ⟨g,2,none⟩=some (.int .i64 c):=by
  obtain ⟨ps,⟨g',t',cs,fuel,p,q,hg',ht',hvar,hd,_,_⟩,_⟩:=h
  obtain rfl:=Option.some.inj (hg.symm.trans hg')
  obtain rfl:=Option.some.inj (hty.symm.trans ht')
  obtain ⟨y0,y1,y2,n,hx,hl,h0,h1,h2⟩:=Go.Deep.trod_struct3 Tryz.underlying160 hd
  obtain ⟨k0,e0,f0,_⟩:=DataW.trod_int Tryz.underlying3 h0
  obtain ⟨k1,e1,f1,_⟩:=DataW.trod_int Tryz.underlying3 h1
  obtain ⟨k2,e2,f2,_⟩:=DataW.trod_int Tryz.underlying3 h2
  rw [f0,f1,f2] at hx
  simp only [Prod.mk.injEq,DataW.agg.injEq,List.cons.injEq,DataW.lit.injEq,Lit.int.injEq,true_and,and_true] at hx
  obtain ⟨⟨rfl,rfl,rfl⟩,_⟩:=hx
  rw [cellsLayout] at hl
  rw [cellsInt] at e0 e1 e2
  have v:=fun i=>World.var?_cell hg hvar i
  obtain ⟨l⟩:=cs
  simp only at hl e0 e1 e2
  match l,hl with
  | [c0,c1,c2],_=>
    simp at e0 e1 e2
    subst e0 e1 e2
    exact ⟨by simpa using v 0,by simpa using v 1,by simpa using v 2⟩
end Go.Proofs.YtcklaogdjpbagaaGreatDoor
namespace Go.Proofs.YtcklaogdjpbagaaGreatDoor
open Go Go.ChangeShapes Go.WideShapes Go.ChangeAt Go.RowKit Go.Proofs.YtcklaogdjpbagaaGreatDoor.M
structure Hold (w:World):Prop where
  lay:Lay64 w
  tab:Tab w
theorem Hold.keeps {w w':World} (h:Hold w) (hb:Below w.heap.size w w'):Hold w':=⟨h.lay.keeps hb,h.tab.keeps hb⟩
theorem hold_of {W : World} (h : laidMetH Tryz.prog [("math/bits.deBruijn32tab", Rows.laid_math_bits_deBruijn32tab), ("math/bits.deBruijn64tab", Rows.laid_math_bits_deBruijn64tab), ("plumb/bits.binary64", Rows.laid_plumb_bits_binary64)] W) : Hold W := by
  rw [MakeChecks.laidMetH_plain _ _ _ (by kernel_rfl)] at h
  have h' : laidMet Tryz.prog (("math/bits.deBruijn64tab", Lib.tabData .u8 tabInts) :: [("plumb/bits.binary64", Rows.laid_plumb_bits_binary64)]) W := h.tail
  have t:=Lib.tabIs_of_head gTab gTabType Tryz.underlying183 Tryz.underlying5 cellsByte cellsTab h'
  obtain ⟨a0,a1,a2⟩:=three g64 g64Type h'.tail
  refine ⟨⟨a0,a1,a2⟩,fun j hj=>?_⟩
  rw [<- tab_get j hj]
  exact t.cell gTab j (by exact hj)
end Go.Proofs.YtcklaogdjpbagaaGreatDoor
namespace Go.Proofs.YtcklaogdjpbagaaGreatDoor
open Go Go.RowKit Go.Proofs.YtcklaogdjpbagaaGreatDoor.M
theorem dans_shape {w w':World} {V:Int} {v:Value} (h:DAns w w' V v):∃ ng so sn sc e,v=.agg #[.bool ng,.slice so sn sc,.int .i64 e]:=by
  obtain ⟨ng,s,m,e,h1,_,hA⟩:=h
  obtain ⟨so,sn,sc,rfl⟩:=hA.num.shape
  exact ⟨_,_,_,_,_,h1⟩
theorem sub_B {w:World} {x y:Value} {A B:Int} {k:Nat} (hx:DNum w x A) (hy:DNum w y B) (bA:Bd k A) (bB:Bd k B) (hk:k<=28000) (hT:Tab w) :
    Calls Tryz.prog 79 #[x,y] w fun r w'=>∃ v,r=.returned (.tuple #[v,.int .i64 0])∧DAns w w' (A-B) v:=by
  refine (sub_D hx hy (bA.ok (by omega)) (bB.ok (by omega)) hT).mono ?_
  rintro r w' ⟨v,er,rfl,hF⟩
  have hb:=bA.add bB.neg (by omega)
  rw [<- Int.sub_eq_add_neg] at hb
  obtain ⟨rfl,hD⟩:=hF.yes (hb.ok (by omega))
  exact ⟨v,rfl,hD⟩
theorem ord_mul (a b c:Int):ord (a*c) (b*c)=ord a b*ord c 0:=by
  rcases Int.lt_trichotomy c 0 with h | h | h
  . have e:∀ x:Int,x*c=-(x * -c):=fun x=>by rw [Int.mul_neg,Int.neg_neg]
    rw [e a,e b,ord_neg,ord_scale (show 0 < -c by omega),ord_lt h]; omega
  . rw [h,Int.mul_zero,Int.mul_zero,ord_eq rfl,Int.mul_zero]
  . rw [ord_scale h,ord_gt h,Int.mul_one]
def patV (b:Int):Int:=sg (pneg b) (pmag b)*pw (pexp b)
def ordP (A b:Int):Int:=if pok b=true then ord A (patV b) else if b<0 then 1 else -1
end Go.Proofs.YtcklaogdjpbagaaGreatDoor
