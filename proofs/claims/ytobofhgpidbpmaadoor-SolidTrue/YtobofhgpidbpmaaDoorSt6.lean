/- Parts of the proof. -/
import Derived.Test.YtobofhgpidbpmaaDoorSt5
import Derived.Test.YtobofhgpidbpmaaDoorSt3
import Derived.Deep.RegionHeld3
import Derived.Deep.AppendLies
import Derived.Deep.RegionLaw
import Derived.Test.YtobofhgpidbpmaaDoorSt4
import Derived.Test.YtobofhgpidbpmaaDoorRows
import Derived.Test.YtobofhgpidbpmaaDoorSt2
import Derived.ProofKit
import Derived.OpenShut
import Derived.ChangeOld
import Derived.LaidMore
import Derived.Deep.Strs
import Derived.Lib.LaidTab
import Derived.MakeChecks
import Derived.Stop.LaidErr
set_option linter.unusedVariables false
set_option linter.unusedSimpArgs false
namespace Go.Proofs.YtobofhgpidbpmaaDoor
open Go Go.RowKit Go.Proofs.YtobofhgpidbpmaaDoor.M
def mulV (x y:NumR):Int:=sg (x.ng != y.ng) (val x.d x.n*val y.d y.n)*pw (x.e+y.e)
theorem mulV_eq {x y:NumR} (hx:-2097152<=x.e) (hy:-2097152<=y.e):mulV x y*2^4194304=x.V*y.V:=by
  unfold mulV NumR.V
  rw [Int.mul_assoc,<- pw_mul hx hy,<- sg_mul]; grind
set_option maxRecDepth 100000 in
set_option maxHeartbeats 2000000 in
theorem dproduct_any (x y:NumR) (w:World) (hx:Row w x.ao x.n x.cap x.d) (hy:Row w y.ao y.n y.cap y.d) (sx:Sane x) (sy:Sane y) :
    Calls Tryd.prog 81 #[x.v,y.v] w fun r w'=>∃ s,r=.returned (.agg #[.bool (x.ng != y.ng),s,.int .i64 (x.e+y.e)])∧Ans w w' (val x.d x.n*val y.d y.n) s:=by
  obtain ⟨an,ao,n,ca,a,e⟩:=x
  obtain ⟨bn,bo,m,cb,b,f⟩:=y
  obtain ⟨s1,s2,s3,s4⟩:=sx
  obtain ⟨t1,t2,t3,t4⟩:=sy
  unfold NumR.v
  simp only at *
  have hw:IntKind.i64.wrap (e+f)=e+f:=by rw [wrap_i64_eq]; omega
  have hb3:=bel_a3 w (.cells #[.bool an,.slice ao n ca,.int .i64 e] 35) (.cells #[.bool bn,.slice bo m cb,.int .i64 f] 35) (.cells #[.bool false,.slice none 0 0,.int .i64 0] 35)
  have g0:=h3_0 w (.cells #[.bool an,.slice ao n ca,.int .i64 e] 35) (.cells #[.bool bn,.slice bo m cb,.int .i64 f] 35) (.cells #[.bool false,.slice none 0 0,.int .i64 0] 35)
  have g1:=h3_1 w (.cells #[.bool an,.slice ao n ca,.int .i64 e] 35) (.cells #[.bool bn,.slice bo m cb,.int .i64 f] 35) (.cells #[.bool false,.slice none 0 0,.int .i64 0] 35)
  have g2:=h3_2 w (.cells #[.bool an,.slice ao n ca,.int .i64 e] 35) (.cells #[.bool bn,.slice bo m cb,.int .i64 f] 35) (.cells #[.bool false,.slice none 0 0,.int .i64 0] 35)
  have hs3:=size3 w (.cells #[.bool an,.slice ao n ca,.int .i64 e] 35) (.cells #[.bool bn,.slice bo m cb,.int .i64 f] 35) (.cells #[.bool false,.slice none 0 0,.int .i64 0] 35)
  go_enter Tryd.func81,Tryd.ntmps81
  go_wp2_with fail
  have HX:=hx.keeps hb3
  have HY:=hy.keeps hb3
  generalize ((w.alloc (.cells #[.bool an,.slice ao n ca,.int .i64 e] 35)).alloc (.cells #[.bool bn,.slice bo m cb,.int .i64 f] 35)).alloc (.cells #[.bool false,.slice none 0 0,.int .i64 0] 35)=wx at hb3 g0 g1 g2 hs3 HX HY ⊢
  have k0:=blkC g0 0 rfl
  have k1:=blkC g0 1 rfl
  have k2:=blkC g0 2 rfl
  have j0:=blkC g1 0 rfl
  have j1:=blkC g1 1 rfl
  have j2:=blkC g1 2 rfl
  have hb1:=bel_refl wx
  have C1:∀ W,Below wx.heap.size wx W->Calls Tryd.prog 85 #[.slice ao n ca,.slice bo m cb] W fun r w'=>∃ so sn sc,r=.returned (.slice so sn sc)∧Ans W w' (val a n*val b m) (.slice so sn sc)∧Below W.heap.size W w':=fun W h=>by
    refine (product_any ao bo n m ca cb a b W (HX.keeps h) (HY.keeps h) s1.1 t1.1 (by omega) (by omega)).mono ?_
    rintro r w' ⟨v,rfl,hA⟩
    obtain ⟨so,sn,sc,rfl⟩:=hA.num.shape
    exact ⟨so,sn,sc,rfl,hA,hA.below⟩
  go_region_held3 (fun W=>(W.cell? ⟨w.heap.size,0,none⟩=some (.bool an)∧W.cell? ⟨w.heap.size,1,none⟩=some (.slice ao n ca)∧W.cell? ⟨w.heap.size,2,none⟩=some (.int .i64 e))∧W.cell? ⟨w.heap.size+1,0,none⟩=some (.bool bn)∧W.cell? ⟨w.heap.size+1,1,none⟩=some (.slice bo m cb)∧W.cell? ⟨w.heap.size+1,2,none⟩=some (.int .i64 f))
    (first | assumption | exact ⟨⟨k0,k1,k2⟩,j0,j1,j2⟩ | exact ⟨keepB (W:=wx.drew) ⟨k0,k1,k2⟩ hbv1,keepB (W:=wx.drew) ⟨j0,j1,j2⟩ hbv1⟩ | exact ⟨keepS (keepB (W:=wx.drew) ⟨k0,k1,k2⟩ hbv1) (by omega) _ _ _,keepS (keepB (W:=wx.drew) ⟨j0,j1,j2⟩ hbv1) (by omega) _ _ _⟩)
    (first | (go_at_call 85; refine (C1 _ hb1.drew).mono ?_; rintro y w3 ⟨so,sn,sc,rfl,hv,hbv1⟩; have q0:=(hbv1.block (w.heap.size+2) (by show _<wx.heap.size; omega)).trans g2; have x0:=blkC q0 0 rfl; have x1:=blkC q0 1 rfl; have x2:=blkC q0 2 rfl; have z0:=blkF q0 0; have z1:=blkF q0 1; have z2:=blkF q0 2) | fail)
  all_goals go_wp2
  all_goals
    refine bodyPost_ret (v:=.agg #[.bool (!(an == bn)),.slice so sn sc,.int .i64 (e+f)]) (by simp [results,Tryd.results81,go_sem,x0,x1,x2]) rfl ⟨_,rfl,?_⟩
    exact ans_res (g:=w.heap.size+2) (hv.from hb1.drew) hb3 (by omega) (by omega) _ _ _
set_option maxRecDepth 100000 in
set_option maxHeartbeats 1000000 in
theorem dsignF_any (x:NumR) (w:World) (hx:Row w x.ao x.n x.cap x.d) :
    Calls Tryd.prog 38 #[x.v] w fun r w'=>r=.returned (.tuple #[.int .i64 (if okR x then sgn x.ng x.n else 0),.int .i64 (if okR x then 0 else 11)])∧Below w.heap.size w w':=by
  have hV:=fun W hb=>dvalid_any x.ng x.ao x.n x.cap x.d x.e W (hx.keeps hb)
  have hS:=fun W=>dsign_any x.ng x.ao x.n x.cap x.e W (by have:=hx.le; have:=hx.max; omega)
  have hk:okN x.ng x.d x.n x.e=okR x:=rfl
  rw [hk] at hV
  unfold NumR.v
  generalize okR x=ok at *
  obtain ⟨an,ao,n,ca,a,e⟩:=x
  simp only at *
  cases ok
  . go_enter Tryd.func38,Tryd.ntmps38
    go_wp2_with fail
    refine (hV _ (bel_alloc _ _)).mono ?_
    rintro r w1 ⟨rfl,hb1⟩
    go_wp2
    go_ret2
    exact ⟨rfl,bel_trans (bel_alloc _ _) hb1⟩
  . go_enter Tryd.func38,Tryd.ntmps38
    go_wp2_with fail
    refine (hV _ (bel_alloc _ _)).mono ?_
    rintro r w1 ⟨rfl,hb1⟩
    have g0:=(hb1.block w.heap.size (by rw [size1]; omega)).trans (heap_a1 _ _)
    have k0:=blkC g0 0 rfl
    have k1:=blkC g0 1 rfl
    have k2:=blkC g0 2 rfl
    go_wp2_with fail
    refine (hS _).mono ?_
    rintro r w2 ⟨rfl,hb2⟩
    go_wp2
    go_ret2
    exact ⟨rfl,bel_trans (bel_trans (bel_alloc _ _) hb1) hb2⟩
set_option maxRecDepth 100000 in
set_option maxHeartbeats 1000000 in
theorem withSign_any (ng:Bool) (x:NumR) (w:World) (hx:Row w x.ao x.n x.cap x.d) (sx:Sane x) :
    Calls Tryd.prog 72 #[.bool ng,x.v] w fun r w'=>∃ s,r=.returned (.agg #[.bool (ng && decide (0<x.n)),s,.int .i64 x.e])∧Ans w w' (val x.d x.n) s:=by
  have hC:∀ W,Below w.heap.size w W->Calls Tryd.prog 82 #[.slice x.ao x.n x.cap] W fun r w'=>∃ so sn sc,r=.returned (.slice so sn sc)∧Ans W w' (val x.d x.n) (.slice so sn sc)∧Below W.heap.size W w':=fun W hb=>by
    refine (clone_num (w:=W) (ao:=x.ao) (n:=x.n) (cap:=x.cap) (A:=val x.d x.n) ⟨_,_,_,_,rfl,hx.keeps hb,sx.1,rfl⟩ (by have:=sx.2.1; omega)).mono ?_
    rintro r w' ⟨v,rfl,hA⟩
    obtain ⟨so,sn,sc,rfl⟩:=hA.num.shape
    exact ⟨so,sn,sc,rfl,hA,hA.below⟩
  obtain ⟨an,ao,n,ca,a,e⟩:=x
  unfold NumR.v
  simp only at *
  have hb2:=bel_alloc2 w (.cells #[.bool an,.slice ao n ca,.int .i64 e] 35) (.cells #[.bool false,.slice none 0 0,.int .i64 0] 35)
  have g0:=heap_a2 w (.cells #[.bool an,.slice ao n ca,.int .i64 e] 35) (.cells #[.bool false,.slice none 0 0,.int .i64 0] 35)
  have g1:=heap_b2 w (.cells #[.bool an,.slice ao n ca,.int .i64 e] 35) (.cells #[.bool false,.slice none 0 0,.int .i64 0] 35)
  have hs:=size2 w (.cells #[.bool an,.slice ao n ca,.int .i64 e] 35) (.cells #[.bool false,.slice none 0 0,.int .i64 0] 35)
  have hdn:decide ((0:Int)<n)=decide (0<n):=by simp
  cases ng
  ·
    go_enter Tryd.func72,Tryd.ntmps72
    go_wp2_with fail
    generalize (w.alloc (.cells #[.bool an,.slice ao n ca,.int .i64 e] 35)).alloc (.cells #[.bool false,.slice none 0 0,.int .i64 0] 35)=wx at hb2 g0 g1 hs ⊢
    have k0:=blkC g0 0 rfl
    have k1:=blkC g0 1 rfl
    have k2:=blkC g0 2 rfl
    have hb1:=bel_refl wx
    refine wp_region_held_drew (S:=fun W=>W.cell? ⟨w.heap.size,0,none⟩=some (.bool an)∧W.cell? ⟨w.heap.size,1,none⟩=some (.slice ao n ca)∧W.cell? ⟨w.heap.size,2,none⟩=some (.int .i64 e)) (by kernel_rfl) ⟨k0,k1,k2⟩ (fun hHeld=>?_)
    refine wpAnyH_take (i:=0) (v:=?_) rfl (by kernel_rfl) (by kernel_rfl) (by kernel_rfl) (fun _ _ _ h=>h) (Or.inl ⟨by rfl,?_⟩) (by assumption) ?_
    rotate_left
    . intro w hSw; (try dsimp only at hSw); go_simp; first | done | with_reducible rfl
    simp only [Act.put,List.setIfInBounds_toArray,List.set_cons_zero,List.set_cons_succ]
    refine wpAnyH_take (i:=1) (v:=?_) rfl (by kernel_rfl) (by kernel_rfl) (by kernel_rfl) (fun _ _ _ h=>h) (Or.inl ⟨by rfl,?_⟩) (by assumption) ?_
    rotate_left
    . intro w hSw; (try dsimp only at hSw); go_simp; first | done | with_reducible rfl
    simp only [Act.put,List.setIfInBounds_toArray,List.set_cons_zero,List.set_cons_succ]
    refine wpAnyH_take (i:=2) (v:=undef) rfl (by kernel_rfl) (by kernel_rfl) (by kernel_rfl) (fun _ _ _ h=>h) (Or.inr ⟨by rfl,rfl⟩) (by assumption) ?_
    simp only [Act.put,List.setIfInBounds_toArray,List.set_cons_zero,List.set_cons_succ]
    refine wpAnyH_take (i:=3) (v:=undef) rfl (by kernel_rfl) (by kernel_rfl) (by kernel_rfl) (fun _ _ _ h=>h) (Or.inr ⟨by rfl,rfl⟩) (by assumption) ?_
    simp only [Act.put,List.setIfInBounds_toArray,List.set_cons_zero,List.set_cons_succ]
    refine wpAnyH_take (i:=4) (v:=undef) rfl (by kernel_rfl) (by kernel_rfl) (by kernel_rfl) (fun _ _ _ h=>h) (Or.inr ⟨by rfl,rfl⟩) (by assumption) ?_
    simp only [Act.put,List.setIfInBounds_toArray,List.set_cons_zero,List.set_cons_succ]
    refine wpAnyH_take (i:=5) (v:=undef) rfl (by kernel_rfl) (by kernel_rfl) (by kernel_rfl) (fun _ _ _ h=>h) (Or.inr ⟨by rfl,rfl⟩) (by assumption) ?_
    simp only [Act.put,List.setIfInBounds_toArray,List.set_cons_zero,List.set_cons_succ]
    refine wpAnyH_take (i:=6) (v:=?_) rfl (by kernel_rfl) (by kernel_rfl) (by kernel_rfl) (fun _ _ _ h=>h) (Or.inl ⟨by rfl,?_⟩) (by assumption) ?_
    rotate_left
    . intro w hSw; (try dsimp only at hSw); go_simp; first | done | with_reducible rfl
    simp only [Act.put,List.setIfInBounds_toArray,List.set_cons_zero,List.set_cons_succ]
    refine wpAnyH_take (i:=7) (v:=?_) rfl (by kernel_rfl) (by kernel_rfl) (by kernel_rfl) (fun _ _ _ h=>h) (Or.inl ⟨by rfl,?_⟩) (by assumption) ?_
    rotate_left
    . intro w hSw; (try dsimp only at hSw); go_simp; first | done | with_reducible rfl
    simp only [Act.put,List.setIfInBounds_toArray,List.set_cons_zero,List.set_cons_succ]
    refine wpAnyH_take (i:=8) (v:=?_) rfl (by kernel_rfl) (by kernel_rfl) (by kernel_rfl) (fun _ _ _ h=>h) (Or.inl ⟨by rfl,?_⟩) (by assumption) ?_
    rotate_left
    . intro w hSw; (try dsimp only at hSw); go_simp; first | done | with_reducible rfl
    simp only [Act.put,List.setIfInBounds_toArray,List.set_cons_zero,List.set_cons_succ]
    refine wpAnyH_take (i:=10) (v:=?_) rfl (by kernel_rfl) (by kernel_rfl) (by kernel_rfl) (fun _ _ _ h=>h) (Or.inl ⟨by rfl,?_⟩) (by assumption) ?_
    rotate_left
    . intro w hSw; (try dsimp only at hSw); go_simp; first | done | with_reducible rfl
    simp only [Act.put,List.setIfInBounds_toArray,List.set_cons_zero,List.set_cons_succ]
    refine wpAnyH_take (i:=11) (v:=?_) rfl (by kernel_rfl) (by kernel_rfl) (by kernel_rfl) (fun _ _ _ h=>h) (Or.inl ⟨by rfl,?_⟩) (by assumption) ?_
    rotate_left
    . intro w hSw; (try dsimp only at hSw); go_simp; first | done | with_reducible rfl
    simp only [Act.put,List.setIfInBounds_toArray,List.set_cons_zero,List.set_cons_succ]
    refine wpAnyH_ready (rs:=[9]) (by kernel_rfl) (by simp) ?_
    refine AllReadyH.cons rfl (fun K hK=>?_) AllReadyH.nil
    go_simp
    refine (hC _ (bel_trans hb2 hb1.drew)).mono ?_
    rintro y w3 ⟨so,sn,sc,rfl,hv,hbv1⟩
    have q0:=(hbv1.block (w.heap.size+1) (by show _<wx.heap.size; omega)).trans g1
    have x0:=blkC q0 0 rfl
    have x1:=blkC q0 1 rfl
    have x2:=blkC q0 2 rfl
    have z0:=blkF q0 0
    have z1:=blkF q0 1
    have z2:=blkF q0 2
    refine hK.out _ _ (keepB (W:=wx.drew) ⟨k0,k1,k2⟩ hbv1) (fun hHeld2=>?_)
    clear hK K hHeld
    try simp only [Act.put,List.setIfInBounds_toArray,List.set_cons_zero,List.set_cons_succ]
    refine wpAnyH_take (i:=12) (v:=?_) rfl (by kernel_rfl) (by kernel_rfl) (by kernel_rfl) (fun _ _ _ h=>h) (Or.inl ⟨by rfl,?_⟩) (by assumption) ?_
    rotate_left
    . intro w hSw; (try dsimp only at hSw); go_simp; first | done | with_reducible rfl
    simp only [Act.put,List.setIfInBounds_toArray,List.set_cons_zero,List.set_cons_succ]
    refine wpAnyH_ready (rs:=[13]) (by kernel_rfl) (by simp) ?_
    refine AllReadyH.cons rfl (fun K hK=>?_) AllReadyH.nil
    go_simp
    refine hK.out _ _ (keepS hHeld2 (by omega) _ _ _) (fun hHeld3=>?_)
    clear hK K
    refine wpAnyH_done (by kernel_rfl) ?_ _
    all_goals go_wp2
    all_goals
      refine bodyPost_ret (v:=.agg #[.bool false,.slice so sn sc,.int .i64 e]) (by simp [results,Tryd.results72,go_sem,x0,x1,x2]) rfl ⟨_,rfl,?_⟩
      exact ans_res (g:=w.heap.size+1) (hv.from hb1.drew) hb2 (by omega) (by omega) _ _ _
  ·
    go_enter Tryd.func72,Tryd.ntmps72
    go_wp2_with fail
    generalize (w.alloc (.cells #[.bool an,.slice ao n ca,.int .i64 e] 35)).alloc (.cells #[.bool false,.slice none 0 0,.int .i64 0] 35)=wx at hb2 g0 g1 hs ⊢
    have k0:=blkC g0 0 rfl
    have k1:=blkC g0 1 rfl
    have k2:=blkC g0 2 rfl
    have hb1:=bel_refl wx
    go_region_held3 (fun W=>W.cell? ⟨w.heap.size,0,none⟩=some (.bool an)∧W.cell? ⟨w.heap.size,1,none⟩=some (.slice ao n ca)∧W.cell? ⟨w.heap.size,2,none⟩=some (.int .i64 e))
      (first | assumption | exact ⟨k0,k1,k2⟩ | exact keepB (W:=wx.drew) ⟨k0,k1,k2⟩ hbv1 | exact keepS (keepB (W:=wx.drew) ⟨k0,k1,k2⟩ hbv1) (by omega) _ _ _)
      (first | (go_at_call 82; refine (hC _ (bel_trans hb2 hb1.drew)).mono ?_; rintro y w3 ⟨so,sn,sc,rfl,hv,hbv1⟩; have q0:=(hbv1.block (w.heap.size+1) (by show _<wx.heap.size; omega)).trans g1; have x0:=blkC q0 0 rfl; have x1:=blkC q0 1 rfl; have x2:=blkC q0 2 rfl; have z0:=blkF q0 0; have z1:=blkF q0 1; have z2:=blkF q0 2) | fail)
    all_goals go_wp2
    all_goals
      refine bodyPost_ret (v:=.agg #[.bool (decide (0<n)),.slice so sn sc,.int .i64 e]) (by simp [results,Tryd.results72,go_sem,x0,x1,x2]) rfl ⟨_,rfl,?_⟩
      exact ans_res (g:=w.heap.size+1) (hv.from hb1.drew) hb2 (by omega) (by omega) _ _ _
theorem neg_dy {x:NumR} (h:okR x=true):Dy (-x.V) (!x.ng && decide (0<x.n)) (val x.d x.n) x.e:=by
  have hd:=(okR_dy h).1
  by_cases h0:0<x.n
  . have hv:=val_pos (okR_sane h).1 h0
    have:=hd.neg hv
    simpa [h0] using this
  . rcases of_decide_eq_true h with ⟨h1,h2,h3⟩ | ⟨h1,_⟩
    . have hv:val x.d x.n=0:=by rw [h1]; rfl
      have:=hd.eq_zero.2 hv
      rw [this,hv,h3]
      simpa [h0] using Dy.zero
    . omega
set_option maxRecDepth 100000 in
set_option maxHeartbeats 1000000 in
theorem dneg_ok (x:NumR) (w:World) (hx:Row w x.ao x.n x.cap x.d) (ok:okR x=true) :
    Calls Tryd.prog 60 #[x.v] w fun r w'=>∃ v,r=.returned (.tuple #[v,.int .i64 0])∧DAns w w' (-x.V) v:=by
  have hV:=fun W hb=>dvalid_any x.ng x.ao x.n x.cap x.d x.e W (hx.keeps hb)
  have hS:=fun W hb=>withSign_any (!x.ng) x W (hx.keeps hb) (okR_sane ok)
  have hy:Dy (-x.V) (!x.ng && decide (0<x.n)) (val x.d x.n) x.e:=neg_dy ok
  have hk:okN x.ng x.d x.n x.e=okR x:=rfl
  rw [hk,ok] at hV
  clear ok hk
  generalize -x.V=V at hy ⊢
  unfold NumR.v at hS ⊢
  obtain ⟨an,ao,n,ca,a,e⟩:=x
  simp only at *
  go_enter Tryd.func60,Tryd.ntmps60
  go_wp2_with fail
  refine (hV _ (bel_alloc2 _ _ _)).mono ?_
  rintro r w1 ⟨rfl,hb1⟩
  have hbw:=bel_trans (bel_alloc2 w _ _) hb1
  have g0:=(hb1.block w.heap.size (by rw [size2]; omega)).trans (heap_a2 _ _ _)
  have g1:=(hb1.block (w.heap.size+1) (by rw [size2]; omega)).trans (heap_b2 _ _ _)
  have hs2:w.heap.size+2<=w1.heap.size:=by have:=hb1.size; rw [size2] at this; exact this
  have k0:=blkC g0 0 rfl
  have k1:=blkC g0 1 rfl
  have k2:=blkC g0 2 rfl
  go_wp2_with fail
  refine (hS _ hbw).mono ?_
  rintro r w3 ⟨s,rfl,hA⟩
  obtain ⟨so,sn,sc,rfl⟩:=hA.num.shape
  have q0:=(hA.below.block (w.heap.size+1) (by omega)).trans g1
  have x0:=blkC q0 0 rfl
  have x1:=blkC q0 1 rfl
  have x2:=blkC q0 2 rfl
  have z0:=blkF q0 0
  have z1:=blkF q0 1
  have z2:=blkF q0 2
  generalize hsg:(!an && decide (0<n))=sgx at *
  go_wp2
  refine bodyPost_ret (v:=.tuple #[.agg #[.bool sgx,.slice so sn sc,.int .i64 e],.int .i64 0]) (by simp [results,Tryd.results60,go_sem,x0,x1,x2]) rfl ⟨_,rfl,?_⟩
  exact ⟨_,_,_,_,rfl,hy,ans_res (g:=w.heap.size+1) hA hbw (by omega) (by omega) _ _ _⟩
theorem ord_scale {a b p:Int} (hp:0<p):ord (a*p) (b*p)=ord a b:=by
  rcases Int.lt_trichotomy a b with h | h | h
  . rw [ord_lt h,ord_lt (Int.mul_lt_mul_of_pos_right h hp)]
  . rw [ord_eq h,ord_eq (by rw [h])]
  . rw [ord_gt h,ord_gt (Int.mul_lt_mul_of_pos_right h hp)]
theorem sgn_V {x:NumR} (sx:Sane x):(sgn x.ng x.n=0∧x.V=0∧x.n=0)∨(sgn x.ng x.n=1∧0<x.V∧0<x.n∧x.ng=false)∨(sgn x.ng x.n=-1∧x.V<0∧0<x.n∧x.ng=true):=by
  by_cases h0:x.n=0
  . left
    refine ⟨by simp [sgn,h0],?_,h0⟩
    show sg x.ng (val x.d x.n)*_=0
    rw [h0]
    show sg x.ng 0*_=0
    rw [sg_zero,Int.zero_mul]
  . right
    have hp:=Int.mul_pos (val_pos sx.1 (show 0<x.n by omega)) (pw_pos x.e)
    have hV:x.V=sg x.ng (val x.d x.n)*pw x.e:=rfl
    cases hg:x.ng
    . left
      rw [hg] at hV
      exact ⟨by simp [sgn,h0],by rw [hV]; exact hp,by omega,rfl⟩
    . right
      rw [hg] at hV
      refine ⟨by simp [sgn,h0],?_,by omega,rfl⟩
      rw [hV]
      show -val x.d x.n*pw x.e<0
      rw [Int.neg_mul]; omega
theorem ord_neg (a b:Int):ord (-a) (-b)=-ord a b:=by
  rcases Int.lt_trichotomy a b with h | h | h
  . rw [ord_lt h,ord_gt (by omega)]; rfl
  . rw [ord_eq h,ord_eq (by omega)]; rfl
  . rw [ord_gt h,ord_lt (by omega)]
theorem DNum.open {w:World} {v:Value} {V:Int} (h:DNum w v V) (ok:Dok V):∃ x:NumR,v=x.v∧Row w x.ao x.n x.cap x.d∧okR x=true∧x.V=V:=by
  obtain ⟨ng,s,m,e,rfl,hy,ao,n,cap,d,rfl,hR,hN,rfl⟩:=h
  refine ⟨⟨ng,ao,n,cap,d,e⟩,rfl,hR,?_,hy.val.symm⟩
  obtain ⟨o1,o2,o3⟩:=hy.ok.1 ok
  refine decide_eq_true ?_
  by_cases h0:n=0
  . left
    have hz:val d n=0:=by rw [h0]; rfl
    rcases hy.form with ⟨_,f2,f3⟩ | ⟨f1,_⟩
    . exact ⟨h0,f2,f3⟩
    . omega
  . right
    have hp:=val_pos hN (show 0<n by omega)
    rcases hy.form with ⟨f1,_⟩ | ⟨_,f2⟩
    . omega
    . refine ⟨by show 0<n; omega,⟨?_,hN⟩,?_,o2,o3⟩
      . exact Num.len (w:=w) (ao:=ao) (cap:=cap) ⟨_,_,_,_,rfl,hR,hN,rfl⟩ o1
      . obtain ⟨k,hk⟩:∃ k,n=1+k:=⟨n-1,by omega⟩
        have:=val_split d 1 k
        rw [<- hk] at this
        rw [this,show val d 1=d 0 by show 0+d 0*1=_; omega,show P 1=1073741824 from rfl] at f2
        show d 0 % 2=1
        omega
theorem DFit.yes {w w':World} {V er:Int} {v:Value} (h:DFit w w' V v er) (ok:Dok V):er=0∧DAns w w' V v:=by
  rcases h.2 with ⟨_,h1,h2⟩ | ⟨hn,_⟩
  . exact ⟨h1,h2⟩
  . exact absurd ok hn
theorem sub_D {w:World} {x y:Value} {A B:Int} (hx:DNum w x A) (hy:DNum w y B) (oA:Dok A) (oB:Dok B) (hT:Tab w) :
    Calls Tryd.prog 44 #[x,y] w fun r w'=>∃ v er,r=.returned (.tuple #[v,.int .i64 er])∧DFit w w' (A-B) v er:=by
  obtain ⟨x,rfl,hR,ok,rfl⟩:=hx.open oA
  obtain ⟨y,rfl,hR',ok',rfl⟩:=hy.open oB
  exact dsub_ok x y w hR hR' ok ok' hT
theorem sign_D {w:World} {x:Value} {A:Int} (hx:DNum w x A) (oA:Dok A) :
    Calls Tryd.prog 38 #[x] w fun r w'=>r=.returned (.tuple #[.int .i64 (ord A 0),.int .i64 0])∧Below w.heap.size w w':=by
  obtain ⟨x,rfl,hR,ok,rfl⟩:=hx.open oA
  have:=dsignF_any x w hR
  rw [ok] at this
  have e:sgn x.ng x.n=ord x.V 0:=by
    rcases sgn_V (okR_sane ok) with ⟨a,b,_⟩ | ⟨a,b,_⟩ | ⟨a,b,_⟩
    . rw [a,b,ord_eq rfl]
    . rw [a,ord_gt b]
    . rw [a,ord_lt b]
  rw [<- e]
  exact this
theorem neg_D {w:World} {x:Value} {A:Int} (hx:DNum w x A) (oA:Dok A) :
    Calls Tryd.prog 60 #[x] w fun r w'=>∃ v,r=.returned (.tuple #[v,.int .i64 0])∧DAns w w' (-A) v:=by
  obtain ⟨x,rfl,hR,ok,rfl⟩:=hx.open oA
  exact dneg_ok x w hR ok
def updV {α:Type} (v:Nat->α) (i:Nat) (x:α):Nat->α:=fun j=>if j=i then x else v j
theorem updV_same {α:Type} (v:Nat->α) (i:Nat) (x:α):updV v i x i=x:=by simp [updV]
theorem updV_other {α:Type} (v:Nat->α) {i j:Nat} (x:α) (h:j≠i):updV v i x j=v j:=by simp [updV,h]
def valsV (v:Nat->Value) (m:Nat):List Value:=(List.range m).map v
def OutV (B:Nat) (w:World) (x:Value) (m:Nat) (v:Nat->Value):Prop:=w.ownsRow B 33 1 x m (valsV v m)
theorem OutV.shape {B:Nat} {w:World} {x:Value} {m:Nat} {v:Nat->Value} (h:OutV B w x m v):∃ xo xc,x=.slice xo m xc∧m<=xc∧xc<=9223372036854775807∧(0<m->∃ g,xo=some ⟨g,0,none⟩):=by
  rcases h.2 with ⟨rfl,rfl⟩ | ⟨g,cap,cur,rfl,hb,hg,hn,hm,_⟩
  . exact ⟨none,0,rfl,Nat.le_refl _,by decide,fun h=>by omega⟩
  . exact ⟨_,cap,rfl,hn,by unfold maxLen at hm; exact hm,fun _=>⟨g,rfl⟩⟩
theorem OutV.of_block {B:Nat} {w w':World} {x:Value} {m:Nat} {v:Nat->Value} (h:OutV B w x m v) (hb:∀ g,x.ownBlock=some g->w'.heap[g]?=w.heap[g]?):OutV B w' x m v:=by
  refine ⟨h.1,?_⟩
  rcases h.2 with hn | ⟨g,cap,cur,rfl,hbb,hg,rest⟩
  . exact .inl hn
  . exact .inr ⟨g,cap,cur,rfl,hbb,(hb g rfl).trans hg,rest⟩
theorem Out.of_block {B:Nat} {w w':World} {x:Value} {n:Nat} {d:Nat->Int} (h:Out B w x n d) (hb:∀ g,x.ownBlock=some g->w'.heap[g]?=w.heap[g]?):Out B w' x n d:=by
  refine ⟨h.1,?_⟩
  rcases h.2 with hn | ⟨g,cap,cur,rfl,hbb,hg,rest⟩
  . exact .inl hn
  . exact .inr ⟨g,cap,cur,rfl,hbb,(hb g rfl).trans hg,rest⟩
theorem Out.typed {B:Nat} {w:World} {x:Value} {n:Nat} {d:Nat->Int} (h:Out B w x n d) {g:Nat} (hg:x.ownBlock=some g):∃ cur z,w.heap[g]?=some (.cells cur 3 z):=by
  rcases h.2 with ⟨rfl,_⟩ | ⟨g',cap,cur,rfl,hbb,hg',rest⟩
  . simp [Value.ownBlock] at hg
  . simp only [Value.ownBlock,Option.some.injEq] at hg; subst hg; exact ⟨cur,_,hg'⟩
theorem OutV.typed {B:Nat} {w:World} {x:Value} {n:Nat} {v:Nat->Value} (h:OutV B w x n v) {g:Nat} (hg:x.ownBlock=some g):∃ cur z,w.heap[g]?=some (.cells cur 33 z):=by
  rcases h.2 with ⟨rfl,_⟩ | ⟨g',cap,cur,rfl,hbb,hg',rest⟩
  . simp [Value.ownBlock] at hg
  . simp only [Value.ownBlock,Option.some.injEq] at hg; subst hg; exact ⟨cur,_,hg'⟩
theorem OutV.ge {B:Nat} {w:World} {x:Value} {n:Nat} {v:Nat->Value} (h:OutV B w x n v) {g:Nat} (hg:x.ownBlock=some g):B<=g∧g<w.heap.size:=by
  rcases h.2 with ⟨rfl,_⟩ | ⟨g',cap,cur,rfl,hbb,hg',rest⟩
  . simp [Value.ownBlock] at hg
  . simp only [Value.ownBlock,Option.some.injEq] at hg; subst hg; exact ⟨hbb,(Array.getElem?_eq_some_iff.1 hg').1⟩
theorem Out.ge {B:Nat} {w:World} {x:Value} {n:Nat} {v:Nat->Int} (h:Out B w x n v) {g:Nat} (hg:x.ownBlock=some g):B<=g∧g<w.heap.size:=by
  rcases h.2 with ⟨rfl,_⟩ | ⟨g',cap,cur,rfl,hbb,hg',rest⟩
  . simp [Value.ownBlock] at hg
  . simp only [Value.ownBlock,Option.some.injEq] at hg; subst hg; exact ⟨hbb,(Array.getElem?_eq_some_iff.1 hg').1⟩
theorem OutV.alloc {B:Nat} {w:World} {x:Value} {m:Nat} {v:Nat->Value} (h:OutV B w x m v) (o:Obj):OutV B (w.alloc o) x m v:=h.of_block fun g hg=>Below.heap_alloc _ _ _ (h.ge hg).2
def An (B:Nat) (w:World) (v:Value) (V:Int):Prop:=∃ t d,Out B w v t d∧Nrm d t∧val d t=V
theorem An.keeps {B:Nat} {w w':World} {v:Value} {V:Int} (h:An B w v V) (k:Below w.heap.size w w'):An B w' v V:=by
  obtain ⟨t,d,h1,h2⟩:=h
  exact ⟨t,d,h1.stays k,h2⟩
theorem An.lower {B B':Nat} {w:World} {v:Value} {V:Int} (h:An B w v V) (hB:B'<=B):An B' w v V:=by
  obtain ⟨t,d,h1,h2⟩:=h
  exact ⟨t,d,h1.lower hB,h2⟩
theorem An.nil (B:Nat) (w:World):An B w (.slice none 0 0) 0:=⟨0,fun _=>0,Out.nil _ _ _,⟨fun i hi=>by omega,.inl rfl⟩,rfl⟩
theorem Ans.an {w w':World} {V:Int} {v:Value} (h:Ans w w' V v):An w.heap.size w' v V:=by
  obtain ⟨t,d,h1,h2,h3,h4⟩:=h
  exact ⟨t,d,h1,h2,h3⟩
theorem An.shape {B:Nat} {w:World} {v:Value} {V:Int} (h:An B w v V):∃ ao n cap,v=.slice ao n cap:=by
  obtain ⟨t,d,h1,h2⟩:=h
  obtain ⟨ao,cap,e,_⟩:=h1.row
  exact ⟨ao,t,cap,e⟩
theorem An.num {B:Nat} {w:World} {v:Value} {V:Int} (h:An B w v V):Num w v V:=by
  obtain ⟨t,d,h1,h2,h3⟩:=h
  obtain ⟨ao,cap,rfl,hR⟩:=h1.row
  exact ⟨ao,t,cap,d,rfl,hR,h2,h3⟩
theorem An.ge {B:Nat} {w:World} {v:Value} {V:Int} (h:An B w v V) {g:Nat} (hg:v.ownBlock=some g):B<=g∧g<w.heap.size:=by
  obtain ⟨t,d,h1,h2,h3⟩:=h
  exact h1.ge hg
def S2 (S:Nat->Prop) (l:Value) (s:Nat):Nat->Prop:=fun g=>S g∨l.ownBlock=some g∨s<=g
def FitA (B:Nat) (w:World) (V:Int) (v:Value) (er:Int):Prop:=(V<P 2000∧er=0∧An B w v V)∨(P 2000<=V∧er=2∧v=.slice none 0 0)
theorem FitA.keeps {B:Nat} {w w':World} {v:Value} {V er:Int} (h:FitA B w V v er) (k:Below w.heap.size w w'):FitA B w' V v er:=by
  rcases h with ⟨h1,h2,h3⟩ | h
  . exact .inl ⟨h1,h2,h3.keeps k⟩
  . exact .inr h
theorem FitA.lower {B B':Nat} {w:World} {v:Value} {V er:Int} (h:FitA B w V v er) (hB:B'<=B):FitA B' w V v er:=by
  rcases h with ⟨h1,h2,h3⟩ | h
  . exact .inl ⟨h1,h2,h3.lower hB⟩
  . exact .inr h
theorem FitA.ge {B:Nat} {w:World} {v:Value} {V er:Int} (h:FitA B w V v er) {g:Nat} (hg:v.ownBlock=some g):B<=g∧g<w.heap.size:=by
  rcases h with ⟨h1,h2,h3⟩ | ⟨_,_,rfl⟩
  . exact h3.ge hg
  . simp [Value.ownBlock] at hg
theorem FitA.shape {B:Nat} {w:World} {v:Value} {V er:Int} (h:FitA B w V v er):∃ ao n cap,v=.slice ao n cap:=by
  rcases h with ⟨h1,h2,h3⟩ | ⟨_,_,rfl⟩
  . exact h3.shape
  . exact ⟨_,_,_,rfl⟩
def lentD (a:Nat->Int) (n:Nat):Nat->Int:=cat a n (fun i=>-71-(i:Int))
def LentA (w w':World) (v:Value) (n:Nat) (a:Nat->Int):Prop:=∃ g cap,v=.slice (some ⟨g,0,none⟩) (n+3) cap∧Out w.heap.size w' v (n+3) (lentD a n)∧Below w.heap.size w w'
theorem LentA.below {w w':World} {v:Value} {n:Nat} {a:Nat->Int} (h:LentA w w' v n a):Below w.heap.size w w':=by
  obtain ⟨g,cap,_,_,hb⟩:=h
  exact hb
theorem LentA.parts {w w':World} {v:Value} {n:Nat} {a:Nat->Int} (h:LentA w w' v n a):∃ g cap,v=.slice (some ⟨g,0,none⟩) (n+3) cap∧Out w.heap.size w' (.slice (some ⟨g,0,none⟩) (n+3) cap) (n+3) (lentD a n):=by
  obtain ⟨g,cap,rfl,h,_⟩:=h
  exact ⟨g,cap,rfl,h⟩
def Bd (B:Nat) (V:Int):Prop:=∃ m:Int,V=m*pw (-(B:Int))∧-(2^(2*B))<m∧m<2^(2*B)
theorem Bd.ok {B:Nat} {V:Int} (h:Bd B V) (hB:B<=29000):Dok V:=by
  obtain ⟨m,rfl,h1,h2⟩:=h
  by_cases h0:m=0
  . rw [h0,Int.zero_mul]; exact dok_zero
  . have key:∀ (ng:Bool) (M:Int),0<M->M<2^(2*B)->Dok (sg ng M*pw (-(B:Int))):=fun ng M hM hlt=>by
      obtain ⟨l,hl⟩:=isLow_ex hM
      have hy:=Dy.of ng hl hM (show -4194304 <= -(B:Int) by omega)
      obtain ⟨c1,c2,c3⟩:=isLow_odd hl hM
      have hl2:l<2*B:=by
        have h3:(1:Int)*2^l<=M/2^l*2^l:=Int.mul_le_mul_of_nonneg_right (by omega) (Int.le_of_lt (two_pos l))
        rw [c3] at h3
        exact two_lt_iff (by omega)
      refine hy.ok.2 ⟨?_,by omega,by omega⟩
      have h4:M/2^l<=M:=Int.ediv_le_self _ (by omega)
      have h5:(2:Int)^(2*B)<=2^(30*2000):=two_le (by omega)
      rw [P_two]
      omega
    by_cases hp:0<m
    . exact key false m hp h2
    . have:=key true (-m) (by omega) (by omega)
      rwa [show sg true (-m)=m by simp [sg]] at this
theorem Bd.up {B C:Nat} {V:Int} (h:Bd B V) (hBC:B<=C) (hC:C<=4194304):Bd C V:=by
  obtain ⟨m,rfl,h1,h2⟩:=h
  have hp:=two_pos (C-B)
  have e:pw (-(B:Int))=pw (-(C:Int))*2^(C-B):=by
    rw [<- pw_add (by omega)]; congr 1; omega
  have hle:(2:Int)^(2*B)*2^(C-B)<=2^(2*C):=by rw [<- Int.pow_add]; exact two_le (by omega)
  refine ⟨m*2^(C-B),by rw [e]; grind,?_,?_⟩
  . have:-(2^(2*B))*2^(C-B)<m*2^(C-B):=Int.mul_lt_mul_of_pos_right h1 hp
    rw [Int.neg_mul] at this
    omega
  . have:=Int.mul_lt_mul_of_pos_right h2 hp
    omega
theorem Bd.add {B:Nat} {V W:Int} (h:Bd B V) (k:Bd B W) (hB:B<4194304):Bd (B+1) (V+W):=by
  obtain ⟨m,rfl,h1,h2⟩:=h
  obtain ⟨n,rfl,k1,k2⟩:=k
  have e:pw (-(B:Int))=pw (-((B+1:Nat):Int))*2:=by
    have:=pw_add (e:=-((B+1:Nat):Int)) (by omega) 1
    rw [Int.pow_succ,Int.pow_zero,Int.one_mul] at this
    rw [<- this]; congr 1; omega
  have e2:(2:Int)^(2*(B+1))=2^(2*B)*4:=by rw [show 2*(B+1)=2*B+2 by omega,Int.pow_add]; rfl
  refine ⟨2*(m+n),by rw [e]; grind,?_,?_⟩ <;> rw [e2] <;> omega
theorem Bd.neg {B:Nat} {V:Int} (h:Bd B V):Bd B (-V):=by
  obtain ⟨m,rfl,h1,h2⟩:=h
  exact ⟨-m,by rw [Int.neg_mul],by omega,by omega⟩
theorem Bd.mul {B:Nat} {V W U:Int} (h:Bd B V) (k:Bd B W) (hU:U*2^4194304=V*W) (hB:B<=1000000):Bd (2*B) U:=by
  obtain ⟨m,rfl,h1,h2⟩:=h
  obtain ⟨n,rfl,k1,k2⟩:=k
  have e:U=m*n*pw (-((2*B:Nat):Int)):=by
    refine scale_inj ?_
    rw [hU,Int.mul_assoc (m*n),show -((2*B:Nat):Int)=-(B:Int) + -(B:Int) by omega,<- pw_mul (by omega) (by omega)]; grind
  refine ⟨m*n,e,?_,?_⟩
  all_goals
    have hab:(m*n).natAbs<((2:Int)^(2*(2*B))).natAbs:=by
      rw [Int.natAbs_mul,show 2*(2*B)=2*B+2*B by omega,Int.pow_add,Int.natAbs_mul]
      exact Nat.mul_lt_mul'' (by have:=two_pos (2*B); omega) (by have:=two_pos (2*B); omega)
    have:=two_pos (2*(2*B))
    omega
theorem bd_num {ng:Bool} {M e:Int} (h0:0<=M) (h1:M<P 30) (e0:-3000<e) (e1:e<3000):Bd 4000 (sg ng M*pw e):=by
  have hs:pw e=pw (-((4000:Nat):Int))*2^(e+4000).toNat:=by
    rw [<- pw_add (by omega)]; congr 1; omega
  have hp:=two_pos (e+4000).toNat
  have hlt:M*2^(e+4000).toNat<2^(2*4000):=by
    have a:M*2^(e+4000).toNat<P 30*2^(e+4000).toNat:=Int.mul_lt_mul_of_pos_right h1 hp
    rw [P_two,<- Int.pow_add] at a
    have b:(2:Int)^(30*30+(e+4000).toNat)<=2^(2*4000):=two_le (by omega)
    omega
  have hn:0<=M*2^(e+4000).toNat:=Int.mul_nonneg h0 (Int.le_of_lt hp)
  refine ⟨sg ng (M*2^(e+4000).toNat),by rw [hs,sg_sgn,sg_sgn]; grind,?_,?_⟩
  all_goals
    generalize M*2^(e+4000).toNat=X at *
    generalize (2:Int)^(2*4000)=T at *
    cases ng <;> simp only [sg] <;> simp <;> omega
end Go.Proofs.YtobofhgpidbpmaaDoor
namespace Go.Proofs.YtobofhgpidbpmaaDoor
open Go Go.ChangeShapes Go.WideShapes Go.ChangeAt Go.RowKit Go.Proofs.YtobofhgpidbpmaaDoor.M
theorem rng_of {x:Int} (h:(Lit.int .i64 x).wf=true):rng x:=by
  simp [Lit.wf,IntKind.min,IntKind.max,IntKind.signed,IntKind.bits] at h
  unfold rng; omega
end Go.Proofs.YtobofhgpidbpmaaDoor
namespace Go.Proofs.YtobofhgpidbpmaaDoor
open Go Go.RowKit Go.ChangeShapes Go.Proofs.YtobofhgpidbpmaaDoor.M
theorem gTab : Tryd.prog.globalNamed "math/bits.deBruijn64tab" = some 3 := by kernel_rfl
theorem gTabType:(Tryd.prog.globals[(3:Nat)]?).map (·.type)=some 134:=by kernel_rfl
theorem cellsTab:Tryd.prog.cellsOf 134=64:=by kernel_rfl
theorem cellsByte:Tryd.prog.cellsOf 5=1:=by kernel_rfl
def tabInts:List Int:=Lib.deBruijn64tab.map Int.ofNat
theorem tab_get:∀ j,j<64->tabInts.getD j 0=((Lib.deBruijn64tab.getD j 0:Nat):Int):=by decide +kernel
theorem cellsInt:Tryd.prog.cellsOf 3=1:=by kernel_rfl
theorem cellsLayout:Tryd.prog.cellsOf 114=3:=by kernel_rfl
theorem g64 : Tryd.prog.globalNamed "plumb/bits.binary64" = some 1 := by kernel_rfl
theorem g64Type:(Tryd.prog.globals[(1:Nat)]?).map (·.type)=some 114:=by kernel_rfl
set_option maxRecDepth 100000 in
theorem three {W:World} {name:String} {g:Nat} {a b c:Int} {rest:List (String × DataW Unit)} (hg:Tryd.prog.globalNamed name=some g) (hty:(Tryd.prog.globals[g]?).map (·.type)=some 114)
    (h:laidMet Tryd.prog ((name,.agg [.lit (.int .i64 a),.lit (.int .i64 b),.lit (.int .i64 c)]) :: rest) W) :
    W.cell? ⟨g,0,none⟩=some (.int .i64 a)∧W.cell? ⟨g,1,none⟩=some (.int .i64 b)∧W.cell? ⟨g,2,none⟩=some (.int .i64 c):=by
  obtain ⟨ps,⟨g',t',cs,fuel,p,q,hg',ht',hvar,hd,_,_⟩,_⟩:=h
  obtain rfl:=Option.some.inj (hg.symm.trans hg')
  obtain rfl:=Option.some.inj (hty.symm.trans ht')
  obtain ⟨y0,y1,y2,n,hx,hl,h0,h1,h2⟩:=Go.Deep.trod_struct3 Tryd.underlying114 hd
  obtain ⟨k0,e0,f0,_⟩:=DataW.trod_int Tryd.underlying3 h0
  obtain ⟨k1,e1,f1,_⟩:=DataW.trod_int Tryd.underlying3 h1
  obtain ⟨k2,e2,f2,_⟩:=DataW.trod_int Tryd.underlying3 h2
  rw [f0,f1,f2] at hx
  simp only [Prod.mk.injEq,DataW.agg.injEq,List.cons.injEq,DataW.lit.injEq,Lit.int.injEq,true_and,and_true] at hx
  obtain ⟨⟨rfl,rfl,rfl⟩,_⟩:=hx
  rw [cellsLayout] at hl
  rw [cellsInt] at e0 e1 e2
  have v:=fun i=>World.var?_cell hg hvar i
  obtain ⟨l⟩:=cs
  simp only at hl e0 e1 e2
  match l,hl with
  | [c0,c1,c2],_=>
    simp at e0 e1 e2
    subst e0 e1 e2
    exact ⟨by simpa using v 0,by simpa using v 1,by simpa using v 2⟩
end Go.Proofs.YtobofhgpidbpmaaDoor
namespace Go.Proofs.YtobofhgpidbpmaaDoor
open Go Go.ChangeShapes Go.WideShapes Go.ChangeAt Go.RowKit Go.Proofs.YtobofhgpidbpmaaDoor.M
structure Hold (w:World):Prop where
  lay:Lay64 w
  tab:Tab w
theorem Hold.keeps {w w':World} (h:Hold w) (hb:Below w.heap.size w w'):Hold w':=⟨h.lay.keeps hb,h.tab.keeps hb⟩
theorem hold_of {W : World} (h : laidMetH Tryd.prog [("math/bits.deBruijn32tab", Rows.laid_math_bits_deBruijn32tab), ("math/bits.deBruijn64tab", Rows.laid_math_bits_deBruijn64tab), ("plumb/bits.binary64", Rows.laid_plumb_bits_binary64)] W) : Hold W := by
  rw [MakeChecks.laidMetH_plain _ _ _ (by kernel_rfl)] at h
  have h' : laidMet Tryd.prog (("math/bits.deBruijn64tab", Lib.tabData .u8 tabInts) :: [("plumb/bits.binary64", Rows.laid_plumb_bits_binary64)]) W := h.tail
  have t:=Lib.tabIs_of_head gTab gTabType Tryd.underlying134 Tryd.underlying5 cellsByte cellsTab h'
  obtain ⟨a0,a1,a2⟩:=three g64 g64Type h'.tail
  refine ⟨⟨a0,a1,a2⟩,fun j hj=>?_⟩
  rw [<- tab_get j hj]
  exact t.cell gTab j (by exact hj)
end Go.Proofs.YtobofhgpidbpmaaDoor
namespace Go.Proofs.YtobofhgpidbpmaaDoor
open Go Go.RowKit Go.Proofs.YtobofhgpidbpmaaDoor.M
theorem dans_shape {w w':World} {V:Int} {v:Value} (h:DAns w w' V v):∃ ng so sn sc e,v=.agg #[.bool ng,.slice so sn sc,.int .i64 e]:=by
  obtain ⟨ng,s,m,e,h1,_,hA⟩:=h
  obtain ⟨so,sn,sc,rfl⟩:=hA.num.shape
  exact ⟨_,_,_,_,_,h1⟩
theorem sub_B {w:World} {x y:Value} {A B:Int} {k:Nat} (hx:DNum w x A) (hy:DNum w y B) (bA:Bd k A) (bB:Bd k B) (hk:k<=28000) (hT:Tab w) :
    Calls Tryd.prog 44 #[x,y] w fun r w'=>∃ v,r=.returned (.tuple #[v,.int .i64 0])∧DAns w w' (A-B) v:=by
  refine (sub_D hx hy (bA.ok (by omega)) (bB.ok (by omega)) hT).mono ?_
  rintro r w' ⟨v,er,rfl,hF⟩
  have hb:=bA.add bB.neg (by omega)
  rw [<- Int.sub_eq_add_neg] at hb
  obtain ⟨rfl,hD⟩:=hF.yes (hb.ok (by omega))
  exact ⟨v,rfl,hD⟩
theorem ord_mul (a b c:Int):ord (a*c) (b*c)=ord a b*ord c 0:=by
  rcases Int.lt_trichotomy c 0 with h | h | h
  . have e:∀ x:Int,x*c=-(x * -c):=fun x=>by rw [Int.mul_neg,Int.neg_neg]
    rw [e a,e b,ord_neg,ord_scale (show 0 < -c by omega),ord_lt h]; omega
  . rw [h,Int.mul_zero,Int.mul_zero,ord_eq rfl,Int.mul_zero]
  . rw [ord_scale h,ord_gt h,Int.mul_one]
def patV (b:Int):Int:=sg (pneg b) (pmag b)*pw (pexp b)
def ordP (A b:Int):Int:=if pok b=true then ord A (patV b) else if b<0 then 1 else -1
end Go.Proofs.YtobofhgpidbpmaaDoor
namespace Go.Proofs.YtobofhgpidbpmaaDoor
open Go Go.Proofs.YtobofhgpidbpmaaDoor.M
def vS (r:Nat):Int:=(V Ieee.double r:Int)*pw (-1074)
theorem vS_lt {r s:Nat} (h:r<s):vS r<vS s:=Int.mul_lt_mul_of_pos_right (by have:=V_lt Ieee.double h; omega) (pw_pos _)
structure Rung (A:Int) (r0:Nat) (left:Int):Prop where
  lo:vS r0<=A
  hi:A<vS (r0+1)
  l0:left=0 ↔ A=vS r0
  l1:left=1 ↔ vS r0<A∧2*A<vS r0+vS (r0+1)
  l2:left=2 ↔ 2*A=vS r0+vS (r0+1)
  l3:left=3 ↔ vS r0+vS (r0+1)<2*A
def rTo (way:Int) (ng:Bool) (r0:Nat) (left:Int):Int:=if (r0:Int)<9218868437227405312 then (r0:Int)+(if rUp way ng (decide (r0 % 2=1)) left then 1 else 0) else bRung way ng
theorem rUp_left {way:Int} {ng odd:Bool} (h:rUp way ng odd 0=true):False:=by
  unfold rUp at h
  split at h
  . simp at h
  . split at h
    . simp at h
    . split at h <;> simp at h
theorem rUp_more {way:Int} {ng odd:Bool} {left:Int} (h:rUp way ng odd left=true):rUp way ng true 3=true:=by
  unfold rUp at *
  split at h
  . rename_i h1; rw [if_pos h1]; rfl
  . rename_i h1
    rw [if_neg h1]
    split at h
    . rename_i h2; rw [if_pos h2]; simp at h; simp [h.2]
    . rename_i h2
      rw [if_neg h2]
      split at h
      . rename_i h3; rw [if_pos h3]; simp at h; simp [h.2]
      . cases h
theorem left_rung {A:Int} {u a r0:Nat} {left:Int} (h:M.Left A u (2^a*pw (-1074)) left) (h1:V Ieee.double r0=u*2^a) (h2:V Ieee.double (r0+1)=(u+1)*2^a):Rung A r0 left:=by
  obtain ⟨lo,hi,l0,l1,l2,l3⟩:=h
  have e1:vS r0=(u:Int)*(2^a*pw (-1074)):=by
    unfold vS
    rw [h1]
    push_cast
    rw [Int.mul_assoc]
  have e2:vS (r0+1)=(u:Int)*(2^a*pw (-1074))+2^a*pw (-1074):=by
    unfold vS
    rw [h2]
    push_cast
    rw [Int.add_mul,Int.add_mul,Int.one_mul,Int.mul_assoc]
  generalize (2:Int)^a*pw (-1074)=q at *
  generalize (u:Int)*q=U at *
  exact ⟨by omega,by omega,by rw [e1]; exact l0,by rw [e1,e2,l1]; constructor <;> intro h <;> omega,by rw [e1,e2,l2]; constructor <;> intro h <;> omega,by rw [e1,e2,l3]; constructor <;> intro h <;> omega⟩
theorem r64_spec {way:Int} {ng sd:Bool} {A:Int} {mag:Nat} {exp:Int} {cut:Bool} (hA:Held A mag exp cut) (hm:mag<2^64) (h0:mag≠0) (he:-4194304<=exp) (hc:cut=true->2^60<=mag) :
    ∃ (r0:Nat) (left:Int),Rung A r0 left∧r64 way ng sd mag exp cut=(patS (ng && (decide (0<rTo way ng r0 left) || sd)) (rTo way ng r0 left),decide (left≠0) || decide (9218868437227405312<=(r0:Int))):=by
  have e64:(2:Nat)^64=18446744073709551616:=by decide
  obtain ⟨b1,b2,b3,b4⟩:=M.bitLen_spec mag hm h0
  have hbits:=rU_bits (size:=53) (low:=-1074) (exp:=exp) (by decide) hm h0
  have hE1:-1074<=rE 53 (-1074) mag exp:=by unfold rE; omega
  have hcs:cut=true->0<rE 53 (-1074) mag exp-exp:=fun h=>by
    have h1:=hc h
    have h2:60<Lib.bitLen mag:=by
      have:=(Nat.pow_lt_pow_iff_right (by decide:1<2)).1 (Nat.lt_of_le_of_lt h1 b2)
      exact this
    unfold rE
    omega
  have hL:=left_of hA hcs (by omega) he
  obtain ⟨E,hE⟩:∃ E,rE 53 (-1074) mag exp=E:=⟨_,rfl⟩
  have HR:r64 way ng sd mag exp cut=(let E:=rE 53 (-1074) mag exp
    let u:=rU mag (E-exp)
    let left:=rL mag cut (E-exp)
    let U:=u+(if rUp way ng (decide (u % 2=1)) left then 1 else 0)
    let neg:=ng && (decide (0<U) || sd)
    if jk 52 2047 (-1074) U E then (jp neg U E,decide (left≠0)) else (patS neg (bRung way neg),true)):=rfl
  simp only at HR
  rw [hE] at hbits hE1 hL HR
  obtain ⟨u,hu⟩:∃ u,rU mag (E-exp)=u:=⟨_,rfl⟩
  obtain ⟨left,hl⟩:∃ l,rL mag cut (E-exp)=l:=⟨_,rfl⟩
  rw [hu] at hbits hL HR
  rw [hl] at hL HR
  obtain ⟨a,ha⟩:∃ a,(E - -1074).toNat=a:=⟨_,rfl⟩
  have e53:(2:Nat)^(53:Int).toNat=9007199254740992:=by decide
  have e52:(2:Nat)^((53:Int).toNat-1)=4503599627370496:=by decide
  rw [e53,e52] at hbits
  have eB:Ieee.double.binade=4503599627370496:=by decide
  have hV:=V_rung Ieee.double a u (by rw [eB]; omega) (fun h=>by rw [eB]; exact hbits.2 (by omega))
  rw [eB] at hV
  have hpw:pw E=2^a*pw (-1074):=by rw [pw_sub (e:=E) (low:=-1074) (by decide) hE1,ha]
  rw [hpw] at hL
  refine ⟨a*4503599627370496+u,left,left_rung hL hV.1 hV.2,?_⟩
  rw [HR]
  have hodd:decide ((a*4503599627370496+u) % 2=1)=decide (u % 2=1):=by congr 1; apply propext; omega
  unfold rTo
  rw [hodd]
  obtain ⟨R,hR⟩:∃ R,rUp way ng (decide (u % 2=1)) left=R:=⟨_,rfl⟩
  rw [hR]
  obtain ⟨U,hU⟩:∃ U,u+(if R=true then 1 else 0)=U:=⟨_,rfl⟩
  rw [hU]
  have hR1:R=true->left≠0:=fun h hz=>by rw [hz,h] at hR; exact rUp_left hR
  have hR2:R=true->rUp way ng true 3=true:=fun h=>rUp_more (hR.trans h)
  have hUle:U<=9007199254740992:=by rw [<- hU]; split <;> omega
  have hcast:((a*4503599627370496+u:Nat):Int)+(if R=true then 1 else 0)=((a*4503599627370496+U:Nat):Int):=by
    rw [<- hU]
    cases R <;> simp only [if_true,if_false,Bool.false_eq_true] <;> omega
  rw [hcast]
  by_cases hU0:U=0
  . have hu0:u=0:=by rw [<- hU] at hU0; omega
    have ha0:a=0:=by
      rcases Nat.eq_zero_or_pos a with h | h
      . exact h
      . have:=hbits.2 (by omega); omega
    subst hU0 hu0 ha0
    have hj:jk 52 2047 (-1074) ((0:Nat):Int) E=true:=rfl
    rw [hj]
    rw [if_pos rfl,if_pos (by decide)]
    have hd:decide (9218868437227405312<=((0*4503599627370496+0:Nat):Int))=false:=by decide
    rw [hd,Bool.or_false]
    cases ng <;> cases sd <;> rfl
  . have hjr:=join_rung Ieee.double 52 (by decide) dB 2047 (-1074) (by decide) U E (by omega) (by rw [show (2:Nat)^(52+1)=9007199254740992 by decide]; exact hUle) hE1 (fun h=>by rw [show (2:Nat)^52=4503599627370496 by decide]; have:=hbits.2 h; rw [<- hU]; omega)
    simp only at hjr
    rw [ha,show (2:Nat)^52=4503599627370496 by decide,show (2047:Int)*2^52=9218868437227405312 by decide] at hjr
    obtain ⟨j1,j2⟩:=hjr
    have hpos:decide (0<U)=true:=decide_eq_true (by omega)
    rw [show jk ((52:Nat):Int) 2047 (-1074) (U:Int) E=jk 52 2047 (-1074) (U:Int) E from rfl] at j1
    rw [j1,hpos,Bool.true_or,Bool.and_true]
    by_cases hf:((a*4503599627370496+U:Nat):Int)<9218868437227405312
    . have huU:u<=U:=by rw [<- hU]; omega
      have hf0:((a*4503599627370496+u:Nat):Int)<9218868437227405312:=by omega
      rw [decide_eq_true hf,if_pos rfl,if_pos hf0,decide_eq_false (p:=9218868437227405312<=((a*4503599627370496+u:Nat):Int)) (by omega),Bool.or_false]
      have hd:decide (0<((a*4503599627370496+U:Nat):Int))=true:=decide_eq_true (by omega)
      rw [hd,Bool.true_or,Bool.and_true]
      congr 1
      have hjk:jk 52 2047 (-1074) (U:Int) E=true:=by rw [j1]; exact decide_eq_true hf
      have hjv:=j2 hf
      rw [show jv ((52:Nat):Int) 2047 (-1074) (U:Int) E=jv 52 2047 (-1074) (U:Int) E from rfl] at hjv
      unfold jp patS
      rw [hjk,hjv,Bool.true_and]
    . rw [decide_eq_false hf,if_neg (by simp)]
      by_cases hf0:((a*4503599627370496+u:Nat):Int)<9218868437227405312
      . have hRt:R=true:=by
          cases R
          . exfalso; simp at hU; omega
          . rfl
        have hUe:((a*4503599627370496+U:Nat):Int)=9218868437227405312:=by rw [hRt] at hU; simp at hU; omega
        rw [if_pos hf0,hUe,decide_eq_true (hR1 hRt),Bool.true_or]
        congr 1
        have:bRung way ng=9218868437227405312:=by unfold bRung; rw [hR2 hRt,if_pos rfl]
        rw [this]
        simp
      . rw [if_neg hf0,decide_eq_true (p:=9218868437227405312<=((a*4503599627370496+u:Nat):Int)) (by omega),Bool.or_true]
        congr 1
        have hd:decide (0<bRung way ng)=true:=by unfold bRung; split <;> decide
        rw [hd,Bool.true_or,Bool.and_true]
end Go.Proofs.YtobofhgpidbpmaaDoor
namespace Go.Proofs.YtobofhgpidbpmaaDoor
open Go Go.RowKit Go.Proofs.YtobofhgpidbpmaaDoor.M
theorem held_cut {M e:Int} (h:0<=M) (he:-4194304<=e) (k:Nat):Held (M*pw e) (M/2^k).toNat (e+k) (decide (M % 2^k≠0)):=by
  have hp:=two_pos k
  have hq:=pw_pos e
  have h0:0<=M/2^k:=Int.ediv_nonneg h (by omega)
  have hm0:=Int.emod_nonneg M (show (2:Int)^k≠0 by omega)
  have hm1:=Int.emod_lt_of_pos M hp
  have hd:=Int.mul_ediv_add_emod M (2^k)
  unfold Held
  rw [Int.toNat_of_nonneg h0,pw_add he]
  generalize M/2^k=Q at *
  generalize M % 2^k=T at *
  generalize pw e=q at *
  generalize (2:Int)^k=D at *
  have e1:Q*(q*D)=(D*Q)*q:=by rw [Int.mul_comm q D,<- Int.mul_assoc,Int.mul_comm Q D]
  have e2:(Q+1)*(q*D)=(D*Q)*q+D*q:=by rw [Int.add_mul,e1,Int.one_mul,Int.mul_comm q D]
  have e3:M*q=(D*Q)*q+T*q:=by rw [<- hd,Int.add_mul]
  rw [e2,e1,e3]
  have t0:0<=T*q:=Int.mul_nonneg hm0 (by omega)
  have t1:T*q<D*q:=Int.mul_lt_mul_of_pos_right hm1 hq
  refine ⟨by omega,by omega,?_⟩
  rw [decide_eq_false_iff_not]
  constructor
  . intro h
    have:T=0:=by omega
    rw [this]; simp
  . intro h hT
    have:0<T*q:=Int.mul_pos (by omega) hq
    omega
theorem to_rung {way:Int} {x:NumR} (ok:okR x=true) (h0:0<x.n) :
    ∃ (r0:Nat) (left:Int),Rung (val x.d x.n*pw x.e) r0 left∧r64 way x.ng false (val x.d x.n/2^vK (val x.d x.n)).toNat (x.e+vK (val x.d x.n)) (decide (val x.d x.n % 2^vK (val x.d x.n)≠0))=(patS (x.ng && (decide (0<rTo way x.ng r0 left) || false)) (rTo way x.ng r0 left),decide (left≠0) || decide (9218868437227405312<=(r0:Int))):=by
  obtain ⟨na,hn,he0,he1⟩:=okR_sane ok
  have hv:=val_pos na h0
  have hsm:=vK_small (Int.le_of_lt hv)
  have hb:=blen_pos hv
  have hp:=two_pos (vK (val x.d x.n))
  have hge:2^(blen (val x.d x.n)-1-vK (val x.d x.n))<=val x.d x.n/2^vK (val x.d x.n):=by
    rw [Int.le_ediv_iff_mul_le hp,<- Int.pow_add]
    by_cases hk:vK (val x.d x.n)<=blen (val x.d x.n)-1
    . rw [show blen (val x.d x.n)-1-vK (val x.d x.n)+vK (val x.d x.n)=blen (val x.d x.n)-1 by omega]
      exact hb.2
    . exfalso; unfold vK at hk; omega
  have hpos:=two_pos (blen (val x.d x.n)-1-vK (val x.d x.n))
  have e64:(2:Nat)^64=18446744073709551616:=by decide
  have e60:(2:Nat)^60=1152921504606846976:=by decide
  refine r64_spec (held_cut (Int.le_of_lt hv) (by omega) _) (by omega) (by omega) (by omega) (fun hc=>?_)
  have hk0:0<vK (val x.d x.n):=by
    rcases Nat.eq_zero_or_pos (vK (val x.d x.n)) with h | h
    . rw [h,Int.pow_zero,Int.emod_one] at hc; simp at hc
    . exact h
  have h61:blen (val x.d x.n)-1-vK (val x.d x.n)=61:=by unfold vK at hk0 ⊢; omega
  rw [h61] at hge
  have e61:(2:Int)^61=2305843009213693952:=by decide
  rw [e61] at hge
  omega
end Go.Proofs.YtobofhgpidbpmaaDoor
