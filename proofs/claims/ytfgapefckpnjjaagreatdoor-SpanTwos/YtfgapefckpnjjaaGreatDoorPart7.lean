/- Parts of the proof. -/
import Derived.Test.YtfgapefckpnjjaaGreatDoorPart3
import Derived.Test.YtfgapefckpnjjaaGreatDoorPart6
import Derived.Test.YtfgapefckpnjjaaGreatDoorPart1
import Derived.Test.YtfgapefckpnjjaaGreatDoorPart5
import Derived.Test.YtfgapefckpnjjaaGreatDoorPart4
import Derived.Deep.RegionHeld3
import Derived.Deep.AppendLies
import Derived.Deep.RegionLaw
import Derived.Test.YtfgapefckpnjjaaGreatDoorRows
import Derived.Test.YtfgapefckpnjjaaGreatDoorPart2
import Derived.ProofKit
import Derived.OpenShut
import Derived.ChangeOld
import Derived.LaidMore
import Derived.Deep.Strs
import Derived.Lib.LaidTab
import Derived.MakeChecks
import Derived.Stop.LaidErr
set_option linter.unusedVariables false
set_option linter.unusedSimpArgs false
namespace Go.Proofs.YtfgapefckpnjjaaGreatDoor
open Go Go.RowKit Go.Proofs.YtfgapefckpnjjaaGreatDoor.M
theorem hideIt {p:Prop} (h:p):Hid p:=h
theorem refCut (b:Int) (w:World) (hb:rng b) :
    Calls Tryz.prog 61 #[.int .i64 b] w fun e w'=>e=.returned (.tuple #[.bool (decide (b < 0)),.int .i64 (fld b),.int .i64 (frc b)])∧w'=w:=by
  unfold rng at hb
  by_cases h:b < 0
  all_goals
    go_enter Tryz.func61,Tryz.ntmps61
    go_wp2
    go_ret3
    exact ⟨ret_bii (by simp; try omega) (by unfold fld; omega) (by unfold frc; omega),rfl⟩
theorem refcls (f t most:Int) (w:World) (hf:0 <= f) (ht:0 <= t) :
    Calls Tryz.prog 62 #[.int .i64 f,.int .i64 t,.int .i64 most] w fun e w'=>e=.returned (.int .i64 (rcls f t most))∧w'=w:=by
  by_cases h1:f=most
  . subst h1
    by_cases h2:t=0
    all_goals
      go_enter Tryz.func62,Tryz.ntmps62
      go_wp2
      go_ret
      exact ⟨b_ret_int (by simp [rcls,h2]),rfl⟩
  . by_cases h2:0 < f <;> by_cases h3:0 < t
    all_goals
      go_enter Tryz.func62,Tryz.ntmps62
      go_wp2
      go_ret
      exact ⟨b_ret_int (by simp [rcls,h1]; omega),rfl⟩
theorem refClass (b:Int) (w:World) (hb:rng b) :
    Calls Tryz.prog 40 #[.int .i64 b] w fun e w'=>e=.returned (.int .i64 (cls b))∧w'=w:=by
  have hf:=fld_le b
  have ht:=frc_le b
  go_enter Tryz.func40,Tryz.ntmps40
  go_wp2_with (first
    | (go_at_call 61; refine (refCut _ _ hb).mono ?_; rintro e w1 ⟨rfl,rfl⟩)
    | (go_at_call 62; refine (refcls _ _ _ _ hf.1 ht.1).mono ?_; rintro e w1 ⟨rfl,rfl⟩))
  go_ret
  exact ⟨b_ret_int (rcls_cls b),rfl⟩
theorem refParts (b:Int) (w:World) (hb:rng b) :
    Calls Tryz.prog 80 #[.int .i64 b] w fun e w'=>e=.returned (.tuple #[.bool (pneg b),.int .i64 (pmag b),.int .i64 (pexp b),.bool (pok b)])∧w'=w:=by
  have hf:=fld_le b
  have ht:=frc_le b
  by_cases h0:cls b=0
  . have k:=hideIt (parts_sub (.inl h0))
    go_enter Tryz.func80,Tryz.ntmps80
    go_wp2_with (first
      | (go_at_call 61; refine (refCut _ _ hb).mono ?_; rintro e w1 ⟨rfl,rfl⟩)
      | (go_at_call 40; refine (refClass _ _ hb).mono ?_; rintro e w1 ⟨rfl,rfl⟩))
    refine bodyPost_ret (v:=.tuple #[.bool (decide (b < 0)),.int .i64 (frc b),.int .i64 (-1074),.bool true]) (by simp [results,Tryz.results80,go_sem]) rfl ⟨ret_ttt4 k.out.1 k.out.2.1 k.out.2.2.1 k.out.2.2.2,rfl⟩
  . by_cases h1:cls b=1
    . have k:=hideIt (parts_sub (.inr h1))
      go_enter Tryz.func80,Tryz.ntmps80
      go_wp2_with (first
        | (go_at_call 61; refine (refCut _ _ hb).mono ?_; rintro e w1 ⟨rfl,rfl⟩)
        | (go_at_call 40; refine (refClass _ _ hb).mono ?_; rintro e w1 ⟨rfl,rfl⟩))
      refine bodyPost_ret (v:=.tuple #[.bool (decide (b < 0)),.int .i64 (frc b),.int .i64 (-1074),.bool true]) (by simp [results,Tryz.results80,go_sem]) rfl ⟨ret_ttt4 k.out.1 k.out.2.1 k.out.2.2.1 k.out.2.2.2,rfl⟩
    . by_cases h2:cls b=2
      . have k:=hideIt (parts_norm h2)
        go_enter Tryz.func80,Tryz.ntmps80
        go_wp2_with (first
          | (go_at_call 61; refine (refCut _ _ hb).mono ?_; rintro e w1 ⟨rfl,rfl⟩)
          | (go_at_call 40; refine (refClass _ _ hb).mono ?_; rintro e w1 ⟨rfl,rfl⟩))
        refine bodyPost_ret (v:=.tuple #[.bool (decide (b < 0)),.int .i64 (4503599627370496 + frc b),.int .i64 (fld b - 1075),.bool true]) (by simp [results,Tryz.results80,go_sem]) rfl ⟨ret_ttt4 k.out.1 k.out.2.1 k.out.2.2.1 k.out.2.2.2,rfl⟩
      . have k:=hideIt (parts_not h0 h1 h2)
        go_enter Tryz.func80,Tryz.ntmps80
        go_wp2_with (first
          | (go_at_call 61; refine (refCut _ _ hb).mono ?_; rintro e w1 ⟨rfl,rfl⟩)
          | (go_at_call 40; refine (refClass _ _ hb).mono ?_; rintro e w1 ⟨rfl,rfl⟩))
        refine bodyPost_ret (v:=.tuple #[.bool false,.int .i64 0,.int .i64 0,.bool false]) (by simp [results,Tryz.results80,go_sem]) rfl ⟨ret_ttt4 k.out.1 k.out.2.1 k.out.2.2.1 k.out.2.2.2,rfl⟩
def told (b:Int):Int:=if cls b=4 then 9221120237041090561 else b
theorem no64 {b:Int} (hb:rng b):(FloatKind.f64.format.order (wd b) (wd b) != some .eq)=decide (cls b=4):=by
  have:=same_order hb hb
  unfold bne
  rw [this]; unfold same
  by_cases h:cls b=4 <;> simp [h]
theorem run_bits64 (n:Nat) (w:World):(callFunc 85 #[.float .f64 n]).run Tryz.prog w=.ok (.value (.int .u64 n)) w:=by
  rw [run_callFunc_extern Tryz.func85 (by kernel_rfl) (by kernel_rfl) (by kernel_rfl) (e:=Extern.MathFloatBits.float64bits) (by kernel_rfl)]
  rfl
theorem bitsOf (b:Int) (w:World) (hb:rng b) :
    Calls Tryz.prog 66 #[.float .f64 (wd b)] w fun e w'=>e=.returned (.int .i64 (told b))∧w'=w:=by
  have hd:=run_bits64
  have hn:=no64 hb
  have hw:Hid (wrap64 (wd b:Int)=b):=by unfold Hid wrap64 wd; unfold rng at hb; omega
  by_cases h:cls b=4
  . have hn':(FloatKind.f64.format.order (wd b) (wd b) != some .eq)=true:=by rw [hn]; simp [h]
    clear hn
    go_enter Tryz.func66,Tryz.ntmps66
    go_wp2
    go_ret
    exact ⟨b_ret_int (by simp [told,h]),rfl⟩
  . have hn':(FloatKind.f64.format.order (wd b) (wd b) != some .eq)=false:=by rw [hn]; simp [h]
    clear hn
    go_enter Tryz.func66,Tryz.ntmps66
    go_wp2
    go_ret
    exact ⟨b_ret_int (by rw [hw.out]; simp [told,h]),rfl⟩
def litR (g:Nat) (x:Int):NumR:=⟨false,some ⟨g,0,none⟩,1,1,fun _=>x,0⟩
theorem third (g k:Nat):qR64 0 (litR g 1) (litR k 3)=(4599676419421066581,true):=by
  have e:qR64 0 (litR g 1) (litR k 3)=qR64 0 (litR 0 1) (litR 0 3):=rfl
  rw [e]
  decide +kernel
def NumR.neg (r:NumR):NumR:=⟨!r.ng,r.ao,r.n,r.cap,r.d,r.e⟩
def mulV (x y:NumR):Int:=sg (x.ng != y.ng) (val x.d x.n * val y.d y.n) * pw (x.e + y.e)
theorem mulV_eq {x y:NumR} (hx:-2097152 <= x.e) (hy:-2097152 <= y.e):mulV x y * 2 ^ 4194304=x.V * y.V:=by
  unfold mulV NumR.V
  rw [Int.mul_assoc,<- pw_mul hx hy,<- sg_mul]; grind
set_option maxRecDepth 100000 in
set_option maxHeartbeats 2000000 in
theorem dproduct_any (x y:NumR) (w:World) (hx:Row w x.ao x.n x.cap x.d) (hy:Row w y.ao y.n y.cap y.d) (sx:Sane x) (sy:Sane y) :
    Calls Tryz.prog 154 #[x.v,y.v] w fun r w'=>∃ s,r=.returned (.agg #[.bool (x.ng != y.ng),s,.int .i64 (x.e + y.e)])∧Ans w w' (val x.d x.n * val y.d y.n) s:=by
  obtain ⟨an,ao,n,ca,a,e⟩:=x
  obtain ⟨bn,bo,m,cb,b,f⟩:=y
  obtain ⟨s1,s2,s3,s4⟩:=sx
  obtain ⟨t1,t2,t3,t4⟩:=sy
  unfold NumR.v
  simp only at *
  have hw:IntKind.i64.wrap (e + f)=e + f:=by rw [wrap_i64_eq]; omega
  have hb3:=bel_a3 w (.cells #[.bool an,.slice ao n ca,.int .i64 e] 26) (.cells #[.bool bn,.slice bo m cb,.int .i64 f] 26) (.cells #[.bool false,.slice none 0 0,.int .i64 0] 26)
  have g0:=h3_0 w (.cells #[.bool an,.slice ao n ca,.int .i64 e] 26) (.cells #[.bool bn,.slice bo m cb,.int .i64 f] 26) (.cells #[.bool false,.slice none 0 0,.int .i64 0] 26)
  have g1:=h3_1 w (.cells #[.bool an,.slice ao n ca,.int .i64 e] 26) (.cells #[.bool bn,.slice bo m cb,.int .i64 f] 26) (.cells #[.bool false,.slice none 0 0,.int .i64 0] 26)
  have g2:=h3_2 w (.cells #[.bool an,.slice ao n ca,.int .i64 e] 26) (.cells #[.bool bn,.slice bo m cb,.int .i64 f] 26) (.cells #[.bool false,.slice none 0 0,.int .i64 0] 26)
  have hs3:=size3 w (.cells #[.bool an,.slice ao n ca,.int .i64 e] 26) (.cells #[.bool bn,.slice bo m cb,.int .i64 f] 26) (.cells #[.bool false,.slice none 0 0,.int .i64 0] 26)
  go_enter Tryz.func154,Tryz.ntmps154
  go_wp2_with fail
  have HX:=hx.keeps hb3
  have HY:=hy.keeps hb3
  generalize ((w.alloc (.cells #[.bool an,.slice ao n ca,.int .i64 e] 26)).alloc (.cells #[.bool bn,.slice bo m cb,.int .i64 f] 26)).alloc (.cells #[.bool false,.slice none 0 0,.int .i64 0] 26)=wx at hb3 g0 g1 g2 hs3 HX HY ⊢
  have k0:=blkC g0 0 rfl
  have k1:=blkC g0 1 rfl
  have k2:=blkC g0 2 rfl
  have j0:=blkC g1 0 rfl
  have j1:=blkC g1 1 rfl
  have j2:=blkC g1 2 rfl
  have hb1:=bel_refl wx
  have C1:∀ W,Below wx.heap.size wx W->Calls Tryz.prog 159 #[.slice ao n ca,.slice bo m cb] W fun r w'=>∃ so sn sc,r=.returned (.slice so sn sc)∧Ans W w' (val a n * val b m) (.slice so sn sc)∧Below W.heap.size W w':=fun W h=>by
    refine (product_any ao bo n m ca cb a b W (HX.keeps h) (HY.keeps h) s1.1 t1.1 (by omega) (by omega)).mono ?_
    rintro r w' ⟨v,rfl,hA⟩
    obtain ⟨so,sn,sc,rfl⟩:=hA.num.shape
    exact ⟨so,sn,sc,rfl,hA,hA.below⟩
  go_region_held3 (fun W=>(W.cell? ⟨w.heap.size,0,none⟩=some (.bool an)∧W.cell? ⟨w.heap.size,1,none⟩=some (.slice ao n ca)∧W.cell? ⟨w.heap.size,2,none⟩=some (.int .i64 e))∧W.cell? ⟨w.heap.size + 1,0,none⟩=some (.bool bn)∧W.cell? ⟨w.heap.size + 1,1,none⟩=some (.slice bo m cb)∧W.cell? ⟨w.heap.size + 1,2,none⟩=some (.int .i64 f))
    (first | assumption | exact ⟨⟨k0,k1,k2⟩,j0,j1,j2⟩ | exact ⟨keepB (W:=wx.drew) ⟨k0,k1,k2⟩ hbv1,keepB (W:=wx.drew) ⟨j0,j1,j2⟩ hbv1⟩ | exact ⟨keepS (keepB (W:=wx.drew) ⟨k0,k1,k2⟩ hbv1) (by omega) _ _ _,keepS (keepB (W:=wx.drew) ⟨j0,j1,j2⟩ hbv1) (by omega) _ _ _⟩)
    (first | (go_at_call 159; refine (C1 _ hb1.drew).mono ?_; rintro y w3 ⟨so,sn,sc,rfl,hv,hbv1⟩; have q0:=(hbv1.block (w.heap.size + 2) (by show _ < wx.heap.size; omega)).trans g2; have x0:=blkC q0 0 rfl; have x1:=blkC q0 1 rfl; have x2:=blkC q0 2 rfl; have z0:=blkF q0 0; have z1:=blkF q0 1; have z2:=blkF q0 2) | fail)
  all_goals go_wp2
  all_goals
    refine bodyPost_ret (v:=.agg #[.bool (!(an == bn)),.slice so sn sc,.int .i64 (e + f)]) (by simp [results,Tryz.results154,go_sem,x0,x1,x2]) rfl ⟨_,rfl,?_⟩
    exact ans_res (g:=w.heap.size + 2) (hv.from hb1.drew) hb3 (by omega) (by omega) _ _ _
set_option maxRecDepth 100000 in
set_option maxHeartbeats 1000000 in
theorem mul1_any (x y:NumR) (g h:Nat) (w:World) (cg:w.heap[g]?=some (.cells #[.bool x.ng,.slice x.ao x.n x.cap,.int .i64 x.e] 26 (0,0))) (ch:w.heap[h]?=some (.cells #[.bool y.ng,.slice y.ao y.n y.cap,.int .i64 y.e] 26 (0,0)))
    (hx:Row w x.ao x.n x.cap x.d) (hy:Row w y.ao y.n y.cap y.d) (sx:Sane x) (sy:Sane y) (hT:Tab w) :
    Calls Tryz.prog 152 #[.pointer (some ⟨g,0,none⟩),.pointer (some ⟨h,0,none⟩)] w (DOut w (mulV x y)):=by
  have hP:=fun W hb=>dproduct_any x y W (hx.keeps hb) (hy.keeps hb) sx sy
  have hV:mulV x y=sg (x.ng != y.ng) (val x.d x.n * val y.d y.n) * pw (x.e + y.e):=rfl
  have he:-4194304 <= x.e + y.e:=by have:=sx.2.2.1; have:=sy.2.2.1; omega
  have hlen:val x.d x.n * val y.d y.n < P 10000:=by
    have a1:=val_lt sx.1.1
    have a2:=val_lt sy.1.1
    have b1:=val_nonneg sx.1.1
    have b2:=val_nonneg sy.1.1
    have c1:val x.d x.n * val y.d y.n <= P x.n * val y.d y.n:=Int.mul_le_mul_of_nonneg_right (by omega) b2
    have c2:P x.n * val y.d y.n < P x.n * P y.n:=Int.mul_lt_mul_of_pos_left a2 (P_pos _)
    rw [<- P_add] at c2
    have:=P_le (show x.n + y.n <= 10000 by have:=sx.2.1; have:=sy.2.1; omega)
    omega
  generalize mulV x y=V at hV ⊢
  unfold NumR.v at hP
  obtain ⟨an,ao,n,ca,a,e⟩:=x
  obtain ⟨bn,bo,m,cb,b,f⟩:=y
  simp only at cg ch hx hy hP hV he hlen
  have hb:=bel_alloc w (.cells #[.bool false,.slice none 0 0,.int .i64 0] 26)
  have g0:=heap_past (.cells #[.bool false,.slice none 0 0,.int .i64 0] 26) cg
  have g1:=heap_past (.cells #[.bool false,.slice none 0 0,.int .i64 0] 26) ch
  have k0:=blkC g0 0 rfl
  have k1:=blkC g0 1 rfl
  have k2:=blkC g0 2 rfl
  have j0:=blkC g1 0 rfl
  have j1:=blkC g1 1 rfl
  have j2:=blkC g1 2 rfl
  clear sx sy
  have HV:Hid (V=sg (an != bn) (val a n * val b m) * pw (e + f)):=hV
  clear hV
  go_enter Tryz.func152,Tryz.ntmps152
  go_wp2_with fail
  refine (hP _ hb).mono ?_
  rintro r w3 ⟨s,rfl,hA⟩
  obtain ⟨so,sn,sc,d,rfl,hR,hN,hv⟩:=hA.num
  have hsn:sn <= 10000:=hA.num.len hlen
  have hb3:=bel_trans hb hA.below
  go_wp2_with fail
  refine (settle_any (V:=V) hR hN.1 (by omega) (hT.keeps hb3) he (by rw [hv]; exact HV.out)).mono ?_
  rintro r w7 (⟨hok,v,rfl,hD⟩ | ⟨hno,rfl,hb7⟩)
  . have hb7:=hD.below
    obtain ⟨ng',s',m',e',rfl,hyy,hA2⟩:=id hD
    obtain ⟨so',sn',sc',rfl⟩:=hA2.num.shape
    have q0:=((bel_trans hA.below hb7).block w.heap.size (by rw [size1]; omega)).trans (heap_a1 _ _)
    have x0:=blkC q0 0 rfl
    have x1:=blkC q0 1 rfl
    have x2:=blkC q0 2 rfl
    have z0:=blkF q0 0
    have z1:=blkF q0 1
    have z2:=blkF q0 2
    go_wp2
    refine bodyPost_ret (v:=.agg #[.bool ng',.slice so' sn' sc',.int .i64 e']) (by simp [results,Tryz.results152,go_sem,x0,x1,x2]) rfl ?_
    exact .inl ⟨hok,_,rfl,dans_res3 (g:=w.heap.size) hD hb3 (Nat.le_refl _) (Nat.lt_of_lt_of_le (by rw [size1]; omega) hA.below.size) _ _ _⟩
  . exact ⟨rfl,.inr ⟨hno,rfl,bel_trans hb3 hb7⟩⟩
set_option maxRecDepth 100000 in
set_option maxHeartbeats 1000000 in
theorem dmul_ok (x y:NumR) (w:World) (hx:Row w x.ao x.n x.cap x.d) (hy:Row w y.ao y.n y.cap y.d) (ox:okR x=true) (oy:okR y=true) (hT:Tab w) :
    Calls Tryz.prog 143 #[x.v,y.v] w fun r w'=>∃ v er,r=.returned (.tuple #[v,.int .i64 er])∧DFit w w' (mulV x y) v er:=by
  have hmf:∀ (fn:Fn) (first cap:Array Value) (w:World),(Instr.makeFunc fn first cap).run Tryz.prog w=.ok (.func fn first cap) w:=fun _ _ _ _=>rfl
  have hE:∀ (cap:Array Value) (w:World),(callFunc 152 cap).run Tryz.prog w=.ok (.enter 152 cap) w:=by
    intro cap w
    simp [go_sem]
  have hA:=allOk2 x y
  rw [ox,oy] at hA
  have hN:=fun W q hb=>nums2 (w:=W) (g:=w.heap.size + 3) (x:=x) (y:=y) (t:=26) q (hx.keeps hb) (hy.keeps hb)
  have hC:=fun W hb cg ch=>mul1_any x y w.heap.size (w.heap.size + 1) W cg ch (hx.keeps hb) (hy.keeps hb) (okR_sane ox) (okR_sane oy) (hT.keeps hb)
  generalize pair2 x y=pr at hA hN
  generalize mulV x y=V at hC ⊢
  clear ox oy
  obtain ⟨an,ao,n,ca,a,e⟩:=x
  obtain ⟨bn,bo,m,cb,b,f⟩:=y
  unfold NumR.v
  simp only at hx hy hN hC ⊢
  go_enter Tryz.func143,Tryz.ntmps143
  go_wp2_with fail
  refine (dvalids_any _ _ _ _ _ (hN _ (h4_3 _ _ _ _ _) (bel_a4 _ _ _ _ _))).mono ?_
  rw [hA]
  rintro r w1 ⟨rfl,hb1⟩
  have hbw:=bel_trans (bel_a4 w _ _ _ _) hb1
  have g0:=(hb1.block w.heap.size (by rw [size4]; omega)).trans (h4_0 _ _ _ _ _)
  have g1:=(hb1.block (w.heap.size + 1) (by rw [size4]; omega)).trans (h4_1 _ _ _ _ _)
  have g2:=(hb1.block (w.heap.size + 2) (by rw [size4]; omega)).trans (h4_2 _ _ _ _ _)
  have hs4:w.heap.size + 4 <= w1.heap.size:=by have:=hb1.size; rw [size4] at this; exact this
  go_wp2_with fail
  refine (told_any (V:=V) (hE _) (fun W hW=>hC W (bel_trans hbw hW) ((hW.block _ (by omega)).trans g0) ((hW.block _ (by omega)).trans g1))).mono ?_
  rintro r w2 ⟨v,er,rfl,hF⟩
  obtain ⟨ng',so,sn,sc,e',rfl⟩:=hF.shape
  have q0:=(hF.1.block (w.heap.size + 2) (by omega)).trans g2
  have x0:=blkC q0 0 rfl
  have x1:=blkC q0 1 rfl
  have x2:=blkC q0 2 rfl
  have z0:=blkF q0 0
  have z1:=blkF q0 1
  have z2:=blkF q0 2
  go_wp2
  refine bodyPost_ret (v:=.tuple #[.agg #[.bool ng',.slice so sn sc,.int .i64 e'],.int .i64 er]) (by simp [results,Tryz.results143,go_sem,x0,x1,x2]) rfl ⟨_,_,rfl,?_⟩
  exact dfit_res (g:=w.heap.size + 2) hF hbw (by omega) (by omega) _ _ _
theorem keep66 {W w':World} {g h:Nat} {a b c d e f:Value} (hb:Below W.heap.size W w') (hS:(W.cell? ⟨g,0,none⟩=some a∧W.cell? ⟨g,1,none⟩=some b∧W.cell? ⟨g,2,none⟩=some c)∧W.cell? ⟨h,0,none⟩=some d∧W.cell? ⟨h,1,none⟩=some e∧W.cell? ⟨h,2,none⟩=some f) :
    (w'.cell? ⟨g,0,none⟩=some a∧w'.cell? ⟨g,1,none⟩=some b∧w'.cell? ⟨g,2,none⟩=some c)∧w'.cell? ⟨h,0,none⟩=some d∧w'.cell? ⟨h,1,none⟩=some e∧w'.cell? ⟨h,2,none⟩=some f :=
  ⟨keepB hS.1 hb,keepB hS.2 hb⟩
theorem DNum.open {w:World} {v:Value} {V:Int} (h:DNum w v V) (ok:Dok V):∃ x:NumR,v=x.v∧Row w x.ao x.n x.cap x.d∧okR x=true∧x.V=V:=by
  obtain ⟨ng,s,m,e,rfl,hy,ao,n,cap,d,rfl,hR,hN,rfl⟩:=h
  refine ⟨⟨ng,ao,n,cap,d,e⟩,rfl,hR,?_,hy.val.symm⟩
  obtain ⟨o1,o2,o3⟩:=hy.ok.1 ok
  refine decide_eq_true ?_
  by_cases h0:n=0
  . left
    have hz:val d n=0:=by rw [h0]; rfl
    rcases hy.form with ⟨_,f2,f3⟩ | ⟨f1,_⟩
    . exact ⟨h0,f2,f3⟩
    . omega
  . right
    have hp:=val_pos hN (show 0 < n by omega)
    rcases hy.form with ⟨f1,_⟩ | ⟨_,f2⟩
    . omega
    . refine ⟨by show 0 < n; omega,⟨?_,hN⟩,?_,o2,o3⟩
      . exact Num.len (w:=w) (ao:=ao) (cap:=cap) ⟨_,_,_,_,rfl,hR,hN,rfl⟩ o1
      . obtain ⟨k,hk⟩:∃ k,n=1 + k:=⟨n - 1,by omega⟩
        have:=val_split d 1 k
        rw [<- hk] at this
        rw [this,show val d 1=d 0 by show 0 + d 0 * 1=_; omega,show P 1=1073741824 from rfl] at f2
        show d 0 % 2=1
        omega
theorem DFit.yes {w w':World} {V er:Int} {v:Value} (h:DFit w w' V v er) (ok:Dok V):er=0∧DAns w w' V v:=by
  rcases h.2 with ⟨_,h1,h2⟩ | ⟨hn,_⟩
  . exact ⟨h1,h2⟩
  . exact absurd ok hn
theorem mul_D {w:World} {x y:Value} {A B:Int} (hx:DNum w x A) (hy:DNum w y B) (oA:Dok A) (oB:Dok B) (hT:Tab w) :
    Calls Tryz.prog 143 #[x,y] w fun r w'=>∃ v er C,r=.returned (.tuple #[v,.int .i64 er])∧C * 2 ^ 4194304=A * B∧DFit w w' C v er:=by
  obtain ⟨x,rfl,hR,ok,rfl⟩:=hx.open oA
  obtain ⟨y,rfl,hR',ok',rfl⟩:=hy.open oB
  refine (dmul_ok x y w hR hR' ok ok' hT).mono ?_
  rintro r w' ⟨v,er,rfl,hF⟩
  exact ⟨v,er,_,rfl,mulV_eq (by have:=(okR_sane ok).2.2.1; omega) (by have:=(okR_sane ok').2.2.1; omega),hF⟩
set_option maxHeartbeats 1000000 in
theorem rshl_qp (ao:Option Addr) (n ca q p:Nat) (a:Nat->Int) (w:World) (ha:Row w ao n ca a) (da:Dig a n) (hn:n <= 100000) (hq:q <= 100000) (hp:p < 30) (k:Int) (hk:k=30 * q + p) :
    Calls Tryz.prog 98 #[.slice ao n ca,.int .i64 k] w fun e w'=>∃ v,e=.returned v∧Ans w w' (P q * (2 ^ p * val a n)) v:=by
  have hla:=ha.le
  have hma:=ha.max
  have e1:k / 30=q:=by omega
  have e2:k % 30=p:=by omega
  have hk0:0 <= k:=by omega
  clear hk
  have hu:=two_pos p
  have hu2:(2:Int) ^ p <= 2 ^ 29:=two_le (by omega)
  by_cases hn0:n=0
  . subst hn0
    have H0:Hid (P q * (2 ^ p * val a 0)=0):=by show _=_; simp [val]
    go_enter Tryz.func98,Tryz.ntmps98
    go_wp2
    go_ret
    exact ⟨_,rfl,by rw [H0.out]; exact Ans.nil (bel_refl _)⟩
  . have en:((n:Int) == 0)=false:=by simp; omega
    go_enter Tryz.func98,Tryz.ntmps98
    go_wp2_with (at_make; refine wpList_mk rfl _ _ rfl _ _ q rfl rfl (by omega) (by omega) (by omega) ?_; intro w1 hB1 hb1)
    rw [e2]
    go_loopw [5,7,8] (fun l c i wr=>∃ (k:Nat) (c':Int) (r:Nat->Int),k <= n∧i=.int .i64 k∧c=.int .i64 c'∧0 <= c'∧c' < 2 ^ p∧Out w.heap.size wr l (q + k) r∧Dig r (q + k)∧Hid (∀ i,i < q->r i=0)∧Hid (val (fun i=>r (q + i)) k + c' * P k=2 ^ p * val a k)∧Below w.heap.size w wr) (fun _ _ i _=>n - (intOf i).toNat)
    case atStart=>exact ⟨0,0,fun _=>0,Nat.zero_le _,rfl,rfl,by omega,hu,hB1.out (Nat.le_refl _) (Nat.le_refl _) (by omega),zero_dig _,fun _ _=>rfl,by show _=_; show (0:Int) + 0 * 1=2 ^ p * 0; omega,hb1⟩
    case round=>
      obtain ⟨k,c,r,hk,rfl,rfl,hc0,hc1,hO,hD,HZ,HV,hbw⟩:=hrel
      by_cases hlt:k < n
      . obtain ⟨ba,fa,rfl,hba,hca⟩:=ha.spot (by omega)
        have c1:=(hbw.cell (p:=⟨ba,fa + k,none⟩) hba).trans (hca k hlt)
        have dk:=da k hlt
        obtain ⟨s0,s1,s2⟩:=shl_dig dk (show p <= 30 by omega)
        have hc2:(a k * 2 ^ p + c) / 1073741824 < 2 ^ p:=by omega
        go_wp2_with (at_builtin; refine wpList_app rfl _ _ rfl w.heap.size _ (q + k) r rfl (hO.stays (bel_alloc _ _)) _ 1 1 (fun _=>(a k * 2 ^ p + c) % 1073741824) rfl (row1 _ _ rfl) (by omega) (by have:=hbw.size; simp; omega) ?_; intro v' w1 hO1 hg1)
        have hb1:Below w.heap.size w w1:=(hbw.alloc hbw.size _).grown hg1 (by have:=hbw.size; simp; omega) (own_ge hO)
        have hs:=sum_step (x:=a k * 2 ^ p) HV.out
        rw [Int.add_comm c] at hs
        go_roundw
        case rel=>exact ⟨k + 1,(a k * 2 ^ p + c) / 1073741824,upd r (q + k) ((a k * 2 ^ p + c) % 1073741824),by omega,by go_num,rfl,by omega,hc2,hO1.congr (cat_upd r (q + k) _),dig_upd2 hD (mod_dig _),fun i hi=>by rw [upd_other r _ (by omega)]; exact HZ.out i hi,by show _=_; rw [upd_shift,hs,val_succ]; grind,hb1⟩
        case measure=>simp [intOf]; omega
      . obtain rfl:k=n:=by omega
        go_wp2_with (at_builtin; refine wpList_app rfl _ _ rfl w.heap.size _ (q + k) r rfl (hO.stays (bel_alloc _ _)) _ 1 1 (fun _=>c) rfl (row1 _ _ rfl) (by omega) (by have:=hbw.size; simp; omega) ?_; intro v' w1 hO1 hg1)
        have hb1:Below w.heap.size w w1:=(hbw.alloc hbw.size _).grown hg1 (by have:=hbw.size; simp; omega) (own_ge hO)
        have D2:Dig (upd r (q + k) c) (q + k + 1):=dig_upd2 hD ⟨hc0,by omega⟩
        refine (rtrim_ans (hO1.congr (cat_upd r (q + k) c)) D2 hb1).mono ?_
        rintro e w3 ⟨v',rfl,hA,rfl⟩
        go_wp2
        go_ret
        refine ⟨_,rfl,?_⟩
        rw [Nat.add_assoc,val_shift0 _ _ _ (fun i hi=>by rw [upd_other r _ (by omega)]; exact HZ.out i hi),upd_shift,val_succ,upd_same,val_upd_ge _ _ (Nat.le_refl _),HV.out] at hA
        exact hA
theorem rshl_any (ao:Option Addr) (n ca k:Nat) (a:Nat->Int) (w:World) (ha:Row w ao n ca a) (da:Dig a n) (hn:n <= 100000) (hk:k <= 2000000) :
    Calls Tryz.prog 98 #[.slice ao n ca,.int .i64 k] w fun e w'=>∃ v,e=.returned v∧Ans w w' (val a n * 2 ^ k) v:=by
  refine (rshl_qp ao n ca (k / 30) (k % 30) a w ha da hn (by omega) (by omega) k (by omega)).mono ?_
  rintro e w' ⟨v,he,h⟩
  refine ⟨v,he,?_⟩
  rw [two_split k]
  rwa [show val a n * (P (k / 30) * 2 ^ (k % 30))=P (k / 30) * (2 ^ (k % 30) * val a n) by grind]
set_option maxRecDepth 100000 in
set_option maxHeartbeats 1000000 in
theorem rshr_qp (ao:Option Addr) (n ca q p:Nat) (a:Nat->Int) (w:World) (ha:Row w ao n ca a) (da:Dig a n) (hn:n <= 100000) (hp:p < 30) (k:Int) (hk:k=30 * q + p) (hkm:k <= 4000000) :
    Calls Tryz.prog 105 #[.slice ao n ca,.int .i64 k] w fun e w'=>∃ v,e=.returned v∧Ans w w' (val a n / P q / 2 ^ p) v:=by
  have hla:=ha.le
  have hma:=ha.max
  have e1:k / 30=q:=by omega
  have e2:k % 30=p:=by omega
  have hk0:0 <= k:=by omega
  have hq1:q <= 200000:=by omega
  clear hk
  have hu:=two_pos p
  have hu2:(2:Int) ^ p <= 2 ^ 29:=two_le (by omega)
  have huv:(2:Int) ^ p * 2 ^ (30 - p)=1073741824:=by rw [<- Int.pow_add,show p + (30 - p)=30 by omega]; rfl
  have HU:Hid ((2:Int) ^ p * 2 ^ (30 - p)=1073741824):=huv
  have hdv:(1073741824:Int) / 2 ^ p=2 ^ (30 - p):=by rw [<- huv]; exact Int.mul_ediv_cancel_left _ (by omega)
  have hz:((2:Int) ^ p == 0)=false:=by simp; omega
  clear huv
  by_cases hqn:n <= q
  . have H0:Hid (val a n / P q / 2 ^ p=0):=by
      show _=_
      rw [Int.ediv_eq_zero_of_lt (val_nonneg da) (by have:=val_lt da; have:=P_le hqn; omega)]; exact Int.zero_ediv _
    go_enter Tryz.func105,Tryz.ntmps105
    go_wp2
    go_ret
    exact ⟨_,rfl,by rw [H0.out]; exact Ans.nil (bel_refl _)⟩
  . obtain ⟨ba,fa,rfl,hba,hca⟩:=ha.spot (by omega)
    obtain ⟨N,hN⟩:∃ N,n=q + N:=⟨n - q,by omega⟩
    have HN:Hid (n=q + N):=hN
    have hn1:q + N <= n:=by omega
    have hn2:n <= q + N:=by omega
    have hN0:0 < N:=by omega
    clear hN
    go_enter Tryz.func105,Tryz.ntmps105
    go_wp2
    rw [e1,e2]
    go_loopw [5,7] (fun l i wr=>∃ (k:Nat) (r:Nat->Int),k <= N∧i=.int .i64 ((q:Int) + k)∧Out w.heap.size wr l k r∧Hid (∀ i,i < k->r i=low (fun j=>ext a n (q + j)) (2 ^ p) (2 ^ (30 - p)) i)∧Below w.heap.size w wr) (fun _ i _=>n - (intOf i).toNat)
    case atStart=>exact ⟨0,fun _=>0,Nat.zero_le _,by simp,Out.nil _ _ _,fun i hi=>by omega,bel_refl _⟩
    case round=>
      obtain ⟨k,r,hk,rfl,hO,HV,hbw⟩:=hrel
      by_cases hlt:k < N
      . have c1:=(hbw.cell (p:=⟨ba,fa + (q + k),none⟩) hba).trans (hca (q + k) (by omega))
        have dx:=da (q + k) (by omega)
        by_cases hl2:q + k + 1 < n
        . have dy:=da (q + k + 1) (by omega)
          obtain ⟨s0,s1,s2,s3,s4⟩:=shr_part dx dy hp
          have s5:0 <= a (q + k + 1) % 2 ^ p * 2 ^ (30 - p):=Int.mul_nonneg s3 (Int.le_of_lt (two_pos _))
          have s6:(2:Int) ^ (30 - p) <= 2 ^ 30:=two_le (by omega)
          have c2:=(hbw.cell (p:=⟨ba,fa + (q + k + 1),none⟩) hba).trans (hca (q + k + 1) (by omega))
          clear s2
          go_wp2
          go_quiet (fail)
          go_wp2_with (at_builtin; refine wpList_app rfl _ _ rfl w.heap.size _ k r rfl ((hO.stays (bDrewN (bel_refl _) _)).stays (bel_alloc _ _)) _ 1 1 (fun _=>(a (q + k) / 2 ^ p + a (q + k + 1) % 2 ^ p * 2 ^ (30 - p))) rfl (row1 _ _ rfl) (by omega) (by have:=hbw.size; simp [World.drewN]; omega) ?_; intro v' w1 hO1 hg1)
          have hb1:Below w.heap.size w w1:=((bDrewN hbw _).alloc hbw.size _).grown hg1 (by have:=hbw.size; simp [World.drewN]; omega) (own_ge hO)
          go_roundw
          case rel=>exact ⟨k + 1,upd r k (a (q + k) / 2 ^ p + a (q + k + 1) % 2 ^ p * 2 ^ (30 - p)),by omega,by go_num,hO1.congr (cat_upd r k _),fun i hi=>by
              by_cases e:i=k
              . rw [e,upd_same]
                show _=ext a n (q + k) / 2 ^ p + ext a n (q + (k + 1)) % 2 ^ p * 2 ^ (30 - p)
                rw [ext_lt a (by omega),ext_lt a (by omega),Nat.add_assoc]
              . rw [upd_other _ _ e]; exact HV.out i (by omega),hb1⟩
          case measure=>simp [intOf]; omega
        . obtain ⟨s0,s1,_,_,_⟩:=shr_part dx dx hp
          have s6:(2:Int) ^ (30 - p) <= 2 ^ 30:=two_le (by omega)
          go_wp2_with (at_builtin; refine wpList_app rfl _ _ rfl w.heap.size _ k r rfl (hO.stays (bel_alloc _ _)) _ 1 1 (fun _=>(a (q + k) / 2 ^ p)) rfl (row1 _ _ rfl) (by omega) (by have:=hbw.size; simp; omega) ?_; intro v' w1 hO1 hg1)
          have hb1:Below w.heap.size w w1:=(hbw.alloc hbw.size _).grown hg1 (by have:=hbw.size; simp; omega) (own_ge hO)
          go_roundw
          case rel=>exact ⟨k + 1,upd r k (a (q + k) / 2 ^ p),by omega,by go_num,hO1.congr (cat_upd r k _),fun i hi=>by
              by_cases e:i=k
              . rw [e,upd_same,low_last (s:=fun j=>ext a n (q + j)) (ext_ge a (by omega)),ext_lt a (by omega)]
              . rw [upd_other r _ e]; exact HV.out i (by omega),hb1⟩
          case measure=>simp [intOf]; omega
      . obtain rfl:k=N:=by omega
        have DS:Dig (fun j=>ext a n (q + j)) (k + 1):=fun i hi=>ext_dig da (q + k + 1) (q + i) (by omega)
        have D2:Dig r k:=(low_dig hu HU.out DS).congr fun i hi=>(HV.out i hi).symm
        have HD2:Hid (Dig r k):=D2
        clear D2 DS
        go_wp2_with fail
        refine (rtrim_ans hO HD2.out hbw).mono ?_
        rintro e w3 ⟨v',rfl,hA,rfl⟩
        go_wp2
        go_ret
        refine ⟨_,rfl,?_⟩
        rw [val_congr HV.out,low_eq (s:=fun j=>ext a n (q + j)) hu HU.out (ext_ge a (by omega))] at hA
        have e3:=val_drop a (show q <= n by omega) da
        rw [<- e3,show n - q=k by omega]
        rw [show val (fun j=>ext a n (q + j)) k=val (fun i=>a (q + i)) k from val_congr fun i hi=>ext_lt a (by omega)] at hA
        exact hA
theorem rshr_any (ao:Option Addr) (n ca k:Nat) (a:Nat->Int) (w:World) (ha:Row w ao n ca a) (da:Dig a n) (hn:n <= 100000) (hk:k <= 4000000) :
    Calls Tryz.prog 105 #[.slice ao n ca,.int .i64 k] w fun e w'=>∃ v,e=.returned v∧Ans w w' (val a n / 2 ^ k) v:=by
  refine (rshr_qp ao n ca (k / 30) (k % 30) a w ha da hn (by omega) k (by omega) (by omega)).mono ?_
  rintro e w' ⟨v,he,h⟩
  refine ⟨v,he,?_⟩
  rw [two_split k,<- Int.ediv_ediv_of_nonneg (Int.le_of_lt (P_pos _))]
  exact h
def updV {α:Type} (v:Nat->α) (i:Nat) (x:α):Nat->α:=fun j=>if j=i then x else v j
theorem updV_same {α:Type} (v:Nat->α) (i:Nat) (x:α):updV v i x i=x:=by simp [updV]
theorem updV_other {α:Type} (v:Nat->α) {i j:Nat} (x:α) (h:j ≠ i):updV v i x j=v j:=by simp [updV,h]
def valsV (v:Nat->Value) (m:Nat):List Value:=(List.range m).map v
def OutV (B:Nat) (w:World) (x:Value) (m:Nat) (v:Nat->Value):Prop:=w.ownsRow B 24 1 x m (valsV v m)
theorem OutV.shape {B:Nat} {w:World} {x:Value} {m:Nat} {v:Nat->Value} (h:OutV B w x m v):∃ xo xc,x=.slice xo m xc∧m <= xc∧xc <= 9223372036854775807∧(0 < m->∃ g,xo=some ⟨g,0,none⟩):=by
  rcases h.2 with ⟨rfl,rfl⟩ | ⟨g,cap,cur,rfl,hb,hg,hn,hm,_⟩
  . exact ⟨none,0,rfl,Nat.le_refl _,by decide,fun h=>by omega⟩
  . exact ⟨_,cap,rfl,hn,by unfold maxLen at hm; exact hm,fun _=>⟨g,rfl⟩⟩
theorem OutV.of_block {B:Nat} {w w':World} {x:Value} {m:Nat} {v:Nat->Value} (h:OutV B w x m v) (hb:∀ g,x.ownBlock=some g->w'.heap[g]?=w.heap[g]?):OutV B w' x m v:=by
  refine ⟨h.1,?_⟩
  rcases h.2 with hn | ⟨g,cap,cur,rfl,hbb,hg,rest⟩
  . exact .inl hn
  . exact .inr ⟨g,cap,cur,rfl,hbb,(hb g rfl).trans hg,rest⟩
theorem Out.of_block {B:Nat} {w w':World} {x:Value} {n:Nat} {d:Nat->Int} (h:Out B w x n d) (hb:∀ g,x.ownBlock=some g->w'.heap[g]?=w.heap[g]?):Out B w' x n d:=by
  refine ⟨h.1,?_⟩
  rcases h.2 with hn | ⟨g,cap,cur,rfl,hbb,hg,rest⟩
  . exact .inl hn
  . exact .inr ⟨g,cap,cur,rfl,hbb,(hb g rfl).trans hg,rest⟩
theorem Out.typed {B:Nat} {w:World} {x:Value} {n:Nat} {d:Nat->Int} (h:Out B w x n d) {g:Nat} (hg:x.ownBlock=some g):∃ cur z,w.heap[g]?=some (.cells cur 3 z):=by
  rcases h.2 with ⟨rfl,_⟩ | ⟨g',cap,cur,rfl,hbb,hg',rest⟩
  . simp [Value.ownBlock] at hg
  . simp only [Value.ownBlock,Option.some.injEq] at hg; subst hg; exact ⟨cur,_,hg'⟩
theorem OutV.typed {B:Nat} {w:World} {x:Value} {n:Nat} {v:Nat->Value} (h:OutV B w x n v) {g:Nat} (hg:x.ownBlock=some g):∃ cur z,w.heap[g]?=some (.cells cur 24 z):=by
  rcases h.2 with ⟨rfl,_⟩ | ⟨g',cap,cur,rfl,hbb,hg',rest⟩
  . simp [Value.ownBlock] at hg
  . simp only [Value.ownBlock,Option.some.injEq] at hg; subst hg; exact ⟨cur,_,hg'⟩
theorem OutV.ge {B:Nat} {w:World} {x:Value} {n:Nat} {v:Nat->Value} (h:OutV B w x n v) {g:Nat} (hg:x.ownBlock=some g):B <= g∧g < w.heap.size:=by
  rcases h.2 with ⟨rfl,_⟩ | ⟨g',cap,cur,rfl,hbb,hg',rest⟩
  . simp [Value.ownBlock] at hg
  . simp only [Value.ownBlock,Option.some.injEq] at hg; subst hg; exact ⟨hbb,(Array.getElem?_eq_some_iff.1 hg').1⟩
theorem Out.ge {B:Nat} {w:World} {x:Value} {n:Nat} {v:Nat->Int} (h:Out B w x n v) {g:Nat} (hg:x.ownBlock=some g):B <= g∧g < w.heap.size:=by
  rcases h.2 with ⟨rfl,_⟩ | ⟨g',cap,cur,rfl,hbb,hg',rest⟩
  . simp [Value.ownBlock] at hg
  . simp only [Value.ownBlock,Option.some.injEq] at hg; subst hg; exact ⟨hbb,(Array.getElem?_eq_some_iff.1 hg').1⟩
theorem OutV.alloc {B:Nat} {w:World} {x:Value} {m:Nat} {v:Nat->Value} (h:OutV B w x m v) (o:Obj):OutV B (w.alloc o) x m v:=h.of_block fun g hg=>Below.heap_alloc _ _ _ (h.ge hg).2
def An (B:Nat) (w:World) (v:Value) (V:Int):Prop:=∃ t d,Out B w v t d∧Nrm d t∧val d t=V
theorem An.keeps {B:Nat} {w w':World} {v:Value} {V:Int} (h:An B w v V) (k:Below w.heap.size w w'):An B w' v V:=by
  obtain ⟨t,d,h1,h2⟩:=h
  exact ⟨t,d,h1.stays k,h2⟩
theorem An.lower {B B':Nat} {w:World} {v:Value} {V:Int} (h:An B w v V) (hB:B' <= B):An B' w v V:=by
  obtain ⟨t,d,h1,h2⟩:=h
  exact ⟨t,d,h1.lower hB,h2⟩
theorem An.nil (B:Nat) (w:World):An B w (.slice none 0 0) 0:=⟨0,fun _=>0,Out.nil _ _ _,⟨fun i hi=>by omega,.inl rfl⟩,rfl⟩
theorem Ans.an {w w':World} {V:Int} {v:Value} (h:Ans w w' V v):An w.heap.size w' v V:=by
  obtain ⟨t,d,h1,h2,h3,h4⟩:=h
  exact ⟨t,d,h1,h2,h3⟩
theorem An.shape {B:Nat} {w:World} {v:Value} {V:Int} (h:An B w v V):∃ ao n cap,v=.slice ao n cap:=by
  obtain ⟨t,d,h1,h2⟩:=h
  obtain ⟨ao,cap,e,_⟩:=h1.row
  exact ⟨ao,t,cap,e⟩
theorem An.num {B:Nat} {w:World} {v:Value} {V:Int} (h:An B w v V):Num w v V:=by
  obtain ⟨t,d,h1,h2,h3⟩:=h
  obtain ⟨ao,cap,rfl,hR⟩:=h1.row
  exact ⟨ao,t,cap,d,rfl,hR,h2,h3⟩
theorem An.ge {B:Nat} {w:World} {v:Value} {V:Int} (h:An B w v V) {g:Nat} (hg:v.ownBlock=some g):B <= g∧g < w.heap.size:=by
  obtain ⟨t,d,h1,h2,h3⟩:=h
  exact h1.ge hg
def S2 (S:Nat->Prop) (l:Value) (s:Nat):Nat->Prop:=fun g=>S g∨l.ownBlock=some g∨s <= g
def FitA (B:Nat) (w:World) (V:Int) (v:Value) (er:Int):Prop:=(V < P 2000∧er=0∧An B w v V)∨(P 2000 <= V∧er=2∧v=.slice none 0 0)
theorem FitA.keeps {B:Nat} {w w':World} {v:Value} {V er:Int} (h:FitA B w V v er) (k:Below w.heap.size w w'):FitA B w' V v er:=by
  rcases h with ⟨h1,h2,h3⟩ | h
  . exact .inl ⟨h1,h2,h3.keeps k⟩
  . exact .inr h
theorem FitA.lower {B B':Nat} {w:World} {v:Value} {V er:Int} (h:FitA B w V v er) (hB:B' <= B):FitA B' w V v er:=by
  rcases h with ⟨h1,h2,h3⟩ | h
  . exact .inl ⟨h1,h2,h3.lower hB⟩
  . exact .inr h
theorem FitA.ge {B:Nat} {w:World} {v:Value} {V er:Int} (h:FitA B w V v er) {g:Nat} (hg:v.ownBlock=some g):B <= g∧g < w.heap.size:=by
  rcases h with ⟨h1,h2,h3⟩ | ⟨_,_,rfl⟩
  . exact h3.ge hg
  . simp [Value.ownBlock] at hg
theorem FitA.shape {B:Nat} {w:World} {v:Value} {V er:Int} (h:FitA B w V v er):∃ ao n cap,v=.slice ao n cap:=by
  rcases h with ⟨h1,h2,h3⟩ | ⟨_,_,rfl⟩
  . exact h3.shape
  . exact ⟨_,_,_,rfl⟩
def lentD (a:Nat->Int) (n:Nat):Nat->Int:=cat a n (fun i=>-71 - (i:Int))
def LentA (w w':World) (v:Value) (n:Nat) (a:Nat->Int):Prop:=∃ g cap,v=.slice (some ⟨g,0,none⟩) (n + 3) cap∧Out w.heap.size w' v (n + 3) (lentD a n)∧Below w.heap.size w w'
theorem LentA.below {w w':World} {v:Value} {n:Nat} {a:Nat->Int} (h:LentA w w' v n a):Below w.heap.size w w':=by
  obtain ⟨g,cap,_,_,hb⟩:=h
  exact hb
theorem LentA.parts {w w':World} {v:Value} {n:Nat} {a:Nat->Int} (h:LentA w w' v n a):∃ g cap,v=.slice (some ⟨g,0,none⟩) (n + 3) cap∧Out w.heap.size w' (.slice (some ⟨g,0,none⟩) (n + 3) cap) (n + 3) (lentD a n):=by
  obtain ⟨g,cap,rfl,h,_⟩:=h
  exact ⟨g,cap,rfl,h⟩
theorem lowA_unique {A l m:Int} (h:LowA A l) (k:LowA A m):l=m:=by
  have hz:∀ i:Nat,¬ IsLow 0 i:=fun i ⟨q,e⟩=>by
    have h2:=two_pos i
    have h3:(2 * q + 1) ≠ 0:=by omega
    rcases Int.mul_eq_zero.1 e.symm with h | h
    . exact h3 h
    . omega
  rcases h with ⟨h0,h1⟩ | ⟨i,h1,hi⟩ <;> rcases k with ⟨k0,k1⟩ | ⟨j,k1,hj⟩
  . omega
  . subst h0; exact absurd hj (hz j)
  . subst k0; exact absurd hi (hz i)
  . rw [h1,k1,low_unique hi hj]
set_option maxHeartbeats 400000 in
theorem rlow_any (ao:Option Addr) (n cap:Nat) (d:Nat->Int) (w:World) (h:Row w ao n cap d) (hd:Dig d n) (hn:n <= 100000) :
    Calls Tryz.prog 104 #[.slice ao n cap] w fun e w'=>∃ l,e=.returned (.int .i64 l)∧LowA (val d n) l∧w'=w:=by
  have hl:=h.le
  have hm:=h.max
  go_enter Tryz.func104,Tryz.ntmps104
  go_wp2
  go_loop [3] (fun i=>∃ k:Nat,k <= n∧i=.int .i64 k∧Hid (∀ j,j < k->d j=0)) (fun i=>n - (intOf i).toNat)
  case atStart=>exact ⟨0,Nat.zero_le _,rfl,fun j hj=>by omega⟩
  case round=>
    obtain ⟨k,hk,rfl,HZ⟩:=hrel
    by_cases hlt:k < n
    . obtain ⟨b,off,rfl,hb,hc⟩:=h.spot (by omega)
      have c:=hc k hlt
      have dk:=hd k hlt
      by_cases h0:d k=0
      . have e0:(d k != 0)=false:=by simp [h0]
        go_wp2
        go_round
        case rel=>exact ⟨k + 1,by omega,by go_num,fun j hj=>by by_cases e:j=k; (· rw [e]; exact h0); (· exact HZ.out j (by omega))⟩
        case measure=>simp [intOf]; omega
      . have e0:(d k != 0)=true:=by simp [h0]
        have hpos:0 < d k:=by omega
        go_wp2
        go_loop [4,5] (fun s v=>∃ (x:Int) (t:Nat),s=.int .i64 ((30 * k + t:Nat):Int)∧v=.int .i64 x∧0 < x∧x < 1073741824∧t <= 30∧Hid (x * 2 ^ t=d k)) (fun _ v=>(intOf v).toNat)
        case atStart=>exact ⟨d k,0,by go_num,rfl,hpos,dk.2,by omega,by show _=_; simp⟩
        case round=>
          obtain ⟨x,t,rfl,rfl,hx0,hx1,ht,HT⟩:=hrel
          by_cases he:x % 2=0
          . have ee:(x % 2 == 0)=true:=by simp [he]
            have HT2:Hid (x / 2 * 2 ^ (t + 1)=d k):=by
              show _=_
              rw [Int.pow_succ,Int.mul_comm (2 ^ t) 2,<- Int.mul_assoc,show x / 2 * 2=x by omega]; exact HT.out
            have ht2:t + 1 <= 30:=by
              have h1:1 * 2 ^ (t + 1) <= x / 2 * 2 ^ (t + 1):=Int.mul_le_mul_of_nonneg_right (by omega) (Int.le_of_lt (two_pos _))
              rw [HT2.out] at h1
              have h2:(2:Int) ^ (t + 1) < 2 ^ 30:=by have:(2:Int) ^ 30=1073741824:=rfl; omega
              have:=two_lt_iff h2
              omega
            go_wp2
            go_round
            case rel=>exact ⟨x / 2,t + 1,by go_num,rfl,by omega,by omega,ht2,HT2.out⟩
            case measure=>simp [intOf]; omega
          . have ee:(x % 2 == 0)=false:=by simp [he]
            have HL:Hid (IsLow (d k) t):=⟨x / 2,by rw [show 2 * (x / 2) + 1=x by omega]; exact HT.out.symm⟩
            go_wp2
            go_ret
            exact ⟨_,rfl,.inr ⟨30 * k + t,rfl,isLow_val hlt HZ.out HL.out (low_lt hpos dk.2 HL.out)⟩,rfl⟩
    . obtain rfl:k=n:=by omega
      go_wp2
      go_ret
      exact ⟨_,rfl,.inl ⟨by rw [val_zeros (Nat.zero_le _) (fun i _ hi=>HZ.out i hi)]; rfl,rfl⟩,rfl⟩
set_option maxRecDepth 100000 in
set_option maxHeartbeats 1000000 in
theorem rnorm_any (ng:Bool) (ao:Option Addr) (n cap:Nat) (d:Nat->Int) (e:Int) (w:World) (h:Row w ao n cap d) (hd:Dig d n) (hn:n <= 40000) (he0:-4194304 <= e) (he1:e <= 4194304) :
    Calls Tryz.prog 81 #[.bool ng,.slice ao n cap,.int .i64 e] w fun r w'=>∃ v,r=.returned v∧DAns w w' (sg ng (val d n) * pw e) v:=by
  by_cases h0:val d n=0
  . rw [h0,sg_zero,Int.zero_mul]
    go_enter Tryz.func81,Tryz.ntmps81
    go_wp2_with fail
    refine (rlow_any _ _ _ _ _ (h.keeps (bel_alloc _ _)) hd (by omega)).mono ?_
    rintro r w1 ⟨l,rfl,hl,rfl⟩
    have hl1:l=-1:=by
      rcases hl with ⟨_,h1⟩ | ⟨k,_,m,hm⟩
      . exact h1
      . exfalso
        rw [h0] at hm
        rcases Int.mul_eq_zero.1 hm.symm with x | x
        . omega
        . have:=two_pos k; omega
    subst hl1
    go_wp2
    refine bodyPost_ret (v:=zeroV) (by simp [results,Tryz.results81,go_sem,zeroV]) rfl ⟨_,rfl,?_⟩
    exact DAns.zero (bel_alloc _ _)
  . have hp:0 < val d n:=by have:=val_nonneg hd; omega
    go_enter Tryz.func81,Tryz.ntmps81
    go_wp2_with fail
    refine (rlow_any _ _ _ _ _ (h.keeps (bel_alloc _ _)) hd (by omega)).mono ?_
    rintro r w1 ⟨l,rfl,hl,rfl⟩
    have hl2:∃ k:Nat,l=k∧IsLow (val d n) k:=by
      rcases hl with ⟨h1,_⟩ | h1
      . omega
      . exact h1
    obtain ⟨k,rfl,hk⟩:=hl2
    have hkn:k < 30 * n:=by
      have h1:=val_lt hd
      rw [P_two] at h1
      obtain ⟨a,b,c⟩:=isLow_odd hk hp
      have h2:(1:Int) * 2 ^ k <= val d n / 2 ^ k * 2 ^ k:=Int.mul_le_mul_of_nonneg_right (by omega) (Int.le_of_lt (two_pos k))
      exact two_lt_iff (by omega)
    have hy:=Dy.of ng hk hp he0
    have HY:Hid (Dy (sg ng (val d n) * pw e) ng (val d n / 2 ^ k) (e + k)):=hy
    clear hy hl hk
    go_wp2_with fail
    refine (rshr_any _ _ _ k d _ (h.keeps (bel_alloc _ _)) hd (by omega) (by omega)).mono ?_
    rintro r w2 ⟨v,rfl,hA⟩
    obtain ⟨so,sn,sc,rfl⟩:=hA.num.shape
    have q0:=(hA.below.block w.heap.size (by rw [size1]; omega)).trans (heap_a1 _ _)
    have x0:=blkC q0 0 rfl
    have x1:=blkC q0 1 rfl
    have x2:=blkC q0 2 rfl
    have z0:=blkF q0 0
    have z1:=blkF q0 1
    have z2:=blkF q0 2
    go_wp2
    refine bodyPost_ret (v:=.agg #[.bool ng,.slice so sn sc,.int .i64 (e + k)]) (by simp [results,Tryz.results81,go_sem,x0,x1,x2]) rfl ⟨_,rfl,?_⟩
    exact ⟨_,_,_,_,rfl,HY.out,ans_res (g:=w.heap.size) hA (bel_alloc _ _) (Nat.le_refl _) (by rw [size1]; omega) _ _ _⟩
def Bd (B:Nat) (V:Int):Prop:=∃ m:Int,V=m * pw (-(B:Int))∧-(2 ^ (2 * B)) < m∧m < 2 ^ (2 * B)
theorem Bd.ok {B:Nat} {V:Int} (h:Bd B V) (hB:B <= 29000):Dok V:=by
  obtain ⟨m,rfl,h1,h2⟩:=h
  by_cases h0:m=0
  . rw [h0,Int.zero_mul]; exact dok_zero
  . have key:∀ (ng:Bool) (M:Int),0 < M->M < 2 ^ (2 * B)->Dok (sg ng M * pw (-(B:Int))):=fun ng M hM hlt=>by
      obtain ⟨l,hl⟩:=isLow_ex hM
      have hy:=Dy.of ng hl hM (show -4194304 <= -(B:Int) by omega)
      obtain ⟨c1,c2,c3⟩:=isLow_odd hl hM
      have hl2:l < 2 * B:=by
        have h3:(1:Int) * 2 ^ l <= M / 2 ^ l * 2 ^ l:=Int.mul_le_mul_of_nonneg_right (by omega) (Int.le_of_lt (two_pos l))
        rw [c3] at h3
        exact two_lt_iff (by omega)
      refine hy.ok.2 ⟨?_,by omega,by omega⟩
      have h4:M / 2 ^ l <= M:=Int.ediv_le_self _ (by omega)
      have h5:(2:Int) ^ (2 * B) <= 2 ^ (30 * 2000):=two_le (by omega)
      rw [P_two]
      omega
    by_cases hp:0 < m
    . exact key false m hp h2
    . have:=key true (-m) (by omega) (by omega)
      rwa [show sg true (-m)=m by simp [sg]] at this
theorem Bd.up {B C:Nat} {V:Int} (h:Bd B V) (hBC:B <= C) (hC:C <= 4194304):Bd C V:=by
  obtain ⟨m,rfl,h1,h2⟩:=h
  have hp:=two_pos (C - B)
  have e:pw (-(B:Int))=pw (-(C:Int)) * 2 ^ (C - B):=by
    rw [<- pw_add (by omega)]; congr 1; omega
  have hle:(2:Int) ^ (2 * B) * 2 ^ (C - B) <= 2 ^ (2 * C):=by rw [<- Int.pow_add]; exact two_le (by omega)
  refine ⟨m * 2 ^ (C - B),by rw [e]; grind,?_,?_⟩
  . have:-(2 ^ (2 * B)) * 2 ^ (C - B) < m * 2 ^ (C - B):=Int.mul_lt_mul_of_pos_right h1 hp
    rw [Int.neg_mul] at this
    omega
  . have:=Int.mul_lt_mul_of_pos_right h2 hp
    omega
theorem Bd.add {B:Nat} {V W:Int} (h:Bd B V) (k:Bd B W) (hB:B < 4194304):Bd (B + 1) (V + W):=by
  obtain ⟨m,rfl,h1,h2⟩:=h
  obtain ⟨n,rfl,k1,k2⟩:=k
  have e:pw (-(B:Int))=pw (-((B + 1:Nat):Int)) * 2:=by
    have:=pw_add (e:=-((B + 1:Nat):Int)) (by omega) 1
    rw [Int.pow_succ,Int.pow_zero,Int.one_mul] at this
    rw [<- this]; congr 1; omega
  have e2:(2:Int) ^ (2 * (B + 1))=2 ^ (2 * B) * 4:=by rw [show 2 * (B + 1)=2 * B + 2 by omega,Int.pow_add]; rfl
  refine ⟨2 * (m + n),by rw [e]; grind,?_,?_⟩ <;> rw [e2] <;> omega
theorem Bd.neg {B:Nat} {V:Int} (h:Bd B V):Bd B (-V):=by
  obtain ⟨m,rfl,h1,h2⟩:=h
  exact ⟨-m,by rw [Int.neg_mul],by omega,by omega⟩
theorem Bd.mul {B:Nat} {V W U:Int} (h:Bd B V) (k:Bd B W) (hU:U * 2 ^ 4194304=V * W) (hB:B <= 1000000):Bd (2 * B) U:=by
  obtain ⟨m,rfl,h1,h2⟩:=h
  obtain ⟨n,rfl,k1,k2⟩:=k
  have e:U=m * n * pw (-((2 * B:Nat):Int)):=by
    refine scale_inj ?_
    rw [hU,Int.mul_assoc (m * n),show -((2 * B:Nat):Int)=-(B:Int) + -(B:Int) by omega,<- pw_mul (by omega) (by omega)]; grind
  refine ⟨m * n,e,?_,?_⟩
  all_goals
    have hab:(m * n).natAbs < ((2:Int) ^ (2 * (2 * B))).natAbs:=by
      rw [Int.natAbs_mul,show 2 * (2 * B)=2 * B + 2 * B by omega,Int.pow_add,Int.natAbs_mul]
      exact Nat.mul_lt_mul'' (by have:=two_pos (2 * B); omega) (by have:=two_pos (2 * B); omega)
    have:=two_pos (2 * (2 * B))
    omega
theorem bd_num {ng:Bool} {M e:Int} (h0:0 <= M) (h1:M < P 30) (e0:-3000 < e) (e1:e < 3000):Bd 4000 (sg ng M * pw e):=by
  have hs:pw e=pw (-((4000:Nat):Int)) * 2 ^ (e + 4000).toNat:=by
    rw [<- pw_add (by omega)]; congr 1; omega
  have hp:=two_pos (e + 4000).toNat
  have hlt:M * 2 ^ (e + 4000).toNat < 2 ^ (2 * 4000):=by
    have a:M * 2 ^ (e + 4000).toNat < P 30 * 2 ^ (e + 4000).toNat:=Int.mul_lt_mul_of_pos_right h1 hp
    rw [P_two,<- Int.pow_add] at a
    have b:(2:Int) ^ (30 * 30 + (e + 4000).toNat) <= 2 ^ (2 * 4000):=two_le (by omega)
    omega
  have hn:0 <= M * 2 ^ (e + 4000).toNat:=Int.mul_nonneg h0 (Int.le_of_lt hp)
  refine ⟨sg ng (M * 2 ^ (e + 4000).toNat),by rw [hs,sg_sgn,sg_sgn]; grind,?_,?_⟩
  all_goals
    generalize M * 2 ^ (e + 4000).toNat=X at *
    generalize (2:Int) ^ (2 * 4000)=T at *
    cases ng <;> simp only [sg] <;> simp <;> omega
end Go.Proofs.YtfgapefckpnjjaaGreatDoor
namespace Go.Proofs.YtfgapefckpnjjaaGreatDoor
open Go Go.ChangeShapes Go.WideShapes Go.ChangeAt Go.RowKit Go.Proofs.YtfgapefckpnjjaaGreatDoor.M
theorem rng_of {x:Int} (h:(Lit.int .i64 x).wf=true):rng x:=by
  simp [Lit.wf,IntKind.min,IntKind.max,IntKind.signed,IntKind.bits] at h
  unfold rng; omega
end Go.Proofs.YtfgapefckpnjjaaGreatDoor
namespace Go.Proofs.YtfgapefckpnjjaaGreatDoor
open Go Go.RowKit Go.ChangeShapes Go.Proofs.YtfgapefckpnjjaaGreatDoor.M
theorem gTab : Tryz.prog.globalNamed "math/bits.deBruijn64tab" = some 2 := by kernel_rfl
theorem gTabType:(Tryz.prog.globals[(2:Nat)]?).map (·.type)=some 171:=by kernel_rfl
theorem cellsTab:Tryz.prog.cellsOf 171=64:=by kernel_rfl
theorem cellsByte:Tryz.prog.cellsOf 5=1:=by kernel_rfl
def tabInts:List Int:=Lib.deBruijn64tab.map Int.ofNat
theorem tab_get:∀ j,j < 64->tabInts.getD j 0=((Lib.deBruijn64tab.getD j 0:Nat):Int):=by decide +kernel
theorem cellsInt:Tryz.prog.cellsOf 3=1:=by kernel_rfl
theorem cellsLayout:Tryz.prog.cellsOf 95=3:=by kernel_rfl
theorem g64 : Tryz.prog.globalNamed "plumb/bits.binary64" = some 0 := by kernel_rfl
theorem g64Type:(Tryz.prog.globals[(0:Nat)]?).map (·.type)=some 95:=by kernel_rfl
set_option maxRecDepth 100000 in
theorem three {W:World} {name:String} {g:Nat} {a b c:Int} {rest:List (String × DataW Unit)} (hg:Tryz.prog.globalNamed name=some g) (hty:(Tryz.prog.globals[g]?).map (·.type)=some 95)
    (h:laidMet Tryz.prog ((name,.agg [.lit (.int .i64 a),.lit (.int .i64 b),.lit (.int .i64 c)]) :: rest) W) :
    W.cell? ⟨g,0,none⟩=some (.int .i64 a)∧W.cell? ⟨g,1,none⟩=some (.int .i64 b)∧W.cell? ⟨g,2,none⟩=some (.int .i64 c):=by
  obtain ⟨ps,⟨g',t',cs,fuel,p,q,hg',ht',hvar,hd,_,_⟩,_⟩:=h
  obtain rfl:=Option.some.inj (hg.symm.trans hg')
  obtain rfl:=Option.some.inj (hty.symm.trans ht')
  obtain ⟨y0,y1,y2,n,hx,hl,h0,h1,h2⟩:=Go.Deep.trod_struct3 Tryz.underlying95 hd
  obtain ⟨k0,e0,f0,_⟩:=DataW.trod_int Tryz.underlying3 h0
  obtain ⟨k1,e1,f1,_⟩:=DataW.trod_int Tryz.underlying3 h1
  obtain ⟨k2,e2,f2,_⟩:=DataW.trod_int Tryz.underlying3 h2
  rw [f0,f1,f2] at hx
  simp only [Prod.mk.injEq,DataW.agg.injEq,List.cons.injEq,DataW.lit.injEq,Lit.int.injEq,true_and,and_true] at hx
  obtain ⟨⟨rfl,rfl,rfl⟩,_⟩:=hx
  rw [cellsLayout] at hl
  rw [cellsInt] at e0 e1 e2
  have v:=fun i=>World.var?_cell hg hvar i
  obtain ⟨l⟩:=cs
  simp only at hl e0 e1 e2
  match l,hl with
  | [c0,c1,c2],_=>
    simp at e0 e1 e2
    subst e0 e1 e2
    exact ⟨by simpa using v 0,by simpa using v 1,by simpa using v 2⟩
end Go.Proofs.YtfgapefckpnjjaaGreatDoor
