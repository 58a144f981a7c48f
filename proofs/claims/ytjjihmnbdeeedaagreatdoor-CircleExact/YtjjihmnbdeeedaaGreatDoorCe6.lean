/- Parts of the proof. -/
import Derived.Test.YtjjihmnbdeeedaaGreatDoorCe5
import Derived.Test.YtjjihmnbdeeedaaGreatDoorCe2
import Derived.Test.YtjjihmnbdeeedaaGreatDoorCe3
import Derived.Test.YtjjihmnbdeeedaaGreatDoorCe4
import Derived.Deep.LoopGhost
import Derived.Deep.RegionWith
import Derived.Laws.Externs
import Derived.Laws.Cover2
import Derived.Test.YtjjihmnbdeeedaaGreatDoorCe1
import Derived.Deep.RegionHeld3
import Derived.Deep.AppendLies
import Derived.Deep.RegionLaw
set_option linter.unusedVariables false
set_option linter.unusedSimpArgs false
namespace Go.Proofs.YtjjihmnbdeeedaaGreatDoor
open Go Go.RowKit Go.Proofs.YtjjihmnbdeeedaaGreatDoor.M
structure Lay64 (w:World):Prop where
  a0:w.cell? ⟨1,0,none⟩=some (.int .i64 52)
  a1:w.cell? ⟨1,1,none⟩=some (.int .i64 2047)
  a2:w.cell? ⟨1,2,none⟩=some (.int .i64 (-1074))
theorem Lay64.keeps {w w':World} (h:Lay64 w) (hb:Below w.heap.size w w'):Lay64 w':=⟨cell_keeps h.a0 hb,cell_keeps h.a1 hb,cell_keeps h.a2 hb⟩
theorem bitsPartsA (b:Int) (w:World) (L:Lay64 w) :
    Calls Tryz.prog 190 #[.int .i64 b] w fun e w'=>e=.returned (.tuple #[.bool (pneg b),.int .i64 (pmag b),.int .i64 (pexp b),.bool (pok b)])∧Below w.heap.size w w':=by
  obtain ⟨a0,a1,a2⟩:=L
  by_cases h:pok b=true
  all_goals
    go_enter Tryz.func190,Tryz.ntmps190
    go_wp2_with (go_at_call 250; refine (parts64 _ _).mono ?_; rintro e w1 ⟨rfl,hg⟩)
    refine bodyPost_ret (v:=.tuple #[.bool (pneg b),.int .i64 (pmag b),.int .i64 (pexp b),.bool (pok b)]) (by simp [results,Tryz.results190,go_sem,pneg,h]) rfl ⟨rfl,hg.be⟩
theorem pmag_in {b:Int} (hp:pok b=true):0<=pmag b∧pmag b<9007199254740992∧-1074<=pexp b∧pexp b<=971:=by
  have hf:=fld_le b
  have hr:=frc_le b
  have h1:fld b≠2047:=by simpa [pok] using hp
  unfold pmag pexp
  rw [if_neg h1,if_neg h1]
  split <;> omega
theorem ofNat_any (x:Int) (w:World) (h0:0<=x) (h1:x<9223372036854775808) :
    Calls Tryz.prog 258 #[.int .i64 x] w fun e w'=>∃ v,e=.returned (.tuple #[v,.int .i64 0])∧Ans w w' x v:=by
  have HX:=digits_nat x w h0 h1
  have HX':Hid (Calls Tryz.prog 304 #[.int .i64 x] w fun e w'=>∃ v,e=.returned v∧Ans w w' x v):=HX
  clear HX h1
  go_enter Tryz.func258,Tryz.ntmps258
  go_wp2_with fail
  refine HX'.out.mono ?_
  rintro e w2 ⟨v,rfl,hA⟩
  go_wp2
  go_ret2
  exact ⟨_,rfl,hA⟩
theorem P2000_big2:9223372036854775808<P 2000:=by
  have:=P_le (show 3<=2000 by omega)
  have e:P 3=1237940039285380274899124224:=rfl
  omega
theorem dok_small {ng:Bool} {M e:Int} (h0:0<=M) (h1:M<9223372036854775808) (e0:-1074<=e) (e1:e<=971):Dok (sg ng M*pw e):=by
  by_cases hz:M=0
  . rw [hz,sg_zero,Int.zero_mul]; exact dok_zero
  . obtain ⟨l,hl⟩:=isLow_ex (show 0<M by omega)
    have hy:=Dy.of ng hl (show 0<M by omega) (show -4194304<=e by omega)
    obtain ⟨c1,c2,c3⟩:=isLow_odd hl (show 0<M by omega)
    have hp:=two_pos l
    have hl63:l<63:=by
      have h3:(1:Int)*2^l<=M/2^l*2^l:=Int.mul_le_mul_of_nonneg_right (by omega) (by omega)
      rw [c3] at h3
      refine two_lt_iff ?_
      rw [show (2:Int)^63=9223372036854775808 by decide]
      omega
    refine hy.ok.2 ⟨?_,by omega,by omega⟩
    have:M/2^l<=M:=Int.ediv_le_self _ h0
    have:=P2000_big2
    omega
set_option maxRecDepth 100000 in
set_option maxHeartbeats 1000000 in
theorem value_yes (ng:Bool) (M e:Int) (w:World) (hT:Tab w) (h0:0<=M) (h1:M<9223372036854775808) (e0:-1074<=e) (e1:e<=971) :
    Calls Tryz.prog 201 #[.bool ng,.int .i64 M,.int .i64 e,.bool true] w fun r w'=>∃ v,r=.returned (.tuple #[v,.int .i64 0])∧DAns w w' (sg ng M*pw e) v:=by
  have hok:=dok_small (ng:=ng) h0 h1 e0 e1
  go_enter Tryz.func201,Tryz.ntmps201
  go_wp2_with fail
  refine (ofNat_any M _ h0 h1).mono ?_
  rintro r w1 ⟨v,rfl,hA⟩
  obtain ⟨so,sn,sc,d,rfl,hR,hN,hv⟩:=hA.num
  have hsn:sn<=100:=hA.num.len (k:=100) (by have:=P_le (show 3<=100 by omega); have:P 3=1237940039285380274899124224:=rfl; omega)
  have hbw:=bel_trans (bel_alloc w _) hA.below
  go_wp2_with fail
  refine (settle_any (V:=sg ng M*pw e) hR hN.1 (by omega) (hT.keeps hbw) (by omega) (by rw [hv])).mono ?_
  rintro r w7 (⟨_,v,rfl,hD⟩ | ⟨hno,_⟩)
  . have hb7:=hD.below
    obtain ⟨ng',s',m',e',rfl,hyy,hA2⟩:=id hD
    obtain ⟨so',sn',sc',rfl⟩:=hA2.num.shape
    have q0:=((bel_trans hA.below hb7).block w.heap.size (by rw [size1]; omega)).trans (heap_a1 _ _)
    have x0:=blkC q0 0 rfl
    have x1:=blkC q0 1 rfl
    have x2:=blkC q0 2 rfl
    have z0:=blkF q0 0
    have z1:=blkF q0 1
    have z2:=blkF q0 2
    go_wp2
    refine bodyPost_ret (v:=.tuple #[.agg #[.bool ng',.slice so' sn' sc',.int .i64 e'],.int .i64 0]) (by simp [results,Tryz.results201,go_sem,x0,x1,x2]) rfl ⟨_,rfl,?_⟩
    exact dans_res3 (g:=w.heap.size) hD hbw (Nat.le_refl _) (Nat.lt_of_lt_of_le (by rw [size1]; omega) hA.below.size) _ _ _
  . exact absurd hok hno
set_option maxRecDepth 100000 in
theorem value_no (ng:Bool) (M e:Int) (w:World) :
    Calls Tryz.prog 201 #[.bool ng,.int .i64 M,.int .i64 e,.bool false] w fun r w'=>r=.returned (.tuple #[zeroV,.int .i64 10])∧Below w.heap.size w w':=by
  go_enter Tryz.func201,Tryz.ntmps201
  go_wp2
  refine bodyPost_ret (v:=.tuple #[zeroV,.int .i64 10]) (by simp [results,Tryz.results201,go_sem,zeroV]) rfl ⟨rfl,?_⟩
  exact bel_alloc _ _
set_option maxRecDepth 100000 in
set_option maxHeartbeats 1000000 in
theorem dof_any (b:Int) (w:World) (L:Lay64 w) (hT:Tab w) :
    Calls Tryz.prog 150 #[.int .i64 b] w fun r w'=>∃ v er,r=.returned (.tuple #[v,.int .i64 er])∧Below w.heap.size w w'∧((pok b=true∧er=0∧DAns w w' (sg (pneg b) (pmag b)*pw (pexp b)) v)∨(pok b=false∧er=10∧v=zeroV)):=by
  have hVy:pok b=true->∀ W,Below w.heap.size w W->Calls Tryz.prog 201 #[.bool (pneg b),.int .i64 (pmag b),.int .i64 (pexp b),.bool true] W fun r w'=>∃ v,r=.returned (.tuple #[v,.int .i64 0])∧DAns W w' (sg (pneg b) (pmag b)*pw (pexp b)) v:=fun hp W hb=>by
    have hi:=pmag_in hp
    exact value_yes _ _ _ W (hT.keeps hb) (by omega) (by omega) (by omega) (by omega)
  have hP:=fun W hb=>bitsPartsA b W (L.keeps hb)
  generalize sg (pneg b) (pmag b)*pw (pexp b)=V at hVy ⊢
  generalize pneg b=ng at *
  generalize pmag b=mg at *
  generalize pexp b=ex at *
  clear L hT
  cases hp:pok b
  . rw [hp] at hP hVy
    go_enter Tryz.func150,Tryz.ntmps150
    go_wp2_with fail
    refine (hP _ (bel_alloc _ _)).mono ?_
    rintro r w1 ⟨rfl,hb1⟩
    go_wp2_with fail
    refine (value_no _ _ _ _).mono ?_
    unfold zeroV
    rintro r w2 ⟨rfl,hb2⟩
    have hbw:=bel_trans (bel_alloc w (.cells #[.bool false,.slice none 0 0,.int .i64 0] 40)) (bel_trans hb1 hb2)
    have q0:=((bel_trans hb1 hb2).block w.heap.size (by rw [size1]; omega)).trans (heap_a1 _ _)
    have x0:=blkC q0 0 rfl
    have x1:=blkC q0 1 rfl
    have x2:=blkC q0 2 rfl
    have z0:=blkF q0 0
    have z1:=blkF q0 1
    have z2:=blkF q0 2
    go_wp2
    refine bodyPost_ret (v:=.tuple #[zeroV,.int .i64 10]) (by simp [results,Tryz.results150,go_sem,x0,x1,x2,zeroV]) rfl ⟨_,_,rfl,?_,.inr ⟨by trivial,rfl,rfl⟩⟩
    exact bel_set3 hbw (Nat.le_refl _) _ _ _
  . rw [hp] at hP hVy
    go_enter Tryz.func150,Tryz.ntmps150
    go_wp2_with fail
    refine (hP _ (bel_alloc _ _)).mono ?_
    rintro r w1 ⟨rfl,hb1⟩
    have hbw:=bel_trans (bel_alloc w (.cells #[.bool false,.slice none 0 0,.int .i64 0] 40)) hb1
    go_wp2_with fail
    refine (hVy (by trivial) _ hbw).mono ?_
    rintro r w2 ⟨v,rfl,hD⟩
    obtain ⟨ng',s',m',e',rfl,hyy,hA2⟩:=id hD
    obtain ⟨so',sn',sc',rfl⟩:=hA2.num.shape
    have q0:=((bel_trans hb1 hD.below).block w.heap.size (by rw [size1]; omega)).trans (heap_a1 _ _)
    have x0:=blkC q0 0 rfl
    have x1:=blkC q0 1 rfl
    have x2:=blkC q0 2 rfl
    have z0:=blkF q0 0
    have z1:=blkF q0 1
    have z2:=blkF q0 2
    go_wp2
    refine bodyPost_ret (v:=.tuple #[.agg #[.bool ng',.slice so' sn' sc',.int .i64 e'],.int .i64 0]) (by simp [results,Tryz.results150,go_sem,x0,x1,x2]) rfl ⟨_,_,rfl,?_,.inl ⟨by trivial,rfl,?_⟩⟩
    . exact bel_set3 (bel_trans hbw hD.below) (Nat.le_refl _) _ _ _
    . exact dans_res3 (g:=w.heap.size) hD hbw (Nat.le_refl _) (Nat.lt_of_lt_of_le (by rw [size1]; omega) hb1.size) _ _ _
def bRung (way:Int) (ng:Bool):Int:=if rUp way ng true 3 then 9218868437227405312 else 9218868437227405311
def patS (ng:Bool) (r:Int):Int:=if ng then r-9223372036854775808 else r
theorem Env.keeps {w w':World} (h:Env w) (hb:Below w.heap.size w w'):Env w' :=
  ⟨⟨cell_keeps h.lays.a0 hb,cell_keeps h.lays.a1 hb,cell_keeps h.lays.a2 hb,trivial,trivial,trivial⟩,fun j hj=>cell_keeps (h.tab j hj) hb⟩
def r64 (way:Int) (ng sd:Bool) (mag:Nat) (exp:Int) (cut:Bool):Int × Bool :=
  let E:=rE 53 (-1074) mag exp
  let u:=rU mag (E-exp)
  let left:=rL mag cut (E-exp)
  let U:=u+(if rUp way ng (decide (u % 2=1)) left then 1 else 0)
  let neg:=ng && (decide (0<U) || sd)
  if jk 52 2047 (-1074) U E then (jp neg U E,decide (left≠0)) else (patS neg (bRung way neg),true)
theorem Num.parts {w:World} {v:Value} {V:Int} (h:Num w v V) {k:Nat} (hV:V<P k):∃ ao n cap d,v=.slice ao n cap∧Row w ao n cap d∧Nrm d n∧val d n=V∧n<=k:=by
  obtain ⟨ao,n,cap,rfl⟩:=h.shape
  have hl:=h.len hV
  obtain ⟨ao',n',cap',d,e,hR,h2,h3⟩:=h
  simp only [Value.slice.injEq] at e
  obtain ⟨rfl,rfl,rfl⟩:=e
  exact ⟨ao,n,cap,d,rfl,hR,h2,h3,hl⟩
def vK (M:Int):Nat:=blen M-62
theorem vK_small {M:Int} (h:0<=M):0<=M/2^vK M∧M/2^vK M<4611686018427387904:=by
  have hp:=two_pos (vK M)
  refine ⟨Int.ediv_nonneg h (by omega),?_⟩
  have h1:=blen_lt M
  have h2:(2:Int)^blen M<=2^(62+vK M):=two_le (by unfold vK; omega)
  have e:(2:Int)^(62+vK M)=4611686018427387904*2^vK M:=by rw [Int.pow_add]; rfl
  exact Int.ediv_lt_of_lt_mul hp (by omega)
theorem run_from64 (n:Int) (w:World):(callFunc 88 #[.int .u64 n]).run Tryz.prog w=.ok (.value (.float .f64 n.toNat)) w:=by
  rw [run_callFunc_extern Tryz.func88 (by kernel_rfl) (by kernel_rfl) (by kernel_rfl) (e:=Extern.MathFloatBits.float64frombits) (by kernel_rfl)]
  rfl
theorem ret_float {k:FloatKind} {a b:Nat} (h:a=b):Ending.returned (.float k a)=.returned (.float k b):=by rw [h]
theorem bitsFloat (b:Int) (w:World) :
    Calls Tryz.prog 58 #[.int .i64 b] w fun e w'=>e=.returned (.float .f64 (wd b))∧w'=w:=by
  have hd:=run_from64
  go_enter Tryz.func58,Tryz.ntmps58
  go_wp2
  go_ret
  exact ⟨ret_float (by rw [IntKind.wrap_u64]; rfl),rfl⟩
theorem hideIt {p:Prop} (h:p):Hid p:=h
theorem refCut (b:Int) (w:World) (hb:rng b) :
    Calls Tryz.prog 228 #[.int .i64 b] w fun e w'=>e=.returned (.tuple #[.bool (decide (b<0)),.int .i64 (fld b),.int .i64 (frc b)])∧w'=w:=by
  unfold rng at hb
  by_cases h:b<0
  all_goals
    go_enter Tryz.func228,Tryz.ntmps228
    go_wp2
    go_ret3
    exact ⟨ret_bii (by simp; try omega) (by unfold fld; omega) (by unfold frc; omega),rfl⟩
theorem refcls (f t most:Int) (w:World) (hf:0<=f) (ht:0<=t) :
    Calls Tryz.prog 229 #[.int .i64 f,.int .i64 t,.int .i64 most] w fun e w'=>e=.returned (.int .i64 (rcls f t most))∧w'=w:=by
  by_cases h1:f=most
  . subst h1
    by_cases h2:t=0
    all_goals
      go_enter Tryz.func229,Tryz.ntmps229
      go_wp2
      go_ret
      exact ⟨b_ret_int (by simp [rcls,h2]),rfl⟩
  . by_cases h2:0<f <;> by_cases h3:0<t
    all_goals
      go_enter Tryz.func229,Tryz.ntmps229
      go_wp2
      go_ret
      exact ⟨b_ret_int (by simp [rcls,h1]; omega),rfl⟩
theorem refClass (b:Int) (w:World) (hb:rng b) :
    Calls Tryz.prog 172 #[.int .i64 b] w fun e w'=>e=.returned (.int .i64 (cls b))∧w'=w:=by
  have hf:=fld_le b
  have ht:=frc_le b
  go_enter Tryz.func172,Tryz.ntmps172
  go_wp2_with (first
    | (go_at_call 228; refine (refCut _ _ hb).mono ?_; rintro e w1 ⟨rfl,rfl⟩)
    | (go_at_call 229; refine (refcls _ _ _ _ hf.1 ht.1).mono ?_; rintro e w1 ⟨rfl,rfl⟩))
  go_ret
  exact ⟨b_ret_int (rcls_cls b),rfl⟩
theorem refParts (b:Int) (w:World) (hb:rng b) :
    Calls Tryz.prog 208 #[.int .i64 b] w fun e w'=>e=.returned (.tuple #[.bool (pneg b),.int .i64 (pmag b),.int .i64 (pexp b),.bool (pok b)])∧w'=w:=by
  have hf:=fld_le b
  have ht:=frc_le b
  by_cases h0:cls b=0
  . have k:=hideIt (parts_sub (.inl h0))
    go_enter Tryz.func208,Tryz.ntmps208
    go_wp2_with (first
      | (go_at_call 228; refine (refCut _ _ hb).mono ?_; rintro e w1 ⟨rfl,rfl⟩)
      | (go_at_call 172; refine (refClass _ _ hb).mono ?_; rintro e w1 ⟨rfl,rfl⟩))
    refine bodyPost_ret (v:=.tuple #[.bool (decide (b<0)),.int .i64 (frc b),.int .i64 (-1074),.bool true]) (by simp [results,Tryz.results208,go_sem]) rfl ⟨ret_ttt4 k.out.1 k.out.2.1 k.out.2.2.1 k.out.2.2.2,rfl⟩
  . by_cases h1:cls b=1
    . have k:=hideIt (parts_sub (.inr h1))
      go_enter Tryz.func208,Tryz.ntmps208
      go_wp2_with (first
        | (go_at_call 228; refine (refCut _ _ hb).mono ?_; rintro e w1 ⟨rfl,rfl⟩)
        | (go_at_call 172; refine (refClass _ _ hb).mono ?_; rintro e w1 ⟨rfl,rfl⟩))
      refine bodyPost_ret (v:=.tuple #[.bool (decide (b<0)),.int .i64 (frc b),.int .i64 (-1074),.bool true]) (by simp [results,Tryz.results208,go_sem]) rfl ⟨ret_ttt4 k.out.1 k.out.2.1 k.out.2.2.1 k.out.2.2.2,rfl⟩
    . by_cases h2:cls b=2
      . have k:=hideIt (parts_norm h2)
        go_enter Tryz.func208,Tryz.ntmps208
        go_wp2_with (first
          | (go_at_call 228; refine (refCut _ _ hb).mono ?_; rintro e w1 ⟨rfl,rfl⟩)
          | (go_at_call 172; refine (refClass _ _ hb).mono ?_; rintro e w1 ⟨rfl,rfl⟩))
        refine bodyPost_ret (v:=.tuple #[.bool (decide (b<0)),.int .i64 (4503599627370496+frc b),.int .i64 (fld b-1075),.bool true]) (by simp [results,Tryz.results208,go_sem]) rfl ⟨ret_ttt4 k.out.1 k.out.2.1 k.out.2.2.1 k.out.2.2.2,rfl⟩
      . have k:=hideIt (parts_not h0 h1 h2)
        go_enter Tryz.func208,Tryz.ntmps208
        go_wp2_with (first
          | (go_at_call 228; refine (refCut _ _ hb).mono ?_; rintro e w1 ⟨rfl,rfl⟩)
          | (go_at_call 172; refine (refClass _ _ hb).mono ?_; rintro e w1 ⟨rfl,rfl⟩))
        refine bodyPost_ret (v:=.tuple #[.bool false,.int .i64 0,.int .i64 0,.bool false]) (by simp [results,Tryz.results208,go_sem]) rfl ⟨ret_ttt4 k.out.1 k.out.2.1 k.out.2.2.1 k.out.2.2.2,rfl⟩
def told (b:Int):Int:=if cls b=4 then 9221120237041090561 else b
theorem no64 {b:Int} (hb:rng b):(FloatKind.f64.format.order (wd b) (wd b) != some .eq)=decide (cls b=4):=by
  have:=same_order hb hb
  unfold bne
  rw [this]; unfold same
  by_cases h:cls b=4 <;> simp [h]
theorem run_bits64 (n:Nat) (w:World):(callFunc 89 #[.float .f64 n]).run Tryz.prog w=.ok (.value (.int .u64 n)) w:=by
  rw [run_callFunc_extern Tryz.func89 (by kernel_rfl) (by kernel_rfl) (by kernel_rfl) (e:=Extern.MathFloatBits.float64bits) (by kernel_rfl)]
  rfl
def NumR.neg (r:NumR):NumR:=⟨!r.ng,r.ao,r.n,r.cap,r.d,r.e⟩
theorem NumR.neg_V (r:NumR):r.neg.V=-r.V:=by
  show sg (!r.ng) _*_=_
  rw [sg_not,Int.neg_mul]; rfl
theorem NumR.neg_sane {r:NumR} (h:Sane r):Sane r.neg:=h
set_option maxRecDepth 100000 in
set_option maxHeartbeats 1000000 in
theorem sub1_any (x y:NumR) (g h:Nat) (w:World) (cg:w.heap[g]?=some (.cells #[.bool x.ng,.slice x.ao x.n x.cap,.int .i64 x.e] 40 (0,0))) (ch:w.heap[h]?=some (.cells #[.bool y.ng,.slice y.ao y.n y.cap,.int .i64 y.e] 40 (0,0)))
    (hx:Row w x.ao x.n x.cap x.d) (hy:Row w y.ao y.n y.cap y.d) (sx:Sane x) (sy:Sane y) (hT:Tab w) :
    Calls Tryz.prog 166 #[.pointer (some ⟨g,0,none⟩),.pointer (some ⟨h,0,none⟩)] w (DOut w (x.V+y.V)):=by
  obtain ⟨an,ao,n,ca,a,e⟩:=x
  obtain ⟨bn,bo,m,cb,b,f⟩:=y
  simp only at cg ch hx hy
  have hb:=bel_alloc w (.cells #[.bool false,.slice none 0 0,.int .i64 0] 40)
  have g0:=heap_past (.cells #[.bool false,.slice none 0 0,.int .i64 0] 40) cg
  have g1:=heap_past (.cells #[.bool false,.slice none 0 0,.int .i64 0] 40) ch
  have k0:=blkC g0 0 rfl
  have k1:=blkC g0 1 rfl
  have k2:=blkC g0 2 rfl
  have j0:=blkC g1 0 rfl
  have j1:=blkC g1 1 rfl
  have j2:=blkC g1 2 rfl
  have hN:=fun q=>nums2 (w:=(w.alloc (.cells #[.bool false,.slice none 0 0,.int .i64 0] 40)).alloc (.cells #[.bool an,.slice ao n ca,.int .i64 e,.bool bn,.slice bo m cb,.int .i64 f] 40)) (g:=w.heap.size+1) (x:=⟨an,ao,n,ca,a,e⟩) (y:=⟨bn,bo,m,cb,b,f⟩) (t:=40) q (hx.keeps (bel_alloc2 _ _ _)) (hy.keeps (bel_alloc2 _ _ _))
  go_enter Tryz.func166,Tryz.ntmps166
  go_wp2_with fail
  refine (total_any _ _ _ _ _ (hN (heap_b2 _ _ _)) (fun i hi=>?_) (by omega) (hT.keeps (bel_alloc2 _ _ _))).mono ?_
  . match i,hi with
    | 0,_=>exact sx
    | 1,_=>exact sy
  rw [sumV2]
  rintro r w7 (⟨hok,v,rfl,hD⟩ | ⟨hno,rfl,hb7⟩)
  . have hb7:=hD.below
    obtain ⟨ng',s',m',e',rfl,hyy,hA⟩:=id hD
    obtain ⟨so,sn,sc,rfl⟩:=hA.num.shape
    have q0:=(hb7.block w.heap.size (by rw [size2]; omega)).trans (heap_a2 _ _ _)
    have x0:=blkC q0 0 rfl
    have x1:=blkC q0 1 rfl
    have x2:=blkC q0 2 rfl
    have z0:=blkF q0 0
    have z1:=blkF q0 1
    have z2:=blkF q0 2
    go_wp2
    refine bodyPost_ret (v:=.agg #[.bool ng',.slice so sn sc,.int .i64 e']) (by simp [results,Tryz.results166,go_sem,x0,x1,x2]) rfl ?_
    exact .inl ⟨hok,_,rfl,dans_res3 (g:=w.heap.size) hD (bel_alloc2 _ _ _) (Nat.le_refl _) (by rw [size2]; omega) _ _ _⟩
  . exact ⟨rfl,.inr ⟨hno,rfl,bel_trans (bel_alloc2 _ _ _) hb7⟩⟩
set_option maxRecDepth 100000 in
set_option maxHeartbeats 1000000 in
theorem dsub_ok (x y:NumR) (w:World) (hx:Row w x.ao x.n x.cap x.d) (hy:Row w y.ao y.n y.cap y.d) (ox:okR x=true) (oy:okR y=true) (hT:Tab w) :
    Calls Tryz.prog 98 #[x.v,y.v] w fun r w'=>∃ v er,r=.returned (.tuple #[v,.int .i64 er])∧DFit w w' (x.V-y.V) v er:=by
  have hmf:∀ (fn:Fn) (first cap:Array Value) (w:World),(Instr.makeFunc fn first cap).run Tryz.prog w=.ok (.func fn first cap) w:=fun _ _ _ _=>rfl
  have hE:∀ (cap:Array Value) (w:World),(callFunc 166 cap).run Tryz.prog w=.ok (.enter 166 cap) w:=by
    intro cap w
    simp [go_sem]
  have hA:=allOk2 x y
  rw [ox,oy] at hA
  have hN:=fun W q hb=>nums2 (w:=W) (g:=w.heap.size+3) (x:=x) (y:=y) (t:=40) q (hx.keeps hb) (hy.keeps hb)
  have hC:=fun W hb cg ch=>sub1_any x y.neg w.heap.size (w.heap.size+1) W cg ch (hx.keeps hb) (hy.keeps hb) (okR_sane ox) (NumR.neg_sane (okR_sane oy)) (hT.keeps hb)
  generalize pair2 x y=pr at hA hN
  rw [show x.V-y.V=x.V+y.neg.V by rw [NumR.neg_V]; omega]
  generalize x.V+y.neg.V=V at hC ⊢
  clear ox oy
  obtain ⟨an,ao,n,ca,a,e⟩:=x
  obtain ⟨bn,bo,m,cb,b,f⟩:=y
  unfold NumR.v
  unfold NumR.neg at hC
  simp only at hx hy hN hC ⊢
  go_enter Tryz.func98,Tryz.ntmps98
  go_wp2_with fail
  refine (dvalids_any _ _ _ _ _ (hN _ (h4_3 _ _ _ _ _) (bel_a4 _ _ _ _ _))).mono ?_
  rw [hA]
  rintro r w1 ⟨rfl,hb1⟩
  have hbw:=bel_trans (bel_a4 w _ _ _ _) hb1
  have g0:=(hb1.block w.heap.size (by rw [size4]; omega)).trans (h4_0 _ _ _ _ _)
  have g1:=(hb1.block (w.heap.size+1) (by rw [size4]; omega)).trans (h4_1 _ _ _ _ _)
  have g2:=(hb1.block (w.heap.size+2) (by rw [size4]; omega)).trans (h4_2 _ _ _ _ _)
  have hs4:w.heap.size+4<=w1.heap.size:=by have:=hb1.size; rw [size4] at this; exact this
  have y0:=blkC g1 0 rfl
  have y1:=blkF g1 0
  go_wp2_with fail
  have hbw':Below w.heap.size w (w1.setCell ⟨w.heap.size+1,0,none⟩ (.bool (!bn))):=hbw.setCell (p:=⟨w.heap.size+1,0,none⟩) (Nat.le_succ _) _
  have u0:=(Below.heap_setCell w1 ⟨w.heap.size+1,0,none⟩ (.bool (!bn)) w.heap.size (by show w.heap.size≠w.heap.size+1; omega)).trans g0
  have u2:=(Below.heap_setCell w1 ⟨w.heap.size+1,0,none⟩ (.bool (!bn)) (w.heap.size+2) (by show w.heap.size+2≠w.heap.size+1; omega)).trans g2
  have u1:=heap_set g1 0 (.bool (!bn))
  have us:(w1.setCell ⟨w.heap.size+1,0,none⟩ (.bool (!bn))).heap.size=w1.heap.size:=by simp [World.setCell]
  generalize w1.setCell ⟨w.heap.size+1,0,none⟩ (.bool (!bn))=w9 at hbw' u0 u1 u2 us ⊢
  clear hbw g0 g1 g2 hb1 y0 y1
  have hbw:=hbw'
  have g0:=u0
  have g1:w9.heap[w.heap.size+1]?=some (.cells #[.bool (!bn),.slice bo m cb,.int .i64 f] 40 (0,0)):=u1
  have g2:=u2
  refine (told_any (V:=V) (hE _) (fun W hW=>hC W (bel_trans hbw hW) ((hW.block _ (by omega)).trans g0) ((hW.block _ (by omega)).trans g1))).mono ?_
  rintro r w2 ⟨v,er,rfl,hF⟩
  obtain ⟨ng',so,sn,sc,e',rfl⟩:=hF.shape
  have q0:=(hF.1.block (w.heap.size+2) (by omega)).trans g2
  have x0:=blkC q0 0 rfl
  have x1:=blkC q0 1 rfl
  have x2:=blkC q0 2 rfl
  have z0:=blkF q0 0
  have z1:=blkF q0 1
  have z2:=blkF q0 2
  go_wp2
  refine bodyPost_ret (v:=.tuple #[.agg #[.bool ng',.slice so sn sc,.int .i64 e'],.int .i64 er]) (by simp [results,Tryz.results98,go_sem,x0,x1,x2]) rfl ⟨_,_,rfl,?_⟩
  exact dfit_res (g:=w.heap.size+2) hF hbw (by omega) (by omega) _ _ _
def mulV (x y:NumR):Int:=sg (x.ng != y.ng) (val x.d x.n*val y.d y.n)*pw (x.e+y.e)
theorem mulV_eq {x y:NumR} (hx:-2097152<=x.e) (hy:-2097152<=y.e):mulV x y*2^4194304=x.V*y.V:=by
  unfold mulV NumR.V
  rw [Int.mul_assoc,<- pw_mul hx hy,<- sg_mul]; grind
set_option maxRecDepth 100000 in
set_option maxHeartbeats 2000000 in
theorem dproduct_any (x y:NumR) (w:World) (hx:Row w x.ao x.n x.cap x.d) (hy:Row w y.ao y.n y.cap y.d) (sx:Sane x) (sy:Sane y) :
    Calls Tryz.prog 169 #[x.v,y.v] w fun r w'=>∃ s,r=.returned (.agg #[.bool (x.ng != y.ng),s,.int .i64 (x.e+y.e)])∧Ans w w' (val x.d x.n*val y.d y.n) s:=by
  obtain ⟨an,ao,n,ca,a,e⟩:=x
  obtain ⟨bn,bo,m,cb,b,f⟩:=y
  obtain ⟨s1,s2,s3,s4⟩:=sx
  obtain ⟨t1,t2,t3,t4⟩:=sy
  unfold NumR.v
  simp only at *
  have hw:IntKind.i64.wrap (e+f)=e+f:=by rw [wrap_i64_eq]; omega
  have hb3:=bel_a3 w (.cells #[.bool an,.slice ao n ca,.int .i64 e] 40) (.cells #[.bool bn,.slice bo m cb,.int .i64 f] 40) (.cells #[.bool false,.slice none 0 0,.int .i64 0] 40)
  have g0:=h3_0 w (.cells #[.bool an,.slice ao n ca,.int .i64 e] 40) (.cells #[.bool bn,.slice bo m cb,.int .i64 f] 40) (.cells #[.bool false,.slice none 0 0,.int .i64 0] 40)
  have g1:=h3_1 w (.cells #[.bool an,.slice ao n ca,.int .i64 e] 40) (.cells #[.bool bn,.slice bo m cb,.int .i64 f] 40) (.cells #[.bool false,.slice none 0 0,.int .i64 0] 40)
  have g2:=h3_2 w (.cells #[.bool an,.slice ao n ca,.int .i64 e] 40) (.cells #[.bool bn,.slice bo m cb,.int .i64 f] 40) (.cells #[.bool false,.slice none 0 0,.int .i64 0] 40)
  have hs3:=size3 w (.cells #[.bool an,.slice ao n ca,.int .i64 e] 40) (.cells #[.bool bn,.slice bo m cb,.int .i64 f] 40) (.cells #[.bool false,.slice none 0 0,.int .i64 0] 40)
  go_enter Tryz.func169,Tryz.ntmps169
  go_wp2_with fail
  have HX:=hx.keeps hb3
  have HY:=hy.keeps hb3
  generalize ((w.alloc (.cells #[.bool an,.slice ao n ca,.int .i64 e] 40)).alloc (.cells #[.bool bn,.slice bo m cb,.int .i64 f] 40)).alloc (.cells #[.bool false,.slice none 0 0,.int .i64 0] 40)=wx at hb3 g0 g1 g2 hs3 HX HY ⊢
  have k0:=blkC g0 0 rfl
  have k1:=blkC g0 1 rfl
  have k2:=blkC g0 2 rfl
  have j0:=blkC g1 0 rfl
  have j1:=blkC g1 1 rfl
  have j2:=blkC g1 2 rfl
  have hb1:=bel_refl wx
  have C1:∀ W,Below wx.heap.size wx W->Calls Tryz.prog 226 #[.slice ao n ca,.slice bo m cb] W fun r w'=>∃ so sn sc,r=.returned (.slice so sn sc)∧Ans W w' (val a n*val b m) (.slice so sn sc)∧Below W.heap.size W w':=fun W h=>by
    refine (product_any ao bo n m ca cb a b W (HX.keeps h) (HY.keeps h) s1.1 t1.1 (by omega) (by omega)).mono ?_
    rintro r w' ⟨v,rfl,hA⟩
    obtain ⟨so,sn,sc,rfl⟩:=hA.num.shape
    exact ⟨so,sn,sc,rfl,hA,hA.below⟩
  go_region_held3 (fun W=>(W.cell? ⟨w.heap.size,0,none⟩=some (.bool an)∧W.cell? ⟨w.heap.size,1,none⟩=some (.slice ao n ca)∧W.cell? ⟨w.heap.size,2,none⟩=some (.int .i64 e))∧W.cell? ⟨w.heap.size+1,0,none⟩=some (.bool bn)∧W.cell? ⟨w.heap.size+1,1,none⟩=some (.slice bo m cb)∧W.cell? ⟨w.heap.size+1,2,none⟩=some (.int .i64 f))
    (first | assumption | exact ⟨⟨k0,k1,k2⟩,j0,j1,j2⟩ | exact ⟨keepB (W:=wx.drew) ⟨k0,k1,k2⟩ hbv1,keepB (W:=wx.drew) ⟨j0,j1,j2⟩ hbv1⟩ | exact ⟨keepS (keepB (W:=wx.drew) ⟨k0,k1,k2⟩ hbv1) (by omega) _ _ _,keepS (keepB (W:=wx.drew) ⟨j0,j1,j2⟩ hbv1) (by omega) _ _ _⟩)
    (first | (go_at_call 226; refine (C1 _ hb1.drew).mono ?_; rintro y w3 ⟨so,sn,sc,rfl,hv,hbv1⟩; have q0:=(hbv1.block (w.heap.size+2) (by show _<wx.heap.size; omega)).trans g2; have x0:=blkC q0 0 rfl; have x1:=blkC q0 1 rfl; have x2:=blkC q0 2 rfl; have z0:=blkF q0 0; have z1:=blkF q0 1; have z2:=blkF q0 2) | fail)
  all_goals go_wp2
  all_goals
    refine bodyPost_ret (v:=.agg #[.bool (!(an == bn)),.slice so sn sc,.int .i64 (e+f)]) (by simp [results,Tryz.results169,go_sem,x0,x1,x2]) rfl ⟨_,rfl,?_⟩
    exact ans_res (g:=w.heap.size+2) (hv.from hb1.drew) hb3 (by omega) (by omega) _ _ _
set_option maxRecDepth 100000 in
set_option maxHeartbeats 1000000 in
theorem mul1_any (x y:NumR) (g h:Nat) (w:World) (cg:w.heap[g]?=some (.cells #[.bool x.ng,.slice x.ao x.n x.cap,.int .i64 x.e] 40 (0,0))) (ch:w.heap[h]?=some (.cells #[.bool y.ng,.slice y.ao y.n y.cap,.int .i64 y.e] 40 (0,0)))
    (hx:Row w x.ao x.n x.cap x.d) (hy:Row w y.ao y.n y.cap y.d) (sx:Sane x) (sy:Sane y) (hT:Tab w) :
    Calls Tryz.prog 167 #[.pointer (some ⟨g,0,none⟩),.pointer (some ⟨h,0,none⟩)] w (DOut w (mulV x y)):=by
  have hP:=fun W hb=>dproduct_any x y W (hx.keeps hb) (hy.keeps hb) sx sy
  have hV:mulV x y=sg (x.ng != y.ng) (val x.d x.n*val y.d y.n)*pw (x.e+y.e):=rfl
  have he:-4194304<=x.e+y.e:=by have:=sx.2.2.1; have:=sy.2.2.1; omega
  have hlen:val x.d x.n*val y.d y.n<P 10000:=by
    have a1:=val_lt sx.1.1
    have a2:=val_lt sy.1.1
    have b1:=val_nonneg sx.1.1
    have b2:=val_nonneg sy.1.1
    have c1:val x.d x.n*val y.d y.n<=P x.n*val y.d y.n:=Int.mul_le_mul_of_nonneg_right (by omega) b2
    have c2:P x.n*val y.d y.n<P x.n*P y.n:=Int.mul_lt_mul_of_pos_left a2 (P_pos _)
    rw [<- P_add] at c2
    have:=P_le (show x.n+y.n<=10000 by have:=sx.2.1; have:=sy.2.1; omega)
    omega
  generalize mulV x y=V at hV ⊢
  unfold NumR.v at hP
  obtain ⟨an,ao,n,ca,a,e⟩:=x
  obtain ⟨bn,bo,m,cb,b,f⟩:=y
  simp only at cg ch hx hy hP hV he hlen
  have hb:=bel_alloc w (.cells #[.bool false,.slice none 0 0,.int .i64 0] 40)
  have g0:=heap_past (.cells #[.bool false,.slice none 0 0,.int .i64 0] 40) cg
  have g1:=heap_past (.cells #[.bool false,.slice none 0 0,.int .i64 0] 40) ch
  have k0:=blkC g0 0 rfl
  have k1:=blkC g0 1 rfl
  have k2:=blkC g0 2 rfl
  have j0:=blkC g1 0 rfl
  have j1:=blkC g1 1 rfl
  have j2:=blkC g1 2 rfl
  clear sx sy
  have HV:Hid (V=sg (an != bn) (val a n*val b m)*pw (e+f)):=hV
  clear hV
  go_enter Tryz.func167,Tryz.ntmps167
  go_wp2_with fail
  refine (hP _ hb).mono ?_
  rintro r w3 ⟨s,rfl,hA⟩
  obtain ⟨so,sn,sc,d,rfl,hR,hN,hv⟩:=hA.num
  have hsn:sn<=10000:=hA.num.len hlen
  have hb3:=bel_trans hb hA.below
  go_wp2_with fail
  refine (settle_any (V:=V) hR hN.1 (by omega) (hT.keeps hb3) he (by rw [hv]; exact HV.out)).mono ?_
  rintro r w7 (⟨hok,v,rfl,hD⟩ | ⟨hno,rfl,hb7⟩)
  . have hb7:=hD.below
    obtain ⟨ng',s',m',e',rfl,hyy,hA2⟩:=id hD
    obtain ⟨so',sn',sc',rfl⟩:=hA2.num.shape
    have q0:=((bel_trans hA.below hb7).block w.heap.size (by rw [size1]; omega)).trans (heap_a1 _ _)
    have x0:=blkC q0 0 rfl
    have x1:=blkC q0 1 rfl
    have x2:=blkC q0 2 rfl
    have z0:=blkF q0 0
    have z1:=blkF q0 1
    have z2:=blkF q0 2
    go_wp2
    refine bodyPost_ret (v:=.agg #[.bool ng',.slice so' sn' sc',.int .i64 e']) (by simp [results,Tryz.results167,go_sem,x0,x1,x2]) rfl ?_
    exact .inl ⟨hok,_,rfl,dans_res3 (g:=w.heap.size) hD hb3 (Nat.le_refl _) (Nat.lt_of_lt_of_le (by rw [size1]; omega) hA.below.size) _ _ _⟩
  . exact ⟨rfl,.inr ⟨hno,rfl,bel_trans hb3 hb7⟩⟩
set_option maxRecDepth 100000 in
set_option maxHeartbeats 1000000 in
theorem dmul_ok (x y:NumR) (w:World) (hx:Row w x.ao x.n x.cap x.d) (hy:Row w y.ao y.n y.cap y.d) (ox:okR x=true) (oy:okR y=true) (hT:Tab w) :
    Calls Tryz.prog 99 #[x.v,y.v] w fun r w'=>∃ v er,r=.returned (.tuple #[v,.int .i64 er])∧DFit w w' (mulV x y) v er:=by
  have hmf:∀ (fn:Fn) (first cap:Array Value) (w:World),(Instr.makeFunc fn first cap).run Tryz.prog w=.ok (.func fn first cap) w:=fun _ _ _ _=>rfl
  have hE:∀ (cap:Array Value) (w:World),(callFunc 167 cap).run Tryz.prog w=.ok (.enter 167 cap) w:=by
    intro cap w
    simp [go_sem]
  have hA:=allOk2 x y
  rw [ox,oy] at hA
  have hN:=fun W q hb=>nums2 (w:=W) (g:=w.heap.size+3) (x:=x) (y:=y) (t:=40) q (hx.keeps hb) (hy.keeps hb)
  have hC:=fun W hb cg ch=>mul1_any x y w.heap.size (w.heap.size+1) W cg ch (hx.keeps hb) (hy.keeps hb) (okR_sane ox) (okR_sane oy) (hT.keeps hb)
  generalize pair2 x y=pr at hA hN
  generalize mulV x y=V at hC ⊢
  clear ox oy
  obtain ⟨an,ao,n,ca,a,e⟩:=x
  obtain ⟨bn,bo,m,cb,b,f⟩:=y
  unfold NumR.v
  simp only at hx hy hN hC ⊢
  go_enter Tryz.func99,Tryz.ntmps99
  go_wp2_with fail
  refine (dvalids_any _ _ _ _ _ (hN _ (h4_3 _ _ _ _ _) (bel_a4 _ _ _ _ _))).mono ?_
  rw [hA]
  rintro r w1 ⟨rfl,hb1⟩
  have hbw:=bel_trans (bel_a4 w _ _ _ _) hb1
  have g0:=(hb1.block w.heap.size (by rw [size4]; omega)).trans (h4_0 _ _ _ _ _)
  have g1:=(hb1.block (w.heap.size+1) (by rw [size4]; omega)).trans (h4_1 _ _ _ _ _)
  have g2:=(hb1.block (w.heap.size+2) (by rw [size4]; omega)).trans (h4_2 _ _ _ _ _)
  have hs4:w.heap.size+4<=w1.heap.size:=by have:=hb1.size; rw [size4] at this; exact this
  go_wp2_with fail
  refine (told_any (V:=V) (hE _) (fun W hW=>hC W (bel_trans hbw hW) ((hW.block _ (by omega)).trans g0) ((hW.block _ (by omega)).trans g1))).mono ?_
  rintro r w2 ⟨v,er,rfl,hF⟩
  obtain ⟨ng',so,sn,sc,e',rfl⟩:=hF.shape
  have q0:=(hF.1.block (w.heap.size+2) (by omega)).trans g2
  have x0:=blkC q0 0 rfl
  have x1:=blkC q0 1 rfl
  have x2:=blkC q0 2 rfl
  have z0:=blkF q0 0
  have z1:=blkF q0 1
  have z2:=blkF q0 2
  go_wp2
  refine bodyPost_ret (v:=.tuple #[.agg #[.bool ng',.slice so sn sc,.int .i64 e'],.int .i64 er]) (by simp [results,Tryz.results99,go_sem,x0,x1,x2]) rfl ⟨_,_,rfl,?_⟩
  exact dfit_res (g:=w.heap.size+2) hF hbw (by omega) (by omega) _ _ _
theorem keep66 {W w':World} {g h:Nat} {a b c d e f:Value} (hb:Below W.heap.size W w') (hS:(W.cell? ⟨g,0,none⟩=some a∧W.cell? ⟨g,1,none⟩=some b∧W.cell? ⟨g,2,none⟩=some c)∧W.cell? ⟨h,0,none⟩=some d∧W.cell? ⟨h,1,none⟩=some e∧W.cell? ⟨h,2,none⟩=some f) :
    (w'.cell? ⟨g,0,none⟩=some a∧w'.cell? ⟨g,1,none⟩=some b∧w'.cell? ⟨g,2,none⟩=some c)∧w'.cell? ⟨h,0,none⟩=some d∧w'.cell? ⟨h,1,none⟩=some e∧w'.cell? ⟨h,2,none⟩=some f :=
  ⟨keepB hS.1 hb,keepB hS.2 hb⟩
theorem DNum.open {w:World} {v:Value} {V:Int} (h:DNum w v V) (ok:Dok V):∃ x:NumR,v=x.v∧Row w x.ao x.n x.cap x.d∧okR x=true∧x.V=V:=by
  obtain ⟨ng,s,m,e,rfl,hy,ao,n,cap,d,rfl,hR,hN,rfl⟩:=h
  refine ⟨⟨ng,ao,n,cap,d,e⟩,rfl,hR,?_,hy.val.symm⟩
  obtain ⟨o1,o2,o3⟩:=hy.ok.1 ok
  refine decide_eq_true ?_
  by_cases h0:n=0
  . left
    have hz:val d n=0:=by rw [h0]; rfl
    rcases hy.form with ⟨_,f2,f3⟩ | ⟨f1,_⟩
    . exact ⟨h0,f2,f3⟩
    . omega
  . right
    have hp:=val_pos hN (show 0<n by omega)
    rcases hy.form with ⟨f1,_⟩ | ⟨_,f2⟩
    . omega
    . refine ⟨by show 0<n; omega,⟨?_,hN⟩,?_,o2,o3⟩
      . exact Num.len (w:=w) (ao:=ao) (cap:=cap) ⟨_,_,_,_,rfl,hR,hN,rfl⟩ o1
      . obtain ⟨k,hk⟩:∃ k,n=1+k:=⟨n-1,by omega⟩
        have:=val_split d 1 k
        rw [<- hk] at this
        rw [this,show val d 1=d 0 by show 0+d 0*1=_; omega,show P 1=1073741824 from rfl] at f2
        show d 0 % 2=1
        omega
theorem DFit.yes {w w':World} {V er:Int} {v:Value} (h:DFit w w' V v er) (ok:Dok V):er=0∧DAns w w' V v:=by
  rcases h.2 with ⟨_,h1,h2⟩ | ⟨hn,_⟩
  . exact ⟨h1,h2⟩
  . exact absurd ok hn
theorem add_D {w:World} {x y:Value} {A B:Int} (hx:DNum w x A) (hy:DNum w y B) (oA:Dok A) (oB:Dok B) (hT:Tab w) :
    Calls Tryz.prog 97 #[x,y] w fun r w'=>∃ v er,r=.returned (.tuple #[v,.int .i64 er])∧DFit w w' (A+B) v er:=by
  obtain ⟨x,rfl,hR,ok,rfl⟩:=hx.open oA
  obtain ⟨y,rfl,hR',ok',rfl⟩:=hy.open oB
  exact dadd_ok x y w hR hR' ok ok' hT
theorem sub_D {w:World} {x y:Value} {A B:Int} (hx:DNum w x A) (hy:DNum w y B) (oA:Dok A) (oB:Dok B) (hT:Tab w) :
    Calls Tryz.prog 98 #[x,y] w fun r w'=>∃ v er,r=.returned (.tuple #[v,.int .i64 er])∧DFit w w' (A-B) v er:=by
  obtain ⟨x,rfl,hR,ok,rfl⟩:=hx.open oA
  obtain ⟨y,rfl,hR',ok',rfl⟩:=hy.open oB
  exact dsub_ok x y w hR hR' ok ok' hT
theorem mul_D {w:World} {x y:Value} {A B:Int} (hx:DNum w x A) (hy:DNum w y B) (oA:Dok A) (oB:Dok B) (hT:Tab w) :
    Calls Tryz.prog 99 #[x,y] w fun r w'=>∃ v er C,r=.returned (.tuple #[v,.int .i64 er])∧C*2^4194304=A*B∧DFit w w' C v er:=by
  obtain ⟨x,rfl,hR,ok,rfl⟩:=hx.open oA
  obtain ⟨y,rfl,hR',ok',rfl⟩:=hy.open oB
  refine (dmul_ok x y w hR hR' ok ok' hT).mono ?_
  rintro r w' ⟨v,er,rfl,hF⟩
  exact ⟨v,er,_,rfl,mulV_eq (by have:=(okR_sane ok).2.2.1; omega) (by have:=(okR_sane ok').2.2.1; omega),hF⟩
set_option maxHeartbeats 1000000 in
theorem rshl_qp (ao:Option Addr) (n ca q p:Nat) (a:Nat->Int) (w:World) (ha:Row w ao n ca a) (da:Dig a n) (hn:n<=100000) (hq:q<=100000) (hp:p<30) (k:Int) (hk:k=30*q+p) :
    Calls Tryz.prog 204 #[.slice ao n ca,.int .i64 k] w fun e w'=>∃ v,e=.returned v∧Ans w w' (P q*(2^p*val a n)) v:=by
  have hla:=ha.le
  have hma:=ha.max
  have e1:k/30=q:=by omega
  have e2:k % 30=p:=by omega
  have hk0:0<=k:=by omega
  clear hk
  have hu:=two_pos p
  have hu2:(2:Int)^p<=2^29:=two_le (by omega)
  by_cases hn0:n=0
  . subst hn0
    have H0:Hid (P q*(2^p*val a 0)=0):=by show _=_; simp [val]
    go_enter Tryz.func204,Tryz.ntmps204
    go_wp2
    go_ret
    exact ⟨_,rfl,by rw [H0.out]; exact Ans.nil (bel_refl _)⟩
  . have en:((n:Int) == 0)=false:=by simp; omega
    go_enter Tryz.func204,Tryz.ntmps204
    go_wp2_with (at_make; refine wpList_mk rfl _ _ rfl _ _ q rfl rfl (by omega) (by omega) (by omega) ?_; intro w1 hB1 hb1)
    rw [e2]
    go_loopw [5,7,8] (fun l c i wr=>∃ (k:Nat) (c':Int) (r:Nat->Int),k<=n∧i=.int .i64 k∧c=.int .i64 c'∧0<=c'∧c'<2^p∧Out w.heap.size wr l (q+k) r∧Dig r (q+k)∧Hid (∀ i,i<q->r i=0)∧Hid (val (fun i=>r (q+i)) k+c'*P k=2^p*val a k)∧Below w.heap.size w wr) (fun _ _ i _=>n-(intOf i).toNat)
    case atStart=>exact ⟨0,0,fun _=>0,Nat.zero_le _,rfl,rfl,by omega,hu,hB1.out (Nat.le_refl _) (Nat.le_refl _) (by omega),zero_dig _,fun _ _=>rfl,by show _=_; show (0:Int)+0*1=2^p*0; omega,hb1⟩
    case round=>
      obtain ⟨k,c,r,hk,rfl,rfl,hc0,hc1,hO,hD,HZ,HV,hbw⟩:=hrel
      by_cases hlt:k<n
      . obtain ⟨ba,fa,rfl,hba,hca⟩:=ha.spot (by omega)
        have c1:=(hbw.cell (p:=⟨ba,fa+k,none⟩) hba).trans (hca k hlt)
        have dk:=da k hlt
        obtain ⟨s0,s1,s2⟩:=shl_dig dk (show p<=30 by omega)
        have hc2:(a k*2^p+c)/1073741824<2^p:=by omega
        go_wp2_with (at_builtin; refine wpList_app rfl _ _ rfl w.heap.size _ (q+k) r rfl (hO.stays (bel_alloc _ _)) _ 1 1 (fun _=>(a k*2^p+c) % 1073741824) rfl (row1 _ _ rfl) (by omega) (by have:=hbw.size; simp; omega) ?_; intro v' w1 hO1 hg1)
        have hb1:Below w.heap.size w w1:=(hbw.alloc hbw.size _).grown hg1 (by have:=hbw.size; simp; omega) (own_ge hO)
        have hs:=sum_step (x:=a k*2^p) HV.out
        rw [Int.add_comm c] at hs
        go_roundw
        case rel=>exact ⟨k+1,(a k*2^p+c)/1073741824,upd r (q+k) ((a k*2^p+c) % 1073741824),by omega,by go_num,rfl,by omega,hc2,hO1.congr (cat_upd r (q+k) _),dig_upd2 hD (mod_dig _),fun i hi=>by rw [upd_other r _ (by omega)]; exact HZ.out i hi,by show _=_; rw [upd_shift,hs,val_succ]; grind,hb1⟩
        case measure=>simp [intOf]; omega
      . obtain rfl:k=n:=by omega
        go_wp2_with (at_builtin; refine wpList_app rfl _ _ rfl w.heap.size _ (q+k) r rfl (hO.stays (bel_alloc _ _)) _ 1 1 (fun _=>c) rfl (row1 _ _ rfl) (by omega) (by have:=hbw.size; simp; omega) ?_; intro v' w1 hO1 hg1)
        have hb1:Below w.heap.size w w1:=(hbw.alloc hbw.size _).grown hg1 (by have:=hbw.size; simp; omega) (own_ge hO)
        have D2:Dig (upd r (q+k) c) (q+k+1):=dig_upd2 hD ⟨hc0,by omega⟩
        refine (rtrim_ans (hO1.congr (cat_upd r (q+k) c)) D2 hb1).mono ?_
        rintro e w3 ⟨v',rfl,hA,rfl⟩
        go_wp2
        go_ret
        refine ⟨_,rfl,?_⟩
        rw [Nat.add_assoc,val_shift0 _ _ _ (fun i hi=>by rw [upd_other r _ (by omega)]; exact HZ.out i hi),upd_shift,val_succ,upd_same,val_upd_ge _ _ (Nat.le_refl _),HV.out] at hA
        exact hA
theorem rshl_any (ao:Option Addr) (n ca k:Nat) (a:Nat->Int) (w:World) (ha:Row w ao n ca a) (da:Dig a n) (hn:n<=100000) (hk:k<=2000000) :
    Calls Tryz.prog 204 #[.slice ao n ca,.int .i64 k] w fun e w'=>∃ v,e=.returned v∧Ans w w' (val a n*2^k) v:=by
  refine (rshl_qp ao n ca (k/30) (k % 30) a w ha da hn (by omega) (by omega) k (by omega)).mono ?_
  rintro e w' ⟨v,he,h⟩
  refine ⟨v,he,?_⟩
  rw [two_split k]
  rwa [show val a n*(P (k/30)*2^(k % 30))=P (k/30)*(2^(k % 30)*val a n) by grind]
set_option maxRecDepth 100000 in
set_option maxHeartbeats 1000000 in
theorem rshr_qp (ao:Option Addr) (n ca q p:Nat) (a:Nat->Int) (w:World) (ha:Row w ao n ca a) (da:Dig a n) (hn:n<=100000) (hp:p<30) (k:Int) (hk:k=30*q+p) (hkm:k<=4000000) :
    Calls Tryz.prog 260 #[.slice ao n ca,.int .i64 k] w fun e w'=>∃ v,e=.returned v∧Ans w w' (val a n/P q/2^p) v:=by
  have hla:=ha.le
  have hma:=ha.max
  have e1:k/30=q:=by omega
  have e2:k % 30=p:=by omega
  have hk0:0<=k:=by omega
  have hq1:q<=200000:=by omega
  clear hk
  have hu:=two_pos p
  have hu2:(2:Int)^p<=2^29:=two_le (by omega)
  have huv:(2:Int)^p*2^(30-p)=1073741824:=by rw [<- Int.pow_add,show p+(30-p)=30 by omega]; rfl
  have HU:Hid ((2:Int)^p*2^(30-p)=1073741824):=huv
  have hdv:(1073741824:Int)/2^p=2^(30-p):=by rw [<- huv]; exact Int.mul_ediv_cancel_left _ (by omega)
  have hz:((2:Int)^p == 0)=false:=by simp; omega
  clear huv
  by_cases hqn:n<=q
  . have H0:Hid (val a n/P q/2^p=0):=by
      show _=_
      rw [Int.ediv_eq_zero_of_lt (val_nonneg da) (by have:=val_lt da; have:=P_le hqn; omega)]; exact Int.zero_ediv _
    go_enter Tryz.func260,Tryz.ntmps260
    go_wp2
    go_ret
    exact ⟨_,rfl,by rw [H0.out]; exact Ans.nil (bel_refl _)⟩
  . obtain ⟨ba,fa,rfl,hba,hca⟩:=ha.spot (by omega)
    obtain ⟨N,hN⟩:∃ N,n=q+N:=⟨n-q,by omega⟩
    have HN:Hid (n=q+N):=hN
    have hn1:q+N<=n:=by omega
    have hn2:n<=q+N:=by omega
    have hN0:0<N:=by omega
    clear hN
    go_enter Tryz.func260,Tryz.ntmps260
    go_wp2
    rw [e1,e2]
    go_loopw [5,7] (fun l i wr=>∃ (k:Nat) (r:Nat->Int),k<=N∧i=.int .i64 ((q:Int)+k)∧Out w.heap.size wr l k r∧Hid (∀ i,i<k->r i=low (fun j=>ext a n (q+j)) (2^p) (2^(30-p)) i)∧Below w.heap.size w wr) (fun _ i _=>n-(intOf i).toNat)
    case atStart=>exact ⟨0,fun _=>0,Nat.zero_le _,by simp,Out.nil _ _ _,fun i hi=>by omega,bel_refl _⟩
    case round=>
      obtain ⟨k,r,hk,rfl,hO,HV,hbw⟩:=hrel
      by_cases hlt:k<N
      . have c1:=(hbw.cell (p:=⟨ba,fa+(q+k),none⟩) hba).trans (hca (q+k) (by omega))
        have dx:=da (q+k) (by omega)
        by_cases hl2:q+k+1<n
        . have dy:=da (q+k+1) (by omega)
          obtain ⟨s0,s1,s2,s3,s4⟩:=shr_part dx dy hp
          have s5:0<=a (q+k+1) % 2^p*2^(30-p):=Int.mul_nonneg s3 (Int.le_of_lt (two_pos _))
          have s6:(2:Int)^(30-p)<=2^30:=two_le (by omega)
          have c2:=(hbw.cell (p:=⟨ba,fa+(q+k+1),none⟩) hba).trans (hca (q+k+1) (by omega))
          clear s2
          go_wp2
          go_quiet (fail)
          go_wp2_with (at_builtin; refine wpList_app rfl _ _ rfl w.heap.size _ k r rfl ((hO.stays (bDrewN (bel_refl _) _)).stays (bel_alloc _ _)) _ 1 1 (fun _=>(a (q+k)/2^p+a (q+k+1) % 2^p*2^(30-p))) rfl (row1 _ _ rfl) (by omega) (by have:=hbw.size; simp [World.drewN]; omega) ?_; intro v' w1 hO1 hg1)
          have hb1:Below w.heap.size w w1:=((bDrewN hbw _).alloc hbw.size _).grown hg1 (by have:=hbw.size; simp [World.drewN]; omega) (own_ge hO)
          go_roundw
          case rel=>exact ⟨k+1,upd r k (a (q+k)/2^p+a (q+k+1) % 2^p*2^(30-p)),by omega,by go_num,hO1.congr (cat_upd r k _),fun i hi=>by
              by_cases e:i=k
              . rw [e,upd_same]
                show _=ext a n (q+k)/2^p+ext a n (q+(k+1)) % 2^p*2^(30-p)
                rw [ext_lt a (by omega),ext_lt a (by omega),Nat.add_assoc]
              . rw [upd_other _ _ e]; exact HV.out i (by omega),hb1⟩
          case measure=>simp [intOf]; omega
        . obtain ⟨s0,s1,_,_,_⟩:=shr_part dx dx hp
          have s6:(2:Int)^(30-p)<=2^30:=two_le (by omega)
          go_wp2_with (at_builtin; refine wpList_app rfl _ _ rfl w.heap.size _ k r rfl (hO.stays (bel_alloc _ _)) _ 1 1 (fun _=>(a (q+k)/2^p)) rfl (row1 _ _ rfl) (by omega) (by have:=hbw.size; simp; omega) ?_; intro v' w1 hO1 hg1)
          have hb1:Below w.heap.size w w1:=(hbw.alloc hbw.size _).grown hg1 (by have:=hbw.size; simp; omega) (own_ge hO)
          go_roundw
          case rel=>exact ⟨k+1,upd r k (a (q+k)/2^p),by omega,by go_num,hO1.congr (cat_upd r k _),fun i hi=>by
              by_cases e:i=k
              . rw [e,upd_same,low_last (s:=fun j=>ext a n (q+j)) (ext_ge a (by omega)),ext_lt a (by omega)]
              . rw [upd_other r _ e]; exact HV.out i (by omega),hb1⟩
          case measure=>simp [intOf]; omega
      . obtain rfl:k=N:=by omega
        have DS:Dig (fun j=>ext a n (q+j)) (k+1):=fun i hi=>ext_dig da (q+k+1) (q+i) (by omega)
        have D2:Dig r k:=(low_dig hu HU.out DS).congr fun i hi=>(HV.out i hi).symm
        have HD2:Hid (Dig r k):=D2
        clear D2 DS
        go_wp2_with fail
        refine (rtrim_ans hO HD2.out hbw).mono ?_
        rintro e w3 ⟨v',rfl,hA,rfl⟩
        go_wp2
        go_ret
        refine ⟨_,rfl,?_⟩
        rw [val_congr HV.out,low_eq (s:=fun j=>ext a n (q+j)) hu HU.out (ext_ge a (by omega))] at hA
        have e3:=val_drop a (show q<=n by omega) da
        rw [<- e3,show n-q=k by omega]
        rw [show val (fun j=>ext a n (q+j)) k=val (fun i=>a (q+i)) k from val_congr fun i hi=>ext_lt a (by omega)] at hA
        exact hA
theorem rshr_any (ao:Option Addr) (n ca k:Nat) (a:Nat->Int) (w:World) (ha:Row w ao n ca a) (da:Dig a n) (hn:n<=100000) (hk:k<=4000000) :
    Calls Tryz.prog 260 #[.slice ao n ca,.int .i64 k] w fun e w'=>∃ v,e=.returned v∧Ans w w' (val a n/2^k) v:=by
  refine (rshr_qp ao n ca (k/30) (k % 30) a w ha da hn (by omega) k (by omega) (by omega)).mono ?_
  rintro e w' ⟨v,he,h⟩
  refine ⟨v,he,?_⟩
  rw [two_split k,<- Int.ediv_ediv_of_nonneg (Int.le_of_lt (P_pos _))]
  exact h
def updV {α:Type} (v:Nat->α) (i:Nat) (x:α):Nat->α:=fun j=>if j=i then x else v j
theorem updV_same {α:Type} (v:Nat->α) (i:Nat) (x:α):updV v i x i=x:=by simp [updV]
theorem updV_other {α:Type} (v:Nat->α) {i j:Nat} (x:α) (h:j≠i):updV v i x j=v j:=by simp [updV,h]
def valsV (v:Nat->Value) (m:Nat):List Value:=(List.range m).map v
def OutV (B:Nat) (w:World) (x:Value) (m:Nat) (v:Nat->Value):Prop:=w.ownsRow B 38 1 x m (valsV v m)
theorem OutV.shape {B:Nat} {w:World} {x:Value} {m:Nat} {v:Nat->Value} (h:OutV B w x m v):∃ xo xc,x=.slice xo m xc∧m<=xc∧xc<=9223372036854775807∧(0<m->∃ g,xo=some ⟨g,0,none⟩):=by
  rcases h.2 with ⟨rfl,rfl⟩ | ⟨g,cap,cur,rfl,hb,hg,hn,hm,_⟩
  . exact ⟨none,0,rfl,Nat.le_refl _,by decide,fun h=>by omega⟩
  . exact ⟨_,cap,rfl,hn,by unfold maxLen at hm; exact hm,fun _=>⟨g,rfl⟩⟩
theorem OutV.of_block {B:Nat} {w w':World} {x:Value} {m:Nat} {v:Nat->Value} (h:OutV B w x m v) (hb:∀ g,x.ownBlock=some g->w'.heap[g]?=w.heap[g]?):OutV B w' x m v:=by
  refine ⟨h.1,?_⟩
  rcases h.2 with hn | ⟨g,cap,cur,rfl,hbb,hg,rest⟩
  . exact .inl hn
  . exact .inr ⟨g,cap,cur,rfl,hbb,(hb g rfl).trans hg,rest⟩
theorem Out.of_block {B:Nat} {w w':World} {x:Value} {n:Nat} {d:Nat->Int} (h:Out B w x n d) (hb:∀ g,x.ownBlock=some g->w'.heap[g]?=w.heap[g]?):Out B w' x n d:=by
  refine ⟨h.1,?_⟩
  rcases h.2 with hn | ⟨g,cap,cur,rfl,hbb,hg,rest⟩
  . exact .inl hn
  . exact .inr ⟨g,cap,cur,rfl,hbb,(hb g rfl).trans hg,rest⟩
theorem Out.typed {B:Nat} {w:World} {x:Value} {n:Nat} {d:Nat->Int} (h:Out B w x n d) {g:Nat} (hg:x.ownBlock=some g):∃ cur z,w.heap[g]?=some (.cells cur 3 z):=by
  rcases h.2 with ⟨rfl,_⟩ | ⟨g',cap,cur,rfl,hbb,hg',rest⟩
  . simp [Value.ownBlock] at hg
  . simp only [Value.ownBlock,Option.some.injEq] at hg; subst hg; exact ⟨cur,_,hg'⟩
theorem OutV.typed {B:Nat} {w:World} {x:Value} {n:Nat} {v:Nat->Value} (h:OutV B w x n v) {g:Nat} (hg:x.ownBlock=some g):∃ cur z,w.heap[g]?=some (.cells cur 38 z):=by
  rcases h.2 with ⟨rfl,_⟩ | ⟨g',cap,cur,rfl,hbb,hg',rest⟩
  . simp [Value.ownBlock] at hg
  . simp only [Value.ownBlock,Option.some.injEq] at hg; subst hg; exact ⟨cur,_,hg'⟩
theorem OutV.ge {B:Nat} {w:World} {x:Value} {n:Nat} {v:Nat->Value} (h:OutV B w x n v) {g:Nat} (hg:x.ownBlock=some g):B<=g∧g<w.heap.size:=by
  rcases h.2 with ⟨rfl,_⟩ | ⟨g',cap,cur,rfl,hbb,hg',rest⟩
  . simp [Value.ownBlock] at hg
  . simp only [Value.ownBlock,Option.some.injEq] at hg; subst hg; exact ⟨hbb,(Array.getElem?_eq_some_iff.1 hg').1⟩
theorem Out.ge {B:Nat} {w:World} {x:Value} {n:Nat} {v:Nat->Int} (h:Out B w x n v) {g:Nat} (hg:x.ownBlock=some g):B<=g∧g<w.heap.size:=by
  rcases h.2 with ⟨rfl,_⟩ | ⟨g',cap,cur,rfl,hbb,hg',rest⟩
  . simp [Value.ownBlock] at hg
  . simp only [Value.ownBlock,Option.some.injEq] at hg; subst hg; exact ⟨hbb,(Array.getElem?_eq_some_iff.1 hg').1⟩
theorem OutV.alloc {B:Nat} {w:World} {x:Value} {m:Nat} {v:Nat->Value} (h:OutV B w x m v) (o:Obj):OutV B (w.alloc o) x m v:=h.of_block fun g hg=>Below.heap_alloc _ _ _ (h.ge hg).2
end Go.Proofs.YtjjihmnbdeeedaaGreatDoor
