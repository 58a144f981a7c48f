/-
  Parts of the proof, one behind another.
-/
import Derived.Test.YtafnigjehkpggaaGreatDoorPart5
import Derived.Test.YtafnigjehkpggaaGreatDoorPart3
import Derived.Test.YtafnigjehkpggaaGreatDoorPart4
import Derived.Deep.LoopGhost
import Derived.Deep.RegionWith
import Derived.Laws.Externs
import Derived.Laws.Cover2
import Derived.Test.YtafnigjehkpggaaGreatDoorPart1
namespace Go.Proofs.YtafnigjehkpggaaGreatDoor
open Go Go.RowKit Go.Proofs.YtafnigjehkpggaaGreatDoor.M
set_option linter.unusedSimpArgs false
set_option linter.unusedVariables false
def NumR.V (r:NumR):Int:=sg r.ng (val r.d r.n) * pw r.e
def pair2 (x y:NumR):Nat->NumR:=fun i=>if i=0 then x else y
theorem nums2 {w:World} {g:Nat} {x y:NumR} {t:TypeId} (h:w.heap[g]?=some (.cells #[.bool x.ng,.slice x.ao x.n x.cap,.int .i64 x.e,.bool y.ng,.slice y.ao y.n y.cap,.int .i64 y.e] t (0,0))) (hx:Row w x.ao x.n x.cap x.d) (hy:Row w y.ao y.n y.cap y.d) :
    Nums w (some ⟨g,0,none⟩) 2 2 (pair2 x y) :=
  ⟨Nat.le_refl _,by decide,fun _=>⟨g,0,rfl,(Array.getElem?_eq_some_iff.1 h).1,fun i hi=>by
    match i,hi with
    | 0,_=>exact ⟨blkC h 0 rfl,blkC h 1 rfl,blkC h 2 rfl,hx⟩
    | 1,_=>exact ⟨blkC h 3 rfl,blkC h 4 rfl,blkC h 5 rfl,hy⟩⟩⟩
theorem allOk2 (x y:NumR):allOk (pair2 x y) 2=(okR x && okR y):=by
  unfold allOk
  by_cases hx:okR x=true
  . by_cases hy:okR y=true
    . rw [hx,hy]
      exact decide_eq_true fun i hi=>by
        match i,hi with
        | 0,_=>exact hx
        | 1,_=>exact hy
    . have:okR y=false:=by simpa using hy
      rw [hx,this]
      exact decide_eq_false fun h=>hy (h 1 (by omega))
  . have:okR x=false:=by simpa using hx
    rw [this,Bool.false_and]
    exact decide_eq_false fun h=>hx (h 0 (by omega))
theorem sumV2 (x y:NumR):sumV (pair2 x y) 2=x.V + y.V:=by
  show 0 + x.V + y.V=_
  rw [Int.zero_add]
theorem okR_sane {x:NumR} (h:okR x=true):Sane x:=by
  rcases of_decide_eq_true h with ⟨h1,h2,h3⟩ | ⟨h1,⟨h2,h3⟩,h4,h5,h6⟩
  . exact ⟨⟨fun i hi=>by omega,.inl h1⟩,by omega,by omega,by omega⟩
  . exact ⟨h3,by omega,by omega,by omega⟩
theorem okR_dy {x:NumR} (h:okR x=true):Dy x.V x.ng (val x.d x.n) x.e∧val x.d x.n < P 2000∧Dok x.V:=by
  have hd:Dy x.V x.ng (val x.d x.n) x.e∧val x.d x.n < P 2000∧-1048576 <= x.e∧x.e <= 1048576:=by
    rcases of_decide_eq_true h with ⟨h1,h2,h3⟩ | ⟨h1,⟨h2,h3⟩,h4,h5,h6⟩
    . exact ⟨⟨rfl,by omega,.inl ⟨by rw [h1]; rfl,h2,h3⟩⟩,by rw [h1]; show (0:Int) < P 2000; exact P_pos 2000,by omega,by omega⟩
    . refine ⟨⟨rfl,by omega,.inr ⟨val_pos h3 h1,?_⟩⟩,?_,h5,h6⟩
      . obtain ⟨m,hm⟩:∃ m,x.n=m + 1:=⟨x.n - 1,by omega⟩
        have:=val_split x.d 1 m
        rw [show 1 + m=x.n by omega] at this
        rw [this]
        rw [show val x.d 1=x.d 0 by show 0 + x.d 0 * 1=_; omega,show P 1=1073741824 from rfl]
        omega
      . exact Int.lt_of_lt_of_le (val_lt h3.1) (P_le h2)
  exact ⟨hd.1,hd.2.1,hd.1.ok.2 hd.2⟩
theorem bel_set3 {w w1:World} (h:Below w.heap.size w w1) {g:Nat} (hg:w.heap.size <= g) (a b c:Value):Below w.heap.size w (((w1.setCell ⟨g,0,none⟩ a).setCell ⟨g,1,none⟩ b).setCell ⟨g,2,none⟩ c) :=
  ((h.setCell (p:=⟨g,0,none⟩) hg a).setCell (p:=⟨g,1,none⟩) hg b).setCell (p:=⟨g,2,none⟩) hg c
theorem heap_set {w:World} {g:Nat} {xs:Array Value} {t:TypeId} (h:w.heap[g]?=some (.cells xs t (0,0))) (i:Nat) (v:Value):(w.setCell ⟨g,i,none⟩ v).heap[g]?=some (.cells (xs.setIfInBounds i v) t (0,0)):=by
  simp [World.setCell,Array.getElem?_modify,h]
theorem bitsClass (b:Int) (w:World) (L:Lays w) :
    Calls Tryz.prog 142 #[.int .i64 b] w fun e w'=>e=.returned (.int .i64 (cls b))∧Gr w w':=by
  obtain ⟨a0,a1,a2,b0,b1,b2⟩:=L
  go_enter Tryz.func142,Tryz.ntmps142
  go_wp2_with (go_at_call 162; refine (class64 _ _).mono ?_; rintro e w1 ⟨rfl,hg⟩)
  go_ret
  exact ⟨rfl,hg⟩
theorem bitsNeg (b:Int) (w:World) (L:Lays w) (hb:rng b) :
    Calls Tryz.prog 113 #[.int .i64 b] w fun e w'=>e=.returned (.int .i64 (neg b))∧Gr w w':=by
  unfold rng at hb
  by_cases h:cls b=4
  all_goals
    go_enter Tryz.func113,Tryz.ntmps113
    go_wp2_with (go_at_call 142; refine (bitsClass _ _ L).mono ?_; rintro e w1 ⟨rfl,hg⟩)
    go_ret
    exact ⟨b_ret_int (by first | (simp [neg,h]; done) | (rw [xor_i64_sign _ hb.1 hb.2]; simp [neg,h])),hg⟩
theorem bitsCanon (b:Int) (w:World) (L:Lays w) :
    Calls Tryz.prog 117 #[.int .i64 b] w fun e w'=>e=.returned (.int .i64 (canon b))∧Gr w w':=by
  by_cases h:cls b=4 <;> by_cases h0:cls b=0
  all_goals first
    | (exfalso; omega)
    | (go_enter Tryz.func117,Tryz.ntmps117
       go_wp2_with (go_at_call 142; refine (bitsClass _ _ L).mono ?_; rintro e w1 ⟨rfl,hg⟩)
       go_ret
       exact ⟨b_ret_int (by simp [canon,h,h0]),hg⟩)
theorem val_mono {d:Nat->Int} {n m:Nat} (h:Dig d n) (hm:m <= n):val d m <= val d n:=by
  have e:=val_split d m (n - m)
  rw [show m + (n - m)=n by omega] at e
  have a:=val_nonneg (show Dig (fun i=>d (m + i)) (n - m) from fun i hi=>h (m + i) (by omega))
  have:=Int.mul_nonneg (Int.le_of_lt (P_pos m)) a
  omega
set_option maxHeartbeats 400000 in
theorem small_any (ao:Option Addr) (n cap:Nat) (d:Nat->Int) (w:World) (h:Row w ao n cap d) (hd:Dig d n) (hn:n <= 3) (hv:val d n < 9223372036854775808) :
    Calls Tryz.prog 176 #[.slice ao n cap] w fun e w'=>e=.returned (.int .i64 (val d n))∧w'=w:=by
  have hl:=h.le
  have hm:=h.max
  have HV:Hid (val d n < 9223372036854775808):=hv
  clear hv
  go_enter Tryz.func176,Tryz.ntmps176
  go_wp2
  go_loop [3,7] (fun v i=>∃ k:Nat,k <= n∧i=.int .i64 k∧v=.int .i64 (val d k)) (fun _ i=>n - (intOf i).toNat)
  case atStart=>exact ⟨0,Nat.zero_le _,rfl,rfl⟩
  case round=>
    obtain ⟨k,hk,rfl,rfl⟩:=hrel
    by_cases hlt:k < n
    . obtain ⟨b,off,rfl,hb,hc⟩:=h.spot (by omega)
      have c:=hc k hlt
      have dk:=hd k hlt
      have v0:=val_nonneg (hd.le (show k <= n by omega))
      have v1:=val_lt (hd.le (show k <= n by omega))
      have m1:=val_mono hd (show k + 1 <= n by omega)
      have hv2:=HV.out
      rw [P_two] at v1
      have e1:val d (k + 1)=val d k + d k * 2 ^ (30 * k):=by rw [val_succ,P_two]
      have m0:0 <= d k * 2 ^ (30 * k):=Int.mul_nonneg dk.1 (Int.le_of_lt (two_pos _))
      have hw:wrap64 (d k * 2 ^ (30 * k))=d k * 2 ^ (30 * k):=IntWalk.wrap64_in _ ⟨by omega,by omega⟩
      have hor:bits .or .i64 (val d k) (d k * 2 ^ (30 * k))=val d (k + 1):=(or_add _ _ _ v0 v1 dk.1 (by omega)).trans e1.symm
      clear e1 m0 m1 hv2 v0 v1
      go_wp2
      go_round
      case rel=>exact ⟨k + 1,by omega,by go_num,rfl⟩
      case measure=>simp [intOf]; omega
    . obtain rfl:k=n:=by omega
      go_wp2
      go_ret
      exact ⟨rfl,rfl⟩
structure Lay64 (w:World):Prop where
  a0:w.cell? ⟨1,0,none⟩=some (.int .i64 52)
  a1:w.cell? ⟨1,1,none⟩=some (.int .i64 2047)
  a2:w.cell? ⟨1,2,none⟩=some (.int .i64 (-1074))
theorem Lay64.keeps {w w':World} (h:Lay64 w) (hb:Below w.heap.size w w'):Lay64 w':=⟨cell_keeps h.a0 hb,cell_keeps h.a1 hb,cell_keeps h.a2 hb⟩
theorem bitsPartsA (b:Int) (w:World) (L:Lay64 w) :
    Calls Tryz.prog 85 #[.int .i64 b] w fun e w'=>e=.returned (.tuple #[.bool (pneg b),.int .i64 (pmag b),.int .i64 (pexp b),.bool (pok b)])∧Below w.heap.size w w':=by
  obtain ⟨a0,a1,a2⟩:=L
  by_cases h:pok b=true
  all_goals
    go_enter Tryz.func85,Tryz.ntmps85
    go_wp2_with (go_at_call 121; refine (parts64 _ _).mono ?_; rintro e w1 ⟨rfl,hg⟩)
    refine bodyPost_ret (v:=.tuple #[.bool (pneg b),.int .i64 (pmag b),.int .i64 (pexp b),.bool (pok b)]) (by simp [results,Tryz.results85,go_sem,pneg,h]) rfl ⟨rfl,hg.be⟩
theorem pmag_in {b:Int} (hp:pok b=true):0 <= pmag b∧pmag b < 9007199254740992∧-1074 <= pexp b∧pexp b <= 971:=by
  have hf:=fld_le b
  have hr:=frc_le b
  have h1:fld b ≠ 2047:=by simpa [pok] using hp
  unfold pmag pexp
  rw [if_neg h1,if_neg h1]
  split <;> omega
theorem ofNat_any (x:Int) (w:World) (h0:0 <= x) (h1:x < 9223372036854775808) :
    Calls Tryz.prog 124 #[.int .i64 x] w fun e w'=>∃ v,e=.returned (.tuple #[v,.int .i64 0])∧Ans w w' x v:=by
  have HX:=digits_nat x w h0 h1
  have HX':Hid (Calls Tryz.prog 151 #[.int .i64 x] w fun e w'=>∃ v,e=.returned v∧Ans w w' x v):=HX
  clear HX h1
  go_enter Tryz.func124,Tryz.ntmps124
  go_wp2_with fail
  refine HX'.out.mono ?_
  rintro e w2 ⟨v,rfl,hA⟩
  go_wp2
  go_ret2
  exact ⟨_,rfl,hA⟩
theorem P2000_big2:9223372036854775808 < P 2000:=by
  have:=P_le (show 3 <= 2000 by omega)
  have e:P 3=1237940039285380274899124224:=rfl
  omega
theorem dok_small {ng:Bool} {M e:Int} (h0:0 <= M) (h1:M < 9223372036854775808) (e0:-1074 <= e) (e1:e <= 971):Dok (sg ng M * pw e):=by
  by_cases hz:M=0
  . rw [hz,sg_zero,Int.zero_mul]; exact dok_zero
  . obtain ⟨l,hl⟩:=isLow_ex (show 0 < M by omega)
    have hy:=Dy.of ng hl (show 0 < M by omega) (show -4194304 <= e by omega)
    obtain ⟨c1,c2,c3⟩:=isLow_odd hl (show 0 < M by omega)
    have hp:=two_pos l
    have hl63:l < 63:=by
      have h3:(1:Int) * 2 ^ l <= M / 2 ^ l * 2 ^ l:=Int.mul_le_mul_of_nonneg_right (by omega) (by omega)
      rw [c3] at h3
      refine two_lt_iff ?_
      rw [show (2:Int) ^ 63=9223372036854775808 by decide]
      omega
    refine hy.ok.2 ⟨?_,by omega,by omega⟩
    have:M / 2 ^ l <= M:=Int.ediv_le_self _ h0
    have:=P2000_big2
    omega
set_option maxRecDepth 100000 in
set_option maxHeartbeats 1000000 in
theorem value_yes (ng:Bool) (M e:Int) (w:World) (hT:Tab w) (h0:0 <= M) (h1:M < 9223372036854775808) (e0:-1074 <= e) (e1:e <= 971) :
    Calls Tryz.prog 96 #[.bool ng,.int .i64 M,.int .i64 e,.bool true] w fun r w'=>∃ v,r=.returned (.tuple #[v,.int .i64 0])∧DAns w w' (sg ng M * pw e) v:=by
  have hok:=dok_small (ng:=ng) h0 h1 e0 e1
  go_enter Tryz.func96,Tryz.ntmps96
  go_wp2_with fail
  refine (ofNat_any M _ h0 h1).mono ?_
  rintro r w1 ⟨v,rfl,hA⟩
  obtain ⟨so,sn,sc,d,rfl,hR,hN,hv⟩:=hA.num
  have hsn:sn <= 100:=hA.num.len (k:=100) (by have:=P_le (show 3 <= 100 by omega); have:P 3=1237940039285380274899124224:=rfl; omega)
  have hbw:=bel_trans (bel_alloc w _) hA.below
  go_wp2_with fail
  refine (settle_any (V:=sg ng M * pw e) hR hN.1 (by omega) (hT.keeps hbw) (by omega) (by rw [hv])).mono ?_
  rintro r w7 (⟨_,v,rfl,hD⟩ | ⟨hno,_⟩)
  . have hb7:=hD.below
    obtain ⟨ng',s',m',e',rfl,hyy,hA2⟩:=id hD
    obtain ⟨so',sn',sc',rfl⟩:=hA2.num.shape
    have q0:=((bel_trans hA.below hb7).block w.heap.size (by rw [size1]; omega)).trans (heap_a1 _ _)
    have x0:=blkC q0 0 rfl
    have x1:=blkC q0 1 rfl
    have x2:=blkC q0 2 rfl
    have z0:=blkF q0 0
    have z1:=blkF q0 1
    have z2:=blkF q0 2
    go_wp2
    refine bodyPost_ret (v:=.tuple #[.agg #[.bool ng',.slice so' sn' sc',.int .i64 e'],.int .i64 0]) (by simp [results,Tryz.results96,go_sem,x0,x1,x2]) rfl ⟨_,rfl,?_⟩
    exact dans_res3 (g:=w.heap.size) hD hbw (Nat.le_refl _) (Nat.lt_of_lt_of_le (by rw [size1]; omega) hA.below.size) _ _ _
  . exact absurd hok hno
set_option maxRecDepth 100000 in
theorem value_no (ng:Bool) (M e:Int) (w:World) :
    Calls Tryz.prog 96 #[.bool ng,.int .i64 M,.int .i64 e,.bool false] w fun r w'=>r=.returned (.tuple #[zeroV,.int .i64 10])∧Below w.heap.size w w':=by
  go_enter Tryz.func96,Tryz.ntmps96
  go_wp2
  refine bodyPost_ret (v:=.tuple #[zeroV,.int .i64 10]) (by simp [results,Tryz.results96,go_sem,zeroV]) rfl ⟨rfl,?_⟩
  exact bel_alloc _ _
set_option maxRecDepth 100000 in
set_option maxHeartbeats 1000000 in
theorem dof_any (b:Int) (w:World) (L:Lay64 w) (hT:Tab w) :
    Calls Tryz.prog 69 #[.int .i64 b] w fun r w'=>∃ v er,r=.returned (.tuple #[v,.int .i64 er])∧Below w.heap.size w w'∧((pok b=true∧er=0∧DAns w w' (sg (pneg b) (pmag b) * pw (pexp b)) v)∨(pok b=false∧er=10∧v=zeroV)):=by
  have hVy:pok b=true->∀ W,Below w.heap.size w W->Calls Tryz.prog 96 #[.bool (pneg b),.int .i64 (pmag b),.int .i64 (pexp b),.bool true] W fun r w'=>∃ v,r=.returned (.tuple #[v,.int .i64 0])∧DAns W w' (sg (pneg b) (pmag b) * pw (pexp b)) v:=fun hp W hb=>by
    have hi:=pmag_in hp
    exact value_yes _ _ _ W (hT.keeps hb) (by omega) (by omega) (by omega) (by omega)
  have hP:=fun W hb=>bitsPartsA b W (L.keeps hb)
  generalize sg (pneg b) (pmag b) * pw (pexp b)=V at hVy ⊢
  generalize pneg b=ng at *
  generalize pmag b=mg at *
  generalize pexp b=ex at *
  clear L hT
  cases hp:pok b
  . rw [hp] at hP hVy
    go_enter Tryz.func69,Tryz.ntmps69
    go_wp2_with fail
    refine (hP _ (bel_alloc _ _)).mono ?_
    rintro r w1 ⟨rfl,hb1⟩
    go_wp2_with fail
    refine (value_no _ _ _ _).mono ?_
    unfold zeroV
    rintro r w2 ⟨rfl,hb2⟩
    have hbw:=bel_trans (bel_alloc w (.cells #[.bool false,.slice none 0 0,.int .i64 0] 32)) (bel_trans hb1 hb2)
    have q0:=((bel_trans hb1 hb2).block w.heap.size (by rw [size1]; omega)).trans (heap_a1 _ _)
    have x0:=blkC q0 0 rfl
    have x1:=blkC q0 1 rfl
    have x2:=blkC q0 2 rfl
    have z0:=blkF q0 0
    have z1:=blkF q0 1
    have z2:=blkF q0 2
    go_wp2
    refine bodyPost_ret (v:=.tuple #[zeroV,.int .i64 10]) (by simp [results,Tryz.results69,go_sem,x0,x1,x2,zeroV]) rfl ⟨_,_,rfl,?_,.inr ⟨by trivial,rfl,rfl⟩⟩
    exact bel_set3 hbw (Nat.le_refl _) _ _ _
  . rw [hp] at hP hVy
    go_enter Tryz.func69,Tryz.ntmps69
    go_wp2_with fail
    refine (hP _ (bel_alloc _ _)).mono ?_
    rintro r w1 ⟨rfl,hb1⟩
    have hbw:=bel_trans (bel_alloc w (.cells #[.bool false,.slice none 0 0,.int .i64 0] 32)) hb1
    go_wp2_with fail
    refine (hVy (by trivial) _ hbw).mono ?_
    rintro r w2 ⟨v,rfl,hD⟩
    obtain ⟨ng',s',m',e',rfl,hyy,hA2⟩:=id hD
    obtain ⟨so',sn',sc',rfl⟩:=hA2.num.shape
    have q0:=((bel_trans hb1 hD.below).block w.heap.size (by rw [size1]; omega)).trans (heap_a1 _ _)
    have x0:=blkC q0 0 rfl
    have x1:=blkC q0 1 rfl
    have x2:=blkC q0 2 rfl
    have z0:=blkF q0 0
    have z1:=blkF q0 1
    have z2:=blkF q0 2
    go_wp2
    refine bodyPost_ret (v:=.tuple #[.agg #[.bool ng',.slice so' sn' sc',.int .i64 e'],.int .i64 0]) (by simp [results,Tryz.results69,go_sem,x0,x1,x2]) rfl ⟨_,_,rfl,?_,.inl ⟨by trivial,rfl,?_⟩⟩
    . exact bel_set3 (bel_trans hbw hD.below) (Nat.le_refl _) _ _ _
    . exact dans_res3 (g:=w.heap.size) hD hbw (Nat.le_refl _) (Nat.lt_of_lt_of_le (by rw [size1]; omega) hb1.size) _ _ _
def bRung (way:Int) (ng:Bool):Int:=if rUp way ng true 3 then 9218868437227405312 else 9218868437227405311
def patS (ng:Bool) (r:Int):Int:=if ng then r - 9223372036854775808 else r
theorem or_inf:bits BinOp.or IntKind.i64 9218868437227405312 (-9223372036854775808)=-4503599627370496:=by decide +kernel
theorem or_most:bits BinOp.or IntKind.i64 9218868437227405311 (-9223372036854775808)=-4503599627370497:=by decide +kernel
theorem Env.keeps {w w':World} (h:Env w) (hb:Below w.heap.size w w'):Env w' :=
  ⟨⟨cell_keeps h.lays.a0 hb,cell_keeps h.lays.a1 hb,cell_keeps h.lays.a2 hb,trivial,trivial,trivial⟩,fun j hj=>cell_keeps (h.tab j hj) hb⟩
set_option maxRecDepth 100000 in
set_option maxHeartbeats 1000000 in
theorem beyond_any (way:Int) (hw:0 <= way∧way <= 3) (ng:Bool) (w:World) :
    Calls Tryz.prog 159 #[wayV way,.bool ng,.int .i64 9218868437227405312,.int .i64 (-9223372036854775808)] w fun e w'=>e=.returned (.int .i64 (patS ng (bRung way ng)))∧Below w.heap.size w w':=by
  have hF:=wraise_any way hw
  have hE:=wraise_enter way
  unfold wayV bRung
  generalize wayF way=F at hF hE ⊢
  have q0:=heap_alloc_new w (.cells #[.func (.func F) #[] #[]] 178)
  have k0:=blkC q0 0 rfl
  have o1:=or_inf
  have o2:=or_most
  obtain ⟨R,hR⟩:∃ R,rUp way ng true 3=R:=⟨_,rfl⟩
  have hFF:=hF ng true 3
  rw [hR] at hFF ⊢
  clear hR hF
  cases ng <;> cases R
  all_goals
    unfold patS
    go_enter Tryz.func159,Tryz.ntmps159
    go_wp2_with (first | (refine (hFF _).mono ?_; rintro _ _ ⟨rfl,rfl⟩))
    all_goals go_ret
    all_goals exact ⟨by simp,bel_alloc _ _⟩
def r64 (way:Int) (ng sd:Bool) (mag:Nat) (exp:Int) (cut:Bool):Int × Bool :=
  let E:=rE 53 (-1074) mag exp
  let u:=rU mag (E - exp)
  let left:=rL mag cut (E - exp)
  let U:=u + (if rUp way ng (decide (u % 2=1)) left then 1 else 0)
  let neg:=ng && (decide (0 < U) || sd)
  if jk 52 2047 (-1074) U E then (jp neg U E,decide (left ≠ 0)) else (patS neg (bRung way neg),true)
set_option maxRecDepth 100000 in
set_option maxHeartbeats 1000000 in
theorem binary64_any (way:Int) (hw:0 <= way∧way <= 3) (ng sd:Bool) (mag:Nat) (exp:Int) (cut:Bool) (w:World) (Ev:Env w) (hm:mag < 18446744073709551616) (he:-4500000 <= exp∧exp <= 4500000) :
    Calls Tryz.prog 134 #[valV ng mag exp cut sd,wayV way] w fun e w'=>e=.returned (.tuple #[.int .i64 (r64 way ng sd mag exp cut).1,.bool (r64 way ng sd mag exp cut).2])∧Below w.heap.size w w':=by
  have e64:(2:Nat) ^ 64=18446744073709551616:=by decide
  have e53:(2:Nat) ^ (53:Int).toNat=9007199254740992:=by decide
  have hE:-5000000 <= rE 53 (-1074) mag exp∧rE 53 (-1074) mag exp <= 5000000:=by
    have hbl:Lib.bitLen mag <= 64:=by
      by_cases h0:mag=0
      . rw [h0]; decide
      . exact (M.bitLen_spec mag (by omega) h0).2.2.2
    unfold rE
    omega
  have hu:rU mag (rE 53 (-1074) mag exp - exp) <= 9007199254740991:=by
    by_cases h0:mag=0
    . rw [h0]; unfold rU; split <;> simp
    . have:=(rU_bits (size:=53) (low:=-1074) (exp:=exp) (by decide) (by omega) h0).1
      rw [e53] at this
      omega
  have hUn:=fun W=>units_any way hw ng mag exp (rE 53 (-1074) mag exp) cut sd W hm hE (by omega) (by omega)
  have HR:r64 way ng sd mag exp cut=(let E:=rE 53 (-1074) mag exp
    let u:=rU mag (E - exp)
    let left:=rL mag cut (E - exp)
    let U:=u + (if rUp way ng (decide (u % 2=1)) left then 1 else 0)
    let neg:=ng && (decide (0 < U) || sd)
    if jk 52 2047 (-1074) U E then (jp neg U E,decide (left ≠ 0)) else (patS neg (bRung way neg),true)):=rfl
  simp only at HR
  have hEE:rE 53 (-1074) mag exp=rE 53 (-1074) mag exp:=rfl
  obtain ⟨E,hEq⟩:∃ E,rE 53 (-1074) mag exp=E:=⟨_,rfl⟩
  rw [hEq] at hE hu hUn HR
  obtain ⟨left,hleft⟩:∃ l,rL mag cut (E - exp)=l:=⟨_,rfl⟩
  rw [hleft] at hUn HR
  obtain ⟨U,hU⟩:∃ U,rU mag (E - exp) + (if rUp way ng (decide (rU mag (E - exp) % 2=1)) left then 1 else 0)=U:=⟨_,rfl⟩
  rw [hU] at hUn HR
  have hU2:U <= 9007199254740992:=by rw [<- hU]; split <;> omega
  obtain ⟨neg,hneg⟩:∃ n,(ng && (decide (0 < U) || sd))=n:=⟨_,rfl⟩
  have hFl:=fun W=>float_F (wayF way) ng mag exp 53 (-1074) cut sd U E (decide (left ≠ 0)) W hm he (by omega) (by omega) hEq (by omega) hUn
  rw [hneg] at hFl HR
  have hJ:=fun W (EW:Env W)=>bitsJoin neg (U:Int) E W EW (by unfold rng; omega) (by unfold rng; omega)
  have hB:=fun W=>beyond_any way hw neg W
  obtain ⟨other,hoth⟩:∃ o,decide (left ≠ 0)=o:=⟨_,rfl⟩
  rw [hoth] at hFl HR
  obtain ⟨fin,hfin⟩:∃ f,jk 52 2047 (-1074) (U:Int) E=f:=⟨_,rfl⟩
  obtain ⟨pt,hpt⟩:∃ p,jp neg (U:Int) E=p:=⟨_,rfl⟩
  rw [hpt] at hJ HR
  rw [hfin] at hJ HR
  obtain ⟨by1,hby⟩:∃ b,patS neg (bRung way neg)=b:=⟨_,rfl⟩
  rw [hby] at hB HR
  rw [HR]
  have hUi:((U:Nat):Int)=((U:Nat):Int):=rfl
  have hb2:=bel_alloc2 w (.cells #[.bool ng,.int .u64 mag,.int .i64 exp,.bool cut,.bool sd] 165) (.cells #[.func (.func (wayF way)) #[] #[]] 178)
  have q1:=heap_b2 w (.cells #[.bool ng,.int .u64 mag,.int .i64 exp,.bool cut,.bool sd] 165) (.cells #[.func (.func (wayF way)) #[] #[]] 178)
  have k1:=blkC q1 0 rfl
  have HEV:Hid (Env w):=Ev
  clear Ev HR hUn hEq hleft hU hneg hoth hfin hpt hby hU2 hu hE hEE hUi e64 e53
  unfold wayV valV at *
  generalize wayF way=F at *
  go_enter Tryz.func134,Tryz.ntmps134
  go_wp2_with fail
  refine (hFl _).mono ?_
  rintro _ w1 ⟨rfl,hb1⟩
  have hbw:=bel_trans hb2 hb1
  have p1:=(hb1.block _ (Array.getElem?_eq_some_iff.1 q1).1).trans q1
  have k2:=blkC p1 0 rfl
  clear hFl hb2 hb1 q1 k1
  go_wp2_with fail
  refine (hJ _ (HEV.out.keeps hbw)).mono ?_
  rintro _ w2 ⟨rfl,hg⟩
  have hb2:=hg.be
  have hbw2:=bel_trans hbw hb2
  have p2:=(hb2.block _ (Array.getElem?_eq_some_iff.1 p1).1).trans p1
  have k3:=blkC p2 0 rfl
  clear hJ hg p1 p2 k2 hb2 hbw
  cases fin
  . go_wp2_with fail
    refine (hB _).mono ?_
    rintro _ w3 ⟨rfl,hb3⟩
    go_wp2
    all_goals go_ret2
    all_goals exact ⟨by simp,bel_trans hbw2 hb3⟩
  . go_wp2
    all_goals go_ret2
    all_goals exact ⟨by simp,hbw2⟩
theorem Num.parts {w:World} {v:Value} {V:Int} (h:Num w v V) {k:Nat} (hV:V < P k):∃ ao n cap d,v=.slice ao n cap∧Row w ao n cap d∧Nrm d n∧val d n=V∧n <= k:=by
  obtain ⟨ao,n,cap,rfl⟩:=h.shape
  have hl:=h.len hV
  obtain ⟨ao',n',cap',d,e,hR,h2,h3⟩:=h
  simp only [Value.slice.injEq] at e
  obtain ⟨rfl,rfl,rfl⟩:=e
  exact ⟨ao,n,cap,d,rfl,hR,h2,h3,hl⟩
theorem low_mod {V l:Int} (h:LowA V l) (h0:0 < V) (k:Nat):decide (l < (k:Int))=decide (V % 2 ^ k ≠ 0):=by
  obtain ⟨j,rfl,q,hq⟩:=lowA_pos h h0
  by_cases hjk:j < k
  . rw [decide_eq_true (by omega)]
    refine (decide_eq_true ?_).symm
    intro hz
    obtain ⟨d,hd⟩:∃ d,k=j + 1 + d:=⟨k - j - 1,by omega⟩
    have h1:(2:Int) ^ k ∣ V:=Int.dvd_of_emod_eq_zero hz
    obtain ⟨c,hc⟩:=h1
    rw [hq,hd,Int.pow_add,Int.pow_succ] at hc
    have hp:=two_pos j
    have e:(2:Int) ^ j * (2 * q + 1)=2 ^ j * (2 * (2 ^ d * c)):=by
      rw [Int.mul_comm,hc]
      simp only [Int.mul_assoc]
    have:=Int.eq_of_mul_eq_mul_left (by omega) e
    omega
  . rw [decide_eq_false (by omega)]
    refine (decide_eq_false ?_).symm
    intro hz
    apply hz
    obtain ⟨d,hd⟩:∃ d,j=k + d:=⟨j - k,by omega⟩
    rw [hq,hd,Int.pow_add,Int.mul_comm,Int.mul_assoc]
    exact Int.mul_emod_right _ _
set_option maxRecDepth 100000 in
set_option maxHeartbeats 1000000 in
theorem scaled_low (ao:Option Addr) (n ca:Nat) (a:Nat->Int) (k:Nat) (w:World) (ha:Row w ao n ca a) (na:Nrm a n) (hn:n <= 5000) (hk0:0 < k) (hk:k <= 1000000) (h0:0 < val a n) (hT:Tab w) :
    Calls Tryz.prog 175 #[.slice ao n ca,.int .i64 (-(k:Int))] w fun e w'=>∃ v,e=.returned (.tuple #[v,.bool (decide (val a n % 2 ^ k ≠ 0))])∧Ans w w' (val a n / 2 ^ k) v:=by
  have CL:Hid (∀ W,Below w.heap.size w W->_):=fun W hb=>lower_any ao n ca k a W (ha.keeps hb) na.1 (by omega) (by omega)
  have CW:Hid (∀ W,Below w.heap.size w W->_):=fun W hb=>lowest_any ao n ca a W (ha.keeps hb) na.1 (by omega) (hT.keeps hb)
  have HM:Hid (∀ l,LowA (val a n) l->decide (l < (k:Int))=decide (val a n % 2 ^ k ≠ 0)):=fun l h=>low_mod h h0 k
  generalize decide (val a n % 2 ^ k ≠ 0)=R at HM ⊢
  generalize val a n / 2 ^ k=Q at CL ⊢
  have w1:IntKind.i64.wrap (k:Int)=(k:Int):=by rw [wrap_i64_eq]; omega
  go_enter Tryz.func175,Tryz.ntmps175
  go_wp2_with fail
  refine (CL.out _ (bel_refl _)).mono ?_
  rintro _ w2 ⟨v,rfl,hA⟩
  have hb2:=hA.below
  have HA:Hid (Ans w w2 Q v):=hA
  obtain ⟨so,sn,sc,rfl⟩:=hA.num.shape
  clear hA CL
  go_wp2_with fail
  refine (CW.out _ hb2).mono ?_
  rintro _ w3 ⟨l,rfl,hl,rfl⟩
  have hr:=HM.out l hl
  go_wp2
  all_goals refine bodyPost_ret (v:=.tuple #[.slice so sn sc,.bool R]) (by simp [results,Tryz.results175,go_sem]) rfl ⟨_,rfl,HA.out⟩
set_option maxRecDepth 100000 in
set_option maxHeartbeats 1000000 in
theorem scaled_zero (ao:Option Addr) (n ca:Nat) (a:Nat->Int) (w:World) (ha:Row w ao n ca a) (na:Nrm a n) (hn:n <= 5000) :
    Calls Tryz.prog 175 #[.slice ao n ca,.int .i64 0] w fun e w'=>∃ v,e=.returned (.tuple #[v,.bool false])∧Ans w w' (val a n) v:=by
  have CR:Hid (Calls Tryz.prog 180 #[.slice ao n ca,.int .i64 0] w fun e w'=>∃ v,e=.returned v∧Ans w w' (val a n) v):=by
    have h:=raise_any ao n ca 0 a w ha na.1 (by omega) (by omega)
    rw [Int.pow_zero,Int.mul_one] at h
    exact h
  go_enter Tryz.func175,Tryz.ntmps175
  go_wp2_with fail
  refine CR.out.mono ?_
  rintro _ w2 ⟨v,rfl,hA⟩
  have HA:Hid (Ans w w2 (val a n) v):=hA
  obtain ⟨so,sn,sc,rfl⟩:=hA.num.shape
  clear hA CR
  go_wp2
  all_goals refine bodyPost_ret (v:=.tuple #[.slice so sn sc,.bool false]) (by simp [results,Tryz.results175,go_sem]) rfl ⟨_,rfl,HA.out⟩
theorem wr5 (W:World) (g:Nat) (a b c d e:Value):Wr g W (((((W.setCell ⟨g,0,none⟩ a).setCell ⟨g,1,none⟩ b).setCell ⟨g,2,none⟩ c).setCell ⟨g,3,none⟩ d).setCell ⟨g,4,none⟩ e):=(((((Wr.refl g W).setCell 0 a).setCell 1 b).setCell 2 c).setCell 3 d).setCell 4 e
def vK (M:Int):Nat:=blen M - 62
theorem vK_small {M:Int} (h:0 <= M):0 <= M / 2 ^ vK M∧M / 2 ^ vK M < 4611686018427387904:=by
  have hp:=two_pos (vK M)
  refine ⟨Int.ediv_nonneg h (by omega),?_⟩
  have h1:=blen_lt M
  have h2:(2:Int) ^ blen M <= 2 ^ (62 + vK M):=two_le (by unfold vK; omega)
  have e:(2:Int) ^ (62 + vK M)=4611686018427387904 * 2 ^ vK M:=by rw [Int.pow_add]; rfl
  exact Int.ediv_lt_of_lt_mul hp (by omega)
theorem blen_nrm {a:Nat->Int} {n:Nat} (na:Nrm a n):blen (val a n) <= 30 * n:=by
  cases n with
  | zero=>show blen 0 <= _; rw [blen_zero]; omega
  | succ m=>
    rw [blen_val na]
    have h:blen (a m) <= 30:=blen_le (by show a m < 1073741824; exact (na.1 m (by omega)).2)
    omega
set_option maxRecDepth 100000 in
set_option maxHeartbeats 2000000 in
theorem valueOf_any (ng:Bool) (ao:Option Addr) (n ca:Nat) (a:Nat->Int) (e:Int) (w:World) (ha:Row w ao n ca a) (na:Nrm a n) (hn:n <= 5000) (he:-1100000 <= e∧e <= 1100000) (hT:Tab w) :
    Calls Tryz.prog 160 #[.agg #[.bool ng,.slice ao n ca,.int .i64 e]] w fun r w'=>r=.returned (valV ng (val a n / 2 ^ vK (val a n)).toNat (e + vK (val a n)) (decide (val a n % 2 ^ vK (val a n) ≠ 0)) false)∧Below w.heap.size w w':=by
  have hv0:=val_nonneg na.1
  have hbl:blen (val a n) <= 150000:=by have:=blen_nrm na; omega
  have CB:Hid (∀ W,Below w.heap.size w W->_):=fun W hb=>bitLength_any ao n ca a W (ha.keeps hb) na (by omega)
  obtain ⟨k,hk⟩:∃ k,vK (val a n)=k:=⟨_,rfl⟩
  have hsm:=vK_small hv0
  rw [hk] at hsm ⊢
  have CS:Hid (∀ W,Below w.heap.size w W->Calls Tryz.prog 175 #[.slice ao n ca,.int .i64 (-(k:Int))] W fun e w'=>∃ v,e=.returned (.tuple #[v,.bool (decide (val a n % 2 ^ k ≠ 0))])∧Ans W w' (val a n / 2 ^ k) v):=fun W hb=>by
    by_cases h0:k=0
    . subst h0
      have h:=scaled_zero ao n ca a W (ha.keeps hb) na hn
      simpa using h
    . have hp:0 < val a n:=by
        rcases Int.lt_or_eq_of_le hv0 with h | h
        . exact h
        . exfalso; rw [<- h] at hk; apply h0; rw [<- hk]; decide
      exact scaled_low ao n ca a k W (ha.keeps hb) na hn (by omega) (by unfold vK at hk; omega) hp (hT.keeps hb)
  have hbk:min (62 - (blen (val a n):Int)) 0=-(k:Int):=by unfold vK at hk; omega
  obtain ⟨B,hB⟩:∃ B:Int,(blen (val a n):Int)=B:=⟨_,rfl⟩
  have hB0:0 <= B∧B <= 150000:=by omega
  rw [hB] at CB hbk
  have hk2:k <= 150000:=by unfold vK at hk; omega
  generalize decide (val a n % 2 ^ k ≠ 0)=R at CS ⊢
  obtain ⟨Q,hQ⟩:∃ Q:Nat,val a n / 2 ^ k=(Q:Int):=Int.eq_ofNat_of_zero_le hsm.1
  rw [hQ] at CS hsm ⊢
  rw [Int.toNat_natCast]
  have CM:Hid (∀ (W':World) so sn sc,Num W' (.slice so sn sc) (Q:Int)->Calls Tryz.prog 176 #[.slice so sn sc] W' fun e w'=>e=.returned (.int .i64 (Q:Int))∧w'=W'):=fun W' so sn sc hA=>by
    obtain ⟨ao',n',ca',d',hs,hR,hN,hV,hl⟩:=hA.parts (k:=3) (by rw [show P 3=1237940039285380274899124224 by decide]; omega)
    simp only [Value.slice.injEq] at hs
    obtain ⟨rfl,rfl,rfl⟩:=hs
    rw [<- hV]
    exact small_any _ _ _ _ _ hR hN.1 hl (by omega)
  have w1:IntKind.i64.wrap (62 - B)=62 - B:=by rw [wrap_i64_eq]; omega
  have w2:IntKind.i64.wrap (e + k)=e + k:=by rw [wrap_i64_eq]; omega
  have w3:IntKind.u64.wrap (Q:Int)=(Q:Int):=by rw [IntKind.wrap_u64]; omega
  have hmin:∀ (ts:Array TypeId) (t:TypeId) (x y:Int) (w:World),(Builtin.min_ ts t #[.int .i64 x,.int .i64 y]).run Tryz.prog w=.ok (.int .i64 (min x y)) w:=fun ts t x y w=>by rw [run_min_int2]; congr 2; omega
  have q0:=heap_a2 w (.cells #[.bool ng,.slice ao n ca,.int .i64 e] 32) (.cells #[.bool false,.int .u64 0,.int .i64 0,.bool false,.bool false] 165)
  have q1:=heap_b2 w (.cells #[.bool ng,.slice ao n ca,.int .i64 e] 32) (.cells #[.bool false,.int .u64 0,.int .i64 0,.bool false,.bool false] 165)
  have hb1:=bel_alloc2 w (.cells #[.bool ng,.slice ao n ca,.int .i64 e] 32) (.cells #[.bool false,.int .u64 0,.int .i64 0,.bool false,.bool false] 165)
  clear hQ hk hB hbl hv0 hsm hT
  unfold valV
  go_enter Tryz.func160,Tryz.ntmps160
  go_wp2_with fail
  generalize (w.alloc (.cells #[.bool ng,.slice ao n ca,.int .i64 e] 32)).alloc (.cells #[.bool false,.int .u64 0,.int .i64 0,.bool false,.bool false] 165)=wx at q0 q1 hb1 ⊢
  refine (CB.out _ hb1).mono ?_
  rintro _ _ ⟨rfl,rfl⟩
  have k1:=blkC q0 1 rfl
  go_wp2_with fail
  refine (CS.out _ hb1).mono ?_
  rintro _ w4 ⟨v,rfl,hA⟩
  have hb4:=hA.below
  obtain ⟨so,sn,sc,rfl⟩:=hA.num.shape
  have CM1:Hid (Calls Tryz.prog 176 #[.slice so sn sc] w4.drew fun e w'=>e=.returned (.int .i64 (Q:Int))∧w'=w4.drew):=CM.out w4.drew so sn sc (hA.num.keeps (bel_refl w4).drew)
  have hbw:=bel_trans hb1 hb4
  have p0:=(hb4.block _ (Array.getElem?_eq_some_iff.1 q0).1).trans q0
  have p1:=(hb4.block _ (Array.getElem?_eq_some_iff.1 q1).1).trans q1
  clear CB CS k1 hA CM
  have c0:=blkC p0 0 rfl
  have c2:=blkC p0 2 rfl
  have x0:=blkC p1 0 rfl
  have x1:=blkC p1 1 rfl
  have x2:=blkC p1 2 rfl
  have x3:=blkC p1 3 rfl
  have x4:=blkC p1 4 rfl
  have z0:=blkF p1 0
  have z1:=blkF p1 1
  have z2:=blkF p1 2
  have z3:=blkF p1 3
  have z4:=blkF p1 4
  go_wp2_with fail
  have c1:=blkC p0 1 rfl
  go_region_with (go_at_call 176; refine CM1.out.mono ?_; rintro _ _ ⟨rfl,rfl⟩)
  all_goals go_wp2
  all_goals refine bodyPost_ret (v:=.agg #[.bool ng,.int .u64 Q,.int .i64 (e + k),.bool R,.bool false]) (by simp [results,Tryz.results160,go_sem,x0,x1,x2,x3,x4]) rfl ⟨rfl,?_⟩
  all_goals exact ((wr5 w4 (w.heap.size + 1) _ _ _ _ _).below hbw hbw.size (Nat.le_succ _)).drew
set_option maxRecDepth 100000 in
set_option maxHeartbeats 1000000 in
theorem itself_any (p:Nat) (off cap len:Nat) (ng:Bool) (ao:Option Addr) (n ca:Nat) (a:Nat->Int) (e:Int) (w:World) (c0:w.cell? ⟨p,off,none⟩=some (.bool ng)) (c1:w.cell? ⟨p,off + 1,none⟩=some (.slice ao n ca)) (c2:w.cell? ⟨p,off + 2,none⟩=some (.int .i64 e)) (hl:0 < len) (ha:Row w ao n ca a) (na:Nrm a n) (hn:n <= 5000) (he:-1100000 <= e∧e <= 1100000) (hT:Tab w) :
    Calls Tryz.prog 135 #[.slice (some ⟨p,off,none⟩) len cap] w fun r w'=>r=.returned (.tuple #[valV ng (val a n / 2 ^ vK (val a n)).toNat (e + vK (val a n)) (decide (val a n % 2 ^ vK (val a n) ≠ 0)) false,.int .i64 0])∧Below w.heap.size w w':=by
  have CV:Hid (∀ W,Below w.heap.size w W->_):=fun W hb=>valueOf_any ng ao n ca a e W (ha.keeps hb) na hn he (hT.keeps hb)
  unfold valV at *
  generalize (val a n / 2 ^ vK (val a n)).toNat=Q at CV ⊢
  generalize e + vK (val a n)=E at CV ⊢
  generalize decide (val a n % 2 ^ vK (val a n) ≠ 0)=R at CV ⊢
  have q0:=heap_alloc_new w (.cells #[.bool false,.int .u64 0,.int .i64 0,.bool false,.bool false] 165)
  have hb1:=bel_alloc w (.cells #[.bool false,.int .u64 0,.int .i64 0,.bool false,.bool false] 165)
  have d0:=cell_keeps c0 hb1
  have d1:=cell_keeps c1 hb1
  have d2:=cell_keeps c2 hb1
  go_enter Tryz.func135,Tryz.ntmps135
  go_wp2_with fail
  refine (CV.out _ hb1).mono ?_
  rintro _ w2 ⟨rfl,hb2⟩
  have p1:=(hb2.block _ (Array.getElem?_eq_some_iff.1 q0).1).trans q0
  have hbw:=bel_trans hb1 hb2
  clear d0 d1 d2 c0 c1 c2 CV
  have x0:=blkC p1 0 rfl
  have x1:=blkC p1 1 rfl
  have x2:=blkC p1 2 rfl
  have x3:=blkC p1 3 rfl
  have x4:=blkC p1 4 rfl
  have z0:=blkF p1 0
  have z1:=blkF p1 1
  have z2:=blkF p1 2
  have z3:=blkF p1 3
  have z4:=blkF p1 4
  go_wp2
  all_goals refine bodyPost_ret (v:=.tuple #[.agg #[.bool ng,.int .u64 Q,.int .i64 E,.bool R,.bool false],.int .i64 0]) (by simp [results,Tryz.results135,go_sem,x0,x1,x2,x3,x4]) rfl ⟨rfl,?_⟩
  all_goals exact (wr5 w2 w.heap.size _ _ _ _ _).below hbw hbw.size (Nat.le_refl _)
set_option maxRecDepth 100000 in
set_option maxHeartbeats 1000000 in
theorem rounded_ok (way:Int) (hw:0 <= way∧way <= 3) (F G:Nat) (lo:Option Addr) (ln lc:Nat) (r:Nat->NumR) (w:World) (hl:Nums w lo ln lc r) (ok:∀ i,i < ln->okR (r i)=true) (ng:Bool) (mag:Nat) (exp:Int) (cut sd:Bool) (b:Int) (o:Bool)
    (hEF:∀ (cap:Array Value) (w:World),(callFunc F cap).run Tryz.prog w=.ok (.enter F cap) w) (hEG:∀ (cap:Array Value) (w:World),(callFunc G cap).run Tryz.prog w=.ok (.enter G cap) w)
    (hG:∀ W,Below w.heap.size w W->Calls Tryz.prog G #[.slice lo ln lc] W fun e w'=>e=.returned (.tuple #[valV ng mag exp cut sd,.int .i64 0])∧Below W.heap.size W w')
    (hF:∀ W,Below w.heap.size w W->Calls Tryz.prog F #[valV ng mag exp cut sd,wayV way] W fun e w'=>e=.returned (.tuple #[.int .i64 b,.bool o])∧Below W.heap.size W w') :
    Calls Tryz.prog 133 #[.int .i64 way,.func (.func F) #[] #[],.func (.func G) #[] #[],.slice lo ln lc] w fun e w'=>e=.returned (.tuple #[.int .i64 b,.bool o,.int .i64 0])∧Below w.heap.size w w':=by
  have hst:∀ (p:Addr) (F:Nat) (m:Mode) (w:World),(store p (.func (.func F) #[] #[]) m).run Tryz.prog w=stored Tryz.prog w p (.func (.func F) #[] #[]) m:=fun p F m w=>run_store _ w p _ m rfl
  have hle:=hl.le
  have hma:=hl.max
  unfold valV wayV at *
  have CW:=wayOf_any way w
  rw [if_pos hw,decide_eq_true hw] at CW
  unfold wayV at CW
  generalize wayF way=K at *
  go_enter Tryz.func133,Tryz.ntmps133
  go_wp2_with fail
  refine CW.mono ?_
  rintro _ w1 ⟨rfl,hb1⟩
  have q1:=heap_alloc_new w1 (.cells #[.nilFunc] 178)
  have y0:=blkC q1 0 rfl
  have y1:=blkF q1 0
  go_wp2_with fail
  have q2:=heap_alloc_new w1 (.cells #[.func (.func K) #[] #[]] 178)
  have hb2:=bel_trans hb1 (bel_alloc w1 (.cells #[.func (.func K) #[] #[]] 178))
  generalize w1.alloc (.cells #[.func (.func K) #[] #[]] 178)=w2 at q2 hb2 ⊢
  clear q1 y0 y1 CW
  go_loopw [28] (fun iv wr=>∃ k:Nat,iv=.int .i64 k∧k <= ln∧Hid (wr.heap[w1.heap.size]?=some (.cells #[.func (.func K) #[] #[]] 178 (0,0)))∧Below w.heap.size w wr) (fun iv _=>ln - (intOf iv).toNat)
  case atStart=>exact ⟨0,rfl,Nat.zero_le _,q2,hb2⟩
  case round=>
    clear q2 hb2
    obtain ⟨k,rfl,hk,HQ,hbw⟩:=hrel
    by_cases hlt:k < ln
    . obtain ⟨ba,oa,rfl,hba,hca⟩:=hl.spot (by omega)
      obtain ⟨c0,c1,c2,hR⟩:=(hca k hlt).keeps hbw hba
      have hok:=ok k hlt
      have CV:=fun W (hb:Below wr.heap.size wr W)=>dvalid_any (r k).ng (r k).ao (r k).n (r k).cap (r k).d (r k).e W (hR.keeps hb)
      unfold okR at hok
      rw [hok] at CV
      clear hok hR hca
      generalize r k=x at c0 c1 c2 CV
      obtain ⟨x_g,x_o,x_n,x_c,x_d,x_e⟩:=x
      simp only at c0 c1 c2 CV
      have hb3:=bel_alloc wr (.cells #[.bool x_g,.slice x_o x_n x_c,.int .i64 x_e] 32)
      have HQ3:Hid ((wr.alloc (.cells #[.bool x_g,.slice x_o x_n x_c,.int .i64 x_e] 32)).heap[w1.heap.size]?=some (.cells #[.func (.func K) #[] #[]] 178 (0,0))):=(hb3.block _ (Array.getElem?_eq_some_iff.1 HQ.out).1).trans HQ.out
      go_wp2_with fail
      refine (CV _ hb3).mono ?_
      rintro _ w4 ⟨rfl,hb4⟩
      have HQ4:Hid (w4.heap[w1.heap.size]?=some (.cells #[.func (.func K) #[] #[]] 178 (0,0))):=(hb4.block _ (Array.getElem?_eq_some_iff.1 HQ3.out).1).trans HQ3.out
      have hbw4:=hbw.trans ((bel_trans hb3 hb4).mono hbw.size)
      clear CV HQ3 hb3 hb4 c0 c1 c2
      go_wp2
      go_roundw
      case rel=>exact ⟨k + 1,by go_num,by omega,HQ4.out,hbw4⟩
      case measure=>simp [intOf]; omega
    . obtain rfl:k=ln:=by omega
      go_wp2_with fail
      refine (hG _ hbw).mono ?_
      rintro _ w4 ⟨rfl,hb4⟩
      have p4:=(hb4.block _ (Array.getElem?_eq_some_iff.1 HQ.out).1).trans HQ.out
      have hbw4:=hbw.trans (hb4.mono hbw.size)
      have hb5:=bel_alloc w4 (.cells #[.bool ng,.int .u64 mag,.int .i64 exp,.bool cut,.bool sd] 165)
      have kw:=cell_keeps (blkC p4 0 rfl) hb5
      have hbw5:=hbw4.trans (hb5.mono hbw4.size)
      clear hG hb4
      go_wp2_with fail
      refine (hF _ hbw5).mono ?_
      rintro _ w6 ⟨rfl,hb6⟩
      go_wp2
      all_goals refine bodyPost_ret (v:=.tuple #[.int .i64 b,.bool o,.int .i64 0]) (by simp [results,Tryz.results133,go_sem]) rfl ⟨rfl,hbw5.trans (hb6.mono hbw5.size)⟩
set_option maxRecDepth 100000 in
set_option maxHeartbeats 1000000 in
theorem to_ok (way:Int) (hw:0 <= way∧way <= 3) (x:NumR) (w:World) (hx:Row w x.ao x.n x.cap x.d) (ok:okR x=true) (Ev:Env w) (hT:Tab w) :
    Calls Tryz.prog 107 #[x.v,.int .i64 way] w fun e w'=>e=.returned (.tuple #[.int .i64 (r64 way x.ng false (val x.d x.n / 2 ^ vK (val x.d x.n)).toNat (x.e + vK (val x.d x.n)) (decide (val x.d x.n % 2 ^ vK (val x.d x.n) ≠ 0))).1,.bool (r64 way x.ng false (val x.d x.n / 2 ^ vK (val x.d x.n)).toNat (x.e + vK (val x.d x.n)) (decide (val x.d x.n % 2 ^ vK (val x.d x.n) ≠ 0))).2,.int .i64 0])∧Below w.heap.size w w':=by
  have hS:=okR_sane ok
  obtain ⟨na,hn,he0,he1⟩:=hS
  have hv0:=val_nonneg na.1
  have hbl:vK (val x.d x.n) <= 150000:=by have:=blen_nrm na; unfold vK; omega
  have hsm:=vK_small hv0
  have hEF:∀ (cap:Array Value) (w:World),(callFunc 134 cap).run Tryz.prog w=.ok (.enter 134 cap) w:=by
    intro cap w
    simp [go_sem]
  have hEG:∀ (cap:Array Value) (w:World),(callFunc 135 cap).run Tryz.prog w=.ok (.enter 135 cap) w:=by
    intro cap w
    simp [go_sem]
  have hmf:∀ (fn:Fn) (first cap:Array Value) (w:World),(Instr.makeFunc fn first cap).run Tryz.prog w=.ok (.func fn first cap) w:=fun _ _ _ _=>rfl
  have CR:=fun W (hb:Below w.heap.size w W) (g:Nat) (hg:W.heap[g]?=some (.cells #[.bool x.ng,.slice x.ao x.n x.cap,.int .i64 x.e] 32 (0,0)))=>rounded_ok way hw 134 135 (some ⟨g,0,none⟩) 1 1 (fun _=>x) W
    ⟨Nat.le_refl _,by decide,fun _=>⟨g,0,rfl,(Array.getElem?_eq_some_iff.1 hg).1,fun i hi=>by
      obtain rfl:i=0:=by omega
      exact ⟨blkC hg 0 rfl,blkC hg 1 rfl,blkC hg 2 rfl,hx.keeps hb⟩⟩⟩ (fun _ _=>ok) x.ng (val x.d x.n / 2 ^ vK (val x.d x.n)).toNat (x.e + vK (val x.d x.n)) (decide (val x.d x.n % 2 ^ vK (val x.d x.n) ≠ 0)) false _ _ hEF hEG
    (fun W2 hb2=>itself_any g 0 1 1 x.ng x.ao x.n x.cap x.d x.e W2 (cell_keeps (blkC hg 0 rfl) hb2) (cell_keeps (blkC hg 1 rfl) hb2) (cell_keeps (blkC hg 2 rfl) hb2) (by decide) ((hx.keeps hb).keeps hb2) na hn ⟨he0,he1⟩ ((hT.keeps hb).keeps hb2))
    (fun W2 hb2=>binary64_any way hw x.ng false _ _ _ W2 ((Ev.keeps hb).keeps hb2) (by omega) (by omega))
  generalize r64 way x.ng false (val x.d x.n / 2 ^ vK (val x.d x.n)).toNat (x.e + vK (val x.d x.n)) (decide (val x.d x.n % 2 ^ vK (val x.d x.n) ≠ 0))=R at CR ⊢
  have HCR:Hid _:=CR
  unfold NumR.v
  clear ok hsm hbl hv0 he0 he1 hn na hx
  obtain ⟨x_g,x_o,x_n,x_c,x_d,x_e⟩:=x
  simp only at *
  clear HCR
  have hb2:=bel_alloc2 w (.cells #[.bool x_g,.slice x_o x_n x_c,.int .i64 x_e] 32) (.cells #[.bool x_g,.slice x_o x_n x_c,.int .i64 x_e] 32)
  have q1:=heap_b2 w (.cells #[.bool x_g,.slice x_o x_n x_c,.int .i64 x_e] 32) (.cells #[.bool x_g,.slice x_o x_n x_c,.int .i64 x_e] 32)
  go_enter Tryz.func107,Tryz.ntmps107
  go_wp2_with fail
  refine (CR _ hb2 _ q1).mono ?_
  rintro _ w2 ⟨rfl,hb3⟩
  go_wp2
  all_goals refine bodyPost_ret (v:=.tuple #[.int .i64 R.1,.bool R.2,.int .i64 0]) (by simp [results,Tryz.results107,go_sem]) rfl ⟨rfl,bel_trans hb2 hb3⟩
def scV (A k:Int):Int:=if 0 <= k then A * 2 ^ k.toNat else A / 2 ^ (-k).toNat
def scC (A k:Int):Bool:=if 0 <= k then false else decide (A % 2 ^ (-k).toNat ≠ 0)
def qK (A B:Int):Int:=62 + (blen B:Int) - (blen A:Int)
def qR64 (way:Int) (a b:NumR):Int × Bool:=r64 way (a.ng != b.ng) false (scV (val a.d a.n) (qK (val a.d a.n) (val b.d b.n)) / val b.d b.n).toNat (a.e - b.e - qK (val a.d a.n) (val b.d b.n)) (scC (val a.d a.n) (qK (val a.d a.n) (val b.d b.n)) || decide (scV (val a.d a.n) (qK (val a.d a.n) (val b.d b.n)) % val b.d b.n ≠ 0))
set_option maxRecDepth 100000 in
set_option maxHeartbeats 1000000 in
theorem operate_near (F G:Value) (hF:∃ f,F=.func f #[] #[]) (hG:∃ f,G=.func f #[] #[]) (near:Int) (R:Value) (o:Option Addr) (n c:Nat) (w:World) :
    Calls Tryz.prog 164 #[.agg #[F,G],.int .i64 near,.int .i64 0,R,.slice o n c] w fun e w'=>e=.returned (.tuple #[.int .i64 near,.int .i64 0])∧Below w.heap.size w w':=by
  obtain ⟨f,rfl⟩:=hF
  obtain ⟨g,rfl⟩:=hG
  have CW:=fun W=>wayOf_any 0 W
  unfold wayV wayF at CW
  simp only [if_true] at CW
  have hst:∀ (p:Addr) (F:Nat) (m:Mode) (w:World),(store p (.func (.func F) #[] #[]) m).run Tryz.prog w=stored Tryz.prog w p (.func (.func F) #[] #[]) m:=fun p F m w=>run_store _ w p _ m rfl
  go_enter Tryz.func164,Tryz.ntmps164
  go_wp2_with fail
  refine (CW _).mono ?_
  rintro _ w2 ⟨rfl,hb2⟩
  have hb1:=bel_alloc w (.cells #[.func f #[] #[],.func g #[] #[]] 189)
  have hbw:=bel_trans hb1 hb2
  have q1:=heap_alloc_new w2 (.cells #[.nilFunc] 178)
  have y0:=blkC q1 0 rfl
  have y1:=blkF q1 0
  clear CW
  go_wp2
  all_goals refine bodyPost_ret (v:=.tuple #[.int .i64 near,.int .i64 0]) (by simp [results,Tryz.results164,go_sem]) rfl ⟨rfl,?_⟩
  all_goals exact bel_trans hbw (bel_alloc _ _)
set_option maxRecDepth 100000 in
theorem double_any (w:World):Calls Tryz.prog 163 #[] w fun e w'=>e=.returned (.agg #[.func (.func 69) #[] #[],.func (.func 134) #[] #[]])∧Below w.heap.size w w':=by
  have hmf:∀ (fn:Fn) (first cap:Array Value) (w:World),(Instr.makeFunc fn first cap).run Tryz.prog w=.ok (.func fn first cap) w:=fun _ _ _ _=>rfl
  have hst:∀ (p:Addr) (F:Nat) (m:Mode) (w:World),(store p (.func (.func F) #[] #[]) m).run Tryz.prog w=stored Tryz.prog w p (.func (.func F) #[] #[]) m:=fun p F m w=>run_store _ w p _ m rfl
  have q1:=heap_alloc_new w (.cells #[.nilFunc,.nilFunc] 189)
  have x0:=blkC q1 0 rfl
  have x1:=blkC q1 1 rfl
  have z0:=blkF q1 0
  have z1:=blkF q1 1
  go_enter Tryz.func163,Tryz.ntmps163
  go_wp2
  all_goals refine bodyPost_ret (v:=.agg #[.func (.func 69) #[] #[],.func (.func 134) #[] #[]]) (by simp [results,Tryz.results163,go_sem]) rfl ⟨rfl,?_⟩
  all_goals exact bel_alloc _ _
theorem run_from64 (n:Int) (w:World):(callFunc 44 #[.int .u64 n]).run Tryz.prog w=.ok (.value (.float .f64 n.toNat)) w:=by
  rw [run_callFunc_extern Tryz.func44 (by kernel_rfl) (by kernel_rfl) (by kernel_rfl) (e:=Extern.MathFloatBits.float64frombits) (by kernel_rfl)]
  rfl
theorem ret_float {k:FloatKind} {a b:Nat} (h:a=b):Ending.returned (.float k a)=.returned (.float k b):=by rw [h]
theorem bitsFloat (b:Int) (w:World) :
    Calls Tryz.prog 26 #[.int .i64 b] w fun e w'=>e=.returned (.float .f64 (wd b))∧w'=w:=by
  have hd:=run_from64
  go_enter Tryz.func26,Tryz.ntmps26
  go_wp2
  go_ret
  exact ⟨ret_float (by rw [IntKind.wrap_u64]; rfl),rfl⟩
theorem hideIt {p:Prop} (h:p):Hid p:=h
def told (b:Int):Int:=if cls b=4 then 9221120237041090561 else b
theorem no64 {b:Int} (hb:rng b):(FloatKind.f64.format.order (wd b) (wd b) != some .eq)=decide (cls b=4):=by
  have:=same_order hb hb
  unfold bne
  rw [this]; unfold same
  by_cases h:cls b=4 <;> simp [h]
theorem run_bits64 (n:Nat) (w:World):(callFunc 45 #[.float .f64 n]).run Tryz.prog w=.ok (.value (.int .u64 n)) w:=by
  rw [run_callFunc_extern Tryz.func45 (by kernel_rfl) (by kernel_rfl) (by kernel_rfl) (e:=Extern.MathFloatBits.float64bits) (by kernel_rfl)]
  rfl
theorem bitsOf (b:Int) (w:World) (hb:rng b) :
    Calls Tryz.prog 49 #[.float .f64 (wd b)] w fun e w'=>e=.returned (.int .i64 (told b))∧w'=w:=by
  have hd:=run_bits64
  have hn:=no64 hb
  have hw:Hid (wrap64 (wd b:Int)=b):=by unfold Hid wrap64 wd; unfold rng at hb; omega
  by_cases h:cls b=4
  . have hn':(FloatKind.f64.format.order (wd b) (wd b) != some .eq)=true:=by rw [hn]; simp [h]
    clear hn
    go_enter Tryz.func49,Tryz.ntmps49
    go_wp2
    go_ret
    exact ⟨b_ret_int (by simp [told,h]),rfl⟩
  . have hn':(FloatKind.f64.format.order (wd b) (wd b) != some .eq)=false:=by rw [hn]; simp [h]
    clear hn
    go_enter Tryz.func49,Tryz.ntmps49
    go_wp2
    go_ret
    exact ⟨b_ret_int (by rw [hw.out]; simp [told,h]),rfl⟩
def litR (g:Nat) (x:Int):NumR:=⟨false,some ⟨g,0,none⟩,1,1,fun _=>x,0⟩
theorem third (g k:Nat):qR64 0 (litR g 1) (litR k 3)=(4599676419421066581,true):=by
  have e:qR64 0 (litR g 1) (litR k 3)=qR64 0 (litR 0 1) (litR 0 3):=rfl
  rw [e]
  decide +kernel
end Go.Proofs.YtafnigjehkpggaaGreatDoor
