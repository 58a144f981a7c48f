/- Parts of the proof. -/
import Derived.Test.YtkajoieoggajiaaDoorPart6
import Derived.ArgAppend
import Derived.Lib.AppendZerosOnto
set_option linter.unusedVariables false
set_option linter.unusedSimpArgs false
namespace Go.Proofs.YtkajoieoggajiaaDoor.M
open Go Ieee
theorem q_rg {b:Int} (h:rng b):rng (rg b)∧0 <= rg b:=by unfold rng rg at *; split <;> omega
theorem q_cls {b:Int} (h:rng b):cls (rg b)=cls b:=by
  unfold rng at h; unfold cls rg fld frc
  by_cases h0:b < 0
  . rw [if_pos h0,show (b + 9223372036854775808) / 4503599627370496 % 2048=b / 4503599627370496 % 2048 from by omega,show (b + 9223372036854775808) % 4503599627370496=b % 4503599627370496 from by omega]
  . rw [if_neg h0]
theorem q_fin {b:Int} (h:pok b=true):¬ cls b=4:=by
  have:=pparts h
  unfold cls; rw [if_neg this]; split
  . split <;> omega
  . omega
theorem q_lt {a b:Int} (ha:rng a) (hb:rng b) (h1:¬ cls a=4) (h2:¬ cls b=4) (h:key a < key b):FloatKind.f64.format.order (wd a) (wd b)=some .lt:=by rw [order64 ha hb h1 h2,compare_lt h]
theorem q_gt {a b:Int} (ha:rng a) (hb:rng b) (h1:¬ cls a=4) (h2:¬ cls b=4) (h:key b < key a):FloatKind.f64.format.order (wd a) (wd b)=some .gt:=by rw [order64 ha hb h1 h2,compare_gt h]
theorem q_eq {a b:Int} (ha:rng a) (hb:rng b) (h1:¬ cls a=4) (h2:¬ cls b=4) (h:key a=key b):FloatKind.f64.format.order (wd a) (wd b)=some .eq:=by rw [order64 ha hb h1 h2,compare_eq h]
def tame (b:Int):Bool:=decide (rg b=0) || (decide (3931642474694443008 <= rg b) && decide (rg b < 5282722362905591808))
end Go.Proofs.YtkajoieoggajiaaDoor.M
namespace Go.Proofs.YtkajoieoggajiaaDoor
open Go Go.RowKit Go.Proofs.YtkajoieoggajiaaDoor.M
def q0 (b:Int):Int:=if b=-9223372036854775808 then 0 else b
theorem q_cell {w w':World} {p:Addr} {v:Value} (h:w.cell? p=some v) (hb:Below w.heap.size w w'):w'.cell? p=some v :=
  (hb.cell (World.block_lt_of_cell? w _ h)).trans h
theorem Q4.keeps {a b:Nat} {x0 x1 x2 x3:Value} {W W':World} (h:W.cell? ⟨a,0,none⟩=some x0∧W.cell? ⟨a,1,none⟩=some x1∧W.cell? ⟨b,0,none⟩=some x2∧W.cell? ⟨b,1,none⟩=some x3) (hb:Below W.heap.size W W') :
    W'.cell? ⟨a,0,none⟩=some x0∧W'.cell? ⟨a,1,none⟩=some x1∧W'.cell? ⟨b,0,none⟩=some x2∧W'.cell? ⟨b,1,none⟩=some x3 :=
  ⟨q_cell h.1 hb,q_cell h.2.1 hb,q_cell h.2.2.1 hb,q_cell h.2.2.2 hb⟩
theorem RSum.shape {w w':World} {A B:Int} {x y:NumR} {v:Value} (h:RSum w w' A B x.v y.v v):∃ ng so sn sc e,v=.agg #[.bool ng,.slice so sn sc,.int .i64 e]:=by
  rcases h.2 with ⟨ng,s,m,e,rfl,_,hA⟩ | ⟨_,rfl⟩ | ⟨_,rfl⟩
  . obtain ⟨so,sn,sc,rfl⟩:=hA.num.shape
    exact ⟨_,_,_,_,_,rfl⟩
  . exact ⟨_,_,_,_,_,rfl⟩
  . exact ⟨_,_,_,_,_,rfl⟩
def Src (B:Nat) (w:World) (n:Nat) (r:Nat->NumR) (V:Int) (v:Value):Prop:=DAn B w V v∨∃ i,i < n∧v=(r i).v∧V=(r i).V
theorem Src.keeps {B:Nat} {w w':World} {n:Nat} {r:Nat->NumR} {V:Int} {v:Value} (h:Src B w n r V v) (hb:Below w.heap.size w w'):Src B w' n r V v:=by
  rcases h with h | h
  . exact .inl (h.keeps hb)
  . exact .inr h
theorem ints_set3 {w:World} {g o0 o1 o2:Nat} {xs:Array Value} {z:Nat × Nat} (hg:w.heap[g]?=some (.cells xs 30 z)) (x y u:Value):∀ (g':Nat) (cur:Array Value) z',w.heap[g']?=some (.cells cur 3 z')->(((w.setCell ⟨g,o0,none⟩ x).setCell ⟨g,o1,none⟩ y).setCell ⟨g,o2,none⟩ u).heap[g']?=w.heap[g']?:=fun g' cur z' hc=>by
  refine (wr3 w g o0 o1 o2 x y u).block g' (Array.getElem?_eq_some_iff.1 hc).1 fun e=>?_
  subst e
  rw [hg] at hc
  simp at hc
theorem blk_on {W y:World} (hb:Below W.heap.size W y) {g:Nat} {X:Obj} (h:W.heap[g]?=some X):y.heap[g]?=some X:=(hb.block _ (Array.getElem?_eq_some_iff.1 h).1).trans h
theorem dan_res3 {B:Nat} {w3:World} {V:Int} {v:Value} (hv:DAn B w3 V v) {g:Nat} {xs:Array Value} {z:Nat × Nat} (hg:w3.heap[g]?=some (.cells xs 30 z)) (a b c:Value) :
    DAn B (((w3.setCell ⟨g,0,none⟩ a).setCell ⟨g,1,none⟩ b).setCell ⟨g,2,none⟩ c) V v:=hv.of_blocks (ints_set3 hg a b c)
def Det (a1 a2 b1 b2 V:Int):Prop:=∃ C D,C * 2 ^ 4194304=a1 * b2∧D * 2 ^ 4194304=a2 * b1∧V=C - D
theorem Det.unique {a1 a2 b1 b2 V V':Int} (h:Det a1 a2 b1 b2 V) (k:Det a1 a2 b1 b2 V'):V=V':=by
  obtain ⟨C,D,h1,h2,rfl⟩:=h
  obtain ⟨C',D',k1,k2,rfl⟩:=k
  rw [scale_inj (h1.trans k1.symm),scale_inj (h2.trans k2.symm)]
theorem num_half {x:NumR} {V:Int} (ok:okR x=true) (hV:x.V=V) (hb:Bd 4000 V):Half x:=by
  have hy:=(okR_dy ok).1
  unfold Half
  rcases hy.form with ⟨_,_,h0⟩ | ⟨h0,_⟩
  . omega
  . rw [hV] at hy
    have:=bd_form hb hy (by omega) h0
    omega
theorem cell_set3 {W:World} {p:Addr} {v:Value} (h:W.cell? p=some v) {g o0 o1 o2:Nat} (x y z:Value) (hg:p.block ≠ g):(((W.setCell ⟨g,o0,none⟩ x).setCell ⟨g,o1,none⟩ y).setCell ⟨g,o2,none⟩ z).cell? p=some v :=
  ((wr3 W g o0 o1 o2 x y z).cell (World.block_lt_of_cell? W _ h) hg).trans h
set_option maxRecDepth 100000 in
set_option maxHeartbeats 2000000 in
theorem numbersF {FT:Nat} (ao:Option Addr) (n ca:Nat) (d:Nat->Int) (w:World) (hR:Row w ao n ca d) (hn:n <= 100000) (ok:∀ i,i < n->pok (d i)=true) (H:Hold4 w) :
    Calls Tryd.prog 90 #[.agg #[.func (.func 73) #[] #[],.func (.func 12) #[] #[],.func (.func 19) #[] #[],.func (.func FT) #[] #[]],.slice ao n ca] w fun x w'=>∃ g q,x=.returned (.slice (some ⟨g,0,none⟩) n n)∧Nums w' (some ⟨g,0,none⟩) n n q∧Below w.heap.size w w'∧∀ i,i < n->okR (q i)=true∧(q i).V=patV (d i)∧Half (q i):=by
  have hst:∀ p F c m w,(store p (.func (.func F) #[] c) m).run Tryd.prog w=stored Tryd.prog w p (.func (.func F) #[] c) m:=fun p F c m w=>run_store _ w p _ m rfl
  have hE:∀ (cap:Array Value) (w:World),(callFunc 19 cap).run Tryd.prog w=.ok (.enter 19 cap) w:=by intro cap w; simp [go_sem]
  have hla:=hR.le
  have hma:=hR.max
  have hmake:=make_nums n hn
  have hbA:=bel_alloc w (.cells #[.func (.func 73) #[] #[],.func (.func 12) #[] #[],.func (.func 19) #[] #[],.func (.func FT) #[] #[]] 92)
  have gA:=heap_a1 w (.cells #[.func (.func 73) #[] #[],.func (.func 12) #[] #[],.func (.func 19) #[] #[],.func (.func FT) #[] #[]] 92)
  have fA:=blkC gA 2 rfl
  go_enter Tryd.func90,Tryd.ntmps90
  go_wp2_with fail
  clear fA
  have HSA:Hid ((w.alloc (.cells #[.func (.func 73) #[] #[],.func (.func 12) #[] #[],.func (.func 19) #[] #[],.func (.func FT) #[] #[]] 92)).heap.size=w.heap.size + 1):=size_alloc _ _
  generalize w.alloc (.cells #[.func (.func 73) #[] #[],.func (.func 12) #[] #[],.func (.func 19) #[] #[],.func (.func FT) #[] #[]] 92)=wa at hbA gA HSA ⊢
  have hb0:=bel_alloc wa (.cells (madeCells #[.bool false,.slice none 0 0,.int .i64 0] (n * 3)) 30)
  have g0:=heap_a1 wa (.cells (madeCells #[.bool false,.slice none 0 0,.int .i64 0] (n * 3)) 30)
  have HB0:Hid (BlkN (wa.alloc (.cells (madeCells #[.bool false,.slice none 0 0,.int .i64 0] (n * 3)) 30)) wa.heap.size n 0 (fun _=>default)):=⟨_,g0,by rw [size_madeCells],fun i hi=>by omega⟩
  clear g0 hmake
  generalize wa.alloc (.cells (madeCells #[.bool false,.slice none 0 0,.int .i64 0] (n * 3)) 30)=wx at hb0 HB0 ⊢
  rw [HSA.out] at HB0
  go_loopw [12] (fun iv wr=>∃ (k:Nat) (q:Nat->NumR),k <= n∧iv=.int .i64 k∧Hid (BlkN wr (w.heap.size + 1) n k q)∧Hid (∀ i,i < k->okR (q i)=true∧(q i).V=patV (d i)∧Half (q i))∧Hid (∀ i b' off,i < k->(q i).ao=some ⟨b',off,none⟩->0 < (q i).n->(w.heap.size + 1) < b')∧Below wa.heap.size wa wr) (fun iv _=>n - (intOf iv).toNat)
  case atStart=>exact ⟨0,fun _=>default,Nat.zero_le _,(by first | rfl | simp),HB0,fun i hi=>by omega,fun i b' off hi=>by omega,hb0⟩
  case round=>
    obtain ⟨k,q,hk,rfl,HQ,HF,HG,hbw⟩:=hrel
    clear HB0 hb0
    by_cases hlt:k < n
    . obtain ⟨ba,oa,rfl,hba,hca⟩:=hR.spot (by omega)
      have c0:=q_cell (hca k hlt) (bel_trans hbA hbw)
      have c1:=q_cell (blkC gA 2 rfl) hbw
      have HW:=H.keeps (bel_trans hbA hbw)
      have CP:Hid (∀ W,Below wr.heap.size wr W->Calls Tryd.prog 19 #[.int .i64 (d k)] W fun r w'=>∃ v,r=.returned (.tuple #[v,.int .i64 0])∧DAns W w' (patV (d k)) v):=fun W h=>of_ok (ok k hlt) (HW.keeps h)
      obtain ⟨cur,hcur,hsz,hcells⟩:=HQ.out
      have e0:k * 3 < cur.size:=by omega
      have e1:k * 3 + 1 < cur.size:=by omega
      have e2:k * 3 + 2 < cur.size:=by omega
      obtain ⟨v0,hv0⟩:∃ v,cur[k * 3]?=some v:=⟨_,Array.getElem?_eq_getElem e0⟩
      obtain ⟨v1,hv1⟩:∃ v,cur[k * 3 + 1]?=some v:=⟨_,Array.getElem?_eq_getElem e1⟩
      obtain ⟨v2,hv2⟩:∃ v,cur[k * 3 + 2]?=some v:=⟨_,Array.getElem?_eq_getElem e2⟩
      have HV:Hid (cur[k * 3]?=some v0∧cur[k * 3 + 1]?=some v1∧cur[k * 3 + 2]?=some v2):=⟨hv0,hv1,hv2⟩
      have HCUR:Hid (wr.heap[(w.heap.size + 1)]?=some (.cells cur 30 (0,0))):=hcur
      have hgs:(w.heap.size + 1) < wr.heap.size:=(Array.getElem?_eq_some_iff.1 hcur).1
      have HBA:Hid (ba < w.heap.size):=hba
      clear hcells hv0 hv1 hv2 hcur hsz e0 e1 e2 hca hba
      have i0:(0:Int) <= (k:Int):=by omega
      have i1:(k:Int) < (n:Int):=by omega
      have hbp:Hid (Bd 4000 (patV (d k))):=patV_bd (ok k hlt)
      generalize hdk:d k=dk at c0 CP hbp
      generalize hpv:patV dk=pv at CP hbp
      have HPV:Hid (patV (d k)=pv):=by rw [hdk]; exact hpv
      clear hdk hpv
      have kc0:wr.drew.cell? ⟨ba,oa + k,none⟩=some (.int .i64 dk)∧wr.drew.cell? ⟨w.heap.size,2,none⟩=some (.func (.func 19) #[] #[]):=⟨c0,c1⟩
      have hb1:=bel_refl wr
      go_wp2_with fail
      go_region_held3 (fun W=>W.cell? ⟨ba,oa + k,none⟩=some (.int .i64 dk)∧W.cell? ⟨w.heap.size,2,none⟩=some (.func (.func 19) #[] #[]))
        (first | assumption | exact ⟨cell_set3 kc1.1 _ _ _ (show ba ≠ (w.heap.size + 1) by have:=HBA.out; omega),cell_set3 kc1.2 _ _ _ (show w.heap.size ≠ (w.heap.size + 1) by omega)⟩ | fail)
        ((go_at_call 19; refine (CP.out _ hb1.drew).mono ?_; rintro y w3 ⟨s,rfl,hA⟩; have hbv1:=hA.below; have kc1:=And.intro (q_cell kc0.1 hbv1) (q_cell kc0.2 hbv1); obtain ⟨sg0,so,sn,sc,se,rfl⟩:=dans_shape hA; have q0:=(hbv1.block (w.heap.size + 1) hgs).trans HCUR.out; have x0:=blkC q0 (k * 3) HV.out.1; have x1:=blkC q0 (k * 3 + 1) HV.out.2.1; have x2:=blkC q0 (k * 3 + 2) HV.out.2.2; have z0:=blkF q0 (k * 3); have z1:=blkF q0 (k * 3 + 1); have z2:=blkF q0 (k * 3 + 2)))
      all_goals go_wp2
      all_goals
        go_roundw
        case rel=>
          have hfr:∀ b' off,so=some ⟨b',off,none⟩->0 < sn->w.heap.size + 1 < b':=fun b' off he _=>by
            obtain ⟨ng,s,m,e,heq,_,hAn⟩:=hA
            simp only [Value.agg.injEq,Array.mk.injEq,List.cons.injEq,Value.bool.injEq,Value.int.injEq,true_and,and_true] at heq
            obtain ⟨_,rfl,_⟩:=heq
            obtain ⟨_,_,_,_,hgd⟩:=hAn.open
            have h9:=hgd b' off he
            have h8:w.heap.size + 1 < wr.drew.heap.size:=hgs
            omega
          obtain ⟨x,hxv,hxr,hxo,hxV⟩:=hA.num.open (hbp.out.ok (by omega))
          have hxe:x.ng=sg0∧x.ao=so∧x.n=sn∧x.cap=sc∧x.e=se:=by
            unfold NumR.v at hxv
            simp only [Value.agg.injEq,Array.mk.injEq,List.cons.injEq,Value.bool.injEq,Value.int.injEq,Value.slice.injEq,true_and,and_true] at hxv
            obtain ⟨e1,⟨e2,e3,e4⟩,e5⟩:=hxv
            exact ⟨e1.symm,e2.symm,e3.symm,e4.symm,e5.symm⟩
          obtain ⟨rfl,rfl,rfl,rfl,rfl⟩:=hxe
          refine ⟨k + 1,updN q k x,by omega,by go_num,BlkN.step (x:=x) HQ.out (bel_trans hb1.drew hbv1) hxr hlt HG.out hfr,fun i hi=>?_,fun i b' off hi he hn'=>?_,bel_set3' (bel_trans hbw (bel_trans hb1.drew hbv1)) (by have:=HSA.out; omega) _ _ _⟩
          . by_cases e:i=k
            . subst e
              rw [updN_same]
              exact ⟨hxo,hxV.trans HPV.out.symm,num_half hxo hxV hbp.out⟩
            . rw [updN_other _ _ e]
              exact HF.out i (by omega)
          . by_cases e:i=k
            . subst e
              rw [updN_same] at he hn'
              exact hfr b' off he hn'
            . rw [updN_other _ _ e] at he hn'
              exact HG.out i b' off (by omega) he hn'
        case measure=>simp [intOf]; omega
    . obtain rfl:k=n:=by omega
      go_wp2
      go_ret
      exact ⟨_,q,rfl,HQ.out.nums hn,bel_trans hbA hbw,HF.out⟩
end Go.Proofs.YtkajoieoggajiaaDoor
namespace Go.Proofs.YtkajoieoggajiaaDoor
open Go Go.RowKit Go.Proofs.YtkajoieoggajiaaDoor.M Ieee
def RdP (way V p:Int):Prop:=∃ (A:Int) (r0:Nat) (left:Int),V=sg (decide (V < 0)) A∧Rung A r0 left∧p=patS (decide (V < 0)) (rTo way (decide (V < 0)) r0 left)
theorem RdP.unique {way V p q:Int} (h:RdP way V p) (k:RdP way V q):p=q:=by
  obtain ⟨A,r0,l,h1,h2,h3⟩:=h
  obtain ⟨B,s0,m,k1,k2,k3⟩:=k
  have hAB:=sg_inj (h1.symm.trans k1)
  subst hAB
  obtain ⟨e1,e2⟩:=h2.unique k2
  subst e1 e2
  rw [h3,k3]
end Go.Proofs.YtkajoieoggajiaaDoor
namespace Go.Proofs.YtkajoieoggajiaaDoor.M
open Go Ieee
end Go.Proofs.YtkajoieoggajiaaDoor.M
namespace Go.Proofs.YtkajoieoggajiaaDoor
open Go Go.RowKit Go.Proofs.YtkajoieoggajiaaDoor.M
theorem run_diffN {P:Program} (t:TypeId) {p q:Int} {x y:Nat} (hx:FW p x) (hy:FW q y) (h:cls (fsum p (neg q)) ≠ 4) (w:World) :
    (binOp .sub t (.float .f64 x) (.float .f64 y)).run P w=.ok (.float .f64 (wd (fsum p (neg q)))) w:=by
  obtain ⟨z,w',hr,hz⟩:=run_farith (P:=P) .sub (.inr (.inl rfl)) t x y w
  have hf:floatBits .sub .f64 x y=Ieee.double.sub x y:=rfl
  rw [hf] at hz
  rcases sub_FW hx hy with ⟨z',e1,e2⟩ | ⟨e1,e2⟩
  . rcases hz with ⟨h1,h2⟩ | ⟨h1,_⟩
    . rw [e1] at h1; cases h1
      rw [hr,h2,(e2.of h).2.1]
    . rw [e1] at h1; cases h1
  . exact absurd (by rw [e2]; exact nan_canon) h
theorem V_zero_iff {r:Nat}:(V Ieee.double r:Int)=0 ↔ r=0:=by
  constructor
  . intro h
    by_cases h0:r=0
    . exact h0
    . have:=V_lt Ieee.double (show 0 < r by omega)
      rw [V_zero] at this
      omega
  . rintro rfl
    rw [V_zero]
    rfl
theorem iV_key {p:Int} (hp:rng p):(iV p < 0 ↔ key p < 0)∧(0 < iV p ↔ 0 < key p):=by
  have hz:=@V_zero_iff (rg p).toNat
  have hr:=q_rg hp
  unfold rng at hp
  have hv:(0:Int) <= (V Ieee.double (rg p).toNat:Int):=by omega
  by_cases h:p < 0
  . have e1:iV p=-(V Ieee.double (rg p).toNat:Int):=by unfold iV sg; simp [h]
    have e2:key p=-(rg p):=by unfold key rg; rw [if_pos h,if_pos h]
    rw [e1,e2]
    constructor <;> constructor <;> intro g <;> omega
  . have e1:iV p=(V Ieee.double (rg p).toNat:Int):=by unfold iV sg; simp [h]
    have e2:key p=rg p:=by unfold key rg; rw [if_neg h,if_neg h]
    rw [e1,e2]
    constructor <;> constructor <;> intro g <;> omega
end Go.Proofs.YtkajoieoggajiaaDoor
namespace Go.Proofs.YtkajoieoggajiaaDoor
open Go Go.RowKit Go.Proofs.YtkajoieoggajiaaDoor.M Ieee
end Go.Proofs.YtkajoieoggajiaaDoor
namespace Go.Proofs.YtkajoieoggajiaaDoor
open Go Go.RowKit Go.Proofs.YtkajoieoggajiaaDoor.M
theorem Nums.at {w:World} {g n:Nat} {q:Nat->NumR} (h:Nums w (some ⟨g,0,none⟩) n n q) (i:Nat) (hi:i < n):At3 w g (i * 3) (q i):=by
  obtain ⟨b,off,he,hlt,hc⟩:=h.spot (by omega)
  cases he
  have:=hc i hi
  rwa [Nat.zero_add] at this
structure Pts (w:World) (ao:Option Addr) (n cap:Nat) (px py:Nat->Int):Prop where
  le:n <= cap
  max:cap <= 9223372036854775807
  spot:0 < n->∃ b off,ao=some ⟨b,off,none⟩∧b < w.heap.size∧∀ i,i < n->w.cell? ⟨b,off + i * 2,none⟩=some (.int .i64 (px i))∧w.cell? ⟨b,off + i * 2 + 1,none⟩=some (.int .i64 (py i))
theorem Pts.keeps {w w':World} {ao:Option Addr} {n cap:Nat} {px py:Nat->Int} (h:Pts w ao n cap px py) (hb:Below w.heap.size w w'):Pts w' ao n cap px py :=
  ⟨h.le,h.max,fun hn=>by
    obtain ⟨b,off,rfl,hlt,hc⟩:=h.spot hn
    exact ⟨b,off,rfl,Nat.lt_of_lt_of_le hlt hb.size,fun i hi=>⟨(hb.cell (p:=⟨b,off + i * 2,none⟩) hlt).trans (hc i hi).1,(hb.cell (p:=⟨b,off + i * 2 + 1,none⟩) hlt).trans (hc i hi).2⟩⟩⟩
def l2 (a b:Int) (i:Nat):Int:=if i=0 then a else b
def l3 (a b c:Int) (i:Nat):Int:=if i=0 then a else if i=1 then b else c
end Go.Proofs.YtkajoieoggajiaaDoor
namespace Go.Proofs.YtkajoieoggajiaaDoor
open Go Go.RowKit Go.Proofs.YtkajoieoggajiaaDoor.M Ieee
end Go.Proofs.YtkajoieoggajiaaDoor
namespace Go.Proofs.YtkajoieoggajiaaDoor
open Go Go.RowKit Go.Proofs.YtkajoieoggajiaaDoor.M
structure Ls where
  n:Nat
  d:Nat->Int
def Ls.add (s:Ls) (b:Int):Ls:=if rg b=0 then s else ⟨s.n + 1,upd s.d s.n b⟩
def Ls.same (s t:Ls):Prop:=s.n=t.n∧∀ i,i < s.n->s.d i=t.d i
theorem Ls.same.add {s t:Ls} (h:s.same t) (b:Int):(s.add b).same (t.add b):=by
  unfold Ls.add
  split
  . exact h
  . refine ⟨by show s.n + 1=t.n + 1; rw [h.1],fun i hi=>?_⟩
    show upd s.d s.n b i=upd t.d t.n b i
    by_cases e:i=s.n
    . subst e; rw [upd_same,h.1,upd_same]
    . rw [upd_other _ _ e,upd_other _ _ (by rw [<- h.1]; exact e)]
      exact h.2 i (by have:i < s.n + 1:=hi; omega)
def gq (d:Nat->Int) (q:Int):Nat->Int
  | 0=>q
  | k + 1=>fsum (gq d q k) (d k)
def gl (d:Nat->Int) (q:Int) (k:Nat):Int:=sL (gq d q k) (d k)
def gs (d:Nat->Int) (q:Int):Nat->Ls
  | 0=>⟨0,d⟩
  | k + 1=>(gs d q k).add (gl d q k)
def gaveX:Ending:=.panicked [{ v:=.iface 24 (.int .i64 14),recovered:=false }]
structure Own (B:Nat) (w:World) (v:Value) (w':World) (v':Value) (s:Ls):Prop where
  out:Out B w' v' s.n s.d
  gr:w.grownBy w' v.ownBlock
  at':v'.ownBlock=v.ownBlock∨∀ k,v'.ownBlock=some k->w.heap.size <= k
theorem Own.refl {B:Nat} {w:World} {v:Value} {s:Ls} (h:Out B w v s.n s.d):Own B w v w v s:=⟨h,World.grownBy.refl _ _,.inl rfl⟩
theorem Own.below {B:Nat} {w w':World} {v v':Value} {s:Ls} (h:Own B w v w' v' s) (hO:∀ k,v.ownBlock=some k->B <= k) (hB:B <= w.heap.size):Below B w w' :=
  (Below.refl B w).grown h.gr hB hO
def InB (w:World) (g cap N:Nat) (s:Ls):Prop:=∃ cur,w.heap[g]?=some (.cells cur 3 (0,0))∧cur.size=cap∧∀ i,i < N->cur[i]?=some (.int .i64 (s.d i))
theorem InB.keeps {w w':World} {g cap N:Nat} {s:Ls} (h:InB w g cap N s) (hb:Below w.heap.size w w'):InB w' g cap N s:=by
  obtain ⟨cur,h1,h2⟩:=h
  exact ⟨cur,(hb.block _ (Array.getElem?_eq_some_iff.1 h1).1).trans h1,h2⟩
theorem InB.out {w:World} {B g cap N:Nat} {s:Ls} (h:InB w g cap N s) (hn:s.n <= N) (hN:N <= cap) (hB:B <= g) (hm:cap <= 9223372036854775807):Out B w (.slice (some ⟨g,0,none⟩) s.n cap) s.n s.d:=by
  obtain ⟨cur,h1,h2,h3⟩:=h
  refine ⟨by rw [vals_length]; omega,.inr ⟨g,cap,cur,rfl,hB,h1,by omega,by unfold maxLen; omega,by omega,?_⟩⟩
  apply vals_ext (by simp; omega)
  intro i hi
  rw [List.getElem?_take,if_pos (by omega),Array.getElem?_toList]
  exact h3 i (by omega)
theorem grown_bel {B:Nat} {w w':World} {g:Nat} (h:w.grownBy w' (some g)) (hB:B <= g) (hw:B <= w.heap.size):Below B w w' :=
  (Below.refl B w).grown h hw (fun k hk=>by simp at hk; omega)
def LsO (B:Nat) (w:World) (v:Value) (s:Ls):Prop:=Out B w v s.n s.d∨(s.n=0∧∃ ad,v=.slice (some ad) 0 0)
def XGr (B:Nat) (w:World) (v:Value) (w':World):Prop:=w.grownBy w' none∨∃ k,v.ownBlock=some k∧B <= k∧w.grownBy w' (some k)
theorem XGr.below {B:Nat} {w w':World} {v:Value} (h:XGr B w v w') (hB:B <= w.heap.size):Below B w w':=by
  rcases h with h | ⟨k,_,hk,h⟩
  . exact (Below.refl B w).grown h hB (fun k hk=>by cases hk)
  . exact grown_bel h hk hB
theorem XGr.size {B:Nat} {w w':World} {v:Value} (h:XGr B w v w'):w.heap.size <= w'.heap.size:=by
  rcases h with h | ⟨k,_,_,h⟩ <;> exact h.size
theorem LsO.lower {B B':Nat} {w:World} {v:Value} {s:Ls} (h:LsO B w v s) (hB:B' <= B):LsO B' w v s:=by
  rcases h with h | h
  . exact .inl (h.lower hB)
  . exact .inr h
def Ls.fin (s:Ls):Prop:=∀ i,i < s.n->rng (s.d i)∧pok (s.d i)=true
theorem Ls.fin.add {s:Ls} (h:s.fin) {b:Int} (hb:rng b) (pb:pok b=true):(s.add b).fin:=by
  unfold Ls.add
  split
  . exact h
  . intro i hi
    show rng (upd s.d s.n b i)∧pok (upd s.d s.n b i)=true
    by_cases e:i=s.n
    . subst e; rw [upd_same]; exact ⟨hb,pb⟩
    . rw [upd_other _ _ e]
      exact h i (by have:i < s.n + 1:=hi; omega)
theorem LsO.shape {B:Nat} {w:World} {v:Value} {s:Ls} (h:LsO B w v s):∃ ao cap,v=.slice ao s.n cap:=by
  rcases h with h | ⟨h0,ad,rfl⟩
  . obtain ⟨ao,cap,e,_⟩:=h.row
    exact ⟨ao,cap,e⟩
  . exact ⟨some ad,0,by rw [h0]⟩
def sq (d:Nat->Int) (b:Int):Nat->Int
  | 0=>fprod (d 0) b
  | k + 1=>fsum (fprod (d (k + 1)) b) (fsum (sq d b k) (prL (d (k + 1)) b))
def sx (d:Nat->Int) (b:Int):Nat->Bool
  | 0=>pX (d 0) b
  | k + 1=>sx d b k && (pX (d (k + 1)) b && (pok (sL (sq d b k) (prL (d (k + 1)) b)) && fX (fprod (d (k + 1)) b) (fsum (sq d b k) (prL (d (k + 1)) b))))
def XR (w:World) (ok:Bool) (s:Ls) (r:Ending) (w':World):Prop:=((ok=true∧∃ v,r=.returned v∧LsO w.heap.size w' v s)∨(ok=false∧r=gaveX))∧Below w.heap.size w w'
def XA (w:World) (ok:Bool) (s:Ls) (r:Ending) (w':World):Prop:=((ok=true∧∃ v,r=.returned (.tuple #[v,.int .i64 0])∧LsO w.heap.size w' v s)∨(ok=false∧r=.returned (.tuple #[.slice none 0 0,.int .i64 14])))∧Below w.heap.size w w'
end Go.Proofs.YtkajoieoggajiaaDoor
namespace Go.Proofs.YtkajoieoggajiaaDoor
open Go Go.RowKit Go.Proofs.YtkajoieoggajiaaDoor.M Ieee
end Go.Proofs.YtkajoieoggajiaaDoor
namespace Go.Proofs.YtkajoieoggajiaaDoor
open Go Go.RowKit Go.Proofs.YtkajoieoggajiaaDoor.M
theorem LsO.row {B:Nat} {w:World} {v:Value} {s:Ls} (h:LsO B w v s):∃ ao cap,v=.slice ao s.n cap∧Row w ao s.n cap s.d:=by
  rcases h with h | ⟨h0,ad,rfl⟩
  . exact h.row
  . rw [h0]
    exact ⟨some ad,0,rfl,Nat.le_refl _,by decide,(fun q=>by cases q),fun q=>by omega⟩
theorem XA.yes {w w':World} {ok:Bool} {s:Ls} {r:Ending} (h:XA w ok s r w') (ho:ok=true):∃ ao cap,r=.returned (.tuple #[.slice ao s.n cap,.int .i64 0])∧Row w' ao s.n cap s.d∧Below w.heap.size w w':=by
  obtain ⟨(⟨_,v,h1,h2⟩ | ⟨h1,_⟩),hb⟩:=h
  . obtain ⟨ao,cap,rfl,hR⟩:=h2.row
    exact ⟨ao,cap,h1,hR,hb⟩
  . rw [ho] at h1; cases h1
theorem XA.no {w w':World} {ok:Bool} {s:Ls} {r:Ending} (h:XA w ok s r w') (ho:ok=false):r=.returned (.tuple #[.slice none 0 0,.int .i64 14])∧Below w.heap.size w w':=by
  obtain ⟨(⟨h1,_⟩ | ⟨_,h1⟩),hb⟩:=h
  . rw [ho] at h1; cases h1
  . exact ⟨h1,hb⟩
end Go.Proofs.YtkajoieoggajiaaDoor
namespace Go.Proofs.YtkajoieoggajiaaDoor
open Go Go.RowKit Go.Proofs.YtkajoieoggajiaaDoor.M Ieee
theorem pr_1 {a b h M:Int} (h1:((a.natAbs:Int) + b.natAbs) <= M):((a + b).natAbs:Int) <= M:=by omega
theorem pr_2 {a b h M:Int} (ha:2 * (a.natAbs:Int) <= M) (hb:2 * (b.natAbs:Int) <= M) (e1:(h - (a + b)).natAbs <= (a - (a + b)).natAbs):((h - a).natAbs:Int) <= M:=by omega
theorem pr_3 {a b h v M:Int} (ha:2 * (a.natAbs:Int) <= M) (e2:(h - (a + b)).natAbs <= (b - (a + b)).natAbs) (e3:(v - (h - a)).natAbs <= (b - (h - a)).natAbs):((h - v).natAbs:Int) <= M:=by omega
theorem pr_4 {a b h v u M:Int} (ha:2 * (a.natAbs:Int) <= M) (e2:(h - (a + b)).natAbs <= (b - (a + b)).natAbs) (e3:(v - (h - a)).natAbs <= (b - (h - a)).natAbs) (e4:(u - (h - v)).natAbs <= (a - (h - v)).natAbs):((a - u).natAbs:Int) <= M∧(a - u).natAbs <= 2 * (h - (a + b)).natAbs:=by omega
theorem pr_5 {a b h v M:Int} (hb:2 * (b.natAbs:Int) <= M) (e1:(h - (a + b)).natAbs <= (a - (a + b)).natAbs) (e3:(v - (h - a)).natAbs <= (b - (h - a)).natAbs):((b - v).natAbs:Int) <= M∧(b - v).natAbs <= 2 * (h - (a + b)).natAbs:=by omega
theorem pr_6 {S h x y p q M:Int} (hM:(S.natAbs:Int) <= M) (r:1000 * (h - S).natAbs <= S.natAbs) (g1:x.natAbs <= 2 * (h - S).natAbs) (g2:y.natAbs <= 2 * (h - S).natAbs) (n1:(p - x).natAbs <= (0 - x).natAbs) (n2:(q - y).natAbs <= (0 - y).natAbs):((p + q).natAbs:Int) <= M:=by omega
theorem sum_fin {p q:Int} (hp:M.rng p) (hq:M.rng q) (pp:pok p=true) (pq:pok q=true) (h1:2 * ((iV p).natAbs:Int) <= maxV) (h2:2 * ((iV q).natAbs:Int) <= maxV):pok (fsum p q)=true∧pok (sL p q)=true:=by
  have rh:=fsum_rng hp hq
  have rv:M.rng (sV p q):=fsum_rng rh (neg_rng hp)
  have rU:=fsum_rng rh (neg_rng rv)
  have rX:=fsum_rng hp (neg_rng rU)
  have rY:=fsum_rng hq (neg_rng rv)
  have Sh:=stp_sum hp hq pp pq
  have hM:=pr_1 (h:=0) (a:=iV p) (b:=iV q) (M:=maxV) (by omega)
  have ph:=Sh.fin hM
  have nh:=Sh.nr ph
  have e1:=nh.2 _ (fl_iV p)
  have e2:=nh.2 _ (fl_iV q)
  have Sv:=stp_diff rh hp ph pp
  have pv:=Sv.fin (pr_2 h1 h2 e1)
  have nv:=Sv.nr pv
  have e3:=nv.2 _ (fl_iV q)
  have SU:=stp_diff rh rv ph pv
  have pU:=SU.fin (pr_3 h1 e2 e3)
  have e4:=(SU.nr pU).2 _ (fl_iV p)
  have SX:=stp_diff hp rU pp pU
  obtain ⟨g1,g2⟩:=pr_4 h1 e2 e3 e4
  have pX:=SX.fin g1
  have SY:=stp_diff hq rv pq pv
  obtain ⟨g3,g4⟩:=pr_5 h2 e1 e3
  have pY:=SY.fin g3
  exact ⟨ph,(stp_sum rX rY pX pY).fin (pr_6 hM (nr_rel nh) g2 g4 ((SX.nr pX).2 _ fl_zero) ((SY.nr pY).2 _ fl_zero))⟩
end Go.Proofs.YtkajoieoggajiaaDoor
namespace Go.Proofs.YtkajoieoggajiaaDoor
open Go Go.RowKit Go.Proofs.YtkajoieoggajiaaDoor.M
theorem cls_nought {b:Int} (hb:rng b):cls b=0 ↔ rg b=0:=by
  have h1:=q_cls hb
  rw [<- h1]
  constructor
  . intro h
    have hr:=(q_rg hb).1
    have h0:0 <= rg b:=(q_rg hb).2
    generalize rg b=r at *
    unfold rng at hr
    unfold cls fld frc at h
    split at h
    . split at h <;> omega
    . split at h
      . split at h
        . omega
        . omega
      . omega
  . intro h; rw [h]; decide
theorem Ls.same.refl (s:Ls):s.same s:=⟨rfl,fun _ _=>rfl⟩
theorem Ls.same.symm {s t:Ls} (h:s.same t):t.same s:=⟨h.1.symm,fun i hi=>(h.2 i (by rw [h.1]; exact hi)).symm⟩
theorem Ls.same.trans {s t u:Ls} (h:s.same t) (k:t.same u):s.same u:=⟨h.1.trans k.1,fun i hi=>(h.2 i hi).trans (k.2 i (by rw [<- h.1]; exact hi))⟩
def Lo (x y:Int):Prop:=∃ s:Nat,(x.natAbs:Int) < 2 ^ s∧(2 ^ s:Int) ∣ y
theorem dvd_abs_le {x y:Int} (h:x ∣ y) (h0:y ≠ 0) (hx:0 < x):x <= (y.natAbs:Int):=by
  have h1:x ∣ (y.natAbs:Int):=Int.dvd_natAbs.2 h
  exact Int.le_of_dvd (by omega) h1
theorem Lo.trans {x y z:Int} (h:Lo x y) (hy:y ≠ 0) (k:Lo y z):Lo x z:=by
  obtain ⟨s,h1,h2⟩:=h
  obtain ⟨t,k1,k2⟩:=k
  have h3:=dvd_abs_le h2 hy (p2 s)
  have h4:s < t:=p2lt (Int.lt_of_le_of_lt h3 k1)
  exact ⟨s,h1,Int.dvd_trans (p2dvd (by omega)) k2⟩
theorem iV_some {b:Int} (hb:rng b) (pb:pok b=true) (h:rg b ≠ 0):iV b ≠ 0∧pmag b ≠ 0:=by
  have e:=iV_form hb pb
  have hm:pmag b ≠ 0:=by
    intro q
    have hc:cls b=0:=by
      have hf:fld b ≠ 2047:=by simpa [pok] using pb
      have:=frc_le b
      unfold pmag at q
      rw [if_neg hf] at q
      unfold cls
      rw [if_neg hf]
      by_cases h0:fld b=0
      . rw [if_pos h0] at q ⊢
        rw [if_pos q]
      . rw [if_neg h0] at q
        omega
    exact h ((cls_nought hb).1 hc)
  refine ⟨fun q=>?_,hm⟩
  obtain ⟨i0,_⟩:=pmag_in pb
  have p1:=two_pos (pexp b + 1074).toNat
  have:0 < pmag b * 2 ^ (pexp b + 1074).toNat:=Int.mul_pos (by omega) p1
  rw [q] at e
  omega
structure XV (d:Nat->Int) (n:Nat):Prop where
  fin:∀ i,i < n->rng (d i)∧pok (d i)=true∧rg (d i) ≠ 0
  lo:∀ i,i + 1 < n->Lo (iV (d i)) (iV (d (i + 1)))
theorem XV.ne {d:Nat->Int} {n:Nat} (h:XV d n) {i:Nat} (hi:i < n):iV (d i) ≠ 0:=(iV_some (h.fin i hi).1 (h.fin i hi).2.1 (h.fin i hi).2.2).1
theorem XV.far {d:Nat->Int} {n:Nat} (h:XV d n) {i:Nat}:∀ {j},i < j->j < n->Lo (iV (d i)) (iV (d j))
  | 0,hij,_=>absurd hij (Nat.not_lt_zero _)
  | j + 1,hij,hj=>by
    by_cases e:i=j
    . subst e; exact h.lo i hj
    . exact (h.far (show i < j by omega) (by omega)).trans (h.ne (by omega)) (h.lo j hj)
theorem XV.add {s:Ls} (h:XV s.d s.n) {b:Int} (hb:rng b) (pb:pok b=true) (hlo:∀ i,i < s.n->Lo (iV (s.d i)) (iV b)):XV (s.add b).d (s.add b).n:=by
  unfold Ls.add
  split
  . exact h
  . rename_i hz
    refine ⟨fun i hi=>?_,fun i hi=>?_⟩
    . show rng (upd s.d s.n b i)∧pok (upd s.d s.n b i)=true∧rg (upd s.d s.n b i) ≠ 0
      by_cases e:i=s.n
      . subst e; rw [upd_same]; exact ⟨hb,pb,hz⟩
      . rw [upd_other _ _ e]; exact h.fin i (by have:i < s.n + 1:=hi; omega)
    . have hi':i + 1 < s.n + 1:=hi
      show Lo (iV (upd s.d s.n b i)) (iV (upd s.d s.n b (i + 1)))
      rw [upd_other _ _ (show i ≠ s.n by omega)]
      by_cases e:i + 1=s.n
      . rw [e,upd_same]; exact hlo i (by omega)
      . rw [upd_other _ _ e]; exact h.lo i (by omega)
theorem fsum_nr {p q:Int} (hp:rng p) (hq:rng q) (h:pok (sL p q)=true):Nr (iV p + iV q) (iV (fsum p q)):=by
  obtain ⟨⟨pp,pq⟩,ps,e⟩:=sL_exact hp hq h
  exact (stp_sum hp hq pp pq).nr ps
theorem maxV_ge:(2:Int) ^ 2097 <= maxV:=by
  have h:(2:Int) ^ 2097 <= (V Ieee.double 9218868437227405311:Int):=by decide +kernel
  exact h
theorem p2_up {b c:Nat} {x:Int} (h:(x.natAbs:Int) <= 2 ^ b) (hbc:b <= c):(x.natAbs:Int) <= 2 ^ c:=Int.le_trans h (p2le hbc)
def LB (s:Ls) (b:Nat):Prop:=∀ i,i < s.n->((iV (s.d i)).natAbs:Int) <= 2 ^ b
theorem LB.add {s:Ls} {b:Nat} (h:LB s b) {x:Int} (hx:((iV x).natAbs:Int) <= 2 ^ b):LB (s.add x) b:=by
  unfold Ls.add
  split
  . exact h
  . intro i hi
    show ((iV (upd s.d s.n x i)).natAbs:Int) <= _
    by_cases e:i=s.n
    . subst e; rw [upd_same]; exact hx
    . rw [upd_other _ _ e]; exact h i (by have:i < s.n + 1:=hi; omega)
theorem XV.fn {s:Ls} (h:XV s.d s.n):s.fin:=fun i hi=>⟨(h.fin i hi).1,(h.fin i hi).2.1⟩
def PB (P:Nat->Prop) (w:World):Prop:=∀ k,P k->k < w.heap.size
structure BelP (P:Nat->Prop) (w w':World):Prop where
  os:w'.os=w.os
  tape:w'.tape=w.tape
  output:w'.output=w.output
  size:w.heap.size <= w'.heap.size
  block:∀ k,P k->w'.heap[k]?=w.heap[k]?
theorem BelP.refl (P:Nat->Prop) (w:World):BelP P w w:=⟨rfl,rfl,rfl,Nat.le_refl _,fun _ _=>rfl⟩
theorem BelP.trans {P:Nat->Prop} {a b c:World} (h:BelP P a b) (k:BelP P b c):BelP P a c :=
  ⟨k.os.trans h.os,k.tape.trans h.tape,k.output.trans h.output,Nat.le_trans h.size k.size,fun i hi=>(k.block i hi).trans (h.block i hi)⟩
theorem BelP.of {P:Nat->Prop} {w w':World} (h:Below w.heap.size w w') (hP:PB P w):BelP P w w':=⟨h.os,h.tape,h.output,h.size,fun k hk=>h.block k (hP k hk)⟩
theorem PB.le {P:Nat->Prop} {w w':World} (h:PB P w) (hs:w.heap.size <= w'.heap.size):PB P w':=fun k hk=>Nat.lt_of_lt_of_le (h k hk) hs
def OutP (P:Nat->Prop) (w:World) (v:Value) (s:Ls):Prop:=Out 0 w v s.n s.d∧∀ k,v.ownBlock=some k->¬ P k
theorem OutP.shape {P:Nat->Prop} {w:World} {v:Value} {s:Ls} (h:OutP P w v s):∃ ao cap,v=.slice ao s.n cap:=by
  obtain ⟨ao,cap,e,_⟩:=h.1.row
  exact ⟨ao,cap,e⟩
theorem OutP.stays {P:Nat->Prop} {w w':World} {v:Value} {s:Ls} (h:OutP P w v s) (hb:Below w.heap.size w w'):OutP P w' v s:=⟨h.1.stays hb,h.2⟩
theorem OutP.gr {P:Nat->Prop} {w w':World} {v:Value} {s:Ls} (h:OutP P w v s) (hP:PB P w) (g:w.grownBy w' v.ownBlock):BelP P w w' :=
  ⟨g.os,g.tape,g.output,g.size,fun k hk=>g.block k (hP k hk) fun e=>h.2 k e.symm hk⟩
theorem Ls.same.fin {s t:Ls} (h:s.same t) (ht:t.fin):s.fin:=fun i hi=>by
  rw [h.2 i hi]
  exact ht i (by rw [<- h.1]; exact hi)
theorem BelP.below {P:Nat->Prop} {N:Nat} {w w':World} (h:BelP P w w') (hP:∀ k,k < N->P k):Below N w w':=⟨h.os,h.tape,h.output,h.size,fun k hk=>h.block k (hP k hk)⟩
theorem OutP.raise {P:Nat->Prop} {N:Nat} {w:World} {v:Value} {s:Ls} (h:OutP P w v s) (hP:∀ k,k < N->P k):Out N w v s.n s.d:=by
  have h1:=h.1
  rcases h1.2 with q | ⟨g,cap,cur,q1,_,q3⟩
  . exact ⟨h1.1,.inl q⟩
  . refine ⟨h1.1,.inr ⟨g,cap,cur,q1,?_,q3⟩⟩
    have h2:=h.2 g (by rw [q1]; rfl)
    exact Nat.le_of_not_lt fun e=>h2 (hP g e)
end Go.Proofs.YtkajoieoggajiaaDoor
namespace Go.Proofs.YtkajoieoggajiaaDoor
open Go Go.RowKit Go.Proofs.YtkajoieoggajiaaDoor.M Ieee
end Go.Proofs.YtkajoieoggajiaaDoor
namespace Go.Proofs.YtkajoieoggajiaaDoor
open Go Go.RowKit Go.Proofs.YtkajoieoggajiaaDoor.M
def Un (S h:Int):Prop:=9007199254740992 * ((h - S).natAbs:Int) <= (S.natAbs:Int)∧9007199254740992 * ((h - S).natAbs:Int) <= (h.natAbs:Int)
theorem nr_Un_pos {S h:Int} (n:Nr S h) (h0:0 <= S):Un S h:=by
  obtain ⟨k,h1,h2⟩:=binade S h0
  rcases h2 with h2 | h2
  . subst h2
    have e:=nr_self ⟨0,⟨S,by rw [Int.pow_zero]; omega⟩,by omega⟩ n
    subst e
    rw [Un,Int.sub_self]
    simp
  . have c:=nr_err n (i:=k) (by omega)
    have g:=nr_ge n (fl_p2 k (m:=4503599627370496) (by decide)) h2
    have p0:=p2 k
    generalize (2:Int) ^ k=q at *
    have g':4503599627370496 * q <= h:=g
    constructor <;> omega
theorem nr_Un {S h:Int} (n:Nr S h):Un S h:=by
  by_cases h0:0 <= S
  . exact nr_Un_pos n h0
  . have:=nr_Un_pos n.neg (by omega)
    unfold Un at *
    omega
theorem Un.scale {S h:Int} (u:Un S h) {c:Int} (hc:0 <= c):Un (c * S) (c * h):=by
  have e:∀ x:Int,((c * x).natAbs:Int)=c * (x.natAbs:Int):=fun x=>by
    rw [Int.natAbs_mul,Int.natCast_mul]
    congr 1
    omega
  rw [Un,<- Int.mul_sub,e,e,e,<- Int.mul_assoc,Int.mul_comm 9007199254740992 c,Int.mul_assoc]
  exact ⟨Int.mul_le_mul_of_nonneg_left u.1 hc,Int.mul_le_mul_of_nonneg_left u.2 hc⟩
structure Fx (a b:Nat) (x:Int):Prop where
  r:rng x
  p:pok x=true
  d:(2 ^ a:Int) ∣ iV x
  b:((iV x).natAbs:Int) <= 2 ^ b
theorem Fx.up {a b b':Nat} {x:Int} (h:Fx a b x) (c:b <= b'):Fx a b' x:=⟨h.r,h.p,h.d,p2_up h.b c⟩
theorem Fx.neg {a b:Nat} {x:Int} (h:Fx a b x):Fx a b (neg x)∧iV (neg x)=-iV x:=by
  obtain ⟨n1,n2,n3⟩:=neg_facts h.r h.p
  refine ⟨⟨n1,n2,?_,?_⟩,n3⟩
  . rw [n3]; exact Int.dvd_neg.2 h.d
  . rw [n3,Int.natAbs_neg]; exact h.b
theorem h_dbl {S x:Int} (h:Un S x):(x.natAbs:Int) <= 2 * (S.natAbs:Int):=by
  have:=h.1
  omega
theorem h_fin {a b m:Int} {k:Nat} (h1:a <= 2 ^ k) (hk:k + 1 <= 2097) (hm:(2:Int) ^ 2097 <= m):2 * a <= m:=by
  have e:=p2s k
  have f:(2:Int) ^ (k + 1) <= 2 ^ 2097:=p2le hk
  omega
theorem Fx.sum {a b:Nat} {x y:Int} (hx:Fx a b x) (hy:Fx a b y) (hb:b + 1 <= 2097):Fx a (b + 2) (fsum x y)∧Un (iV x + iV y) (iV (fsum x y)):=by
  obtain ⟨f1,f2⟩:=sum_fin hx.r hy.r hx.p hy.p (h_fin (b:=0) hx.b hb maxV_ge) (h_fin (b:=0) hy.b hb maxV_ge)
  have nr:=fsum_nr hx.r hy.r f2
  have u:=nr_Un nr
  refine ⟨⟨fsum_rng hx.r hy.r,f1,nr_dvd nr (Int.dvd_add hx.d hy.d),?_⟩,u⟩
  have h2:=h_dbl u
  have e1:=hx.b
  have e2:=hy.b
  rw [show b + 2=b + 1 + 1 by omega,p2s,p2s]
  omega
theorem wd_nil:wd 0=0:=by decide
theorem XR.from {w0 w w':World} {ok:Bool} {s:Ls} {r:Ending} (h:XR w ok s r w') (hb:Below w0.heap.size w0 w):XR w0 ok s r w':=by
  obtain ⟨h1,h2⟩:=h
  refine ⟨?_,bel_trans hb h2⟩
  rcases h1 with ⟨a,v,b,c⟩ | h
  . exact .inl ⟨a,v,b,c.lower hb.size⟩
  . exact .inr h
theorem nil_order {f:Int} (hf:rng f) (pf:pok f=true):(rg f=0->FloatKind.f64.format.order (wd f) 0=some .eq)∧(¬ rg f=0->FloatKind.f64.format.order (wd f) 0=some .lt∨FloatKind.f64.format.order (wd f) 0=some .gt):=by
  have r0:rng 0:=by unfold rng; decide
  have p0:pok 0=true:=by decide
  have k0:key 0=0:=by decide
  have kz:key f=0 ↔ rg f=0:=by
    unfold key rg
    unfold rng at hf
    split <;> omega
  refine ⟨fun h=>?_,fun h=>?_⟩
  . have:=q_eq hf r0 (q_fin pf) (q_fin p0) (by rw [k0]; exact kz.2 h)
    rw [wd_nil] at this
    exact this
  . rcases Int.lt_trichotomy (key f) 0 with g | g | g
    . have:=q_lt hf r0 (q_fin pf) (q_fin p0) (by rw [k0]; exact g)
      rw [wd_nil] at this
      exact .inl this
    . exact absurd (kz.1 g) h
    . have:=q_gt hf r0 (q_fin pf) (q_fin p0) (by rw [k0]; exact g)
      rw [wd_nil] at this
      exact .inr this
def XLs (w:World) (v:Value) (s:Ls):Prop:=∃ ao cap,v=.slice ao s.n cap∧Row w ao s.n cap s.d
theorem XLs.keeps {w w':World} {v:Value} {s:Ls} (h:XLs w v s) (hb:Below w.heap.size w w'):XLs w' v s:=by
  obtain ⟨ao,cap,e,hR⟩:=h
  exact ⟨ao,cap,e,hR.keeps hb⟩
theorem self_nil {x:Int} (rx:rng x) (px:pok x=true):cls (fsum x (neg x)) ≠ 4∧FloatKind.f64.format.order (wd (fsum x (neg x))) 0=some .eq:=by
  obtain ⟨n1,n2,n3⟩:=neg_facts rx px
  have s:=stp_sum rx n1 px n2
  rw [n3,Int.add_right_neg] at s
  have pk:=s.fin (by have:=maxV_ge; have:=p2 2097; rw [Int.natAbs_zero]; omega)
  have nr:=s.nr pk
  have z:iV (fsum x (neg x))=0:=nr_self ⟨0,⟨0,by rw [Int.mul_zero]⟩,by omega⟩ nr
  have r0:rg (fsum x (neg x))=0:=by
    have k:=iV_key s.rn
    by_cases c:rg (fsum x (neg x))=0
    . exact c
    . exfalso
      have a:=iV_abs (fsum x (neg x))
      rw [z] at a
      have q:=(q_rg s.rn).2
      have:=V_lt Ieee.double (show 0 < (rg (fsum x (neg x))).toNat by omega)
      omega
  exact ⟨q_fin pk,(nil_order s.rn pk).1 r0⟩
set_option maxRecDepth 100000 in
set_option maxHeartbeats 4000000 in
theorem strays2 {FT:Nat} {ao bo:Option Addr} {n ca cb g:Nat} {a b:Nat->Int} (w:World) (hg:w.heap[g]?=some (.cells #[.slice ao n ca,.slice bo n cb] 22 (0,0))) (ha:Row w ao n ca a) (hb:Row w bo n cb b) (fa:∀ i,i < n->rng (a i)∧pok (a i)=true) (fb:∀ i,i < n->rng (b i)∧pok (b i)=true) :
    Calls Tryd.prog 71 #[.agg #[.func (.func 73) #[] #[],.func (.func 12) #[] #[],.func (.func 19) #[] #[],.func (.func FT) #[] #[]],.slice (some ⟨g,0,none⟩) 2 2] w fun r w'=>r=.returned (.float .f64 0)∧Below w.heap.size w w':=by
  have hst:∀ p F c m w,(store p (.func (.func F) #[] c) m).run Tryd.prog w=stored Tryd.prog w p (.func (.func F) #[] c) m:=fun p F c m w=>run_store _ w p _ m rfl
  have hE:∀ (cap:Array Value) (w:World),(callFunc 73 cap).run Tryd.prog w=.ok (.enter 73 cap) w:=by intro cap w; simp [go_sem]
  have hcv:∀ w,(convert 3 38 (.int .i64 1)).run Tryd.prog w=.ok (.float .f64 4607182418800017408) w:=fun _=>by kernel_rfl
  have hla:=ha.le
  have hma:=ha.max
  have hlb:=hb.le
  have hmb:=hb.max
  have hbA:=bel_alloc w (.cells #[.func (.func 73) #[] #[],.func (.func 12) #[] #[],.func (.func 19) #[] #[],.func (.func FT) #[] #[]] 92)
  have gA:=heap_a1 w (.cells #[.func (.func 73) #[] #[],.func (.func 12) #[] #[],.func (.func 19) #[] #[],.func (.func FT) #[] #[]] 92)
  have fA:=blkC (heap_past (.cells #[.func (.func 73) #[] #[],.func (.func 12) #[] #[],.func (.func 19) #[] #[],.func (.func FT) #[] #[]] 92) hg) 0 rfl
  go_enter Tryd.func71,Tryd.ntmps71
  go_wp2_with fail
  clear fA
  generalize w.alloc (.cells #[.func (.func 73) #[] #[],.func (.func 12) #[] #[],.func (.func 19) #[] #[],.func (.func FT) #[] #[]] 92)=wa at hbA gA ⊢
  go_loopw [5,16] (fun sv iv wr=>∃ k:Nat,k <= n∧iv=.int .i64 k∧sv=.float .f64 0∧Below wa.heap.size wa wr) (fun _ iv _=>n - (intOf iv).toNat)
  case atStart=>exact ⟨0,Nat.zero_le _,rfl,rfl,bel_refl _⟩
  case round=>
    obtain ⟨k,hk,rfl,rfl,hbw⟩:=hrel
    by_cases hlt:k < n
    . have i0:(0:Int) <= (k:Int):=by omega
      have i1:(k:Int) < (n:Int):=by omega
      obtain ⟨ba,oa,rfl,hba,hca⟩:=ha.spot (by omega)
      obtain ⟨bb,ob,rfl,hbb,hcb⟩:=hb.spot (by omega)
      obtain ⟨ra,pa⟩:=fa k hlt
      obtain ⟨rb,pb⟩:=fb k hlt
      have hbq:=bel_trans hbA hbw
      have CA:=q_cell (hca k hlt) hbq
      have CB:=q_cell (hcb k hlt) hbq
      have CF:=q_cell (blkC gA 0 rfl) hbw
      have g':=blk_on hbq hg
      go_wp2_with fail
      go_loopw [7,8,22] (fun tv fv jv wr2=>∃ (j:Nat) (p:Int) (x:Nat),j <= 2∧jv=.int .i64 j∧fv=.bool true∧tv=.float .f64 x∧Hid (FW p x)∧Below wr.heap.size wr wr2) (fun _ _ jv _=>2 - (intOf jv).toNat)
      case atStart=>exact ⟨0,4607182418800017408,4607182418800017408,by omega,rfl,rfl,rfl,(FW.pat (p:=4607182418800017408) (by decide) (by unfold rng; decide)),bel_refl _⟩
      case round=>
        obtain ⟨j,p,x,hj,rfl,rfl,rfl,HX,hbw2⟩:=hrel
        have A0:=q_cell CA hbw2
        have B0:=q_cell CB hbw2
        have F0:=q_cell CF hbw2
        have g2:=blk_on hbw2 g'
        have c0:=blkC g2 0 rfl
        have c1:=blkC g2 1 rfl
        clear g2
        rcases (show j=0∨j=1∨j=2 by omega) with rfl | rfl | rfl
        . have C1:Hid (∀ W,Calls Tryd.prog 73 #[.int .i64 (a k)] W fun e w'=>e=.returned (.float .f64 (wd (a k)))∧w'=W):=fun W=>bitsFloat _ W
          have hz:=self_nil ra pa
          have hd:=fun W=>run_diffN (P:=Tryd.prog) 38 (FW.pat (q_fin pa) ra) (FW.pat (q_fin pa) ra) hz.1 W
          have ho:=hz.2
          have hfx:=FW.pat (q_fin pa) ra
          obtain ⟨fz,fw,hf⟩:∃ (f:World->Nat) (h:World->World),∀ W,(binOp .mul 38 (.float .f64 x) (.float .f64 (wd (a k)))).run Tryd.prog W=.ok (.float .f64 (f W)) (h W)∧FW (fprod p (a k)) (f W)∧(h W=W∨h W=W.drew):=by
            have:=fun W=>run_fprod (P:=Tryd.prog) 38 HX.out hfx W
            obtain ⟨f,h1⟩:=Classical.skolem.1 this
            obtain ⟨h,h2⟩:=Classical.skolem.1 h1
            exact ⟨f,h,h2⟩
          have hm:=fun W=>(hf W).1
          have HM:Hid (∀ W,FW (fprod p (a k)) (fz W)∧(fw W=W∨fw W=W.drew)):=fun W=>(hf W).2
          clear hf hfx hz
          generalize wd (fsum (a k) (neg (a k)))=D at *
          generalize wd (a k)=X at *
          generalize a k=Y at *
          clear B0
          go_wp2_with fail
          go_quiet ((go_at_call 73; with_reducible exact Calls.quiet_of_same (C1.out _)))
          go_wp2
          go_roundw
          case rel=>
            refine ⟨0 + 1,_,_,by omega,by go_num,rfl,rfl,(HM.out _).1,?_⟩
            rcases (HM.out (wr.drewN nq)).2 with e | e <;> rw [e]
            . exact bDrewN hbw2 nq
            . exact (bDrewN hbw2 nq).drew
          case measure=>simp [intOf]
        . have C1:Hid (∀ W,Calls Tryd.prog 73 #[.int .i64 (b k)] W fun e w'=>e=.returned (.float .f64 (wd (b k)))∧w'=W):=fun W=>bitsFloat _ W
          have hz:=self_nil rb pb
          have hd:=fun W=>run_diffN (P:=Tryd.prog) 38 (FW.pat (q_fin pb) rb) (FW.pat (q_fin pb) rb) hz.1 W
          have ho:=hz.2
          have hfx:=FW.pat (q_fin pb) rb
          obtain ⟨fz,fw,hf⟩:∃ (f:World->Nat) (h:World->World),∀ W,(binOp .mul 38 (.float .f64 x) (.float .f64 (wd (b k)))).run Tryd.prog W=.ok (.float .f64 (f W)) (h W)∧FW (fprod p (b k)) (f W)∧(h W=W∨h W=W.drew):=by
            have:=fun W=>run_fprod (P:=Tryd.prog) 38 HX.out hfx W
            obtain ⟨f,h1⟩:=Classical.skolem.1 this
            obtain ⟨h,h2⟩:=Classical.skolem.1 h1
            exact ⟨f,h,h2⟩
          have hm:=fun W=>(hf W).1
          have HM:Hid (∀ W,FW (fprod p (b k)) (fz W)∧(fw W=W∨fw W=W.drew)):=fun W=>(hf W).2
          clear hf hfx hz
          generalize wd (fsum (b k) (neg (b k)))=D at *
          generalize wd (b k)=X at *
          generalize b k=Y at *
          clear A0
          go_wp2_with fail
          go_quiet ((go_at_call 73; with_reducible exact Calls.quiet_of_same (C1.out _)))
          go_wp2
          go_roundw
          case rel=>
            refine ⟨1 + 1,_,_,by omega,by go_num,rfl,rfl,(HM.out _).1,?_⟩
            rcases (HM.out (wr.drewN nq)).2 with e | e <;> rw [e]
            . exact bDrewN hbw2 nq
            . exact (bDrewN hbw2 nq).drew
          case measure=>simp [intOf]
        . clear A0 B0 F0 c0 c1
          go_wp2
          go_roundw
          case rel=>exact ⟨k + 1,by omega,by go_num,rfl,bel_trans hbw hbw2⟩
          case measure=>simp [intOf]; omega
    . obtain rfl:k=n:=by omega
      go_wp2
      go_ret
      exact ⟨rfl,bel_trans hbA hbw⟩
def Dot2 (a1 a2 c1 c2 V:Int):Prop:=∃ C D,C * 2 ^ 4194304=a1 * c1∧D * 2 ^ 4194304=a2 * c2∧V=C + D
theorem Dot2.unique {a1 a2 b1 b2 V V':Int} (h:Dot2 a1 a2 b1 b2 V) (k:Dot2 a1 a2 b1 b2 V'):V=V':=by
  obtain ⟨C,D,h1,h2,rfl⟩:=h
  obtain ⟨C',D',k1,k2,rfl⟩:=k
  rw [scale_inj (h1.trans k1.symm),scale_inj (h2.trans k2.symm)]
theorem bel_dr (w:World) (o:Obj):Below w.drew.heap.size w.drew (w.alloc o).drew:=bel_trans (bel_alloc w.drew o) (bel_refl _)
theorem heap_a1d (w:World) (o:Obj):(w.alloc o).drew.heap[w.heap.size]?=some o:=heap_a1 w o
theorem bd_dotV2 {a b:Nat->NumR} {V W:Nat->Int} {K:Nat} (hK:K <= 10000):∀ m,m <= 5000->(∀ i,i < m->(a i).V=V i∧Half (a i)∧Bd K (V i))->(∀ i,i < m->(b i).V=W i∧Half (b i)∧Bd K (W i))->Bd (2 * K + m) (dotV a b m)
  | 0,_,_,_=>bd_zero _
  | m + 1,hm,h,k=>by
    obtain ⟨h1,h2,h3⟩:=h m (by omega)
    obtain ⟨k1,k2,k3⟩:=k m (by omega)
    unfold Half at h2 k2
    have e:=mulV_eq (x:=a m) (y:=b m) (by omega) (by omega)
    rw [h1,k1] at e
    exact (bd_dotV2 hK m (by omega) (fun i hi=>h i (by omega)) (fun i hi=>k i (by omega))).add ((h3.mul k3 e (by omega)).up (by omega) (by omega)) (by omega)
theorem ddot_B {n g1 g2:Nat} {q1 q2:Nat->NumR} {a b:Nat->Int} (w:World) (N1:Nums w (some ⟨g1,0,none⟩) n n q1) (N2:Nums w (some ⟨g2,0,none⟩) n n q2) (F1:∀ i,i < n->okR (q1 i)=true∧(q1 i).V=patV (a i)∧Half (q1 i)) (F2:∀ i,i < n->okR (q2 i)=true∧(q2 i).V=patV (b i)∧Half (q2 i)) (fa:∀ i,i < n->pok (a i)=true) (fb:∀ i,i < n->pok (b i)=true) (hn:n <= 5000) (hT:Tab w) :
    Calls Tryd.prog 49 #[.slice (some ⟨g1,0,none⟩) n n,.slice (some ⟨g2,0,none⟩) n n] w fun r w'=>∃ v V,r=.returned (.tuple #[v,.int .i64 0])∧DAns w w' V v∧V * 2 ^ 4194304=sumF (fun i=>patV (a i) * patV (b i)) n∧Bd 14000 V:=by
  have e:=dotV_F (a:=q1) (b:=q2) n (fun i hi=>(F1 i hi).2) (fun i hi=>(F2 i hi).2)
  have hB:=bd_dotV2 (a:=q1) (b:=q2) (K:=4000) (by omega) n hn (fun i hi=>⟨(F1 i hi).2.1,(F1 i hi).2.2,patV_bd (fa i hi)⟩) (fun i hi=>⟨(F2 i hi).2.1,(F2 i hi).2.2,patV_bd (fb i hi)⟩)
  have hB':Bd 14000 (dotV q1 q2 n):=hB.up (by omega) (by omega)
  refine (ddot_ok _ _ n n n q1 q2 w N1 N2 (decide_eq_true fun i hi=>(F1 i hi).1) (decide_eq_true fun i hi=>(F2 i hi).1) (fun i hi=>(F1 i hi).2.2) (fun i hi=>(F2 i hi).2.2) (by omega) hT).mono ?_
  rintro _ w' ⟨v,er,rfl,hF⟩
  obtain ⟨rfl,hA⟩:=hF.yes (hB'.ok (by omega))
  exact ⟨v,_,rfl,hA,e,hB'⟩
set_option maxRecDepth 100000 in
set_option maxHeartbeats 8000000 in
theorem totalF {FT:Nat} {ao bo:Option Addr} {n ca cb gl:Nat} {a b:Nat->Int} (w:World) (l_k:w.heap[gl]?=some (.cells #[.slice ao n ca,.slice bo n cb] 22 (0,0))) (RA:Row w ao n ca a) (RB:Row w bo n cb b) (fa:∀ i,i < n->pok (a i)=true) (fb:∀ i,i < n->pok (b i)=true) (hn:n <= 5000) (H:Hold4 w) :
    Calls Tryd.prog 72 #[.agg #[.func (.func 73) #[] #[],.func (.func 12) #[] #[],.func (.func 19) #[] #[],.func (.func FT) #[] #[]],.slice (some ⟨gl,0,none⟩) 2 2] w fun r w'=>∃ v V,r=.returned v∧DNum w' v V∧V * 2 ^ 4194304=sumF (fun i=>patV (a i) * patV (b i)) n∧Bd 14000 V∧Below w.heap.size w w':=by
  have hst:∀ p F c m w,(store p (.func (.func F) #[] c) m).run Tryd.prog w=stored Tryd.prog w p (.func (.func F) #[] c) m:=fun p F c m w=>run_store _ w p _ m rfl
  have NA:Hid (∀ W,Row W ao n ca a->Hold4 W->Calls Tryd.prog 90 #[.agg #[.func (.func 73) #[] #[],.func (.func 12) #[] #[],.func (.func 19) #[] #[],.func (.func FT) #[] #[]],.slice ao n ca] W fun x w'=>∃ g q,x=.returned (.slice (some ⟨g,0,none⟩) n n)∧Nums w' (some ⟨g,0,none⟩) n n q∧Below W.heap.size W w'∧∀ i,i < n->okR (q i)=true∧(q i).V=patV (a i)∧Half (q i)):=fun W hR h=>numbersF ao n ca a W hR (by omega) fa h
  have NB:Hid (∀ W,Row W bo n cb b->Hold4 W->Calls Tryd.prog 90 #[.agg #[.func (.func 73) #[] #[],.func (.func 12) #[] #[],.func (.func 19) #[] #[],.func (.func FT) #[] #[]],.slice bo n cb] W fun x w'=>∃ g q,x=.returned (.slice (some ⟨g,0,none⟩) n n)∧Nums w' (some ⟨g,0,none⟩) n n q∧Below W.heap.size W w'∧∀ i,i < n->okR (q i)=true∧(q i).V=patV (b i)∧Half (q i)):=fun W hR h=>numbersF bo n cb b W hR (by omega) fb h
  have DB:Hid (∀ (g1 g2:Nat) (q1 q2:Nat->NumR) W,Nums W (some ⟨g1,0,none⟩) n n q1->Nums W (some ⟨g2,0,none⟩) n n q2->(∀ i,i < n->okR (q1 i)=true∧(q1 i).V=patV (a i)∧Half (q1 i))->(∀ i,i < n->okR (q2 i)=true∧(q2 i).V=patV (b i)∧Half (q2 i))->Tab W->Calls Tryd.prog 49 #[.slice (some ⟨g1,0,none⟩) n n,.slice (some ⟨g2,0,none⟩) n n] W fun r w'=>∃ v V,r=.returned (.tuple #[v,.int .i64 0])∧DAns W w' V v∧V * 2 ^ 4194304=sumF (fun i=>patV (a i) * patV (b i)) n∧Bd 14000 V):=fun g1 g2 q1 q2 W N1 N2 F1 F2 hT=>ddot_B W N1 N2 F1 F2 fa fb hn hT
  have hla:=RA.le
  have hma:=RA.max
  have hlb:=RB.le
  have hmb:=RB.max
  clear fa fb
  generalize sumF (fun i=>patV (a i) * patV (b i)) n=sv at *
  replace l_k:=heap_past (.cells #[.bool false,.slice none 0 0,.int .i64 0] 30) (heap_past (.cells #[.func (.func 73) #[] #[],.func (.func 12) #[] #[],.func (.func 19) #[] #[],.func (.func FT) #[] #[]] 92) l_k)
  have k_k:(w.alloc (.cells #[.func (.func 73) #[] #[],.func (.func 12) #[] #[],.func (.func 19) #[] #[],.func (.func FT) #[] #[]] 92)).heap[w.heap.size]?=some (.cells #[.func (.func 73) #[] #[],.func (.func 12) #[] #[],.func (.func 19) #[] #[],.func (.func FT) #[] #[]] 92):=heap_new (.cells #[.func (.func 73) #[] #[],.func (.func 12) #[] #[],.func (.func 19) #[] #[],.func (.func FT) #[] #[]] 92) (by rfl)
  have hb0:=bel_alloc w (.cells #[.func (.func 73) #[] #[],.func (.func 12) #[] #[],.func (.func 19) #[] #[],.func (.func FT) #[] #[]] 92)
  replace k_k:=heap_past (.cells #[.bool false,.slice none 0 0,.int .i64 0] 30) k_k
  have r_k:((w.alloc (.cells #[.func (.func 73) #[] #[],.func (.func 12) #[] #[],.func (.func 19) #[] #[],.func (.func FT) #[] #[]] 92)).alloc (.cells #[.bool false,.slice none 0 0,.int .i64 0] 30)).heap[w.heap.size + 1]?=some (.cells #[.bool false,.slice none 0 0,.int .i64 0] 30):=heap_new (.cells #[.bool false,.slice none 0 0,.int .i64 0] 30) (by simp only [size_alloc])
  replace hb0:=bel_trans hb0 (bel_alloc (w.alloc (.cells #[.func (.func 73) #[] #[],.func (.func 12) #[] #[],.func (.func 19) #[] #[],.func (.func FT) #[] #[]] 92)) (.cells #[.bool false,.slice none 0 0,.int .i64 0] 30))
  go_enter Tryd.func72,Tryd.ntmps72
  go_wp2_with fail
  rename_i Q0 K00 hK00
  generalize ((w.alloc (.cells #[.func (.func 73) #[] #[],.func (.func 12) #[] #[],.func (.func 19) #[] #[],.func (.func FT) #[] #[]] 92)).alloc (.cells #[.bool false,.slice none 0 0,.int .i64 0] 30))=x0 at hb0 k_k r_k l_k ⊢
  have H:=H.keeps hb0
  have RA:=RA.keeps hb0
  have RB:=RB.keeps hb0
  have hK1:=hK00
  have HN1:∀ (g:Nat) (x1:World) (t:Array Value) (x_g:Bool) (x_o:Option Addr) (x_n x_c:Nat) (x_e:Int) (x_V:Int),#[t.getD 0 undef,.slice (some ⟨gl,0,none⟩) 2 2,.pointer (some ⟨w.heap.size,0,none⟩),t.getD 3 undef,.pointer (some ⟨w.heap.size + 1,0,none⟩),t.getD 5 undef,t.getD 6 undef,.pointer (some ⟨g,0,none⟩),t.getD 8 undef,t.getD 9 undef,t.getD 10 undef,t.getD 11 undef,t.getD 12 undef,t.getD 13 undef,t.getD 14 undef,t.getD 15 undef,t.getD 16 undef,t.getD 17 undef,t.getD 18 undef,t.getD 19 undef,t.getD 20 undef,t.getD 21 undef,t.getD 22 undef,t.getD 23 undef,t.getD 24 undef,t.getD 25 undef,t.getD 26 undef,t.getD 27 undef,t.getD 28 undef,t.getD 29 undef,t.getD 30 undef,t.getD 31 undef,t.getD 32 undef,t.getD 33 undef,t.getD 34 undef,t.getD 35 undef,t.getD 36 undef]=t->x0.heap.size <= g->x1.heap[g]?=some (.cells #[.bool x_g,.slice x_o x_n x_c,.int .i64 x_e] 30 (0,0))->Below x0.heap.size x0 x1->DAn w.heap.size x1 x_V (.agg #[.bool x_g,.slice x_o x_n x_c,.int .i64 x_e])->x_V * 2 ^ 4194304=sv->Bd 14000 x_V->Exit.then K00 Q0 Exit.normal { tmps:=t,defers:=[] } x1:=by
    intro g_x x1 t x_g x_o x_n x_c x_e x_V ht x_ge x_k hw1 x_D x_E x_B
    obtain ⟨u1,hu⟩:∃ u:Nat->Value,t=#[u 0,.slice (some ⟨gl,0,none⟩) 2 2,.pointer (some ⟨w.heap.size,0,none⟩),u 3,.pointer (some ⟨w.heap.size + 1,0,none⟩),u 5,u 6,.pointer (some ⟨g_x,0,none⟩),u 8,u 9,u 10,u 11,u 12,u 13,u 14,u 15,u 16,u 17,u 18,u 19,u 20,u 21,u 22,u 23,u 24,u 25,u 26,u 27,u 28,u 29,u 30,u 31,u 32,u 33,u 34,u 35,u 36]:=⟨fun k=>t.getD k undef,ht.symm⟩
    clear ht
    subst hu
    have H:=H.keeps hw1
    have RA:=RA.keeps hw1
    have RB:=RB.keeps hw1
    have k_k:=(hw1.block _ (Array.getElem?_eq_some_iff.1 k_k).1).trans k_k
    have r_k:=(hw1.block _ (Array.getElem?_eq_some_iff.1 r_k).1).trans r_k
    have l_k:=(hw1.block _ (Array.getElem?_eq_some_iff.1 l_k).1).trans l_k
    have hb1:=bel_trans hb0 hw1
    have f0:=blkC x_k 0 rfl
    have f1:=blkC x_k 1 rfl
    have f2:=blkC x_k 2 rfl
    have k0:=blkC r_k 0 rfl
    have k1:=blkC r_k 1 rfl
    have k2:=blkC r_k 2 rfl
    have z0:=blkF r_k 0
    have z1:=blkF r_k 1
    have z2:=blkF r_k 2
    go_wp2
    refine bodyPost_ret (v:=.agg #[.bool x_g,.slice x_o x_n x_c,.int .i64 x_e]) (by simp [results,Tryd.results72,go_sem,k0,k1,k2]) rfl ⟨_,x_V,rfl,?_,x_E,x_B,?_⟩
    . exact (dan_res3 x_D r_k _ _ _).num
    . exact bel_set3' hb1 (by omega) _ _ _
  have KK1:∀ W,Below x0.heap.size x0 W->W.cell? ⟨w.heap.size,0,none⟩=some (.func (.func 73) #[] #[])∧W.cell? ⟨w.heap.size,1,none⟩=some (.func (.func 12) #[] #[])∧W.cell? ⟨w.heap.size,2,none⟩=some (.func (.func 19) #[] #[])∧W.cell? ⟨w.heap.size,3,none⟩=some (.func (.func FT) #[] #[])∧W.cell? ⟨gl,0,none⟩=some (.slice ao n ca)∧W.cell? ⟨gl,1,none⟩=some (.slice bo n cb):=fun W hb=>⟨q_cell (blkC k_k 0 rfl) hb,q_cell (blkC k_k 1 rfl) hb,q_cell (blkC k_k 2 rfl) hb,q_cell (blkC k_k 3 rfl) hb,q_cell (blkC l_k 0 rfl) hb,q_cell (blkC l_k 1 rfl) hb⟩
  have hC1_0:=(bel_refl x0).drew
  have hT1_0:Below w.heap.size w x0.drew:=hb0.drew
  have H_1_0:=H.keeps (bel_refl x0).drew
  have RA_1_0:=RA.keeps (bel_refl x0).drew
  have RB_1_0:=RB.keeps (bel_refl x0).drew
  have hs1_0:=(bel_refl x0).drew
  go_region_held3 (fun W=>W.cell? ⟨w.heap.size,0,none⟩=some (.func (.func 73) #[] #[])∧W.cell? ⟨w.heap.size,1,none⟩=some (.func (.func 12) #[] #[])∧W.cell? ⟨w.heap.size,2,none⟩=some (.func (.func 19) #[] #[])∧W.cell? ⟨w.heap.size,3,none⟩=some (.func (.func FT) #[] #[])∧W.cell? ⟨gl,0,none⟩=some (.slice ao n ca)∧W.cell? ⟨gl,1,none⟩=some (.slice bo n cb))
    (with_reducible first | assumption | exact KK1 _ (bel_alloc _ _).drew | exact KK1 _ hC1_0 | exact KK1 _ hC1_1 | exact KK1 _ hC1_2 | exact KK1 _ hC1_3 | exact KK1 _ (bel_trans hC1_0 (bel_alloc _ _)) | exact KK1 _ (bel_trans hC1_1 (bel_alloc _ _)) | exact KK1 _ (bel_trans hC1_2 (bel_alloc _ _)) | exact KK1 _ (bel_trans hC1_3 (bel_alloc _ _)) | exact KK1 _ (bel_set3' hC1_3 (Nat.le_refl _) _ _ _) | exact KK1 _ (bel_set3' hC1_3 hC1_1.size _ _ _) | exact KK1 _ (bel_set3' hC1_3 hC1_2.size _ _ _) | fail)
    (first
      | (go_at_call 49; have _t:=hs1_2; refine (DB.out _ _ _ _ _ (N1b.keeps (by with_reducible first | exact bel_refl _ | exact bel_alloc _ _ | exact bel_dr _ _)) (N2.keeps (by with_reducible first | exact bel_refl _ | exact bel_alloc _ _ | exact bel_dr _ _)) F1 F2 (H_1_2.keeps (by with_reducible first | exact bel_refl _ | exact bel_alloc _ _ | exact bel_dr _ _)).tab).mono ?_; rintro _ y1_3 ⟨v,x_V,rfl,nm1,x_E,x_B⟩; obtain ⟨x_g,x_o,x_n,x_c,x_e,rfl⟩:=dans_shape nm1; have hq1_3:=nm1.below; have x_A:=nm1.dan.lower (Nat.le_trans hT1_2.size (by with_reducible first | exact Nat.le_refl _ | exact (bel_alloc _ _).size | exact (bel_dr _ _).size)); have hs1_3:Below y1_2.heap.size y1_2 y1_3:=(by with_reducible first | exact hq1_3 | exact bel_trans (bel_alloc _ _) hq1_3 | exact bel_trans (bel_dr _ _) hq1_3); have hT1_3:=bel_trans hT1_2 hs1_3; have hC1_3:=bel_trans hC1_2 hs1_3; have H_1_3:=H_1_2.keeps hs1_3; have RA_1_3:=RA_1_2.keeps hs1_3; have RB_1_3:=RB_1_2.keeps hs1_3; with_reducible first | (have qz1:y1_3.heap[x0.heap.size]?=some (.cells #[.bool false,.slice none 0 0,.int .i64 0] 30 (0,0)):=blk_on hq1_3 (blk_on hq1_2 (blk_on hq1_1 (heap_a1d x0 (.cells #[.bool false,.slice none 0 0,.int .i64 0] 30)))); have cz1_0:=blkC qz1 0 rfl; have zz1_0:=blkF qz1 0; have cz1_1:=blkC qz1 1 rfl; have zz1_1:=blkF qz1 1; have cz1_2:=blkC qz1 2 rfl; have zz1_2:=blkF qz1 2) | (have qz1:y1_3.heap[y1_1.heap.size]?=some (.cells #[.bool false,.slice none 0 0,.int .i64 0] 30 (0,0)):=blk_on hq1_3 (blk_on hq1_2 (heap_a1 _ _)); have cz1_0:=blkC qz1 0 rfl; have zz1_0:=blkF qz1 0; have cz1_1:=blkC qz1 1 rfl; have zz1_1:=blkF qz1 1; have cz1_2:=blkC qz1 2 rfl; have zz1_2:=blkF qz1 2) | (have qz1:y1_3.heap[y1_2.heap.size]?=some (.cells #[.bool false,.slice none 0 0,.int .i64 0] 30 (0,0)):=blk_on hq1_3 (heap_a1 _ _); have cz1_0:=blkC qz1 0 rfl; have zz1_0:=blkF qz1 0; have cz1_1:=blkC qz1 1 rfl; have zz1_1:=blkF qz1 1; have cz1_2:=blkC qz1 2 rfl; have zz1_2:=blkF qz1 2) | skip)
      | (go_at_call 90; have _t:=hs1_1; refine (NB.out _ (RB_1_1.keeps (by with_reducible first | exact bel_refl _ | exact bel_alloc _ _ | exact bel_dr _ _)) (H_1_1.keeps (by with_reducible first | exact bel_refl _ | exact bel_alloc _ _ | exact bel_dr _ _))).mono ?_; rintro _ y1_2 ⟨g2,q2,rfl,N2,hq1_2,F2⟩; have hs1_2:Below y1_1.heap.size y1_1 y1_2:=(by with_reducible first | exact hq1_2 | exact bel_trans (bel_alloc _ _) hq1_2 | exact bel_trans (bel_dr _ _) hq1_2); have hT1_2:=bel_trans hT1_1 hs1_2; have hC1_2:=bel_trans hC1_1 hs1_2; have H_1_2:=H_1_1.keeps hs1_2; have RA_1_2:=RA_1_1.keeps hs1_2; have RB_1_2:=RB_1_1.keeps hs1_2; have N1b:=N1.keeps hs1_2)
      | (go_at_call 90; refine (NA.out _ (RA_1_0.keeps (by with_reducible first | exact bel_refl _ | exact bel_alloc _ _ | exact bel_dr _ _)) (H_1_0.keeps (by with_reducible first | exact bel_refl _ | exact bel_alloc _ _ | exact bel_dr _ _))).mono ?_; rintro _ y1_1 ⟨g1,q1,rfl,N1,hq1_1,F1⟩; have hs1_1:Below x0.drew.heap.size x0.drew y1_1:=(by with_reducible first | exact hq1_1 | exact bel_trans (bel_alloc _ _) hq1_1 | exact bel_trans (bel_dr _ _) hq1_1); have hT1_1:=bel_trans hT1_0 hs1_1; have hC1_1:=bel_trans hC1_0 hs1_1; have H_1_1:=H_1_0.keeps hs1_1; have RA_1_1:=RA_1_0.keeps hs1_1; have RB_1_1:=RB_1_0.keeps hs1_1))
  . exact HN1 y1_3.heap.size _ _ _ _ _ _ _ x_V (by kernel_rfl) ((bel_trans (bel_trans (bel_trans (hs1_0) hs1_1) hs1_2) hs1_3).size) (heap_a1 _ _) (bel_trans (bel_trans (bel_trans (bel_trans (hs1_0) hs1_1) hs1_2) hs1_3) (bel_alloc _ _)) (x_A.keeps (bel_alloc _ _)) x_E x_B
  . exact HN1 y1_2.heap.size _ _ _ _ _ _ _ x_V (by kernel_rfl) ((bel_trans (bel_trans (hs1_0) hs1_1) hs1_2).size) (heap_set (heap_set (heap_set (blk_on hq1_3 (heap_a1 _ _)) 0 _) 1 _) 2 _) (bel_set3' (bel_trans (bel_trans (bel_trans (hs1_0) hs1_1) hs1_2) hs1_3) ((bel_trans (bel_trans (hs1_0) hs1_1) hs1_2).size) _ _ _) (dan_res3 x_A (blk_on hq1_3 (heap_a1 _ _)) _ _ _) x_E x_B
  . exact HN1 y1_1.heap.size _ _ _ _ _ _ _ x_V (by kernel_rfl) ((bel_trans (hs1_0) hs1_1).size) (heap_set (heap_set (heap_set (blk_on hq1_3 (blk_on hq1_2 (heap_a1 _ _))) 0 _) 1 _) 2 _) (bel_set3' (bel_trans (bel_trans (bel_trans (hs1_0) hs1_1) hs1_2) hs1_3) ((bel_trans (hs1_0) hs1_1).size) _ _ _) (dan_res3 x_A (blk_on hq1_3 (blk_on hq1_2 (heap_a1 _ _))) _ _ _) x_E x_B
  . exact HN1 x0.heap.size _ _ _ _ _ _ _ x_V (by kernel_rfl) (Nat.le_refl _) (heap_set (heap_set (heap_set (blk_on hq1_3 (blk_on hq1_2 (blk_on hq1_1 (heap_a1d x0 (.cells #[.bool false,.slice none 0 0,.int .i64 0] 30))))) 0 _) 1 _) 2 _) (bel_set3' (bel_trans (bel_trans (bel_trans (hs1_0) hs1_1) hs1_2) hs1_3) (Nat.le_refl _) _ _ _) (dan_res3 x_A (blk_on hq1_3 (blk_on hq1_2 (blk_on hq1_1 (heap_a1d x0 (.cells #[.bool false,.slice none 0 0,.int .i64 0] 30))))) _ _ _) x_E x_B
theorem binary64F (w:World) :
    Calls Tryd.prog 45 #[] w fun r w'=>r=.returned (.agg #[.func (.func 73) #[] #[],.func (.func 12) #[] #[],.func (.func 19) #[] #[],.func (.func 47) #[] #[]])∧Below w.heap.size w w':=by
  have hst:∀ p F m w,(store p (.func (.func F) #[] #[]) m).run Tryd.prog w=stored Tryd.prog w p (.func (.func F) #[] #[]) m:=fun p F m w=>run_store _ w p _ m rfl
  go_enter Tryd.func45,Tryd.ntmps45
  go_wp2_with fail
  have r_j:=heap_a1 w (.cells #[.func (.func 73) #[] #[],.func (.func 12) #[] #[],.func (.func 19) #[] #[],.func (.func 47) #[] #[]] 92)
  have k0:=blkC r_j 0 rfl
  have k1:=blkC r_j 1 rfl
  have k2:=blkC r_j 2 rfl
  have k3:=blkC r_j 3 rfl
  exact bodyPost_ret (v:=.agg #[.func (.func 73) #[] #[],.func (.func 12) #[] #[],.func (.func 19) #[] #[],.func (.func 47) #[] #[]]) (by simp [results,Tryd.results45,go_sem,k0,k1,k2,k3]) rfl ⟨rfl,bel_alloc _ _⟩
end Go.Proofs.YtkajoieoggajiaaDoor
