/- Parts of the proof. -/
import Derived.Test.YtfgapefckpnjjaaGreatDoorPart2
import Derived.Test.YtfgapefckpnjjaaGreatDoorPart1
import Derived.Test.YtfgapefckpnjjaaGreatDoorPart3
import Derived.Deep.Cut
import Derived.BigRegion
import Derived.Lib.SliceRun
import Derived.Deep.OwnRows
import Derived.Deep.RegionWith
import Derived.Deep.CutRange
import Derived.Laws.CopyOwn
import Derived.WalkMore
import Derived.ScopeJumps
set_option linter.unusedVariables false
set_option linter.unusedSimpArgs false
namespace Go.Proofs.YtfgapefckpnjjaaGreatDoor
open Go Go.RowKit Go.Proofs.YtfgapefckpnjjaaGreatDoor.M
structure Wr (g:Nat) (w w':World):Prop where
  os:w'.os=w.os
  tape:w'.tape=w.tape
  output:w'.output=w.output
  size:w.heap.size <= w'.heap.size
  block:∀ k,k < w.heap.size->k ≠ g->w'.heap[k]?=w.heap[k]?
theorem Wr.refl (g:Nat) (w:World):Wr g w w:=⟨rfl,rfl,rfl,Nat.le_refl _,fun _ _ _=>rfl⟩
theorem Wr.trans {g:Nat} {a b c:World} (h:Wr g a b) (k:Wr g b c):Wr g a c :=
  ⟨k.os.trans h.os,k.tape.trans h.tape,k.output.trans h.output,Nat.le_trans h.size k.size,fun i hi hg=>(k.block i (Nat.lt_of_lt_of_le hi h.size) hg).trans (h.block i hi hg)⟩
theorem Wr.setCell {g:Nat} {a w:World} (h:Wr g a w) (o:Nat) (u:Value):Wr g a (w.setCell ⟨g,o,none⟩ u) :=
  ⟨h.os,h.tape,h.output,by simp [World.setCell]; exact h.size,fun k hk hg=>(Below.heap_setCell _ _ _ _ hg).trans (h.block k hk hg)⟩
theorem Wr.drew {g:Nat} {a w:World} (h:Wr g a w):Wr g a w.drew:=⟨h.os,h.tape,h.output,h.size,h.block⟩
theorem Wr.drewN {g:Nat} {a w:World} (h:Wr g a w) (n:Nat):Wr g a (w.drewN n):=⟨h.os,h.tape,h.output,h.size,h.block⟩
theorem Below.wr {B g:Nat} {a w:World} (h:Below B a w) (hB:w.heap.size <= B):Wr g w w->Below B a w:=fun _=>h
theorem wr_of {g:Nat} {a w:World} (h:Below a.heap.size a w):Wr g a w:=⟨h.os,h.tape,h.output,h.size,fun k hk _=>h.block k hk⟩
theorem Wr.below {B g:Nat} {a w w':World} (h:Wr g w w') (hb:Below B a w) (hB:B <= w.heap.size) (hg:B <= g):Below B a w' :=
  hb.trans ⟨h.os,h.tape,h.output,h.size,fun k hk=>h.block k (by omega) (by omega)⟩
theorem Wr.cell {g:Nat} {w w':World} (h:Wr g w w') {p:Addr} (hp:p.block < w.heap.size) (hg:p.block ≠ g):w'.cell? p=w.cell? p:=World.cell?_of_block (w:=w) (h.block p.block hp hg)
structure RowX (g:Nat) (w:World) (ao:Option Addr) (n cap:Nat) (d:Nat->Int):Prop where
  le:n <= cap
  max:cap <= 9223372036854775807
  spot:0 < n->∃ b off,ao=some ⟨b,off,none⟩∧b < w.heap.size∧b ≠ g∧∀ i,i < n->w.cell? ⟨b,off + i,none⟩=some (.int .i64 (d i))
theorem RowX.keeps {g:Nat} {w w':World} {ao:Option Addr} {n cap:Nat} {d:Nat->Int} (h:RowX g w ao n cap d) (hw:Wr g w w'):RowX g w' ao n cap d :=
  ⟨h.le,h.max,fun hn=>by
    obtain ⟨b,off,rfl,hlt,hg,hc⟩:=h.spot hn
    exact ⟨b,off,rfl,Nat.lt_of_lt_of_le hlt hw.size,hg,fun i hi=>(hw.cell (p:=⟨b,off + i,none⟩) hlt hg).trans (hc i hi)⟩⟩
theorem RowX.of {g:Nat} {w:World} {ao:Option Addr} {n cap:Nat} {d:Nat->Int} (h:Row w ao n cap d) (hg:w.heap.size <= g):RowX g w ao n cap d :=
  ⟨h.le,h.max,fun hn=>by
    obtain ⟨b,off,rfl,hlt,hc⟩:=h.spot hn
    exact ⟨b,off,rfl,hlt,by omega,hc⟩⟩
theorem Out.store {B:Nat} {w:World} {g n cap:Nat} {d:Nat->Int} (h:Out B w (.slice (some ⟨g,0,none⟩) n cap) n d) {i:Nat} (hi:i < n) (x:Int) :
    Out B (w.setCell ⟨g,i,none⟩ (.int .i64 x)) (.slice (some ⟨g,0,none⟩) n cap) n (upd d i x):=by
  have h1:=(World.ownsRow.stored h i (.int .i64 x)).1
  unfold Out
  have e:vals (upd d i x) n=(vals d n).set i (.int .i64 x):=by
    refine (vals_ext (by simp [vals_length]) fun j hj=>?_).symm
    by_cases hji:j=i
    . subst hji; rw [upd_same,List.getElem?_set_self (by rw [vals_length]; exact hj)]
    . rw [upd_other d x hji,List.getElem?_set_ne (by omega),vals_get d hj]
  rw [e]; exact h1
theorem Out.spot {B:Nat} {w:World} {ao:Option Addr} {n cap:Nat} {d:Nat->Int} (h:Out B w (.slice ao n cap) n d) (hn:0 < n):∃ g,ao=some ⟨g,0,none⟩∧B <= g∧g < w.heap.size:=by
  rcases h.2 with ⟨_,h0⟩ | ⟨g,cap',cur,hv,hB,hg,_⟩
  . omega
  . simp only [Value.slice.injEq] at hv
    exact ⟨g,hv.1,hB,(Array.getElem?_eq_some_iff.1 hg).1⟩
theorem Out.cell {B:Nat} {w:World} {g n cap:Nat} {d:Nat->Int} (h:Out B w (.slice (some ⟨g,0,none⟩) n cap) n d) {i:Nat} (hi:i < n):w.cell? ⟨g,i,none⟩=some (.int .i64 (d i)):=by
  rw [World.ownsRow.cellAt h i (by omega),vals_get d hi]
theorem Out.frozen {B:Nat} {w:World} {g n cap:Nat} {d:Nat->Int} (h:Out B w (.slice (some ⟨g,0,none⟩) n cap) n d) (i:Nat):w.frozen? ⟨g,i,none⟩=false:=World.ownsRow.frozenAt h i
theorem upd_shift (r:Nat->Int) (q k:Nat) (x:Int):(fun i=>upd r (q + k) x (q + i))=upd (fun i=>r (q + i)) k x:=by
  funext i
  unfold upd
  by_cases h:i=k
  . simp [h]
  . simp [h]
theorem shl_dig {x:Int} {p:Nat} (hx:0 <= x∧x < 1073741824) (hp:p <= 30):0 <= x * 2 ^ p∧x * 2 ^ p <= 1073741823 * 2 ^ p∧(2:Int) ^ p <= 1073741824:=by
  have h:=two_pos p
  exact ⟨Int.mul_nonneg hx.1 (by omega),Int.mul_le_mul_of_nonneg_right (by omega) (by omega),two_le hp⟩
structure PileI (q p N n:Nat) (a r0:Nat->Int) (s:Int) (k:Nat) (c:Int) (r:Nat->Int):Prop where
  rest:∀ i,q + k <= i->r i=r0 i
  near:∀ i,0 <= s * (r i - r0 i)∧s * (r i - r0 i) < 1073741824
  sum:∃ T,val r N=val r0 N + s * (P q * T)∧T + c * P k=2 ^ p * val a k
theorem PileI.put {q p N n:Nat} {a r0:Nat->Int} {s:Int} {k:Nat} {c:Int} {r:Nat->Int} (h:PileI q p N n a r0 s k c r) (hs:s * s=1) (hN:q + k < N) {m c':Int} (hm:0 <= m∧m < 1073741824) (e:m + c' * 1073741824=c + a k * 2 ^ p) :
    PileI q p N n a r0 s (k + 1) c' (upd r (q + k) (r (q + k) + s * m)):=by
  refine ⟨fun i hi=>by rw [upd_other r _ (by omega)]; exact h.rest i (by omega),fun i=>?_,?_⟩
  . by_cases hi:i=q + k
    . subst hi
      rw [upd_same,h.rest _ (Nat.le_refl _),show s * (r0 (q + k) + s * m - r0 (q + k))=s * s * m by grind,hs]
      omega
    . rw [upd_other r _ hi]; exact h.near i
  . obtain ⟨T,e1,e2⟩:=h.sum
    refine ⟨T + m * P k,?_,?_⟩
    . rw [val_upd r _ hN,e1,P_add]; grind
    . rw [val_succ,P_succ]
      have:c' * (P k * 1073741824)=(c + a k * 2 ^ p - m) * P k:=by rw [show c + a k * 2 ^ p - m=c' * 1073741824 by omega]; grind
      rw [this,show T + m * P k + (c + a k * 2 ^ p - m) * P k=(T + c * P k) + a k * 2 ^ p * P k by grind,e2]; grind
structure Piled (N:Nat) (r0:Nat->Int) (s V:Int) (r:Nat->Int):Prop where
  near:∀ i,0 <= s * (r i - r0 i)∧s * (r i - r0 i) < 1073741824
  sum:val r N=val r0 N + s * V
theorem PileI.done {q p N n:Nat} {a r0:Nat->Int} {s:Int} {c:Int} {r:Nat->Int} (h:PileI q p N n a r0 s n c r) (hs:s * s=1) (hN:q + n < N) (hc:0 <= c∧c < 1073741824) :
    Piled N r0 s (P q * (2 ^ p * val a n)) (upd r (q + n) (r (q + n) + s * c)):=by
  refine ⟨fun i=>?_,?_⟩
  . by_cases hi:i=q + n
    . subst hi
      rw [upd_same,h.rest _ (Nat.le_refl _),show s * (r0 (q + n) + s * c - r0 (q + n))=s * s * c by grind,hs]
      omega
    . rw [upd_other r _ hi]; exact h.near i
  . obtain ⟨T,e1,e2⟩:=h.sum
    rw [val_upd r _ hN,e1,P_add,<- e2]; grind
theorem pile_near {s x y C:Int} (hs:s=1∨s=-1) (h:0 <= s * (x - y)∧s * (x - y) < 1073741824) (hy:-C <= y∧y <= C):-(C + 1073741823) <= x∧x <= C + 1073741823:=by
  rcases hs with rfl | rfl <;> omega
theorem sgn_mul {s m:Int} (hs:s=1∨s=-1) (hm:0 <= m∧m < 1073741824):-1073741823 <= s * m∧s * m <= 1073741823:=by
  rcases hs with rfl | rfl <;> omega
theorem sgn_sq {s:Int} (hs:s=1∨s=-1):s * s=1:=by rcases hs with rfl | rfl <;> rfl
set_option maxHeartbeats 1000000 in
theorem pile_qp (g N:Nat) (r0:Nat->Int) (ao:Option Addr) (n ca q p:Nat) (a:Nat->Int) (w:World) (hB0:Blk w g N r0) (ha:RowX g w ao n ca a) (da:Dig a n) (hn:n <= 100000) (hqN:q + n + 1 <= N) (hNm:N <= 1000000) (hp:p < 30) (k:Int) (hk:k=30 * q + p)
    (s:Int) (hs:s=1∨s=-1) (C:Int) (hC0:∀ i,i < N->-C <= r0 i∧r0 i <= C) (hC1:C <= 4611686018427387904) :
    Calls Tryz.prog 144 #[.slice (some ⟨g,0,none⟩) N N,.slice ao n ca,.int .i64 k,.int .i64 s] w fun e w'=>e=.returned (.tuple #[])∧∃ r,Blk w' g N r∧Wr g w w'∧Piled N r0 s (P q * (2 ^ p * val a n)) r:=by
  have hla:=ha.le
  have hma:=ha.max
  have e1:k / 30=q:=by omega
  have e2:k % 30=p:=by omega
  have hk0:0 <= k:=by omega
  have hk1:k <= 40000000:=by omega
  clear hk
  have hu:=two_pos p
  have hu2:(2:Int) ^ p <= 2 ^ 29:=two_le (by omega)
  have HC:Hid (∀ i,i < N->-C <= r0 i∧r0 i <= C):=hC0
  have hss:=sgn_sq hs
  have HS:Hid (s=1∨s=-1):=hs
  clear hC0 hs
  go_enter Tryz.func144,Tryz.ntmps144
  go_wp2
  go_loopw [10,18] (fun c i wr=>∃ (k:Nat) (c':Int) (r:Nat->Int),k <= n∧i=.int .i64 k∧c=.int .i64 c'∧0 <= c'∧c' < 2 ^ p∧Blk wr g N r∧Hid (PileI q p N n a r0 s k c' r)∧Wr g w wr) (fun _ i _=>n - (intOf i).toNat)
  case atStart=>exact ⟨0,0,r0,Nat.zero_le _,rfl,rfl,by omega,hu,hB0,⟨fun _ _=>rfl,fun i=>by rw [Int.sub_self,Int.mul_zero]; omega,0,by rw [Int.mul_zero,Int.mul_zero,Int.add_zero],by show (0:Int) + 0 * 1=2 ^ p * 0; omega⟩,Wr.refl _ _⟩
  case round=>
    obtain ⟨k,c,r,hk,rfl,rfl,hc0,hc1,hB,HI,hW⟩:=hrel
    have hcap:-4611686018427387904 - 1073741823 <= r (q + k)∧r (q + k) <= 4611686018427387904 + 1073741823:=by
      have h1:=HC.out (q + k) (by omega)
      have h2:=HI.out.rest (q + k) (Nat.le_refl _)
      rw [h2]; omega
    by_cases hlt:k < n
    . obtain ⟨ba,fa,rfl,hba,hbg,hca⟩:=ha.spot (by omega)
      have c1:=(hW.cell (p:=⟨ba,fa + k,none⟩) hba hbg).trans (hca k hlt)
      have cg:=hB.cell (show q + k < N by omega)
      have fg:=hB.frozen (q + k)
      have dk:=da k hlt
      obtain ⟨s0,s1,s2⟩:=shl_dig dk (show p <= 30 by omega)
      have hw:wrap64 (a k * 2 ^ p)=a k * 2 ^ p:=IntWalk.wrap64_in _ ⟨by omega,by omega⟩
      have hor:bits .or .i64 c (a k * 2 ^ p)=c + a k * 2 ^ p:=or_add c (a k) p hc0 hc1 dk.1 (by omega)
      have h30:=and_30 (c + a k * 2 ^ p)
      have hm:=mod_dig (c + a k * 2 ^ p)
      have hc2:(c + a k * 2 ^ p) / 1073741824 < 2 ^ p:=by omega
      have hc3:0 <= (c + a k * 2 ^ p) / 1073741824:=by omega
      obtain ⟨m0,m1⟩:=sgn_mul HS.out hm
      have e4:(c + a k * 2 ^ p) % 1073741824 + (c + a k * 2 ^ p) / 1073741824 * 1073741824=c + a k * 2 ^ p:=by omega
      have HI2:Hid (PileI q p N n a r0 s (k + 1) ((c + a k * 2 ^ p) / 1073741824) (upd r (q + k) (r (q + k) + s * ((c + a k * 2 ^ p) % 1073741824)))):=HI.out.put hss (by omega) hm e4
      clear e4
      generalize hM:(c + a k * 2 ^ p) % 1073741824=M at *
      generalize hSM:s * M=SM at *
      go_wp2
      go_roundw
      case rel=>exact ⟨k + 1,_,_,by omega,by go_num,rfl,hc3,hc2,hB.store (q + k) _,HI2,hW.setCell _ _⟩
      case measure=>simp [intOf]; omega
    . obtain rfl:k=n:=by omega
      have cg:=hB.cell (show q + k < N by omega)
      have fg:=hB.frozen (q + k)
      have hc4:c < 1073741824:=by omega
      obtain ⟨m0,m1⟩:=sgn_mul HS.out ⟨hc0,hc4⟩
      have HD:Hid (Piled N r0 s (P q * (2 ^ p * val a k)) (upd r (q + k) (r (q + k) + s * c))):=HI.out.done hss (by omega) ⟨hc0,hc4⟩
      generalize hSM:s * c=SM at *
      go_wp2
      first | go_end0 | refine bodyPost_ret (results_none rfl _ _ _) rfl ?_
      exact ⟨rfl,_,hB.store (q + k) _,hW.setCell _ _,HD.out⟩
set_option maxHeartbeats 1000000 in
theorem raise_qp (ao:Option Addr) (n ca q p:Nat) (a:Nat->Int) (w:World) (ha:Row w ao n ca a) (da:Dig a n) (hn:n <= 100000) (hq:q <= 100000) (hp:p < 30) (k:Int) (hk:k=30 * q + p) :
    Calls Tryz.prog 134 #[.slice ao n ca,.int .i64 k] w fun e w'=>∃ v,e=.returned v∧Ans w w' (P q * (2 ^ p * val a n)) v:=by
  have hla:=ha.le
  have hma:=ha.max
  have e1:k / 30=q:=by omega
  have e2:k % 30=p:=by omega
  have hk0:0 <= k:=by omega
  have HK:Hid (k=30 * q + p):=hk
  clear hk
  go_enter Tryz.func134,Tryz.ntmps134
  go_wp2_with (at_make; refine wpList_mk rfl _ _ rfl _ _ (q + n + 1) rfl rfl (by omega) (by omega) (by omega) ?_; intro w1 hB1 hb1)
  refine (pile_qp w.heap.size (q + n + 1) (fun _=>0) ao n ca q p a w1 hB1 ((RowX.of ha (Nat.le_refl _)).keeps (wr_of hb1)) da hn (Nat.le_refl _) (by omega) hp k HK.out 1 (.inl rfl) 0 (fun _ _=>⟨by omega,by omega⟩) (by omega)).mono ?_
  rintro e w2 ⟨rfl,r,hB2,hW2,hP⟩
  have hb2:Below w.heap.size w w2:=hW2.below hb1 hb1.size (Nat.le_refl _)
  go_wp2_with fail
  refine (trim_any _ _ _ _ _ (hB2.row0 (Nat.le_refl _) (by omega))).mono ?_
  rintro e w3 ⟨t,ht,htop,hz,rfl,rfl⟩
  go_wp2
  go_ret
  have D2:Dig r (q + n + 1):=fun i hi=>by have:=hP.near i; omega
  obtain ⟨hN,hv⟩:=nrm_of_top D2 ht htop hz
  refine ⟨_,rfl,t,r,hB2.cut (Nat.le_refl _) ht (by omega),hN,?_,hb2⟩
  rw [hv,hP.sum,val_zeros (Nat.zero_le _) (fun _ _ _=>rfl)]
  show 0 + 1 * _=_
  omega
theorem raise_any (ao:Option Addr) (n ca k:Nat) (a:Nat->Int) (w:World) (ha:Row w ao n ca a) (da:Dig a n) (hn:n <= 100000) (hk:k <= 1000000) :
    Calls Tryz.prog 134 #[.slice ao n ca,.int .i64 k] w fun e w'=>∃ v,e=.returned v∧Ans w w' (val a n * 2 ^ k) v:=by
  refine (raise_qp ao n ca (k / 30) (k % 30) a w ha da hn (by omega) (by omega) k (by omega)).mono ?_
  rintro e w' ⟨v,he,h⟩
  refine ⟨v,he,?_⟩
  rw [two_split k]
  rwa [show val a n * (P (k / 30) * 2 ^ (k % 30))=P (k / 30) * (2 ^ (k % 30) * val a n) by grind]
theorem shr_part {x y:Int} {p:Nat} (hx:0 <= x∧x < 1073741824) (hy:0 <= y∧y < 1073741824) (hp:p < 30) :
    0 <= x / 2 ^ p∧x / 2 ^ p < 2 ^ (30 - p)∧y * 2 ^ (30 - p) % 1073741824=y % 2 ^ p * 2 ^ (30 - p)∧0 <= y % 2 ^ p∧y % 2 ^ p * 2 ^ (30 - p) < 1073741824:=by
  have hu:=two_pos p
  have hv:=two_pos (30 - p)
  have huv:(2:Int) ^ p * 2 ^ (30 - p)=1073741824:=by rw [<- Int.pow_add,show p + (30 - p)=30 by omega]; rfl
  have m0:=Int.emod_nonneg y (show (2:Int) ^ p ≠ 0 by omega)
  have m1:=Int.emod_lt_of_pos y hu
  refine ⟨Int.ediv_nonneg hx.1 (by omega),(Int.ediv_lt_iff_lt_mul hu).2 (by rw [Int.mul_comm,huv]; exact hx.2),?_,m0,?_⟩
  . rw [<- huv,Int.mul_comm y,Int.mul_comm (2 ^ p:Int),Int.mul_emod_mul_of_pos _ _ hv,Int.mul_comm]
  . have h1:(y % 2 ^ p + 1) * 2 ^ (30 - p) <= 2 ^ p * 2 ^ (30 - p):=Int.mul_le_mul_of_nonneg_right (by omega) (by omega)
    rw [huv,Int.add_mul] at h1
    omega
theorem low_last {s:Nat->Int} {u v:Int} {k:Nat} (h:s (k + 1)=0):low s u v k=s k / u:=by
  unfold low; rw [h,Int.zero_emod,Int.zero_mul,Int.add_zero]
set_option maxRecDepth 100000 in
set_option maxHeartbeats 1000000 in
theorem lower_qp (ao:Option Addr) (n ca q p:Nat) (a:Nat->Int) (w:World) (ha:Row w ao n ca a) (da:Dig a n) (hn:n <= 100000) (hp:p < 30) (k:Int) (hk:k=30 * q + p) (hkm:k < 9223372036854775808) :
    Calls Tryz.prog 135 #[.slice ao n ca,.int .i64 k] w fun e w'=>∃ v,e=.returned v∧Ans w w' (val a n / P q / 2 ^ p) v:=by
  have hla:=ha.le
  have hma:=ha.max
  have e1:k / 30=q:=by omega
  have e2:k % 30=p:=by omega
  have hk0:0 <= k:=by omega
  have hqm:(q:Int) < 9223372036854775808:=by omega
  clear hk
  have hu:=two_pos p
  have huv:(2:Int) ^ p * 2 ^ (30 - p)=1073741824:=by rw [<- Int.pow_add,show p + (30 - p)=30 by omega]; rfl
  have HU:Hid ((2:Int) ^ p * 2 ^ (30 - p)=1073741824):=huv
  clear huv
  by_cases hqn:n <= q
  . have h0:val a n / P q / 2 ^ p=0:=by
      rw [Int.ediv_eq_zero_of_lt (val_nonneg da) (by have:=val_lt da; have:=P_le hqn; omega)]; exact Int.zero_ediv _
    have H0:Hid (val a n / P q / 2 ^ p=0):=h0
    clear h0
    go_enter Tryz.func135,Tryz.ntmps135
    go_wp2
    go_ret
    exact ⟨_,rfl,by rw [H0.out]; exact Ans.nil (bel_refl _)⟩
  . obtain ⟨ba,fa,rfl,hba,hca⟩:=ha.spot (by omega)
    have sp:(((30:Int) - p).toNat)=30 - p:=by omega
    obtain ⟨N,hN⟩:∃ N,n=q + N:=⟨n - q,by omega⟩
    have HN:Hid (n=q + N):=hN
    have hn1:q + N <= n:=by omega
    have hn2:n <= q + N:=by omega
    have hN0:0 < N:=by omega
    have hq1:q <= 100000:=by omega
    have hk1:k <= 4000000:=by omega
    clear hN hqn hqm hkm
    go_enter Tryz.func135,Tryz.ntmps135
    go_wp2_with (at_make; refine wpList_mk rfl _ _ rfl _ _ N rfl rfl (by omega) (by omega) (by omega) ?_; intro w1 hB1 hb1)
    go_loopw [24] (fun i wr=>∃ (k:Nat) (r:Nat->Int),k <= N∧i=.int .i64 k∧Blk wr w.heap.size N r∧Hid (∀ i,i < k->r i=low (fun j=>ext a n (q + j)) (2 ^ p) (2 ^ (30 - p)) i)∧Below w.heap.size w wr) (fun i _=>N - (intOf i).toNat)
    case atStart=>exact ⟨0,fun _=>0,Nat.zero_le _,rfl,hB1,fun i hi=>by omega,hb1⟩
    case round=>
      obtain ⟨k,r,hk,rfl,hB,HV,hbw⟩:=hrel
      by_cases hlt:k < N
      . have c1:=(hbw.cell (p:=⟨ba,fa + (q + k),none⟩) hba).trans (hca (q + k) (by omega))
        have cg:=hB.cell hlt
        have fg:=hB.frozen k
        have hB2:=hB.store k (a (q + k) / 2 ^ p)
        by_cases hl2:q + k + 1 < n
        . have dx:=da (q + k) (by omega)
          have dy:=da (q + k + 1) (by omega)
          obtain ⟨s0,s1,s2,s3,s4⟩:=shr_part dx dy hp
          obtain ⟨t0,t1,t2⟩:=shl_dig dy (show 30 - p <= 30 by omega)
          have hw:wrap64 (a (q + k + 1) * 2 ^ (30 - p))=a (q + k + 1) * 2 ^ (30 - p):=IntWalk.wrap64_in _ ⟨by omega,by omega⟩
          have h30:bits .and .i64 (a (q + k + 1) * 2 ^ (30 - p)) 1073741823=a (q + k + 1) % 2 ^ p * 2 ^ (30 - p):=(and_30 _).trans s2
          have hor:bits .or .i64 (a (q + k) / 2 ^ p) (a (q + k + 1) % 2 ^ p * 2 ^ (30 - p))=a (q + k) / 2 ^ p + a (q + k + 1) % 2 ^ p * 2 ^ (30 - p):=or_add _ _ _ s0 s1 s3 (by have:(2:Int) ^ (30 - p) <= 2 ^ 30:=two_le (by omega); omega)
          have c2:=(hbw.cell (p:=⟨ba,fa + (q + k + 1),none⟩) hba).trans (hca (q + k + 1) (by omega))
          clear s2
          go_wp2
          go_region
          go_wp2
          go_roundw
          case rel=>exact ⟨k + 1,upd (upd r k (a (q + k) / 2 ^ p)) k (a (q + k) / 2 ^ p + a (q + k + 1) % 2 ^ p * 2 ^ (30 - p)),by omega,by go_num,(hB2.store k _).of_block rfl,fun i hi=>by
              by_cases e:i=k
              . rw [e,upd_same]
                show _=ext a n (q + k) / 2 ^ p + ext a n (q + (k + 1)) % 2 ^ p * 2 ^ (30 - p)
                rw [ext_lt a (by omega),ext_lt a (by omega),Nat.add_assoc]
              . rw [upd_other _ _ e,upd_other r _ e]; exact HV.out i (by omega),((hbw.setCell (Nat.le_refl _) _).setCell (Nat.le_refl _) _).drew⟩
          case measure=>simp [intOf]; omega
        . go_wp2
          go_roundw
          case rel=>exact ⟨k + 1,upd r k (a (q + k) / 2 ^ p),by omega,by go_num,hB2,fun i hi=>by
              by_cases e:i=k
              . rw [e,upd_same,low_last (s:=fun j=>ext a n (q + j)) (ext_ge a (by omega)),ext_lt a (by omega)]
              . rw [upd_other r _ e]; exact HV.out i (by omega),hbw.setCell (Nat.le_refl _) _⟩
          case measure=>simp [intOf]; omega
      . obtain rfl:k=N:=by omega
        go_wp2_with (go_at_call 145; refine (trim_any _ _ _ _ _ (hB.row0 (Nat.le_refl _) (by omega))).mono ?_; rintro e w3 ⟨t,ht,htop,hz,rfl,rfl⟩)
        go_ret
        have DS:Dig (fun j=>ext a n (q + j)) (k + 1):=fun i hi=>ext_dig da (q + k + 1) (q + i) (by omega)
        have D2:Dig r k:=(low_dig hu HU.out DS).congr fun i hi=>(HV.out i hi).symm
        obtain ⟨hNr,hv⟩:=nrm_of_top D2 ht htop hz
        refine ⟨_,rfl,t,r,hB.cut (Nat.le_refl _) ht (by omega),hNr,?_,hbw⟩
        rw [hv,val_congr HV.out,low_eq (s:=fun j=>ext a n (q + j)) hu HU.out (ext_ge a (by omega))]
        have e3:=val_drop a (show q <= n by omega) da
        rw [<- e3,show n - q=k by omega]
        congr 1
        exact val_congr fun i hi=>ext_lt a (by omega)
theorem lower_any (ao:Option Addr) (n ca k:Nat) (a:Nat->Int) (w:World) (ha:Row w ao n ca a) (da:Dig a n) (hn:n <= 100000) (hk:(k:Int) < 9223372036854775808) :
    Calls Tryz.prog 135 #[.slice ao n ca,.int .i64 k] w fun e w'=>∃ v,e=.returned v∧Ans w w' (val a n / 2 ^ k) v:=by
  refine (lower_qp ao n ca (k / 30) (k % 30) a w ha da hn (by omega) k (by omega) hk).mono ?_
  rintro e w' ⟨v,he,h⟩
  refine ⟨v,he,?_⟩
  rw [two_split k,<- Int.ediv_ediv_of_nonneg (Int.le_of_lt (P_pos _))]
  exact h
def okN (ng:Bool) (d:Nat->Int) (n:Nat) (e:Int):Bool:=decide ((n=0∧ng=false∧e=0)∨(0 < n∧(n <= 2000∧Nrm d n)∧d 0 % 2=1∧-1048576 <= e∧e <= 1048576))
theorem and_one (x:Int):bits .and .i64 x 1=x % 2:=and_i64_mask x 1 (by decide)
set_option maxHeartbeats 1000000 in
theorem dvalid_any (ng:Bool) (ao:Option Addr) (n cap:Nat) (d:Nat->Int) (e:Int) (w:World) (h:Row w ao n cap d) :
    Calls Tryz.prog 90 #[.agg #[.bool ng,.slice ao n cap,.int .i64 e]] w fun r w'=>r=.returned (.bool (okN ng d n e))∧Below w.heap.size w w':=by
  have hl:=h.le
  have hm:=h.max
  by_cases h0:n=0
  . subst h0
    have e0:okN ng d 0 e=(!ng && (e == 0)):=by
      by_cases he:e=0 <;> cases ng <;> simp [okN,he]
    cases ng
    . go_enter Tryz.func90,Tryz.ntmps90
      go_wp2
      go_ret
      exact ⟨ret_bool (by rw [e0]; rfl),bel_alloc _ _⟩
    . go_enter Tryz.func90,Tryz.ntmps90
      go_wp2
      go_ret
      exact ⟨ret_bool (by rw [e0]; rfl),bel_alloc _ _⟩
  . obtain ⟨b,off,rfl,hb,hc⟩:=h.spot (by omega)
    have c0:(w.alloc (.cells #[.bool ng,.slice (some ⟨b,off,none⟩) n cap,.int .i64 e] 26)).cell? ⟨b,off,none⟩=some (.int .i64 (d 0)):=((bel_alloc w _).cell (p:=⟨b,off,none⟩) hb).trans (hc 0 (by omega))
    have hA:=and_one (d 0)
    have hn0:((n:Int) == 0)=false:=by simp; omega
    have hR:=h.alloc (.cells #[.bool ng,.slice (some ⟨b,off,none⟩) n cap,.int .i64 e] 26)
    by_cases h1:d 0 % 2=1
    . by_cases h2:-1048576 <= e
      . by_cases h3:e <= 1048576
        . have e0:okN ng d n e=okB d n:=by simp [okN,okB,h0,h1,h2,h3]; omega
          go_enter Tryz.func90,Tryz.ntmps90
          go_wp2_with (go_at_call 112; refine (valid_any _ _ _ _ _ hR).mono ?_; rintro r w1 ⟨rfl,rfl⟩)
          go_ret
          exact ⟨ret_bool e0.symm,bel_alloc _ _⟩
        . have e0:okN ng d n e=false:=by simp [okN]; omega
          go_enter Tryz.func90,Tryz.ntmps90
          go_wp2
          go_ret
          exact ⟨ret_bool (by first | rfl | rw [e0]),bel_alloc _ _⟩
      . have e0:okN ng d n e=false:=by simp [okN]; omega
        go_enter Tryz.func90,Tryz.ntmps90
        go_wp2
        go_ret
        exact ⟨ret_bool (by first | rfl | rw [e0]),bel_alloc _ _⟩
    . have e0:okN ng d n e=false:=by simp [okN]; omega
      go_enter Tryz.func90,Tryz.ntmps90
      go_wp2
      go_ret
      exact ⟨ret_bool (by first | rfl | rw [e0]),bel_alloc _ _⟩
def sgn (ng:Bool) (n:Nat):Int:=if n=0 then 0 else if ng then -1 else 1
structure NumR where
  ng:Bool
  ao:Option Addr
  n:Nat
  cap:Nat
  d:Nat->Int
  e:Int
instance:Inhabited NumR:=⟨⟨false,none,0,0,fun _=>0,0⟩⟩
def NumR.v (r:NumR):Value:=.agg #[.bool r.ng,.slice r.ao r.n r.cap,.int .i64 r.e]
structure At3 (w:World) (b o:Nat) (r:NumR):Prop where
  c0:w.cell? ⟨b,o,none⟩=some (.bool r.ng)
  c1:w.cell? ⟨b,o + 1,none⟩=some (.slice r.ao r.n r.cap)
  c2:w.cell? ⟨b,o + 2,none⟩=some (.int .i64 r.e)
  row:Row w r.ao r.n r.cap r.d
structure Nums (w:World) (ao:Option Addr) (n cap:Nat) (r:Nat->NumR):Prop where
  le:n <= cap
  max:cap <= 9223372036854775807
  spot:0 < n->∃ b off,ao=some ⟨b,off,none⟩∧b < w.heap.size∧∀ i,i < n->At3 w b (off + i * 3) (r i)
theorem At3.keeps {w w':World} {b o:Nat} {r:NumR} (h:At3 w b o r) (hb:Below w.heap.size w w') (hlt:b < w.heap.size):At3 w' b o r :=
  ⟨(hb.cell (p:=⟨b,o,none⟩) hlt).trans h.c0,(hb.cell (p:=⟨b,o + 1,none⟩) hlt).trans h.c1,(hb.cell (p:=⟨b,o + 2,none⟩) hlt).trans h.c2,h.row.keeps hb⟩
theorem Nums.keeps {w w':World} {ao:Option Addr} {n cap:Nat} {r:Nat->NumR} (h:Nums w ao n cap r) (hb:Below w.heap.size w w'):Nums w' ao n cap r :=
  ⟨h.le,h.max,fun hn=>by
    obtain ⟨b,off,rfl,hlt,hc⟩:=h.spot hn
    exact ⟨b,off,rfl,Nat.lt_of_lt_of_le hlt hb.size,fun i hi=>(hc i hi).keeps hb hlt⟩⟩
def okR (r:NumR):Bool:=okN r.ng r.d r.n r.e
def allOk (r:Nat->NumR) (n:Nat):Bool:=decide (∀ i,i < n->okR (r i)=true)
set_option maxRecDepth 100000 in
set_option maxHeartbeats 1000000 in
theorem dvalids_any (ao:Option Addr) (n cap:Nat) (r:Nat->NumR) (w:World) (h:Nums w ao n cap r) :
    Calls Tryz.prog 150 #[.slice ao n cap] w fun x w'=>x=.returned (.bool (allOk r n))∧Below w.heap.size w w':=by
  have hl:=h.le
  have hm:=h.max
  go_enter Tryz.func150,Tryz.ntmps150
  go_wp2_with fail
  go_loopw [7] (fun i wr=>∃ k:Nat,k <= n∧i=.int .i64 k∧Hid (∀ j,j < k->okR (r j)=true)∧Below w.heap.size w wr) (fun i _=>n - (intOf i).toNat)
  case atStart=>exact ⟨0,Nat.zero_le _,rfl,fun j hj=>by omega,bel_refl _⟩
  case round=>
    obtain ⟨k,hk,rfl,HO,hbw⟩:=hrel
    by_cases hlt:k < n
    . obtain ⟨b,off,rfl,hb,hc⟩:=h.spot (by omega)
      obtain ⟨c0,c1,c2,hR⟩:=(hc k hlt).keeps hbw hb
      generalize hr:r k=x at *
      obtain ⟨ng,xo,xn,xc,xd,xe⟩:=x
      simp only at c0 c1 c2 hR
      by_cases hok:okN ng xd xn xe=true
      . go_wp2_with (go_at_call 90; refine (dvalid_any ng xo xn xc xd xe _ (hR.alloc _)).mono ?_; rintro x w1 ⟨rfl,hb1⟩)
        go_roundw
        case rel=>exact ⟨k + 1,by omega,by go_num,fun j hj=>by
            by_cases e:j=k
            . subst e; rw [hr]; exact hok
            . exact HO.out j (by omega),hbw.trans ((bel_trans (bel_alloc _ _) hb1).mono hbw.size)⟩
        case measure=>simp [intOf]; omega
      . have hok':okN ng xd xn xe=false:=by simpa using hok
        go_wp2_with (go_at_call 90; refine (dvalid_any ng xo xn xc xd xe _ (hR.alloc _)).mono ?_; rintro x w1 ⟨rfl,hb1⟩)
        go_ret
        exact ⟨ret_bool (by
          symm
          refine decide_eq_false fun hx=>?_
          have:=hx k hlt
          rw [hr] at this
          exact hok this),hbw.trans ((bel_trans (bel_alloc _ _) hb1).mono hbw.size)⟩
    . obtain rfl:k=n:=by omega
      go_wp2
      go_ret
      exact ⟨ret_bool (decide_eq_true HO.out).symm,hbw⟩
set_option maxHeartbeats 2000000 in
theorem product_any (ao bo:Option Addr) (n m ca cb:Nat) (a b:Nat->Int) (w:World) (ha:Row w ao n ca a) (hb:Row w bo m cb b) (da:Dig a n) (db:Dig b m) (hn:n <= 100000) (hm:m <= 100000) :
    Calls Tryz.prog 159 #[.slice ao n ca,.slice bo m cb] w fun e w'=>∃ v,e=.returned v∧Ans w w' (val a n * val b m) v:=by
  have hla:=ha.le
  have hma:=ha.max
  have hlb:=hb.le
  have hmb:=hb.max
  go_enter Tryz.func159,Tryz.ntmps159
  go_wp2_with (at_make; refine wpList_mk rfl _ _ rfl _ _ (n + m) rfl rfl (by omega) (by omega) (by omega) ?_; intro w1 hB1 hb1)
  go_loopw [18] (fun i wr=>∃ (k:Nat) (r:Nat->Int),k <= n∧i=.int .i64 k∧Blk wr w.heap.size (n + m) r∧Dig r (n + m)∧Hid (∀ t,k + m <= t->r t=0)∧Hid (val r (k + m)=val a k * val b m)∧Below w.heap.size w wr) (fun i _=>n - (intOf i).toNat)
  case atStart=>exact ⟨0,fun _=>0,Nat.zero_le _,rfl,hB1,zero_dig _,fun _ _=>rfl,by show _=_; rw [val_zeros (Nat.zero_le (0 + m)) (fun _ _ _=>rfl)]; show 0=0 * val b m; omega,hb1⟩
  case round=>
    obtain ⟨i,r0,hi,rfl,hB0,hD0,HZ0,HV0,hbw0⟩:=hrel
    by_cases hlt:i < n
    . obtain ⟨ba,fa,rfl,hba,hca⟩:=ha.spot (by omega)
      have dai:=da i hlt
      go_wp2
      go_loopw [8,30] (fun c j wr=>∃ (k:Nat) (q:Int) (r:Nat->Int),k <= m∧j=.int .i64 k∧c=.int .i64 q∧0 <= q∧q < 1073741824∧Blk wr w.heap.size (n + m) r∧Dig r (n + m)∧Hid (∀ t,i + k <= t->r t=r0 t)∧Hid (val r (i + k) + q * P (i + k)=val r0 (i + k) + a i * val b k * P i)∧Below w.heap.size w wr) (fun _ j _=>m - (intOf j).toNat)
      case atStart=>exact ⟨0,0,r0,Nat.zero_le _,rfl,rfl,by omega,by omega,hB0,hD0,fun _ _=>rfl,by show _=_; show val r0 i + 0 * P i=val r0 i + a i * 0 * P i; grind,hbw0⟩
      case round=>
        obtain ⟨k,q,r,hk,rfl,rfl,hq0,hq1,hB,hD,HS,HV,hbw⟩:=hrel
        have c1:=(hbw.cell (p:=⟨ba,fa + i,none⟩) hba).trans (hca i hlt)
        by_cases hkm:k < m
        . obtain ⟨bb,fb,rfl,hbb,hcb⟩:=hb.spot (by omega)
          have c2:=(hbw.cell (p:=⟨bb,fb + k,none⟩) hbb).trans (hcb k hkm)
          have c3:=hB.cell (show i + k < n + m by omega)
          have fg:=hB.frozen (i + k)
          have drk:=hD (i + k) (by omega)
          have hmul:=dig_mul dai (db k hkm)
          have h30:=and_30 (q + (a i * b k + r (i + k)))
          go_wp2
          go_quiet (fail)
          go_wp2
          have hs:=mul_step (b:=b) (j:=k) HV.out (HS.out (i + k) (Nat.le_refl _))
          go_roundw
          case rel=>exact ⟨k + 1,_,upd r (i + k) ((q + (a i * b k + r (i + k))) % 1073741824),by omega,by go_num,rfl,by omega,by omega,hB.store (i + k) _,hD.upd _ (mod_dig _),fun t ht=>by rw [upd_other r _ (by omega)]; exact HS.out t (by omega),hs,(bDrewN hbw _).setCell (Nat.le_refl _) _⟩
          case measure=>simp [intOf]; omega
        . obtain rfl:k=m:=by omega
          have c3:=hB.cell (show i + k < n + k by omega)
          have fg:=hB.frozen (i + k)
          go_wp2
          have hr:=mul_row HV.out HV0.out
          go_roundw
          case rel=>exact ⟨i + 1,upd r (i + k) q,by omega,by go_num,hB.store (i + k) _,hD.upd _ ⟨hq0,hq1⟩,fun t ht=>by rw [upd_other r _ (by omega),HS.out t (by omega)]; exact HZ0.out t (by omega),by show _=_; rw [hr,val_succ],hbw.setCell (Nat.le_refl _) _⟩
          case measure=>simp [intOf]; omega
    . obtain rfl:i=n:=by omega
      go_wp2_with (go_at_call 145; refine (trim_any _ _ _ _ _ (hB0.row0 (Nat.le_refl _) (by omega))).mono ?_; rintro e w3 ⟨t,ht,htop,hz,rfl,rfl⟩)
      go_ret
      obtain ⟨hN,hv⟩:=nrm_of_top hD0 ht htop hz
      exact ⟨_,rfl,t,r0,hB0.cut (Nat.le_refl _) ht (by omega),hN,by rw [hv,HV0.out],hbw0⟩
theorem ord_top {d e:Nat->Int} {n k:Nat} (hd:Dig d n) (he:Dig e n) (hk:k < n) (hs:∀ i,k < i->i < n->d i=e i) (hne:d k ≠ e k):ord (d k) (e k)=ord (val d n) (val e n):=by
  rcases Int.lt_or_gt_of_ne hne with h1 | h1
  . rw [ord_lt h1,ord_lt (cmp_top hd he hk hs h1)]
  . rw [ord_gt h1,ord_gt (cmp_top he hd hk (fun i a b=>(hs i a b).symm) h1)]
def fitV (ao:Option Addr) (t cap:Nat):Value:=if 2000 < t then .slice none 0 0 else .slice ao t cap
def fitE (t:Nat):Int:=if 2000 < t then 2 else 0
theorem Fit.of {w w':World} {V:Int} {ao:Option Addr} {t cap:Nat} {d:Nat->Int} (h1:Out w.heap.size w' (.slice ao t cap) t d) (h2:Nrm d t) (h3:val d t=V) (hb:Below w.heap.size w w'):Fit w w' V (fitV ao t cap) (fitE t):=by
  refine ⟨hb,?_⟩
  by_cases h:2000 < t
  . refine .inr ⟨?_,by simp [fitE,h],by simp [fitV,h]⟩
    have a:=val_top h2.1 (by omega) h2.2
    have b:=P_le (show 2000 <= t - 1 by omega)
    omega
  . refine .inl ⟨?_,by simp [fitE,h],?_⟩
    . have a:=val_lt h2.1
      have b:=P_le (show t <= 2000 by omega)
      omega
    . rw [show fitV ao t cap=.slice ao t cap by simp [fitV,h]]
      exact ⟨t,d,h1,h2,h3,hb⟩
structure Two (w:World) (ao bo:Option Addr) (n m ca cb:Nat) (a b:Nat->Int):Prop where
  ra:Row w ao n ca a
  rb:Row w bo m cb b
theorem Two.keeps {w w':World} {ao bo:Option Addr} {n m ca cb:Nat} {a b:Nat->Int} (h:Two w ao bo n m ca cb a b) (hb:Below w.heap.size w w'):Two w' ao bo n m ca cb a b:=⟨h.ra.keeps hb,h.rb.keeps hb⟩
instance (n:Nat) (a b:Nat->Int):Decidable (∀ i,i < n->a i=b i):=by infer_instance
theorem Num.ok {d:Nat->Int} {n:Nat} (h:Nrm d n) (hV:val d n < P 2000):okB d n=true:=by
  refine okB_yes ?_ h
  by_cases hk:n <= 2000
  . exact hk
  . have a:=val_top h.1 (by omega) h.2
    have b:=P_le (show 2000 <= n - 1 by omega)
    omega
set_option maxHeartbeats 400000 in
theorem digits_nat (V:Int) (w:World) (h0:0 <= V) (h1:V < 9223372036854775808) :
    Calls Tryz.prog 160 #[.int .i64 V] w fun e w'=>∃ v,e=.returned v∧Ans w w' V v:=by
  have HM:Hid (V < 9223372036854775808):=h1
  clear h1
  go_enter Tryz.func160,Tryz.ntmps160
  go_wp2
  go_loopw [0,3] (fun i v wr=>∃ (x:Int) (k:Nat) (r:Nat->Int),i=.int .i64 x∧0 <= x∧k <= 3∧Out w.heap.size wr v k r∧Dig r k∧Hid (x * P k <= V)∧Hid (x=0->Top r k)∧Hid (val r k + x * P k=V)∧Below w.heap.size w wr) (fun i _ _=>(intOf i).toNat)
  case atStart=>exact ⟨V,0,fun _=>0,rfl,h0,by omega,Out.nil _ _ _,fun i hi=>by omega,by show _ <= _; show V * 1 <= V; omega,fun _=>.inl rfl,by show _=_; show 0 + V * 1=V; omega,bel_refl _⟩
  case round=>
    obtain ⟨x,k,r,rfl,hx,hk3,hO,hD,HB,HT,HV,hbw⟩:=hrel
    by_cases hp:0 < x
    . have h30:=and_30 x
      have hk2:k <= 2:=by
        by_cases e:k=3
        . subst e
          have a:=HB.out
          have b:=HM.out
          have c:P 3=1073741824 * 1073741824 * 1073741824:=by decide
          have d:1 * P 3 <= x * P 3:=Int.mul_le_mul_of_nonneg_right (by omega) (Int.le_of_lt (P_pos 3))
          omega
        . omega
      go_wp2_with (at_builtin; refine wpList_app rfl _ _ rfl w.heap.size _ k r rfl (hO.stays (bel_alloc _ _)) _ 1 1 (fun _=>x % 1073741824) rfl (row1 _ _ rfl) (by omega) (by have:=hbw.size; simp; omega) ?_; intro v' w1 hO1 hg1)
      have hb1:Below w.heap.size w w1:=(hbw.alloc hbw.size _).grown hg1 (by have:=hbw.size; simp; omega) (own_ge hO)
      have e1:∀ i,i < k + 1->cat r k (fun _=>x % 1073741824) i=upd r k (x % 1073741824) i:=fun i hi=>by
        by_cases e:i < k
        . simp [cat,e,upd_other r _ (show i ≠ k by omega)]
        . obtain rfl:i=k:=by omega
          simp [cat,upd_same]
      have hs:=sum_step (c:=0) (x:=x) (show val r k + 0 * P k=val r k by omega)
      rw [Int.zero_add] at hs
      go_roundw
      case rel=>exact ⟨x / 1073741824,k + 1,upd r k (x % 1073741824),rfl,by omega,by omega,hO1.congr e1,dig_snoc ((hD.congr (fun i hi=>(upd_other r _ (by omega)).symm))) (by rw [upd_same]; omega) (by rw [upd_same]; omega),by
          show _ <= _
          have a:=HB.out
          rw [P_succ,show x / 1073741824 * (P k * 1073741824)=(x / 1073741824 * 1073741824) * P k by grind]
          have b:(x / 1073741824 * 1073741824) * P k <= x * P k:=Int.mul_le_mul_of_nonneg_right (by omega) (Int.le_of_lt (P_pos k))
          omega,fun e=>.inr (by rw [Nat.add_sub_cancel,upd_same]; omega),by show _=_; rw [hs]; exact HV.out,hb1⟩
      case measure=>simp [intOf]; omega
    . obtain rfl:x=0:=by omega
      go_wp2
      go_ret
      exact ⟨_,rfl,k,r,hO,⟨hD,HT.out (by first | rfl | trivial)⟩,by have:=HV.out; omega,hbw⟩
def Gs (U V t:Int):Prop:=0 <= t∧t < 1073741824∧(t - 1) * V <= U∧U < (t + 1) * V
structure Stp (u v:Nat->Int) (L:Nat) (U V:Int):Prop where
  du:Dig u (L + 3)
  dv:Dig v (L + 2)
  top:536870912 <= v (L + 1)
  eU:U=val u (L + 3)
  eV:V=val v (L + 2)
  lt:U < 1073741824 * V
theorem Stp.splitV {u v:Nat->Int} {L:Nat} {U V:Int} (h:Stp u v L U V):V=(v (L + 1) * 1073741824 + v L) * P L + val v L:=by
  rw [h.eV,val_succ,val_succ,P_succ]; grind
theorem Stp.splitU {u v:Nat->Int} {L:Nat} {U V:Int} (h:Stp u v L U V):U=((u (L + 2) * 1073741824 + u (L + 1)) * 1073741824 + u L) * P L + val u L:=by
  rw [h.eU,val_succ,val_succ,val_succ,show P (L + 2)=P L * 1073741824 * 1073741824 from rfl,show P (L + 1)=P L * 1073741824 from rfl]; grind
theorem Stp.topU {u v:Nat->Int} {L:Nat} {U V:Int} (h:Stp u v L U V):u (L + 2) <= v (L + 1):=by
  have h1:val u (L + 3)=val u (L + 2) + u (L + 2) * P (L + 2):=val_succ _ _
  have h2:val v (L + 2)=val v (L + 1) + v (L + 1) * P (L + 1):=val_succ _ _
  have a:=val_nonneg (h.du.le (show L + 2 <= L + 3 by omega))
  have b:=val_lt (h.dv.le (show L + 1 <= L + 2 by omega))
  have c:=h.lt
  rw [h.eU,h.eV,h1,h2] at c
  have p:=P_pos (L + 1)
  have e:P (L + 2)=P (L + 1) * 1073741824:=P_succ _
  rw [e] at c
  rcases Int.lt_or_le (v (L + 1)) (u (L + 2)) with q | q
  . have f:(v (L + 1) + 1) * (P (L + 1) * 1073741824) <= u (L + 2) * (P (L + 1) * 1073741824):=mul_le_r (by omega) (by omega)
    have g:(v (L + 1) + 1) * (P (L + 1) * 1073741824)=1073741824 * (v (L + 1) * P (L + 1)) + 1073741824 * P (L + 1):=by grind
    omega
  . exact q
theorem Stp.small {u v:Nat->Int} {L:Nat} {U V:Int} (h:Stp u v L U V) {t l:Int} (hh:u (L + 2) * 1073741824 + u (L + 1)=t * v (L + 1) + l) (hl:1073741823 < l):t < 1073741824:=by
  rcases Int.lt_or_le t 1073741824 with q | q
  . exact q
  . have a:=h.topU
    have b:=(h.du (L + 1) (by omega)).2
    have c:=(h.dv (L + 1) (by omega)).1
    have e:1073741824 * v (L + 1) <= t * v (L + 1):=mul_le_r q c
    omega
theorem Stp.long {u v:Nat->Int} {L:Nat} {U V:Int} (h:Stp u v L U V) {t l:Int} (ht:0 <= t) (hh:u (L + 2) * 1073741824 + u (L + 1)=t * v (L + 1) + l) (hl:1073741823 < l) (hU:U < (t + 1) * V):Gs U V t:=by
  have a:=knuth_long h.splitV (val_lt (h.dv.le (by omega))) (h.dv L (by omega)).2 h.splitU (val_nonneg (h.du.le (by omega))) (h.du L (by omega)).1 (P_pos L) hh ht (h.small hh hl) (by omega)
  have:=val_nonneg h.dv
  rw [<- h.eV] at this
  exact ⟨ht,h.small hh hl,by rw [Int.sub_mul]; omega,hU⟩
theorem Stp.done {u v:Nat->Int} {L:Nat} {U V:Int} (h:Stp u v L U V) {t l:Int} (ht:0 <= t) (hh:u (L + 2) * 1073741824 + u (L + 1)=t * v (L + 1) + l) (h1:t < 1073741824) (hc:t * v L <= l * 1073741824 + u L) (hU:U < (t + 1) * V):Gs U V t :=
  ⟨ht,h1,knuth_short h.splitV (val_nonneg (h.dv.le (by omega))) (val_lt (h.dv.le (by omega))) (by have:=h.top; omega) (h.dv L (by omega)).1 h.splitU (val_nonneg (h.du.le (by omega))) (P_pos L) hh ht h1 hc,hU⟩
theorem RowX.row {g:Nat} {w:World} {ao:Option Addr} {n cap:Nat} {d:Nat->Int} (h:RowX g w ao n cap d) (hn:0 < n):Row w ao n cap d :=
  ⟨h.le,h.max,(fun e=>by obtain ⟨b,off,q,_⟩:=h.spot hn; rw [q] at e; cases e),fun _=>by
    obtain ⟨b,off,q,hlt,_,hc⟩:=h.spot hn
    exact ⟨b,off,q,hlt,hc⟩⟩
def Tk (g N at_ M:Nat) (r:Nat->Int) (w w':World) (U V t:Int):Prop :=
  ∃ r',Blk w' g N r'∧(∀ i,i < at_∨at_ + M < i->r' i=r i)∧Dig (fun i=>r' (at_ + i)) (M + 1)∧U=t * V + val (fun i=>r' (at_ + i)) (M + 1)∧val (fun i=>r' (at_ + i)) (M + 1) < V∧0 <= t∧t < 1073741824∧Wr g w w'
theorem Stp.facts {u v:Nat->Int} {L M:Nat} {U V:Int} (hM:M=L + 2) (h:Stp u v L U V):Dig v M∧Dig u (M + 1)∧V=val v M∧U=val u M + u M * P M∧V < P M∧0 <= U:=by
  subst hM
  have e1:=h.eU
  have e2:=val_nonneg h.du
  have e3:=val_lt h.dv
  have e4:=h.eV
  refine ⟨h.dv,h.du,e4,?_,by omega,by omega⟩
  rw [e1]; exact val_succ u (L + 2)
theorem Blk.cells {w:World} {g N:Nat} {r:Nat->Int} (h:Blk w g N r) {at_ n:Nat} (hn:at_ + n <= N):∀ i,i < n->w.cell? ⟨g,at_ + i,none⟩=some (.int .i64 ((fun j=>r (at_ + j)) i)):=fun i hi=>h.cell (by omega)
theorem Out.cut {B:Nat} {w:World} {ao:Option Addr} {n cap m:Nat} {d:Nat->Int} (h:Out B w (.slice ao n cap) n d) (hm:m <= n):Out B w (.slice ao m cap) m d:=by
  refine ⟨by rw [vals_length]; omega,?_⟩
  rcases h.2 with ⟨hn,h0⟩ | ⟨g,cap',cur,hv,hB,hg,hnc,hcm,hs,ht⟩
  . simp only [Value.slice.injEq] at hn
    obtain ⟨rfl,rfl,rfl⟩:=hn
    obtain rfl:m=0:=by omega
    exact .inl ⟨rfl,rfl⟩
  . simp only [Value.slice.injEq] at hv
    obtain ⟨rfl,_,rfl⟩:=hv
    refine .inr ⟨g,cap,cur,rfl,hB,hg,by omega,hcm,hs,?_⟩
    apply vals_ext (by simp; omega)
    intro i hi
    have e:(cur.toList.take (n * 1))[i]?=(vals d n)[i]?:=by rw [ht]
    rw [List.getElem?_take,if_pos (by omega),vals_get d (by omega)] at e
    rw [List.getElem?_take,if_pos (by omega)]; exact e
theorem Row.drew {w:World} {ao:Option Addr} {n cap:Nat} {d:Nat->Int} (h:Row w ao n cap d):Row w.drew ao n cap d:=⟨h.le,h.max,h.nl,h.spot⟩
theorem dig_zero {f:Nat->Int} {N M:Nat} (h:Dig f N) (hM:M <= N) (hv:val f N < P M):∀ i,M <= i->i < N->f i=0:=by
  have e:=val_split f M (N - M)
  rw [show M + (N - M)=N by omega] at e
  have a:=val_nonneg (h.le hM)
  have dh:Dig (fun i=>f (M + i)) (N - M):=fun i hi=>h (M + i) (by omega)
  have b:=val_nonneg dh
  have pm:=P_pos M
  have z:val (fun i=>f (M + i)) (N - M)=0:=by
    rcases Int.lt_or_eq_of_le b with q | q
    . have:P M * 1 <= P M * val (fun i=>f (M + i)) (N - M):=mul_le_l (by omega) (by omega)
      omega
    . exact q.symm
  have z2:val (fun _:Nat=>(0:Int)) (N - M)=0:=val_zeros (Nat.zero_le _) (fun _ _ _=>rfl)
  intro i hi hiN
  have:=val_inj dh (zero_dig (N - M)) (z.trans z2.symm) (i - M) (by omega)
  rwa [show M + (i - M)=i by omega] at this
theorem val_mid {r:Nat->Int} {at_ M N:Nat} (h:at_ + M <= N) (hz:∀ i,at_ + M <= i->i < N->r i=0):val r N=val r at_ + P at_ * val (fun i=>r (at_ + i)) M:=by
  rw [val_zeros h hz,val_split]
theorem div_round {r:Nat->Int} {at_ m N:Nat} {V:Int} (hd:Dig r N) (h:at_ + (m + 1) <= N) (hV:V < P m) (hlt:val r N < V * P (at_ + 1)) :
    (∀ i,at_ + (m + 1) <= i->i < N->r i=0)∧val r N=val r at_ + P at_ * val (fun i=>r (at_ + i)) (m + 1)∧val (fun i=>r (at_ + i)) (m + 1) < 1073741824 * V:=by
  have pa:=P_pos at_
  have h1:V * P (at_ + 1) <= P m * P (at_ + 1):=mul_le_r (by omega) (Int.le_of_lt (P_pos _))
  rw [<- P_add,show m + (at_ + 1)=at_ + (m + 1) by omega] at h1
  have hz:=dig_zero hd h (by omega)
  have e:=val_mid h hz
  refine ⟨hz,e,?_⟩
  have lo:=val_nonneg (hd.le (show at_ <= N by omega))
  rcases Int.lt_or_le (val (fun i=>r (at_ + i)) (m + 1)) (1073741824 * V) with q | q
  . exact q
  . have:P at_ * (1073741824 * V) <= P at_ * val (fun i=>r (at_ + i)) (m + 1):=mul_le_l q (by omega)
    rw [P_succ] at hlt
    have e2:V * (P at_ * 1073741824)=P at_ * (1073741824 * V):=by grind
    omega
def DivR (w0:World) (g gq n t K:Nat) (v:Nat->Int) (byo:Option Addr) (bcap:Nat) (AA V:Int) (k:Nat) (wr:World):Prop :=
  ∃ r qf,Blk wr g (n + 1) r∧Dig r (n + 1)∧Blk wr gq K qf∧Dig qf K∧(∀ i,i < K - k->qf i=0)∧AA=val qf K * V + val r (n + 1)∧val r (n + 1) < V * P (K - k)∧RowX g wr byo t bcap v∧Below w0.heap.size w0 wr
theorem DivR.step {w0:World} {g gq n t K:Nat} {v r qf:Nat->Int} {byo:Option Addr} {bcap:Nat} {AA V q:Int} {k at_:Nat} {wr w7:World} (hK:K=at_ + 1 + k) (hK1:K + t <= n + 1)
    (hBr:Blk wr g (n + 1) r) (hDr:Dig r (n + 1)) (hBq:Blk wr gq K qf) (hDq:Dig qf K) (hzq:∀ i,i < K - k->qf i=0) (hA:AA=val qf K * V + val r (n + 1)) (hlt:val r (n + 1) < V * P (K - k)) (hX:RowX g wr byo t bcap v) (hbw:Below w0.heap.size w0 wr)
    (hVt:V < P t) (hne:gq ≠ g) (hg:w0.heap.size <= g) (hgq:w0.heap.size <= gq) (hne2:0 < t->∀ b off,byo=some ⟨b,off,none⟩->b ≠ gq) (hT:Tk g (n + 1) at_ t r wr w7 (val (fun i=>r (at_ + i)) (t + 1)) V q) :
    DivR w0 g gq n t K v byo bcap AA V (k + 1) (w7.setCell ⟨gq,at_,none⟩ (.int .i64 q)):=by
  obtain ⟨r',hB7,hS7,hD7,hU7,hlt7,hq0,hq1,hw7⟩:=hT
  obtain ⟨hz,e,_⟩:=div_round (at_:=at_) (m:=t) hDr (by omega) hVt (by rwa [show at_ + 1=K - k by omega])
  have hBq7:Blk w7 gq K qf:=hBq.of_block (hw7.block gq hBq.lt hne)
  have hz':∀ i,at_ + (t + 1) <= i->i < n + 1->r' i=0:=fun i a b=>by rw [hS7 i (by omega)]; exact hz i a b
  have e':=val_mid (r:=r') (show at_ + (t + 1) <= n + 1 by omega) hz'
  have elo:val r' at_=val r at_:=val_congr fun i hi=>hS7 i (by omega)
  have hD':Dig r' (n + 1):=fun i hi=>by
    by_cases c:i < at_∨at_ + t < i
    . rw [hS7 i c]; exact hDr i hi
    . have:=hD7 (i - at_) (by omega)
      simp only [show at_ + (i - at_)=i by omega] at this
      exact this
  have lo0:=val_lt (hDr.le (show at_ <= n + 1 by omega))
  refine ⟨r',upd qf at_ q,hB7.apart (by simpa using hne.symm) _,hD',hBq7.store at_ q,hDq.upd _ ⟨hq0,hq1⟩,fun i hi=>?_,?_,?_,?_,?_⟩
  . rw [upd_other qf _ (by omega)]; exact hzq i (by omega)
  . rw [hA,val_upd qf q (show at_ < K by omega),hzq at_ (by omega),e,e',elo,hU7]; grind
  . rw [show K - (k + 1)=at_ by omega,e',elo]
    have h1:(val (fun i=>r' (at_ + i)) (t + 1) + 1) * P at_ <= V * P at_:=mul_le_r (by omega) (Int.le_of_lt (P_pos _))
    rw [Int.add_mul] at h1
    have h2:P at_ * val (fun i=>r' (at_ + i)) (t + 1)=val (fun i=>r' (at_ + i)) (t + 1) * P at_:=Int.mul_comm _ _
    omega
  . have hx:=hX.keeps hw7
    refine ⟨hx.le,hx.max,fun hn=>?_⟩
    obtain ⟨b,off,eb,hlt,hbg,hc⟩:=hx.spot hn
    exact ⟨b,off,eb,by simpa using hlt,hbg,fun i hi=>by
      have:=World.cell?_of_block (w:=w7) (a:=⟨b,off + i,none⟩) (heap_setCell_other w7 ⟨gq,at_,none⟩ b (.int .i64 q) (hne2 hn b off eb))
      rw [this]; exact hc i hi⟩
  . exact (hw7.below hbw (by exact hbw.size) hg).setCell hgq _
theorem DivR.done {w0:World} {g gq n t K:Nat} {v:Nat->Int} {byo:Option Addr} {bcap:Nat} {AA V:Int} {wr:World} (h:DivR w0 g gq n t K v byo bcap AA V K wr) :
    ∃ r qf,Blk wr g (n + 1) r∧Dig r (n + 1)∧Blk wr gq K qf∧Dig qf K∧AA=val qf K * V + val r (n + 1)∧val r (n + 1) < V∧Below w0.heap.size w0 wr:=by
  obtain ⟨r,qf,h1,h2,h3,h4,_,h5,h6,_,h7⟩:=h
  rw [Nat.sub_self] at h6
  have e:V * P 0=V:=by show V * 1=V; omega
  exact ⟨r,qf,h1,h2,h3,h4,h5,by omega,h7⟩
theorem Out.cutV {B:Nat} {w:World} {ao:Option Addr} {n cap t:Nat} {d:Nat->Int} (h:Out B w (.slice ao n cap) n d) (ht:t <= n):Out B w (cutV ao t cap) t d:=by
  unfold Go.Proofs.YtfgapefckpnjjaaGreatDoor.cutV
  split
  . rename_i e; subst e; exact Out.nil _ _ _
  . exact h.cut ht
end Go.Proofs.YtfgapefckpnjjaaGreatDoor
