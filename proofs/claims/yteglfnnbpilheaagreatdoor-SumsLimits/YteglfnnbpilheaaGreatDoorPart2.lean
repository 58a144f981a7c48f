/- Parts of the proof. -/
import Derived.Test.YteglfnnbpilheaaGreatDoorPart1
import Derived.Deep.Cut
import Derived.BigRegion
import Derived.Tactics
import Derived.Tactics2
import Derived.Defers
import Derived.Recover
import Derived.Laws.Pointers
import Derived.WalkLawsBesides
import Derived.Lib.SliceRun
import Derived.Deep.OwnRows
import Derived.Deep.RegionWith
import Derived.Deep.CutRange
import Derived.Laws.CopyOwn
set_option linter.unusedVariables false
set_option linter.unusedSimpArgs false
namespace Go.Proofs.YteglfnnbpilheaaGreatDoor
open Go Go.RowKit Go.Proofs.YteglfnnbpilheaaGreatDoor.M
def An (B:Nat) (w:World) (v:Value) (V:Int):Prop:=∃ t d,Out B w v t d∧Nrm d t∧val d t=V
theorem An.keeps {B:Nat} {w w':World} {v:Value} {V:Int} (h:An B w v V) (k:Below w.heap.size w w'):An B w' v V:=by
  obtain ⟨t,d,h1,h2⟩:=h
  exact ⟨t,d,h1.stays k,h2⟩
theorem An.lower {B B':Nat} {w:World} {v:Value} {V:Int} (h:An B w v V) (hB:B' <= B):An B' w v V:=by
  obtain ⟨t,d,h1,h2⟩:=h
  exact ⟨t,d,h1.lower hB,h2⟩
theorem An.nil (B:Nat) (w:World):An B w (.slice none 0 0) 0:=⟨0,fun _=>0,Out.nil _ _ _,⟨fun i hi=>by omega,.inl rfl⟩,rfl⟩
theorem Ans.an {w w':World} {V:Int} {v:Value} (h:Ans w w' V v):An w.heap.size w' v V:=by
  obtain ⟨t,d,h1,h2,h3,h4⟩:=h
  exact ⟨t,d,h1,h2,h3⟩
theorem An.shape {B:Nat} {w:World} {v:Value} {V:Int} (h:An B w v V):∃ ao n cap,v=.slice ao n cap:=by
  obtain ⟨t,d,h1,h2⟩:=h
  obtain ⟨ao,cap,e,_⟩:=h1.row
  exact ⟨ao,t,cap,e⟩
theorem An.num {B:Nat} {w:World} {v:Value} {V:Int} (h:An B w v V):Num w v V:=by
  obtain ⟨t,d,h1,h2,h3⟩:=h
  obtain ⟨ao,cap,rfl,hR⟩:=h1.row
  exact ⟨ao,t,cap,d,rfl,hR,h2,h3⟩
theorem An.ge {B:Nat} {w:World} {v:Value} {V:Int} (h:An B w v V) {g:Nat} (hg:v.ownBlock=some g):B <= g∧g < w.heap.size:=by
  obtain ⟨t,d,h1,h2,h3⟩:=h
  exact h1.ge hg
def S2 (S:Nat->Prop) (l:Value) (s:Nat):Nat->Prop:=fun g=>S g∨l.ownBlock=some g∨s <= g
def FitA (B:Nat) (w:World) (V:Int) (v:Value) (er:Int):Prop:=(V < P 2000∧er=0∧An B w v V)∨(P 2000 <= V∧er=2∧v=.slice none 0 0)
theorem FitA.keeps {B:Nat} {w w':World} {v:Value} {V er:Int} (h:FitA B w V v er) (k:Below w.heap.size w w'):FitA B w' V v er:=by
  rcases h with ⟨h1,h2,h3⟩ | h
  . exact .inl ⟨h1,h2,h3.keeps k⟩
  . exact .inr h
theorem FitA.lower {B B':Nat} {w:World} {v:Value} {V er:Int} (h:FitA B w V v er) (hB:B' <= B):FitA B' w V v er:=by
  rcases h with ⟨h1,h2,h3⟩ | h
  . exact .inl ⟨h1,h2,h3.lower hB⟩
  . exact .inr h
theorem FitA.ge {B:Nat} {w:World} {v:Value} {V er:Int} (h:FitA B w V v er) {g:Nat} (hg:v.ownBlock=some g):B <= g∧g < w.heap.size:=by
  rcases h with ⟨h1,h2,h3⟩ | ⟨_,_,rfl⟩
  . exact h3.ge hg
  . simp [Value.ownBlock] at hg
theorem FitA.shape {B:Nat} {w:World} {v:Value} {V er:Int} (h:FitA B w V v er):∃ ao n cap,v=.slice ao n cap:=by
  rcases h with ⟨h1,h2,h3⟩ | ⟨_,_,rfl⟩
  . exact h3.shape
  . exact ⟨_,_,_,rfl⟩
def lentD (a:Nat->Int) (n:Nat):Nat->Int:=cat a n (fun i=>-71 - (i:Int))
def LentA (w w':World) (v:Value) (n:Nat) (a:Nat->Int):Prop:=∃ g cap,v=.slice (some ⟨g,0,none⟩) (n + 3) cap∧Out w.heap.size w' v (n + 3) (lentD a n)∧Below w.heap.size w w'
theorem LentA.below {w w':World} {v:Value} {n:Nat} {a:Nat->Int} (h:LentA w w' v n a):Below w.heap.size w w':=by
  obtain ⟨g,cap,_,_,hb⟩:=h
  exact hb
theorem LentA.parts {w w':World} {v:Value} {n:Nat} {a:Nat->Int} (h:LentA w w' v n a):∃ g cap,v=.slice (some ⟨g,0,none⟩) (n + 3) cap∧Out w.heap.size w' (.slice (some ⟨g,0,none⟩) (n + 3) cap) (n + 3) (lentD a n):=by
  obtain ⟨g,cap,rfl,h,_⟩:=h
  exact ⟨g,cap,rfl,h⟩
def Lies (v:Value) (x y:Nat):Prop:=∀ g,v.ownBlock=some g->x <= g∧g < y
theorem upd_shift (r:Nat->Int) (q k:Nat) (x:Int):(fun i=>upd r (q + k) x (q + i))=upd (fun i=>r (q + i)) k x:=by
  funext i
  unfold upd
  by_cases h:i=k
  . simp [h]
  . simp [h]
theorem shl_dig {x:Int} {p:Nat} (hx:0 <= x∧x < 1073741824) (hp:p <= 30):0 <= x * 2 ^ p∧x * 2 ^ p <= 1073741823 * 2 ^ p∧(2:Int) ^ p <= 1073741824:=by
  have h:=two_pos p
  exact ⟨Int.mul_nonneg hx.1 (by omega),Int.mul_le_mul_of_nonneg_right (by omega) (by omega),two_le hp⟩
structure PileI (q p N n:Nat) (a r0:Nat->Int) (s:Int) (k:Nat) (c:Int) (r:Nat->Int):Prop where
  rest:∀ i,q + k <= i->r i=r0 i
  near:∀ i,0 <= s * (r i - r0 i)∧s * (r i - r0 i) < 1073741824
  sum:∃ T,val r N=val r0 N + s * (P q * T)∧T + c * P k=2 ^ p * val a k
theorem PileI.put {q p N n:Nat} {a r0:Nat->Int} {s:Int} {k:Nat} {c:Int} {r:Nat->Int} (h:PileI q p N n a r0 s k c r) (hs:s * s=1) (hN:q + k < N) {m c':Int} (hm:0 <= m∧m < 1073741824) (e:m + c' * 1073741824=c + a k * 2 ^ p) :
    PileI q p N n a r0 s (k + 1) c' (upd r (q + k) (r (q + k) + s * m)):=by
  refine ⟨fun i hi=>by rw [upd_other r _ (by omega)]; exact h.rest i (by omega),fun i=>?_,?_⟩
  . by_cases hi:i=q + k
    . subst hi
      rw [upd_same,h.rest _ (Nat.le_refl _),show s * (r0 (q + k) + s * m - r0 (q + k))=s * s * m by grind,hs]
      omega
    . rw [upd_other r _ hi]; exact h.near i
  . obtain ⟨T,e1,e2⟩:=h.sum
    refine ⟨T + m * P k,?_,?_⟩
    . rw [val_upd r _ hN,e1,P_add]; grind
    . rw [val_succ,P_succ]
      have:c' * (P k * 1073741824)=(c + a k * 2 ^ p - m) * P k:=by rw [show c + a k * 2 ^ p - m=c' * 1073741824 by omega]; grind
      rw [this,show T + m * P k + (c + a k * 2 ^ p - m) * P k=(T + c * P k) + a k * 2 ^ p * P k by grind,e2]; grind
structure Piled (N:Nat) (r0:Nat->Int) (s V:Int) (r:Nat->Int):Prop where
  near:∀ i,0 <= s * (r i - r0 i)∧s * (r i - r0 i) < 1073741824
  sum:val r N=val r0 N + s * V
theorem PileI.done {q p N n:Nat} {a r0:Nat->Int} {s:Int} {c:Int} {r:Nat->Int} (h:PileI q p N n a r0 s n c r) (hs:s * s=1) (hN:q + n < N) (hc:0 <= c∧c < 1073741824) :
    Piled N r0 s (P q * (2 ^ p * val a n)) (upd r (q + n) (r (q + n) + s * c)):=by
  refine ⟨fun i=>?_,?_⟩
  . by_cases hi:i=q + n
    . subst hi
      rw [upd_same,h.rest _ (Nat.le_refl _),show s * (r0 (q + n) + s * c - r0 (q + n))=s * s * c by grind,hs]
      omega
    . rw [upd_other r _ hi]; exact h.near i
  . obtain ⟨T,e1,e2⟩:=h.sum
    rw [val_upd r _ hN,e1,P_add,<- e2]; grind
theorem pile_near {s x y C:Int} (hs:s=1∨s=-1) (h:0 <= s * (x - y)∧s * (x - y) < 1073741824) (hy:-C <= y∧y <= C):-(C + 1073741823) <= x∧x <= C + 1073741823:=by
  rcases hs with rfl | rfl <;> omega
theorem sgn_mul {s m:Int} (hs:s=1∨s=-1) (hm:0 <= m∧m < 1073741824):-1073741823 <= s * m∧s * m <= 1073741823:=by
  rcases hs with rfl | rfl <;> omega
theorem sgn_sq {s:Int} (hs:s=1∨s=-1):s * s=1:=by rcases hs with rfl | rfl <;> rfl
set_option maxHeartbeats 1000000 in
theorem pile_qp (g N:Nat) (r0:Nat->Int) (ao:Option Addr) (n ca q p:Nat) (a:Nat->Int) (w:World) (hB0:Blk w g N r0) (ha:RowX g w ao n ca a) (da:Dig a n) (hn:n <= 100000) (hqN:q + n + 1 <= N) (hNm:N <= 1000000) (hp:p < 30) (k:Int) (hk:k=30 * q + p)
    (s:Int) (hs:s=1∨s=-1) (C:Int) (hC0:∀ i,i < N->-C <= r0 i∧r0 i <= C) (hC1:C <= 4611686018427387904) :
    Calls Tryz.prog 101 #[.slice (some ⟨g,0,none⟩) N N,.slice ao n ca,.int .i64 k,.int .i64 s] w fun e w'=>e=.returned (.tuple #[])∧∃ r,Blk w' g N r∧Wr g w w'∧Piled N r0 s (P q * (2 ^ p * val a n)) r:=by
  have hla:=ha.le
  have hma:=ha.max
  have e1:k / 30=q:=by omega
  have e2:k % 30=p:=by omega
  have hk0:0 <= k:=by omega
  have hk1:k <= 40000000:=by omega
  clear hk
  have hu:=two_pos p
  have hu2:(2:Int) ^ p <= 2 ^ 29:=two_le (by omega)
  have HC:Hid (∀ i,i < N->-C <= r0 i∧r0 i <= C):=hC0
  have hss:=sgn_sq hs
  have HS:Hid (s=1∨s=-1):=hs
  clear hC0 hs
  go_enter Tryz.func101,Tryz.ntmps101
  go_wp2
  go_loopw [10,18] (fun c i wr=>∃ (k:Nat) (c':Int) (r:Nat->Int),k <= n∧i=.int .i64 k∧c=.int .i64 c'∧0 <= c'∧c' < 2 ^ p∧Blk wr g N r∧Hid (PileI q p N n a r0 s k c' r)∧Wr g w wr) (fun _ i _=>n - (intOf i).toNat)
  case atStart=>exact ⟨0,0,r0,Nat.zero_le _,rfl,rfl,by omega,hu,hB0,⟨fun _ _=>rfl,fun i=>by rw [Int.sub_self,Int.mul_zero]; omega,0,by rw [Int.mul_zero,Int.mul_zero,Int.add_zero],by show (0:Int) + 0 * 1=2 ^ p * 0; omega⟩,Wr.refl _ _⟩
  case round=>
    obtain ⟨k,c,r,hk,rfl,rfl,hc0,hc1,hB,HI,hW⟩:=hrel
    have hcap:-4611686018427387904 - 1073741823 <= r (q + k)∧r (q + k) <= 4611686018427387904 + 1073741823:=by
      have h1:=HC.out (q + k) (by omega)
      have h2:=HI.out.rest (q + k) (Nat.le_refl _)
      rw [h2]; omega
    by_cases hlt:k < n
    . obtain ⟨ba,fa,rfl,hba,hbg,hca⟩:=ha.spot (by omega)
      have c1:=(hW.cell (p:=⟨ba,fa + k,none⟩) hba hbg).trans (hca k hlt)
      have cg:=hB.cell (show q + k < N by omega)
      have fg:=hB.frozen (q + k)
      have dk:=da k hlt
      obtain ⟨s0,s1,s2⟩:=shl_dig dk (show p <= 30 by omega)
      have hw:wrap64 (a k * 2 ^ p)=a k * 2 ^ p:=IntWalk.wrap64_in _ ⟨by omega,by omega⟩
      have hor:bits .or .i64 c (a k * 2 ^ p)=c + a k * 2 ^ p:=or_add c (a k) p hc0 hc1 dk.1 (by omega)
      have h30:=and_30 (c + a k * 2 ^ p)
      have hm:=mod_dig (c + a k * 2 ^ p)
      have hc2:(c + a k * 2 ^ p) / 1073741824 < 2 ^ p:=by omega
      have hc3:0 <= (c + a k * 2 ^ p) / 1073741824:=by omega
      obtain ⟨m0,m1⟩:=sgn_mul HS.out hm
      have e4:(c + a k * 2 ^ p) % 1073741824 + (c + a k * 2 ^ p) / 1073741824 * 1073741824=c + a k * 2 ^ p:=by omega
      have HI2:Hid (PileI q p N n a r0 s (k + 1) ((c + a k * 2 ^ p) / 1073741824) (upd r (q + k) (r (q + k) + s * ((c + a k * 2 ^ p) % 1073741824)))):=HI.out.put hss (by omega) hm e4
      clear e4
      generalize hM:(c + a k * 2 ^ p) % 1073741824=M at *
      generalize hSM:s * M=SM at *
      go_wp2
      go_roundw
      case rel=>exact ⟨k + 1,_,_,by omega,by go_num,rfl,hc3,hc2,hB.store (q + k) _,HI2,hW.setCell _ _⟩
      case measure=>simp [intOf]; omega
    . obtain rfl:k=n:=by omega
      have cg:=hB.cell (show q + k < N by omega)
      have fg:=hB.frozen (q + k)
      have hc4:c < 1073741824:=by omega
      obtain ⟨m0,m1⟩:=sgn_mul HS.out ⟨hc0,hc4⟩
      have HD:Hid (Piled N r0 s (P q * (2 ^ p * val a k)) (upd r (q + k) (r (q + k) + s * c))):=HI.out.done hss (by omega) ⟨hc0,hc4⟩
      generalize hSM:s * c=SM at *
      go_wp2
      first | go_end0 | refine bodyPost_ret (results_none rfl _ _ _) rfl ?_
      exact ⟨rfl,_,hB.store (q + k) _,hW.setCell _ _,HD.out⟩
set_option maxHeartbeats 1000000 in
theorem raise_qp (ao:Option Addr) (n ca q p:Nat) (a:Nat->Int) (w:World) (ha:Row w ao n ca a) (da:Dig a n) (hn:n <= 100000) (hq:q <= 100000) (hp:p < 30) (k:Int) (hk:k=30 * q + p) :
    Calls Tryz.prog 109 #[.slice ao n ca,.int .i64 k] w fun e w'=>∃ v,e=.returned v∧Ans w w' (P q * (2 ^ p * val a n)) v:=by
  have hla:=ha.le
  have hma:=ha.max
  have e1:k / 30=q:=by omega
  have e2:k % 30=p:=by omega
  have hk0:0 <= k:=by omega
  have HK:Hid (k=30 * q + p):=hk
  clear hk
  go_enter Tryz.func109,Tryz.ntmps109
  go_wp2_with (at_make; refine wpList_mk rfl _ _ rfl _ _ (q + n + 1) rfl rfl (by omega) (by omega) (by omega) ?_; intro w1 hB1 hb1)
  refine (pile_qp w.heap.size (q + n + 1) (fun _=>0) ao n ca q p a w1 hB1 ((RowX.of ha (Nat.le_refl _)).keeps (wr_of hb1)) da hn (Nat.le_refl _) (by omega) hp k HK.out 1 (.inl rfl) 0 (fun _ _=>⟨by omega,by omega⟩) (by omega)).mono ?_
  rintro e w2 ⟨rfl,r,hB2,hW2,hP⟩
  have hb2:Below w.heap.size w w2:=hW2.below hb1 hb1.size (Nat.le_refl _)
  go_wp2_with fail
  refine (trim_any _ _ _ _ _ (hB2.row0 (Nat.le_refl _) (by omega))).mono ?_
  rintro e w3 ⟨t,ht,htop,hz,rfl,rfl⟩
  go_wp2
  go_ret
  have D2:Dig r (q + n + 1):=fun i hi=>by have:=hP.near i; omega
  obtain ⟨hN,hv⟩:=nrm_of_top D2 ht htop hz
  refine ⟨_,rfl,t,r,hB2.cut (Nat.le_refl _) ht (by omega),hN,?_,hb2⟩
  rw [hv,hP.sum,val_zeros (Nat.zero_le _) (fun _ _ _=>rfl)]
  show 0 + 1 * _=_
  omega
theorem raise_any (ao:Option Addr) (n ca k:Nat) (a:Nat->Int) (w:World) (ha:Row w ao n ca a) (da:Dig a n) (hn:n <= 100000) (hk:k <= 1000000) :
    Calls Tryz.prog 109 #[.slice ao n ca,.int .i64 k] w fun e w'=>∃ v,e=.returned v∧Ans w w' (val a n * 2 ^ k) v:=by
  refine (raise_qp ao n ca (k / 30) (k % 30) a w ha da hn (by omega) (by omega) k (by omega)).mono ?_
  rintro e w' ⟨v,he,h⟩
  refine ⟨v,he,?_⟩
  rw [two_split k]
  rwa [show val a n * (P (k / 30) * 2 ^ (k % 30))=P (k / 30) * (2 ^ (k % 30) * val a n) by grind]
theorem shr_part {x y:Int} {p:Nat} (hx:0 <= x∧x < 1073741824) (hy:0 <= y∧y < 1073741824) (hp:p < 30) :
    0 <= x / 2 ^ p∧x / 2 ^ p < 2 ^ (30 - p)∧y * 2 ^ (30 - p) % 1073741824=y % 2 ^ p * 2 ^ (30 - p)∧0 <= y % 2 ^ p∧y % 2 ^ p * 2 ^ (30 - p) < 1073741824:=by
  have hu:=two_pos p
  have hv:=two_pos (30 - p)
  have huv:(2:Int) ^ p * 2 ^ (30 - p)=1073741824:=by rw [<- Int.pow_add,show p + (30 - p)=30 by omega]; rfl
  have m0:=Int.emod_nonneg y (show (2:Int) ^ p ≠ 0 by omega)
  have m1:=Int.emod_lt_of_pos y hu
  refine ⟨Int.ediv_nonneg hx.1 (by omega),(Int.ediv_lt_iff_lt_mul hu).2 (by rw [Int.mul_comm,huv]; exact hx.2),?_,m0,?_⟩
  . rw [<- huv,Int.mul_comm y,Int.mul_comm (2 ^ p:Int),Int.mul_emod_mul_of_pos _ _ hv,Int.mul_comm]
  . have h1:(y % 2 ^ p + 1) * 2 ^ (30 - p) <= 2 ^ p * 2 ^ (30 - p):=Int.mul_le_mul_of_nonneg_right (by omega) (by omega)
    rw [huv,Int.add_mul] at h1
    omega
theorem low_last {s:Nat->Int} {u v:Int} {k:Nat} (h:s (k + 1)=0):low s u v k=s k / u:=by
  unfold low; rw [h,Int.zero_emod,Int.zero_mul,Int.add_zero]
set_option maxRecDepth 100000 in
set_option maxHeartbeats 1000000 in
theorem lower_qp (ao:Option Addr) (n ca q p:Nat) (a:Nat->Int) (w:World) (ha:Row w ao n ca a) (da:Dig a n) (hn:n <= 100000) (hp:p < 30) (k:Int) (hk:k=30 * q + p) (hkm:k < 9223372036854775808) :
    Calls Tryz.prog 110 #[.slice ao n ca,.int .i64 k] w fun e w'=>∃ v,e=.returned v∧Ans w w' (val a n / P q / 2 ^ p) v:=by
  have hla:=ha.le
  have hma:=ha.max
  have e1:k / 30=q:=by omega
  have e2:k % 30=p:=by omega
  have hk0:0 <= k:=by omega
  have hqm:(q:Int) < 9223372036854775808:=by omega
  clear hk
  have hu:=two_pos p
  have huv:(2:Int) ^ p * 2 ^ (30 - p)=1073741824:=by rw [<- Int.pow_add,show p + (30 - p)=30 by omega]; rfl
  have HU:Hid ((2:Int) ^ p * 2 ^ (30 - p)=1073741824):=huv
  clear huv
  by_cases hqn:n <= q
  . have h0:val a n / P q / 2 ^ p=0:=by
      rw [Int.ediv_eq_zero_of_lt (val_nonneg da) (by have:=val_lt da; have:=P_le hqn; omega)]; exact Int.zero_ediv _
    have H0:Hid (val a n / P q / 2 ^ p=0):=h0
    clear h0
    go_enter Tryz.func110,Tryz.ntmps110
    go_wp2
    go_ret
    exact ⟨_,rfl,by rw [H0.out]; exact Ans.nil (bel_refl _)⟩
  . obtain ⟨ba,fa,rfl,hba,hca⟩:=ha.spot (by omega)
    have sp:(((30:Int) - p).toNat)=30 - p:=by omega
    obtain ⟨N,hN⟩:∃ N,n=q + N:=⟨n - q,by omega⟩
    have HN:Hid (n=q + N):=hN
    have hn1:q + N <= n:=by omega
    have hn2:n <= q + N:=by omega
    have hN0:0 < N:=by omega
    have hq1:q <= 100000:=by omega
    have hk1:k <= 4000000:=by omega
    clear hN hqn hqm hkm
    go_enter Tryz.func110,Tryz.ntmps110
    go_wp2_with (at_make; refine wpList_mk rfl _ _ rfl _ _ N rfl rfl (by omega) (by omega) (by omega) ?_; intro w1 hB1 hb1)
    go_loopw [24] (fun i wr=>∃ (k:Nat) (r:Nat->Int),k <= N∧i=.int .i64 k∧Blk wr w.heap.size N r∧Hid (∀ i,i < k->r i=low (fun j=>ext a n (q + j)) (2 ^ p) (2 ^ (30 - p)) i)∧Below w.heap.size w wr) (fun i _=>N - (intOf i).toNat)
    case atStart=>exact ⟨0,fun _=>0,Nat.zero_le _,rfl,hB1,fun i hi=>by omega,hb1⟩
    case round=>
      obtain ⟨k,r,hk,rfl,hB,HV,hbw⟩:=hrel
      by_cases hlt:k < N
      . have c1:=(hbw.cell (p:=⟨ba,fa + (q + k),none⟩) hba).trans (hca (q + k) (by omega))
        have cg:=hB.cell hlt
        have fg:=hB.frozen k
        have hB2:=hB.store k (a (q + k) / 2 ^ p)
        by_cases hl2:q + k + 1 < n
        . have dx:=da (q + k) (by omega)
          have dy:=da (q + k + 1) (by omega)
          obtain ⟨s0,s1,s2,s3,s4⟩:=shr_part dx dy hp
          obtain ⟨t0,t1,t2⟩:=shl_dig dy (show 30 - p <= 30 by omega)
          have hw:wrap64 (a (q + k + 1) * 2 ^ (30 - p))=a (q + k + 1) * 2 ^ (30 - p):=IntWalk.wrap64_in _ ⟨by omega,by omega⟩
          have h30:bits .and .i64 (a (q + k + 1) * 2 ^ (30 - p)) 1073741823=a (q + k + 1) % 2 ^ p * 2 ^ (30 - p):=(and_30 _).trans s2
          have hor:bits .or .i64 (a (q + k) / 2 ^ p) (a (q + k + 1) % 2 ^ p * 2 ^ (30 - p))=a (q + k) / 2 ^ p + a (q + k + 1) % 2 ^ p * 2 ^ (30 - p):=or_add _ _ _ s0 s1 s3 (by have:(2:Int) ^ (30 - p) <= 2 ^ 30:=two_le (by omega); omega)
          have c2:=(hbw.cell (p:=⟨ba,fa + (q + k + 1),none⟩) hba).trans (hca (q + k + 1) (by omega))
          clear s2
          go_wp2
          go_region
          go_wp2
          go_roundw
          case rel=>exact ⟨k + 1,upd (upd r k (a (q + k) / 2 ^ p)) k (a (q + k) / 2 ^ p + a (q + k + 1) % 2 ^ p * 2 ^ (30 - p)),by omega,by go_num,(hB2.store k _).of_block rfl,fun i hi=>by
              by_cases e:i=k
              . rw [e,upd_same]
                show _=ext a n (q + k) / 2 ^ p + ext a n (q + (k + 1)) % 2 ^ p * 2 ^ (30 - p)
                rw [ext_lt a (by omega),ext_lt a (by omega),Nat.add_assoc]
              . rw [upd_other _ _ e,upd_other r _ e]; exact HV.out i (by omega),((hbw.setCell (Nat.le_refl _) _).setCell (Nat.le_refl _) _).drew⟩
          case measure=>simp [intOf]; omega
        . go_wp2
          go_roundw
          case rel=>exact ⟨k + 1,upd r k (a (q + k) / 2 ^ p),by omega,by go_num,hB2,fun i hi=>by
              by_cases e:i=k
              . rw [e,upd_same,low_last (s:=fun j=>ext a n (q + j)) (ext_ge a (by omega)),ext_lt a (by omega)]
              . rw [upd_other r _ e]; exact HV.out i (by omega),hbw.setCell (Nat.le_refl _) _⟩
          case measure=>simp [intOf]; omega
      . obtain rfl:k=N:=by omega
        go_wp2_with (go_at_call 122; refine (trim_any _ _ _ _ _ (hB.row0 (Nat.le_refl _) (by omega))).mono ?_; rintro e w3 ⟨t,ht,htop,hz,rfl,rfl⟩)
        go_ret
        have DS:Dig (fun j=>ext a n (q + j)) (k + 1):=fun i hi=>ext_dig da (q + k + 1) (q + i) (by omega)
        have D2:Dig r k:=(low_dig hu HU.out DS).congr fun i hi=>(HV.out i hi).symm
        obtain ⟨hNr,hv⟩:=nrm_of_top D2 ht htop hz
        refine ⟨_,rfl,t,r,hB.cut (Nat.le_refl _) ht (by omega),hNr,?_,hbw⟩
        rw [hv,val_congr HV.out,low_eq (s:=fun j=>ext a n (q + j)) hu HU.out (ext_ge a (by omega))]
        have e3:=val_drop a (show q <= n by omega) da
        rw [<- e3,show n - q=k by omega]
        congr 1
        exact val_congr fun i hi=>ext_lt a (by omega)
theorem lower_any (ao:Option Addr) (n ca k:Nat) (a:Nat->Int) (w:World) (ha:Row w ao n ca a) (da:Dig a n) (hn:n <= 100000) (hk:(k:Int) < 9223372036854775808) :
    Calls Tryz.prog 110 #[.slice ao n ca,.int .i64 k] w fun e w'=>∃ v,e=.returned v∧Ans w w' (val a n / 2 ^ k) v:=by
  refine (lower_qp ao n ca (k / 30) (k % 30) a w ha da hn (by omega) k (by omega) hk).mono ?_
  rintro e w' ⟨v,he,h⟩
  refine ⟨v,he,?_⟩
  rw [two_split k,<- Int.ediv_ediv_of_nonneg (Int.le_of_lt (P_pos _))]
  exact h
end Go.Proofs.YteglfnnbpilheaaGreatDoor
namespace Go.Proofs.YteglfnnbpilheaaGreatDoor.M
open Go
def LL:Nat:=4194304
def pw (e:Int):Int:=2 ^ (e + 4194304).toNat
def sg (b:Bool) (x:Int):Int:=if b then -x else x
theorem pw_pos (e:Int):0 < pw e:=two_pos _
theorem pw_add {e:Int} (h:-4194304 <= e) (l:Nat):pw (e + l)=pw e * 2 ^ l:=by
  unfold pw
  rw [show (e + l + 4194304).toNat=(e + 4194304).toNat + l by omega,Int.pow_add]
theorem pw_sub {e low:Int} (h:-4194304 <= low) (h1:low <= e):pw e=2 ^ (e - low).toNat * pw low:=by
  have:=pw_add h (e - low).toNat
  rw [show low + ((e - low).toNat:Int)=e by omega] at this
  rw [this,Int.mul_comm]
theorem pw_mul {a b:Int} (ha:-2097152 <= a) (hb:-2097152 <= b):pw a * pw b=pw (a + b) * 2 ^ 4194304:=by
  unfold pw
  rw [<- Int.pow_add,<- Int.pow_add,show (a + 4194304).toNat + (b + 4194304).toNat=(a + b + 4194304).toNat + 4194304 by omega]
theorem sg_mul (a b:Bool) (x y:Int):sg a x * sg b y=sg (a != b) (x * y):=by
  cases a <;> cases b <;> simp [sg,Int.neg_mul,Int.mul_neg]
theorem sg_sgn (b:Bool) (x:Int):sg b x=(if b then -1 else 1) * x:=by cases b <;> simp [sg]
theorem sg_not (b:Bool) (x:Int):sg (!b) x=-sg b x:=by cases b <;> simp [sg]
theorem sg_zero (b:Bool):sg b 0=0:=by cases b <;> rfl
theorem sg_eq_zero {b:Bool} {x:Int} (h:sg b x=0):x=0:=by cases b <;> simp [sg] at h <;> exact h
structure Dy (V:Int) (ng:Bool) (m e:Int):Prop where
  val:V=sg ng m * pw e
  low:-4194304 <= e
  form:(m=0∧ng=false∧e=0)∨(0 < m∧m % 2=1)
def Dok (V:Int):Prop:=∃ ng m e,Dy V ng m e∧m < P 2000∧-1048576 <= e∧e <= 1048576
theorem Dy.zero:Dy 0 false 0 0:=⟨by simp [sg],by decide,.inl ⟨rfl,rfl,rfl⟩⟩
theorem dok_zero:Dok 0:=⟨_,_,_,Dy.zero,P_pos _,by decide,by decide⟩
theorem Dy.eq_zero {V:Int} {ng:Bool} {m e:Int} (h:Dy V ng m e):V=0 ↔ m=0:=by
  constructor
  . intro h0
    have:=h.val
    rw [h0] at this
    rcases Int.mul_eq_zero.1 this.symm with h1 | h1
    . exact sg_eq_zero h1
    . have:=pw_pos e; omega
  . intro h0
    rw [h.val,h0,sg_zero,Int.zero_mul]
theorem Dy.nonneg {V:Int} {ng:Bool} {m e:Int} (h:Dy V ng m e):0 <= m:=by rcases h.form with h | h <;> omega
theorem Dy.neg_iff {V:Int} {ng:Bool} {m e:Int} (h:Dy V ng m e):ng=true ↔ V < 0:=by
  have hp:=pw_pos e
  rcases h.form with ⟨h1,h2,h3⟩ | ⟨h1,_⟩
  . have:=h.eq_zero.2 h1; simp [h2]; omega
  . have hm:0 < m * pw e:=Int.mul_pos h1 hp
    have:=h.val
    cases ng
    . simp [sg] at this; simp; omega
    . simp [sg,Int.neg_mul] at this; simp; omega
theorem odd_pow {m m':Int} {a b:Nat} (h:m % 2=1) (h':m' % 2=1) (e:m * 2 ^ a=m' * 2 ^ b):¬ a < b:=by
  intro hlt
  obtain ⟨d,rfl⟩:∃ d,b=a + 1 + d:=⟨b - a - 1,by omega⟩
  rw [Int.pow_add,Int.pow_add] at e
  have e1:m * 2 ^ a=(m' * (2 ^ d * 2)) * 2 ^ a:=by rw [e]; grind
  have e2:=Int.eq_of_mul_eq_mul_right (Int.ne_of_gt (two_pos a)) e1
  rw [show m' * (2 ^ d * 2)=2 * (m' * 2 ^ d) by grind] at e2
  omega
theorem Dy.unique {V:Int} {ng ng':Bool} {m m' e e':Int} (h:Dy V ng m e) (k:Dy V ng' m' e'):ng=ng'∧m=m'∧e=e':=by
  have hn:ng=ng':=by
    have a:=h.neg_iff
    have b:=k.neg_iff
    cases ng <;> cases ng' <;> simp_all <;> omega
  subst hn
  rcases h.form with ⟨h1,h2,h3⟩ | ⟨h1,h2⟩
  . have h0:=k.eq_zero.1 (h.eq_zero.2 h1)
    rcases k.form with ⟨k1,k2,k3⟩ | ⟨k1,k2⟩
    . exact ⟨rfl,by omega,by omega⟩
    . omega
  . rcases k.form with ⟨k1,k2,k3⟩ | ⟨k1,k2⟩
    . have:=h.eq_zero.1 (k.eq_zero.2 k1); omega
    . have e1:m * pw e=m' * pw e':=by
        have:=h.val.symm.trans k.val
        cases ng
        . simpa [sg] using this
        . simpa [sg,Int.neg_mul] using this
      have a1:=odd_pow h2 k2 e1
      have a2:=odd_pow k2 h2 e1.symm
      have l1:=h.low
      have l2:=k.low
      obtain rfl:e=e':=by omega
      exact ⟨rfl,Int.eq_of_mul_eq_mul_right (Int.ne_of_gt (pw_pos _)) e1,rfl⟩
theorem Dy.ok {V:Int} {ng:Bool} {m e:Int} (h:Dy V ng m e):Dok V ↔ m < P 2000∧-1048576 <= e∧e <= 1048576:=by
  constructor
  . rintro ⟨ng',m',e',k,h3⟩
    obtain ⟨_,rfl,rfl⟩:=h.unique k
    exact h3
  . exact fun h3=>⟨_,_,_,h,h3⟩
theorem Dy.neg {V:Int} {ng:Bool} {m e:Int} (h:Dy V ng m e) (h0:0 < m):Dy (-V) (!ng) m e :=
  ⟨by rw [sg_not,Int.neg_mul,<- h.val],h.low,by rcases h.form with ⟨h1,_⟩ | h1; (· omega); (· exact .inr h1)⟩
theorem sg_abs {V:Int} {ng:Bool} {m e:Int} (h:Dy V ng m e):m * pw e=V.natAbs:=by
  have:=h.val
  have h0:=h.nonneg
  have:0 <= m * pw e:=Int.mul_nonneg h0 (Int.le_of_lt (pw_pos _))
  cases ng <;> simp [sg,Int.neg_mul] at * <;> omega
theorem Dy.abs {V:Int} {ng:Bool} {m e:Int} (h:Dy V ng m e):Dy V.natAbs false m e :=
  ⟨by rw [<- sg_abs h]; simp [sg],h.low,by rcases h.form with ⟨h1,_,h3⟩ | h1; (· exact .inl ⟨h1,rfl,h3⟩); (· exact .inr h1)⟩
theorem isLow_odd {M:Int} {l:Nat} (h:IsLow M l) (h0:0 < M):0 < M / 2 ^ l∧(M / 2 ^ l) % 2=1∧M / 2 ^ l * 2 ^ l=M:=by
  obtain ⟨k,hk⟩:=h
  have hp:=two_pos l
  have e:M / 2 ^ l=2 * k + 1:=by rw [hk]; exact Int.mul_ediv_cancel _ (by omega)
  rw [e]
  refine ⟨?_,by omega,hk.symm⟩
  by_cases h1:0 < 2 * k + 1
  . exact h1
  . have:(2 * k + 1) * 2 ^ l <= 0:=Int.mul_nonpos_of_nonpos_of_nonneg (by omega) (by omega)
    omega
theorem Dy.of {M e:Int} {l:Nat} (ng:Bool) (h:IsLow M l) (h0:0 < M) (he:-4194304 <= e):Dy (sg ng M * pw e) ng (M / 2 ^ l) (e + l):=by
  obtain ⟨a,b,c⟩:=isLow_odd h h0
  refine ⟨?_,by omega,.inr ⟨a,b⟩⟩
  rw [pw_add he,sg_sgn,sg_sgn]
  rw [show (if ng=true then (-1:Int) else 1) * (M / 2 ^ l) * (pw e * 2 ^ l)=(if ng=true then (-1:Int) else 1) * (M / 2 ^ l * 2 ^ l) * pw e by grind,c]
theorem Dy.sum {V V':Int} {low s s':Int} (h:V=s * pw low) (h':V'=s' * pw low):V + V'=(s + s') * pw low:=by rw [h,h',Int.add_mul]
theorem Dy.at {V:Int} {ng:Bool} {m e low:Int} (h:Dy V ng m e) (hl:-4194304 <= low) (h1:low <= e):V=sg ng (m * 2 ^ (e - low).toNat) * pw low:=by
  rw [h.val,pw_sub hl h1,sg_sgn,sg_sgn]; grind
theorem scale_inj {x y:Int} (h:x * 2 ^ 4194304=y * 2 ^ 4194304):x=y:=Int.eq_of_mul_eq_mul_right (Int.ne_of_gt (two_pos _)) h
end Go.Proofs.YteglfnnbpilheaaGreatDoor.M
namespace Go.Proofs.YteglfnnbpilheaaGreatDoor
open Go Go.RowKit Go.Proofs.YteglfnnbpilheaaGreatDoor.M
def okN (ng:Bool) (d:Nat->Int) (n:Nat) (e:Int):Bool:=decide ((n=0∧ng=false∧e=0)∨(0 < n∧(n <= 2000∧Nrm d n)∧d 0 % 2=1∧-1048576 <= e∧e <= 1048576))
theorem and_one (x:Int):bits .and .i64 x 1=x % 2:=and_i64_mask x 1 (by decide)
set_option maxHeartbeats 1000000 in
theorem dvalid_any (ng:Bool) (ao:Option Addr) (n cap:Nat) (d:Nat->Int) (e:Int) (w:World) (h:Row w ao n cap d) :
    Calls Tryz.prog 82 #[.agg #[.bool ng,.slice ao n cap,.int .i64 e]] w fun r w'=>r=.returned (.bool (okN ng d n e))∧Below w.heap.size w w':=by
  have hl:=h.le
  have hm:=h.max
  by_cases h0:n=0
  . subst h0
    have e0:okN ng d 0 e=(!ng && (e == 0)):=by
      by_cases he:e=0 <;> cases ng <;> simp [okN,he]
    cases ng
    . go_enter Tryz.func82,Tryz.ntmps82
      go_wp2
      go_ret
      exact ⟨ret_bool (by rw [e0]; rfl),bel_alloc _ _⟩
    . go_enter Tryz.func82,Tryz.ntmps82
      go_wp2
      go_ret
      exact ⟨ret_bool (by rw [e0]; rfl),bel_alloc _ _⟩
  . obtain ⟨b,off,rfl,hb,hc⟩:=h.spot (by omega)
    have c0:(w.alloc (.cells #[.bool ng,.slice (some ⟨b,off,none⟩) n cap,.int .i64 e] 79)).cell? ⟨b,off,none⟩=some (.int .i64 (d 0)):=((bel_alloc w _).cell (p:=⟨b,off,none⟩) hb).trans (hc 0 (by omega))
    have hA:=and_one (d 0)
    have hn0:((n:Int) == 0)=false:=by simp; omega
    have hR:=h.alloc (.cells #[.bool ng,.slice (some ⟨b,off,none⟩) n cap,.int .i64 e] 79)
    by_cases h1:d 0 % 2=1
    . by_cases h2:-1048576 <= e
      . by_cases h3:e <= 1048576
        . have e0:okN ng d n e=okB d n:=by simp [okN,okB,h0,h1,h2,h3]; omega
          go_enter Tryz.func82,Tryz.ntmps82
          go_wp2_with (go_at_call 107; refine (valid_any _ _ _ _ _ hR).mono ?_; rintro r w1 ⟨rfl,rfl⟩)
          go_ret
          exact ⟨ret_bool e0.symm,bel_alloc _ _⟩
        . have e0:okN ng d n e=false:=by simp [okN]; omega
          go_enter Tryz.func82,Tryz.ntmps82
          go_wp2
          go_ret
          exact ⟨ret_bool (by first | rfl | rw [e0]),bel_alloc _ _⟩
      . have e0:okN ng d n e=false:=by simp [okN]; omega
        go_enter Tryz.func82,Tryz.ntmps82
        go_wp2
        go_ret
        exact ⟨ret_bool (by first | rfl | rw [e0]),bel_alloc _ _⟩
    . have e0:okN ng d n e=false:=by simp [okN]; omega
      go_enter Tryz.func82,Tryz.ntmps82
      go_wp2
      go_ret
      exact ⟨ret_bool (by first | rfl | rw [e0]),bel_alloc _ _⟩
def sgn (ng:Bool) (n:Nat):Int:=if n=0 then 0 else if ng then -1 else 1
theorem dsign_any (ng:Bool) (ao:Option Addr) (n cap:Nat) (e:Int) (w:World) (hm:n <= 9223372036854775807) :
    Calls Tryz.prog 102 #[.agg #[.bool ng,.slice ao n cap,.int .i64 e]] w fun r w'=>r=.returned (.int .i64 (sgn ng n))∧Below w.heap.size w w':=by
  by_cases h0:n=0
  . subst h0
    go_enter Tryz.func102,Tryz.ntmps102
    go_wp2
    go_ret
    exact ⟨rfl,bel_alloc _ _⟩
  . have hn0:((n:Int) == 0)=false:=by simp; omega
    cases ng
    . go_enter Tryz.func102,Tryz.ntmps102
      go_wp2
      go_ret
      exact ⟨ret_int (by simp [sgn,h0]),bel_alloc _ _⟩
    . go_enter Tryz.func102,Tryz.ntmps102
      go_wp2
      go_ret
      exact ⟨ret_int (by simp [sgn,h0]),bel_alloc _ _⟩
theorem dtop_any (ng:Bool) (ao:Option Addr) (n cap:Nat) (d:Nat->Int) (e:Int) (w:World) (h:Row w ao n cap d) (hd:Nrm d n) (hn:n <= 100000) (he0:-8388608 <= e) (he1:e <= 8388608) :
    Calls Tryz.prog 123 #[.agg #[.bool ng,.slice ao n cap,.int .i64 e]] w fun r w'=>r=.returned (.int .i64 (e + blen (val d n)))∧Below w.heap.size w w':=by
  have hR:=h.alloc (.cells #[.bool ng,.slice ao n cap,.int .i64 e] 79)
  have hb:blen (val d n) <= 30 * n:=blen_le (by rw [<- P_two]; exact val_lt hd.1)
  go_enter Tryz.func123,Tryz.ntmps123
  go_wp2
  go_quiet ((refine (bitLength_any _ _ _ _ _ (hR.keeps (bDrewN (bel_refl _) _)) hd (by omega)).mono ?_; rintro _ _ ⟨rfl,rfl⟩; exact ⟨rfl,_,rfl⟩))
  go_wp2
  go_ret
  exact ⟨rfl,bDrewN (bel_alloc _ _) _⟩
theorem blkC {w:World} {g:Nat} {xs:Array Value} {t:TypeId} (h:w.heap[g]?=some (.cells xs t (0,0))) (i:Nat) {v:Value} (hi:xs[i]?=some v):w.cell? ⟨g,i,none⟩=some v:=by
  rw [cell_of_row w g i xs _ _ h]; exact hi
theorem blkF {w:World} {g:Nat} {xs:Array Value} {t:TypeId} (h:w.heap[g]?=some (.cells xs t (0,0))) (i:Nat):w.frozen? ⟨g,i,none⟩=false:=by
  simp [World.frozen?,h]
theorem heap_a2 (w:World) (a b:Obj):((w.alloc a).alloc b).heap[w.heap.size]?=some a:=by
  show ((w.heap.push a).push b)[w.heap.size]?=some a
  simp [Array.getElem?_push]
theorem heap_b2 (w:World) (a b:Obj):((w.alloc a).alloc b).heap[w.heap.size + 1]?=some b:=by
  show ((w.heap.push a).push b)[w.heap.size + 1]?=some b
  rw [Array.getElem?_push,if_pos (by simp)]
theorem size2 (w:World) (a b:Obj):((w.alloc a).alloc b).heap.size=w.heap.size + 2:=by
  show ((w.heap.push a).push b).size=_
  simp
theorem Out.set_below {B:Nat} {w:World} {v:Value} {n:Nat} {d:Nat->Int} (h:Out B w v n d) {a:Addr} (ha:a.block < B) (u:Value):Out B (w.setCell a u) v n d:=ownsRow_setCell_below h ha u
def DNum (w:World) (v:Value) (V:Int):Prop:=∃ ng s m e,v=.agg #[.bool ng,s,.int .i64 e]∧Dy V ng m e∧Num w s m
def DAns (w w':World) (V:Int) (v:Value):Prop:=∃ ng s m e,v=.agg #[.bool ng,s,.int .i64 e]∧Dy V ng m e∧Ans w w' m s
def zeroV:Value:=.agg #[.bool false,.slice none 0 0,.int .i64 0]
theorem DAns.below {w w':World} {V:Int} {v:Value} (h:DAns w w' V v):Below w.heap.size w w':=by
  obtain ⟨ng,s,m,e,_,_,h3⟩:=h
  exact h3.below
theorem DAns.num {w w':World} {V:Int} {v:Value} (h:DAns w w' V v):DNum w' v V:=by
  obtain ⟨ng,s,m,e,h1,h2,h3⟩:=h
  exact ⟨ng,s,m,e,h1,h2,h3.num⟩
theorem DAns.from {w0 w w':World} {V:Int} {v:Value} (h:DAns w w' V v) (hb:Below w0.heap.size w0 w):DAns w0 w' V v:=by
  obtain ⟨ng,s,m,e,h1,h2,h3⟩:=h
  exact ⟨ng,s,m,e,h1,h2,h3.from hb⟩
theorem DAns.stays {w w1 w2:World} {V:Int} {v:Value} (h:DAns w w1 V v) (hb:Below w1.heap.size w1 w2):DAns w w2 V v:=by
  obtain ⟨ng,s,m,e,h1,h2,h3⟩:=h
  exact ⟨ng,s,m,e,h1,h2,h3.stays hb⟩
theorem DAns.zero {w w':World} (hb:Below w.heap.size w w'):DAns w w' 0 zeroV:=⟨_,_,_,_,rfl,Dy.zero,Ans.nil hb⟩
theorem DNum.keeps {w w':World} {v:Value} {V:Int} (h:DNum w v V) (hb:Below w.heap.size w w'):DNum w' v V:=by
  obtain ⟨ng,s,m,e,h1,h2,h3⟩:=h
  exact ⟨ng,s,m,e,h1,h2,h3.keeps hb⟩
theorem DNum.zero (w:World):DNum w zeroV 0:=(DAns.zero (bel_refl w)).num
def DFit (w w':World) (V:Int) (v:Value) (er:Int):Prop:=Below w.heap.size w w'∧((Dok V∧er=0∧DAns w w' V v)∨(¬ Dok V∧er=2∧v=zeroV))
theorem if_nil (w:World):(binOp .eql 20 Value.nilIface Value.nilIface).run Tryz.prog w=.ok (.bool true) w:=by kernel_rfl
theorem if_not (w:World):(binOp .eql 20 (.iface 25 (.int .i64 2)) Value.nilIface).run Tryz.prog w=.ok (.bool false) w:=by kernel_rfl
theorem if_long (w:World):(binOp .eql 20 (.iface 25 (.int .i64 2)) (.iface 25 (.int .i64 2))).run Tryz.prog w=.ok (.bool true) w:=by kernel_rfl
theorem catch_panicking (p:Addr) (x:Value) (older:List PanicEntry) (w:World) (hc:w.cell? p=some x) (hz:w.frozen? p=false) :
    CallsD Tryz.prog 99 #[.pointer (some p)] (.panicking ({ v:=.iface 25 (.int .i64 2),recovered:=false } :: older)) w fun e u' w'=>
      e=.returned (.tuple #[])∧u'=.panicking ({ v:=.iface 25 (.int .i64 2),recovered:=true } :: older)∧w'=w.setCell p (.int .i64 2):=by
  have h1:=if_not
  have h2:=if_long
  refine callsD_of_wpS Tryz.func99 rfl fun c₀ cs hu=>?_
  apply wpS_seq
  apply wpS_region
  simp [wpOpsS,go_sem,recoverD,hu,Tryz.ntmps99,Exit.thenS]
  refine wpS_of_wp ?_
  go_wp2
  simp [bodyPostS,results,Tryz.results99]
theorem catch_idle (p:Addr) (w:World) :
    CallsD Tryz.prog 99 #[.pointer (some p)] .returning w fun e u' w'=>e=.returned (.tuple #[])∧u'=.returning∧w'=w:=by
  have h1:=if_nil
  refine callsD_of_wpS Tryz.func99 rfl fun c₀ cs hu=>?_
  apply wpS_seq
  apply wpS_region
  simp [wpOpsS,go_sem,recoverD,hu,Tryz.ntmps99,Exit.thenS]
  refine wpS_of_wp ?_
  go_wp2
  cases c₀
  simp_all [bodyPostS,results,Tryz.results99]
set_option maxRecDepth 100000 in
set_option maxHeartbeats 1000000 in
theorem told_no (F:Nat) (cap:Array Value) (w:World) (hE:∀ w,(callFunc F cap).run Tryz.prog w=.ok (.enter F cap) w) (hF:∀ W,Below w.heap.size w W->Calls Tryz.prog F cap W fun r W'=>r=.panicked [{ v:=.iface 25 (.int .i64 2),recovered:=false }]∧Below W.heap.size W W') :
    Calls Tryz.prog 74 #[.func (.func F) #[] cap] w fun r w'=>r=.returned (.tuple #[.agg #[.bool false,.slice none 0 0,.int .i64 0],.int .i64 2])∧Below w.heap.size w w':=by
  have hmf:∀ (fn:Fn) (first cap:Array Value) (w:World),(Instr.makeFunc fn first cap).run Tryz.prog w=.ok (.func fn first cap) w:=fun _ _ _ _=>rfl
  go_enter_defers Tryz.func74,Tryz.ntmps74
  go_wp2_with fail
  refine (hF _ (bel_alloc2 _ _ _)).mono ?_
  rintro r W' ⟨rfl,hb⟩
  have q1:=(hb.block (w.heap.size + 1) (by rw [size2]; omega)).trans (heap_b2 _ _ _)
  have q0:=(hb.block w.heap.size (by rw [size2]; omega)).trans (heap_a2 _ _ _)
  have f0:=blkF q1 0
  have k0:=blkC q1 0 rfl
  go_wp2_with fail
  refine leaves_cons (f:=99) (args:=#[.pointer (some ⟨w.heap.size + 1,0,none⟩)]) (by simp) (by simp [go_sem]) ?_
  refine (catch_panicking ⟨w.heap.size + 1,0,none⟩ _ [] _ k0 f0).mono ?_
  rintro e u' w'' ⟨rfl,rfl,rfl⟩
  have c0:=blkC q0 0 rfl
  have c1:=blkC q0 1 rfl
  have c2:=blkC q0 2 rfl
  simp [Leaves,settle,results,Tryz.results74,go_sem,c0,c1,c2,k0]
  exact ((bel_alloc2 _ _ _).trans (hb.mono (bel_alloc2 _ _ _).size)).setCell (Nat.le_succ _) _
theorem dans_res {w W w3:World} {V:Int} {v:Value} (hv:DAns W w3 V v) (hb:Below w.heap.size w W) {g:Nat} (h0:w.heap.size <= g) (h1:g + 1 < W.heap.size) (a b c x:Value) :
    DAns w ((((w3.setCell ⟨g,0,none⟩ a).setCell ⟨g,1,none⟩ b).setCell ⟨g,2,none⟩ c).setCell ⟨g + 1,0,none⟩ x) V v:=by
  obtain ⟨ng,s,m,e,h2,h3,t,d,hO,hN,hV,hB⟩:=hv
  refine ⟨ng,s,m,e,h2,h3,t,d,?_,hN,hV,?_⟩
  . exact ((((hO.set_below (a:=⟨g,0,none⟩) (by show g < _; omega) a).set_below (a:=⟨g,1,none⟩) (by show g < _; omega) b).set_below (a:=⟨g,2,none⟩) (by show g < _; omega) c).set_below (a:=⟨g + 1,0,none⟩) h1 x).lower hb.size
  . exact ((((hb.trans (hB.mono hb.size)).setCell (p:=⟨g,0,none⟩) h0 a).setCell (p:=⟨g,1,none⟩) h0 b).setCell (p:=⟨g,2,none⟩) h0 c).setCell (p:=⟨g + 1,0,none⟩) (Nat.le_succ_of_le h0) x
set_option maxRecDepth 100000 in
set_option maxHeartbeats 1000000 in
theorem told_yes (F:Nat) (cap:Array Value) (w:World) (V:Int) (hE:∀ w,(callFunc F cap).run Tryz.prog w=.ok (.enter F cap) w) (hF:∀ W,Below w.heap.size w W->Calls Tryz.prog F cap W fun r W'=>∃ v,r=.returned v∧DAns W W' V v) :
    Calls Tryz.prog 74 #[.func (.func F) #[] cap] w fun r w'=>∃ v,r=.returned (.tuple #[v,.int .i64 0])∧DAns w w' V v:=by
  have hmf:∀ (fn:Fn) (first cap:Array Value) (w:World),(Instr.makeFunc fn first cap).run Tryz.prog w=.ok (.func fn first cap) w:=fun _ _ _ _=>rfl
  go_enter_defers Tryz.func74,Tryz.ntmps74
  go_wp2_with fail
  refine (hF _ (bel_alloc2 _ _ _)).mono ?_
  rintro r W' ⟨v,rfl,hD⟩
  have hb:=hD.below
  obtain ⟨ng,s,m,e,rfl,hy,hA⟩:=id hD
  obtain ⟨so,sn,sc,rfl⟩:=hA.num.shape
  have q1:=(hb.block (w.heap.size + 1) (by rw [size2]; omega)).trans (heap_b2 _ _ _)
  have q0:=(hb.block w.heap.size (by rw [size2]; omega)).trans (heap_a2 _ _ _)
  have f0:=blkF q1 0
  have k0:=blkC q1 0 rfl
  have c0:=blkC q0 0 rfl
  have c1:=blkC q0 1 rfl
  have c2:=blkC q0 2 rfl
  have z0:=blkF q0 0
  have z1:=blkF q0 1
  have z2:=blkF q0 2
  go_wp2_with fail
  refine leaves_cons (f:=99) (args:=#[.pointer (some ⟨w.heap.size + 1,0,none⟩)]) (by simp) (by simp [go_sem]) ?_
  refine (catch_idle ⟨w.heap.size + 1,0,none⟩ _).mono ?_
  rintro e u' w'' ⟨rfl,rfl,rfl⟩
  simp [Leaves,settle,results,Tryz.results74,go_sem,c0,c1,c2,k0]
  exact dans_res (g:=w.heap.size) hD (bel_alloc2 _ _ _) (Nat.le_refl _) (by rw [size2]; omega) _ _ _ _
def Cpy (w w':World) (v:Value) (n:Nat) (d:Nat->Int):Prop:=Out w.heap.size w' v n d∧Below w.heap.size w w'
theorem out_empty (w:World) (d:Nat->Int) {g:Nat} (hg:g=w.heap.size):Out w.heap.size (w.alloc (.cells #[] 3)) (.slice (some ⟨g,0,none⟩) 0 0) 0 d:=by
  subst hg
  exact ⟨by simp [vals],.inr ⟨w.heap.size,0,#[],rfl,Nat.le_refl _,heap_alloc_new w _,Nat.le_refl _,by decide,rfl,rfl⟩⟩
set_option maxHeartbeats 400000 in
theorem clone_any (ao:Option Addr) (n cap:Nat) (d:Nat->Int) (w:World) (h:Row w ao n cap d) (hn:n <= 500000) :
    Calls Tryz.prog 131 #[.slice ao n cap] w fun e w'=>∃ v,e=.returned v∧Cpy w w' v n d:=by
  cases ao with
  | none=>
    have hc:=h.nl rfl
    have hl:=h.le
    subst hc
    obtain rfl:n=0:=by omega
    have hnil:=fun w':World=>Lib.run_eql_slice_nil (P:=Tryz.prog) w' 24 3 none 0 0 0 0 Tryz.underlying24
    go_enter Tryz.func131,Tryz.ntmps131
    go_wp2
    go_ret
    exact ⟨_,rfl,Out.nil _ _ _,bel_refl _⟩
  | some ad=>
    have hnil:=fun w':World=>Lib.run_eql_slice_nil (P:=Tryz.prog) w' 24 3 (some ad) n cap 0 0 Tryz.underlying24
    go_enter Tryz.func131,Tryz.ntmps131
    go_wp2_with (at_builtin; refine wpList_app rfl _ _ rfl w.heap.size _ 0 d rfl (out_empty w d rfl) _ n cap d rfl (h.alloc _) (by omega) (by simp) ?_; intro v' w1 hO1 hg1)
    go_ret
    refine ⟨_,rfl,?_,?_⟩
    . rw [Nat.zero_add] at hO1
      exact hO1.congr fun i hi=>by simp [cat]
    . exact (bel_alloc w _).grown hg1 (by simp) (own_ge (out_empty w d rfl))
set_option maxHeartbeats 400000 in
theorem digits_nat (V:Int) (w:World) (h0:0 <= V) (h1:V < 9223372036854775808) :
    Calls Tryz.prog 121 #[.int .i64 V] w fun e w'=>∃ v,e=.returned v∧Ans w w' V v:=by
  have HM:Hid (V < 9223372036854775808):=h1
  clear h1
  go_enter Tryz.func121,Tryz.ntmps121
  go_wp2
  go_loopw [0,3] (fun i v wr=>∃ (x:Int) (k:Nat) (r:Nat->Int),i=.int .i64 x∧0 <= x∧k <= 3∧Out w.heap.size wr v k r∧Dig r k∧Hid (x * P k <= V)∧Hid (x=0->Top r k)∧Hid (val r k + x * P k=V)∧Below w.heap.size w wr) (fun i _ _=>(intOf i).toNat)
  case atStart=>exact ⟨V,0,fun _=>0,rfl,h0,by omega,Out.nil _ _ _,fun i hi=>by omega,by show _ <= _; show V * 1 <= V; omega,fun _=>.inl rfl,by show _=_; show 0 + V * 1=V; omega,bel_refl _⟩
  case round=>
    obtain ⟨x,k,r,rfl,hx,hk3,hO,hD,HB,HT,HV,hbw⟩:=hrel
    by_cases hp:0 < x
    . have h30:=and_30 x
      have hk2:k <= 2:=by
        by_cases e:k=3
        . subst e
          have a:=HB.out
          have b:=HM.out
          have c:P 3=1073741824 * 1073741824 * 1073741824:=by decide
          have d:1 * P 3 <= x * P 3:=Int.mul_le_mul_of_nonneg_right (by omega) (Int.le_of_lt (P_pos 3))
          omega
        . omega
      go_wp2_with (at_builtin; refine wpList_app rfl _ _ rfl w.heap.size _ k r rfl (hO.stays (bel_alloc _ _)) _ 1 1 (fun _=>x % 1073741824) rfl (row1 _ _ rfl) (by omega) (by have:=hbw.size; simp; omega) ?_; intro v' w1 hO1 hg1)
      have hb1:Below w.heap.size w w1:=(hbw.alloc hbw.size _).grown hg1 (by have:=hbw.size; simp; omega) (own_ge hO)
      have e1:∀ i,i < k + 1->cat r k (fun _=>x % 1073741824) i=upd r k (x % 1073741824) i:=fun i hi=>by
        by_cases e:i < k
        . simp [cat,e,upd_other r _ (show i ≠ k by omega)]
        . obtain rfl:i=k:=by omega
          simp [cat,upd_same]
      have hs:=sum_step (c:=0) (x:=x) (show val r k + 0 * P k=val r k by omega)
      rw [Int.zero_add] at hs
      go_roundw
      case rel=>exact ⟨x / 1073741824,k + 1,upd r k (x % 1073741824),rfl,by omega,by omega,hO1.congr e1,dig_snoc ((hD.congr (fun i hi=>(upd_other r _ (by omega)).symm))) (by rw [upd_same]; omega) (by rw [upd_same]; omega),by
          show _ <= _
          have a:=HB.out
          rw [P_succ,show x / 1073741824 * (P k * 1073741824)=(x / 1073741824 * 1073741824) * P k by grind]
          have b:(x / 1073741824 * 1073741824) * P k <= x * P k:=Int.mul_le_mul_of_nonneg_right (by omega) (Int.le_of_lt (P_pos k))
          omega,fun e=>.inr (by rw [Nat.add_sub_cancel,upd_same]; omega),by show _=_; rw [hs]; exact HV.out,hb1⟩
      case measure=>simp [intOf]; omega
    . obtain rfl:x=0:=by omega
      go_wp2
      go_ret
      exact ⟨_,rfl,k,r,hO,⟨hD,HT.out (by first | rfl | trivial)⟩,by have:=HV.out; omega,hbw⟩
def Sht (B:Nat) (w w':World) (v:Value) (n:Nat) (d:Nat->Int) (D left:Int):Prop :=
  ∃ r,Out B w' v n r∧Dig r n∧val d n=D * val r n + left∧0 <= left∧left < D∧Below B w w'
set_option maxHeartbeats 1000000 in
theorem shorten_any (B:Nat) (ao:Option Addr) (n cap:Nat) (d:Nat->Int) (D:Int) (w:World) (h:Out B w (.slice ao n cap) n d) (hd:Dig d n) (hD0:0 < D) (hD1:D < 1073741824) (hn:n <= 100000) (hB:B <= w.heap.size) :
    Calls Tryz.prog 132 #[.slice ao n cap,.int .i64 D] w fun e w'=>∃ left,e=.returned (.int .i64 left)∧Sht B w w' (.slice ao n cap) n d D left:=by
  obtain ⟨ao',cap',hv,hR⟩:=h.row
  simp only [Value.slice.injEq,true_and] at hv
  obtain ⟨rfl,rfl⟩:=hv
  have hla:=hR.le
  have hma:=hR.max
  go_enter Tryz.func132,Tryz.ntmps132
  go_wp2
  go_loopw [5,10] (fun c i wr=>∃ (k:Nat) (left:Int) (r:Nat->Int),k <= n∧i=.int .i64 k∧c=.int .i64 left∧0 <= left∧left < D∧Out B wr (.slice ao n cap) n r∧Dig r n∧Hid (∀ i,i < n - k->r i=d i)∧Hid (val (fun i=>d (n - k + i)) k=D * val (fun i=>r (n - k + i)) k + left)∧Below B w wr) (fun _ i _=>n - (intOf i).toNat)
  case atStart=>exact ⟨0,0,d,Nat.zero_le _,rfl,rfl,by omega,by omega,h,hd,fun _ _=>rfl,by show _=_; show (0:Int)=D * 0 + 0; omega,Below.refl _ _⟩
  case round=>
    obtain ⟨k,left,r,hk,rfl,rfl,hl0,hl1,hO,hD,HS,HV,hbw⟩:=hrel
    by_cases hlt:k < n
    . obtain ⟨m,hm⟩:∃ m,n=m + 1 + k:=⟨n - 1 - k,by omega⟩
      have HM:Hid (n=m + 1 + k):=hm
      have hm1:n <= m + 1 + k:=by omega
      have hm2:m + 1 + k <= n:=by omega
      have hz:((n:Int) - 1 - k).toNat=m:=by omega
      have hz2:n - 1 - k=m:=by omega
      clear hm
      obtain ⟨g,rfl,hg,hgl⟩:=hO.spot (by omega)
      have c1:=hO.cell (show m < n by omega)
      have f1:=hO.frozen m
      have dm:=hD m (by omega)
      have hor:=or_30 dm hl0 (by omega)
      have HR:Hid (r m=d m):=HS.out m (by omega)
      have hq0:0 <= left * 1073741824 + r m:=by omega
      have hmod0:=Int.emod_nonneg (left * 1073741824 + r m) (show D ≠ 0 by omega)
      have hmod1:=Int.emod_lt_of_pos (left * 1073741824 + r m) hD0
      have hdiv0:0 <= (left * 1073741824 + r m) / D:=Int.ediv_nonneg hq0 (by omega)
      have hdiv1:(left * 1073741824 + r m) / D < 1073741824:=(Int.ediv_lt_iff_lt_mul hD0).2 (by
        have:(left + 1) * 1073741824 <= D * 1073741824:=Int.mul_le_mul_of_nonneg_right (by omega) (by omega)
        rw [Int.mul_comm 1073741824 D]; omega)
      have HVV:=HV.out
      rw [show n - k=m + 1 by omega] at HVV
      have hs:=short_step HVV
      rw [<- HR.out] at hs
      have HST:=(show Hid (_=_) from hs)
      clear hs HVV
      go_wp2
      go_roundw
      case rel=>exact ⟨k + 1,(left * 1073741824 + r m) % D,upd r m ((left * 1073741824 + r m) / D),by omega,by go_num,rfl,hmod0,hmod1,hO.store (by omega) _,hD.upd _ ⟨hdiv0,hdiv1⟩,fun i hi=>by rw [upd_other r _ (by omega)]; exact HS.out i (by omega),by show _=_; rw [show n - (k + 1)=m by omega]; exact HST.out,hbw.setCell hg _⟩
      case measure=>simp [intOf]; omega
    . obtain rfl:k=n:=by omega
      go_wp2
      go_ret
      have hv:=HV.out
      rw [Nat.sub_self] at hv
      simp only [Nat.zero_add] at hv
      exact ⟨left,rfl,r,hO,hD,hv,hl0,hl1,hbw⟩
def Gs (U V t:Int):Prop:=0 <= t∧t < 1073741824∧(t - 1) * V <= U∧U < (t + 1) * V
structure Stp (u v:Nat->Int) (L:Nat) (U V:Int):Prop where
  du:Dig u (L + 3)
  dv:Dig v (L + 2)
  top:536870912 <= v (L + 1)
  eU:U=val u (L + 3)
  eV:V=val v (L + 2)
  lt:U < 1073741824 * V
theorem Stp.splitV {u v:Nat->Int} {L:Nat} {U V:Int} (h:Stp u v L U V):V=(v (L + 1) * 1073741824 + v L) * P L + val v L:=by
  rw [h.eV,val_succ,val_succ,P_succ]; grind
theorem Stp.splitU {u v:Nat->Int} {L:Nat} {U V:Int} (h:Stp u v L U V):U=((u (L + 2) * 1073741824 + u (L + 1)) * 1073741824 + u L) * P L + val u L:=by
  rw [h.eU,val_succ,val_succ,val_succ,show P (L + 2)=P L * 1073741824 * 1073741824 from rfl,show P (L + 1)=P L * 1073741824 from rfl]; grind
theorem Stp.topU {u v:Nat->Int} {L:Nat} {U V:Int} (h:Stp u v L U V):u (L + 2) <= v (L + 1):=by
  have h1:val u (L + 3)=val u (L + 2) + u (L + 2) * P (L + 2):=val_succ _ _
  have h2:val v (L + 2)=val v (L + 1) + v (L + 1) * P (L + 1):=val_succ _ _
  have a:=val_nonneg (h.du.le (show L + 2 <= L + 3 by omega))
  have b:=val_lt (h.dv.le (show L + 1 <= L + 2 by omega))
  have c:=h.lt
  rw [h.eU,h.eV,h1,h2] at c
  have p:=P_pos (L + 1)
  have e:P (L + 2)=P (L + 1) * 1073741824:=P_succ _
  rw [e] at c
  rcases Int.lt_or_le (v (L + 1)) (u (L + 2)) with q | q
  . have f:(v (L + 1) + 1) * (P (L + 1) * 1073741824) <= u (L + 2) * (P (L + 1) * 1073741824):=mul_le_r (by omega) (by omega)
    have g:(v (L + 1) + 1) * (P (L + 1) * 1073741824)=1073741824 * (v (L + 1) * P (L + 1)) + 1073741824 * P (L + 1):=by grind
    omega
  . exact q
theorem Stp.start {u v:Nat->Int} {L:Nat} {U V:Int} (h:Stp u v L U V) {t l:Int} (ht:0 <= t) (hh:u (L + 2) * 1073741824 + u (L + 1)=t * v (L + 1) + l) (hl:l < v (L + 1)):U < (t + 1) * V:=by
  have sU:=h.splitU
  have sV:=h.splitV
  have p:=P_pos L
  have a:=val_lt (h.du.le (show L <= L + 3 by omega))
  have b:=val_nonneg (h.dv.le (show L <= L + 2 by omega))
  have dL:=h.du L (by omega)
  have vL:=h.dv L (by omega)
  have e1:(u (L + 2) * 1073741824 + u (L + 1) + 1) * (1073741824 * P L) <= (t + 1) * v (L + 1) * (1073741824 * P L):=mul_le_r (by rw [Int.add_mul]; omega) (by omega)
  have e2:0 <= (t + 1) * (v L * P L + val v L):=Int.mul_nonneg (by omega) (by have:=Int.mul_nonneg vL.1 (Int.le_of_lt p); omega)
  have e3:(t + 1) * V=(t + 1) * v (L + 1) * (1073741824 * P L) + (t + 1) * (v L * P L + val v L):=by rw [sV]; grind
  have e4:U=(u (L + 2) * 1073741824 + u (L + 1) + 1) * (1073741824 * P L) - 1073741824 * P L + u L * P L + val u L:=by rw [sU]; grind
  have e5:u L * P L <= 1073741823 * P L:=mul_le_r (by omega) (by omega)
  omega
theorem Stp.dec {u v:Nat->Int} {L:Nat} {U V:Int} (h:Stp u v L U V) {t l:Int} (ht:0 <= t) (hh:u (L + 2) * 1073741824 + u (L + 1)=t * v (L + 1) + l) (hc:l * 1073741824 + u L < t * v L):U < t * V :=
  knuth_dec h.splitV (val_nonneg (h.dv.le (by omega))) h.splitU (val_lt (h.du.le (by omega))) (P_pos L) hh ht hc
theorem Stp.big {u v:Nat->Int} {L:Nat} {U V:Int} (h:Stp u v L U V) {t:Int} (ht:1073741823 < t):U < t * V:=by
  have:=val_nonneg h.dv
  rw [<- h.eV] at this
  have e:1073741824 * V <= t * V:=mul_le_r (by omega) this
  have:=h.lt
  omega
theorem Stp.small {u v:Nat->Int} {L:Nat} {U V:Int} (h:Stp u v L U V) {t l:Int} (hh:u (L + 2) * 1073741824 + u (L + 1)=t * v (L + 1) + l) (hl:1073741823 < l):t < 1073741824:=by
  rcases Int.lt_or_le t 1073741824 with q | q
  . exact q
  . have a:=h.topU
    have b:=(h.du (L + 1) (by omega)).2
    have c:=(h.dv (L + 1) (by omega)).1
    have e:1073741824 * v (L + 1) <= t * v (L + 1):=mul_le_r q c
    omega
theorem Stp.long {u v:Nat->Int} {L:Nat} {U V:Int} (h:Stp u v L U V) {t l:Int} (ht:0 <= t) (hh:u (L + 2) * 1073741824 + u (L + 1)=t * v (L + 1) + l) (hl:1073741823 < l) (hU:U < (t + 1) * V):Gs U V t:=by
  have a:=knuth_long h.splitV (val_lt (h.dv.le (by omega))) (h.dv L (by omega)).2 h.splitU (val_nonneg (h.du.le (by omega))) (h.du L (by omega)).1 (P_pos L) hh ht (h.small hh hl) (by omega)
  have:=val_nonneg h.dv
  rw [<- h.eV] at this
  exact ⟨ht,h.small hh hl,by rw [Int.sub_mul]; omega,hU⟩
theorem Stp.done {u v:Nat->Int} {L:Nat} {U V:Int} (h:Stp u v L U V) {t l:Int} (ht:0 <= t) (hh:u (L + 2) * 1073741824 + u (L + 1)=t * v (L + 1) + l) (h1:t < 1073741824) (hc:t * v L <= l * 1073741824 + u L) (hU:U < (t + 1) * V):Gs U V t :=
  ⟨ht,h1,knuth_short h.splitV (val_nonneg (h.dv.le (by omega))) (val_lt (h.dv.le (by omega))) (by have:=h.top; omega) (h.dv L (by omega)).1 h.splitU (val_nonneg (h.du.le (by omega))) (P_pos L) hh ht h1 hc,hU⟩
set_option maxHeartbeats 2000000 in
theorem guess_any (bu fu cu:Nat) (bo:Option Addr) (cb L M:Nat) (hM:M=L + 2) (u v:Nat->Int) (U V:Int) (w:World) (hu:∀ i,i < L + 3->w.cell? ⟨bu,fu + i,none⟩=some (.int .i64 (u i))) (hul:M + 1 <= cu) (hum:cu <= 1000000) (hb:Row w bo M cb v) (h:Stp u v L U V) :
    Calls Tryz.prog 135 #[.slice (some ⟨bu,fu,none⟩) (M + 1) cu,.slice bo M cb] w fun e w'=>∃ t,e=.returned (.int .i64 t)∧Gs U V t∧Below w.heap.size w w':=by
  have hlb:=hb.le
  have hmb:=hb.max
  obtain ⟨bb,fb,rfl,hbb,hcb⟩:=hb.spot (by omega)
  have u0:=h.du L (by omega)
  have u1:=h.du (L + 1) (by omega)
  have u2:=h.du (L + 2) (by omega)
  have v0:=h.dv L (by omega)
  have v1:=h.dv (L + 1) (by omega)
  have hv:=h.top
  have htop:=h.topU
  have cu0:w.cell? ⟨bu,fu + (M - 2),none⟩=some (.int .i64 (u L)):=by rw [show M - 2=L by omega]; exact hu L (by omega)
  have cu1:w.cell? ⟨bu,fu + (M - 1),none⟩=some (.int .i64 (u (L + 1))):=by rw [show M - 1=L + 1 by omega]; exact hu (L + 1) (by omega)
  have cu2:w.cell? ⟨bu,fu + M,none⟩=some (.int .i64 (u (L + 2))):=by rw [hM]; exact hu (L + 2) (by omega)
  have cv0:w.cell? ⟨bb,fb + (M - 2),none⟩=some (.int .i64 (v L)):=by rw [show M - 2=L by omega]; exact hcb L (by omega)
  have cv1:w.cell? ⟨bb,fb + (M - 1),none⟩=some (.int .i64 (v (L + 1))):=by rw [show M - 1=L + 1 by omega]; exact hcb (L + 1) (by omega)
  have hM2:2 <= M:=by omega
  clear hM hu
  have hor:=or_30 u1 u2.1 (by omega)
  obtain ⟨H,hH⟩:∃ H,H=u (L + 2) * 1073741824 + u (L + 1):=⟨_,rfl⟩
  have hH0:0 <= H:=by omega
  have hH1:H <= v (L + 1) * 1073741824 + 1073741823:=by omega
  rw [<- hH] at hor
  have HH:Hid (H=u (L + 2) * 1073741824 + u (L + 1)):=hH
  clear hH
  have q0:0 <= H / v (L + 1):=Int.ediv_nonneg hH0 (by omega)
  have q1:H / v (L + 1) <= 1073741826:=by
    have:H / v (L + 1) < 1073741827:=(Int.ediv_lt_iff_lt_mul (by omega)).2 (by omega)
    omega
  have q2:=Int.emod_nonneg H (show v (L + 1) ≠ 0 by omega)
  have q3:=Int.emod_lt_of_pos H (show 0 < v (L + 1) by omega)
  have q4:Hid (u (L + 2) * 1073741824 + u (L + 1)=H / v (L + 1) * v (L + 1) + H % v (L + 1)):=by
    show _=_
    rw [<- HH.out]; exact (Int.ediv_mul_add_emod H (v (L + 1))).symm
  have q5:Hid (U < (H / v (L + 1) + 1) * V):=h.start q0 q4.out q3
  have hnz:(v (L + 1) == 0)=false:=by simp; omega
  go_enter Tryz.func135,Tryz.ntmps135
  go_wp2
  go_quiet (fail)
  go_wp2
  go_quiet (fail)
  go_wp2
  have hbu:bu < w.heap.size:=World.block_lt_of_cell? w _ cu0
  go_loopw [7,8] (fun t l wr=>∃ x y:Int,t=.int .i64 x∧l=.int .i64 y∧0 <= x∧x <= 1073741826∧0 <= y∧y < 2147483648∧Hid (u (L + 2) * 1073741824 + u (L + 1)=x * v (L + 1) + y)∧Hid (U < (x + 1) * V)∧Below w.heap.size w wr) (fun t _ _=>(intOf t).toNat)
  case atStart=>exact ⟨H / v (L + 1),H % v (L + 1),rfl,rfl,q0,q1,q2,by omega,q4,q5,bDrewN (bDrewN (bel_refl _) _) _⟩
  case round=>
    clear q0 q1 q2 q3 q4 q5 hnz hor HH hH0 hH1
    obtain ⟨x,y,rfl,rfl,hx0,hx1,hy0,hy1,HE,HU,hbw⟩:=hrel
    have d0:=(hbw.cell (p:=⟨bu,fu + (M - 2),none⟩) hbu).trans cu0
    have e0:=(hbw.cell (p:=⟨bb,fb + (M - 2),none⟩) hbb).trans cv0
    have e1:=(hbw.cell (p:=⟨bb,fb + (M - 1),none⟩) hbb).trans cv1
    clear cu0 cu1 cu2 cv0 cv1
    by_cases hA:y <= 1073741823
    . by_cases hB:1073741823 < x
      . go_wp2
        go_quiet (fail)
        go_wp2
        go_roundw
        case rel=>exact ⟨x - 1,y + v (L + 1),rfl,rfl,by omega,by omega,by omega,by omega,by show _=_; rw [HE.out,Int.sub_mul]; omega,by show _ < _; rw [show x - 1 + 1=x by omega]; exact h.big hB,bDrewN hbw _⟩
        case measure=>simp [intOf]; omega
      . have hB':decide (1073741823 < x)=false:=decide_eq_false hB
        have hor2:=or_30 u0 hy0 (by omega)
        have hmul:=dig_mul ⟨hx0,show x < 1073741824 by omega⟩ v0
        by_cases hC:y * 1073741824 + u L < x * v L
        . have hxp:0 < x:=by
            rcases Int.lt_or_eq_of_le hx0 with e | e
            . exact e
            . rw [<- e] at hC; omega
          go_wp2
          go_quiet (fail)
          go_wp2
          go_roundw
          case rel=>exact ⟨x - 1,y + v (L + 1),rfl,rfl,by omega,by omega,by omega,by omega,by show _=_; rw [HE.out,Int.sub_mul]; omega,by show _ < _; rw [show x - 1 + 1=x by omega]; exact h.dec hx0 HE.out hC,bDrewN hbw _⟩
          case measure=>simp [intOf]; omega
        . have hC':decide (y * 1073741824 + u L < x * v L)=false:=decide_eq_false hC
          go_wp2
          go_quiet (fail)
          go_wp2
          go_ret
          exact ⟨x,rfl,h.done hx0 HE.out (by omega) (by omega) HU.out,bDrewN hbw _⟩
    . have hA':decide (y <= 1073741823)=false:=decide_eq_false hA
      go_wp2
      go_quiet (fail)
      go_wp2
      go_ret
      exact ⟨x,rfl,h.long hx0 HE.out (by omega) HU.out,bDrewN hbw _⟩
theorem RowX.row {g:Nat} {w:World} {ao:Option Addr} {n cap:Nat} {d:Nat->Int} (h:RowX g w ao n cap d) (hn:0 < n):Row w ao n cap d :=
  ⟨h.le,h.max,(fun e=>by obtain ⟨b,off,q,_⟩:=h.spot hn; rw [q] at e; cases e),fun _=>by
    obtain ⟨b,off,q,hlt,_,hc⟩:=h.spot hn
    exact ⟨b,off,q,hlt,hc⟩⟩
def Tk (g N at_ M:Nat) (r:Nat->Int) (w w':World) (U V t:Int):Prop :=
  ∃ r',Blk w' g N r'∧(∀ i,i < at_∨at_ + M < i->r' i=r i)∧Dig (fun i=>r' (at_ + i)) (M + 1)∧U=t * V + val (fun i=>r' (at_ + i)) (M + 1)∧val (fun i=>r' (at_ + i)) (M + 1) < V∧0 <= t∧t < 1073741824∧Wr g w w'
theorem dig_upd {f:Nat->Int} {k:Nat} {x:Int} (h:Dig f k) (h0:0 <= x) (h1:x < 1073741824):Dig (upd f k x) (k + 1):=fun i hi=>by
  by_cases e:i=k
  . rw [e,upd_same]; exact ⟨h0,h1⟩
  . rw [upd_other f x e]; exact h i (by omega)
theorem tk_end {R x p V:Int} (h0:0 <= R) (h1:R < p) (hp:0 < p) (hV:V < p) (h2:0 <= R + x * p) (h3:R + x * p < V):x=0:=by
  rcases Int.lt_trichotomy x 0 with h | h | h
  . have:x * p <= -1 * p:=mul_le_r (by omega) (by omega)
    omega
  . exact h
  . have:1 * p <= x * p:=mul_le_r (by omega) (by omega)
    omega
theorem Stp.facts {u v:Nat->Int} {L M:Nat} {U V:Int} (hM:M=L + 2) (h:Stp u v L U V):Dig v M∧Dig u (M + 1)∧V=val v M∧U=val u M + u M * P M∧V < P M∧0 <= U:=by
  subst hM
  have e1:=h.eU
  have e2:=val_nonneg h.du
  have e3:=val_lt h.dv
  have e4:=h.eV
  refine ⟨h.dv,h.du,e4,?_,by omega,by omega⟩
  rw [e1]; exact val_succ u (L + 2)
theorem Blk.cells {w:World} {g N:Nat} {r:Nat->Int} (h:Blk w g N r) {at_ n:Nat} (hn:at_ + n <= N):∀ i,i < n->w.cell? ⟨g,at_ + i,none⟩=some (.int .i64 ((fun j=>r (at_ + j)) i)):=fun i hi=>h.cell (by omega)
set_option maxHeartbeats 4000000 in
theorem takeOut_any (g at_ N cu:Nat) (bo:Option Addr) (cb L M:Nat) (hM:M=L + 2) (r v:Nat->Int) (U V:Int) (w:World) (hB:Blk w g N r) (hb:RowX g w bo M cb v) (hat:at_ + M + 1 <= N) (hul:M + 1 <= cu) (hum:cu <= 1000000)
    (h:Stp (fun i=>r (at_ + i)) v L U V) :
    Calls Tryz.prog 133 #[.slice (some ⟨g,at_,none⟩) (M + 1) cu,.slice bo M cb] w fun e w'=>∃ t,e=.returned (.int .i64 t)∧Tk g N at_ M r w w' U V t:=by
  have hlb:=hb.le
  have hmb:=hb.max
  obtain ⟨dv,du,eV0,eU0,hVlt0,hU00⟩:=Stp.facts hM h
  have eV:Hid (V=val v M):=eV0
  have eU:Hid (U=val (fun i=>r (at_ + i)) M + r (at_ + M) * P M):=eU0
  have hVlt:Hid (V < P M):=hVlt0
  have hU0:Hid (0 <= U):=hU00
  clear eV0 eU0 hVlt0 hU00
  have hM2:2 <= M:=by omega
  have hcs:=hB.cells (at_:=at_) (n:=L + 3) (by omega)
  have HM:Hid (M=L + 2):=hM
  clear hM
  obtain ⟨bb,fb,rfl,hbb,hbg,hcb⟩:=hb.spot (by omega)
  go_enter Tryz.func133,Tryz.ntmps133
  go_wp2_with fail
  refine (guess_any g at_ cu _ cb L M HM.out (fun i=>r (at_ + i)) v U V w hcs hul hum (hb.row (by omega)) h).mono ?_
  rintro e w1 ⟨t,rfl,hG,hb1⟩
  have ht0:=hG.1
  have ht1:=hG.2.1
  have HG:Hid (Gs U V t):=hG
  have hB1:=hB.keeps hb1
  have hw1:Wr g w w1:=wr_of hb1
  clear hG hb1 h hcs
  go_wp2
  go_loopw [7,17] (fun c i wr=>∃ (k:Nat) (q:Int) (r':Nat->Int),k <= M∧i=.int .i64 k∧c=.int .i64 q∧-1073741824 < q∧q <= 0∧Blk wr g N r'∧Hid (∀ i,i < at_∨at_ + k <= i->r' i=r i)∧Hid (Dig (fun i=>r' (at_ + i)) k)∧Hid (val (fun i=>r' (at_ + i)) k + q * P k=val (fun i=>r (at_ + i)) k - t * val v k)∧Wr g w wr) (fun _ i _=>M - (intOf i).toNat)
  case atStart=>exact ⟨0,0,r,Nat.zero_le _,rfl,rfl,by omega,by omega,hB1,fun _ _=>rfl,fun i hi=>by omega,by show _=_; show (0:Int) + 0 * 1=0 - t * 0; omega,hw1⟩
  case round=>
    clear hB1 hw1
    obtain ⟨k,q,r',hk,rfl,rfl,hq0,hq1,hBr,HS,HD,HV,hwr⟩:=hrel
    by_cases hlt:k < M
    . have c1:wr.cell? ⟨g,at_ + k,none⟩=some (.int .i64 (r (at_ + k))):=by rw [<- HS.out (at_ + k) (by omega)]; exact hBr.cell (by omega)
      have f1:=hBr.frozen (at_ + k)
      have c2:=(hwr.cell (p:=⟨bb,fb + k,none⟩) hbb hbg).trans (hcb k hlt)
      have dk:=du k (by omega)
      have dvk:=dv k hlt
      have hmul:=dig_mul ⟨ht0,ht1⟩ dvk
      have h30:=and_30 (q + (r (at_ + k) - t * v k))
      have dk':0 <= r (at_ + k)∧r (at_ + k) < 1073741824:=dk
      clear dk
      go_wp2
      go_quiet (fail)
      go_wp2
      have hs:=sum_step (x:=r (at_ + k) - t * v k) HV.out
      go_roundw
      case rel=>exact ⟨k + 1,(q + (r (at_ + k) - t * v k)) / 1073741824,upd r' (at_ + k) ((q + (r (at_ + k) - t * v k)) % 1073741824),by omega,by go_num,rfl,by omega,by omega,(hBr.store (at_ + k) _),fun i hi=>by rw [upd_other r' _ (by omega)]; exact HS.out i (by omega),by
          show Dig _ _
          rw [upd_shift]
          exact dig_upd HD.out (by omega) (by omega),by
          show _=_
          rw [upd_shift,hs,val_succ,val_succ]; grind,(hwr.drewN _).setCell _ _⟩
      case measure=>simp [intOf]; omega
    . obtain rfl:k=M:=by omega
      have c1:wr.cell? ⟨g,at_ + k,none⟩=some (.int .i64 (r (at_ + k))):=by rw [<- HS.out (at_ + k) (by omega)]; exact hBr.cell (by omega)
      have f1:=hBr.frozen (at_ + k)
      have hB2:=hBr.store (at_ + k) (r (at_ + k) + q)
      have hw2:=hwr.setCell (at_ + k) (.int .i64 (r (at_ + k) + q))
      have dk:0 <= r (at_ + k)∧r (at_ + k) < 1073741824:=du k (by omega)
      have hR0:=val_nonneg HD.out
      have hR1:=val_lt HD.out
      have hkey:Hid (U - t * V=val (fun i=>r' (at_ + i)) k + (r (at_ + k) + q) * P k):=by
        show _=_
        rw [eU.out,eV.out,Int.add_mul]
        have:=HV.out
        omega
      have pk:=P_pos k
      by_cases hz:0 <= r (at_ + k) + q
      . have hx:r (at_ + k) + q=0:=by
          have a:=hkey.out
          have b:=HG.out.2.2.2
          rw [Int.add_mul,Int.one_mul] at b
          have c:0 <= (r (at_ + k) + q) * P k:=Int.mul_nonneg hz (by omega)
          exact tk_end hR0 hR1 pk hVlt.out (by omega) (by omega)
        have HX:Hid (r (at_ + k) + q=0):=hx
        have HR:Hid (0 <= val (fun i=>r' (at_ + i)) k∧val (fun i=>r' (at_ + i)) k < P k):=⟨hR0,hR1⟩
        clear hx hR0 hR1
        go_wp2
        go_ret
        refine ⟨t,rfl,upd r' (at_ + k) (r (at_ + k) + q),hB2,fun i hi=>?_,?_,?_,?_,ht0,ht1,hw2⟩
        . rw [upd_other r' _ (by omega)]; exact HS.out i (by omega)
        . rw [upd_shift,HX.out]
          exact dig_upd HD.out (by omega) (by omega)
        . rw [upd_shift,val_succ,upd_same,val_upd_ge _ _ (Nat.le_refl _)]
          have:=hkey.out
          omega
        . rw [upd_shift,val_succ,upd_same,val_upd_ge _ _ (Nat.le_refl _)]
          have a:=hkey.out
          have b:=HG.out.2.2.2
          rw [Int.add_mul,Int.one_mul] at b
          omega
      . have HR:Hid (0 <= val (fun i=>r' (at_ + i)) k∧val (fun i=>r' (at_ + i)) k < P k):=⟨hR0,hR1⟩
        have hneg:Hid (U < t * V):=by
          show _ < _
          have a:=hkey.out
          have c:(r (at_ + k) + q) * P k <= -1 * P k:=mul_le_r (by omega) (by omega)
          omega
        have ht2:1 <= t:=by
          rcases Int.lt_or_eq_of_le ht0 with e | e
          . omega
          . have a:=hneg.out
            rw [<- e] at a
            have:=hU0.out
            omega
        clear hR0 hR1
        go_wp2
        go_loopw [9,55] (fun c i wx=>∃ (j:Nat) (y:Int) (s:Nat->Int),j <= k∧i=.int .i64 j∧c=.int .i64 y∧0 <= y∧y <= 1∧Blk wx g N s∧Hid (∀ i,i < at_∨at_ + j <= i->s i=upd r' (at_ + k) (r (at_ + k) + q) i)∧Hid (Dig (fun i=>s (at_ + i)) j)∧Hid (val (fun i=>s (at_ + i)) j + y * P j=val (fun i=>r' (at_ + i)) j + val v j)∧Wr g w wx) (fun _ i _=>k - (intOf i).toNat)
        case atStart=>exact ⟨0,0,_,Nat.zero_le _,rfl,rfl,by omega,by omega,hB2,fun _ _=>rfl,fun i hi=>by omega,by show _=_; show (0:Int) + 0 * 1=0 + 0; omega,hw2⟩
        case round=>
          clear c1 f1
          obtain ⟨j,y,s,hj,rfl,rfl,hy0,hy1,hBs,HSs,HDs,HVs,hws⟩:=hrel
          by_cases hjk:j < k
          . have c1:wr.cell? ⟨g,at_ + j,none⟩=some (.int .i64 (r' (at_ + j))):=by
              have e:=HSs.out (at_ + j) (by omega)
              rw [upd_other r' _ (by omega)] at e
              rw [<- e]; exact hBs.cell (by omega)
            have f1:=hBs.frozen (at_ + j)
            have c2:=(hws.cell (p:=⟨bb,fb + j,none⟩) hbb hbg).trans (hcb j hjk)
            have dj:0 <= r' (at_ + j)∧r' (at_ + j) < 1073741824:=HD.out j hjk
            have dvj:=dv j hjk
            have h30:=and_30 (y + (r' (at_ + j) + v j))
            go_wp2
            go_quiet (fail)
            go_wp2
            have hs:=sum_step (x:=r' (at_ + j) + v j) HVs.out
            go_roundw
            case rel=>exact ⟨j + 1,(y + (r' (at_ + j) + v j)) / 1073741824,upd s (at_ + j) ((y + (r' (at_ + j) + v j)) % 1073741824),by omega,by go_num,rfl,by omega,by omega,(hBs.store (at_ + j) _),fun i hi=>by rw [upd_other s _ (by omega)]; exact HSs.out i (by omega),by
                show Dig _ _
                rw [upd_shift]
                exact dig_upd HDs.out (by omega) (by omega),by
                show _=_
                rw [upd_shift,hs,val_succ,val_succ]; grind,(hws.drewN _).setCell _ _⟩
            case measure=>simp [intOf]; omega
          . obtain rfl:j=k:=by omega
            have c1:wr.cell? ⟨g,at_ + j,none⟩=some (.int .i64 (r (at_ + j) + q)):=by
              have e:=HSs.out (at_ + j) (by omega)
              rw [upd_same] at e
              rw [<- e]; exact hBs.cell (by omega)
            have f1:=hBs.frozen (at_ + j)
            have hB3:=hBs.store (at_ + j) (r (at_ + j) + q + y)
            have hx:r (at_ + j) + q + y=0:=by
              have a:=hkey.out
              have b:=HG.out.2.2.1
              have c:=hneg.out
              have d:=HVs.out
              have R0:=val_nonneg HDs.out
              have R1:=val_lt HDs.out
              rw [<- eV.out] at d
              rw [Int.sub_mul] at b
              have e1:(r (at_ + j) + q + y) * P j=(r (at_ + j) + q) * P j + y * P j:=by rw [Int.add_mul]
              exact tk_end R0 R1 pk hVlt.out (by omega) (by omega)
            have HX:Hid (r (at_ + j) + q + y=0):=hx
            clear hx
            go_wp2
            go_ret
            refine ⟨t - 1,rfl,upd s (at_ + j) (r (at_ + j) + q + y),hB3,fun i hi=>?_,?_,?_,?_,by omega,by omega,hws.setCell _ _⟩
            . rw [upd_other s _ (by omega),HSs.out i (by omega),upd_other r' _ (by omega)]; exact HS.out i (by omega)
            . rw [upd_shift,HX.out]
              exact dig_upd HDs.out (by omega) (by omega)
            . rw [upd_shift,val_succ,upd_same,val_upd_ge _ _ (Nat.le_refl _),Int.sub_mul]
              have a:=hkey.out
              have d:=HVs.out
              rw [<- eV.out] at d
              have e1:(r (at_ + j) + q + y) * P j=(r (at_ + j) + q) * P j + y * P j:=by rw [Int.add_mul]
              omega
            . rw [upd_shift,val_succ,upd_same,val_upd_ge _ _ (Nat.le_refl _)]
              have a:=hkey.out
              have c:=hneg.out
              have d:=HVs.out
              rw [<- eV.out] at d
              have e1:(r (at_ + j) + q + y) * P j=(r (at_ + j) + q) * P j + y * P j:=by rw [Int.add_mul]
              omega
theorem bel_undrew {B:Nat} {a w:World} (h:Below B a.drew w):Below B a w:=⟨h.os,h.tape,h.output,h.size,h.block⟩
theorem Row.drew {w:World} {ao:Option Addr} {n cap:Nat} {d:Nat->Int} (h:Row w ao n cap d):Row w.drew ao n cap d:=⟨h.le,h.max,h.nl,h.spot⟩
theorem blk_make (w:World) (N:Nat) {g:Nat} (hg:g=w.heap.size):Blk (w.alloc (.cells (madeCells #[.int .i64 0] N) 3)) g N (fun _=>0):=by
  subst hg
  refine ⟨_,heap_alloc_new w _,by simp [madeCells],fun i hi=>?_⟩
  rw [<- Array.getElem?_toList,toList_madeCells_one]; simp [hi]
def Cut8 (w:World) (n:Nat) (V:Int) (sr sb:Value) (wx:World):Prop :=
  ∃ g,sr=.slice (some ⟨g,0,none⟩) (n + 1) (n + 1)∧w.heap.size <= g∧Blk wx g (n + 1) (fun _=>0)∧Below w.heap.size w wx∧∃ bo cb t v,sb=.slice bo t cb∧RowX g wx bo t cb v∧Nrm v t∧val v t=V
theorem cut8_a {w w2 w3:World} {n:Nat} {V:Int} {v:Value} (b1:Below w.heap.size w w2) (hv:Ans (w2.alloc (.cells (madeCells #[.int .i64 0] (n + 1)) 3)).drew w3 V v) :
    Cut8 w n V (.slice (some ⟨w2.heap.size,0,none⟩) (n + 1) (n + 1)) v w3:=by
  have b2:Below (w2.alloc (.cells (madeCells #[.int .i64 0] (n + 1)) 3)).heap.size (w2.alloc (.cells (madeCells #[.int .i64 0] (n + 1)) 3)) w3:=bel_undrew hv.below
  have hB:=(blk_make w2 (n + 1) rfl).keeps b2
  obtain ⟨t,d,hO,hN,hV,_⟩:=hv
  obtain ⟨ao,cap,rfl,hR⟩:=hO.row
  refine ⟨_,rfl,b1.size,hB,bel_trans (bel_trans b1 (bel_alloc _ _)) b2,ao,cap,t,d,rfl,⟨hR.le,hR.max,fun hn=>?_⟩,hN,hV⟩
  obtain ⟨b,off,rfl,hlt,hc⟩:=hR.spot hn
  obtain ⟨g,hg,hge,_⟩:=hO.spot hn
  simp only [Option.some.injEq,Addr.mk.injEq] at hg
  have e:(w2.alloc (.cells (madeCells #[.int .i64 0] (n + 1)) 3)).drew.heap.size=w2.heap.size + 1:=by show (w2.alloc _).heap.size=_; simp
  rw [e] at hge
  exact ⟨b,off,rfl,hlt,by omega,hc⟩
theorem cut8_b {w w2 w3:World} {n:Nat} {V:Int} {v:Value} (b1:Below w.heap.size w w2) (hv:Ans w2.drew w3 V v) {w4:World} (e4:w4=w3.alloc (.cells (madeCells #[.int .i64 0] (n + 1)) 3)) :
    Cut8 w n V (.slice (some ⟨w3.heap.size,0,none⟩) (n + 1) (n + 1)) v w4:=by
  subst e4
  have b2:Below w2.heap.size w2 w3:=bel_undrew hv.below
  have b3:=bel_trans b1 b2
  obtain ⟨t,d,hO,hN,hV,_⟩:=hv
  obtain ⟨ao,cap,rfl,hR⟩:=hO.row
  refine ⟨_,rfl,b3.size,blk_make w3 (n + 1) rfl,bel_trans b3 (bel_alloc _ _),ao,cap,t,d,rfl,⟨hR.le,hR.max,fun hn=>?_⟩,hN,hV⟩
  obtain ⟨b,off,rfl,hlt,hc⟩:=(hR.alloc _).spot hn
  obtain ⟨b',off',q,hlt',_⟩:=hR.spot hn
  simp only [Option.some.injEq,Addr.mk.injEq] at q
  exact ⟨b,off,rfl,hlt,by omega,hc⟩
def ov (e:Nat->Int) (m:Nat) (r:Nat->Int):Nat->Int:=fun i=>if i < m then e i else r i
theorem wpList_cp {w:World} {ops:Array Oper} {rest:List Oper} {o:Oper} {a:Act} {Q:Exit->Act->World->Prop} (hgd:o.guard=none) (d s:Operand)
    (ho:o.op=.call { callee:=.builtin .copy,args:=#[d,s],argTypes:=#[24,24] }) (g N:Nat) (r:Nat->Int) (hd:a.eval d=.slice (some ⟨g,0,none⟩) N N) (hB:Blk w g N r)
    (bo:Option Addr) (m cb:Nat) (e:Nat->Int) (hs:a.eval s=.slice bo m cb) (hR:Row w bo m cb e) (hm0:0 < m) (hmN:m <= N)
    (h:∀ w',Blk w' g N (ov e m r)->Wr g w w'->wpList Tryz.prog ops Q rest (a.put o.dst (goInt m)) w'):wpList Tryz.prog ops Q (o :: rest) a w:=by
  obtain ⟨b,off,rfl,hlt,hc⟩:=hR.spot hm0
  obtain ⟨cur,hg,hsz,hcur⟩:=hB
  have hl:(vals e m).length=m:=vals_length e m
  refine wpList_copy_own hgd d s 24 24 ho 3 Tryz.underlying24 (by kernel_rfl) g 0 N N ⟨b,off,none⟩ m cb hd hs cur 3 hg (vals e m) (by rw [hl]; exact (Nat.min_eq_left hmN).symm) ?_ (by omega) (vals_one e m) ?_
  . intro j u hu
    have hj:j < m:=by have:=(List.getElem?_eq_some_iff.1 hu).1; rwa [hl] at this
    rw [vals_get e hj] at hu
    rw [add_none,hc j hj]; exact hu
  . rw [hl]
    refine h _ ⟨_,setRow_heap w g _ _ _ _ hg,?_,?_⟩ ⟨rfl,rfl,rfl,by simp,fun k _ hk=>setRow_other w g k _ hk⟩
    . simp [hl]; omega
    . intro i hi
      rw [List.getElem?_toArray,List.take_zero,List.nil_append]
      by_cases him:i < m
      . rw [List.getElem?_append_left (by omega),vals_get e him]; simp [ov,him]
      . rw [List.getElem?_append_right (by omega),hl,List.getElem?_drop,Array.getElem?_toList,show 0 + m + (i - m)=i by omega,hcur i hi]; simp [ov,him]
theorem norm_div {b v:Nat->Int} {m t s:Nat} (nb:Nrm b m) (hm:0 < m) (hs:s + blen (b (m - 1))=30) (nv:Nrm v t) (hv:val v t=val b m * 2 ^ s):t=m∧536870912 <= v (m - 1):=by
  obtain ⟨k,rfl⟩:∃ k,m=k + 1:=⟨m - 1,by omega⟩
  rw [Nat.add_sub_cancel] at hs ⊢
  have hx0:0 < b k:=by
    have h1:=nb.1 k (by omega)
    rcases nb.2 with e | e
    . omega
    . rw [Nat.add_sub_cancel] at e; omega
  obtain ⟨c1,c2⟩:=blen_pos hx0
  have c3:=blen_lt (b k)
  have lo0:=val_nonneg (nb.1.le (Nat.le_succ k))
  have lo1:=val_lt (nb.1.le (Nat.le_succ k))
  have pk:=P_pos k
  have ps:=two_pos s
  have e29:(2:Int) ^ (blen (b k) - 1) * 2 ^ s=536870912:=by rw [<- Int.pow_add,show blen (b k) - 1 + s=29 by omega]; rfl
  have e30:(2:Int) ^ blen (b k) * 2 ^ s=1073741824:=by rw [<- Int.pow_add,show blen (b k) + s=30 by omega]; rfl
  have f1:(2:Int) ^ (blen (b k) - 1) * 2 ^ s <= b k * 2 ^ s:=mul_le_r c2 (by omega)
  have f2:(b k + 1) * 2 ^ s <= 2 ^ blen (b k) * 2 ^ s:=mul_le_r (by omega) (by omega)
  rw [e29] at f1
  rw [e30] at f2
  have g1:536870912 * P k <= b k * 2 ^ s * P k:=mul_le_r f1 (by omega)
  have g2:(b k + 1) * 2 ^ s * P k <= 1073741824 * P k:=mul_le_r f2 (by omega)
  have g3:0 <= val b k * 2 ^ s:=Int.mul_nonneg lo0 (by omega)
  have g4:(val b k + 1) * 2 ^ s <= P k * 2 ^ s:=mul_le_r (by omega) (by omega)
  have eV:val v t=val b k * 2 ^ s + b k * 2 ^ s * P k:=by rw [hv,val_succ]; grind
  have g5:(b k + 1) * 2 ^ s * P k=b k * 2 ^ s * P k + P k * 2 ^ s:=by grind
  rw [Int.add_mul,Int.one_mul] at g4
  have V1:536870912 * P k <= val v t:=by omega
  have V2:val v t < P (k + 1):=by rw [P_succ]; omega
  have t1:t <= k + 1:=by
    by_cases h:t <= k + 1
    . exact h
    . have a:=val_top nv.1 (by omega) nv.2
      have b:=P_le (show k + 1 <= t - 1 by omega)
      omega
  have t2:k + 1 <= t:=by
    by_cases h:k + 1 <= t
    . exact h
    . have a:=val_lt nv.1
      have b:=P_le (show t <= k by omega)
      omega
  obtain rfl:t=k + 1:=by omega
  refine ⟨rfl,?_⟩
  rw [val_succ] at V1
  have w1:=val_lt (nv.1.le (Nat.le_succ k))
  rcases Int.lt_or_le (v k) 536870912 with q | q
  . have:(v k + 1) * P k <= 536870912 * P k:=mul_le_r (by omega) (by omega)
    rw [Int.add_mul] at this
    omega
  . exact q
theorem dig_zero {f:Nat->Int} {N M:Nat} (h:Dig f N) (hM:M <= N) (hv:val f N < P M):∀ i,M <= i->i < N->f i=0:=by
  have e:=val_split f M (N - M)
  rw [show M + (N - M)=N by omega] at e
  have a:=val_nonneg (h.le hM)
  have dh:Dig (fun i=>f (M + i)) (N - M):=fun i hi=>h (M + i) (by omega)
  have b:=val_nonneg dh
  have pm:=P_pos M
  have z:val (fun i=>f (M + i)) (N - M)=0:=by
    rcases Int.lt_or_eq_of_le b with q | q
    . have:P M * 1 <= P M * val (fun i=>f (M + i)) (N - M):=mul_le_l (by omega) (by omega)
      omega
    . exact q.symm
  have z2:val (fun _:Nat=>(0:Int)) (N - M)=0:=val_zeros (Nat.zero_le _) (fun _ _ _=>rfl)
  intro i hi hiN
  have:=val_inj dh (zero_dig (N - M)) (z.trans z2.symm) (i - M) (by omega)
  rwa [show M + (i - M)=i by omega] at this
theorem val_mid {r:Nat->Int} {at_ M N:Nat} (h:at_ + M <= N) (hz:∀ i,at_ + M <= i->i < N->r i=0):val r N=val r at_ + P at_ * val (fun i=>r (at_ + i)) M:=by
  rw [val_zeros h hz,val_split]
theorem div_round {r:Nat->Int} {at_ m N:Nat} {V:Int} (hd:Dig r N) (h:at_ + (m + 1) <= N) (hV:V < P m) (hlt:val r N < V * P (at_ + 1)) :
    (∀ i,at_ + (m + 1) <= i->i < N->r i=0)∧val r N=val r at_ + P at_ * val (fun i=>r (at_ + i)) (m + 1)∧val (fun i=>r (at_ + i)) (m + 1) < 1073741824 * V:=by
  have pa:=P_pos at_
  have h1:V * P (at_ + 1) <= P m * P (at_ + 1):=mul_le_r (by omega) (Int.le_of_lt (P_pos _))
  rw [<- P_add,show m + (at_ + 1)=at_ + (m + 1) by omega] at h1
  have hz:=dig_zero hd h (by omega)
  have e:=val_mid h hz
  refine ⟨hz,e,?_⟩
  have lo:=val_nonneg (hd.le (show at_ <= N by omega))
  rcases Int.lt_or_le (val (fun i=>r (at_ + i)) (m + 1)) (1073741824 * V) with q | q
  . exact q
  . have:P at_ * (1073741824 * V) <= P at_ * val (fun i=>r (at_ + i)) (m + 1):=mul_le_l q (by omega)
    rw [P_succ] at hlt
    have e2:V * (P at_ * 1073741824)=P at_ * (1073741824 * V):=by grind
    omega
theorem Num.cut_row {w:World} {ao:Option Addr} {n cap t:Nat} {d:Nat->Int} (h:Row w ao n cap d) (ht:t <= n):∃ ao' cap',cutV ao t cap=.slice ao' t cap'∧Row w ao' t cap' d:=by
  unfold cutV
  split
  . rename_i e; subst e; exact ⟨none,0,rfl,Row.nil _ _⟩
  . exact ⟨ao,cap,rfl,⟨by have:=h.le; omega,h.max,h.nl,fun hn=>by
      obtain ⟨b,off,rfl,hlt,hc⟩:=h.spot (by omega)
      exact ⟨b,off,rfl,hlt,fun i hi=>hc i (by omega)⟩⟩⟩
theorem cut_block {g t N k:Nat} (h:(cutV (some ⟨g,0,none⟩) t N).ownBlock=some k):k=g:=by
  unfold cutV at h
  split at h
  . simp [Value.ownBlock] at h
  . simp [Value.ownBlock] at h; exact h.symm
def Ans2 (w w':World) (V1:Int) (v1:Value) (V2:Int) (v2:Value):Prop:=Ans w w' V1 v1∧Ans w w' V2 v2∧∀ k,v1.ownBlock=some k->v2.ownBlock ≠ some k
theorem div_back {A B Q X:Int} {s:Nat} (h:A * 2 ^ s=Q * (B * 2 ^ s) + X) (h0:0 <= X) (h1:X < B * 2 ^ s):Q=A / B∧X / 2 ^ s=A % B:=by
  have ps:=two_pos s
  have e1:X=(A - Q * B) * 2 ^ s:=by rw [Int.sub_mul]; grind
  have hR:X / 2 ^ s=A - Q * B:=by rw [e1,Int.mul_ediv_cancel _ (by omega)]
  have r0:0 <= A - Q * B:=by rw [<- hR]; exact Int.ediv_nonneg h0 (by omega)
  have r1:A - Q * B < B:=by
    rcases Int.lt_or_le (A - Q * B) B with q | q
    . exact q
    . have:B * 2 ^ s <= (A - Q * B) * 2 ^ s:=mul_le_r q (by omega)
      omega
  have:=div_of (a:=A) (b:=B) (q:=Q) (r:=A - Q * B) (by omega) r0 r1
  exact ⟨this.1,by rw [hR]; exact this.2⟩
def DivR (w0:World) (g gq n t K:Nat) (v:Nat->Int) (byo:Option Addr) (bcap:Nat) (AA V:Int) (k:Nat) (wr:World):Prop :=
  ∃ r qf,Blk wr g (n + 1) r∧Dig r (n + 1)∧Blk wr gq K qf∧Dig qf K∧(∀ i,i < K - k->qf i=0)∧AA=val qf K * V + val r (n + 1)∧val r (n + 1) < V * P (K - k)∧RowX g wr byo t bcap v∧Below w0.heap.size w0 wr
theorem stp_of {r v:Nat->Int} {n t K L at_ k:Nat} {V:Int} (hK:K=at_ + 1 + k) (hL:t=L + 2) (hK1:K + t <= n + 1) (hDr:Dig r (n + 1)) (hlt:val r (n + 1) < V * P (K - k)) (hV:V=val v t) (hv:Nrm v t) (htop:536870912 <= v (t - 1)) :
    Stp (fun i=>r (at_ + i)) v L (val (fun i=>r (at_ + i)) (t + 1)) V:=by
  subst hL
  have h:=div_round (at_:=at_) (m:=L + 2) (V:=V) hDr (by omega) (by rw [hV]; exact val_lt hv.1) (by rwa [show at_ + 1=K - k by omega])
  exact ⟨fun i hi=>hDr (at_ + i) (by omega),hv.1,htop,rfl,hV,h.2.2⟩
theorem DivR.step {w0:World} {g gq n t K:Nat} {v r qf:Nat->Int} {byo:Option Addr} {bcap:Nat} {AA V q:Int} {k at_:Nat} {wr w7:World} (hK:K=at_ + 1 + k) (hK1:K + t <= n + 1)
    (hBr:Blk wr g (n + 1) r) (hDr:Dig r (n + 1)) (hBq:Blk wr gq K qf) (hDq:Dig qf K) (hzq:∀ i,i < K - k->qf i=0) (hA:AA=val qf K * V + val r (n + 1)) (hlt:val r (n + 1) < V * P (K - k)) (hX:RowX g wr byo t bcap v) (hbw:Below w0.heap.size w0 wr)
    (hVt:V < P t) (hne:gq ≠ g) (hg:w0.heap.size <= g) (hgq:w0.heap.size <= gq) (hne2:0 < t->∀ b off,byo=some ⟨b,off,none⟩->b ≠ gq) (hT:Tk g (n + 1) at_ t r wr w7 (val (fun i=>r (at_ + i)) (t + 1)) V q) :
    DivR w0 g gq n t K v byo bcap AA V (k + 1) (w7.setCell ⟨gq,at_,none⟩ (.int .i64 q)):=by
  obtain ⟨r',hB7,hS7,hD7,hU7,hlt7,hq0,hq1,hw7⟩:=hT
  obtain ⟨hz,e,_⟩:=div_round (at_:=at_) (m:=t) hDr (by omega) hVt (by rwa [show at_ + 1=K - k by omega])
  have hBq7:Blk w7 gq K qf:=hBq.of_block (hw7.block gq hBq.lt hne)
  have hz':∀ i,at_ + (t + 1) <= i->i < n + 1->r' i=0:=fun i a b=>by rw [hS7 i (by omega)]; exact hz i a b
  have e':=val_mid (r:=r') (show at_ + (t + 1) <= n + 1 by omega) hz'
  have elo:val r' at_=val r at_:=val_congr fun i hi=>hS7 i (by omega)
  have hD':Dig r' (n + 1):=fun i hi=>by
    by_cases c:i < at_∨at_ + t < i
    . rw [hS7 i c]; exact hDr i hi
    . have:=hD7 (i - at_) (by omega)
      simp only [show at_ + (i - at_)=i by omega] at this
      exact this
  have lo0:=val_lt (hDr.le (show at_ <= n + 1 by omega))
  refine ⟨r',upd qf at_ q,hB7.apart (by simpa using hne.symm) _,hD',hBq7.store at_ q,hDq.upd _ ⟨hq0,hq1⟩,fun i hi=>?_,?_,?_,?_,?_⟩
  . rw [upd_other qf _ (by omega)]; exact hzq i (by omega)
  . rw [hA,val_upd qf q (show at_ < K by omega),hzq at_ (by omega),e,e',elo,hU7]; grind
  . rw [show K - (k + 1)=at_ by omega,e',elo]
    have h1:(val (fun i=>r' (at_ + i)) (t + 1) + 1) * P at_ <= V * P at_:=mul_le_r (by omega) (Int.le_of_lt (P_pos _))
    rw [Int.add_mul] at h1
    have h2:P at_ * val (fun i=>r' (at_ + i)) (t + 1)=val (fun i=>r' (at_ + i)) (t + 1) * P at_:=Int.mul_comm _ _
    omega
  . have hx:=hX.keeps hw7
    refine ⟨hx.le,hx.max,fun hn=>?_⟩
    obtain ⟨b,off,eb,hlt,hbg,hc⟩:=hx.spot hn
    exact ⟨b,off,eb,by simpa using hlt,hbg,fun i hi=>by
      have:=World.cell?_of_block (w:=w7) (a:=⟨b,off + i,none⟩) (heap_setCell_other w7 ⟨gq,at_,none⟩ b (.int .i64 q) (hne2 hn b off eb))
      rw [this]; exact hc i hi⟩
  . exact (hw7.below hbw (by exact hbw.size) hg).setCell hgq _
theorem DivR.done {w0:World} {g gq n t K:Nat} {v:Nat->Int} {byo:Option Addr} {bcap:Nat} {AA V:Int} {wr:World} (h:DivR w0 g gq n t K v byo bcap AA V K wr) :
    ∃ r qf,Blk wr g (n + 1) r∧Dig r (n + 1)∧Blk wr gq K qf∧Dig qf K∧AA=val qf K * V + val r (n + 1)∧val r (n + 1) < V∧Below w0.heap.size w0 wr:=by
  obtain ⟨r,qf,h1,h2,h3,h4,_,h5,h6,_,h7⟩:=h
  rw [Nat.sub_self] at h6
  have e:V * P 0=V:=by show V * 1=V; omega
  exact ⟨r,qf,h1,h2,h3,h4,h5,by omega,h7⟩
theorem ov_val {d:Nat->Int} {t N:Nat} (h:t <= N):val (ov d t (fun _=>0)) N=val d t:=by
  rw [val_zeros h (fun i a _=>by simp [ov]; omega)]
  exact val_congr fun i hi=>by simp [ov,hi]
theorem ov_dig {d:Nat->Int} {t N:Nat} (h:Dig d t):Dig (ov d t (fun _=>0)) N:=fun i _=>by
  by_cases e:i < t
  . simp only [ov,e,if_true]; exact h i e
  . simp only [ov,e,if_false]; omega
end Go.Proofs.YteglfnnbpilheaaGreatDoor
