/- Parts of the proof. -/
import Derived.Test.YtfgapefckpnjjaaGreatDoorPart5
import Derived.Test.YtfgapefckpnjjaaGreatDoorPart3
import Derived.Test.YtfgapefckpnjjaaGreatDoorPart4
import Derived.Deep.LoopGhost
import Derived.Deep.RegionWith
import Derived.Laws.Externs
import Derived.Laws.Cover2
set_option linter.unusedVariables false
set_option linter.unusedSimpArgs false
namespace Go.Proofs.YtfgapefckpnjjaaGreatDoor
open Go Go.RowKit Go.Proofs.YtfgapefckpnjjaaGreatDoor.M
theorem rtrim_out {B:Nat} {w:World} {v:Value} {n:Nat} {d:Nat->Int} (h:Out B w v n d) :
    Calls Tryz.prog 121 #[v] w fun e w'=>∃ v',e=.returned v'∧∃ t,t <= n∧Top d t∧(∀ i,t <= i->i < n->d i=0)∧Out B w v' t d∧w'=w:=by
  have h0:=h
  rcases h.2 with ⟨rfl,rfl⟩ | ⟨g,cap,cur,rfl,hb,hg,hn,hm,hs,ht⟩
  . go_enter Tryz.func121,Tryz.ntmps121
    go_wp2
    go_loop [3] (fun i=>i=.int .i64 0) (fun i=>0)
    case atStart=>rfl
    case round=>
      subst hrel
      go_wp2
      go_ret
      exact ⟨_,rfl,.inl rfl,Out.nil _ _ _,rfl⟩
  . obtain ⟨ao,c,e,hR⟩:=h0.row
    simp only [Value.slice.injEq] at e
    obtain ⟨rfl,_,rfl⟩:=e
    refine (rtrim_any g n cap d w hR).mono ?_
    rintro e w' ⟨t,h1,h2,h3,rfl,rfl⟩
    exact ⟨_,rfl,t,h1,h2,h3,h0.cut h1,rfl⟩
theorem rtrim_ans {w0 w:World} {v:Value} {n:Nat} {d:Nat->Int} (h:Out w0.heap.size w v n d) (hd:Dig d n) (hb:Below w0.heap.size w0 w) :
    Calls Tryz.prog 121 #[v] w fun e w'=>∃ v',e=.returned v'∧Ans w0 w (val d n) v'∧w'=w:=by
  refine (rtrim_out h).mono ?_
  rintro e w' ⟨v',rfl,t,ht,htop,hz,hO,rfl⟩
  obtain ⟨hN,hv⟩:=nrm_of_top hd ht htop hz
  exact ⟨v',rfl,⟨t,d,hO,hN,hv,hb⟩,rfl⟩
set_option maxHeartbeats 1000000 in
theorem rcmp_any (ao bo:Option Addr) (n m ca cb:Nat) (a b:Nat->Int) (w:World) (ha:Row w ao n ca a) (hb:Row w bo m cb b) (na:Nrm a n) (nb:Nrm b m) :
    Calls Tryz.prog 100 #[.slice ao n ca,.slice bo m cb] w fun e w'=>e=.returned (.int .i64 (ord (val a n) (val b m)))∧Below w.heap.size w w':=by
  have hla:=ha.le
  have hma:=ha.max
  have hlb:=hb.le
  have hmb:=hb.max
  by_cases hnm:n=m
  . subst hnm
    go_enter Tryz.func100,Tryz.ntmps100
    go_wp2
    go_loopw [5] (fun i wr=>∃ k:Nat,k <= n∧i=.int .i64 ((k:Int) - 1)∧Hid (∀ i,k <= i->i < n->a i=b i)∧Below w.heap.size w wr) (fun i _=>(intOf i + 1).toNat)
    case atStart=>exact ⟨n,Nat.le_refl _,rfl,fun i _ _=>by omega,bel_refl _⟩
    case round=>
      obtain ⟨k,hk,rfl,HS,hbw⟩:=hrel
      by_cases hlt:0 < k
      . obtain ⟨j,rfl⟩:∃ j,k=j + 1:=⟨k - 1,by omega⟩
        have ej:((j + 1:Nat):Int) - 1=j:=by omega
        obtain ⟨ba,fa,rfl,hba,hca⟩:=ha.spot (by omega)
        obtain ⟨bb,fb,rfl,hbb,hcb⟩:=hb.spot (by omega)
        have c1:=(hbw.cell (p:=⟨ba,fa + j,none⟩) hba).trans (hca j (by omega))
        have c2:=(hbw.cell (p:=⟨bb,fb + j,none⟩) hbb).trans (hcb j (by omega))
        rw [ej]
        by_cases h1:a j < b j
        . go_wp2
          go_quiet (fail)
          go_wp2
          go_ret
          exact ⟨ret_int ((ord_lt h1).symm.trans (ord_top na.1 nb.1 (show j < n by omega) (fun i x y=>HS.out i (by omega) y) (by omega))),bDrewN hbw _⟩
        . by_cases h2:b j < a j
          . go_wp2
            go_quiet (fail)
            go_wp2
            go_quiet (fail)
            go_wp2
            go_ret
            exact ⟨ret_int ((ord_gt h2).symm.trans (ord_top na.1 nb.1 (show j < n by omega) (fun i x y=>HS.out i (by omega) y) (by omega))),bDrewN (bDrewN hbw _) _⟩
          . go_wp2
            go_quiet (fail)
            go_wp2
            go_quiet (fail)
            go_wp2
            go_roundw
            case rel=>exact ⟨j,by omega,by go_num,fun i x y=>by by_cases e:i=j; (· rw [e]; omega); (· exact HS.out i (by omega) y),bDrewN hbw _⟩
            case measure=>simp [intOf]; try omega
      . obtain rfl:k=0:=by omega
        go_wp2
        go_ret
        exact ⟨ret_int (ord_eq (val_congr fun i hi=>HS.out i (by omega) hi)).symm,hbw⟩
  . by_cases hlt:n < m
    . go_enter Tryz.func100,Tryz.ntmps100
      go_wp2
      go_ret
      exact ⟨ret_int (ord_lt (nrm_lt na.1 nb hlt)).symm,bel_refl _⟩
    . go_enter Tryz.func100,Tryz.ntmps100
      go_wp2
      go_ret
      exact ⟨ret_int (ord_gt (nrm_lt nb.1 na (by omega))).symm,bel_refl _⟩
set_option maxHeartbeats 2000000 in
theorem rsub_any (ao bo:Option Addr) (n m ca cb:Nat) (a b:Nat->Int) (w:World) (ha:Row w ao n ca a) (hb:Row w bo m cb b) (na:Nrm a n) (nb:Nrm b m) (hn:n <= 100000) (hle:val b m <= val a n) :
    Calls Tryz.prog 101 #[.slice ao n ca,.slice bo m cb] w fun e w'=>∃ v,e=.returned v∧Ans w w' (val a n - val b m) v:=by
  have hla:=ha.le
  have hma:=ha.max
  have hlb:=hb.le
  have hmb:=hb.max
  have da:=na.1
  have db:=nb.1
  have hmn:m <= n:=nrm_le_len nb da hle
  have HLE:Hid (val b m <= val a n):=hle
  clear hle
  go_enter Tryz.func101,Tryz.ntmps101
  go_wp2
  go_loopw [5,6,7] (fun l c i wr=>∃ (k:Nat) (q:Int) (r:Nat->Int),k <= n∧i=.int .i64 k∧c=.int .i64 q∧0 <= q∧q <= 1∧Out w.heap.size wr l k r∧Dig r k∧Hid (val r k - q * P k=val (ext a n) k - val (ext b m) k)∧Below w.heap.size w wr) (fun _ _ i _=>n - (intOf i).toNat)
  case atStart=>exact ⟨0,0,fun _=>0,Nat.zero_le _,rfl,rfl,by omega,by omega,Out.nil _ _ _,fun i hi=>by omega,by show _=_; rfl,bel_refl _⟩
  case round=>
    obtain ⟨k,q,r,hk,rfl,rfl,hq0,hq1,hO,hD,HV,hbw⟩:=hrel
    by_cases hkn:k < n
    . obtain ⟨ba,fa,rfl,hba,hca⟩:=ha.spot (by omega)
      have c1:=(hbw.cell (p:=⟨ba,fa + k,none⟩) hba).trans (hca k hkn)
      have dk:=da k hkn
      by_cases hkm:k < m
      . obtain ⟨bb,fb,rfl,hbb,hcb⟩:=hb.spot (by omega)
        have c2:=(hbw.cell (p:=⟨bb,fb + k,none⟩) hbb).trans (hcb k hkm)
        have dbk:=db k hkm
        have HX:Hid (-q + (ext a n k - ext b m k)=a k - q - b k):=by show _=_; rw [ext_lt a hkn,ext_lt b hkm]; omega
        by_cases hneg:a k - q - b k < 0
        . go_wp2_with (at_builtin; refine wpList_app rfl _ _ rfl w.heap.size _ k r rfl (hO.stays (bel_alloc _ _)) _ 1 1 (fun _=>(a k - q - b k + 1073741824)) rfl (row1 _ _ rfl) (by omega) (by have:=hbw.size; simp; omega) ?_; intro v' w1 hO1 hg1)
          have hb1:Below w.heap.size w w1:=(hbw.alloc hbw.size _).grown hg1 (by have:=hbw.size; simp; omega) (own_ge hO)
          have hs:=sum_step (c:=-q) (x:=ext a n k - ext b m k) (r:=r) (k:=k) (V:=val (ext a n) k - val (ext b m) k) (by have:=HV.out; rw [Int.neg_mul]; omega)
          rw [show -q + (ext a n k - ext b m k)=a k - q - b k from HX.out,show (a k - q - b k) % 1073741824=(a k - q - b k + 1073741824) by omega,show (a k - q - b k) / 1073741824=-1 by omega] at hs
          go_roundw
          case rel=>exact ⟨k + 1,1,upd r k (a k - q - b k + 1073741824),by omega,by go_num,rfl,by omega,by omega,hO1.congr (cat_upd r k _),dig_upd2 hD (by omega),by show _=_; rw [val_succ (ext a n),val_succ (ext b m)]; rw [Int.sub_mul] at hs; omega,hb1⟩
          case measure=>simp [intOf]; omega
        . go_wp2_with (at_builtin; refine wpList_app rfl _ _ rfl w.heap.size _ k r rfl (hO.stays (bel_alloc _ _)) _ 1 1 (fun _=>(a k - q - b k)) rfl (row1 _ _ rfl) (by omega) (by have:=hbw.size; simp; omega) ?_; intro v' w1 hO1 hg1)
          have hb1:Below w.heap.size w w1:=(hbw.alloc hbw.size _).grown hg1 (by have:=hbw.size; simp; omega) (own_ge hO)
          have hs:=sum_step (c:=-q) (x:=ext a n k - ext b m k) (r:=r) (k:=k) (V:=val (ext a n) k - val (ext b m) k) (by have:=HV.out; rw [Int.neg_mul]; omega)
          rw [show -q + (ext a n k - ext b m k)=a k - q - b k from HX.out,show (a k - q - b k) % 1073741824=(a k - q - b k) by omega,show (a k - q - b k) / 1073741824=-0 by omega] at hs
          go_roundw
          case rel=>exact ⟨k + 1,0,upd r k (a k - q - b k),by omega,by go_num,rfl,by omega,by omega,hO1.congr (cat_upd r k _),dig_upd2 hD (by omega),by show _=_; rw [val_succ (ext a n),val_succ (ext b m)]; rw [Int.sub_mul] at hs; omega,hb1⟩
          case measure=>simp [intOf]; omega
      . have HX:Hid (-q + (ext a n k - ext b m k)=a k - q):=by show _=_; rw [ext_lt a hkn,ext_ge b (by omega)]; omega
        by_cases hneg:a k - q < 0
        . go_wp2_with (at_builtin; refine wpList_app rfl _ _ rfl w.heap.size _ k r rfl (hO.stays (bel_alloc _ _)) _ 1 1 (fun _=>(a k - q + 1073741824)) rfl (row1 _ _ rfl) (by omega) (by have:=hbw.size; simp; omega) ?_; intro v' w1 hO1 hg1)
          have hb1:Below w.heap.size w w1:=(hbw.alloc hbw.size _).grown hg1 (by have:=hbw.size; simp; omega) (own_ge hO)
          have hs:=sum_step (c:=-q) (x:=ext a n k - ext b m k) (r:=r) (k:=k) (V:=val (ext a n) k - val (ext b m) k) (by have:=HV.out; rw [Int.neg_mul]; omega)
          rw [show -q + (ext a n k - ext b m k)=a k - q from HX.out,show (a k - q) % 1073741824=(a k - q + 1073741824) by omega,show (a k - q) / 1073741824=-1 by omega] at hs
          go_roundw
          case rel=>exact ⟨k + 1,1,upd r k (a k - q + 1073741824),by omega,by go_num,rfl,by omega,by omega,hO1.congr (cat_upd r k _),dig_upd2 hD (by omega),by show _=_; rw [val_succ (ext a n),val_succ (ext b m)]; rw [Int.sub_mul] at hs; omega,hb1⟩
          case measure=>simp [intOf]; omega
        . go_wp2_with (at_builtin; refine wpList_app rfl _ _ rfl w.heap.size _ k r rfl (hO.stays (bel_alloc _ _)) _ 1 1 (fun _=>(a k - q)) rfl (row1 _ _ rfl) (by omega) (by have:=hbw.size; simp; omega) ?_; intro v' w1 hO1 hg1)
          have hb1:Below w.heap.size w w1:=(hbw.alloc hbw.size _).grown hg1 (by have:=hbw.size; simp; omega) (own_ge hO)
          have hs:=sum_step (c:=-q) (x:=ext a n k - ext b m k) (r:=r) (k:=k) (V:=val (ext a n) k - val (ext b m) k) (by have:=HV.out; rw [Int.neg_mul]; omega)
          rw [show -q + (ext a n k - ext b m k)=a k - q from HX.out,show (a k - q) % 1073741824=(a k - q) by omega,show (a k - q) / 1073741824=-0 by omega] at hs
          go_roundw
          case rel=>exact ⟨k + 1,0,upd r k (a k - q),by omega,by go_num,rfl,by omega,by omega,hO1.congr (cat_upd r k _),dig_upd2 hD (by omega),by show _=_; rw [val_succ (ext a n),val_succ (ext b m)]; rw [Int.sub_mul] at hs; omega,hb1⟩
          case measure=>simp [intOf]; omega
    . obtain rfl:k=n:=by omega
      have HD:Hid (Dig r k∧val r k=val a k - val b m):=by
        refine ⟨hD,?_⟩
        have h1:=HV.out
        rw [val_ext a (Nat.le_refl _),val_ext b hmn] at h1
        have h2:=val_lt hD
        have h3:=HLE.out
        have hp:=P_pos k
        rcases (show q=0∨q=1 by omega) with e | e
        . subst e; omega
        . subst e; omega
      go_wp2_with (go_at_call 121; refine (rtrim_ans hO hD hbw).mono ?_; rintro e w3 ⟨v',rfl,hA,rfl⟩)
      go_ret
      exact ⟨_,rfl,by rw [<- HD.out.2]; exact hA⟩
set_option maxHeartbeats 2000000 in
theorem rmul_any (ao bo:Option Addr) (n m ca cb:Nat) (a b:Nat->Int) (w:World) (ha:Row w ao n ca a) (hb:Row w bo m cb b) (na:Nrm a n) (nb:Nrm b m) (hn:n <= 100000) (hm:m <= 100000) :
    Calls Tryz.prog 97 #[.slice ao n ca,.slice bo m cb] w fun e w'=>∃ v,e=.returned v∧Ans w w' (val a n * val b m) v:=by
  have hla:=ha.le
  have hma:=ha.max
  have hlb:=hb.le
  have hmb:=hb.max
  have da:=na.1
  have db:=nb.1
  by_cases hn0:n=0
  . subst hn0
    go_enter Tryz.func97,Tryz.ntmps97
    go_wp2
    go_ret
    exact ⟨_,rfl,by rw [show val a 0 * val b m=0 from Int.zero_mul _]; exact Ans.nil (bel_refl _)⟩
  . by_cases hm0:m=0
    . subst hm0
      go_enter Tryz.func97,Tryz.ntmps97
      go_wp2
      go_ret
      exact ⟨_,rfl,by rw [show val a n * val b 0=0 from Int.mul_zero _]; exact Ans.nil (bel_refl _)⟩
    . have e1:((n:Int) == 0)=false:=by simp; omega
      have e2:((m:Int) == 0)=false:=by simp; omega
      go_enter Tryz.func97,Tryz.ntmps97
      go_wp2_with (at_make; refine wpList_mk rfl _ _ rfl _ _ (n + m) rfl rfl (by omega) (by omega) (by omega) ?_; intro w1 hB1 hb1)
      go_loopw [6] (fun i wr=>∃ (k:Nat) (r:Nat->Int),k <= n∧i=.int .i64 k∧Blk wr w.heap.size (n + m) r∧Dig r (n + m)∧Hid (∀ t,k + m <= t->r t=0)∧Hid (val r (k + m)=val a k * val b m)∧Below w.heap.size w wr) (fun i _=>n - (intOf i).toNat)
      case atStart=>exact ⟨0,fun _=>0,Nat.zero_le _,rfl,hB1,zero_dig _,fun _ _=>rfl,by show _=_; rw [val_zeros (Nat.zero_le (0 + m)) (fun _ _ _=>rfl)]; show 0=0 * val b m; omega,hb1⟩
      case round=>
        obtain ⟨i,r0,hi,rfl,hB0,hD0,HZ0,HV0,hbw0⟩:=hrel
        by_cases hlt:i < n
        . obtain ⟨ba,fa,rfl,hba,hca⟩:=ha.spot (by omega)
          have dai:=da i hlt
          go_wp2
          go_loopw [7,8] (fun c j wr=>∃ (k:Nat) (q:Int) (r:Nat->Int),k <= m∧j=.int .i64 k∧c=.int .i64 q∧0 <= q∧q < 1073741824∧Blk wr w.heap.size (n + m) r∧Dig r (n + m)∧Hid (∀ t,i + k <= t->r t=r0 t)∧Hid (val r (i + k) + q * P (i + k)=val r0 (i + k) + a i * val b k * P i)∧Below w.heap.size w wr) (fun _ j _=>m - (intOf j).toNat)
          case atStart=>exact ⟨0,0,r0,Nat.zero_le _,rfl,rfl,by omega,by omega,hB0,hD0,fun _ _=>rfl,by show _=_; show val r0 i + 0 * P i=val r0 i + a i * 0 * P i; grind,hbw0⟩
          case round=>
            obtain ⟨k,q,r,hk,rfl,rfl,hq0,hq1,hB,hD,HS,HV,hbw⟩:=hrel
            have c1:=(hbw.cell (p:=⟨ba,fa + i,none⟩) hba).trans (hca i hlt)
            by_cases hkm:k < m
            . obtain ⟨bb,fb,rfl,hbb,hcb⟩:=hb.spot (by omega)
              have c2:=(hbw.cell (p:=⟨bb,fb + k,none⟩) hbb).trans (hcb k hkm)
              have c3:=hB.cell (show i + k < n + m by omega)
              have fg:=hB.frozen (i + k)
              have drk:=hD (i + k) (by omega)
              have hmul:=dig_mul dai (db k hkm)
              go_wp2
              go_quiet (fail)
              go_wp2
              have hs:=mul_step (b:=b) (j:=k) HV.out (HS.out (i + k) (Nat.le_refl _))
              rw [show q + (a i * b k + r (i + k))=r (i + k) + a i * b k + q by omega] at hs
              go_roundw
              case rel=>exact ⟨k + 1,(r (i + k) + a i * b k + q) / 1073741824,upd r (i + k) ((r (i + k) + a i * b k + q) % 1073741824),by omega,by go_num,rfl,by omega,by omega,hB.store (i + k) _,hD.upd _ (mod_dig _),fun t ht=>by rw [upd_other r _ (by omega)]; exact HS.out t (by omega),hs,(bDrewN hbw _).setCell (Nat.le_refl _) _⟩
              case measure=>simp [intOf]; omega
            . obtain rfl:k=m:=by omega
              have c3:=hB.cell (show i + k < n + k by omega)
              have fg:=hB.frozen (i + k)
              go_wp2
              have hr:=mul_row HV.out HV0.out
              go_roundw
              case rel=>exact ⟨i + 1,upd r (i + k) q,by omega,by go_num,hB.store (i + k) _,hD.upd _ ⟨hq0,hq1⟩,fun t ht=>by rw [upd_other r _ (by omega),HS.out t (by omega)]; exact HZ0.out t (by omega),by show _=_; rw [hr,val_succ],hbw.setCell (Nat.le_refl _) _⟩
              case measure=>simp [intOf]; omega
        . obtain rfl:i=n:=by omega
          go_wp2_with (go_at_call 121; refine (rtrim_ans (hB0.out (Nat.le_refl _) (Nat.le_refl _) (by omega)) hD0 hbw0).mono ?_; rintro e w3 ⟨v',rfl,hA,rfl⟩)
          go_ret
          exact ⟨_,rfl,by rw [<- HV0.out]; exact hA⟩
theorem blen_half {x:Int} (h:0 < x):blen x=blen (x / 2) + 1:=by
  obtain ⟨h1,h2⟩:=blen_pos h
  have h3:=blen_lt x
  obtain ⟨k,hk⟩:∃ k,blen x=k + 1:=⟨blen x - 1,by omega⟩
  rw [hk] at h2 h3 ⊢
  rw [Nat.add_sub_cancel] at h2
  rw [Int.pow_succ] at h3
  cases k with
  | zero=>
    have:x=1:=by simp at h3 h2; omega
    subst this; decide
  | succ j=>
    rw [Int.pow_succ] at h2
    have e1:(2:Int) ^ j <= x / 2:=by omega
    have e2:x / 2 < 2 ^ (j + 1):=by omega
    rw [blen_of e1 e2]
set_option maxHeartbeats 400000 in
theorem rfrom_any (V:Int) (w:World) (h0:0 <= V) (h1:V < 9223372036854775808) :
    Calls Tryz.prog 82 #[.int .i64 V] w fun e w'=>∃ v,e=.returned v∧Ans w w' V v:=by
  have HM:Hid (V < 9223372036854775808):=h1
  clear h1
  go_enter Tryz.func82,Tryz.ntmps82
  go_wp2
  go_loopw [0,3] (fun i v wr=>∃ (x:Int) (k:Nat) (r:Nat->Int),i=.int .i64 x∧0 <= x∧k <= 3∧Out w.heap.size wr v k r∧Dig r k∧Hid (x * P k <= V)∧Hid (x=0->Top r k)∧Hid (val r k + x * P k=V)∧Below w.heap.size w wr) (fun i _ _=>(intOf i).toNat)
  case atStart=>exact ⟨V,0,fun _=>0,rfl,h0,by omega,Out.nil _ _ _,fun i hi=>by omega,by show _ <= _; show V * 1 <= V; omega,fun _=>.inl rfl,by show _=_; show 0 + V * 1=V; omega,bel_refl _⟩
  case round=>
    obtain ⟨x,k,r,rfl,hx,hk3,hO,hD,HB,HT,HV,hbw⟩:=hrel
    by_cases hp:0 < x
    . have hk2:k <= 2:=by
        by_cases e:k=3
        . subst e
          have a:=HB.out
          have b:=HM.out
          have c:P 3=1073741824 * 1073741824 * 1073741824:=by decide
          have d:1 * P 3 <= x * P 3:=Int.mul_le_mul_of_nonneg_right (by omega) (Int.le_of_lt (P_pos 3))
          omega
        . omega
      have hx2:x <= 9223372036854775807:=by
        have a:=HB.out
        have b:=HM.out
        have c:x * 1 <= x * P k:=Int.mul_le_mul_of_nonneg_left (by have:=P_pos k; omega) (by omega)
        omega
      go_wp2_with (at_builtin; refine wpList_app rfl _ _ rfl w.heap.size _ k r rfl (hO.stays (bel_alloc _ _)) _ 1 1 (fun _=>x % 1073741824) rfl (row1 _ _ rfl) (by omega) (by have:=hbw.size; simp; omega) ?_; intro v' w1 hO1 hg1)
      have hb1:Below w.heap.size w w1:=(hbw.alloc hbw.size _).grown hg1 (by have:=hbw.size; simp; omega) (own_ge hO)
      have hs:=sum_step (c:=0) (x:=x) (show val r k + 0 * P k=val r k by omega)
      rw [Int.zero_add] at hs
      go_roundw
      case rel=>exact ⟨x / 1073741824,k + 1,upd r k (x % 1073741824),rfl,by omega,by omega,hO1.congr (cat_upd r k _),dig_upd2 hD (mod_dig _),by
          show _ <= _
          have a:=HB.out
          rw [P_succ,show x / 1073741824 * (P k * 1073741824)=(x / 1073741824 * 1073741824) * P k by grind]
          have b:(x / 1073741824 * 1073741824) * P k <= x * P k:=Int.mul_le_mul_of_nonneg_right (by omega) (Int.le_of_lt (P_pos k))
          omega,fun e=>.inr (by rw [Nat.add_sub_cancel,upd_same]; omega),by show _=_; rw [hs]; exact HV.out,hb1⟩
      case measure=>simp [intOf]; omega
    . obtain rfl:x=0:=by omega
      go_wp2
      go_ret
      exact ⟨_,rfl,k,r,hO,⟨hD,HT.out (by first | rfl | trivial)⟩,by have:=HV.out; omega,hbw⟩
set_option maxHeartbeats 400000 in
theorem rbits_any (ao:Option Addr) (n cap:Nat) (d:Nat->Int) (w:World) (h:Row w ao n cap d) (hd:Nrm d n) (hn:n <= 1000000) :
    Calls Tryz.prog 137 #[.slice ao n cap] w fun e w'=>e=.returned (.int .i64 (blen (val d n)))∧w'=w:=by
  have hl:=h.le
  have hm:=h.max
  by_cases h0:n=0
  . subst h0
    go_enter Tryz.func137,Tryz.ntmps137
    go_wp2
    go_ret
    exact ⟨rfl,rfl⟩
  . obtain ⟨k,rfl⟩:∃ k,n=k + 1:=⟨n - 1,by omega⟩
    obtain ⟨b,off,rfl,hb,hc⟩:=h.spot (by omega)
    have c:=hc k (by omega)
    have dk:=hd.1 k (by omega)
    have HV:Hid (blen (val d (k + 1))=30 * k + blen (d k)):=blen_val hd
    have hbl:blen (d k) <= 30:=blen_le (by show d k < 1073741824; exact dk.2)
    go_enter Tryz.func137,Tryz.ntmps137
    go_wp2
    go_loop [3,4] (fun s v=>∃ (x:Int) (t:Nat),s=.int .i64 t∧v=.int .i64 x∧0 <= x∧x < 1073741824∧t <= 30 * k + 30∧Hid (t + blen x=30 * k + blen (d k))) (fun _ v=>(intOf v).toNat)
    case atStart=>exact ⟨d k,30 * k,by go_num,rfl,dk.1,dk.2,by omega,rfl⟩
    case round=>
      obtain ⟨x,t,rfl,rfl,hx0,hx1,ht,HT⟩:=hrel
      by_cases hp:0 < x
      . have ht2:t + 1 <= 30 * k + 30:=by have:=HT.out; have:=blen_half hp; omega
        go_wp2
        go_round
        case rel=>exact ⟨x / 2,t + 1,by go_num,rfl,by omega,by omega,ht2,by show _=_; have:=HT.out; have:=blen_half hp; omega⟩
        case measure=>simp [intOf]; omega
      . obtain rfl:x=0:=by omega
        go_wp2
        go_ret
        exact ⟨ret_int (by have:=HT.out; rw [blen_zero] at this; rw [HV.out]; omega),rfl⟩
theorem rbit_any (ao:Option Addr) (n cap:Nat) (d:Nat->Int) (w:World) (h:Row w ao n cap d) (hd:Nrm d n) (hn:n <= 100000) (i:Nat) (hi:i <= 4000000) :
    Calls Tryz.prog 138 #[.slice ao n cap,.int .i64 i] w fun e w'=>e=.returned (.bool (bitB (val d n) i))∧w'=w:=by
  have hl:=h.le
  have hm:=h.max
  obtain ⟨q,p,hq,hp⟩:∃ q p:Nat,i=30 * q + p∧p < 30:=⟨i / 30,i % 30,by omega,by omega⟩
  have e1:(i:Int) / 30=q:=by omega
  have e2:(i:Int) % 30=p:=by omega
  by_cases hqn:q < n
  . have HV:Hid (bitB (val d n) i=(d q / 2 ^ p % 2 == 1)):=by unfold bitB; show _=_; rw [hq,bit_val hd.1 hqn hp]
    clear hq
    obtain ⟨b,off,rfl,hb,hc⟩:=h.spot (by omega)
    have c:=hc q hqn
    have dq:=hd.1 q hqn
    have hd0:0 <= d q / 2 ^ p:=Int.ediv_nonneg dq.1 (Int.le_of_lt (two_pos p))
    go_enter Tryz.func138,Tryz.ntmps138
    go_wp2
    go_ret
    exact ⟨ret_bool HV.out.symm,rfl⟩
  . have HV:Hid (bitB (val d n) i=false):=bit_high (val_nonneg hd.1) (by
      refine Nat.le_trans (blen_le (k:=30 * n) (by rw [<- P_two]; exact val_lt hd.1)) (by omega))
    clear hq
    go_enter Tryz.func138,Tryz.ntmps138
    go_wp2
    go_ret
    exact ⟨ret_bool HV.out.symm,rfl⟩
theorem val_mono {d:Nat->Int} {n m:Nat} (h:Dig d n) (hm:m <= n):val d m <= val d n:=by
  have e:=val_split d m (n - m)
  rw [show m + (n - m)=n by omega] at e
  have a:=val_nonneg (show Dig (fun i=>d (m + i)) (n - m) from fun i hi=>h (m + i) (by omega))
  have:=Int.mul_nonneg (Int.le_of_lt (P_pos m)) a
  omega
set_option maxHeartbeats 400000 in
theorem small_any (ao:Option Addr) (n cap:Nat) (d:Nat->Int) (w:World) (h:Row w ao n cap d) (hd:Dig d n) (hn:n <= 3) (hv:val d n < 9223372036854775808) :
    Calls Tryz.prog 118 #[.slice ao n cap] w fun e w'=>e=.returned (.int .i64 (val d n))∧w'=w:=by
  have hl:=h.le
  have hm:=h.max
  have HV:Hid (val d n < 9223372036854775808):=hv
  clear hv
  go_enter Tryz.func118,Tryz.ntmps118
  go_wp2
  go_loop [3,7] (fun v i=>∃ k:Nat,k <= n∧i=.int .i64 k∧v=.int .i64 (val d k)) (fun _ i=>n - (intOf i).toNat)
  case atStart=>exact ⟨0,Nat.zero_le _,rfl,rfl⟩
  case round=>
    obtain ⟨k,hk,rfl,rfl⟩:=hrel
    by_cases hlt:k < n
    . obtain ⟨b,off,rfl,hb,hc⟩:=h.spot (by omega)
      have c:=hc k hlt
      have dk:=hd k hlt
      have v0:=val_nonneg (hd.le (show k <= n by omega))
      have v1:=val_lt (hd.le (show k <= n by omega))
      have m1:=val_mono hd (show k + 1 <= n by omega)
      have hv2:=HV.out
      rw [P_two] at v1
      have e1:val d (k + 1)=val d k + d k * 2 ^ (30 * k):=by rw [val_succ,P_two]
      have m0:0 <= d k * 2 ^ (30 * k):=Int.mul_nonneg dk.1 (Int.le_of_lt (two_pos _))
      have hw:wrap64 (d k * 2 ^ (30 * k))=d k * 2 ^ (30 * k):=IntWalk.wrap64_in _ ⟨by omega,by omega⟩
      have hor:bits .or .i64 (val d k) (d k * 2 ^ (30 * k))=val d (k + 1):=(or_add _ _ _ v0 v1 dk.1 (by omega)).trans e1.symm
      clear e1 m0 m1 hv2 v0 v1
      go_wp2
      go_round
      case rel=>exact ⟨k + 1,by omega,by go_num,rfl⟩
      case measure=>simp [intOf]; omega
    . obtain rfl:k=n:=by omega
      go_wp2
      go_ret
      exact ⟨rfl,rfl⟩
structure Lay64 (w:World):Prop where
  a0:w.cell? ⟨0,0,none⟩=some (.int .i64 52)
  a1:w.cell? ⟨0,1,none⟩=some (.int .i64 2047)
  a2:w.cell? ⟨0,2,none⟩=some (.int .i64 (-1074))
theorem Lay64.keeps {w w':World} (h:Lay64 w) (hb:Below w.heap.size w w'):Lay64 w':=⟨cell_keeps h.a0 hb,cell_keeps h.a1 hb,cell_keeps h.a2 hb⟩
theorem bitsPartsA (b:Int) (w:World) (L:Lay64 w) :
    Calls Tryz.prog 46 #[.int .i64 b] w fun e w'=>e=.returned (.tuple #[.bool (pneg b),.int .i64 (pmag b),.int .i64 (pexp b),.bool (pok b)])∧Below w.heap.size w w':=by
  obtain ⟨a0,a1,a2⟩:=L
  by_cases h:pok b=true
  all_goals
    go_enter Tryz.func46,Tryz.ntmps46
    go_wp2_with (go_at_call 68; refine (parts64 _ _).mono ?_; rintro e w1 ⟨rfl,hg⟩)
    refine bodyPost_ret (v:=.tuple #[.bool (pneg b),.int .i64 (pmag b),.int .i64 (pexp b),.bool (pok b)]) (by simp [results,Tryz.results46,go_sem,pneg,h]) rfl ⟨rfl,hg.be⟩
theorem pmag_in {b:Int} (hp:pok b=true):0 <= pmag b∧pmag b < 9007199254740992∧-1074 <= pexp b∧pexp b <= 971:=by
  have hf:=fld_le b
  have hr:=frc_le b
  have h1:fld b ≠ 2047:=by simpa [pok] using hp
  unfold pmag pexp
  rw [if_neg h1,if_neg h1]
  split <;> omega
theorem ofNat_any (x:Int) (w:World) (h0:0 <= x) (h1:x < 9223372036854775808) :
    Calls Tryz.prog 157 #[.int .i64 x] w fun e w'=>∃ v,e=.returned (.tuple #[v,.int .i64 0])∧Ans w w' x v:=by
  have HX:=digits_nat x w h0 h1
  have HX':Hid (Calls Tryz.prog 160 #[.int .i64 x] w fun e w'=>∃ v,e=.returned v∧Ans w w' x v):=HX
  clear HX h1
  go_enter Tryz.func157,Tryz.ntmps157
  go_wp2_with fail
  refine HX'.out.mono ?_
  rintro e w2 ⟨v,rfl,hA⟩
  go_wp2
  go_ret2
  exact ⟨_,rfl,hA⟩
theorem P2000_big2:9223372036854775808 < P 2000:=by
  have:=P_le (show 3 <= 2000 by omega)
  have e:P 3=1237940039285380274899124224:=rfl
  omega
theorem dok_small {ng:Bool} {M e:Int} (h0:0 <= M) (h1:M < 9223372036854775808) (e0:-1074 <= e) (e1:e <= 971):Dok (sg ng M * pw e):=by
  by_cases hz:M=0
  . rw [hz,sg_zero,Int.zero_mul]; exact dok_zero
  . obtain ⟨l,hl⟩:=isLow_ex (show 0 < M by omega)
    have hy:=Dy.of ng hl (show 0 < M by omega) (show -4194304 <= e by omega)
    obtain ⟨c1,c2,c3⟩:=isLow_odd hl (show 0 < M by omega)
    have hp:=two_pos l
    have hl63:l < 63:=by
      have h3:(1:Int) * 2 ^ l <= M / 2 ^ l * 2 ^ l:=Int.mul_le_mul_of_nonneg_right (by omega) (by omega)
      rw [c3] at h3
      refine two_lt_iff ?_
      rw [show (2:Int) ^ 63=9223372036854775808 by decide]
      omega
    refine hy.ok.2 ⟨?_,by omega,by omega⟩
    have:M / 2 ^ l <= M:=Int.ediv_le_self _ h0
    have:=P2000_big2
    omega
set_option maxRecDepth 100000 in
set_option maxHeartbeats 1000000 in
theorem value_yes (ng:Bool) (M e:Int) (w:World) (hT:Tab w) (h0:0 <= M) (h1:M < 9223372036854775808) (e0:-1074 <= e) (e1:e <= 971) :
    Calls Tryz.prog 149 #[.bool ng,.int .i64 M,.int .i64 e,.bool true] w fun r w'=>∃ v,r=.returned (.tuple #[v,.int .i64 0])∧DAns w w' (sg ng M * pw e) v:=by
  have hok:=dok_small (ng:=ng) h0 h1 e0 e1
  go_enter Tryz.func149,Tryz.ntmps149
  go_wp2_with fail
  refine (ofNat_any M _ h0 h1).mono ?_
  rintro r w1 ⟨v,rfl,hA⟩
  obtain ⟨so,sn,sc,d,rfl,hR,hN,hv⟩:=hA.num
  have hsn:sn <= 100:=hA.num.len (k:=100) (by have:=P_le (show 3 <= 100 by omega); have:P 3=1237940039285380274899124224:=rfl; omega)
  have hbw:=bel_trans (bel_alloc w _) hA.below
  go_wp2_with fail
  refine (settle_any (V:=sg ng M * pw e) hR hN.1 (by omega) (hT.keeps hbw) (by omega) (by rw [hv])).mono ?_
  rintro r w7 (⟨_,v,rfl,hD⟩ | ⟨hno,_⟩)
  . have hb7:=hD.below
    obtain ⟨ng',s',m',e',rfl,hyy,hA2⟩:=id hD
    obtain ⟨so',sn',sc',rfl⟩:=hA2.num.shape
    have q0:=((bel_trans hA.below hb7).block w.heap.size (by rw [size1]; omega)).trans (heap_a1 _ _)
    have x0:=blkC q0 0 rfl
    have x1:=blkC q0 1 rfl
    have x2:=blkC q0 2 rfl
    have z0:=blkF q0 0
    have z1:=blkF q0 1
    have z2:=blkF q0 2
    go_wp2
    refine bodyPost_ret (v:=.tuple #[.agg #[.bool ng',.slice so' sn' sc',.int .i64 e'],.int .i64 0]) (by simp [results,Tryz.results149,go_sem,x0,x1,x2]) rfl ⟨_,rfl,?_⟩
    exact dans_res3 (g:=w.heap.size) hD hbw (Nat.le_refl _) (Nat.lt_of_lt_of_le (by rw [size1]; omega) hA.below.size) _ _ _
  . exact absurd hok hno
set_option maxRecDepth 100000 in
theorem value_no (ng:Bool) (M e:Int) (w:World) :
    Calls Tryz.prog 149 #[.bool ng,.int .i64 M,.int .i64 e,.bool false] w fun r w'=>r=.returned (.tuple #[zeroV,.int .i64 10])∧Below w.heap.size w w':=by
  go_enter Tryz.func149,Tryz.ntmps149
  go_wp2
  refine bodyPost_ret (v:=.tuple #[zeroV,.int .i64 10]) (by simp [results,Tryz.results149,go_sem,zeroV]) rfl ⟨rfl,?_⟩
  exact bel_alloc _ _
set_option maxRecDepth 100000 in
set_option maxHeartbeats 1000000 in
theorem dof_any (b:Int) (w:World) (L:Lay64 w) (hT:Tab w) :
    Calls Tryz.prog 141 #[.int .i64 b] w fun r w'=>∃ v er,r=.returned (.tuple #[v,.int .i64 er])∧Below w.heap.size w w'∧((pok b=true∧er=0∧DAns w w' (sg (pneg b) (pmag b) * pw (pexp b)) v)∨(pok b=false∧er=10∧v=zeroV)):=by
  have hVy:pok b=true->∀ W,Below w.heap.size w W->Calls Tryz.prog 149 #[.bool (pneg b),.int .i64 (pmag b),.int .i64 (pexp b),.bool true] W fun r w'=>∃ v,r=.returned (.tuple #[v,.int .i64 0])∧DAns W w' (sg (pneg b) (pmag b) * pw (pexp b)) v:=fun hp W hb=>by
    have hi:=pmag_in hp
    exact value_yes _ _ _ W (hT.keeps hb) (by omega) (by omega) (by omega) (by omega)
  have hP:=fun W hb=>bitsPartsA b W (L.keeps hb)
  generalize sg (pneg b) (pmag b) * pw (pexp b)=V at hVy ⊢
  generalize pneg b=ng at *
  generalize pmag b=mg at *
  generalize pexp b=ex at *
  clear L hT
  cases hp:pok b
  . rw [hp] at hP hVy
    go_enter Tryz.func141,Tryz.ntmps141
    go_wp2_with fail
    refine (hP _ (bel_alloc _ _)).mono ?_
    rintro r w1 ⟨rfl,hb1⟩
    go_wp2_with fail
    refine (value_no _ _ _ _).mono ?_
    unfold zeroV
    rintro r w2 ⟨rfl,hb2⟩
    have hbw:=bel_trans (bel_alloc w (.cells #[.bool false,.slice none 0 0,.int .i64 0] 26)) (bel_trans hb1 hb2)
    have q0:=((bel_trans hb1 hb2).block w.heap.size (by rw [size1]; omega)).trans (heap_a1 _ _)
    have x0:=blkC q0 0 rfl
    have x1:=blkC q0 1 rfl
    have x2:=blkC q0 2 rfl
    have z0:=blkF q0 0
    have z1:=blkF q0 1
    have z2:=blkF q0 2
    go_wp2
    refine bodyPost_ret (v:=.tuple #[zeroV,.int .i64 10]) (by simp [results,Tryz.results141,go_sem,x0,x1,x2,zeroV]) rfl ⟨_,_,rfl,?_,.inr ⟨by trivial,rfl,rfl⟩⟩
    exact bel_set3 hbw (Nat.le_refl _) _ _ _
  . rw [hp] at hP hVy
    go_enter Tryz.func141,Tryz.ntmps141
    go_wp2_with fail
    refine (hP _ (bel_alloc _ _)).mono ?_
    rintro r w1 ⟨rfl,hb1⟩
    have hbw:=bel_trans (bel_alloc w (.cells #[.bool false,.slice none 0 0,.int .i64 0] 26)) hb1
    go_wp2_with fail
    refine (hVy (by trivial) _ hbw).mono ?_
    rintro r w2 ⟨v,rfl,hD⟩
    obtain ⟨ng',s',m',e',rfl,hyy,hA2⟩:=id hD
    obtain ⟨so',sn',sc',rfl⟩:=hA2.num.shape
    have q0:=((bel_trans hb1 hD.below).block w.heap.size (by rw [size1]; omega)).trans (heap_a1 _ _)
    have x0:=blkC q0 0 rfl
    have x1:=blkC q0 1 rfl
    have x2:=blkC q0 2 rfl
    have z0:=blkF q0 0
    have z1:=blkF q0 1
    have z2:=blkF q0 2
    go_wp2
    refine bodyPost_ret (v:=.tuple #[.agg #[.bool ng',.slice so' sn' sc',.int .i64 e'],.int .i64 0]) (by simp [results,Tryz.results141,go_sem,x0,x1,x2]) rfl ⟨_,_,rfl,?_,.inl ⟨by trivial,rfl,?_⟩⟩
    . exact bel_set3 (bel_trans hbw hD.below) (Nat.le_refl _) _ _ _
    . exact dans_res3 (g:=w.heap.size) hD hbw (Nat.le_refl _) (Nat.lt_of_lt_of_le (by rw [size1]; omega) hb1.size) _ _ _
def bRung (way:Int) (ng:Bool):Int:=if rUp way ng true 3 then 9218868437227405312 else 9218868437227405311
def patS (ng:Bool) (r:Int):Int:=if ng then r - 9223372036854775808 else r
theorem or_inf:bits BinOp.or IntKind.i64 9218868437227405312 (-9223372036854775808)=-4503599627370496:=by decide +kernel
theorem or_most:bits BinOp.or IntKind.i64 9218868437227405311 (-9223372036854775808)=-4503599627370497:=by decide +kernel
theorem Env.keeps {w w':World} (h:Env w) (hb:Below w.heap.size w w'):Env w' :=
  ⟨⟨cell_keeps h.lays.a0 hb,cell_keeps h.lays.a1 hb,cell_keeps h.lays.a2 hb,trivial,trivial,trivial⟩,fun j hj=>cell_keeps (h.tab j hj) hb⟩
set_option maxRecDepth 100000 in
set_option maxHeartbeats 1000000 in
theorem beyond_any (way:Int) (hw:0 <= way∧way <= 3) (ng:Bool) (w:World) :
    Calls Tryz.prog 93 #[wayV way,.bool ng,.int .i64 9218868437227405312,.int .i64 (-9223372036854775808)] w fun e w'=>e=.returned (.int .i64 (patS ng (bRung way ng)))∧Below w.heap.size w w':=by
  have hF:=wraise_any way hw
  have hE:=wraise_enter way
  unfold wayV bRung
  generalize wayF way=F at hF hE ⊢
  have q0:=heap_alloc_new w (.cells #[.func (.func F) #[] #[]] 124)
  have k0:=blkC q0 0 rfl
  have o1:=or_inf
  have o2:=or_most
  obtain ⟨R,hR⟩:∃ R,rUp way ng true 3=R:=⟨_,rfl⟩
  have hFF:=hF ng true 3
  rw [hR] at hFF ⊢
  clear hR hF
  cases ng <;> cases R
  all_goals
    unfold patS
    go_enter Tryz.func93,Tryz.ntmps93
    go_wp2_with (first | (refine (hFF _).mono ?_; rintro _ _ ⟨rfl,rfl⟩))
    all_goals go_ret
    all_goals exact ⟨by simp,bel_alloc _ _⟩
def r64 (way:Int) (ng sd:Bool) (mag:Nat) (exp:Int) (cut:Bool):Int × Bool :=
  let E:=rE 53 (-1074) mag exp
  let u:=rU mag (E - exp)
  let left:=rL mag cut (E - exp)
  let U:=u + (if rUp way ng (decide (u % 2=1)) left then 1 else 0)
  let neg:=ng && (decide (0 < U) || sd)
  if jk 52 2047 (-1074) U E then (jp neg U E,decide (left ≠ 0)) else (patS neg (bRung way neg),true)
set_option maxRecDepth 100000 in
set_option maxHeartbeats 1000000 in
theorem binary64_any (way:Int) (hw:0 <= way∧way <= 3) (ng sd:Bool) (mag:Nat) (exp:Int) (cut:Bool) (w:World) (Ev:Env w) (hm:mag < 18446744073709551616) (he:-4500000 <= exp∧exp <= 4500000) :
    Calls Tryz.prog 71 #[valV ng mag exp cut sd,wayV way] w fun e w'=>e=.returned (.tuple #[.int .i64 (r64 way ng sd mag exp cut).1,.bool (r64 way ng sd mag exp cut).2])∧Below w.heap.size w w':=by
  have e64:(2:Nat) ^ 64=18446744073709551616:=by decide
  have e53:(2:Nat) ^ (53:Int).toNat=9007199254740992:=by decide
  have hE:-5000000 <= rE 53 (-1074) mag exp∧rE 53 (-1074) mag exp <= 5000000:=by
    have hbl:Lib.bitLen mag <= 64:=by
      by_cases h0:mag=0
      . rw [h0]; decide
      . exact (M.bitLen_spec mag (by omega) h0).2.2.2
    unfold rE
    omega
  have hu:rU mag (rE 53 (-1074) mag exp - exp) <= 9007199254740991:=by
    by_cases h0:mag=0
    . rw [h0]; unfold rU; split <;> simp
    . have:=(rU_bits (size:=53) (low:=-1074) (exp:=exp) (by decide) (by omega) h0).1
      rw [e53] at this
      omega
  have hUn:=fun W=>units_any way hw ng mag exp (rE 53 (-1074) mag exp) cut sd W hm hE (by omega) (by omega)
  have HR:r64 way ng sd mag exp cut=(let E:=rE 53 (-1074) mag exp
    let u:=rU mag (E - exp)
    let left:=rL mag cut (E - exp)
    let U:=u + (if rUp way ng (decide (u % 2=1)) left then 1 else 0)
    let neg:=ng && (decide (0 < U) || sd)
    if jk 52 2047 (-1074) U E then (jp neg U E,decide (left ≠ 0)) else (patS neg (bRung way neg),true)):=rfl
  simp only at HR
  have hEE:rE 53 (-1074) mag exp=rE 53 (-1074) mag exp:=rfl
  obtain ⟨E,hEq⟩:∃ E,rE 53 (-1074) mag exp=E:=⟨_,rfl⟩
  rw [hEq] at hE hu hUn HR
  obtain ⟨left,hleft⟩:∃ l,rL mag cut (E - exp)=l:=⟨_,rfl⟩
  rw [hleft] at hUn HR
  obtain ⟨U,hU⟩:∃ U,rU mag (E - exp) + (if rUp way ng (decide (rU mag (E - exp) % 2=1)) left then 1 else 0)=U:=⟨_,rfl⟩
  rw [hU] at hUn HR
  have hU2:U <= 9007199254740992:=by rw [<- hU]; split <;> omega
  obtain ⟨neg,hneg⟩:∃ n,(ng && (decide (0 < U) || sd))=n:=⟨_,rfl⟩
  have hFl:=fun W=>float_F (wayF way) ng mag exp 53 (-1074) cut sd U E (decide (left ≠ 0)) W hm he (by omega) (by omega) hEq (by omega) hUn
  rw [hneg] at hFl HR
  have hJ:=fun W (EW:Env W)=>bitsJoin neg (U:Int) E W EW (by unfold rng; omega) (by unfold rng; omega)
  have hB:=fun W=>beyond_any way hw neg W
  obtain ⟨other,hoth⟩:∃ o,decide (left ≠ 0)=o:=⟨_,rfl⟩
  rw [hoth] at hFl HR
  obtain ⟨fin,hfin⟩:∃ f,jk 52 2047 (-1074) (U:Int) E=f:=⟨_,rfl⟩
  obtain ⟨pt,hpt⟩:∃ p,jp neg (U:Int) E=p:=⟨_,rfl⟩
  rw [hpt] at hJ HR
  rw [hfin] at hJ HR
  obtain ⟨by1,hby⟩:∃ b,patS neg (bRung way neg)=b:=⟨_,rfl⟩
  rw [hby] at hB HR
  rw [HR]
  have hUi:((U:Nat):Int)=((U:Nat):Int):=rfl
  have hb2:=bel_alloc2 w (.cells #[.bool ng,.int .u64 mag,.int .i64 exp,.bool cut,.bool sd] 104) (.cells #[.func (.func (wayF way)) #[] #[]] 124)
  have q1:=heap_b2 w (.cells #[.bool ng,.int .u64 mag,.int .i64 exp,.bool cut,.bool sd] 104) (.cells #[.func (.func (wayF way)) #[] #[]] 124)
  have k1:=blkC q1 0 rfl
  have HEV:Hid (Env w):=Ev
  clear Ev HR hUn hEq hleft hU hneg hoth hfin hpt hby hU2 hu hE hEE hUi e64 e53
  unfold wayV valV at *
  generalize wayF way=F at *
  go_enter Tryz.func71,Tryz.ntmps71
  go_wp2_with fail
  refine (hFl _).mono ?_
  rintro _ w1 ⟨rfl,hb1⟩
  have hbw:=bel_trans hb2 hb1
  have p1:=(hb1.block _ (Array.getElem?_eq_some_iff.1 q1).1).trans q1
  have k2:=blkC p1 0 rfl
  clear hFl hb2 hb1 q1 k1
  go_wp2_with fail
  refine (hJ _ (HEV.out.keeps hbw)).mono ?_
  rintro _ w2 ⟨rfl,hg⟩
  have hb2:=hg.be
  have hbw2:=bel_trans hbw hb2
  have p2:=(hb2.block _ (Array.getElem?_eq_some_iff.1 p1).1).trans p1
  have k3:=blkC p2 0 rfl
  clear hJ hg p1 p2 k2 hb2 hbw
  cases fin
  . go_wp2_with fail
    refine (hB _).mono ?_
    rintro _ w3 ⟨rfl,hb3⟩
    go_wp2
    all_goals go_ret2
    all_goals exact ⟨by simp,bel_trans hbw2 hb3⟩
  . go_wp2
    all_goals go_ret2
    all_goals exact ⟨by simp,hbw2⟩
theorem Num.parts {w:World} {v:Value} {V:Int} (h:Num w v V) {k:Nat} (hV:V < P k):∃ ao n cap d,v=.slice ao n cap∧Row w ao n cap d∧Nrm d n∧val d n=V∧n <= k:=by
  obtain ⟨ao,n,cap,rfl⟩:=h.shape
  have hl:=h.len hV
  obtain ⟨ao',n',cap',d,e,hR,h2,h3⟩:=h
  simp only [Value.slice.injEq] at e
  obtain ⟨rfl,rfl,rfl⟩:=e
  exact ⟨ao,n,cap,d,rfl,hR,h2,h3,hl⟩
theorem low_mod {V l:Int} (h:LowA V l) (h0:0 < V) (k:Nat):decide (l < (k:Int))=decide (V % 2 ^ k ≠ 0):=by
  obtain ⟨j,rfl,q,hq⟩:=lowA_pos h h0
  by_cases hjk:j < k
  . rw [decide_eq_true (by omega)]
    refine (decide_eq_true ?_).symm
    intro hz
    obtain ⟨d,hd⟩:∃ d,k=j + 1 + d:=⟨k - j - 1,by omega⟩
    have h1:(2:Int) ^ k ∣ V:=Int.dvd_of_emod_eq_zero hz
    obtain ⟨c,hc⟩:=h1
    rw [hq,hd,Int.pow_add,Int.pow_succ] at hc
    have hp:=two_pos j
    have e:(2:Int) ^ j * (2 * q + 1)=2 ^ j * (2 * (2 ^ d * c)):=by
      rw [Int.mul_comm,hc]
      simp only [Int.mul_assoc]
    have:=Int.eq_of_mul_eq_mul_left (by omega) e
    omega
  . rw [decide_eq_false (by omega)]
    refine (decide_eq_false ?_).symm
    intro hz
    apply hz
    obtain ⟨d,hd⟩:∃ d,j=k + d:=⟨j - k,by omega⟩
    rw [hq,hd,Int.pow_add,Int.mul_comm,Int.mul_assoc]
    exact Int.mul_emod_right _ _
set_option maxRecDepth 100000 in
set_option maxHeartbeats 1000000 in
theorem scaled_low (ao:Option Addr) (n ca:Nat) (a:Nat->Int) (k:Nat) (w:World) (ha:Row w ao n ca a) (na:Nrm a n) (hn:n <= 5000) (hk0:0 < k) (hk:k <= 1000000) (h0:0 < val a n) (hT:Tab w) :
    Calls Tryz.prog 117 #[.slice ao n ca,.int .i64 (-(k:Int))] w fun e w'=>∃ v,e=.returned (.tuple #[v,.bool (decide (val a n % 2 ^ k ≠ 0))])∧Ans w w' (val a n / 2 ^ k) v:=by
  have CL:Hid (∀ W,Below w.heap.size w W->_):=fun W hb=>lower_any ao n ca k a W (ha.keeps hb) na.1 (by omega) (by omega)
  have CW:Hid (∀ W,Below w.heap.size w W->_):=fun W hb=>lowest_any ao n ca a W (ha.keeps hb) na.1 (by omega) (hT.keeps hb)
  have HM:Hid (∀ l,LowA (val a n) l->decide (l < (k:Int))=decide (val a n % 2 ^ k ≠ 0)):=fun l h=>low_mod h h0 k
  generalize decide (val a n % 2 ^ k ≠ 0)=R at HM ⊢
  generalize val a n / 2 ^ k=Q at CL ⊢
  have w1:IntKind.i64.wrap (k:Int)=(k:Int):=by rw [wrap_i64_eq]; omega
  go_enter Tryz.func117,Tryz.ntmps117
  go_wp2_with fail
  refine (CL.out _ (bel_refl _)).mono ?_
  rintro _ w2 ⟨v,rfl,hA⟩
  have hb2:=hA.below
  have HA:Hid (Ans w w2 Q v):=hA
  obtain ⟨so,sn,sc,rfl⟩:=hA.num.shape
  clear hA CL
  go_wp2_with fail
  refine (CW.out _ hb2).mono ?_
  rintro _ w3 ⟨l,rfl,hl,rfl⟩
  have hr:=HM.out l hl
  go_wp2
  all_goals refine bodyPost_ret (v:=.tuple #[.slice so sn sc,.bool R]) (by simp [results,Tryz.results117,go_sem]) rfl ⟨_,rfl,HA.out⟩
set_option maxRecDepth 100000 in
set_option maxHeartbeats 1000000 in
theorem scaled_zero (ao:Option Addr) (n ca:Nat) (a:Nat->Int) (w:World) (ha:Row w ao n ca a) (na:Nrm a n) (hn:n <= 5000) :
    Calls Tryz.prog 117 #[.slice ao n ca,.int .i64 0] w fun e w'=>∃ v,e=.returned (.tuple #[v,.bool false])∧Ans w w' (val a n) v:=by
  have CR:Hid (Calls Tryz.prog 134 #[.slice ao n ca,.int .i64 0] w fun e w'=>∃ v,e=.returned v∧Ans w w' (val a n) v):=by
    have h:=raise_any ao n ca 0 a w ha na.1 (by omega) (by omega)
    rw [Int.pow_zero,Int.mul_one] at h
    exact h
  go_enter Tryz.func117,Tryz.ntmps117
  go_wp2_with fail
  refine CR.out.mono ?_
  rintro _ w2 ⟨v,rfl,hA⟩
  have HA:Hid (Ans w w2 (val a n) v):=hA
  obtain ⟨so,sn,sc,rfl⟩:=hA.num.shape
  clear hA CR
  go_wp2
  all_goals refine bodyPost_ret (v:=.tuple #[.slice so sn sc,.bool false]) (by simp [results,Tryz.results117,go_sem]) rfl ⟨_,rfl,HA.out⟩
theorem wr5 (W:World) (g:Nat) (a b c d e:Value):Wr g W (((((W.setCell ⟨g,0,none⟩ a).setCell ⟨g,1,none⟩ b).setCell ⟨g,2,none⟩ c).setCell ⟨g,3,none⟩ d).setCell ⟨g,4,none⟩ e):=(((((Wr.refl g W).setCell 0 a).setCell 1 b).setCell 2 c).setCell 3 d).setCell 4 e
def vK (M:Int):Nat:=blen M - 62
theorem vK_small {M:Int} (h:0 <= M):0 <= M / 2 ^ vK M∧M / 2 ^ vK M < 4611686018427387904:=by
  have hp:=two_pos (vK M)
  refine ⟨Int.ediv_nonneg h (by omega),?_⟩
  have h1:=blen_lt M
  have h2:(2:Int) ^ blen M <= 2 ^ (62 + vK M):=two_le (by unfold vK; omega)
  have e:(2:Int) ^ (62 + vK M)=4611686018427387904 * 2 ^ vK M:=by rw [Int.pow_add]; rfl
  exact Int.ediv_lt_of_lt_mul hp (by omega)
theorem blen_nrm {a:Nat->Int} {n:Nat} (na:Nrm a n):blen (val a n) <= 30 * n:=by
  cases n with
  | zero=>show blen 0 <= _; rw [blen_zero]; omega
  | succ m=>
    rw [blen_val na]
    have h:blen (a m) <= 30:=blen_le (by show a m < 1073741824; exact (na.1 m (by omega)).2)
    omega
set_option maxRecDepth 100000 in
set_option maxHeartbeats 2000000 in
theorem valueOf_any (ng:Bool) (ao:Option Addr) (n ca:Nat) (a:Nat->Int) (e:Int) (w:World) (ha:Row w ao n ca a) (na:Nrm a n) (hn:n <= 5000) (he:-1100000 <= e∧e <= 1100000) (hT:Tab w) :
    Calls Tryz.prog 94 #[.agg #[.bool ng,.slice ao n ca,.int .i64 e]] w fun r w'=>r=.returned (valV ng (val a n / 2 ^ vK (val a n)).toNat (e + vK (val a n)) (decide (val a n % 2 ^ vK (val a n) ≠ 0)) false)∧Below w.heap.size w w':=by
  have hv0:=val_nonneg na.1
  have hbl:blen (val a n) <= 150000:=by have:=blen_nrm na; omega
  have CB:Hid (∀ W,Below w.heap.size w W->_):=fun W hb=>bitLength_any ao n ca a W (ha.keeps hb) na (by omega)
  obtain ⟨k,hk⟩:∃ k,vK (val a n)=k:=⟨_,rfl⟩
  have hsm:=vK_small hv0
  rw [hk] at hsm ⊢
  have CS:Hid (∀ W,Below w.heap.size w W->Calls Tryz.prog 117 #[.slice ao n ca,.int .i64 (-(k:Int))] W fun e w'=>∃ v,e=.returned (.tuple #[v,.bool (decide (val a n % 2 ^ k ≠ 0))])∧Ans W w' (val a n / 2 ^ k) v):=fun W hb=>by
    by_cases h0:k=0
    . subst h0
      have h:=scaled_zero ao n ca a W (ha.keeps hb) na hn
      simpa using h
    . have hp:0 < val a n:=by
        rcases Int.lt_or_eq_of_le hv0 with h | h
        . exact h
        . exfalso; rw [<- h] at hk; apply h0; rw [<- hk]; decide
      exact scaled_low ao n ca a k W (ha.keeps hb) na hn (by omega) (by unfold vK at hk; omega) hp (hT.keeps hb)
  have hbk:min (62 - (blen (val a n):Int)) 0=-(k:Int):=by unfold vK at hk; omega
  obtain ⟨B,hB⟩:∃ B:Int,(blen (val a n):Int)=B:=⟨_,rfl⟩
  have hB0:0 <= B∧B <= 150000:=by omega
  rw [hB] at CB hbk
  have hk2:k <= 150000:=by unfold vK at hk; omega
  generalize decide (val a n % 2 ^ k ≠ 0)=R at CS ⊢
  obtain ⟨Q,hQ⟩:∃ Q:Nat,val a n / 2 ^ k=(Q:Int):=Int.eq_ofNat_of_zero_le hsm.1
  rw [hQ] at CS hsm ⊢
  rw [Int.toNat_natCast]
  have CM:Hid (∀ (W':World) so sn sc,Num W' (.slice so sn sc) (Q:Int)->Calls Tryz.prog 118 #[.slice so sn sc] W' fun e w'=>e=.returned (.int .i64 (Q:Int))∧w'=W'):=fun W' so sn sc hA=>by
    obtain ⟨ao',n',ca',d',hs,hR,hN,hV,hl⟩:=hA.parts (k:=3) (by rw [show P 3=1237940039285380274899124224 by decide]; omega)
    simp only [Value.slice.injEq] at hs
    obtain ⟨rfl,rfl,rfl⟩:=hs
    rw [<- hV]
    exact small_any _ _ _ _ _ hR hN.1 hl (by omega)
  have w1:IntKind.i64.wrap (62 - B)=62 - B:=by rw [wrap_i64_eq]; omega
  have w2:IntKind.i64.wrap (e + k)=e + k:=by rw [wrap_i64_eq]; omega
  have w3:IntKind.u64.wrap (Q:Int)=(Q:Int):=by rw [IntKind.wrap_u64]; omega
  have hmin:∀ (ts:Array TypeId) (t:TypeId) (x y:Int) (w:World),(Builtin.min_ ts t #[.int .i64 x,.int .i64 y]).run Tryz.prog w=.ok (.int .i64 (min x y)) w:=fun ts t x y w=>by rw [run_min_int2]; congr 2; omega
  have q0:=heap_a2 w (.cells #[.bool ng,.slice ao n ca,.int .i64 e] 26) (.cells #[.bool false,.int .u64 0,.int .i64 0,.bool false,.bool false] 104)
  have q1:=heap_b2 w (.cells #[.bool ng,.slice ao n ca,.int .i64 e] 26) (.cells #[.bool false,.int .u64 0,.int .i64 0,.bool false,.bool false] 104)
  have hb1:=bel_alloc2 w (.cells #[.bool ng,.slice ao n ca,.int .i64 e] 26) (.cells #[.bool false,.int .u64 0,.int .i64 0,.bool false,.bool false] 104)
  clear hQ hk hB hbl hv0 hsm hT
  unfold valV
  go_enter Tryz.func94,Tryz.ntmps94
  go_wp2_with fail
  generalize (w.alloc (.cells #[.bool ng,.slice ao n ca,.int .i64 e] 26)).alloc (.cells #[.bool false,.int .u64 0,.int .i64 0,.bool false,.bool false] 104)=wx at q0 q1 hb1 ⊢
  refine (CB.out _ hb1).mono ?_
  rintro _ _ ⟨rfl,rfl⟩
  have k1:=blkC q0 1 rfl
  go_wp2_with fail
  refine (CS.out _ hb1).mono ?_
  rintro _ w4 ⟨v,rfl,hA⟩
  have hb4:=hA.below
  obtain ⟨so,sn,sc,rfl⟩:=hA.num.shape
  have CM1:Hid (Calls Tryz.prog 118 #[.slice so sn sc] w4.drew fun e w'=>e=.returned (.int .i64 (Q:Int))∧w'=w4.drew):=CM.out w4.drew so sn sc (hA.num.keeps (bel_refl w4).drew)
  have hbw:=bel_trans hb1 hb4
  have p0:=(hb4.block _ (Array.getElem?_eq_some_iff.1 q0).1).trans q0
  have p1:=(hb4.block _ (Array.getElem?_eq_some_iff.1 q1).1).trans q1
  clear CB CS k1 hA CM
  have c0:=blkC p0 0 rfl
  have c2:=blkC p0 2 rfl
  have x0:=blkC p1 0 rfl
  have x1:=blkC p1 1 rfl
  have x2:=blkC p1 2 rfl
  have x3:=blkC p1 3 rfl
  have x4:=blkC p1 4 rfl
  have z0:=blkF p1 0
  have z1:=blkF p1 1
  have z2:=blkF p1 2
  have z3:=blkF p1 3
  have z4:=blkF p1 4
  go_wp2_with fail
  have c1:=blkC p0 1 rfl
  go_region_with (go_at_call 118; refine CM1.out.mono ?_; rintro _ _ ⟨rfl,rfl⟩)
  all_goals go_wp2
  all_goals refine bodyPost_ret (v:=.agg #[.bool ng,.int .u64 Q,.int .i64 (e + k),.bool R,.bool false]) (by simp [results,Tryz.results94,go_sem,x0,x1,x2,x3,x4]) rfl ⟨rfl,?_⟩
  all_goals exact ((wr5 w4 (w.heap.size + 1) _ _ _ _ _).below hbw hbw.size (Nat.le_succ _)).drew
def scV (A k:Int):Int:=if 0 <= k then A * 2 ^ k.toNat else A / 2 ^ (-k).toNat
def scC (A k:Int):Bool:=if 0 <= k then false else decide (A % 2 ^ (-k).toNat ≠ 0)
def qK (A B:Int):Int:=62 + (blen B:Int) - (blen A:Int)
def qR64 (way:Int) (a b:NumR):Int × Bool:=r64 way (a.ng != b.ng) false (scV (val a.d a.n) (qK (val a.d a.n) (val b.d b.n)) / val b.d b.n).toNat (a.e - b.e - qK (val a.d a.n) (val b.d b.n)) (scC (val a.d a.n) (qK (val a.d a.n) (val b.d b.n)) || decide (scV (val a.d a.n) (qK (val a.d a.n) (val b.d b.n)) % val b.d b.n ≠ 0))
set_option maxRecDepth 100000 in
set_option maxHeartbeats 1000000 in
theorem operate_near (F G:Value) (hF:∃ f,F=.func f #[] #[]) (hG:∃ f,G=.func f #[] #[]) (near:Int) (R:Value) (o:Option Addr) (n c:Nat) (w:World) :
    Calls Tryz.prog 126 #[.agg #[F,G],.int .i64 near,.int .i64 0,R,.slice o n c] w fun e w'=>e=.returned (.tuple #[.int .i64 near,.int .i64 0])∧Below w.heap.size w w':=by
  obtain ⟨f,rfl⟩:=hF
  obtain ⟨g,rfl⟩:=hG
  have CW:=fun W=>wayOf_any 0 W
  unfold wayV wayF at CW
  simp only [if_true] at CW
  have hst:∀ (p:Addr) (F:Nat) (m:Mode) (w:World),(store p (.func (.func F) #[] #[]) m).run Tryz.prog w=stored Tryz.prog w p (.func (.func F) #[] #[]) m:=fun p F m w=>run_store _ w p _ m rfl
  go_enter Tryz.func126,Tryz.ntmps126
  go_wp2_with fail
  refine (CW _).mono ?_
  rintro _ w2 ⟨rfl,hb2⟩
  have hb1:=bel_alloc w (.cells #[.func f #[] #[],.func g #[] #[]] 157)
  have hbw:=bel_trans hb1 hb2
  have q1:=heap_alloc_new w2 (.cells #[.nilFunc] 124)
  have y0:=blkC q1 0 rfl
  have y1:=blkF q1 0
  clear CW
  go_wp2
  all_goals refine bodyPost_ret (v:=.tuple #[.int .i64 near,.int .i64 0]) (by simp [results,Tryz.results126,go_sem]) rfl ⟨rfl,?_⟩
  all_goals exact bel_trans hbw (bel_alloc _ _)
set_option maxRecDepth 100000 in
theorem double_any (w:World):Calls Tryz.prog 125 #[] w fun e w'=>e=.returned (.agg #[.func (.func 141) #[] #[],.func (.func 71) #[] #[]])∧Below w.heap.size w w':=by
  have hmf:∀ (fn:Fn) (first cap:Array Value) (w:World),(Instr.makeFunc fn first cap).run Tryz.prog w=.ok (.func fn first cap) w:=fun _ _ _ _=>rfl
  have hst:∀ (p:Addr) (F:Nat) (m:Mode) (w:World),(store p (.func (.func F) #[] #[]) m).run Tryz.prog w=stored Tryz.prog w p (.func (.func F) #[] #[]) m:=fun p F m w=>run_store _ w p _ m rfl
  have q1:=heap_alloc_new w (.cells #[.nilFunc,.nilFunc] 157)
  have x0:=blkC q1 0 rfl
  have x1:=blkC q1 1 rfl
  have z0:=blkF q1 0
  have z1:=blkF q1 1
  go_enter Tryz.func125,Tryz.ntmps125
  go_wp2
  all_goals refine bodyPost_ret (v:=.agg #[.func (.func 141) #[] #[],.func (.func 71) #[] #[]]) (by simp [results,Tryz.results125,go_sem]) rfl ⟨rfl,?_⟩
  all_goals exact bel_alloc _ _
theorem run_from64 (n:Int) (w:World):(callFunc 69 #[.int .u64 n]).run Tryz.prog w=.ok (.value (.float .f64 n.toNat)) w:=by
  rw [run_callFunc_extern Tryz.func69 (by kernel_rfl) (by kernel_rfl) (by kernel_rfl) (e:=Extern.MathFloatBits.float64frombits) (by kernel_rfl)]
  rfl
theorem ret_float {k:FloatKind} {a b:Nat} (h:a=b):Ending.returned (.float k a)=.returned (.float k b):=by rw [h]
theorem bitsFloat (b:Int) (w:World) :
    Calls Tryz.prog 47 #[.int .i64 b] w fun e w'=>e=.returned (.float .f64 (wd b))∧w'=w:=by
  have hd:=run_from64
  go_enter Tryz.func47,Tryz.ntmps47
  go_wp2
  go_ret
  exact ⟨ret_float (by rw [IntKind.wrap_u64]; rfl),rfl⟩
end Go.Proofs.YtfgapefckpnjjaaGreatDoor
