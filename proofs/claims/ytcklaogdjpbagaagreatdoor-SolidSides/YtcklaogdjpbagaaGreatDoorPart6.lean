/- Parts of the proof. -/
import Derived.Test.YtcklaogdjpbagaaGreatDoorPart5
import Derived.Test.YtcklaogdjpbagaaGreatDoorPart4
import Derived.Test.YtcklaogdjpbagaaGreatDoorPart3
import Derived.Deep.LoopGhost
import Derived.Deep.RegionWith
import Derived.Laws.Externs
import Derived.Laws.Cover2
import Derived.Test.YtcklaogdjpbagaaGreatDoorPart2
import Derived.Test.YtcklaogdjpbagaaGreatDoorPart1
import Derived.Deep.RegionHeld3
set_option linter.unusedVariables false
set_option linter.unusedSimpArgs false
namespace Go.Proofs.YtcklaogdjpbagaaGreatDoor
open Go Go.RowKit Go.Proofs.YtcklaogdjpbagaaGreatDoor.M
theorem rtrim_out {B:Nat} {w:World} {v:Value} {n:Nat} {d:Nat->Int} (h:Out B w v n d) :
    Calls Tryz.prog 117 #[v] w fun e w'=>∃ v',e=.returned v'∧∃ t,t<=n∧Top d t∧(∀ i,t<=i->i<n->d i=0)∧Out B w v' t d∧w'=w:=by
  have h0:=h
  rcases h.2 with ⟨rfl,rfl⟩ | ⟨g,cap,cur,rfl,hb,hg,hn,hm,hs,ht⟩
  . go_enter Tryz.func117,Tryz.ntmps117
    go_wp2
    go_loop [3] (fun i=>i=.int .i64 0) (fun i=>0)
    case atStart=>rfl
    case round=>
      subst hrel
      go_wp2
      go_ret
      exact ⟨_,rfl,.inl rfl,Out.nil _ _ _,rfl⟩
  . obtain ⟨ao,c,e,hR⟩:=h0.row
    simp only [Value.slice.injEq] at e
    obtain ⟨rfl,_,rfl⟩:=e
    refine (rtrim_any g n cap d w hR).mono ?_
    rintro e w' ⟨t,h1,h2,h3,rfl,rfl⟩
    exact ⟨_,rfl,t,h1,h2,h3,h0.cut h1,rfl⟩
theorem rtrim_ans {w0 w:World} {v:Value} {n:Nat} {d:Nat->Int} (h:Out w0.heap.size w v n d) (hd:Dig d n) (hb:Below w0.heap.size w0 w) :
    Calls Tryz.prog 117 #[v] w fun e w'=>∃ v',e=.returned v'∧Ans w0 w (val d n) v'∧w'=w:=by
  refine (rtrim_out h).mono ?_
  rintro e w' ⟨v',rfl,t,ht,htop,hz,hO,rfl⟩
  obtain ⟨hN,hv⟩:=nrm_of_top hd ht htop hz
  exact ⟨v',rfl,⟨t,d,hO,hN,hv,hb⟩,rfl⟩
set_option maxHeartbeats 1000000 in
theorem rcmp_any (ao bo:Option Addr) (n m ca cb:Nat) (a b:Nat->Int) (w:World) (ha:Row w ao n ca a) (hb:Row w bo m cb b) (na:Nrm a n) (nb:Nrm b m) :
    Calls Tryz.prog 96 #[.slice ao n ca,.slice bo m cb] w fun e w'=>e=.returned (.int .i64 (ord (val a n) (val b m)))∧Below w.heap.size w w':=by
  have hla:=ha.le
  have hma:=ha.max
  have hlb:=hb.le
  have hmb:=hb.max
  by_cases hnm:n=m
  . subst hnm
    go_enter Tryz.func96,Tryz.ntmps96
    go_wp2
    go_loopw [5] (fun i wr=>∃ k:Nat,k<=n∧i=.int .i64 ((k:Int)-1)∧Hid (∀ i,k<=i->i<n->a i=b i)∧Below w.heap.size w wr) (fun i _=>(intOf i+1).toNat)
    case atStart=>exact ⟨n,Nat.le_refl _,rfl,fun i _ _=>by omega,bel_refl _⟩
    case round=>
      obtain ⟨k,hk,rfl,HS,hbw⟩:=hrel
      by_cases hlt:0<k
      . obtain ⟨j,rfl⟩:∃ j,k=j+1:=⟨k-1,by omega⟩
        have ej:((j+1:Nat):Int)-1=j:=by omega
        obtain ⟨ba,fa,rfl,hba,hca⟩:=ha.spot (by omega)
        obtain ⟨bb,fb,rfl,hbb,hcb⟩:=hb.spot (by omega)
        have c1:=(hbw.cell (p:=⟨ba,fa+j,none⟩) hba).trans (hca j (by omega))
        have c2:=(hbw.cell (p:=⟨bb,fb+j,none⟩) hbb).trans (hcb j (by omega))
        rw [ej]
        by_cases h1:a j<b j
        . go_wp2
          go_quiet (fail)
          go_wp2
          go_ret
          exact ⟨ret_int ((ord_lt h1).symm.trans (ord_top na.1 nb.1 (show j<n by omega) (fun i x y=>HS.out i (by omega) y) (by omega))),bDrewN hbw _⟩
        . by_cases h2:b j<a j
          . go_wp2
            go_quiet (fail)
            go_wp2
            go_quiet (fail)
            go_wp2
            go_ret
            exact ⟨ret_int ((ord_gt h2).symm.trans (ord_top na.1 nb.1 (show j<n by omega) (fun i x y=>HS.out i (by omega) y) (by omega))),bDrewN (bDrewN hbw _) _⟩
          . go_wp2
            go_quiet (fail)
            go_wp2
            go_quiet (fail)
            go_wp2
            go_roundw
            case rel=>exact ⟨j,by omega,by go_num,fun i x y=>by by_cases e:i=j; (· rw [e]; omega); (· exact HS.out i (by omega) y),bDrewN hbw _⟩
            case measure=>simp [intOf]; try omega
      . obtain rfl:k=0:=by omega
        go_wp2
        go_ret
        exact ⟨ret_int (ord_eq (val_congr fun i hi=>HS.out i (by omega) hi)).symm,hbw⟩
  . by_cases hlt:n<m
    . go_enter Tryz.func96,Tryz.ntmps96
      go_wp2
      go_ret
      exact ⟨ret_int (ord_lt (nrm_lt na.1 nb hlt)).symm,bel_refl _⟩
    . go_enter Tryz.func96,Tryz.ntmps96
      go_wp2
      go_ret
      exact ⟨ret_int (ord_gt (nrm_lt nb.1 na (by omega))).symm,bel_refl _⟩
set_option maxHeartbeats 2000000 in
theorem rsub_any (ao bo:Option Addr) (n m ca cb:Nat) (a b:Nat->Int) (w:World) (ha:Row w ao n ca a) (hb:Row w bo m cb b) (na:Nrm a n) (nb:Nrm b m) (hn:n<=100000) (hle:val b m<=val a n) :
    Calls Tryz.prog 97 #[.slice ao n ca,.slice bo m cb] w fun e w'=>∃ v,e=.returned v∧Ans w w' (val a n-val b m) v:=by
  have hla:=ha.le
  have hma:=ha.max
  have hlb:=hb.le
  have hmb:=hb.max
  have da:=na.1
  have db:=nb.1
  have hmn:m<=n:=nrm_le_len nb da hle
  have HLE:Hid (val b m<=val a n):=hle
  clear hle
  go_enter Tryz.func97,Tryz.ntmps97
  go_wp2
  go_loopw [5,6,7] (fun l c i wr=>∃ (k:Nat) (q:Int) (r:Nat->Int),k<=n∧i=.int .i64 k∧c=.int .i64 q∧0<=q∧q<=1∧Out w.heap.size wr l k r∧Dig r k∧Hid (val r k-q*P k=val (ext a n) k-val (ext b m) k)∧Below w.heap.size w wr) (fun _ _ i _=>n-(intOf i).toNat)
  case atStart=>exact ⟨0,0,fun _=>0,Nat.zero_le _,rfl,rfl,by omega,by omega,Out.nil _ _ _,fun i hi=>by omega,by show _=_; rfl,bel_refl _⟩
  case round=>
    obtain ⟨k,q,r,hk,rfl,rfl,hq0,hq1,hO,hD,HV,hbw⟩:=hrel
    by_cases hkn:k<n
    . obtain ⟨ba,fa,rfl,hba,hca⟩:=ha.spot (by omega)
      have c1:=(hbw.cell (p:=⟨ba,fa+k,none⟩) hba).trans (hca k hkn)
      have dk:=da k hkn
      by_cases hkm:k<m
      . obtain ⟨bb,fb,rfl,hbb,hcb⟩:=hb.spot (by omega)
        have c2:=(hbw.cell (p:=⟨bb,fb+k,none⟩) hbb).trans (hcb k hkm)
        have dbk:=db k hkm
        have HX:Hid (-q+(ext a n k-ext b m k)=a k-q-b k):=by show _=_; rw [ext_lt a hkn,ext_lt b hkm]; omega
        by_cases hneg:a k-q-b k<0
        . go_wp2_with (at_builtin; refine wpList_app rfl _ _ rfl w.heap.size _ k r rfl (hO.stays (bel_alloc _ _)) _ 1 1 (fun _=>(a k-q-b k+1073741824)) rfl (row1 _ _ rfl) (by omega) (by have:=hbw.size; simp; omega) ?_; intro v' w1 hO1 hg1)
          have hb1:Below w.heap.size w w1:=(hbw.alloc hbw.size _).grown hg1 (by have:=hbw.size; simp; omega) (own_ge hO)
          have hs:=sum_step (c:=-q) (x:=ext a n k-ext b m k) (r:=r) (k:=k) (V:=val (ext a n) k-val (ext b m) k) (by have:=HV.out; rw [Int.neg_mul]; omega)
          rw [show -q+(ext a n k-ext b m k)=a k-q-b k from HX.out,show (a k-q-b k) % 1073741824=(a k-q-b k+1073741824) by omega,show (a k-q-b k)/1073741824=-1 by omega] at hs
          go_roundw
          case rel=>exact ⟨k+1,1,upd r k (a k-q-b k+1073741824),by omega,by go_num,rfl,by omega,by omega,hO1.congr (cat_upd r k _),dig_upd2 hD (by omega),by show _=_; rw [val_succ (ext a n),val_succ (ext b m)]; rw [Int.sub_mul] at hs; omega,hb1⟩
          case measure=>simp [intOf]; omega
        . go_wp2_with (at_builtin; refine wpList_app rfl _ _ rfl w.heap.size _ k r rfl (hO.stays (bel_alloc _ _)) _ 1 1 (fun _=>(a k-q-b k)) rfl (row1 _ _ rfl) (by omega) (by have:=hbw.size; simp; omega) ?_; intro v' w1 hO1 hg1)
          have hb1:Below w.heap.size w w1:=(hbw.alloc hbw.size _).grown hg1 (by have:=hbw.size; simp; omega) (own_ge hO)
          have hs:=sum_step (c:=-q) (x:=ext a n k-ext b m k) (r:=r) (k:=k) (V:=val (ext a n) k-val (ext b m) k) (by have:=HV.out; rw [Int.neg_mul]; omega)
          rw [show -q+(ext a n k-ext b m k)=a k-q-b k from HX.out,show (a k-q-b k) % 1073741824=(a k-q-b k) by omega,show (a k-q-b k)/1073741824=-0 by omega] at hs
          go_roundw
          case rel=>exact ⟨k+1,0,upd r k (a k-q-b k),by omega,by go_num,rfl,by omega,by omega,hO1.congr (cat_upd r k _),dig_upd2 hD (by omega),by show _=_; rw [val_succ (ext a n),val_succ (ext b m)]; rw [Int.sub_mul] at hs; omega,hb1⟩
          case measure=>simp [intOf]; omega
      . have HX:Hid (-q+(ext a n k-ext b m k)=a k-q):=by show _=_; rw [ext_lt a hkn,ext_ge b (by omega)]; omega
        by_cases hneg:a k-q<0
        . go_wp2_with (at_builtin; refine wpList_app rfl _ _ rfl w.heap.size _ k r rfl (hO.stays (bel_alloc _ _)) _ 1 1 (fun _=>(a k-q+1073741824)) rfl (row1 _ _ rfl) (by omega) (by have:=hbw.size; simp; omega) ?_; intro v' w1 hO1 hg1)
          have hb1:Below w.heap.size w w1:=(hbw.alloc hbw.size _).grown hg1 (by have:=hbw.size; simp; omega) (own_ge hO)
          have hs:=sum_step (c:=-q) (x:=ext a n k-ext b m k) (r:=r) (k:=k) (V:=val (ext a n) k-val (ext b m) k) (by have:=HV.out; rw [Int.neg_mul]; omega)
          rw [show -q+(ext a n k-ext b m k)=a k-q from HX.out,show (a k-q) % 1073741824=(a k-q+1073741824) by omega,show (a k-q)/1073741824=-1 by omega] at hs
          go_roundw
          case rel=>exact ⟨k+1,1,upd r k (a k-q+1073741824),by omega,by go_num,rfl,by omega,by omega,hO1.congr (cat_upd r k _),dig_upd2 hD (by omega),by show _=_; rw [val_succ (ext a n),val_succ (ext b m)]; rw [Int.sub_mul] at hs; omega,hb1⟩
          case measure=>simp [intOf]; omega
        . go_wp2_with (at_builtin; refine wpList_app rfl _ _ rfl w.heap.size _ k r rfl (hO.stays (bel_alloc _ _)) _ 1 1 (fun _=>(a k-q)) rfl (row1 _ _ rfl) (by omega) (by have:=hbw.size; simp; omega) ?_; intro v' w1 hO1 hg1)
          have hb1:Below w.heap.size w w1:=(hbw.alloc hbw.size _).grown hg1 (by have:=hbw.size; simp; omega) (own_ge hO)
          have hs:=sum_step (c:=-q) (x:=ext a n k-ext b m k) (r:=r) (k:=k) (V:=val (ext a n) k-val (ext b m) k) (by have:=HV.out; rw [Int.neg_mul]; omega)
          rw [show -q+(ext a n k-ext b m k)=a k-q from HX.out,show (a k-q) % 1073741824=(a k-q) by omega,show (a k-q)/1073741824=-0 by omega] at hs
          go_roundw
          case rel=>exact ⟨k+1,0,upd r k (a k-q),by omega,by go_num,rfl,by omega,by omega,hO1.congr (cat_upd r k _),dig_upd2 hD (by omega),by show _=_; rw [val_succ (ext a n),val_succ (ext b m)]; rw [Int.sub_mul] at hs; omega,hb1⟩
          case measure=>simp [intOf]; omega
    . obtain rfl:k=n:=by omega
      have HD:Hid (Dig r k∧val r k=val a k-val b m):=by
        refine ⟨hD,?_⟩
        have h1:=HV.out
        rw [val_ext a (Nat.le_refl _),val_ext b hmn] at h1
        have h2:=val_lt hD
        have h3:=HLE.out
        have hp:=P_pos k
        rcases (show q=0∨q=1 by omega) with e | e
        . subst e; omega
        . subst e; omega
      go_wp2_with (go_at_call 117; refine (rtrim_ans hO hD hbw).mono ?_; rintro e w3 ⟨v',rfl,hA,rfl⟩)
      go_ret
      exact ⟨_,rfl,by rw [<- HD.out.2]; exact hA⟩
set_option maxHeartbeats 2000000 in
theorem rmul_any (ao bo:Option Addr) (n m ca cb:Nat) (a b:Nat->Int) (w:World) (ha:Row w ao n ca a) (hb:Row w bo m cb b) (na:Nrm a n) (nb:Nrm b m) (hn:n<=100000) (hm:m<=100000) :
    Calls Tryz.prog 93 #[.slice ao n ca,.slice bo m cb] w fun e w'=>∃ v,e=.returned v∧Ans w w' (val a n*val b m) v:=by
  have hla:=ha.le
  have hma:=ha.max
  have hlb:=hb.le
  have hmb:=hb.max
  have da:=na.1
  have db:=nb.1
  by_cases hn0:n=0
  . subst hn0
    go_enter Tryz.func93,Tryz.ntmps93
    go_wp2
    go_ret
    exact ⟨_,rfl,by rw [show val a 0*val b m=0 from Int.zero_mul _]; exact Ans.nil (bel_refl _)⟩
  . by_cases hm0:m=0
    . subst hm0
      go_enter Tryz.func93,Tryz.ntmps93
      go_wp2
      go_ret
      exact ⟨_,rfl,by rw [show val a n*val b 0=0 from Int.mul_zero _]; exact Ans.nil (bel_refl _)⟩
    . have e1:((n:Int) == 0)=false:=by simp; omega
      have e2:((m:Int) == 0)=false:=by simp; omega
      go_enter Tryz.func93,Tryz.ntmps93
      go_wp2_with (at_make; refine wpList_mk rfl _ _ rfl _ _ (n+m) rfl rfl (by omega) (by omega) (by omega) ?_; intro w1 hB1 hb1)
      go_loopw [6] (fun i wr=>∃ (k:Nat) (r:Nat->Int),k<=n∧i=.int .i64 k∧Blk wr w.heap.size (n+m) r∧Dig r (n+m)∧Hid (∀ t,k+m<=t->r t=0)∧Hid (val r (k+m)=val a k*val b m)∧Below w.heap.size w wr) (fun i _=>n-(intOf i).toNat)
      case atStart=>exact ⟨0,fun _=>0,Nat.zero_le _,rfl,hB1,zero_dig _,fun _ _=>rfl,by show _=_; rw [val_zeros (Nat.zero_le (0+m)) (fun _ _ _=>rfl)]; show 0=0*val b m; omega,hb1⟩
      case round=>
        obtain ⟨i,r0,hi,rfl,hB0,hD0,HZ0,HV0,hbw0⟩:=hrel
        by_cases hlt:i<n
        . obtain ⟨ba,fa,rfl,hba,hca⟩:=ha.spot (by omega)
          have dai:=da i hlt
          go_wp2
          go_loopw [7,8] (fun c j wr=>∃ (k:Nat) (q:Int) (r:Nat->Int),k<=m∧j=.int .i64 k∧c=.int .i64 q∧0<=q∧q<1073741824∧Blk wr w.heap.size (n+m) r∧Dig r (n+m)∧Hid (∀ t,i+k<=t->r t=r0 t)∧Hid (val r (i+k)+q*P (i+k)=val r0 (i+k)+a i*val b k*P i)∧Below w.heap.size w wr) (fun _ j _=>m-(intOf j).toNat)
          case atStart=>exact ⟨0,0,r0,Nat.zero_le _,rfl,rfl,by omega,by omega,hB0,hD0,fun _ _=>rfl,by show _=_; show val r0 i+0*P i=val r0 i+a i*0*P i; grind,hbw0⟩
          case round=>
            obtain ⟨k,q,r,hk,rfl,rfl,hq0,hq1,hB,hD,HS,HV,hbw⟩:=hrel
            have c1:=(hbw.cell (p:=⟨ba,fa+i,none⟩) hba).trans (hca i hlt)
            by_cases hkm:k<m
            . obtain ⟨bb,fb,rfl,hbb,hcb⟩:=hb.spot (by omega)
              have c2:=(hbw.cell (p:=⟨bb,fb+k,none⟩) hbb).trans (hcb k hkm)
              have c3:=hB.cell (show i+k<n+m by omega)
              have fg:=hB.frozen (i+k)
              have drk:=hD (i+k) (by omega)
              have hmul:=dig_mul dai (db k hkm)
              go_wp2
              go_quiet (fail)
              go_wp2
              have hs:=mul_step (b:=b) (j:=k) HV.out (HS.out (i+k) (Nat.le_refl _))
              rw [show q+(a i*b k+r (i+k))=r (i+k)+a i*b k+q by omega] at hs
              go_roundw
              case rel=>exact ⟨k+1,(r (i+k)+a i*b k+q)/1073741824,upd r (i+k) ((r (i+k)+a i*b k+q) % 1073741824),by omega,by go_num,rfl,by omega,by omega,hB.store (i+k) _,hD.upd _ (mod_dig _),fun t ht=>by rw [upd_other r _ (by omega)]; exact HS.out t (by omega),hs,(bDrewN hbw _).setCell (Nat.le_refl _) _⟩
              case measure=>simp [intOf]; omega
            . obtain rfl:k=m:=by omega
              have c3:=hB.cell (show i+k<n+k by omega)
              have fg:=hB.frozen (i+k)
              go_wp2
              have hr:=mul_row HV.out HV0.out
              go_roundw
              case rel=>exact ⟨i+1,upd r (i+k) q,by omega,by go_num,hB.store (i+k) _,hD.upd _ ⟨hq0,hq1⟩,fun t ht=>by rw [upd_other r _ (by omega),HS.out t (by omega)]; exact HZ0.out t (by omega),by show _=_; rw [hr,val_succ],hbw.setCell (Nat.le_refl _) _⟩
              case measure=>simp [intOf]; omega
        . obtain rfl:i=n:=by omega
          go_wp2_with (go_at_call 117; refine (rtrim_ans (hB0.out (Nat.le_refl _) (Nat.le_refl _) (by omega)) hD0 hbw0).mono ?_; rintro e w3 ⟨v',rfl,hA,rfl⟩)
          go_ret
          exact ⟨_,rfl,by rw [<- HV0.out]; exact hA⟩
theorem blen_half {x:Int} (h:0<x):blen x=blen (x/2)+1:=by
  obtain ⟨h1,h2⟩:=blen_pos h
  have h3:=blen_lt x
  obtain ⟨k,hk⟩:∃ k,blen x=k+1:=⟨blen x-1,by omega⟩
  rw [hk] at h2 h3 ⊢
  rw [Nat.add_sub_cancel] at h2
  rw [Int.pow_succ] at h3
  cases k with
  | zero=>
    have:x=1:=by simp at h3 h2; omega
    subst this; decide
  | succ j=>
    rw [Int.pow_succ] at h2
    have e1:(2:Int)^j<=x/2:=by omega
    have e2:x/2<2^(j+1):=by omega
    rw [blen_of e1 e2]
set_option maxHeartbeats 400000 in
theorem rfrom_any (V:Int) (w:World) (h0:0<=V) (h1:V<9223372036854775808) :
    Calls Tryz.prog 128 #[.int .i64 V] w fun e w'=>∃ v,e=.returned v∧Ans w w' V v:=by
  have HM:Hid (V<9223372036854775808):=h1
  clear h1
  go_enter Tryz.func128,Tryz.ntmps128
  go_wp2
  go_loopw [0,3] (fun i v wr=>∃ (x:Int) (k:Nat) (r:Nat->Int),i=.int .i64 x∧0<=x∧k<=3∧Out w.heap.size wr v k r∧Dig r k∧Hid (x*P k<=V)∧Hid (x=0->Top r k)∧Hid (val r k+x*P k=V)∧Below w.heap.size w wr) (fun i _ _=>(intOf i).toNat)
  case atStart=>exact ⟨V,0,fun _=>0,rfl,h0,by omega,Out.nil _ _ _,fun i hi=>by omega,by show _<=_; show V*1<=V; omega,fun _=>.inl rfl,by show _=_; show 0+V*1=V; omega,bel_refl _⟩
  case round=>
    obtain ⟨x,k,r,rfl,hx,hk3,hO,hD,HB,HT,HV,hbw⟩:=hrel
    by_cases hp:0<x
    . have hk2:k<=2:=by
        by_cases e:k=3
        . subst e
          have a:=HB.out
          have b:=HM.out
          have c:P 3=1073741824*1073741824*1073741824:=by decide
          have d:1*P 3<=x*P 3:=Int.mul_le_mul_of_nonneg_right (by omega) (Int.le_of_lt (P_pos 3))
          omega
        . omega
      have hx2:x<=9223372036854775807:=by
        have a:=HB.out
        have b:=HM.out
        have c:x*1<=x*P k:=Int.mul_le_mul_of_nonneg_left (by have:=P_pos k; omega) (by omega)
        omega
      go_wp2_with (at_builtin; refine wpList_app rfl _ _ rfl w.heap.size _ k r rfl (hO.stays (bel_alloc _ _)) _ 1 1 (fun _=>x % 1073741824) rfl (row1 _ _ rfl) (by omega) (by have:=hbw.size; simp; omega) ?_; intro v' w1 hO1 hg1)
      have hb1:Below w.heap.size w w1:=(hbw.alloc hbw.size _).grown hg1 (by have:=hbw.size; simp; omega) (own_ge hO)
      have hs:=sum_step (c:=0) (x:=x) (show val r k+0*P k=val r k by omega)
      rw [Int.zero_add] at hs
      go_roundw
      case rel=>exact ⟨x/1073741824,k+1,upd r k (x % 1073741824),rfl,by omega,by omega,hO1.congr (cat_upd r k _),dig_upd2 hD (mod_dig _),by
          show _<=_
          have a:=HB.out
          rw [P_succ,show x/1073741824*(P k*1073741824)=(x/1073741824*1073741824)*P k by grind]
          have b:(x/1073741824*1073741824)*P k<=x*P k:=Int.mul_le_mul_of_nonneg_right (by omega) (Int.le_of_lt (P_pos k))
          omega,fun e=>.inr (by rw [Nat.add_sub_cancel,upd_same]; omega),by show _=_; rw [hs]; exact HV.out,hb1⟩
      case measure=>simp [intOf]; omega
    . obtain rfl:x=0:=by omega
      go_wp2
      go_ret
      exact ⟨_,rfl,k,r,hO,⟨hD,HT.out (by first | rfl | trivial)⟩,by have:=HV.out; omega,hbw⟩
set_option maxHeartbeats 400000 in
theorem rbits_any (ao:Option Addr) (n cap:Nat) (d:Nat->Int) (w:World) (h:Row w ao n cap d) (hd:Nrm d n) (hn:n<=1000000) :
    Calls Tryz.prog 148 #[.slice ao n cap] w fun e w'=>e=.returned (.int .i64 (blen (val d n)))∧w'=w:=by
  have hl:=h.le
  have hm:=h.max
  by_cases h0:n=0
  . subst h0
    go_enter Tryz.func148,Tryz.ntmps148
    go_wp2
    go_ret
    exact ⟨rfl,rfl⟩
  . obtain ⟨k,rfl⟩:∃ k,n=k+1:=⟨n-1,by omega⟩
    obtain ⟨b,off,rfl,hb,hc⟩:=h.spot (by omega)
    have c:=hc k (by omega)
    have dk:=hd.1 k (by omega)
    have HV:Hid (blen (val d (k+1))=30*k+blen (d k)):=blen_val hd
    have hbl:blen (d k)<=30:=blen_le (by show d k<1073741824; exact dk.2)
    go_enter Tryz.func148,Tryz.ntmps148
    go_wp2
    go_loop [3,4] (fun s v=>∃ (x:Int) (t:Nat),s=.int .i64 t∧v=.int .i64 x∧0<=x∧x<1073741824∧t<=30*k+30∧Hid (t+blen x=30*k+blen (d k))) (fun _ v=>(intOf v).toNat)
    case atStart=>exact ⟨d k,30*k,by go_num,rfl,dk.1,dk.2,by omega,rfl⟩
    case round=>
      obtain ⟨x,t,rfl,rfl,hx0,hx1,ht,HT⟩:=hrel
      by_cases hp:0<x
      . have ht2:t+1<=30*k+30:=by have:=HT.out; have:=blen_half hp; omega
        go_wp2
        go_round
        case rel=>exact ⟨x/2,t+1,by go_num,rfl,by omega,by omega,ht2,by show _=_; have:=HT.out; have:=blen_half hp; omega⟩
        case measure=>simp [intOf]; omega
      . obtain rfl:x=0:=by omega
        go_wp2
        go_ret
        exact ⟨ret_int (by have:=HT.out; rw [blen_zero] at this; rw [HV.out]; omega),rfl⟩
theorem rbit_any (ao:Option Addr) (n cap:Nat) (d:Nat->Int) (w:World) (h:Row w ao n cap d) (hd:Nrm d n) (hn:n<=100000) (i:Nat) (hi:i<=4000000) :
    Calls Tryz.prog 149 #[.slice ao n cap,.int .i64 i] w fun e w'=>e=.returned (.bool (bitB (val d n) i))∧w'=w:=by
  have hl:=h.le
  have hm:=h.max
  obtain ⟨q,p,hq,hp⟩:∃ q p:Nat,i=30*q+p∧p<30:=⟨i/30,i % 30,by omega,by omega⟩
  have e1:(i:Int)/30=q:=by omega
  have e2:(i:Int) % 30=p:=by omega
  by_cases hqn:q<n
  . have HV:Hid (bitB (val d n) i=(d q/2^p % 2 == 1)):=by unfold bitB; show _=_; rw [hq,bit_val hd.1 hqn hp]
    clear hq
    obtain ⟨b,off,rfl,hb,hc⟩:=h.spot (by omega)
    have c:=hc q hqn
    have dq:=hd.1 q hqn
    have hd0:0<=d q/2^p:=Int.ediv_nonneg dq.1 (Int.le_of_lt (two_pos p))
    go_enter Tryz.func149,Tryz.ntmps149
    go_wp2
    go_ret
    exact ⟨ret_bool HV.out.symm,rfl⟩
  . have HV:Hid (bitB (val d n) i=false):=bit_high (val_nonneg hd.1) (by
      refine Nat.le_trans (blen_le (k:=30*n) (by rw [<- P_two]; exact val_lt hd.1)) (by omega))
    clear hq
    go_enter Tryz.func149,Tryz.ntmps149
    go_wp2
    go_ret
    exact ⟨ret_bool HV.out.symm,rfl⟩
structure Lay64 (w:World):Prop where
  a0:w.cell? ⟨1,0,none⟩=some (.int .i64 52)
  a1:w.cell? ⟨1,1,none⟩=some (.int .i64 2047)
  a2:w.cell? ⟨1,2,none⟩=some (.int .i64 (-1074))
theorem Lay64.keeps {w w':World} (h:Lay64 w) (hb:Below w.heap.size w w'):Lay64 w':=⟨cell_keeps h.a0 hb,cell_keeps h.a1 hb,cell_keeps h.a2 hb⟩
theorem bitsPartsA (b:Int) (w:World) (L:Lay64 w) :
    Calls Tryz.prog 103 #[.int .i64 b] w fun e w'=>e=.returned (.tuple #[.bool (pneg b),.int .i64 (pmag b),.int .i64 (pexp b),.bool (pok b)])∧Below w.heap.size w w':=by
  obtain ⟨a0,a1,a2⟩:=L
  by_cases h:pok b=true
  all_goals
    go_enter Tryz.func103,Tryz.ntmps103
    go_wp2_with (go_at_call 122; refine (parts64 _ _).mono ?_; rintro e w1 ⟨rfl,hg⟩)
    refine bodyPost_ret (v:=.tuple #[.bool (pneg b),.int .i64 (pmag b),.int .i64 (pexp b),.bool (pok b)]) (by simp [results,Tryz.results103,go_sem,pneg,h]) rfl ⟨rfl,hg.be⟩
theorem pmag_in {b:Int} (hp:pok b=true):0<=pmag b∧pmag b<9007199254740992∧-1074<=pexp b∧pexp b<=971:=by
  have hf:=fld_le b
  have hr:=frc_le b
  have h1:fld b≠2047:=by simpa [pok] using hp
  unfold pmag pexp
  rw [if_neg h1,if_neg h1]
  split <;> omega
theorem ofNat_any (x:Int) (w:World) (h0:0<=x) (h1:x<9223372036854775808) :
    Calls Tryz.prog 120 #[.int .i64 x] w fun e w'=>∃ v,e=.returned (.tuple #[v,.int .i64 0])∧Ans w w' x v:=by
  have HX:=digits_nat x w h0 h1
  have HX':Hid (Calls Tryz.prog 139 #[.int .i64 x] w fun e w'=>∃ v,e=.returned v∧Ans w w' x v):=HX
  clear HX h1
  go_enter Tryz.func120,Tryz.ntmps120
  go_wp2_with fail
  refine HX'.out.mono ?_
  rintro e w2 ⟨v,rfl,hA⟩
  go_wp2
  go_ret2
  exact ⟨_,rfl,hA⟩
theorem P2000_big2:9223372036854775808<P 2000:=by
  have:=P_le (show 3<=2000 by omega)
  have e:P 3=1237940039285380274899124224:=rfl
  omega
theorem dok_small {ng:Bool} {M e:Int} (h0:0<=M) (h1:M<9223372036854775808) (e0:-1074<=e) (e1:e<=971):Dok (sg ng M*pw e):=by
  by_cases hz:M=0
  . rw [hz,sg_zero,Int.zero_mul]; exact dok_zero
  . obtain ⟨l,hl⟩:=isLow_ex (show 0<M by omega)
    have hy:=Dy.of ng hl (show 0<M by omega) (show -4194304<=e by omega)
    obtain ⟨c1,c2,c3⟩:=isLow_odd hl (show 0<M by omega)
    have hp:=two_pos l
    have hl63:l<63:=by
      have h3:(1:Int)*2^l<=M/2^l*2^l:=Int.mul_le_mul_of_nonneg_right (by omega) (by omega)
      rw [c3] at h3
      refine two_lt_iff ?_
      rw [show (2:Int)^63=9223372036854775808 by decide]
      omega
    refine hy.ok.2 ⟨?_,by omega,by omega⟩
    have:M/2^l<=M:=Int.ediv_le_self _ h0
    have:=P2000_big2
    omega
set_option maxRecDepth 100000 in
set_option maxHeartbeats 1000000 in
theorem value_yes (ng:Bool) (M e:Int) (w:World) (hT:Tab w) (h0:0<=M) (h1:M<9223372036854775808) (e0:-1074<=e) (e1:e<=971) :
    Calls Tryz.prog 102 #[.bool ng,.int .i64 M,.int .i64 e,.bool true] w fun r w'=>∃ v,r=.returned (.tuple #[v,.int .i64 0])∧DAns w w' (sg ng M*pw e) v:=by
  have hok:=dok_small (ng:=ng) h0 h1 e0 e1
  go_enter Tryz.func102,Tryz.ntmps102
  go_wp2_with fail
  refine (ofNat_any M _ h0 h1).mono ?_
  rintro r w1 ⟨v,rfl,hA⟩
  obtain ⟨so,sn,sc,d,rfl,hR,hN,hv⟩:=hA.num
  have hsn:sn<=100:=hA.num.len (k:=100) (by have:=P_le (show 3<=100 by omega); have:P 3=1237940039285380274899124224:=rfl; omega)
  have hbw:=bel_trans (bel_alloc w _) hA.below
  go_wp2_with fail
  refine (settle_any (V:=sg ng M*pw e) hR hN.1 (by omega) (hT.keeps hbw) (by omega) (by rw [hv])).mono ?_
  rintro r w7 (⟨_,v,rfl,hD⟩ | ⟨hno,_⟩)
  . have hb7:=hD.below
    obtain ⟨ng',s',m',e',rfl,hyy,hA2⟩:=id hD
    obtain ⟨so',sn',sc',rfl⟩:=hA2.num.shape
    have q0:=((bel_trans hA.below hb7).block w.heap.size (by rw [size1]; omega)).trans (heap_a1 _ _)
    have x0:=blkC q0 0 rfl
    have x1:=blkC q0 1 rfl
    have x2:=blkC q0 2 rfl
    have z0:=blkF q0 0
    have z1:=blkF q0 1
    have z2:=blkF q0 2
    go_wp2
    refine bodyPost_ret (v:=.tuple #[.agg #[.bool ng',.slice so' sn' sc',.int .i64 e'],.int .i64 0]) (by simp [results,Tryz.results102,go_sem,x0,x1,x2]) rfl ⟨_,rfl,?_⟩
    exact dans_res3 (g:=w.heap.size) hD hbw (Nat.le_refl _) (Nat.lt_of_lt_of_le (by rw [size1]; omega) hA.below.size) _ _ _
  . exact absurd hok hno
set_option maxRecDepth 100000 in
theorem value_no (ng:Bool) (M e:Int) (w:World) :
    Calls Tryz.prog 102 #[.bool ng,.int .i64 M,.int .i64 e,.bool false] w fun r w'=>r=.returned (.tuple #[zeroV,.int .i64 10])∧Below w.heap.size w w':=by
  go_enter Tryz.func102,Tryz.ntmps102
  go_wp2
  refine bodyPost_ret (v:=.tuple #[zeroV,.int .i64 10]) (by simp [results,Tryz.results102,go_sem,zeroV]) rfl ⟨rfl,?_⟩
  exact bel_alloc _ _
set_option maxRecDepth 100000 in
set_option maxHeartbeats 1000000 in
theorem dof_any (b:Int) (w:World) (L:Lay64 w) (hT:Tab w) :
    Calls Tryz.prog 78 #[.int .i64 b] w fun r w'=>∃ v er,r=.returned (.tuple #[v,.int .i64 er])∧Below w.heap.size w w'∧((pok b=true∧er=0∧DAns w w' (sg (pneg b) (pmag b)*pw (pexp b)) v)∨(pok b=false∧er=10∧v=zeroV)):=by
  have hVy:pok b=true->∀ W,Below w.heap.size w W->Calls Tryz.prog 102 #[.bool (pneg b),.int .i64 (pmag b),.int .i64 (pexp b),.bool true] W fun r w'=>∃ v,r=.returned (.tuple #[v,.int .i64 0])∧DAns W w' (sg (pneg b) (pmag b)*pw (pexp b)) v:=fun hp W hb=>by
    have hi:=pmag_in hp
    exact value_yes _ _ _ W (hT.keeps hb) (by omega) (by omega) (by omega) (by omega)
  have hP:=fun W hb=>bitsPartsA b W (L.keeps hb)
  generalize sg (pneg b) (pmag b)*pw (pexp b)=V at hVy ⊢
  generalize pneg b=ng at *
  generalize pmag b=mg at *
  generalize pexp b=ex at *
  clear L hT
  cases hp:pok b
  . rw [hp] at hP hVy
    go_enter Tryz.func78,Tryz.ntmps78
    go_wp2_with fail
    refine (hP _ (bel_alloc _ _)).mono ?_
    rintro r w1 ⟨rfl,hb1⟩
    go_wp2_with fail
    refine (value_no _ _ _ _).mono ?_
    unfold zeroV
    rintro r w2 ⟨rfl,hb2⟩
    have hbw:=bel_trans (bel_alloc w (.cells #[.bool false,.slice none 0 0,.int .i64 0] 33)) (bel_trans hb1 hb2)
    have q0:=((bel_trans hb1 hb2).block w.heap.size (by rw [size1]; omega)).trans (heap_a1 _ _)
    have x0:=blkC q0 0 rfl
    have x1:=blkC q0 1 rfl
    have x2:=blkC q0 2 rfl
    have z0:=blkF q0 0
    have z1:=blkF q0 1
    have z2:=blkF q0 2
    go_wp2
    refine bodyPost_ret (v:=.tuple #[zeroV,.int .i64 10]) (by simp [results,Tryz.results78,go_sem,x0,x1,x2,zeroV]) rfl ⟨_,_,rfl,?_,.inr ⟨by trivial,rfl,rfl⟩⟩
    exact bel_set3 hbw (Nat.le_refl _) _ _ _
  . rw [hp] at hP hVy
    go_enter Tryz.func78,Tryz.ntmps78
    go_wp2_with fail
    refine (hP _ (bel_alloc _ _)).mono ?_
    rintro r w1 ⟨rfl,hb1⟩
    have hbw:=bel_trans (bel_alloc w (.cells #[.bool false,.slice none 0 0,.int .i64 0] 33)) hb1
    go_wp2_with fail
    refine (hVy (by trivial) _ hbw).mono ?_
    rintro r w2 ⟨v,rfl,hD⟩
    obtain ⟨ng',s',m',e',rfl,hyy,hA2⟩:=id hD
    obtain ⟨so',sn',sc',rfl⟩:=hA2.num.shape
    have q0:=((bel_trans hb1 hD.below).block w.heap.size (by rw [size1]; omega)).trans (heap_a1 _ _)
    have x0:=blkC q0 0 rfl
    have x1:=blkC q0 1 rfl
    have x2:=blkC q0 2 rfl
    have z0:=blkF q0 0
    have z1:=blkF q0 1
    have z2:=blkF q0 2
    go_wp2
    refine bodyPost_ret (v:=.tuple #[.agg #[.bool ng',.slice so' sn' sc',.int .i64 e'],.int .i64 0]) (by simp [results,Tryz.results78,go_sem,x0,x1,x2]) rfl ⟨_,_,rfl,?_,.inl ⟨by trivial,rfl,?_⟩⟩
    . exact bel_set3 (bel_trans hbw hD.below) (Nat.le_refl _) _ _ _
    . exact dans_res3 (g:=w.heap.size) hD hbw (Nat.le_refl _) (Nat.lt_of_lt_of_le (by rw [size1]; omega) hb1.size) _ _ _
def bRung (way:Int) (ng:Bool):Int:=if rUp way ng true 3 then 9218868437227405312 else 9218868437227405311
def patS (ng:Bool) (r:Int):Int:=if ng then r-9223372036854775808 else r
theorem Env.keeps {w w':World} (h:Env w) (hb:Below w.heap.size w w'):Env w' :=
  ⟨⟨cell_keeps h.lays.a0 hb,cell_keeps h.lays.a1 hb,cell_keeps h.lays.a2 hb,trivial,trivial,trivial⟩,fun j hj=>cell_keeps (h.tab j hj) hb⟩
def r64 (way:Int) (ng sd:Bool) (mag:Nat) (exp:Int) (cut:Bool):Int × Bool :=
  let E:=rE 53 (-1074) mag exp
  let u:=rU mag (E-exp)
  let left:=rL mag cut (E-exp)
  let U:=u+(if rUp way ng (decide (u % 2=1)) left then 1 else 0)
  let neg:=ng && (decide (0<U) || sd)
  if jk 52 2047 (-1074) U E then (jp neg U E,decide (left≠0)) else (patS neg (bRung way neg),true)
theorem Num.parts {w:World} {v:Value} {V:Int} (h:Num w v V) {k:Nat} (hV:V<P k):∃ ao n cap d,v=.slice ao n cap∧Row w ao n cap d∧Nrm d n∧val d n=V∧n<=k:=by
  obtain ⟨ao,n,cap,rfl⟩:=h.shape
  have hl:=h.len hV
  obtain ⟨ao',n',cap',d,e,hR,h2,h3⟩:=h
  simp only [Value.slice.injEq] at e
  obtain ⟨rfl,rfl,rfl⟩:=e
  exact ⟨ao,n,cap,d,rfl,hR,h2,h3,hl⟩
def vK (M:Int):Nat:=blen M-62
theorem vK_small {M:Int} (h:0<=M):0<=M/2^vK M∧M/2^vK M<4611686018427387904:=by
  have hp:=two_pos (vK M)
  refine ⟨Int.ediv_nonneg h (by omega),?_⟩
  have h1:=blen_lt M
  have h2:(2:Int)^blen M<=2^(62+vK M):=two_le (by unfold vK; omega)
  have e:(2:Int)^(62+vK M)=4611686018427387904*2^vK M:=by rw [Int.pow_add]; rfl
  exact Int.ediv_lt_of_lt_mul hp (by omega)
def scV (A k:Int):Int:=if 0<=k then A*2^k.toNat else A/2^(-k).toNat
def scC (A k:Int):Bool:=if 0<=k then false else decide (A % 2^(-k).toNat≠0)
def qK (A B:Int):Int:=62+(blen B:Int)-(blen A:Int)
def qR64 (way:Int) (a b:NumR):Int × Bool:=r64 way (a.ng != b.ng) false (scV (val a.d a.n) (qK (val a.d a.n) (val b.d b.n))/val b.d b.n).toNat (a.e-b.e-qK (val a.d a.n) (val b.d b.n)) (scC (val a.d a.n) (qK (val a.d a.n) (val b.d b.n)) || decide (scV (val a.d a.n) (qK (val a.d a.n) (val b.d b.n)) % val b.d b.n≠0))
theorem run_from64 (n:Int) (w:World):(callFunc 75 #[.int .u64 n]).run Tryz.prog w=.ok (.value (.float .f64 n.toNat)) w:=by
  rw [run_callFunc_extern Tryz.func75 (by kernel_rfl) (by kernel_rfl) (by kernel_rfl) (e:=Extern.MathFloatBits.float64frombits) (by kernel_rfl)]
  rfl
theorem ret_float {k:FloatKind} {a b:Nat} (h:a=b):Ending.returned (.float k a)=.returned (.float k b):=by rw [h]
theorem bitsFloat (b:Int) (w:World) :
    Calls Tryz.prog 74 #[.int .i64 b] w fun e w'=>e=.returned (.float .f64 (wd b))∧w'=w:=by
  have hd:=run_from64
  go_enter Tryz.func74,Tryz.ntmps74
  go_wp2
  go_ret
  exact ⟨ret_float (by rw [IntKind.wrap_u64]; rfl),rfl⟩
theorem hideIt {p:Prop} (h:p):Hid p:=h
theorem refCut (b:Int) (w:World) (hb:rng b) :
    Calls Tryz.prog 147 #[.int .i64 b] w fun e w'=>e=.returned (.tuple #[.bool (decide (b<0)),.int .i64 (fld b),.int .i64 (frc b)])∧w'=w:=by
  unfold rng at hb
  by_cases h:b<0
  all_goals
    go_enter Tryz.func147,Tryz.ntmps147
    go_wp2
    go_ret3
    exact ⟨ret_bii (by simp; try omega) (by unfold fld; omega) (by unfold frc; omega),rfl⟩
theorem refcls (f t most:Int) (w:World) (hf:0<=f) (ht:0<=t) :
    Calls Tryz.prog 152 #[.int .i64 f,.int .i64 t,.int .i64 most] w fun e w'=>e=.returned (.int .i64 (rcls f t most))∧w'=w:=by
  by_cases h1:f=most
  . subst h1
    by_cases h2:t=0
    all_goals
      go_enter Tryz.func152,Tryz.ntmps152
      go_wp2
      go_ret
      exact ⟨b_ret_int (by simp [rcls,h2]),rfl⟩
  . by_cases h2:0<f <;> by_cases h3:0<t
    all_goals
      go_enter Tryz.func152,Tryz.ntmps152
      go_wp2
      go_ret
      exact ⟨b_ret_int (by simp [rcls,h1]; omega),rfl⟩
theorem refClass (b:Int) (w:World) (hb:rng b) :
    Calls Tryz.prog 133 #[.int .i64 b] w fun e w'=>e=.returned (.int .i64 (cls b))∧w'=w:=by
  have hf:=fld_le b
  have ht:=frc_le b
  go_enter Tryz.func133,Tryz.ntmps133
  go_wp2_with (first
    | (go_at_call 147; refine (refCut _ _ hb).mono ?_; rintro e w1 ⟨rfl,rfl⟩)
    | (go_at_call 152; refine (refcls _ _ _ _ hf.1 ht.1).mono ?_; rintro e w1 ⟨rfl,rfl⟩))
  go_ret
  exact ⟨b_ret_int (rcls_cls b),rfl⟩
theorem refParts (b:Int) (w:World) (hb:rng b) :
    Calls Tryz.prog 127 #[.int .i64 b] w fun e w'=>e=.returned (.tuple #[.bool (pneg b),.int .i64 (pmag b),.int .i64 (pexp b),.bool (pok b)])∧w'=w:=by
  have hf:=fld_le b
  have ht:=frc_le b
  by_cases h0:cls b=0
  . have k:=hideIt (parts_sub (.inl h0))
    go_enter Tryz.func127,Tryz.ntmps127
    go_wp2_with (first
      | (go_at_call 147; refine (refCut _ _ hb).mono ?_; rintro e w1 ⟨rfl,rfl⟩)
      | (go_at_call 133; refine (refClass _ _ hb).mono ?_; rintro e w1 ⟨rfl,rfl⟩))
    refine bodyPost_ret (v:=.tuple #[.bool (decide (b<0)),.int .i64 (frc b),.int .i64 (-1074),.bool true]) (by simp [results,Tryz.results127,go_sem]) rfl ⟨ret_ttt4 k.out.1 k.out.2.1 k.out.2.2.1 k.out.2.2.2,rfl⟩
  . by_cases h1:cls b=1
    . have k:=hideIt (parts_sub (.inr h1))
      go_enter Tryz.func127,Tryz.ntmps127
      go_wp2_with (first
        | (go_at_call 147; refine (refCut _ _ hb).mono ?_; rintro e w1 ⟨rfl,rfl⟩)
        | (go_at_call 133; refine (refClass _ _ hb).mono ?_; rintro e w1 ⟨rfl,rfl⟩))
      refine bodyPost_ret (v:=.tuple #[.bool (decide (b<0)),.int .i64 (frc b),.int .i64 (-1074),.bool true]) (by simp [results,Tryz.results127,go_sem]) rfl ⟨ret_ttt4 k.out.1 k.out.2.1 k.out.2.2.1 k.out.2.2.2,rfl⟩
    . by_cases h2:cls b=2
      . have k:=hideIt (parts_norm h2)
        go_enter Tryz.func127,Tryz.ntmps127
        go_wp2_with (first
          | (go_at_call 147; refine (refCut _ _ hb).mono ?_; rintro e w1 ⟨rfl,rfl⟩)
          | (go_at_call 133; refine (refClass _ _ hb).mono ?_; rintro e w1 ⟨rfl,rfl⟩))
        refine bodyPost_ret (v:=.tuple #[.bool (decide (b<0)),.int .i64 (4503599627370496+frc b),.int .i64 (fld b-1075),.bool true]) (by simp [results,Tryz.results127,go_sem]) rfl ⟨ret_ttt4 k.out.1 k.out.2.1 k.out.2.2.1 k.out.2.2.2,rfl⟩
      . have k:=hideIt (parts_not h0 h1 h2)
        go_enter Tryz.func127,Tryz.ntmps127
        go_wp2_with (first
          | (go_at_call 147; refine (refCut _ _ hb).mono ?_; rintro e w1 ⟨rfl,rfl⟩)
          | (go_at_call 133; refine (refClass _ _ hb).mono ?_; rintro e w1 ⟨rfl,rfl⟩))
        refine bodyPost_ret (v:=.tuple #[.bool false,.int .i64 0,.int .i64 0,.bool false]) (by simp [results,Tryz.results127,go_sem]) rfl ⟨ret_ttt4 k.out.1 k.out.2.1 k.out.2.2.1 k.out.2.2.2,rfl⟩
def told (b:Int):Int:=if cls b=4 then 9221120237041090561 else b
theorem no64 {b:Int} (hb:rng b):(FloatKind.f64.format.order (wd b) (wd b) != some .eq)=decide (cls b=4):=by
  have:=same_order hb hb
  unfold bne
  rw [this]; unfold same
  by_cases h:cls b=4 <;> simp [h]
theorem run_bits64 (n:Nat) (w:World):(callFunc 76 #[.float .f64 n]).run Tryz.prog w=.ok (.value (.int .u64 n)) w:=by
  rw [run_callFunc_extern Tryz.func76 (by kernel_rfl) (by kernel_rfl) (by kernel_rfl) (e:=Extern.MathFloatBits.float64bits) (by kernel_rfl)]
  rfl
def litR (g:Nat) (x:Int):NumR:=⟨false,some ⟨g,0,none⟩,1,1,fun _=>x,0⟩
theorem third (g k:Nat):qR64 0 (litR g 1) (litR k 3)=(4599676419421066581,true):=by
  have e:qR64 0 (litR g 1) (litR k 3)=qR64 0 (litR 0 1) (litR 0 3):=rfl
  rw [e]
  decide +kernel
def NumR.neg (r:NumR):NumR:=⟨!r.ng,r.ao,r.n,r.cap,r.d,r.e⟩
theorem NumR.neg_V (r:NumR):r.neg.V=-r.V:=by
  show sg (!r.ng) _*_=_
  rw [sg_not,Int.neg_mul]; rfl
theorem NumR.neg_sane {r:NumR} (h:Sane r):Sane r.neg:=h
set_option maxRecDepth 100000 in
set_option maxHeartbeats 1000000 in
theorem sub1_any (x y:NumR) (g h:Nat) (w:World) (cg:w.heap[g]?=some (.cells #[.bool x.ng,.slice x.ao x.n x.cap,.int .i64 x.e] 33 (0,0))) (ch:w.heap[h]?=some (.cells #[.bool y.ng,.slice y.ao y.n y.cap,.int .i64 y.e] 33 (0,0)))
    (hx:Row w x.ao x.n x.cap x.d) (hy:Row w y.ao y.n y.cap y.d) (sx:Sane x) (sy:Sane y) (hT:Tab w) :
    Calls Tryz.prog 106 #[.pointer (some ⟨g,0,none⟩),.pointer (some ⟨h,0,none⟩)] w (DOut w (x.V+y.V)):=by
  obtain ⟨an,ao,n,ca,a,e⟩:=x
  obtain ⟨bn,bo,m,cb,b,f⟩:=y
  simp only at cg ch hx hy
  have hb:=bel_alloc w (.cells #[.bool false,.slice none 0 0,.int .i64 0] 33)
  have g0:=heap_past (.cells #[.bool false,.slice none 0 0,.int .i64 0] 33) cg
  have g1:=heap_past (.cells #[.bool false,.slice none 0 0,.int .i64 0] 33) ch
  have k0:=blkC g0 0 rfl
  have k1:=blkC g0 1 rfl
  have k2:=blkC g0 2 rfl
  have j0:=blkC g1 0 rfl
  have j1:=blkC g1 1 rfl
  have j2:=blkC g1 2 rfl
  have hN:=fun q=>nums2 (w:=(w.alloc (.cells #[.bool false,.slice none 0 0,.int .i64 0] 33)).alloc (.cells #[.bool an,.slice ao n ca,.int .i64 e,.bool bn,.slice bo m cb,.int .i64 f] 33)) (g:=w.heap.size+1) (x:=⟨an,ao,n,ca,a,e⟩) (y:=⟨bn,bo,m,cb,b,f⟩) (t:=33) q (hx.keeps (bel_alloc2 _ _ _)) (hy.keeps (bel_alloc2 _ _ _))
  go_enter Tryz.func106,Tryz.ntmps106
  go_wp2_with fail
  refine (total_any _ _ _ _ _ (hN (heap_b2 _ _ _)) (fun i hi=>?_) (by omega) (hT.keeps (bel_alloc2 _ _ _))).mono ?_
  . match i,hi with
    | 0,_=>exact sx
    | 1,_=>exact sy
  rw [sumV2]
  rintro r w7 (⟨hok,v,rfl,hD⟩ | ⟨hno,rfl,hb7⟩)
  . have hb7:=hD.below
    obtain ⟨ng',s',m',e',rfl,hyy,hA⟩:=id hD
    obtain ⟨so,sn,sc,rfl⟩:=hA.num.shape
    have q0:=(hb7.block w.heap.size (by rw [size2]; omega)).trans (heap_a2 _ _ _)
    have x0:=blkC q0 0 rfl
    have x1:=blkC q0 1 rfl
    have x2:=blkC q0 2 rfl
    have z0:=blkF q0 0
    have z1:=blkF q0 1
    have z2:=blkF q0 2
    go_wp2
    refine bodyPost_ret (v:=.agg #[.bool ng',.slice so sn sc,.int .i64 e']) (by simp [results,Tryz.results106,go_sem,x0,x1,x2]) rfl ?_
    exact .inl ⟨hok,_,rfl,dans_res3 (g:=w.heap.size) hD (bel_alloc2 _ _ _) (Nat.le_refl _) (by rw [size2]; omega) _ _ _⟩
  . exact ⟨rfl,.inr ⟨hno,rfl,bel_trans (bel_alloc2 _ _ _) hb7⟩⟩
set_option maxRecDepth 100000 in
set_option maxHeartbeats 1000000 in
theorem dsub_ok (x y:NumR) (w:World) (hx:Row w x.ao x.n x.cap x.d) (hy:Row w y.ao y.n y.cap y.d) (ox:okR x=true) (oy:okR y=true) (hT:Tab w) :
    Calls Tryz.prog 79 #[x.v,y.v] w fun r w'=>∃ v er,r=.returned (.tuple #[v,.int .i64 er])∧DFit w w' (x.V-y.V) v er:=by
  have hmf:∀ (fn:Fn) (first cap:Array Value) (w:World),(Instr.makeFunc fn first cap).run Tryz.prog w=.ok (.func fn first cap) w:=fun _ _ _ _=>rfl
  have hE:∀ (cap:Array Value) (w:World),(callFunc 106 cap).run Tryz.prog w=.ok (.enter 106 cap) w:=by
    intro cap w
    simp [go_sem]
  have hA:=allOk2 x y
  rw [ox,oy] at hA
  have hN:=fun W q hb=>nums2 (w:=W) (g:=w.heap.size+3) (x:=x) (y:=y) (t:=33) q (hx.keeps hb) (hy.keeps hb)
  have hC:=fun W hb cg ch=>sub1_any x y.neg w.heap.size (w.heap.size+1) W cg ch (hx.keeps hb) (hy.keeps hb) (okR_sane ox) (NumR.neg_sane (okR_sane oy)) (hT.keeps hb)
  generalize pair2 x y=pr at hA hN
  rw [show x.V-y.V=x.V+y.neg.V by rw [NumR.neg_V]; omega]
  generalize x.V+y.neg.V=V at hC ⊢
  clear ox oy
  obtain ⟨an,ao,n,ca,a,e⟩:=x
  obtain ⟨bn,bo,m,cb,b,f⟩:=y
  unfold NumR.v
  unfold NumR.neg at hC
  simp only at hx hy hN hC ⊢
  go_enter Tryz.func79,Tryz.ntmps79
  go_wp2_with fail
  refine (dvalids_any _ _ _ _ _ (hN _ (h4_3 _ _ _ _ _) (bel_a4 _ _ _ _ _))).mono ?_
  rw [hA]
  rintro r w1 ⟨rfl,hb1⟩
  have hbw:=bel_trans (bel_a4 w _ _ _ _) hb1
  have g0:=(hb1.block w.heap.size (by rw [size4]; omega)).trans (h4_0 _ _ _ _ _)
  have g1:=(hb1.block (w.heap.size+1) (by rw [size4]; omega)).trans (h4_1 _ _ _ _ _)
  have g2:=(hb1.block (w.heap.size+2) (by rw [size4]; omega)).trans (h4_2 _ _ _ _ _)
  have hs4:w.heap.size+4<=w1.heap.size:=by have:=hb1.size; rw [size4] at this; exact this
  have y0:=blkC g1 0 rfl
  have y1:=blkF g1 0
  go_wp2_with fail
  have hbw':Below w.heap.size w (w1.setCell ⟨w.heap.size+1,0,none⟩ (.bool (!bn))):=hbw.setCell (p:=⟨w.heap.size+1,0,none⟩) (Nat.le_succ _) _
  have u0:=(Below.heap_setCell w1 ⟨w.heap.size+1,0,none⟩ (.bool (!bn)) w.heap.size (by show w.heap.size≠w.heap.size+1; omega)).trans g0
  have u2:=(Below.heap_setCell w1 ⟨w.heap.size+1,0,none⟩ (.bool (!bn)) (w.heap.size+2) (by show w.heap.size+2≠w.heap.size+1; omega)).trans g2
  have u1:=heap_set g1 0 (.bool (!bn))
  have us:(w1.setCell ⟨w.heap.size+1,0,none⟩ (.bool (!bn))).heap.size=w1.heap.size:=by simp [World.setCell]
  generalize w1.setCell ⟨w.heap.size+1,0,none⟩ (.bool (!bn))=w9 at hbw' u0 u1 u2 us ⊢
  clear hbw g0 g1 g2 hb1 y0 y1
  have hbw:=hbw'
  have g0:=u0
  have g1:w9.heap[w.heap.size+1]?=some (.cells #[.bool (!bn),.slice bo m cb,.int .i64 f] 33 (0,0)):=u1
  have g2:=u2
  refine (told_any (V:=V) (hE _) (fun W hW=>hC W (bel_trans hbw hW) ((hW.block _ (by omega)).trans g0) ((hW.block _ (by omega)).trans g1))).mono ?_
  rintro r w2 ⟨v,er,rfl,hF⟩
  obtain ⟨ng',so,sn,sc,e',rfl⟩:=hF.shape
  have q0:=(hF.1.block (w.heap.size+2) (by omega)).trans g2
  have x0:=blkC q0 0 rfl
  have x1:=blkC q0 1 rfl
  have x2:=blkC q0 2 rfl
  have z0:=blkF q0 0
  have z1:=blkF q0 1
  have z2:=blkF q0 2
  go_wp2
  refine bodyPost_ret (v:=.tuple #[.agg #[.bool ng',.slice so sn sc,.int .i64 e'],.int .i64 er]) (by simp [results,Tryz.results79,go_sem,x0,x1,x2]) rfl ⟨_,_,rfl,?_⟩
  exact dfit_res (g:=w.heap.size+2) hF hbw (by omega) (by omega) _ _ _
def mulV (x y:NumR):Int:=sg (x.ng != y.ng) (val x.d x.n*val y.d y.n)*pw (x.e+y.e)
theorem mulV_eq {x y:NumR} (hx:-2097152<=x.e) (hy:-2097152<=y.e):mulV x y*2^4194304=x.V*y.V:=by
  unfold mulV NumR.V
  rw [Int.mul_assoc,<- pw_mul hx hy,<- sg_mul]; grind
set_option maxRecDepth 100000 in
set_option maxHeartbeats 2000000 in
theorem dproduct_any (x y:NumR) (w:World) (hx:Row w x.ao x.n x.cap x.d) (hy:Row w y.ao y.n y.cap y.d) (sx:Sane x) (sy:Sane y) :
    Calls Tryz.prog 155 #[x.v,y.v] w fun r w'=>∃ s,r=.returned (.agg #[.bool (x.ng != y.ng),s,.int .i64 (x.e+y.e)])∧Ans w w' (val x.d x.n*val y.d y.n) s:=by
  obtain ⟨an,ao,n,ca,a,e⟩:=x
  obtain ⟨bn,bo,m,cb,b,f⟩:=y
  obtain ⟨s1,s2,s3,s4⟩:=sx
  obtain ⟨t1,t2,t3,t4⟩:=sy
  unfold NumR.v
  simp only at *
  have hw:IntKind.i64.wrap (e+f)=e+f:=by rw [wrap_i64_eq]; omega
  have hb3:=bel_a3 w (.cells #[.bool an,.slice ao n ca,.int .i64 e] 33) (.cells #[.bool bn,.slice bo m cb,.int .i64 f] 33) (.cells #[.bool false,.slice none 0 0,.int .i64 0] 33)
  have g0:=h3_0 w (.cells #[.bool an,.slice ao n ca,.int .i64 e] 33) (.cells #[.bool bn,.slice bo m cb,.int .i64 f] 33) (.cells #[.bool false,.slice none 0 0,.int .i64 0] 33)
  have g1:=h3_1 w (.cells #[.bool an,.slice ao n ca,.int .i64 e] 33) (.cells #[.bool bn,.slice bo m cb,.int .i64 f] 33) (.cells #[.bool false,.slice none 0 0,.int .i64 0] 33)
  have g2:=h3_2 w (.cells #[.bool an,.slice ao n ca,.int .i64 e] 33) (.cells #[.bool bn,.slice bo m cb,.int .i64 f] 33) (.cells #[.bool false,.slice none 0 0,.int .i64 0] 33)
  have hs3:=size3 w (.cells #[.bool an,.slice ao n ca,.int .i64 e] 33) (.cells #[.bool bn,.slice bo m cb,.int .i64 f] 33) (.cells #[.bool false,.slice none 0 0,.int .i64 0] 33)
  go_enter Tryz.func155,Tryz.ntmps155
  go_wp2_with fail
  have HX:=hx.keeps hb3
  have HY:=hy.keeps hb3
  generalize ((w.alloc (.cells #[.bool an,.slice ao n ca,.int .i64 e] 33)).alloc (.cells #[.bool bn,.slice bo m cb,.int .i64 f] 33)).alloc (.cells #[.bool false,.slice none 0 0,.int .i64 0] 33)=wx at hb3 g0 g1 g2 hs3 HX HY ⊢
  have k0:=blkC g0 0 rfl
  have k1:=blkC g0 1 rfl
  have k2:=blkC g0 2 rfl
  have j0:=blkC g1 0 rfl
  have j1:=blkC g1 1 rfl
  have j2:=blkC g1 2 rfl
  have hb1:=bel_refl wx
  have C1:∀ W,Below wx.heap.size wx W->Calls Tryz.prog 161 #[.slice ao n ca,.slice bo m cb] W fun r w'=>∃ so sn sc,r=.returned (.slice so sn sc)∧Ans W w' (val a n*val b m) (.slice so sn sc)∧Below W.heap.size W w':=fun W h=>by
    refine (product_any ao bo n m ca cb a b W (HX.keeps h) (HY.keeps h) s1.1 t1.1 (by omega) (by omega)).mono ?_
    rintro r w' ⟨v,rfl,hA⟩
    obtain ⟨so,sn,sc,rfl⟩:=hA.num.shape
    exact ⟨so,sn,sc,rfl,hA,hA.below⟩
  go_region_held3 (fun W=>(W.cell? ⟨w.heap.size,0,none⟩=some (.bool an)∧W.cell? ⟨w.heap.size,1,none⟩=some (.slice ao n ca)∧W.cell? ⟨w.heap.size,2,none⟩=some (.int .i64 e))∧W.cell? ⟨w.heap.size+1,0,none⟩=some (.bool bn)∧W.cell? ⟨w.heap.size+1,1,none⟩=some (.slice bo m cb)∧W.cell? ⟨w.heap.size+1,2,none⟩=some (.int .i64 f))
    (first | assumption | exact ⟨⟨k0,k1,k2⟩,j0,j1,j2⟩ | exact ⟨keepB (W:=wx.drew) ⟨k0,k1,k2⟩ hbv1,keepB (W:=wx.drew) ⟨j0,j1,j2⟩ hbv1⟩ | exact ⟨keepS (keepB (W:=wx.drew) ⟨k0,k1,k2⟩ hbv1) (by omega) _ _ _,keepS (keepB (W:=wx.drew) ⟨j0,j1,j2⟩ hbv1) (by omega) _ _ _⟩)
    (first | (go_at_call 161; refine (C1 _ hb1.drew).mono ?_; rintro y w3 ⟨so,sn,sc,rfl,hv,hbv1⟩; have q0:=(hbv1.block (w.heap.size+2) (by show _<wx.heap.size; omega)).trans g2; have x0:=blkC q0 0 rfl; have x1:=blkC q0 1 rfl; have x2:=blkC q0 2 rfl; have z0:=blkF q0 0; have z1:=blkF q0 1; have z2:=blkF q0 2) | fail)
  all_goals go_wp2
  all_goals
    refine bodyPost_ret (v:=.agg #[.bool (!(an == bn)),.slice so sn sc,.int .i64 (e+f)]) (by simp [results,Tryz.results155,go_sem,x0,x1,x2]) rfl ⟨_,rfl,?_⟩
    exact ans_res (g:=w.heap.size+2) (hv.from hb1.drew) hb3 (by omega) (by omega) _ _ _
end Go.Proofs.YtcklaogdjpbagaaGreatDoor
