/- Parts of the proof. -/
import Derived.Test.YtjjihmnbdeeedaaGreatDoorCe6
import Derived.Test.YtjjihmnbdeeedaaGreatDoorCe5
import Derived.Test.YtjjihmnbdeeedaaGreatDoorCe4
import Derived.Test.YtjjihmnbdeeedaaGreatDoorRows
import Derived.Test.YtjjihmnbdeeedaaGreatDoorCe2
import Derived.ProofKit
import Derived.OpenShut
import Derived.ChangeOld
import Derived.LaidMore
import Derived.Deep.Strs
import Derived.Lib.LaidTab
import Derived.MakeChecks
import Derived.Stop.LaidErr
set_option linter.unusedVariables false
set_option linter.unusedSimpArgs false
namespace Go.Proofs.YtjjihmnbdeeedaaGreatDoor
open Go Go.RowKit Go.Proofs.YtjjihmnbdeeedaaGreatDoor.M
def An (B:Nat) (w:World) (v:Value) (V:Int):Prop:=∃ t d,Out B w v t d∧Nrm d t∧val d t=V
theorem An.keeps {B:Nat} {w w':World} {v:Value} {V:Int} (h:An B w v V) (k:Below w.heap.size w w'):An B w' v V:=by
  obtain ⟨t,d,h1,h2⟩:=h
  exact ⟨t,d,h1.stays k,h2⟩
theorem An.lower {B B':Nat} {w:World} {v:Value} {V:Int} (h:An B w v V) (hB:B'<=B):An B' w v V:=by
  obtain ⟨t,d,h1,h2⟩:=h
  exact ⟨t,d,h1.lower hB,h2⟩
theorem An.nil (B:Nat) (w:World):An B w (.slice none 0 0) 0:=⟨0,fun _=>0,Out.nil _ _ _,⟨fun i hi=>by omega,.inl rfl⟩,rfl⟩
theorem Ans.an {w w':World} {V:Int} {v:Value} (h:Ans w w' V v):An w.heap.size w' v V:=by
  obtain ⟨t,d,h1,h2,h3,h4⟩:=h
  exact ⟨t,d,h1,h2,h3⟩
theorem An.shape {B:Nat} {w:World} {v:Value} {V:Int} (h:An B w v V):∃ ao n cap,v=.slice ao n cap:=by
  obtain ⟨t,d,h1,h2⟩:=h
  obtain ⟨ao,cap,e,_⟩:=h1.row
  exact ⟨ao,t,cap,e⟩
theorem An.num {B:Nat} {w:World} {v:Value} {V:Int} (h:An B w v V):Num w v V:=by
  obtain ⟨t,d,h1,h2,h3⟩:=h
  obtain ⟨ao,cap,rfl,hR⟩:=h1.row
  exact ⟨ao,t,cap,d,rfl,hR,h2,h3⟩
theorem An.ge {B:Nat} {w:World} {v:Value} {V:Int} (h:An B w v V) {g:Nat} (hg:v.ownBlock=some g):B<=g∧g<w.heap.size:=by
  obtain ⟨t,d,h1,h2,h3⟩:=h
  exact h1.ge hg
def FitA (B:Nat) (w:World) (V:Int) (v:Value) (er:Int):Prop:=(V<P 2000∧er=0∧An B w v V)∨(P 2000<=V∧er=2∧v=.slice none 0 0)
theorem FitA.keeps {B:Nat} {w w':World} {v:Value} {V er:Int} (h:FitA B w V v er) (k:Below w.heap.size w w'):FitA B w' V v er:=by
  rcases h with ⟨h1,h2,h3⟩ | h
  . exact .inl ⟨h1,h2,h3.keeps k⟩
  . exact .inr h
theorem FitA.lower {B B':Nat} {w:World} {v:Value} {V er:Int} (h:FitA B w V v er) (hB:B'<=B):FitA B' w V v er:=by
  rcases h with ⟨h1,h2,h3⟩ | h
  . exact .inl ⟨h1,h2,h3.lower hB⟩
  . exact .inr h
theorem FitA.ge {B:Nat} {w:World} {v:Value} {V er:Int} (h:FitA B w V v er) {g:Nat} (hg:v.ownBlock=some g):B<=g∧g<w.heap.size:=by
  rcases h with ⟨h1,h2,h3⟩ | ⟨_,_,rfl⟩
  . exact h3.ge hg
  . simp [Value.ownBlock] at hg
theorem FitA.shape {B:Nat} {w:World} {v:Value} {V er:Int} (h:FitA B w V v er):∃ ao n cap,v=.slice ao n cap:=by
  rcases h with ⟨h1,h2,h3⟩ | ⟨_,_,rfl⟩
  . exact h3.shape
  . exact ⟨_,_,_,rfl⟩
def lentD (a:Nat->Int) (n:Nat):Nat->Int:=cat a n (fun i=>-71-(i:Int))
def LentA (w w':World) (v:Value) (n:Nat) (a:Nat->Int):Prop:=∃ g cap,v=.slice (some ⟨g,0,none⟩) (n+3) cap∧Out w.heap.size w' v (n+3) (lentD a n)∧Below w.heap.size w w'
theorem LentA.below {w w':World} {v:Value} {n:Nat} {a:Nat->Int} (h:LentA w w' v n a):Below w.heap.size w w':=by
  obtain ⟨g,cap,_,_,hb⟩:=h
  exact hb
theorem LentA.parts {w w':World} {v:Value} {n:Nat} {a:Nat->Int} (h:LentA w w' v n a):∃ g cap,v=.slice (some ⟨g,0,none⟩) (n+3) cap∧Out w.heap.size w' (.slice (some ⟨g,0,none⟩) (n+3) cap) (n+3) (lentD a n):=by
  obtain ⟨g,cap,rfl,h,_⟩:=h
  exact ⟨g,cap,rfl,h⟩
set_option maxHeartbeats 400000 in
theorem rlow_any (ao:Option Addr) (n cap:Nat) (d:Nat->Int) (w:World) (h:Row w ao n cap d) (hd:Dig d n) (hn:n<=100000) :
    Calls Tryz.prog 259 #[.slice ao n cap] w fun e w'=>∃ l,e=.returned (.int .i64 l)∧LowA (val d n) l∧w'=w:=by
  have hl:=h.le
  have hm:=h.max
  go_enter Tryz.func259,Tryz.ntmps259
  go_wp2
  go_loop [3] (fun i=>∃ k:Nat,k<=n∧i=.int .i64 k∧Hid (∀ j,j<k->d j=0)) (fun i=>n-(intOf i).toNat)
  case atStart=>exact ⟨0,Nat.zero_le _,rfl,fun j hj=>by omega⟩
  case round=>
    obtain ⟨k,hk,rfl,HZ⟩:=hrel
    by_cases hlt:k<n
    . obtain ⟨b,off,rfl,hb,hc⟩:=h.spot (by omega)
      have c:=hc k hlt
      have dk:=hd k hlt
      by_cases h0:d k=0
      . have e0:(d k != 0)=false:=by simp [h0]
        go_wp2
        go_round
        case rel=>exact ⟨k+1,by omega,by go_num,fun j hj=>by by_cases e:j=k; (· rw [e]; exact h0); (· exact HZ.out j (by omega))⟩
        case measure=>simp [intOf]; omega
      . have e0:(d k != 0)=true:=by simp [h0]
        have hpos:0<d k:=by omega
        go_wp2
        go_loop [4,5] (fun s v=>∃ (x:Int) (t:Nat),s=.int .i64 ((30*k+t:Nat):Int)∧v=.int .i64 x∧0<x∧x<1073741824∧t<=30∧Hid (x*2^t=d k)) (fun _ v=>(intOf v).toNat)
        case atStart=>exact ⟨d k,0,by go_num,rfl,hpos,dk.2,by omega,by show _=_; simp⟩
        case round=>
          obtain ⟨x,t,rfl,rfl,hx0,hx1,ht,HT⟩:=hrel
          by_cases he:x % 2=0
          . have ee:(x % 2 == 0)=true:=by simp [he]
            have HT2:Hid (x/2*2^(t+1)=d k):=by
              show _=_
              rw [Int.pow_succ,Int.mul_comm (2^t) 2,<- Int.mul_assoc,show x/2*2=x by omega]; exact HT.out
            have ht2:t+1<=30:=by
              have h1:1*2^(t+1)<=x/2*2^(t+1):=Int.mul_le_mul_of_nonneg_right (by omega) (Int.le_of_lt (two_pos _))
              rw [HT2.out] at h1
              have h2:(2:Int)^(t+1)<2^30:=by have:(2:Int)^30=1073741824:=rfl; omega
              have:=two_lt_iff h2
              omega
            go_wp2
            go_round
            case rel=>exact ⟨x/2,t+1,by go_num,rfl,by omega,by omega,ht2,HT2.out⟩
            case measure=>simp [intOf]; omega
          . have ee:(x % 2 == 0)=false:=by simp [he]
            have HL:Hid (IsLow (d k) t):=⟨x/2,by rw [show 2*(x/2)+1=x by omega]; exact HT.out.symm⟩
            go_wp2
            go_ret
            exact ⟨_,rfl,.inr ⟨30*k+t,rfl,isLow_val hlt HZ.out HL.out (low_lt hpos dk.2 HL.out)⟩,rfl⟩
    . obtain rfl:k=n:=by omega
      go_wp2
      go_ret
      exact ⟨_,rfl,.inl ⟨by rw [val_zeros (Nat.zero_le _) (fun i _ hi=>HZ.out i hi)]; rfl,rfl⟩,rfl⟩
set_option maxRecDepth 100000 in
set_option maxHeartbeats 1000000 in
theorem rnorm_any (ng:Bool) (ao:Option Addr) (n cap:Nat) (d:Nat->Int) (e:Int) (w:World) (h:Row w ao n cap d) (hd:Dig d n) (hn:n<=40000) (he0:-4194304<=e) (he1:e<=4194304) :
    Calls Tryz.prog 202 #[.bool ng,.slice ao n cap,.int .i64 e] w fun r w'=>∃ v,r=.returned v∧DAns w w' (sg ng (val d n)*pw e) v:=by
  by_cases h0:val d n=0
  . rw [h0,sg_zero,Int.zero_mul]
    go_enter Tryz.func202,Tryz.ntmps202
    go_wp2_with fail
    refine (rlow_any _ _ _ _ _ (h.keeps (bel_alloc _ _)) hd (by omega)).mono ?_
    rintro r w1 ⟨l,rfl,hl,rfl⟩
    have hl1:l=-1:=by
      rcases hl with ⟨_,h1⟩ | ⟨k,_,m,hm⟩
      . exact h1
      . exfalso
        rw [h0] at hm
        rcases Int.mul_eq_zero.1 hm.symm with x | x
        . omega
        . have:=two_pos k; omega
    subst hl1
    go_wp2
    refine bodyPost_ret (v:=zeroV) (by simp [results,Tryz.results202,go_sem,zeroV]) rfl ⟨_,rfl,?_⟩
    exact DAns.zero (bel_alloc _ _)
  . have hp:0<val d n:=by have:=val_nonneg hd; omega
    go_enter Tryz.func202,Tryz.ntmps202
    go_wp2_with fail
    refine (rlow_any _ _ _ _ _ (h.keeps (bel_alloc _ _)) hd (by omega)).mono ?_
    rintro r w1 ⟨l,rfl,hl,rfl⟩
    have hl2:∃ k:Nat,l=k∧IsLow (val d n) k:=by
      rcases hl with ⟨h1,_⟩ | h1
      . omega
      . exact h1
    obtain ⟨k,rfl,hk⟩:=hl2
    have hkn:k<30*n:=by
      have h1:=val_lt hd
      rw [P_two] at h1
      obtain ⟨a,b,c⟩:=isLow_odd hk hp
      have h2:(1:Int)*2^k<=val d n/2^k*2^k:=Int.mul_le_mul_of_nonneg_right (by omega) (Int.le_of_lt (two_pos k))
      exact two_lt_iff (by omega)
    have hy:=Dy.of ng hk hp he0
    have HY:Hid (Dy (sg ng (val d n)*pw e) ng (val d n/2^k) (e+k)):=hy
    clear hy hl hk
    go_wp2_with fail
    refine (rshr_any _ _ _ k d _ (h.keeps (bel_alloc _ _)) hd (by omega) (by omega)).mono ?_
    rintro r w2 ⟨v,rfl,hA⟩
    obtain ⟨so,sn,sc,rfl⟩:=hA.num.shape
    have q0:=(hA.below.block w.heap.size (by rw [size1]; omega)).trans (heap_a1 _ _)
    have x0:=blkC q0 0 rfl
    have x1:=blkC q0 1 rfl
    have x2:=blkC q0 2 rfl
    have z0:=blkF q0 0
    have z1:=blkF q0 1
    have z2:=blkF q0 2
    go_wp2
    refine bodyPost_ret (v:=.agg #[.bool ng,.slice so sn sc,.int .i64 (e+k)]) (by simp [results,Tryz.results202,go_sem,x0,x1,x2]) rfl ⟨_,rfl,?_⟩
    exact ⟨_,_,_,_,rfl,HY.out,ans_res (g:=w.heap.size) hA (bel_alloc _ _) (Nat.le_refl _) (by rw [size1]; omega) _ _ _⟩
def Bd (B:Nat) (V:Int):Prop:=∃ m:Int,V=m*pw (-(B:Int))∧-(2^(2*B))<m∧m<2^(2*B)
theorem Bd.ok {B:Nat} {V:Int} (h:Bd B V) (hB:B<=29000):Dok V:=by
  obtain ⟨m,rfl,h1,h2⟩:=h
  by_cases h0:m=0
  . rw [h0,Int.zero_mul]; exact dok_zero
  . have key:∀ (ng:Bool) (M:Int),0<M->M<2^(2*B)->Dok (sg ng M*pw (-(B:Int))):=fun ng M hM hlt=>by
      obtain ⟨l,hl⟩:=isLow_ex hM
      have hy:=Dy.of ng hl hM (show -4194304 <= -(B:Int) by omega)
      obtain ⟨c1,c2,c3⟩:=isLow_odd hl hM
      have hl2:l<2*B:=by
        have h3:(1:Int)*2^l<=M/2^l*2^l:=Int.mul_le_mul_of_nonneg_right (by omega) (Int.le_of_lt (two_pos l))
        rw [c3] at h3
        exact two_lt_iff (by omega)
      refine hy.ok.2 ⟨?_,by omega,by omega⟩
      have h4:M/2^l<=M:=Int.ediv_le_self _ (by omega)
      have h5:(2:Int)^(2*B)<=2^(30*2000):=two_le (by omega)
      rw [P_two]
      omega
    by_cases hp:0<m
    . exact key false m hp h2
    . have:=key true (-m) (by omega) (by omega)
      rwa [show sg true (-m)=m by simp [sg]] at this
theorem Bd.up {B C:Nat} {V:Int} (h:Bd B V) (hBC:B<=C) (hC:C<=4194304):Bd C V:=by
  obtain ⟨m,rfl,h1,h2⟩:=h
  have hp:=two_pos (C-B)
  have e:pw (-(B:Int))=pw (-(C:Int))*2^(C-B):=by
    rw [<- pw_add (by omega)]; congr 1; omega
  have hle:(2:Int)^(2*B)*2^(C-B)<=2^(2*C):=by rw [<- Int.pow_add]; exact two_le (by omega)
  refine ⟨m*2^(C-B),by rw [e]; grind,?_,?_⟩
  . have:-(2^(2*B))*2^(C-B)<m*2^(C-B):=Int.mul_lt_mul_of_pos_right h1 hp
    rw [Int.neg_mul] at this
    omega
  . have:=Int.mul_lt_mul_of_pos_right h2 hp
    omega
theorem Bd.add {B:Nat} {V W:Int} (h:Bd B V) (k:Bd B W) (hB:B<4194304):Bd (B+1) (V+W):=by
  obtain ⟨m,rfl,h1,h2⟩:=h
  obtain ⟨n,rfl,k1,k2⟩:=k
  have e:pw (-(B:Int))=pw (-((B+1:Nat):Int))*2:=by
    have:=pw_add (e:=-((B+1:Nat):Int)) (by omega) 1
    rw [Int.pow_succ,Int.pow_zero,Int.one_mul] at this
    rw [<- this]; congr 1; omega
  have e2:(2:Int)^(2*(B+1))=2^(2*B)*4:=by rw [show 2*(B+1)=2*B+2 by omega,Int.pow_add]; rfl
  refine ⟨2*(m+n),by rw [e]; grind,?_,?_⟩ <;> rw [e2] <;> omega
theorem Bd.neg {B:Nat} {V:Int} (h:Bd B V):Bd B (-V):=by
  obtain ⟨m,rfl,h1,h2⟩:=h
  exact ⟨-m,by rw [Int.neg_mul],by omega,by omega⟩
theorem Bd.mul {B:Nat} {V W U:Int} (h:Bd B V) (k:Bd B W) (hU:U*2^4194304=V*W) (hB:B<=1000000):Bd (2*B) U:=by
  obtain ⟨m,rfl,h1,h2⟩:=h
  obtain ⟨n,rfl,k1,k2⟩:=k
  have e:U=m*n*pw (-((2*B:Nat):Int)):=by
    refine scale_inj ?_
    rw [hU,Int.mul_assoc (m*n),show -((2*B:Nat):Int)=-(B:Int) + -(B:Int) by omega,<- pw_mul (by omega) (by omega)]; grind
  refine ⟨m*n,e,?_,?_⟩
  all_goals
    have hab:(m*n).natAbs<((2:Int)^(2*(2*B))).natAbs:=by
      rw [Int.natAbs_mul,show 2*(2*B)=2*B+2*B by omega,Int.pow_add,Int.natAbs_mul]
      exact Nat.mul_lt_mul'' (by have:=two_pos (2*B); omega) (by have:=two_pos (2*B); omega)
    have:=two_pos (2*(2*B))
    omega
theorem bd_num {ng:Bool} {M e:Int} (h0:0<=M) (h1:M<P 30) (e0:-3000<e) (e1:e<3000):Bd 4000 (sg ng M*pw e):=by
  have hs:pw e=pw (-((4000:Nat):Int))*2^(e+4000).toNat:=by
    rw [<- pw_add (by omega)]; congr 1; omega
  have hp:=two_pos (e+4000).toNat
  have hlt:M*2^(e+4000).toNat<2^(2*4000):=by
    have a:M*2^(e+4000).toNat<P 30*2^(e+4000).toNat:=Int.mul_lt_mul_of_pos_right h1 hp
    rw [P_two,<- Int.pow_add] at a
    have b:(2:Int)^(30*30+(e+4000).toNat)<=2^(2*4000):=two_le (by omega)
    omega
  have hn:0<=M*2^(e+4000).toNat:=Int.mul_nonneg h0 (Int.le_of_lt hp)
  refine ⟨sg ng (M*2^(e+4000).toNat),by rw [hs,sg_sgn,sg_sgn]; grind,?_,?_⟩
  all_goals
    generalize M*2^(e+4000).toNat=X at *
    generalize (2:Int)^(2*4000)=T at *
    cases ng <;> simp only [sg] <;> simp <;> omega
end Go.Proofs.YtjjihmnbdeeedaaGreatDoor
namespace Go.Proofs.YtjjihmnbdeeedaaGreatDoor
open Go Go.ChangeShapes Go.WideShapes Go.ChangeAt Go.RowKit Go.Proofs.YtjjihmnbdeeedaaGreatDoor.M
theorem rng_of {x:Int} (h:(Lit.int .i64 x).wf=true):rng x:=by
  simp [Lit.wf,IntKind.min,IntKind.max,IntKind.signed,IntKind.bits] at h
  unfold rng; omega
end Go.Proofs.YtjjihmnbdeeedaaGreatDoor
namespace Go.Proofs.YtjjihmnbdeeedaaGreatDoor
open Go Go.RowKit Go.ChangeShapes Go.Proofs.YtjjihmnbdeeedaaGreatDoor.M
theorem gTab : Tryz.prog.globalNamed "math/bits.deBruijn64tab" = some 3 := by kernel_rfl
theorem gTabType:(Tryz.prog.globals[(3:Nat)]?).map (·.type)=some 292:=by kernel_rfl
theorem cellsTab:Tryz.prog.cellsOf 292=64:=by kernel_rfl
theorem cellsByte:Tryz.prog.cellsOf 5=1:=by kernel_rfl
def tabInts:List Int:=Lib.deBruijn64tab.map Int.ofNat
theorem tab_get:∀ j,j<64->tabInts.getD j 0=((Lib.deBruijn64tab.getD j 0:Nat):Int):=by decide +kernel
theorem cellsInt:Tryz.prog.cellsOf 3=1:=by kernel_rfl
theorem cellsLayout:Tryz.prog.cellsOf 255=3:=by kernel_rfl
theorem g64 : Tryz.prog.globalNamed "plumb/bits.binary64" = some 1 := by kernel_rfl
theorem g64Type:(Tryz.prog.globals[(1:Nat)]?).map (·.type)=some 255:=by kernel_rfl
set_option maxRecDepth 100000 in
theorem three {W:World} {name:String} {g:Nat} {a b c:Int} {rest:List (String × DataW Unit)} (hg:Tryz.prog.globalNamed name=some g) (hty:(Tryz.prog.globals[g]?).map (·.type)=some 255)
    (h:laidMet Tryz.prog ((name,.agg [.lit (.int .i64 a),.lit (.int .i64 b),.lit (.int .i64 c)]) :: rest) W) :
    W.cell? ⟨g,0,none⟩=some (.int .i64 a)∧W.cell? ⟨g,1,none⟩=some (.int .i64 b)∧W.cell? ⟨g,2,none⟩=some (.int .i64 c):=by
  obtain ⟨ps,⟨g',t',cs,fuel,p,q,hg',ht',hvar,hd,_,_⟩,_⟩:=h
  obtain rfl:=Option.some.inj (hg.symm.trans hg')
  obtain rfl:=Option.some.inj (hty.symm.trans ht')
  obtain ⟨y0,y1,y2,n,hx,hl,h0,h1,h2⟩:=Go.Deep.trod_struct3 Tryz.underlying255 hd
  obtain ⟨k0,e0,f0,_⟩:=DataW.trod_int Tryz.underlying3 h0
  obtain ⟨k1,e1,f1,_⟩:=DataW.trod_int Tryz.underlying3 h1
  obtain ⟨k2,e2,f2,_⟩:=DataW.trod_int Tryz.underlying3 h2
  rw [f0,f1,f2] at hx
  simp only [Prod.mk.injEq,DataW.agg.injEq,List.cons.injEq,DataW.lit.injEq,Lit.int.injEq,true_and,and_true] at hx
  obtain ⟨⟨rfl,rfl,rfl⟩,_⟩:=hx
  rw [cellsLayout] at hl
  rw [cellsInt] at e0 e1 e2
  have v:=fun i=>World.var?_cell hg hvar i
  obtain ⟨l⟩:=cs
  simp only at hl e0 e1 e2
  match l,hl with
  | [c0,c1,c2],_=>
    simp at e0 e1 e2
    subst e0 e1 e2
    exact ⟨by simpa using v 0,by simpa using v 1,by simpa using v 2⟩
end Go.Proofs.YtjjihmnbdeeedaaGreatDoor
namespace Go.Proofs.YtjjihmnbdeeedaaGreatDoor
open Go Go.ChangeShapes Go.WideShapes Go.ChangeAt Go.RowKit Go.Proofs.YtjjihmnbdeeedaaGreatDoor.M
structure Hold (w:World):Prop where
  lay:Lay64 w
  tab:Tab w
theorem Hold.keeps {w w':World} (h:Hold w) (hb:Below w.heap.size w w'):Hold w':=⟨h.lay.keeps hb,h.tab.keeps hb⟩
theorem hold_of {W : World} (h : laidMetH Tryz.prog [("math/bits.deBruijn32tab", Rows.laid_math_bits_deBruijn32tab), ("math/bits.deBruijn64tab", Rows.laid_math_bits_deBruijn64tab), ("plumb/bits.binary64", Rows.laid_plumb_bits_binary64)] W) : Hold W := by
  rw [MakeChecks.laidMetH_plain _ _ _ (by kernel_rfl)] at h
  have h' : laidMet Tryz.prog (("math/bits.deBruijn64tab", Lib.tabData .u8 tabInts) :: [("plumb/bits.binary64", Rows.laid_plumb_bits_binary64)]) W := h.tail
  have t:=Lib.tabIs_of_head gTab gTabType Tryz.underlying292 Tryz.underlying5 cellsByte cellsTab h'
  obtain ⟨a0,a1,a2⟩:=three g64 g64Type h'.tail
  refine ⟨⟨a0,a1,a2⟩,fun j hj=>?_⟩
  rw [<- tab_get j hj]
  exact t.cell gTab j (by exact hj)
end Go.Proofs.YtjjihmnbdeeedaaGreatDoor
namespace Go.Proofs.YtjjihmnbdeeedaaGreatDoor
open Go Go.RowKit Go.Proofs.YtjjihmnbdeeedaaGreatDoor.M
theorem dans_shape {w w':World} {V:Int} {v:Value} (h:DAns w w' V v):∃ ng so sn sc e,v=.agg #[.bool ng,.slice so sn sc,.int .i64 e]:=by
  obtain ⟨ng,s,m,e,h1,_,hA⟩:=h
  obtain ⟨so,sn,sc,rfl⟩:=hA.num.shape
  exact ⟨_,_,_,_,_,h1⟩
theorem add_B {w:World} {x y:Value} {A B:Int} {k:Nat} (hx:DNum w x A) (hy:DNum w y B) (bA:Bd k A) (bB:Bd k B) (hk:k<=28000) (hT:Tab w) :
    Calls Tryz.prog 97 #[x,y] w fun r w'=>∃ v,r=.returned (.tuple #[v,.int .i64 0])∧DAns w w' (A+B) v:=by
  refine (add_D hx hy (bA.ok (by omega)) (bB.ok (by omega)) hT).mono ?_
  rintro r w' ⟨v,er,rfl,hF⟩
  obtain ⟨rfl,hD⟩:=hF.yes ((bA.add bB (by omega)).ok (by omega))
  exact ⟨v,rfl,hD⟩
theorem sub_B {w:World} {x y:Value} {A B:Int} {k:Nat} (hx:DNum w x A) (hy:DNum w y B) (bA:Bd k A) (bB:Bd k B) (hk:k<=28000) (hT:Tab w) :
    Calls Tryz.prog 98 #[x,y] w fun r w'=>∃ v,r=.returned (.tuple #[v,.int .i64 0])∧DAns w w' (A-B) v:=by
  refine (sub_D hx hy (bA.ok (by omega)) (bB.ok (by omega)) hT).mono ?_
  rintro r w' ⟨v,er,rfl,hF⟩
  have hb:=bA.add bB.neg (by omega)
  rw [<- Int.sub_eq_add_neg] at hb
  obtain ⟨rfl,hD⟩:=hF.yes (hb.ok (by omega))
  exact ⟨v,rfl,hD⟩
theorem mul_B {w:World} {x y:Value} {A B:Int} {k:Nat} (hx:DNum w x A) (hy:DNum w y B) (bA:Bd k A) (bB:Bd k B) (hk:k<=14000) (hT:Tab w) :
    Calls Tryz.prog 99 #[x,y] w fun r w'=>∃ v C,r=.returned (.tuple #[v,.int .i64 0])∧DAns w w' C v∧C*2^4194304=A*B∧Bd (2*k) C:=by
  refine (mul_D hx hy (bA.ok (by omega)) (bB.ok (by omega)) hT).mono ?_
  rintro r w' ⟨v,er,C,rfl,hC,hF⟩
  have hb:=bA.mul bB hC (by omega)
  obtain ⟨rfl,hD⟩:=hF.yes (hb.ok (by omega))
  exact ⟨v,C,rfl,hD,hC,hb⟩
def patV (b:Int):Int:=sg (pneg b) (pmag b)*pw (pexp b)
def ordP (A b:Int):Int:=if pok b=true then ord A (patV b) else if b<0 then 1 else -1
end Go.Proofs.YtjjihmnbdeeedaaGreatDoor
namespace Go.Proofs.YtjjihmnbdeeedaaGreatDoor
open Go Go.Proofs.YtjjihmnbdeeedaaGreatDoor.M
def vS (r:Nat):Int:=(V Ieee.double r:Int)*pw (-1074)
theorem vS_lt {r s:Nat} (h:r<s):vS r<vS s:=Int.mul_lt_mul_of_pos_right (by have:=V_lt Ieee.double h; omega) (pw_pos _)
structure Rung (A:Int) (r0:Nat) (left:Int):Prop where
  lo:vS r0<=A
  hi:A<vS (r0+1)
  l0:left=0 ↔ A=vS r0
  l1:left=1 ↔ vS r0<A∧2*A<vS r0+vS (r0+1)
  l2:left=2 ↔ 2*A=vS r0+vS (r0+1)
  l3:left=3 ↔ vS r0+vS (r0+1)<2*A
def rTo (way:Int) (ng:Bool) (r0:Nat) (left:Int):Int:=if (r0:Int)<9218868437227405312 then (r0:Int)+(if rUp way ng (decide (r0 % 2=1)) left then 1 else 0) else bRung way ng
theorem rUp_left {way:Int} {ng odd:Bool} (h:rUp way ng odd 0=true):False:=by
  unfold rUp at h
  split at h
  . simp at h
  . split at h
    . simp at h
    . split at h <;> simp at h
theorem rUp_more {way:Int} {ng odd:Bool} {left:Int} (h:rUp way ng odd left=true):rUp way ng true 3=true:=by
  unfold rUp at *
  split at h
  . rename_i h1; rw [if_pos h1]; rfl
  . rename_i h1
    rw [if_neg h1]
    split at h
    . rename_i h2; rw [if_pos h2]; simp at h; simp [h.2]
    . rename_i h2
      rw [if_neg h2]
      split at h
      . rename_i h3; rw [if_pos h3]; simp at h; simp [h.2]
      . cases h
theorem left_rung {A:Int} {u a r0:Nat} {left:Int} (h:M.Left A u (2^a*pw (-1074)) left) (h1:V Ieee.double r0=u*2^a) (h2:V Ieee.double (r0+1)=(u+1)*2^a):Rung A r0 left:=by
  obtain ⟨lo,hi,l0,l1,l2,l3⟩:=h
  have e1:vS r0=(u:Int)*(2^a*pw (-1074)):=by
    unfold vS
    rw [h1]
    push_cast
    rw [Int.mul_assoc]
  have e2:vS (r0+1)=(u:Int)*(2^a*pw (-1074))+2^a*pw (-1074):=by
    unfold vS
    rw [h2]
    push_cast
    rw [Int.add_mul,Int.add_mul,Int.one_mul,Int.mul_assoc]
  generalize (2:Int)^a*pw (-1074)=q at *
  generalize (u:Int)*q=U at *
  exact ⟨by omega,by omega,by rw [e1]; exact l0,by rw [e1,e2,l1]; constructor <;> intro h <;> omega,by rw [e1,e2,l2]; constructor <;> intro h <;> omega,by rw [e1,e2,l3]; constructor <;> intro h <;> omega⟩
theorem r64_spec {way:Int} {ng sd:Bool} {A:Int} {mag:Nat} {exp:Int} {cut:Bool} (hA:Held A mag exp cut) (hm:mag<2^64) (h0:mag≠0) (he:-4194304<=exp) (hc:cut=true->2^60<=mag) :
    ∃ (r0:Nat) (left:Int),Rung A r0 left∧r64 way ng sd mag exp cut=(patS (ng && (decide (0<rTo way ng r0 left) || sd)) (rTo way ng r0 left),decide (left≠0) || decide (9218868437227405312<=(r0:Int))):=by
  have e64:(2:Nat)^64=18446744073709551616:=by decide
  obtain ⟨b1,b2,b3,b4⟩:=M.bitLen_spec mag hm h0
  have hbits:=rU_bits (size:=53) (low:=-1074) (exp:=exp) (by decide) hm h0
  have hE1:-1074<=rE 53 (-1074) mag exp:=by unfold rE; omega
  have hcs:cut=true->0<rE 53 (-1074) mag exp-exp:=fun h=>by
    have h1:=hc h
    have h2:60<Lib.bitLen mag:=by
      have:=(Nat.pow_lt_pow_iff_right (by decide:1<2)).1 (Nat.lt_of_le_of_lt h1 b2)
      exact this
    unfold rE
    omega
  have hL:=left_of hA hcs (by omega) he
  obtain ⟨E,hE⟩:∃ E,rE 53 (-1074) mag exp=E:=⟨_,rfl⟩
  have HR:r64 way ng sd mag exp cut=(let E:=rE 53 (-1074) mag exp
    let u:=rU mag (E-exp)
    let left:=rL mag cut (E-exp)
    let U:=u+(if rUp way ng (decide (u % 2=1)) left then 1 else 0)
    let neg:=ng && (decide (0<U) || sd)
    if jk 52 2047 (-1074) U E then (jp neg U E,decide (left≠0)) else (patS neg (bRung way neg),true)):=rfl
  simp only at HR
  rw [hE] at hbits hE1 hL HR
  obtain ⟨u,hu⟩:∃ u,rU mag (E-exp)=u:=⟨_,rfl⟩
  obtain ⟨left,hl⟩:∃ l,rL mag cut (E-exp)=l:=⟨_,rfl⟩
  rw [hu] at hbits hL HR
  rw [hl] at hL HR
  obtain ⟨a,ha⟩:∃ a,(E - -1074).toNat=a:=⟨_,rfl⟩
  have e53:(2:Nat)^(53:Int).toNat=9007199254740992:=by decide
  have e52:(2:Nat)^((53:Int).toNat-1)=4503599627370496:=by decide
  rw [e53,e52] at hbits
  have eB:Ieee.double.binade=4503599627370496:=by decide
  have hV:=V_rung Ieee.double a u (by rw [eB]; omega) (fun h=>by rw [eB]; exact hbits.2 (by omega))
  rw [eB] at hV
  have hpw:pw E=2^a*pw (-1074):=by rw [pw_sub (e:=E) (low:=-1074) (by decide) hE1,ha]
  rw [hpw] at hL
  refine ⟨a*4503599627370496+u,left,left_rung hL hV.1 hV.2,?_⟩
  rw [HR]
  have hodd:decide ((a*4503599627370496+u) % 2=1)=decide (u % 2=1):=by congr 1; apply propext; omega
  unfold rTo
  rw [hodd]
  obtain ⟨R,hR⟩:∃ R,rUp way ng (decide (u % 2=1)) left=R:=⟨_,rfl⟩
  rw [hR]
  obtain ⟨U,hU⟩:∃ U,u+(if R=true then 1 else 0)=U:=⟨_,rfl⟩
  rw [hU]
  have hR1:R=true->left≠0:=fun h hz=>by rw [hz,h] at hR; exact rUp_left hR
  have hR2:R=true->rUp way ng true 3=true:=fun h=>rUp_more (hR.trans h)
  have hUle:U<=9007199254740992:=by rw [<- hU]; split <;> omega
  have hcast:((a*4503599627370496+u:Nat):Int)+(if R=true then 1 else 0)=((a*4503599627370496+U:Nat):Int):=by
    rw [<- hU]
    cases R <;> simp only [if_true,if_false,Bool.false_eq_true] <;> omega
  rw [hcast]
  by_cases hU0:U=0
  . have hu0:u=0:=by rw [<- hU] at hU0; omega
    have ha0:a=0:=by
      rcases Nat.eq_zero_or_pos a with h | h
      . exact h
      . have:=hbits.2 (by omega); omega
    subst hU0 hu0 ha0
    have hj:jk 52 2047 (-1074) ((0:Nat):Int) E=true:=rfl
    rw [hj]
    rw [if_pos rfl,if_pos (by decide)]
    have hd:decide (9218868437227405312<=((0*4503599627370496+0:Nat):Int))=false:=by decide
    rw [hd,Bool.or_false]
    cases ng <;> cases sd <;> rfl
  . have hjr:=join_rung Ieee.double 52 (by decide) dB 2047 (-1074) (by decide) U E (by omega) (by rw [show (2:Nat)^(52+1)=9007199254740992 by decide]; exact hUle) hE1 (fun h=>by rw [show (2:Nat)^52=4503599627370496 by decide]; have:=hbits.2 h; rw [<- hU]; omega)
    simp only at hjr
    rw [ha,show (2:Nat)^52=4503599627370496 by decide,show (2047:Int)*2^52=9218868437227405312 by decide] at hjr
    obtain ⟨j1,j2⟩:=hjr
    have hpos:decide (0<U)=true:=decide_eq_true (by omega)
    rw [show jk ((52:Nat):Int) 2047 (-1074) (U:Int) E=jk 52 2047 (-1074) (U:Int) E from rfl] at j1
    rw [j1,hpos,Bool.true_or,Bool.and_true]
    by_cases hf:((a*4503599627370496+U:Nat):Int)<9218868437227405312
    . have huU:u<=U:=by rw [<- hU]; omega
      have hf0:((a*4503599627370496+u:Nat):Int)<9218868437227405312:=by omega
      rw [decide_eq_true hf,if_pos rfl,if_pos hf0,decide_eq_false (p:=9218868437227405312<=((a*4503599627370496+u:Nat):Int)) (by omega),Bool.or_false]
      have hd:decide (0<((a*4503599627370496+U:Nat):Int))=true:=decide_eq_true (by omega)
      rw [hd,Bool.true_or,Bool.and_true]
      congr 1
      have hjk:jk 52 2047 (-1074) (U:Int) E=true:=by rw [j1]; exact decide_eq_true hf
      have hjv:=j2 hf
      rw [show jv ((52:Nat):Int) 2047 (-1074) (U:Int) E=jv 52 2047 (-1074) (U:Int) E from rfl] at hjv
      unfold jp patS
      rw [hjk,hjv,Bool.true_and]
    . rw [decide_eq_false hf,if_neg (by simp)]
      by_cases hf0:((a*4503599627370496+u:Nat):Int)<9218868437227405312
      . have hRt:R=true:=by
          cases R
          . exfalso; simp at hU; omega
          . rfl
        have hUe:((a*4503599627370496+U:Nat):Int)=9218868437227405312:=by rw [hRt] at hU; simp at hU; omega
        rw [if_pos hf0,hUe,decide_eq_true (hR1 hRt),Bool.true_or]
        congr 1
        have:bRung way ng=9218868437227405312:=by unfold bRung; rw [hR2 hRt,if_pos rfl]
        rw [this]
        simp
      . rw [if_neg hf0,decide_eq_true (p:=9218868437227405312<=((a*4503599627370496+u:Nat):Int)) (by omega),Bool.or_true]
        congr 1
        have hd:decide (0<bRung way ng)=true:=by unfold bRung; split <;> decide
        rw [hd,Bool.true_or,Bool.and_true]
end Go.Proofs.YtjjihmnbdeeedaaGreatDoor
namespace Go.Proofs.YtjjihmnbdeeedaaGreatDoor
open Go Go.RowKit Go.Proofs.YtjjihmnbdeeedaaGreatDoor.M
theorem held_cut {M e:Int} (h:0<=M) (he:-4194304<=e) (k:Nat):Held (M*pw e) (M/2^k).toNat (e+k) (decide (M % 2^k≠0)):=by
  have hp:=two_pos k
  have hq:=pw_pos e
  have h0:0<=M/2^k:=Int.ediv_nonneg h (by omega)
  have hm0:=Int.emod_nonneg M (show (2:Int)^k≠0 by omega)
  have hm1:=Int.emod_lt_of_pos M hp
  have hd:=Int.mul_ediv_add_emod M (2^k)
  unfold Held
  rw [Int.toNat_of_nonneg h0,pw_add he]
  generalize M/2^k=Q at *
  generalize M % 2^k=T at *
  generalize pw e=q at *
  generalize (2:Int)^k=D at *
  have e1:Q*(q*D)=(D*Q)*q:=by rw [Int.mul_comm q D,<- Int.mul_assoc,Int.mul_comm Q D]
  have e2:(Q+1)*(q*D)=(D*Q)*q+D*q:=by rw [Int.add_mul,e1,Int.one_mul,Int.mul_comm q D]
  have e3:M*q=(D*Q)*q+T*q:=by rw [<- hd,Int.add_mul]
  rw [e2,e1,e3]
  have t0:0<=T*q:=Int.mul_nonneg hm0 (by omega)
  have t1:T*q<D*q:=Int.mul_lt_mul_of_pos_right hm1 hq
  refine ⟨by omega,by omega,?_⟩
  rw [decide_eq_false_iff_not]
  constructor
  . intro h
    have:T=0:=by omega
    rw [this]; simp
  . intro h hT
    have:0<T*q:=Int.mul_pos (by omega) hq
    omega
theorem to_rung {way:Int} {x:NumR} (ok:okR x=true) (h0:0<x.n) :
    ∃ (r0:Nat) (left:Int),Rung (val x.d x.n*pw x.e) r0 left∧r64 way x.ng false (val x.d x.n/2^vK (val x.d x.n)).toNat (x.e+vK (val x.d x.n)) (decide (val x.d x.n % 2^vK (val x.d x.n)≠0))=(patS (x.ng && (decide (0<rTo way x.ng r0 left) || false)) (rTo way x.ng r0 left),decide (left≠0) || decide (9218868437227405312<=(r0:Int))):=by
  obtain ⟨na,hn,he0,he1⟩:=okR_sane ok
  have hv:=val_pos na h0
  have hsm:=vK_small (Int.le_of_lt hv)
  have hb:=blen_pos hv
  have hp:=two_pos (vK (val x.d x.n))
  have hge:2^(blen (val x.d x.n)-1-vK (val x.d x.n))<=val x.d x.n/2^vK (val x.d x.n):=by
    rw [Int.le_ediv_iff_mul_le hp,<- Int.pow_add]
    by_cases hk:vK (val x.d x.n)<=blen (val x.d x.n)-1
    . rw [show blen (val x.d x.n)-1-vK (val x.d x.n)+vK (val x.d x.n)=blen (val x.d x.n)-1 by omega]
      exact hb.2
    . exfalso; unfold vK at hk; omega
  have hpos:=two_pos (blen (val x.d x.n)-1-vK (val x.d x.n))
  have e64:(2:Nat)^64=18446744073709551616:=by decide
  have e60:(2:Nat)^60=1152921504606846976:=by decide
  refine r64_spec (held_cut (Int.le_of_lt hv) (by omega) _) (by omega) (by omega) (by omega) (fun hc=>?_)
  have hk0:0<vK (val x.d x.n):=by
    rcases Nat.eq_zero_or_pos (vK (val x.d x.n)) with h | h
    . rw [h,Int.pow_zero,Int.emod_one] at hc; simp at hc
    . exact h
  have h61:blen (val x.d x.n)-1-vK (val x.d x.n)=61:=by unfold vK at hk0 ⊢; omega
  rw [h61] at hge
  have e61:(2:Int)^61=2305843009213693952:=by decide
  rw [e61] at hge
  omega
theorem patS_facts {ng:Bool} {r:Int} (h0:0<=r) (h1:r<=9218868437227405312) (h:ng=true->0<r):rng (patS ng r)∧rg (patS ng r)=r∧(patS ng r<0 ↔ ng=true):=by
  unfold patS rg rng
  cases ng
  . simp only [Bool.false_eq_true,if_false]
    exact ⟨by omega,by rw [if_neg (by omega)],by omega,fun h=>by cases h⟩
  . simp only [if_true]
    exact ⟨by have:=h rfl; omega,by have:=h rfl; rw [if_pos (by omega)]; omega,fun _=>trivial,fun _=>by omega⟩
theorem patS_pok {ng:Bool} {r:Int} (h0:0<=r) (h1:r<=9218868437227405312) (h:ng=true->0<r):pok (patS ng r)=decide (r<9218868437227405312):=by
  obtain ⟨a,b,c⟩:=patS_facts h0 h1 h
  have hp:=rg_parts a
  rw [b] at hp
  have hf:0<=frc (patS ng r)∧frc (patS ng r)<4503599627370496:=by unfold frc; omega
  unfold pok
  by_cases hr:r<9218868437227405312
  . rw [decide_eq_true hr]
    simp
    omega
  . rw [decide_eq_false hr]
    simp
    omega
theorem patV_patS {ng:Bool} {r:Nat} (h1:(r:Int)<9218868437227405312) (h:ng=true->0<r):patV (patS ng r)=sg ng (vS r):=by
  have hh:ng=true->(0:Int)<r:=fun q=>by have:=h q; omega
  obtain ⟨a,b,c⟩:=patS_facts (ng:=ng) (r:=(r:Int)) (by omega) (by omega) hh
  have hp:pok (patS ng r)=true:=by rw [patS_pok (by omega) (by omega) hh]; exact decide_eq_true h1
  have hV:=V_rg a hp
  rw [b,Int.toNat_natCast] at hV
  obtain ⟨i0,i1,i2,i3⟩:=pmag_in hp
  have hn:pneg (patS ng r)=ng:=by
    unfold pneg
    rw [hp,Bool.true_and]
    cases ng
    . exact decide_eq_false (fun q=>by have:=c.1 q; cases this)
    . exact decide_eq_true (c.2 rfl)
  unfold patV vS
  rw [hV,hn]
  have e:pw (pexp (patS ng r))=2^(pexp (patS ng r)+1074).toNat*pw (-1074):=by
    rw [pw_sub (e:=pexp (patS ng r)) (low:=-1074) (by decide) i2]
    congr 2
  have e2:(((pmag (patS ng r)).toNat*2^(pexp (patS ng r)+1074).toNat:Nat):Int)*pw (-1074)=pmag (patS ng r)*pw (pexp (patS ng r)):=by
    push_cast
    rw [Int.toNat_of_nonneg i0,e,Int.mul_assoc]
  rw [e2]
  cases ng
  . rfl
  . show -pmag _*_=-(pmag _*_)
    rw [Int.neg_mul]
theorem Rung.unique {A:Int} {r s:Nat} {l k:Int} (h:Rung A r l) (g:Rung A s k):r=s∧l=k:=by
  have e:r=s:=by
    rcases Nat.lt_trichotomy r s with q | q | q
    . exfalso
      have h1:=h.hi
      have h2:=g.lo
      rcases Nat.lt_or_eq_of_le (show r+1<=s from q) with q2 | q2
      . have:=vS_lt q2; omega
      . rw [q2] at h1; omega
    . exact q
    . exfalso
      have h1:=g.hi
      have h2:=h.lo
      rcases Nat.lt_or_eq_of_le (show s+1<=r from q) with q2 | q2
      . have:=vS_lt q2; omega
      . rw [q2] at h1; omega
  subst e
  refine ⟨rfl,?_⟩
  have a0:=h.lo
  by_cases c0:A=vS r
  . rw [h.l0.2 c0,g.l0.2 c0]
  . by_cases c1:2*A<vS r+vS (r+1)
    . rw [h.l1.2 ⟨by omega,c1⟩,g.l1.2 ⟨by omega,c1⟩]
    . by_cases c2:2*A=vS r+vS (r+1)
      . rw [h.l2.2 c2,g.l2.2 c2]
      . rw [h.l3.2 (by omega),g.l3.2 (by omega)]
def toR (way:Int) (x:NumR):Int × Bool:=r64 way x.ng false (val x.d x.n/2^vK (val x.d x.n)).toNat (x.e+vK (val x.d x.n)) (decide (val x.d x.n % 2^vK (val x.d x.n)≠0))
theorem to_all {x:NumR} (ok:okR x=true) (h0:0<x.n):∃ (r0:Nat) (left:Int),Rung (val x.d x.n*pw x.e) r0 left∧∀ way,toR way x=(patS (x.ng && decide (0<rTo way x.ng r0 left)) (rTo way x.ng r0 left),decide (left≠0) || decide (9218868437227405312<=(r0:Int))):=by
  obtain ⟨r0,left,hR,_⟩:=to_rung (way:=0) ok h0
  refine ⟨r0,left,hR,fun way=>?_⟩
  obtain ⟨r1,l1,hR1,e1⟩:=to_rung (way:=way) ok h0
  obtain ⟨rfl,rfl⟩:=hR.unique hR1
  unfold toR
  rw [e1,Bool.or_false]
theorem to_zero {x:NumR} (ok:okR x=true) (h0:x.n=0) (way:Int):toR way x=(0,false):=by
  have hz:x.ng=false∧x.e=0:=by
    have:=of_decide_eq_true ok
    rcases this with ⟨_,a,b⟩ | ⟨a,_⟩
    . exact ⟨a,b⟩
    . omega
  have hv:val x.d x.n=0:=by rw [h0]; rfl
  unfold toR
  rw [hv,hz.1,hz.2]
  have e:r64 way false false ((0:Int)/2^vK 0).toNat (0+(vK 0:Int)) (decide ((0:Int) % 2^vK 0≠0))=r64 way false false 0 0 false:=by
    rw [show vK 0=0 by decide]
    rfl
  rw [e]
  have HR:r64 way false false 0 0 false=(let E:=rE 53 (-1074) 0 0
    let u:=rU 0 (E-0)
    let left:=rL 0 false (E-0)
    let U:=u+(if rUp way false (decide (u % 2=1)) left then 1 else 0)
    let neg:=false && (decide (0<U) || false)
    if jk 52 2047 (-1074) U E then (jp neg U E,decide (left≠0)) else (patS neg (bRung way neg),true)):=rfl
  rw [HR]
  have hE:rE 53 (-1074) 0 0=-53:=by decide
  simp only [hE]
  have hu:rU 0 (-53-0)=0:=by decide
  have hl:rL 0 false (-53-0)=0:=by decide
  simp only [hu,hl]
  have hr:rUp way false (decide (0 % 2=1)) 0=false:=by
    cases h:rUp way false (decide (0 % 2=1)) 0
    . rfl
    . exact absurd h (fun q=>rUp_left q)
  rw [hr]
  rfl
theorem vS_zero:vS 0=0:=by unfold vS; rw [V_zero]; simp
theorem ordP_pat {A:Int} {ng:Bool} {r:Nat} (h:(r:Int)<9218868437227405312):ordP A (patS (ng && decide ((0:Int)<r)) r)=ord A (sg ng (vS r)):=by
  by_cases h0:r=0
  . subst h0
    have e:(ng && decide ((0:Int)<((0:Nat):Int)))=false:=by simp
    rw [e,vS_zero]
    have hp:pok (patS false ((0:Nat):Int))=true:=by decide
    have hv:patV (patS false ((0:Nat):Int))=0:=by rw [patV_patS (by decide) (fun q=>by cases q),vS_zero]; rfl
    unfold ordP
    rw [if_pos hp,hv]
    cases ng <;> rfl
  . have e:(ng && decide ((0:Int)<(r:Int)))=ng:=by rw [decide_eq_true (by omega),Bool.and_true]
    rw [e]
    have hp:pok (patS ng r)=true:=by rw [patS_pok (by omega) (by omega) (fun _=>by omega)]; exact decide_eq_true h
    unfold ordP
    rw [if_pos hp,patV_patS h (fun _=>by omega)]
theorem ordP_inf {A:Int} {ng:Bool}:ordP A (patS (ng && decide ((0:Int)<9218868437227405312)) 9218868437227405312)=if ng then 1 else -1:=by
  cases ng <;> rfl
theorem rUp_down (ng odd:Bool) (left:Int):rUp 1 ng odd left=(decide (left≠0) && ng):=rfl
theorem rUp_up (ng odd:Bool) (left:Int):rUp 2 ng odd left=(decide (left≠0) && !ng):=rfl
theorem rUp_zero (ng odd:Bool) (left:Int):rUp 3 ng odd left=false:=rfl
theorem rTo_fin {ng:Bool} {r0:Nat} {left:Int} (h:(r0:Int)<9218868437227405312) :
    rTo 1 ng r0 left=(if left≠0∧ng=true then ((r0+1:Nat):Int) else (r0:Int))∧rTo 2 ng r0 left=(if left≠0∧ng=false then ((r0+1:Nat):Int) else (r0:Int))∧rTo 3 ng r0 left=(r0:Int)∧(rTo 0 ng r0 left=(r0:Int)∨(left≠0∧rTo 0 ng r0 left=((r0+1:Nat):Int))):=by
  unfold rTo
  simp only [if_pos h]
  refine ⟨?_,?_,?_,?_⟩
  . rw [rUp_down]
    by_cases h0:left=0
    . subst h0; simp
    . cases ng <;> simp [h0]
  . rw [rUp_up]
    by_cases h0:left=0
    . subst h0; simp
    . cases ng <;> simp [h0]
  . rw [rUp_zero]
    simp
  . cases hu:rUp 0 ng (decide (r0 % 2=1)) left
    . left; simp
    . right
      refine ⟨fun hz=>?_,by simp⟩
      rw [hz] at hu
      exact rUp_left hu
theorem rTo_inf {ng:Bool} {r0:Nat} {left:Int} (h:¬ (r0:Int)<9218868437227405312) :
    rTo 1 ng r0 left=(if ng=true then 9218868437227405312 else 9218868437227405311)∧rTo 2 ng r0 left=(if ng=true then 9218868437227405311 else 9218868437227405312)∧rTo 3 ng r0 left=9218868437227405311∧rTo 0 ng r0 left=9218868437227405312:=by
  unfold rTo
  simp only [if_neg h]
  cases ng <;> decide
theorem cls_rg {b:Int} (hb:rng b):(cls b=4 ↔ 9218868437227405312<rg b)∧(cls b=0 ↔ rg b=0):=by
  obtain ⟨h0,h1⟩:=rg_parts hb
  have hf:0<=frc b∧frc b<4503599627370496:=by unfold frc; omega
  have hg:0<=fld b∧fld b<2048:=by unfold fld; omega
  generalize rg b=r at *
  unfold cls
  generalize fld b=f at *
  generalize frc b=c at *
  constructor
  . split
    . split <;> constructor <;> intro h <;> omega
    . split
      . split <;> constructor <;> intro h <;> omega
      . constructor <;> intro h <;> omega
  . split
    . split <;> constructor <;> intro h <;> omega
    . split
      . split <;> constructor <;> intro h <;> omega
      . constructor <;> intro h <;> omega
theorem up_pos {r:Int} (h0:0<=r) (h1:r<9218868437227405312):canon (next (patS false r))=r+1:=by
  have e:patS false r=r:=rfl
  rw [e]
  have a1:rng r:=by unfold rng; omega
  have a2:rng (r+1):=by unfold rng; omega
  have g1:rg r=r:=by unfold rg; rw [if_neg (by omega)]
  have g2:rg (r+1)=r+1:=by unfold rg; rw [if_neg (by omega)]
  have c1:=cls_rg a1
  have c2:=cls_rg a2
  rw [g1] at c1
  rw [g2] at c2
  have n:next r=r+1:=by
    unfold next
    rw [if_neg (by rw [c1.1]; omega),if_neg (by omega),if_neg (by omega),if_neg (by omega)]
  rw [n]
  unfold canon
  rw [if_neg (by rw [c2.1]; omega),if_neg (by rw [c2.2]; omega)]
theorem up_neg {r:Int} (h0:0<r) (h1:r<=9218868437227405312):canon (next (patS true r))=patS (decide (0<r-1)) (r-1):=by
  have e:patS true r=r-9223372036854775808:=rfl
  rw [e]
  have a1:rng (r-9223372036854775808):=by unfold rng; omega
  have a2:rng (r-9223372036854775808-1):=by unfold rng; omega
  have g1:rg (r-9223372036854775808)=r:=by unfold rg; rw [if_pos (by omega)]; omega
  have g2:rg (r-9223372036854775808-1)=r-1:=by unfold rg; rw [if_pos (by omega)]; omega
  have c1:=cls_rg a1
  have c2:=cls_rg a2
  rw [g1] at c1
  rw [g2] at c2
  have n:next (r-9223372036854775808)=r-9223372036854775808-1:=by
    unfold next
    rw [if_neg (by rw [c1.1]; omega),if_neg (by omega),if_neg (by omega),if_pos (by omega)]
  rw [n]
  unfold canon
  rw [if_neg (by rw [c2.1]; omega)]
  by_cases h:r-1=0
  . rw [if_pos (c2.2.2 h),h]
    rfl
  . rw [if_neg (by rw [c2.2]; exact h),decide_eq_true (by omega)]
    unfold patS
    rw [if_pos rfl]
    omega
structure Btw (V:Int) (ng:Bool) (f:Int->Int × Bool):Prop where
  o2:(f 2).2=(f 1).2
  o3:(f 3).2=(f 1).2
  o0:(f 0).2=(f 1).2
  lo:¬ ordP V (f 1).1<0
  hi:¬ 0<ordP V (f 2).1
  ex:(f 1).2=false->ordP V (f 1).1=0∧(f 2).1=(f 1).1∧(f 3).1=(f 1).1∧(f 0).1=(f 1).1
  up:(f 1).2=true->ordP V (f 1).1≠0∧canon (next (f 1).1)=(f 2).1∧((f 0).1=(f 1).1∨(f 0).1=(f 2).1)∧(ng=false->(f 3).1=(f 1).1)∧(ng=true->(f 3).1=(f 2).1)
theorem ord_self (a:Int):ord a a=0:=by unfold ord; rw [if_neg (by omega),if_neg (by omega)]
theorem Btw.of {V:Int} {ng:Bool} {f:Int->Int × Bool} {o:Bool} {d u z n:Int} (f1:f 1=(patS (ng && decide (0<d)) d,o)) (f2:f 2=(patS (ng && decide (0<u)) u,o)) (f3:f 3=(patS (ng && decide (0<z)) z,o)) (f0:f 0=(patS (ng && decide (0<n)) n,o))
    (lo:¬ ordP V (patS (ng && decide (0<d)) d)<0) (hi:¬ 0<ordP V (patS (ng && decide (0<u)) u)) (ex:o=false->ordP V (patS (ng && decide (0<d)) d)=0∧u=d∧z=d∧n=d)
    (up:o=true->ordP V (patS (ng && decide (0<d)) d)≠0∧canon (next (patS (ng && decide (0<d)) d))=patS (ng && decide (0<u)) u∧(n=d∨n=u)∧(ng=false->z=d)∧(ng=true->z=u)):Btw V ng f:=by
  refine ⟨by rw [f1,f2],by rw [f1,f3],by rw [f1,f0],by rw [f1]; exact lo,by rw [f2]; exact hi,fun h=>?_,fun h=>?_⟩
  . rw [f1] at h
    obtain ⟨a,b,c,e⟩:=ex h
    rw [f1,f2,f3,f0,b,c,e]
    exact ⟨a,rfl,rfl,rfl⟩
  . rw [f1] at h
    obtain ⟨a,b,c,e,g⟩:=up h
    rw [f1,f2,f3,f0]
    refine ⟨a,b,?_,fun q=>by rw [e q],fun q=>by rw [g q]⟩
    rcases c with c | c
    . left; rw [c]
    . right; rw [c]
theorem k_top {r:Nat} (h:(r:Int)<9218868437227405312) (g:¬ ((r+1:Nat):Int)<9218868437227405312):((r+1:Nat):Int)=9218868437227405312:=by omega
theorem k_pos (r:Nat):(0:Int)<((r+1:Nat):Int):=by omega
theorem k_le {r:Nat} (h:(r:Int)<9218868437227405312):((r+1:Nat):Int)<=9218868437227405312:=by omega
theorem k_sub (r:Nat):((r+1:Nat):Int)-1=(r:Int):=by omega
theorem k_one (r:Nat):((r+1:Nat):Int)=(r:Int)+1:=by omega
theorem k_lt {r k:Nat} (hk:(9218868437227405311:Int)=(k:Int)) (h:¬ (r:Int)<9218868437227405312):k<r:=by omega
theorem k_ex:∃ k:Nat,(9218868437227405311:Int)=(k:Int):=⟨9218868437227405311,rfl⟩
theorem k_fin {k:Nat} (hk:(9218868437227405311:Int)=(k:Int)):(k:Int)<9218868437227405312∧(k:Int)+1=9218868437227405312∧(9218868437227405312:Int)-1=(k:Int):=by omega
theorem ord_sg_lt {ng:Bool} {A B:Int} (h:A<B):ord (sg ng A) (sg ng B)=if ng then 1 else -1:=by
  cases ng
  . exact ord_lt h
  . exact ord_gt (Int.neg_lt_neg h)
theorem ord_sg_gt {ng:Bool} {A B:Int} (h:B<A):ord (sg ng A) (sg ng B)=if ng then -1 else 1:=by
  cases ng
  . exact ord_gt h
  . exact ord_lt (Int.neg_lt_neg h)
theorem sg_prod (ng:Bool) (a b:Int):sg ng a*b=sg ng (a*b):=by
  unfold sg
  cases ng
  . rfl
  . exact Int.neg_mul a b
theorem between {x:NumR} (ok:okR x=true):Btw x.V x.ng (fun way=>toR way x):=by
  by_cases h0:x.n=0
  . have hz:x.ng=false:=by
      have:=of_decide_eq_true ok
      rcases this with ⟨_,a,b⟩ | ⟨a,_⟩
      . exact a
      . omega
    have hv:x.V=0:=by
      have hv:val x.d x.n=0:=by rw [h0]; rfl
      unfold NumR.V
      rw [hv,sg_zero,Int.zero_mul]
    have hp:ordP x.V (patS (x.ng && decide ((0:Int)<0)) 0)=0:=by
      have:=ordP_pat (A:=x.V) (ng:=x.ng) (r:=0) (by decide)
      rw [vS_zero,hv,hz] at this
      rw [hv,hz]
      exact this
    have hz0:∀ way,toR way x=(patS (x.ng && decide ((0:Int)<0)) 0,false):=fun way=>by
      rw [to_zero ok h0,hz]
      rfl
    exact Btw.of (f:=fun way=>toR way x) (hz0 1) (hz0 2) (hz0 3) (hz0 0) (by rw [hp]; decide) (by rw [hp]; decide) (fun _=>⟨hp,rfl,rfl,rfl⟩) (fun h=>by cases h)
  . obtain ⟨r0,left,hR,hf⟩:=to_all ok (by omega)
    obtain ⟨A,hA⟩:∃ A,val x.d x.n*pw x.e=A:=⟨_,rfl⟩
    rw [hA] at hR
    have hV:x.V=sg x.ng A:=by
      unfold NumR.V
      rw [<- hA]
      exact sg_prod _ _ _
    clear hA
    have lo:=hR.lo
    have hi:=hR.hi
    have l0:=hR.l0
    rw [hV]
    by_cases hr:(r0:Int)<9218868437227405312
    . obtain ⟨t1,t2,t3,t0⟩:=rTo_fin (ng:=x.ng) (left:=left) hr
      have ho:(decide (left≠0) || decide (9218868437227405312<=(r0:Int)))=decide (left≠0):=by rw [decide_eq_false (p:=9218868437227405312<=(r0:Int)) (Int.not_le.2 hr),Bool.or_false]
      rw [ho] at hf
      have P0:=ordP_pat (A:=sg x.ng A) (ng:=x.ng) hr
      by_cases hl:left=0
      . have hAe:=l0.1 hl
        have e1:rTo 1 x.ng r0 left=(r0:Int):=by rw [t1,if_neg (fun h=>h.1 hl)]
        have e2:rTo 2 x.ng r0 left=(r0:Int):=by rw [t2,if_neg (fun h=>h.1 hl)]
        have e0:rTo 0 x.ng r0 left=(r0:Int):=by rcases t0 with h | h; exact h; exact absurd hl h.1
        rw [hAe,ord_self] at P0
        refine Btw.of (f:=fun way=>toR way x) (hf 1) (hf 2) (hf 3) (hf 0) ?_ ?_ ?_ ?_
        . rw [e1,hAe,P0]; decide
        . rw [e2,hAe,P0]; decide
        . intro _; rw [e1,e2,t3,e0,hAe]; exact ⟨P0,rfl,rfl,rfl⟩
        . intro h; exact absurd hl (of_decide_eq_true h)
      . have hAl:vS r0<A:=by
          rcases Int.lt_or_eq_of_le lo with h | h
          . exact h
          . exact absurd (l0.2 h.symm) hl
        have P1:ordP (sg x.ng A) (patS (x.ng && decide ((0:Int)<((r0+1:Nat):Int))) ((r0+1:Nat):Int))=if x.ng then 1 else -1:=by
          by_cases h1:((r0+1:Nat):Int)<9218868437227405312
          . rw [ordP_pat h1]
            exact ord_sg_lt hi
          . have e:=k_top hr h1
            rw [e]
            exact ordP_inf
        have P0':ordP (sg x.ng A) (patS (x.ng && decide ((0:Int)<(r0:Int))) (r0:Int))=if x.ng then -1 else 1:=by
          rw [P0]
          exact ord_sg_gt hAl
        clear hV
        generalize x.ng=ng at *
        cases ng
        . have e1:rTo 1 false r0 left=(r0:Int):=by rw [t1,if_neg (fun h=>by cases h.2)]
          have e2:rTo 2 false r0 left=((r0+1:Nat):Int):=by rw [t2,if_pos ⟨hl,rfl⟩]
          refine Btw.of (f:=fun way=>toR way x) (hf 1) (hf 2) (hf 3) (hf 0) ?_ ?_ ?_ ?_
          . rw [e1,P0']; decide
          . rw [e2,P1]; decide
          . intro h; exact absurd hl (by simpa using h)
          . intro _
            rw [e1,e2,t3,P0']
            refine ⟨by decide,?_,?_,(fun _=>rfl),(fun h=>by cases h)⟩
            . rw [Bool.false_and,Bool.false_and,up_pos (Int.natCast_nonneg _) hr]; exact (k_one r0).symm
            . rcases t0 with h | h
              . exact .inl h
              . exact .inr h.2
        . have e1:rTo 1 true r0 left=((r0+1:Nat):Int):=by rw [t1,if_pos ⟨hl,rfl⟩]
          have e2:rTo 2 true r0 left=(r0:Int):=by rw [t2,if_neg (fun h=>by cases h.2)]
          refine Btw.of (f:=fun way=>toR way x) (hf 1) (hf 2) (hf 3) (hf 0) ?_ ?_ ?_ ?_
          . rw [e1,P1]; decide
          . rw [e2,P0']; decide
          . intro h; exact absurd hl (by simpa using h)
          . intro _
            rw [e1,e2,t3,P1]
            refine ⟨by decide,?_,?_,(fun h=>by cases h),fun _=>rfl⟩
            . rw [Bool.true_and,Bool.true_and,decide_eq_true (p:=(0:Int)<((r0+1:Nat):Int)) (k_pos r0),up_neg (k_pos r0) (k_le hr),k_sub]
            . rcases t0 with h | h
              . exact .inr h
              . exact .inl h.2
    . obtain ⟨t1,t2,t3,t0⟩:=rTo_inf (ng:=x.ng) (left:=left) hr
      have ho:(decide (left≠0) || decide (9218868437227405312<=(r0:Int)))=true:=by rw [decide_eq_true (p:=9218868437227405312<=(r0:Int)) (Int.not_lt.1 hr),Bool.or_true]
      rw [ho] at hf
      obtain ⟨k,hk⟩:=k_ex
      obtain ⟨hk1,hk2,hk3⟩:=k_fin hk
      have hAl:vS k<A:=Int.lt_of_lt_of_le (vS_lt (k_lt hk hr)) lo
      have P0:ordP (sg x.ng A) (patS (x.ng && decide ((0:Int)<(k:Int))) (k:Int))=if x.ng then -1 else 1:=by
        refine (ordP_pat (A:=sg x.ng A) (ng:=x.ng) hk1).trans ?_
        exact ord_sg_gt hAl
      rw [hk] at t1 t2 t3
      have P1:ordP (sg x.ng A) (patS (x.ng && decide ((0:Int)<9218868437227405312)) 9218868437227405312)=if x.ng then 1 else -1:=ordP_inf
      clear hV hR lo hi l0
      generalize x.ng=ng at *
      cases ng
      . rw [if_neg (by decide)] at t1 t2
        refine Btw.of (f:=fun way=>toR way x) (hf 1) (hf 2) (hf 3) (hf 0) ?_ ?_ ?_ ?_
        . rw [t1,P0]; decide
        . rw [t2,P1]; decide
        . intro h; cases h
        . intro _
          rw [t1,t2,t3,t0,P0]
          refine ⟨by decide,?_,.inr rfl,(fun _=>rfl),(fun h=>by cases h)⟩
          rw [Bool.false_and,Bool.false_and]
          rw [up_pos (Int.natCast_nonneg _) hk1,hk2]
          rfl
      . rw [if_pos rfl] at t1 t2
        refine Btw.of (f:=fun way=>toR way x) (hf 1) (hf 2) (hf 3) (hf 0) ?_ ?_ ?_ ?_
        . rw [t1,P1]; decide
        . rw [t2,P0]; decide
        . intro h; cases h
        . intro _
          rw [t1,t2,t3,t0,P1]
          refine ⟨by decide,?_,.inl rfl,(fun h=>by cases h),fun _=>rfl⟩
          rw [Bool.true_and,Bool.true_and]
          rw [decide_eq_true (p:=(0:Int)<9218868437227405312) (by decide),up_neg (by decide) (Int.le_refl _),hk3]
end Go.Proofs.YtjjihmnbdeeedaaGreatDoor
