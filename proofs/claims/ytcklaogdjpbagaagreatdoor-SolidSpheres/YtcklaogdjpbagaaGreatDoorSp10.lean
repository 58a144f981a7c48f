/- Parts of the proof. -/
import Derived.Test.YtcklaogdjpbagaaGreatDoorSp9
import Derived.Test.YtcklaogdjpbagaaGreatDoorSp1
import Derived.Test.YtcklaogdjpbagaaGreatDoorSp6
import Derived.Test.YtcklaogdjpbagaaGreatDoorSp8
import Derived.Test.YtcklaogdjpbagaaGreatDoorSp7
import Derived.Test.YtcklaogdjpbagaaGreatDoorSp2
import Derived.Test.YtcklaogdjpbagaaGreatDoorSp3
import Derived.Deep.RegionHeld3
import Derived.ArgAppend
import Derived.Test.YtcklaogdjpbagaaGreatDoorSp4
import Derived.Lib.AppendZerosOnto
set_option maxRecDepth 100000
set_option maxHeartbeats 8000000
set_option linter.unusedVariables false
set_option linter.unusedSimpArgs false
namespace Go.Proofs.YtcklaogdjpbagaaGreatDoor
open Go Go.RowKit Go.Proofs.YtcklaogdjpbagaaGreatDoor.M Ieee
def pX (p q:Int):Bool:=aF (rW p q)&&zS p q
theorem jj {p:Int} (hp:ax p) (h:aF p=true):((iV p).natAbs:Int)=bI p*2^(bK p+1074).toNat:=by
 have h0:=(gd h).1
 rw[ko,BI hp h,oO,Int.toNat_of_nonneg h0,Int.mul_comm]
end Go.Proofs.YtcklaogdjpbagaaGreatDoor
namespace Go.Proofs.YtcklaogdjpbagaaGreatDoor
open Go Go.RowKit Go.Proofs.YtcklaogdjpbagaaGreatDoor.M
end Go.Proofs.YtcklaogdjpbagaaGreatDoor
namespace Go.Proofs.YtcklaogdjpbagaaGreatDoor
open Go Go.RowKit Go.Proofs.YtcklaogdjpbagaaGreatDoor.M Ieee
end Go.Proofs.YtcklaogdjpbagaaGreatDoor
namespace Go.Proofs.YtcklaogdjpbagaaGreatDoor.M
open Go Ieee
theorem cN {b:Int} (h:ax b):ax (rg b)∧0<=rg b:=by unfold ax rg at *;split<;>omega
theorem li {b:Int} (h:ax b):aL (rg b)=aL b:=by
 unfold ax at h;unfold aL rg bT cn
 by_cases h0:b<0
 ·rw[if_pos h0,show(b+9223372036854775808)/4503599627370496 % 2048=b/4503599627370496 % 2048 from by omega,show(b+9223372036854775808) % 4503599627370496=b % 4503599627370496 from by omega]
 ·rw[if_neg h0]
theorem EA {b:Int} (h:ax b):wd b % 9223372036854775808=wd (rg b):=by unfold ax rg wd at *;split<;>omega
theorem iB {b:Int} (h:0<=b):bk b=b:=by unfold bk;rw[if_neg (by omega)]
theorem Ci (b:Int):wd b<18446744073709551616:=by unfold wd;omega
theorem DO {b:Int} (h:ax b):(bits .andNot .u64 (wd b) 9223372036854775808).toNat=wd (rg b):=by
 have e:=EA h
 have l:=Ci b
 rw[<- e]
 show(IntKind.u64.wrap (((BitVec.ofInt 64 (wd b:Int) &&& ~~~ BitVec.ofInt 64 9223372036854775808).toNat:Nat):Int)).toNat=_
 rw[BitVec.toNat_and,BitVec.toNat_not,dw,dw,show(2^64-1-((9223372036854775808:Int) % 18446744073709551616).toNat)=2^63-1 from by decide,Nat.and_two_pow_sub_one_eq_mod,IntKind.wrap_u64]
 omega
theorem cr {b:Int} (h:aF b=true):¬ aL b=4:=by
 have:=qS h
 unfold aL;rw[if_neg this];split
 ·split<;>omega
 ·omega
theorem nf {a b:Int} (ha:ax a) (hb:ax b) (h1:¬ aL a=4) (h2:¬ aL b=4) (h:bk a<bk b):FloatKind.f64.format.order (wd a) (wd b)=some .lt:=by rw[kg ha hb h1 h2,eD h]
theorem nj {a b:Int} (ha:ax a) (hb:ax b) (h1:¬ aL a=4) (h2:¬ aL b=4) (h:bk b<bk a):FloatKind.f64.format.order (wd a) (wd b)=some .gt:=by rw[kg ha hb h1 h2,eE h]
theorem mb {a b:Int} (ha:ax a) (hb:ax b) (h1:¬ aL a=4) (h2:¬ aL b=4) (h:bk a=bk b):FloatKind.f64.format.order (wd a) (wd b)=some .eq:=by rw[kg ha hb h1 h2,gR h]
def bz (b:Int):Bool:=decide (rg b=0)||(decide (3931642474694443008<=rg b)&&decide (rg b<5282722362905591808))
theorem nk {b:Int} (h:ax b):bz b=(decide (rg b=0)||(decide (873<=bT b)&&decide (bT b<1173))):=by
 obtain⟨h0,h1⟩:=fm h
 have h2:0<=cn b∧cn b<4503599627370496:=by unfold cn;omega
 unfold bz
 congr 1
 congr 1
 ·apply decide_eq_decide.2;omega
 ·apply decide_eq_decide.2;omega
theorem oR {b:Int} (h:ax b):aF b=decide (rg b<=9218868437227405311):=by
 obtain⟨h0,h1⟩:=fm h
 have h2:0<=cn b∧cn b<4503599627370496:=by unfold cn;omega
 have h3:0<=bT b∧bT b<2048:=by unfold bT;omega
 unfold aF
 by_cases e:bT b=2047
 ·simp[e];omega
 ·simp[e];omega
end Go.Proofs.YtcklaogdjpbagaaGreatDoor.M
namespace Go.Proofs.YtcklaogdjpbagaaGreatDoor
open Go Go.RowKit Go.Proofs.YtcklaogdjpbagaaGreatDoor.M
structure Ls where
 n:Nat
 d:Nat->Int
def Ls.add (s:Ls) (b:Int):Ls:=if rg b=0 then s else ⟨s.n+1,cl s.d s.n b⟩
def Ls.same (s t:Ls):Prop:=s.n=t.n∧∀ i,i<s.n->s.d i=t.d i
theorem Ls.same.add {s t:Ls} (h:s.same t) (b:Int):(s.add b).same (t.add b):=by
 unfold Ls.add
 split
 ·exact h
 ·refine⟨by show s.n+1=t.n+1;rw[h.1],fun i hi=>?_⟩
  show cl s.d s.n b i=cl t.d t.n b i
  by_cases e:i=s.n
  ·subst e;rw[bG,h.1,bG]
  ·rw[bm _ _ e,bm _ _ (by rw[<- h.1];exact e)]
   exact h.2 i (by have:i<s.n+1:=hi;omega)
def gq (d:Nat->Int) (q:Int):Nat->Int
 | 0=>q
 | k+1=>aE (gq d q k) (d k)
def gl (d:Nat->Int) (q:Int) (k:Nat):Int:=sL (gq d q k) (d k)
def gs (d:Nat->Int) (q:Int):Nat->Ls
 | 0=>⟨0,d⟩
 | k+1=>(gs d q k).add (gl d q k)
theorem cW {b:Int} (hb:ax b) (w:World) :
  Calls Tryz.prog 43 #[.float .f64 (wd b)] w fun e w'=>e=.returned (.float .f64 (wd (rg b)))∧w'=w:=by
 have h1:=uW
 have h2:=nN
 go_enter Tryz.func43,Tryz.ntmps43
 go_wp2
 go_ret
 exact⟨pJ (DO hb),rfl⟩
theorem rZ {b:Int} (hb:ax b) (w:World) :
  Calls Tryz.prog 118 #[.float .f64 (wd b)] w fun e w'=>e=.returned (.bool (aF b))∧w'=w:=by
 have n0:=Er hb
 obtain⟨r1,r2⟩:=cN hb
 by_cases h4:aL b=4
 ·have n1:(FloatKind.f64.format.order (wd b) (wd b) != some .eq)=true:=by rw[n0];simp[h4]
  have hp:aF b=false:=by
   cases h:aF b
   ·rfl
   ·exact absurd h4 (cr h)
  clear n0
  go_enter Tryz.func118,Tryz.ntmps118
  go_wp2
  go_ret
  exact⟨cz hp.symm,rfl⟩
 ·have n1:(FloatKind.f64.format.order (wd b) (wd b) != some .eq)=false:=by rw[n0];simp[h4]
  have c1:¬ aL (rg b)=4:=by rw[li hb];exact h4
  have c2:¬ aL 9218868437227405311=4:=by decide
  have r3:ax 9218868437227405311:=by unfold ax;omega
  have k1:=iB r2
  have k2:bk 9218868437227405311=9218868437227405311:=by decide
  have e2:wd 9218868437227405311=9218868437227405311:=by decide
  have hp:=oR hb
  clear n0
  rcases Int.lt_trichotomy (rg b) 9218868437227405311 with h|h|h
  ·have o:=nf r1 r3 c1 c2 (by rw[k1,k2];exact h)
   rw[e2] at o
   have hp':aF b=true:=by rw[hp];simp;omega
   clear hp
   go_enter Tryz.func118,Tryz.ntmps118
   go_wp2_with (go_at_call 43;refine(cW hb _).mono ?_;rintro _ _ ⟨rfl,rfl⟩)
   go_ret
   exact⟨cz hp'.symm,rfl⟩
  ·have o:=mb r1 r3 c1 c2 (by rw[k1,k2];exact h)
   rw[e2] at o
   have hp':aF b=true:=by rw[hp];simp;omega
   clear hp
   go_enter Tryz.func118,Tryz.ntmps118
   go_wp2_with (go_at_call 43;refine(cW hb _).mono ?_;rintro _ _ ⟨rfl,rfl⟩)
   go_ret
   exact⟨cz hp'.symm,rfl⟩
  ·have o:=nj r1 r3 c1 c2 (by rw[k1,k2];exact h)
   rw[e2] at o
   have hp':aF b=false:=by rw[hp];simp;omega
   clear hp
   go_enter Tryz.func118,Tryz.ntmps118
   go_wp2_with (go_at_call 43;refine(cW hb _).mono ?_;rintro _ _ ⟨rfl,rfl⟩)
   go_ret
   exact⟨cz hp'.symm,rfl⟩
theorem xh {b:Int} (hb:ax b) (w:World) :
    Calls Tryz.prog 72 #[.int .i64 b] w fun e w'=>e=.returned (.bool (bz b))∧w'=w:=by
  obtain⟨r1,r2⟩:=cN hb
  have k1:=iB r2
  have z1:wd 0=0:=by decide
  have z2:wd 3931642474694443008=3931642474694443008:=by decide
  have z3:wd 5282722362905591808=5282722362905591808:=by decide
  have s1:=nF r1 (show ax 0 by unfold ax;omega)
  have s2:=uF r1 (show ax 5282722362905591808 by unfold ax;omega)
  have o0:=@eM
  by_cases h4:aL (rg b)=4
  · have o1:=eM r1 (show ax 0 by unfold ax;omega) (.inl h4)
    have o2:=eM (show ax 3931642474694443008 by unfold ax;omega) r1 (.inr h4)
    rw[z1] at o1
    rw[z2] at o2
    have ht:bz b=false:=by
      have h5:aL b=4:=by rw[<- li hb];exact h4
      have h6:bT b=2047:=by
        unfold aL at h5;split at h5
        · assumption
        · split at h5
          · split at h5<;>omega
          · omega
      have:=fm hb
      have h7:0<=cn b∧cn b<4503599627370496:=by unfold cn;omega
      rw[nk hb,h6]
      simp
      omega
    clear s1 s2 o0
    go_enter Tryz.func72,Tryz.ntmps72
    go_wp2_with (first
      | (go_at_call 74;refine(dM _ _).mono ?_;rintro _ _ ⟨rfl,rfl⟩)
      | (go_at_call 43; refine (cW hb _).mono ?_; rintro _ _ ⟨rfl,rfl⟩))
    go_ret
    exact⟨cz ht.symm,rfl⟩
  · have c0:¬ aL 0=4:=by decide
    have c2:¬ aL 3931642474694443008=4:=by decide
    have c3:¬ aL 5282722362905591808=4:=by decide
    have y0:ax 0:=by unfold ax;omega
    have y2:ax 3931642474694443008:=by unfold ax;omega
    have y3:ax 5282722362905591808:=by unfold ax;omega
    have m0:bk 0=0:=by decide
    have m2:bk 3931642474694443008=3931642474694443008:=by decide
    have m3:bk 5282722362905591808=5282722362905591808:=by decide
    clear s1 s2 o0
    by_cases e0:rg b=0
    · have o1:=mb r1 y0 h4 c0 (by rw[k1,m0];exact e0)
      rw[z1] at o1
      have ht:bz b=true:=by unfold bz;simp[e0]
      go_enter Tryz.func72,Tryz.ntmps72
      go_wp2_with (first
        | (go_at_call 74;refine(dM _ _).mono ?_;rintro _ _ ⟨rfl,rfl⟩)
        | (go_at_call 43; refine (cW hb _).mono ?_; rintro _ _ ⟨rfl,rfl⟩))
      go_ret
      exact⟨cz ht.symm,rfl⟩
    have o1:=nj r1 y0 h4 c0 (by rw[k1,m0];omega)
    rw[z1] at o1
    by_cases e1:rg b<3931642474694443008
    · have o2:=nj y2 r1 c2 h4 (by rw[k1,m2];exact e1)
      rw[z2] at o2
      have ht:bz b=false:=by unfold bz;simp[e0];omega
      go_enter Tryz.func72,Tryz.ntmps72
      go_wp2_with (first
        | (go_at_call 74;refine(dM _ _).mono ?_;rintro _ _ ⟨rfl,rfl⟩)
        | (go_at_call 43; refine (cW hb _).mono ?_; rintro _ _ ⟨rfl,rfl⟩))
      go_ret
      exact⟨cz ht.symm,rfl⟩
    by_cases e2:rg b=3931642474694443008
    · have o2:=mb y2 r1 c2 h4 (by rw[k1,m2];exact e2.symm)
      have o3:=nf r1 y3 h4 c3 (by rw[k1,m3];omega)
      rw[z2] at o2
      rw[z3] at o3
      have ht:bz b=true:=by unfold bz;simp[e2]
      go_enter Tryz.func72,Tryz.ntmps72
      go_wp2_with (first
        | (go_at_call 74;refine(dM _ _).mono ?_;rintro _ _ ⟨rfl,rfl⟩)
        | (go_at_call 43; refine (cW hb _).mono ?_; rintro _ _ ⟨rfl,rfl⟩))
      go_ret
      exact⟨cz ht.symm,rfl⟩
    have o2:=nf y2 r1 c2 h4 (by rw[k1,m2];omega)
    rw[z2] at o2
    rcases Int.lt_trichotomy (rg b) 5282722362905591808 with h|h|h
    · have o3:=nf r1 y3 h4 c3 (by rw[k1,m3];omega)
      rw[z3] at o3
      have ht:bz b=true:=by unfold bz;simp[e0];omega
      go_enter Tryz.func72,Tryz.ntmps72
      go_wp2_with (first
        | (go_at_call 74;refine(dM _ _).mono ?_;rintro _ _ ⟨rfl,rfl⟩)
        | (go_at_call 43; refine (cW hb _).mono ?_; rintro _ _ ⟨rfl,rfl⟩))
      go_ret
      exact⟨cz ht.symm,rfl⟩
    · have o3:=mb r1 y3 h4 c3 (by rw[k1,m3];omega)
      rw[z3] at o3
      have ht:bz b=false:=by unfold bz;simp[e0];omega
      go_enter Tryz.func72,Tryz.ntmps72
      go_wp2_with (first
        | (go_at_call 74;refine(dM _ _).mono ?_;rintro _ _ ⟨rfl,rfl⟩)
        | (go_at_call 43; refine (cW hb _).mono ?_; rintro _ _ ⟨rfl,rfl⟩))
      go_ret
      exact⟨cz ht.symm,rfl⟩
    · have o3:=nj r1 y3 h4 c3 (by rw[k1,m3];omega)
      rw[z3] at o3
      have ht:bz b=false:=by unfold bz;simp[e0];omega
      go_enter Tryz.func72,Tryz.ntmps72
      go_wp2_with (first
        | (go_at_call 74;refine(dM _ _).mono ?_;rintro _ _ ⟨rfl,rfl⟩)
        | (go_at_call 43; refine (cW hb _).mono ?_; rintro _ _ ⟨rfl,rfl⟩))
      go_ret
      exact⟨cz ht.symm,rfl⟩
def mc (b:Bool):Int:=if b then 0 else 10
def nW (d:Nat->Int) (n:Nat):Bool:=decide (∀ i,i<n->aF (d i)=true)
theorem xi (ao:Option Addr) (n cap:Nat) (d:Nat->Int) (w:World) (h:aM w ao n cap d) (hd:∀ i,i<n->ax (d i)) :
    Calls Tryz.prog 99 #[.slice ao n cap] w fun e w'=>e=.returned (.int .i64 (mc (nW d n)))∧w'=w:=by
  have hl:=h.le
  have hm:=h.max
  go_enter Tryz.func99,Tryz.ntmps99
  go_wp2_with fail
  go_loop [7] (fun i=>∃ k:Nat,k<=n∧i=.int .i64 k∧Hid (∀ j,j<k->aF (d j)=true)) (fun i=>n-(intOf i).toNat)
  case atStart=>exact⟨0,Nat.zero_le _,rfl,fun j hj=>by omega⟩
  case round=>
    obtain⟨k,hk,rfl,HO⟩:=hrel
    by_cases hlt:k<n
    · obtain⟨b,off,rfl,hb,hc⟩:=h.spot (by omega)
      have c0:=hc k hlt
      have hr:=hd k hlt
      by_cases hok:aF (d k)=true
      · go_wp2_with (first
          | (go_at_call 74;refine(dM _ _).mono ?_;rintro _ _ ⟨rfl,rfl⟩)
          | (go_at_call 118; refine (rZ hr _).mono ?_; rintro _ _ ⟨rfl,rfl⟩))
        go_round
        case rel=>exact ⟨k+1,by omega,by go_num,fun j hj=>by
            by_cases e:j=k
            · subst e;exact hok
            · exact HO.out j (by omega)⟩
        case measure=>simp[intOf];omega
      · have hok':aF (d k)=false:=by simpa using hok
        go_wp2_with (first
          | (go_at_call 74;refine(dM _ _).mono ?_;rintro _ _ ⟨rfl,rfl⟩)
          | (go_at_call 118; refine (rZ hr _).mono ?_; rintro _ _ ⟨rfl,rfl⟩))
        go_ret
        exact ⟨eF (by
          unfold mc
          rw[if_neg]
          intro hx
          exact hok (of_decide_eq_true hx k hlt)),rfl⟩
    · obtain rfl:k=n:=by omega
      go_wp2
      go_ret
      exact⟨eF (by unfold mc;rw[if_pos (show nW d k=true from decide_eq_true HO.out)]),rfl⟩
theorem Bi (x y z:Int):nW (fun i=>if i=0 then x else if i=1 then y else z) 3=(aF x&&aF y&&aF z):=by
 unfold nW
 rw[Bool.eq_iff_iff]
 simp
 constructor
 ·intro h
  exact⟨⟨by simpa using h 0 (by omega),by simpa using h 1 (by omega)⟩,by simpa using h 2 (by omega)⟩
 ·rintro⟨⟨h1,h2⟩,h3⟩ i hi
  split
  ·exact h1
  ·split
   ·exact h2
   ·exact h3
theorem Cj (w:World) (o:Obj) (x y z:Int) (t:TypeId):aM ((w.alloc o).alloc (.cells #[.int .i64 x,.int .i64 y,.int .i64 z] t)) (some ⟨w.heap.size+1,0,none⟩) 3 3 (fun i=>if i=0 then x else if i=1 then y else z) :=
  ⟨by omega,by omega,(fun h=>by cases h),fun _=>⟨_,_,rfl,by simp,fun i hi=>by
    have e:((w.alloc o).alloc (.cells #[.int .i64 x,.int .i64 y,.int .i64 z] t)).heap[w.heap.size+1]?=some (.cells #[.int .i64 x,.int .i64 y,.int .i64 z] t):=bP w o _
    unfold World.cell?
    rw[show((⟨w.heap.size+1,0+i,none⟩:Addr)).block=w.heap.size+1 from rfl,e]
    match i,hi with
    | 0,_=>rfl
    | 1,_=>rfl
    | 2,_=>rfl⟩⟩
theorem nX {x y z:Int} (hx:ax x) (hy:ax y) (hz:ax z) (w:World) :
  Calls Tryz.prog 70 #[.agg #[.int .i64 x,.int .i64 y,.int .i64 z]] w fun e w'=>e=.returned (.int .i64 (mc (aF x&&aF y&&aF z)))∧Below w.heap.size w w':=by
 have hr:=Cj w (.cells #[.int .i64 x,.int .i64 y,.int .i64 z] 23) x y z 3
 have e2:=Bi x y z
 go_enter Tryz.func70,Tryz.ntmps70
 go_wp2_with fail
 refine(xi _ _ _ _ _ hr (fun i _=>by show ax (if i=0 then x else if i=1 then y else z);split;assumption;split<;>assumption)).mono ?_
 rintro _ _ ⟨rfl,rfl⟩
 go_wp2
 go_ret
 exact⟨eF (by rw[<- e2]),aO _ _ _⟩
structure zT (B:Nat) (w:World) (v:Value) (w':World) (v':Value) (s:Ls):Prop where
 out:bF B w' v' s.n s.d
 gr:w.grownBy w' v.ownBlock
 at':v'.ownBlock=v.ownBlock∨∀ k,v'.ownBlock=some k->w.heap.size<=k
theorem zT.refl {B:Nat} {w:World} {v:Value} {s:Ls} (h:bF B w v s.n s.d):zT B w v w v s:=⟨h,World.grownBy.refl _ _,.inl rfl⟩
theorem zT.below {B:Nat} {w w':World} {v v':Value} {s:Ls} (h:zT B w v w' v' s) (hO:∀ k,v.ownBlock=some k->B<=k) (hB:B<=w.heap.size):Below B w w' :=
 (Below.refl B w).grown h.gr hB hO
def xj (w:World) (g cap N:Nat) (s:Ls):Prop:=∃ cur,w.heap[g]?=some (.cells cur 3 (0,0))∧cur.size=cap∧∀ i,i<N->cur[i]?=some (.int .i64 (s.d i))
theorem xj.keeps {w w':World} {g cap N:Nat} {s:Ls} (h:xj w g cap N s) (hb:Below w.heap.size w w'):xj w' g cap N s:=by
 obtain⟨cur,h1,h2⟩:=h
 exact⟨cur,(hb.block _ (aGe h1).1).trans h1,h2⟩
theorem xj.out {w:World} {B g cap N:Nat} {s:Ls} (h:xj w g cap N s) (hn:s.n<=N) (hN:N<=cap) (hB:B<=g) (hm:cap<=9223372036854775807):bF B w (.slice (some ⟨g,0,none⟩) s.n cap) s.n s.d:=by
 obtain⟨cur,h1,h2,h3⟩:=h
 refine⟨by rw[cF];omega,.inr ⟨g,cap,cur,rfl,hB,h1,by omega,by unfold maxLen;omega,by omega,?_⟩⟩
 apply ib (by simp;omega)
 intro i hi
 rw[List.getElem?_take,if_pos (by omega),Array.getElem?_toList]
 exact h3 i (by omega)
theorem xk {B:Nat} {w w':World} {g:Nat} (h:w.grownBy w' (some g)) (hB:B<=g) (hw:B<=w.heap.size):Below B w w' :=
 (Below.refl B w).grown h hw (fun k hk=>by simp at hk;omega)
def pV (B:Nat) (w:World) (v:Value) (s:Ls):Prop:=bF B w v s.n s.d∨(s.n=0∧∃ ad,v=.slice (some ad) 0 0)
def zU (B:Nat) (w:World) (v:Value) (w':World):Prop:=w.grownBy w' none∨∃ k,v.ownBlock=some k∧B<=k∧w.grownBy w' (some k)
theorem zU.below {B:Nat} {w w':World} {v:Value} (h:zU B w v w') (hB:B<=w.heap.size):Below B w w':=by
 rcases h with h|⟨k,_,hk,h⟩
 ·exact(Below.refl B w).grown h hB (fun k hk=>by cases hk)
 ·exact xk h hk hB
theorem zU.size {B:Nat} {w w':World} {v:Value} (h:zU B w v w'):w.heap.size<=w'.heap.size:=by
 rcases h with h|⟨k,_,_,h⟩<;>exact h.size
theorem pV.lower {B B':Nat} {w:World} {v:Value} {s:Ls} (h:pV B w v s) (hB:B'<=B):pV B' w v s:=by
 rcases h with h|h
 ·exact .inl (h.lower hB)
 ·exact .inr h
def Ls.fin (s:Ls):Prop:=∀ i,i<s.n->ax (s.d i)∧aF (s.d i)=true
theorem Ls.fin.add {s:Ls} (h:s.fin) {b:Int} (hb:ax b) (pb:aF b=true):(s.add b).fin:=by
 unfold Ls.add
 split
 ·exact h
 ·intro i hi
  show ax (cl s.d s.n b i)∧aF (cl s.d s.n b i)=true
  by_cases e:i=s.n
  ·subst e;rw[bG];exact⟨hb,pb⟩
  ·rw[bm _ _ e]
   exact h i (by have:i<s.n+1:=hi;omega)
theorem pV.shape {B:Nat} {w:World} {v:Value} {s:Ls} (h:pV B w v s):∃ ao cap,v=.slice ao s.n cap:=by
 rcases h with h|⟨h0,ad,rfl⟩
 ·obtain⟨ao,cap,e,_⟩:=h.row
  exact⟨ao,cap,e⟩
 ·exact⟨some ad,0,by rw[h0]⟩
def sq (d:Nat->Int) (b:Int):Nat->Int
 | 0=>ay (d 0) b
 | k+1=>aE (ay (d (k+1)) b) (aE (sq d b k) (rW (d (k+1)) b))
def ss (s:Ls) (d:Nat->Int) (b:Int):Nat->Ls
 | 0=>s.add (rW (d 0) b)
 | k+1=>((ss s d b k).add (sL (sq d b k) (rW (d (k+1)) b))).add (fL (ay (d (k+1)) b) (aE (sq d b k) (rW (d (k+1)) b)))
def sx (d:Nat->Int) (b:Int):Nat->Bool
 | 0=>pX (d 0) b
 | k+1=>sx d b k&&(pX (d (k+1)) b&&(aF (sL (sq d b k) (rW (d (k+1)) b))&&fX (ay (d (k+1)) b) (aE (sq d b k) (rW (d (k+1)) b))))
def XA (w:World) (ok:Bool) (s:Ls) (r:Ending) (w':World):Prop:=((ok=true∧∃ v,r=.returned (.tuple #[v,.int .i64 0])∧pV w.heap.size w' v s)∨(ok=false∧r=.returned (.tuple #[.slice none 0 0,.int .i64 14])))∧Below w.heap.size w w'
end Go.Proofs.YtcklaogdjpbagaaGreatDoor
namespace Go.Proofs.YtcklaogdjpbagaaGreatDoor
open Go Go.RowKit Go.Proofs.YtcklaogdjpbagaaGreatDoor.M Ieee
end Go.Proofs.YtcklaogdjpbagaaGreatDoor
namespace Go.Proofs.YtcklaogdjpbagaaGreatDoor
open Go Go.RowKit Go.Proofs.YtcklaogdjpbagaaGreatDoor.M
theorem pV.row {B:Nat} {w:World} {v:Value} {s:Ls} (h:pV B w v s):∃ ao cap,v=.slice ao s.n cap∧aM w ao s.n cap s.d:=by
 rcases h with h|⟨h0,ad,rfl⟩
 ·exact h.row
 ·rw[h0]
  exact⟨some ad,0,rfl,Nat.le_refl _,by decide,(fun q=>by cases q),fun q=>by omega⟩
theorem XA.yes {w w':World} {ok:Bool} {s:Ls} {r:Ending} (h:XA w ok s r w') (ho:ok=true):∃ ao cap,r=.returned (.tuple #[.slice ao s.n cap,.int .i64 0])∧aM w' ao s.n cap s.d∧Below w.heap.size w w':=by
 obtain⟨(⟨_,v,h1,h2⟩|⟨h1,_⟩),hb⟩:=h
 ·obtain⟨ao,cap,rfl,hR⟩:=h2.row
  exact⟨ao,cap,h1,hR,hb⟩
 ·rw[ho] at h1;cases h1
theorem XA.no {w w':World} {ok:Bool} {s:Ls} {r:Ending} (h:XA w ok s r w') (ho:ok=false):r=.returned (.tuple #[.slice none 0 0,.int .i64 14])∧Below w.heap.size w w':=by
 obtain⟨(⟨h1,_⟩|⟨_,h1⟩),hb⟩:=h
 ·rw[ho] at h1;cases h1
 ·exact⟨h1,hb⟩
end Go.Proofs.YtcklaogdjpbagaaGreatDoor
namespace Go.Proofs.YtcklaogdjpbagaaGreatDoor
open Go Go.RowKit Go.Proofs.YtcklaogdjpbagaaGreatDoor.M Ieee
theorem EB {a b h M:Int} (h1:((a.natAbs:Int)+b.natAbs)<=M):((a+b).natAbs:Int)<=M:=by omega
theorem EC {a b h M:Int} (ha:2*(a.natAbs:Int)<=M) (hb:2*(b.natAbs:Int)<=M) (e1:(h-(a+b)).natAbs<=(a-(a+b)).natAbs):((h-a).natAbs:Int)<=M:=by omega
theorem ED {a b h v M:Int} (ha:2*(a.natAbs:Int)<=M) (e2:(h-(a+b)).natAbs<=(b-(a+b)).natAbs) (e3:(v-(h-a)).natAbs<=(b-(h-a)).natAbs):((h-v).natAbs:Int)<=M:=by omega
theorem EE {a b h v u M:Int} (ha:2*(a.natAbs:Int)<=M) (e2:(h-(a+b)).natAbs<=(b-(a+b)).natAbs) (e3:(v-(h-a)).natAbs<=(b-(h-a)).natAbs) (e4:(u-(h-v)).natAbs<=(a-(h-v)).natAbs):((a-u).natAbs:Int)<=M∧(a-u).natAbs<=2*(h-(a+b)).natAbs:=by omega
theorem EF {a b h v M:Int} (hb:2*(b.natAbs:Int)<=M) (e1:(h-(a+b)).natAbs<=(a-(a+b)).natAbs) (e3:(v-(h-a)).natAbs<=(b-(h-a)).natAbs):((b-v).natAbs:Int)<=M∧(b-v).natAbs<=2*(h-(a+b)).natAbs:=by omega
theorem EG {S h x y p q M:Int} (hM:(S.natAbs:Int)<=M) (r:1000*(h-S).natAbs<=S.natAbs) (g1:x.natAbs<=2*(h-S).natAbs) (g2:y.natAbs<=2*(h-S).natAbs) (n1:(p-x).natAbs<=(0-x).natAbs) (n2:(q-y).natAbs<=(0-y).natAbs):((p+q).natAbs:Int)<=M:=by omega
theorem oS {p q:Int} (hp:M.ax p) (hq:M.ax q) (pp:aF p=true) (pq:aF q=true) (h1:2*((iV p).natAbs:Int)<=kZ) (h2:2*((iV q).natAbs:Int)<=kZ):aF (aE p q)=true∧aF (sL p q)=true:=by
 have rh:=bs hp hq
 have rv:M.ax (sV p q):=bs rh (ei hp)
 have rU:=bs rh (ei rv)
 have rX:=bs hp (ei rU)
 have rY:=bs hq (ei rv)
 have Sh:=im hp hq pp pq
 have hM:=EB (h:=0) (a:=iV p) (b:=iV q) (M:=kZ) (by omega)
 have ph:=Sh.fin hM
 have nh:=Sh.nr ph
 have e1:=nh.2 _ (mz p)
 have e2:=nh.2 _ (mz q)
 have Sv:=fR rh hp ph pp
 have pv:=Sv.fin (EC h1 h2 e1)
 have nv:=Sv.nr pv
 have e3:=nv.2 _ (mz q)
 have SU:=fR rh rv ph pv
 have pU:=SU.fin (ED h1 e2 e3)
 have e4:=(SU.nr pU).2 _ (mz p)
 have SX:=fR hp rU pp pU
 obtain⟨g1,g2⟩:=EE h1 e2 e3 e4
 have pX:=SX.fin g1
 have SY:=fR hq rv pq pv
 obtain⟨g3,g4⟩:=EF h2 e1 e3
 have pY:=SY.fin g3
 exact⟨ph,(im rX rY pX pY).fin (EG hM (wV nh) g2 g4 ((SX.nr pX).2 _ ji) ((SY.nr pY).2 _ ji))⟩
end Go.Proofs.YtcklaogdjpbagaaGreatDoor
namespace Go.Proofs.YtcklaogdjpbagaaGreatDoor
open Go Go.RowKit Go.Proofs.YtcklaogdjpbagaaGreatDoor.M
theorem nY {b:Int} (hb:ax b):aL b=0↔rg b=0:=by
 have h1:=li hb
 rw[<- h1]
 constructor
 ·intro h
  have hr:=(cN hb).1
  have h0:0<=rg b:=(cN hb).2
  generalize rg b=r at *
  unfold ax at hr
  unfold aL bT cn at h
  split at h
  ·split at h<;>omega
  ·split at h
   ·split at h
    ·omega
    ·omega
   ·omega
 ·intro h;rw[h];decide
theorem Ls.same.refl (s:Ls):s.same s:=⟨rfl,fun _ _=>rfl⟩
theorem Ls.same.symm {s t:Ls} (h:s.same t):t.same s:=⟨h.1.symm,fun i hi=>(h.2 i (by rw[h.1];exact hi)).symm⟩
theorem Ls.same.trans {s t u:Ls} (h:s.same t) (k:t.same u):s.same u:=⟨h.1.trans k.1,fun i hi=>(h.2 i hi).trans (k.2 i (by rw[<- h.1];exact hi))⟩
def Lo (x y:Int):Prop:=∃ s:Nat,(x.natAbs:Int)<2^s∧(2^s:Int) ∣ y
theorem vd {x y:Int} (h:x ∣ y) (h0:y≠0) (hx:0<x):x<=(y.natAbs:Int):=by
 have h1:x ∣ (y.natAbs:Int):=Int.dvd_natAbs.2 h
 exact Int.le_of_dvd (by omega) h1
theorem Lo.trans {x y z:Int} (h:Lo x y) (hy:y≠0) (k:Lo y z):Lo x z:=by
 obtain⟨s,h1,h2⟩:=h
 obtain⟨t,k1,k2⟩:=k
 have h3:=vd h2 hy (p2 s)
 have h4:s<t:=za (Int.lt_of_le_of_lt h3 k1)
 exact⟨s,h1,Int.dvd_trans (ja (by omega)) k2⟩
theorem xl {b:Int} (hb:ax b) (h:rg b=0):iV b=0:=by
 have:=ko b
 rw[h] at this
 have h2:(V Ieee.double (0:Int).toNat:Int)=0:=by decide +kernel
 omega
theorem Bj {b:Int} (hb:ax b) (pb:aF b=true) (h:rg b≠0):iV b≠0∧bI b≠0:=by
 have e:=jj hb pb
 have hm:bI b≠0:=by
  intro q
  have hc:aL b=0:=by
   have hf:bT b≠2047:=by simpa [aF] using pb
   have:=iD b
   unfold bI at q
   rw[if_neg hf] at q
   unfold aL
   rw[if_neg hf]
   by_cases h0:bT b=0
   ·rw[if_pos h0] at q ⊢
    rw[if_pos q]
   ·rw[if_neg h0] at q
    omega
  exact h ((nY hb).1 hc)
 refine⟨fun q=>?_,hm⟩
 obtain⟨i0,_⟩:=gd pb
 have p1:=aJ (bK b+1074).toNat
 have:0<bI b*2^(bK b+1074).toNat:=Int.mul_pos (by omega) p1
 rw[q] at e
 omega
structure XV (d:Nat->Int) (n:Nat):Prop where
 fin:∀ i,i<n->ax (d i)∧aF (d i)=true∧rg (d i)≠0
 lo:∀ i,i+1<n->Lo (iV (d i)) (iV (d (i+1)))
theorem XV.ne {d:Nat->Int} {n:Nat} (h:XV d n) {i:Nat} (hi:i<n):iV (d i)≠0:=(Bj (h.fin i hi).1 (h.fin i hi).2.1 (h.fin i hi).2.2).1
theorem XV.far {d:Nat->Int} {n:Nat} (h:XV d n) {i:Nat}:∀ {j},i<j->j<n->Lo (iV (d i)) (iV (d j))
 | 0,hij,_=>absurd hij (Nat.not_lt_zero _)
 | j+1,hij,hj=>by
  by_cases e:i=j
  ·subst e;exact h.lo i hj
  ·exact(h.far (show i<j by omega) (by omega)).trans (h.ne (by omega)) (h.lo j hj)
theorem XV.add {s:Ls} (h:XV s.d s.n) {b:Int} (hb:ax b) (pb:aF b=true) (hlo:∀ i,i<s.n->Lo (iV (s.d i)) (iV b)):XV (s.add b).d (s.add b).n:=by
 unfold Ls.add
 split
 ·exact h
 ·rename_i hz
  refine⟨fun i hi=>?_,fun i hi=>?_⟩
  ·show ax (cl s.d s.n b i)∧aF (cl s.d s.n b i)=true∧rg (cl s.d s.n b i)≠0
   by_cases e:i=s.n
   ·subst e;rw[bG];exact⟨hb,pb,hz⟩
   ·rw[bm _ _ e];exact h.fin i (by have:i<s.n+1:=hi;omega)
  ·have hi':i+1<s.n+1:=hi
   show Lo (iV (cl s.d s.n b i)) (iV (cl s.d s.n b (i+1)))
   rw[bm _ _ (show i≠s.n by omega)]
   by_cases e:i+1=s.n
   ·rw[e,bG];exact hlo i (by omega)
   ·rw[bm _ _ e];exact h.lo i (by omega)
theorem uf {p q:Int} (hp:ax p) (hq:ax q) (h:aF (sL p q)=true):Nr (iV p+iV q) (iV (aE p q)):=by
 obtain⟨⟨pp,pq⟩,ps,e⟩:=zd hp hq h
 exact(im hp hq pp pq).nr ps
def El (d:Nat->Int):Nat->Int
 | 0=>0
 | k+1=>El d k+iV (d k)
theorem io:(2:Int)^2097<=kZ:=by
 have h:(2:Int)^2097<=(V Ieee.double 9218868437227405311:Int):=by decide +kernel
 exact h
theorem DP {b c:Nat} {x:Int} (h:(x.natAbs:Int)<=2^b) (hbc:b<=c):(x.natAbs:Int)<=2^c:=Int.le_trans h (lZ hbc)
def LB (s:Ls) (b:Nat):Prop:=∀ i,i<s.n->((iV (s.d i)).natAbs:Int)<=2^b
theorem LB.add {s:Ls} {b:Nat} (h:LB s b) {x:Int} (hx:((iV x).natAbs:Int)<=2^b):LB (s.add x) b:=by
 unfold Ls.add
 split
 ·exact h
 ·intro i hi
  show((iV (cl s.d s.n x i)).natAbs:Int)<=_
  by_cases e:i=s.n
  ·subst e;rw[bG];exact hx
  ·rw[bm _ _ e];exact h i (by have:i<s.n+1:=hi;omega)
theorem XV.fn {s:Ls} (h:XV s.d s.n):s.fin:=fun i hi=>⟨(h.fin i hi).1,(h.fin i hi).2.1⟩
def Em (T:Nat->Int):Nat->Int
 | 0=>0
 | k+1=>Em T k+T k
structure SI (d T:Nat->Int) (B N k:Nat) (L:Ls) (q:Int):Prop where
 xv:XV L.d L.n
 sum:El L.d L.n+iV q=Em T (k+1)
 up:∀ i,i<L.n->∃ s:Nat,((iV (L.d i)).natAbs:Int)<2^s∧(2^s:Int) ∣ iV q∧∀ j,k<j->j<=N->(2^s:Int) ∣ T j
 small:∀ t:Nat,((iV (d k)).natAbs:Int)<2^t->∀ i,i<L.n->((iV (L.d i)).natAbs:Int)<2^(t+B-1074)
def PB (P:Nat->Prop) (w:World):Prop:=∀ k,P k->k<w.heap.size
structure jC (P:Nat->Prop) (w w':World):Prop where
 os:w'.os=w.os
 tape:w'.tape=w.tape
 output:w'.output=w.output
 size:w.heap.size<=w'.heap.size
 block:∀ k,P k->w'.heap[k]?=w.heap[k]?
theorem jC.refl (P:Nat->Prop) (w:World):jC P w w:=⟨rfl,rfl,rfl,Nat.le_refl _,fun _ _=>rfl⟩
theorem jC.trans {P:Nat->Prop} {a b c:World} (h:jC P a b) (k:jC P b c):jC P a c :=
 ⟨k.os.trans h.os,k.tape.trans h.tape,k.output.trans h.output,Nat.le_trans h.size k.size,fun i hi=>(k.block i hi).trans (h.block i hi)⟩
theorem jC.of {P:Nat->Prop} {w w':World} (h:Below w.heap.size w w') (hP:PB P w):jC P w w':=⟨h.os,h.tape,h.output,h.size,fun k hk=>h.block k (hP k hk)⟩
theorem PB.le {P:Nat->Prop} {w w':World} (h:PB P w) (hs:w.heap.size<=w'.heap.size):PB P w':=fun k hk=>Nat.lt_of_lt_of_le (h k hk) hs
def lj (P:Nat->Prop) (w:World) (v:Value) (s:Ls):Prop:=bF 0 w v s.n s.d∧∀ k,v.ownBlock=some k->¬ P k
theorem lj.shape {P:Nat->Prop} {w:World} {v:Value} {s:Ls} (h:lj P w v s):∃ ao cap,v=.slice ao s.n cap:=by
 obtain⟨ao,cap,e,_⟩:=h.1.row
 exact⟨ao,cap,e⟩
theorem lj.stays {P:Nat->Prop} {w w':World} {v:Value} {s:Ls} (h:lj P w v s) (hb:Below w.heap.size w w'):lj P w' v s:=⟨h.1.stays hb,h.2⟩
theorem lj.gr {P:Nat->Prop} {w w':World} {v:Value} {s:Ls} (h:lj P w v s) (hP:PB P w) (g:w.grownBy w' v.ownBlock):jC P w w' :=
 ⟨g.os,g.tape,g.output,g.size,fun k hk=>g.block k (hP k hk) fun e=>h.2 k e.symm hk⟩
theorem Ls.same.fin {s t:Ls} (h:s.same t) (ht:t.fin):s.fin:=fun i hi=>by
 rw[h.2 i hi]
 exact ht i (by rw[<- h.1];exact hi)
theorem jC.below {P:Nat->Prop} {N:Nat} {w w':World} (h:jC P w w') (hP:∀ k,k<N->P k):Below N w w':=⟨h.os,h.tape,h.output,h.size,fun k hk=>h.block k (hP k hk)⟩
theorem lj.raise {P:Nat->Prop} {N:Nat} {w:World} {v:Value} {s:Ls} (h:lj P w v s) (hP:∀ k,k<N->P k):bF N w v s.n s.d:=by
 have h1:=h.1
 rcases h1.2 with q|⟨g,cap,cur,q1,_,q3⟩
 ·exact⟨h1.1,.inl q⟩
 ·refine⟨h1.1,.inr ⟨g,cap,cur,q1,?_,q3⟩⟩
  have h2:=h.2 g (by rw[q1];rfl)
  exact Nat.le_of_not_lt fun e=>h2 (hP g e)
end Go.Proofs.YtcklaogdjpbagaaGreatDoor
namespace Go.Proofs.YtcklaogdjpbagaaGreatDoor
open Go Go.RowKit Go.Proofs.YtcklaogdjpbagaaGreatDoor.M Ieee
end Go.Proofs.YtcklaogdjpbagaaGreatDoor
namespace Go.Proofs.YtcklaogdjpbagaaGreatDoor
open Go Go.RowKit Go.Proofs.YtcklaogdjpbagaaGreatDoor.M
def Mz (x:Int):Prop:=ax x∧aF x=true∧(2^872:Int) ∣ iV x∧((iV x).natAbs:Int)<=2^1224
theorem ir {x:Int} (hx:ax x) (ht:bz x=true):Mz x:=by
 rw[nk hx] at ht
 by_cases h0:rg x=0
 ·have hc:=(nY hx).2 h0
  have hp:aF x=true:=by
   cases hp:aF x
   ·exfalso
    have hf:bT x=2047:=by simpa [aF] using hp
    unfold aL at hc
    rw[if_pos hf] at hc
    split at hc<;>omega
   ·rfl
  rw[Mz,xl hx h0]
  exact⟨hx,hp,⟨0,by rw[Int.mul_zero]⟩,by have:=p2 1224;show(((0:Int).natAbs:Nat):Int)<=_;omega⟩
 ·have hz:decide (rg x=0)=false:=decide_eq_false h0
  rw[hz,Bool.false_or,Bool.and_eq_true] at ht
  have h1:=of_decide_eq_true ht.1
  have h2:=of_decide_eq_true ht.2
  have hf0:bT x≠2047:=by omega
  have hf1:bT x≠0:=by omega
  have hp:aF x=true:=by simp[aF,hf0]
  have hfr:=iD x
  have e1:bI x=4503599627370496+cn x:=by unfold bI;rw[if_neg hf0,if_neg hf1]
  have e2:bK x=bT x-1075:=by unfold bK;rw[if_neg hf0,if_neg hf1]
  have hm:bI x<=2^53:=by
   rw[e1]
   show _<=9007199254740992
   omega
  refine⟨hx,hp,?_,?_⟩
  ·apply Int.dvd_natAbs.1
   rw[jj hx hp]
   exact Int.dvd_trans (ja (show 872<=(bK x+1074).toNat by rw[e2];omega)) ⟨bI x,by rw[Int.mul_comm]⟩
  ·rw[jj hx hp]
   have p1:(2:Int)^(bK x+1074).toNat<=2^1171:=lZ (by rw[e2];omega)
   have p0:=p2 (bK x+1074).toNat
   calc bI x*2^(bK x+1074).toNat<=2^53*2^(bK x+1074).toNat:=Int.mul_le_mul_of_nonneg_right hm (by omega)
    _<=2^53*2^1171:=Int.mul_le_mul_of_nonneg_left p1 (by decide)
    _=2^1224:=by rw[<- Int.pow_add]
theorem Ck {p q:Int} (hp:Mz p) (hq:Mz q):aF (aE p (neg q))=true∧aF (sL p (neg q))=true:=by
 obtain⟨n1,n2,n3⟩:=gK hq.1 hq.2.1
 have hM:=io
 have h1:(2:Int)^1225<=2^2097:=lZ (by decide)
 have h2:(2:Int)^1225=2*2^1224:=iU 1224
 have a:=hp.2.2.2
 have b:=hq.2.2.2
 exact oS hp.1 n1 hp.2.1 n2 (by omega) (by rw[n3];omega)
def Un (S h:Int):Prop:=9007199254740992*((h-S).natAbs:Int)<=(S.natAbs:Int)∧9007199254740992*((h-S).natAbs:Int)<=(h.natAbs:Int)
theorem pW {S h:Int} (n:Nr S h) (h0:0<=S):Un S h:=by
 obtain⟨k,h1,h2⟩:=rO S h0
 rcases h2 with h2|h2
 ·subst h2
  have e:=dF ⟨0,⟨S,by rw[Int.pow_zero];omega⟩,by omega⟩ n
  subst e
  rw[Un,Int.sub_self]
  simp
 ·have c:=Cc n (i:=k) (by omega)
  have g:=DH n (DI k (m:=4503599627370496) (by decide)) h2
  have p0:=p2 k
  generalize (2:Int)^k=q at *
  have g':4503599627370496*q<=h:=g
  constructor<;>omega
theorem zV {S h:Int} (n:Nr S h):Un S h:=by
 by_cases h0:0<=S
 ·exact pW n h0
 ·have:=pW n.neg (by omega)
  unfold Un at *
  omega
theorem Un.scale {S h:Int} (u:Un S h) {c:Int} (hc:0<=c):Un (c*S) (c*h):=by
 have e:∀ x:Int,((c*x).natAbs:Int)=c*(x.natAbs:Int):=fun x=>by
  rw[Int.natAbs_mul,Int.natCast_mul]
  congr 1
  omega
 rw[Un,<- Int.mul_sub,e,e,e,<- Int.mul_assoc,Int.mul_comm 9007199254740992 c,Int.mul_assoc]
 exact⟨Int.mul_le_mul_of_nonneg_left u.1 hc,Int.mul_le_mul_of_nonneg_left u.2 hc⟩
theorem mA (x y:Int):((x*y).natAbs:Int)=(x.natAbs:Int)*(y.natAbs:Int):=by rw[Int.natAbs_mul,Int.natCast_mul]
theorem xp {u e v:Int} (h:9007199254740992*(e.natAbs:Int)<=(u.natAbs:Int)):9007199254740992*((e*v).natAbs:Int)<=((u*v).natAbs:Int):=by
 rw[mA,mA,<- Int.mul_assoc]
 exact Int.mul_le_mul_of_nonneg_right h (by omega)
theorem xq {u e v:Int} (h:9007199254740992*(e.natAbs:Int)<=(u.natAbs:Int)):9007199254740992*((v*e).natAbs:Int)<=((v*u).natAbs:Int):=by
 rw[Int.mul_comm v e,Int.mul_comm v u]
 exact xp h
theorem zf {x y u v:Int} (hu:Un x u) (hv:Un y v):81129638414606681695789005144064*((x*y-u*v).natAbs:Int)<=18014398509481985*((u*v).natAbs:Int):=by
 obtain⟨e,he⟩:∃ e,x=u+e:=⟨x-u,by omega⟩
 obtain⟨f,hf⟩:∃ f,y=v+f:=⟨y-v,by omega⟩
 have h1:9007199254740992*(e.natAbs:Int)<=(u.natAbs:Int):=by have:=hu.2;omega
 have h2:9007199254740992*(f.natAbs:Int)<=(v.natAbs:Int):=by have:=hv.2;omega
 have a1:=xp (v:=v) h1
 have a2:=xq (v:=u) h2
 have a3:=xq (v:=e) h2
 have ee:x*y-u*v=u*f+e*v+e*f:=by
  rw[he,hf,Int.add_mul,Int.mul_add,Int.mul_add]
  omega
 rw[ee]
 generalize u*f=A at *
 generalize e*v=B at *
 generalize e*f=C at *
 generalize u*v=D at *
 omega
theorem EH {X Z D:Int} (hD:Un Z D) (h:((X-Z).natAbs:Int)<(Z.natAbs:Int)):(0<X↔0<D)∧(X<0↔D<0):=by
 have d:=hD.1
 omega
theorem Cl {T M:Int} (h:Un T M) (t:0<=T):9007199254740991*T<=9007199254740992*M:=by
 have:=h.1
 omega
theorem Cm {Z D:Int} (h:Un Z D):9007199254740991*(D.natAbs:Int)<=9007199254740992*(Z.natAbs:Int):=by
 have:=h.2
 omega
theorem DQ {a b c d X Y Z:Int} (hb:0<=b) (hc:0<=c) (h1:a*X<=b*Y) (h2:c*Y<=d*Z):(c*a)*X<=(b*d)*Z:=by
 have a1:=Int.mul_le_mul_of_nonneg_left h1 hc
 have a2:=Int.mul_le_mul_of_nonneg_left h2 hb
 rw[Int.mul_assoc,Int.mul_assoc]
 refine Int.le_trans a1 (Int.le_trans (Int.le_of_eq ?_) a2)
 rw[<- Int.mul_assoc,<- Int.mul_assoc,Int.mul_comm c b]
end Go.Proofs.YtcklaogdjpbagaaGreatDoor
