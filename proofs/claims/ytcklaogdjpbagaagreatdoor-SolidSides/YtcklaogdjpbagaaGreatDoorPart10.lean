/- Parts of the proof. -/
import Derived.Test.YtcklaogdjpbagaaGreatDoorPart9
import Derived.Test.YtcklaogdjpbagaaGreatDoorPart1
import Derived.Test.YtcklaogdjpbagaaGreatDoorPart6
import Derived.Test.YtcklaogdjpbagaaGreatDoorPart8
import Derived.Test.YtcklaogdjpbagaaGreatDoorPart7
import Derived.Test.YtcklaogdjpbagaaGreatDoorPart2
import Derived.Test.YtcklaogdjpbagaaGreatDoorPart3
import Derived.Deep.RegionHeld3
import Derived.ArgAppend
import Derived.Test.YtcklaogdjpbagaaGreatDoorPart4
import Derived.Lib.AppendZerosOnto
set_option maxRecDepth 100000
set_option maxHeartbeats 8000000
set_option linter.unusedVariables false
set_option linter.unusedSimpArgs false
namespace Go.Proofs.YtcklaogdjpbagaaGreatDoor
open Go Go.Proofs.Tryz Go.RowKit Go.Proofs.YtcklaogdjpbagaaGreatDoor.M Ieee
def pX (p q:Int):Bool:=ay (o9 p q)&&wG p q
theorem jd {p:Int} (hp:ar p) (h:ay p=true):((iV p).natAbs:Int)=bl p*2^(bs p+1074).toNat:=by
 have h0:=(fi h).1
 rw[jc,yz hp h,mI,Int.toNat_of_nonneg h0,Int.mul_comm]
end Go.Proofs.YtcklaogdjpbagaaGreatDoor
namespace Go.Proofs.YtcklaogdjpbagaaGreatDoor
open Go Go.Proofs.Tryz Go.RowKit Go.Proofs.YtcklaogdjpbagaaGreatDoor.M
end Go.Proofs.YtcklaogdjpbagaaGreatDoor
namespace Go.Proofs.YtcklaogdjpbagaaGreatDoor
open Go Go.Proofs.Tryz Go.RowKit Go.Proofs.YtcklaogdjpbagaaGreatDoor.M Ieee
end Go.Proofs.YtcklaogdjpbagaaGreatDoor
namespace Go.Proofs.YtcklaogdjpbagaaGreatDoor.M
open Go Go.Proofs.Tryz Ieee
theorem cN {b:Int} (h:ar b):ar (rg b)∧0<=rg b:=by unfold ar rg at *;split<;>omega
theorem l8 {b:Int} (h:ar b):aF (rg b)=aF b:=by
 unfold ar at h;unfold aF rg bG bT
 by_cases h0:b<0
 ·rw[if_pos h0,show(b+9223372036854775808)/4503599627370496 % 2048=b/4503599627370496 % 2048 from by omega,show(b+9223372036854775808) % 4503599627370496=b % 4503599627370496 from by omega]
 ·rw[if_neg h0]
theorem A3 {b:Int} (h:ar b):wd b % 9223372036854775808=wd (rg b):=by unfold ar rg wd at *;split<;>omega
theorem kS {b:Int} (h:0<=b):aT b=b:=by unfold aT;rw[if_neg (by omega)]
theorem za (b:Int):wd b<18446744073709551616:=by unfold wd;omega
theorem Ap {b:Int} (h:ar b):(bits .andNot .u64 (wd b) 9223372036854775808).toNat=wd (rg b):=by
 have e:=A3 h
 have l:=za b
 rw[<- e]
 show(IntKind.u64.wrap (((BitVec.ofInt 64 (wd b:Int) &&& ~~~ BitVec.ofInt 64 9223372036854775808).toNat:Nat):Int)).toNat=_
 rw[BitVec.toNat_and,BitVec.toNat_not,cJ,cJ,show(2^64-1-((9223372036854775808:Int) % 18446744073709551616).toNat)=2^63-1 from by decide,Nat.and_two_pow_sub_one_eq_mod,IntKind.wrap_u64]
 omega
theorem ct {b:Int} (h:ay b=true):¬ aF b=4:=by
 have:=ot h
 unfold aF;rw[if_neg this];split
 ·split<;>omega
 ·omega
theorem mJ {a b:Int} (ha:ar a) (hb:ar b) (h1:¬ aF a=4) (h2:¬ aF b=4) (h:aT a<aT b):FloatKind.f64.format.order (wd a) (wd b)=some .lt:=by rw[iY ha hb h1 h2,dP h]
theorem mK {a b:Int} (ha:ar a) (hb:ar b) (h1:¬ aF a=4) (h2:¬ aF b=4) (h:aT b<aT a):FloatKind.f64.format.order (wd a) (wd b)=some .gt:=by rw[iY ha hb h1 h2,dR h]
theorem lA {a b:Int} (ha:ar a) (hb:ar b) (h1:¬ aF a=4) (h2:¬ aF b=4) (h:aT a=aT b):FloatKind.f64.format.order (wd a) (wd b)=some .eq:=by rw[iY ha hb h1 h2,fU h]
def a9 (b:Int):Bool:=decide (rg b=0)||(decide (3931642474694443008<=rg b)&&decide (rg b<5282722362905591808))
theorem lB {b:Int} (h:ar b):a9 b=(decide (rg b=0)||(decide (873<=bG b)&&decide (bG b<1173))):=by
 obtain⟨h0,h1⟩:=ew h
 have h2:0<=bT b∧bT b<4503599627370496:=by unfold bT;omega
 unfold a9
 congr 1
 congr 1
 ·apply decide_eq_decide.2;omega
 ·apply decide_eq_decide.2;omega
theorem mL {b:Int} (h:ar b):ay b=decide (rg b<=9218868437227405311):=by
 obtain⟨h0,h1⟩:=ew h
 have h2:0<=bT b∧bT b<4503599627370496:=by unfold bT;omega
 have h3:0<=bG b∧bG b<2048:=by unfold bG;omega
 unfold ay
 by_cases e:bG b=2047
 ·simp[e];omega
 ·simp[e];omega
end Go.Proofs.YtcklaogdjpbagaaGreatDoor.M
namespace Go.Proofs.YtcklaogdjpbagaaGreatDoor
open Go Go.Proofs.Tryz Go.RowKit Go.Proofs.YtcklaogdjpbagaaGreatDoor.M
structure Ls where
 n:Nat
 d:Nat->Int
def Ls.add (s:Ls) (b:Int):Ls:=if rg b=0 then s else ⟨s.n+1,bP s.d s.n b⟩
def Ls.same (s t:Ls):Prop:=s.n=t.n∧∀ i,i<s.n->s.d i=t.d i
theorem Ls.same.add {s t:Ls} (h:s.same t) (b:Int):(s.add b).same (t.add b):=by
 unfold Ls.add
 split
 ·exact h
 ·refine⟨by show s.n+1=t.n+1;rw[h.1],fun i hi=>?_⟩
  show bP s.d s.n b i=bP t.d t.n b i
  by_cases e:i=s.n
  ·subst e;rw[bh,h.1,bh]
  ·rw[aU _ _ e,aU _ _ (by rw[<- h.1];exact e)]
   exact h.2 i (by have:i<s.n+1:=hi;omega)
def gq (d:Nat->Int) (q:Int):Nat->Int
 | 0=>q
 | k+1=>az (gq d q k) (d k)
def gl (d:Nat->Int) (q:Int) (k:Nat):Int:=sL (gq d q k) (d k)
def gs (d:Nat->Int) (q:Int):Nat->Ls
 | 0=>⟨0,d⟩
 | k+1=>(gs d q k).add (gl d q k)
theorem cG {b:Int} (hb:ar b) (w:World) :
  Calls prog 43 #[.float .f64 (wd b)] w fun e w'=>e=.returned (.float .f64 (wd (rg b)))∧w'=w:=by
 have h1:=rO
 have h2:=lU
 go_enter func43,ntmps43
 go_wp2
 go_ret
 exact⟨ns (Ap hb),rfl⟩
theorem pe {b:Int} (hb:ar b) (w:World) :
  Calls prog 118 #[.float .f64 (wd b)] w fun e w'=>e=.returned (.bool (ay b))∧w'=w:=by
 have n0:=AS hb
 obtain⟨r1,r2⟩:=cN hb
 by_cases h4:aF b=4
 ·have n1:(FloatKind.f64.format.order (wd b) (wd b) != some .eq)=true:=by rw[n0];simp[h4]
  have hp:ay b=false:=by
   cases h:ay b
   ·rfl
   ·exact absurd h4 (ct h)
  clear n0
  go_enter func118,ntmps118
  go_wp2
  go_ret
  exact⟨b9 hp.symm,rfl⟩
 ·have n1:(FloatKind.f64.format.order (wd b) (wd b) != some .eq)=false:=by rw[n0];simp[h4]
  have c1:¬ aF (rg b)=4:=by rw[l8 hb];exact h4
  have c2:¬ aF 9218868437227405311=4:=by decide
  have r3:ar 9218868437227405311:=by unfold ar;omega
  have k1:=kS r2
  have k2:aT 9218868437227405311=9218868437227405311:=by decide
  have e2:wd 9218868437227405311=9218868437227405311:=by decide
  have hp:=mL hb
  clear n0
  rcases Int.lt_trichotomy (rg b) 9218868437227405311 with h|h|h
  ·have o:=mJ r1 r3 c1 c2 (by rw[k1,k2];exact h)
   rw[e2] at o
   have hp':ay b=true:=by rw[hp];simp;omega
   clear hp
   go_enter func118,ntmps118
   go_wp2_with (go_at_call 43;refine(cG hb _).mono ?_;rintro _ _ ⟨rfl,rfl⟩)
   go_ret
   exact⟨b9 hp'.symm,rfl⟩
  ·have o:=lA r1 r3 c1 c2 (by rw[k1,k2];exact h)
   rw[e2] at o
   have hp':ay b=true:=by rw[hp];simp;omega
   clear hp
   go_enter func118,ntmps118
   go_wp2_with (go_at_call 43;refine(cG hb _).mono ?_;rintro _ _ ⟨rfl,rfl⟩)
   go_ret
   exact⟨b9 hp'.symm,rfl⟩
  ·have o:=mK r1 r3 c1 c2 (by rw[k1,k2];exact h)
   rw[e2] at o
   have hp':ay b=false:=by rw[hp];simp;omega
   clear hp
   go_enter func118,ntmps118
   go_wp2_with (go_at_call 43;refine(cG hb _).mono ?_;rintro _ _ ⟨rfl,rfl⟩)
   go_ret
   exact⟨b9 hp'.symm,rfl⟩
theorem tZ {b:Int} (hb:ar b) (w:World) :
    Calls prog 72 #[.int .i64 b] w fun e w'=>e=.returned (.bool (a9 b))∧w'=w:=by
  obtain⟨r1,r2⟩:=cN hb
  have k1:=kS r2
  have z1:wd 0=0:=by decide
  have z2:wd 3931642474694443008=3931642474694443008:=by decide
  have z3:wd 5282722362905591808=5282722362905591808:=by decide
  have s1:=lM r1 (show ar 0 by unfold ar;omega)
  have s2:=rl r1 (show ar 5282722362905591808 by unfold ar;omega)
  have o0:=@d6
  by_cases h4:aF (rg b)=4
  · have o1:=d6 r1 (show ar 0 by unfold ar;omega) (.inl h4)
    have o2:=d6 (show ar 3931642474694443008 by unfold ar;omega) r1 (.inr h4)
    rw[z1] at o1
    rw[z2] at o2
    have ht:a9 b=false:=by
      have h5:aF b=4:=by rw[<- l8 hb];exact h4
      have h6:bG b=2047:=by
        unfold aF at h5;split at h5
        · assumption
        · split at h5
          · split at h5<;>omega
          · omega
      have:=ew hb
      have h7:0<=bT b∧bT b<4503599627370496:=by unfold bT;omega
      rw[lB hb,h6]
      simp
      omega
    clear s1 s2 o0
    go_enter func72,ntmps72
    go_wp2_with (first
      | (go_at_call 74;refine(cZ _ _).mono ?_;rintro _ _ ⟨rfl,rfl⟩)
      | (go_at_call 43; refine (cG hb _).mono ?_; rintro _ _ ⟨rfl,rfl⟩))
    go_ret
    exact⟨b9 ht.symm,rfl⟩
  · have c0:¬ aF 0=4:=by decide
    have c2:¬ aF 3931642474694443008=4:=by decide
    have c3:¬ aF 5282722362905591808=4:=by decide
    have y0:ar 0:=by unfold ar;omega
    have y2:ar 3931642474694443008:=by unfold ar;omega
    have y3:ar 5282722362905591808:=by unfold ar;omega
    have m0:aT 0=0:=by decide
    have m2:aT 3931642474694443008=3931642474694443008:=by decide
    have m3:aT 5282722362905591808=5282722362905591808:=by decide
    clear s1 s2 o0
    by_cases e0:rg b=0
    · have o1:=lA r1 y0 h4 c0 (by rw[k1,m0];exact e0)
      rw[z1] at o1
      have ht:a9 b=true:=by unfold a9;simp[e0]
      go_enter func72,ntmps72
      go_wp2_with (first
        | (go_at_call 74;refine(cZ _ _).mono ?_;rintro _ _ ⟨rfl,rfl⟩)
        | (go_at_call 43; refine (cG hb _).mono ?_; rintro _ _ ⟨rfl,rfl⟩))
      go_ret
      exact⟨b9 ht.symm,rfl⟩
    have o1:=mK r1 y0 h4 c0 (by rw[k1,m0];omega)
    rw[z1] at o1
    by_cases e1:rg b<3931642474694443008
    · have o2:=mK y2 r1 c2 h4 (by rw[k1,m2];exact e1)
      rw[z2] at o2
      have ht:a9 b=false:=by unfold a9;simp[e0];omega
      go_enter func72,ntmps72
      go_wp2_with (first
        | (go_at_call 74;refine(cZ _ _).mono ?_;rintro _ _ ⟨rfl,rfl⟩)
        | (go_at_call 43; refine (cG hb _).mono ?_; rintro _ _ ⟨rfl,rfl⟩))
      go_ret
      exact⟨b9 ht.symm,rfl⟩
    by_cases e2:rg b=3931642474694443008
    · have o2:=lA y2 r1 c2 h4 (by rw[k1,m2];exact e2.symm)
      have o3:=mJ r1 y3 h4 c3 (by rw[k1,m3];omega)
      rw[z2] at o2
      rw[z3] at o3
      have ht:a9 b=true:=by unfold a9;simp[e2]
      go_enter func72,ntmps72
      go_wp2_with (first
        | (go_at_call 74;refine(cZ _ _).mono ?_;rintro _ _ ⟨rfl,rfl⟩)
        | (go_at_call 43; refine (cG hb _).mono ?_; rintro _ _ ⟨rfl,rfl⟩))
      go_ret
      exact⟨b9 ht.symm,rfl⟩
    have o2:=mJ y2 r1 c2 h4 (by rw[k1,m2];omega)
    rw[z2] at o2
    rcases Int.lt_trichotomy (rg b) 5282722362905591808 with h|h|h
    · have o3:=mJ r1 y3 h4 c3 (by rw[k1,m3];omega)
      rw[z3] at o3
      have ht:a9 b=true:=by unfold a9;simp[e0];omega
      go_enter func72,ntmps72
      go_wp2_with (first
        | (go_at_call 74;refine(cZ _ _).mono ?_;rintro _ _ ⟨rfl,rfl⟩)
        | (go_at_call 43; refine (cG hb _).mono ?_; rintro _ _ ⟨rfl,rfl⟩))
      go_ret
      exact⟨b9 ht.symm,rfl⟩
    · have o3:=lA r1 y3 h4 c3 (by rw[k1,m3];omega)
      rw[z3] at o3
      have ht:a9 b=false:=by unfold a9;simp[e0];omega
      go_enter func72,ntmps72
      go_wp2_with (first
        | (go_at_call 74;refine(cZ _ _).mono ?_;rintro _ _ ⟨rfl,rfl⟩)
        | (go_at_call 43; refine (cG hb _).mono ?_; rintro _ _ ⟨rfl,rfl⟩))
      go_ret
      exact⟨b9 ht.symm,rfl⟩
    · have o3:=mK r1 y3 h4 c3 (by rw[k1,m3];omega)
      rw[z3] at o3
      have ht:a9 b=false:=by unfold a9;simp[e0];omega
      go_enter func72,ntmps72
      go_wp2_with (first
        | (go_at_call 74;refine(cZ _ _).mono ?_;rintro _ _ ⟨rfl,rfl⟩)
        | (go_at_call 43; refine (cG hb _).mono ?_; rintro _ _ ⟨rfl,rfl⟩))
      go_ret
      exact⟨b9 ht.symm,rfl⟩
def ky (b:Bool):Int:=if b then 0 else 10
def l9 (d:Nat->Int) (n:Nat):Bool:=decide (∀ i,i<n->ay (d i)=true)
theorem t6 (ao:Option Addr) (n cap:Nat) (d:Nat->Int) (w:World) (h:aE w ao n cap d) (hd:∀ i,i<n->ar (d i)) :
    Calls prog 99 #[.slice ao n cap] w fun e w'=>e=.returned (.int .i64 (ky (l9 d n)))∧w'=w:=by
  have hl:=h.le
  have hm:=h.max
  go_enter func99,ntmps99
  go_wp2_with fail
  go_loop [7] (fun i=>∃ k:Nat,k<=n∧i=.int .i64 k∧Hid (∀ j,j<k->ay (d j)=true)) (fun i=>n-(intOf i).toNat)
  case atStart=>exact⟨0,Nat.zero_le _,rfl,fun j hj=>by omega⟩
  case round=>
    obtain⟨k,hk,rfl,HO⟩:=hrel
    by_cases hlt:k<n
    · obtain⟨b,off,rfl,hb,hc⟩:=h.spot (by omega)
      have c0:=hc k hlt
      have hr:=hd k hlt
      by_cases hok:ay (d k)=true
      · go_wp2_with (first
          | (go_at_call 74;refine(cZ _ _).mono ?_;rintro _ _ ⟨rfl,rfl⟩)
          | (go_at_call 118; refine (pe hr _).mono ?_; rintro _ _ ⟨rfl,rfl⟩))
        go_round
        case rel=>exact ⟨k+1,by omega,by go_num,fun j hj=>by
            by_cases e:j=k
            · subst e;exact hok
            · exact HO.out j (by omega)⟩
        case measure=>simp[intOf];omega
      · have hok':ay (d k)=false:=by simpa using hok
        go_wp2_with (first
          | (go_at_call 74;refine(cZ _ _).mono ?_;rintro _ _ ⟨rfl,rfl⟩)
          | (go_at_call 118; refine (pe hr _).mono ?_; rintro _ _ ⟨rfl,rfl⟩))
        go_ret
        exact ⟨dS (by
          unfold ky
          rw[if_neg]
          intro hx
          exact hok (of_decide_eq_true hx k hlt)),rfl⟩
    · obtain rfl:k=n:=by omega
      go_wp2
      go_ret
      exact⟨dS (by unfold ky;rw[if_pos (show l9 d k=true from decide_eq_true HO.out)]),rfl⟩
theorem xT (x y z:Int):l9 (fun i=>if i=0 then x else if i=1 then y else z) 3=(ay x&&ay y&&ay z):=by
 unfold l9
 rw[Bool.eq_iff_iff]
 simp
 constructor
 ·intro h
  exact⟨⟨by simpa using h 0 (by omega),by simpa using h 1 (by omega)⟩,by simpa using h 2 (by omega)⟩
 ·rintro⟨⟨h1,h2⟩,h3⟩ i hi
  split
  ·exact h1
  ·split
   ·exact h2
   ·exact h3
theorem zb (w:World) (o:Obj) (x y z:Int) (t:TypeId):aE ((w.alloc o).alloc (.cells #[.int .i64 x,.int .i64 y,.int .i64 z] t)) (some ⟨w.heap.size+1,0,none⟩) 3 3 (fun i=>if i=0 then x else if i=1 then y else z) :=
  ⟨by omega,by omega,(fun h=>by cases h),fun _=>⟨_,_,rfl,by simp,fun i hi=>by
    have e:((w.alloc o).alloc (.cells #[.int .i64 x,.int .i64 y,.int .i64 z] t)).heap[w.heap.size+1]?=some (.cells #[.int .i64 x,.int .i64 y,.int .i64 z] t):=bR w o _
    unfold World.cell?
    rw[show((⟨w.heap.size+1,0+i,none⟩:Addr)).block=w.heap.size+1 from rfl,e]
    match i,hi with
    | 0,_=>rfl
    | 1,_=>rfl
    | 2,_=>rfl⟩⟩
theorem ma {x y z:Int} (hx:ar x) (hy:ar y) (hz:ar z) (w:World) :
  Calls prog 70 #[.agg #[.int .i64 x,.int .i64 y,.int .i64 z]] w fun e w'=>e=.returned (.int .i64 (ky (ay x&&ay y&&ay z)))∧Below w.heap.size w w':=by
 have hr:=zb w (.cells #[.int .i64 x,.int .i64 y,.int .i64 z] 23) x y z 3
 have e2:=xT x y z
 go_enter func70,ntmps70
 go_wp2_with fail
 refine(t6 _ _ _ _ _ hr (fun i _=>by show ar (if i=0 then x else if i=1 then y else z);split;assumption;split<;>assumption)).mono ?_
 rintro _ _ ⟨rfl,rfl⟩
 go_wp2
 go_ret
 exact⟨dS (by rw[<- e2]),aL _ _ _⟩
structure wH (B:Nat) (w:World) (v:Value) (w':World) (v':Value) (s:Ls):Prop where
 out:bc B w' v' s.n s.d
 gr:w.grownBy w' v.ownBlock
 at':v'.ownBlock=v.ownBlock∨∀ k,v'.ownBlock=some k->w.heap.size<=k
theorem wH.refl {B:Nat} {w:World} {v:Value} {s:Ls} (h:bc B w v s.n s.d):wH B w v w v s:=⟨h,World.grownBy.refl _ _,.inl rfl⟩
theorem wH.below {B:Nat} {w w':World} {v v':Value} {s:Ls} (h:wH B w v w' v' s) (hO:∀ k,v.ownBlock=some k->B<=k) (hB:B<=w.heap.size):Below B w w' :=
 (Below.refl B w).grown h.gr hB hO
def t7 (w:World) (g cap N:Nat) (s:Ls):Prop:=∃ cur,w.heap[g]?=some (.cells cur 3 (0,0))∧cur.size=cap∧∀ i,i<N->cur[i]?=some (.int .i64 (s.d i))
theorem t7.keeps {w w':World} {g cap N:Nat} {s:Ls} (h:t7 w g cap N s) (hb:Below w.heap.size w w'):t7 w' g cap N s:=by
 obtain⟨cur,h1,h2⟩:=h
 exact⟨cur,(hb.block _ (aGe h1).1).trans h1,h2⟩
theorem t7.out {w:World} {B g cap N:Nat} {s:Ls} (h:t7 w g cap N s) (hn:s.n<=N) (hN:N<=cap) (hB:B<=g) (hm:cap<=9223372036854775807):bc B w (.slice (some ⟨g,0,none⟩) s.n cap) s.n s.d:=by
 obtain⟨cur,h1,h2,h3⟩:=h
 refine⟨by rw[ck];omega,.inr ⟨g,cap,cur,rfl,hB,h1,by omega,by unfold maxLen;omega,by omega,?_⟩⟩
 apply gj (by simp;omega)
 intro i hi
 rw[List.getElem?_take,if_pos (by omega),Array.getElem?_toList]
 exact h3 i (by omega)
theorem t8 {B:Nat} {w w':World} {g:Nat} (h:w.grownBy w' (some g)) (hB:B<=g) (hw:B<=w.heap.size):Below B w w' :=
 (Below.refl B w).grown h hw (fun k hk=>by simp at hk;omega)
def nK (B:Nat) (w:World) (v:Value) (s:Ls):Prop:=bc B w v s.n s.d∨(s.n=0∧∃ ad,v=.slice (some ad) 0 0)
def wI (B:Nat) (w:World) (v:Value) (w':World):Prop:=w.grownBy w' none∨∃ k,v.ownBlock=some k∧B<=k∧w.grownBy w' (some k)
theorem wI.below {B:Nat} {w w':World} {v:Value} (h:wI B w v w') (hB:B<=w.heap.size):Below B w w':=by
 rcases h with h|⟨k,_,hk,h⟩
 ·exact(Below.refl B w).grown h hB (fun k hk=>by cases hk)
 ·exact t8 h hk hB
theorem wI.size {B:Nat} {w w':World} {v:Value} (h:wI B w v w'):w.heap.size<=w'.heap.size:=by
 rcases h with h|⟨k,_,_,h⟩<;>exact h.size
theorem nK.lower {B B':Nat} {w:World} {v:Value} {s:Ls} (h:nK B w v s) (hB:B'<=B):nK B' w v s:=by
 rcases h with h|h
 ·exact .inl (h.lower hB)
 ·exact .inr h
def Ls.fin (s:Ls):Prop:=∀ i,i<s.n->ar (s.d i)∧ay (s.d i)=true
theorem Ls.fin.add {s:Ls} (h:s.fin) {b:Int} (hb:ar b) (pb:ay b=true):(s.add b).fin:=by
 unfold Ls.add
 split
 ·exact h
 ·intro i hi
  show ar (bP s.d s.n b i)∧ay (bP s.d s.n b i)=true
  by_cases e:i=s.n
  ·subst e;rw[bh];exact⟨hb,pb⟩
  ·rw[aU _ _ e]
   exact h i (by have:i<s.n+1:=hi;omega)
theorem nK.shape {B:Nat} {w:World} {v:Value} {s:Ls} (h:nK B w v s):∃ ao cap,v=.slice ao s.n cap:=by
 rcases h with h|⟨h0,ad,rfl⟩
 ·obtain⟨ao,cap,e,_⟩:=h.row
  exact⟨ao,cap,e⟩
 ·exact⟨some ad,0,by rw[h0]⟩
def sq (d:Nat->Int) (b:Int):Nat->Int
 | 0=>aw (d 0) b
 | k+1=>az (aw (d (k+1)) b) (az (sq d b k) (o9 (d (k+1)) b))
def ss (s:Ls) (d:Nat->Int) (b:Int):Nat->Ls
 | 0=>s.add (o9 (d 0) b)
 | k+1=>((ss s d b k).add (sL (sq d b k) (o9 (d (k+1)) b))).add (fL (aw (d (k+1)) b) (az (sq d b k) (o9 (d (k+1)) b)))
def sx (d:Nat->Int) (b:Int):Nat->Bool
 | 0=>pX (d 0) b
 | k+1=>sx d b k&&(pX (d (k+1)) b&&(ay (sL (sq d b k) (o9 (d (k+1)) b))&&fX (aw (d (k+1)) b) (az (sq d b k) (o9 (d (k+1)) b))))
def XA (w:World) (ok:Bool) (s:Ls) (r:Ending) (w':World):Prop:=((ok=true∧∃ v,r=.returned (.tuple #[v,.int .i64 0])∧nK w.heap.size w' v s)∨(ok=false∧r=.returned (.tuple #[.slice none 0 0,.int .i64 14])))∧Below w.heap.size w w'
end Go.Proofs.YtcklaogdjpbagaaGreatDoor
namespace Go.Proofs.YtcklaogdjpbagaaGreatDoor
open Go Go.Proofs.Tryz Go.RowKit Go.Proofs.YtcklaogdjpbagaaGreatDoor.M Ieee
end Go.Proofs.YtcklaogdjpbagaaGreatDoor
namespace Go.Proofs.YtcklaogdjpbagaaGreatDoor
open Go Go.Proofs.Tryz Go.RowKit Go.Proofs.YtcklaogdjpbagaaGreatDoor.M
theorem nK.row {B:Nat} {w:World} {v:Value} {s:Ls} (h:nK B w v s):∃ ao cap,v=.slice ao s.n cap∧aE w ao s.n cap s.d:=by
 rcases h with h|⟨h0,ad,rfl⟩
 ·exact h.row
 ·rw[h0]
  exact⟨some ad,0,rfl,Nat.le_refl _,by decide,(fun q=>by cases q),fun q=>by omega⟩
theorem XA.yes {w w':World} {ok:Bool} {s:Ls} {r:Ending} (h:XA w ok s r w') (ho:ok=true):∃ ao cap,r=.returned (.tuple #[.slice ao s.n cap,.int .i64 0])∧aE w' ao s.n cap s.d∧Below w.heap.size w w':=by
 obtain⟨(⟨_,v,h1,h2⟩|⟨h1,_⟩),hb⟩:=h
 ·obtain⟨ao,cap,rfl,hR⟩:=h2.row
  exact⟨ao,cap,h1,hR,hb⟩
 ·rw[ho] at h1;cases h1
theorem XA.no {w w':World} {ok:Bool} {s:Ls} {r:Ending} (h:XA w ok s r w') (ho:ok=false):r=.returned (.tuple #[.slice none 0 0,.int .i64 14])∧Below w.heap.size w w':=by
 obtain⟨(⟨h1,_⟩|⟨_,h1⟩),hb⟩:=h
 ·rw[ho] at h1;cases h1
 ·exact⟨h1,hb⟩
end Go.Proofs.YtcklaogdjpbagaaGreatDoor
namespace Go.Proofs.YtcklaogdjpbagaaGreatDoor
open Go Go.Proofs.Tryz Go.RowKit Go.Proofs.YtcklaogdjpbagaaGreatDoor.M Ieee
theorem A4 {a b h M:Int} (h1:((a.natAbs:Int)+b.natAbs)<=M):((a+b).natAbs:Int)<=M:=by omega
theorem A5 {a b h M:Int} (ha:2*(a.natAbs:Int)<=M) (hb:2*(b.natAbs:Int)<=M) (e1:(h-(a+b)).natAbs<=(a-(a+b)).natAbs):((h-a).natAbs:Int)<=M:=by omega
theorem A6 {a b h v M:Int} (ha:2*(a.natAbs:Int)<=M) (e2:(h-(a+b)).natAbs<=(b-(a+b)).natAbs) (e3:(v-(h-a)).natAbs<=(b-(h-a)).natAbs):((h-v).natAbs:Int)<=M:=by omega
theorem A7 {a b h v u M:Int} (ha:2*(a.natAbs:Int)<=M) (e2:(h-(a+b)).natAbs<=(b-(a+b)).natAbs) (e3:(v-(h-a)).natAbs<=(b-(h-a)).natAbs) (e4:(u-(h-v)).natAbs<=(a-(h-v)).natAbs):((a-u).natAbs:Int)<=M∧(a-u).natAbs<=2*(h-(a+b)).natAbs:=by omega
theorem A8 {a b h v M:Int} (hb:2*(b.natAbs:Int)<=M) (e1:(h-(a+b)).natAbs<=(a-(a+b)).natAbs) (e3:(v-(h-a)).natAbs<=(b-(h-a)).natAbs):((b-v).natAbs:Int)<=M∧(b-v).natAbs<=2*(h-(a+b)).natAbs:=by omega
theorem A9 {S h x y p q M:Int} (hM:(S.natAbs:Int)<=M) (r:1000*(h-S).natAbs<=S.natAbs) (g1:x.natAbs<=2*(h-S).natAbs) (g2:y.natAbs<=2*(h-S).natAbs) (n1:(p-x).natAbs<=(0-x).natAbs) (n2:(q-y).natAbs<=(0-y).natAbs):((p+q).natAbs:Int)<=M:=by omega
theorem qQ {p q:Int} (hp:M.ar p) (hq:M.ar q) (pp:ay p=true) (pq:ay q=true) (h1:2*((iV p).natAbs:Int)<=jM) (h2:2*((iV q).natAbs:Int)<=jM):ay (az p q)=true∧ay (sL p q)=true:=by
 have rh:=bU hp hq
 have rv:M.ar (sV p q):=bU rh (dJ hp)
 have rU:=bU rh (dJ rv)
 have rX:=bU hp (dJ rU)
 have rY:=bU hq (dJ rv)
 have Sh:=gB hp hq pp pq
 have hM:=A4 (h:=0) (a:=iV p) (b:=iV q) (M:=jM) (by omega)
 have ph:=Sh.fin hM
 have nh:=Sh.nr ph
 have e1:=nh.2 _ (kQ p)
 have e2:=nh.2 _ (kQ q)
 have Sv:=eY rh hp ph pp
 have pv:=Sv.fin (A5 h1 h2 e1)
 have nv:=Sv.nr pv
 have e3:=nv.2 _ (kQ q)
 have SU:=eY rh rv ph pv
 have pU:=SU.fin (A6 h1 e2 e3)
 have e4:=(SU.nr pU).2 _ (kQ p)
 have SX:=eY hp rU pp pU
 obtain⟨g1,g2⟩:=A7 h1 e2 e3 e4
 have pX:=SX.fin g1
 have SY:=eY hq rv pq pv
 obtain⟨g3,g4⟩:=A8 h2 e1 e3
 have pY:=SY.fin g3
 exact⟨ph,(gB rX rY pX pY).fin (A9 hM (tS nh) g2 g4 ((SX.nr pX).2 _ i9) ((SY.nr pY).2 _ i9))⟩
end Go.Proofs.YtcklaogdjpbagaaGreatDoor
namespace Go.Proofs.YtcklaogdjpbagaaGreatDoor
open Go Go.Proofs.Tryz Go.RowKit Go.Proofs.YtcklaogdjpbagaaGreatDoor.M
theorem mb {b:Int} (hb:ar b):aF b=0↔rg b=0:=by
 have h1:=l8 hb
 rw[<- h1]
 constructor
 ·intro h
  have hr:=(cN hb).1
  have h0:0<=rg b:=(cN hb).2
  generalize rg b=r at *
  unfold ar at hr
  unfold aF bG bT at h
  split at h
  ·split at h<;>omega
  ·split at h
   ·split at h
    ·omega
    ·omega
   ·omega
 ·intro h;rw[h];decide
theorem Ls.same.refl (s:Ls):s.same s:=⟨rfl,fun _ _=>rfl⟩
theorem Ls.same.symm {s t:Ls} (h:s.same t):t.same s:=⟨h.1.symm,fun i hi=>(h.2 i (by rw[h.1];exact hi)).symm⟩
theorem Ls.same.trans {s t u:Ls} (h:s.same t) (k:t.same u):s.same u:=⟨h.1.trans k.1,fun i hi=>(h.2 i hi).trans (k.2 i (by rw[<- h.1];exact hi))⟩
def Lo (x y:Int):Prop:=∃ s:Nat,(x.natAbs:Int)<2^s∧(2^s:Int) ∣ y
theorem rW {x y:Int} (h:x ∣ y) (h0:y≠0) (hx:0<x):x<=(y.natAbs:Int):=by
 have h1:x ∣ (y.natAbs:Int):=Int.dvd_natAbs.2 h
 exact Int.le_of_dvd (by omega) h1
theorem Lo.trans {x y z:Int} (h:Lo x y) (hy:y≠0) (k:Lo y z):Lo x z:=by
 obtain⟨s,h1,h2⟩:=h
 obtain⟨t,k1,k2⟩:=k
 have h3:=rW h2 hy (p2 s)
 have h4:s<t:=vP (Int.lt_of_le_of_lt h3 k1)
 exact⟨s,h1,Int.dvd_trans (hG (by omega)) k2⟩
theorem t9 {b:Int} (hb:ar b) (h:rg b=0):iV b=0:=by
 have:=jc b
 rw[h] at this
 have h2:(V Ieee.double (0:Int).toNat:Int)=0:=by decide +kernel
 omega
theorem xU {b:Int} (hb:ar b) (pb:ay b=true) (h:rg b≠0):iV b≠0∧bl b≠0:=by
 have e:=jd hb pb
 have hm:bl b≠0:=by
  intro q
  have hc:aF b=0:=by
   have hf:bG b≠2047:=by simpa [ay] using pb
   have:=gI b
   unfold bl at q
   rw[if_neg hf] at q
   unfold aF
   rw[if_neg hf]
   by_cases h0:bG b=0
   ·rw[if_pos h0] at q ⊢
    rw[if_pos q]
   ·rw[if_neg h0] at q
    omega
  exact h ((mb hb).1 hc)
 refine⟨fun q=>?_,hm⟩
 obtain⟨i0,_⟩:=fi pb
 have p1:=aB (bs b+1074).toNat
 have:0<bl b*2^(bs b+1074).toNat:=Int.mul_pos (by omega) p1
 rw[q] at e
 omega
structure XV (d:Nat->Int) (n:Nat):Prop where
 fin:∀ i,i<n->ar (d i)∧ay (d i)=true∧rg (d i)≠0
 lo:∀ i,i+1<n->Lo (iV (d i)) (iV (d (i+1)))
theorem XV.ne {d:Nat->Int} {n:Nat} (h:XV d n) {i:Nat} (hi:i<n):iV (d i)≠0:=(xU (h.fin i hi).1 (h.fin i hi).2.1 (h.fin i hi).2.2).1
theorem XV.far {d:Nat->Int} {n:Nat} (h:XV d n) {i:Nat}:∀ {j},i<j->j<n->Lo (iV (d i)) (iV (d j))
 | 0,hij,_=>absurd hij (Nat.not_lt_zero _)
 | j+1,hij,hj=>by
  by_cases e:i=j
  ·subst e;exact h.lo i hj
  ·exact(h.far (show i<j by omega) (by omega)).trans (h.ne (by omega)) (h.lo j hj)
theorem XV.add {s:Ls} (h:XV s.d s.n) {b:Int} (hb:ar b) (pb:ay b=true) (hlo:∀ i,i<s.n->Lo (iV (s.d i)) (iV b)):XV (s.add b).d (s.add b).n:=by
 unfold Ls.add
 split
 ·exact h
 ·rename_i hz
  refine⟨fun i hi=>?_,fun i hi=>?_⟩
  ·show ar (bP s.d s.n b i)∧ay (bP s.d s.n b i)=true∧rg (bP s.d s.n b i)≠0
   by_cases e:i=s.n
   ·subst e;rw[bh];exact⟨hb,pb,hz⟩
   ·rw[aU _ _ e];exact h.fin i (by have:i<s.n+1:=hi;omega)
  ·have hi':i+1<s.n+1:=hi
   show Lo (iV (bP s.d s.n b i)) (iV (bP s.d s.n b (i+1)))
   rw[aU _ _ (show i≠s.n by omega)]
   by_cases e:i+1=s.n
   ·rw[e,bh];exact hlo i (by omega)
   ·rw[aU _ _ e];exact h.lo i (by omega)
theorem xV {p q:Int} (hp:ar p) (hq:ar q) (h:ay (sL p q)=true):Nr (iV p+iV q) (iV (az p q)):=by
 obtain⟨⟨pp,pq⟩,ps,e⟩:=vU hp hq h
 exact(gB hp hq pp pq).nr ps
def AN (d:Nat->Int):Nat->Int
 | 0=>0
 | k+1=>AN d k+iV (d k)
theorem kT:(2:Int)^2097<=jM:=by
 have h:(2:Int)^2097<=(V Ieee.double 9218868437227405311:Int):=by decide +kernel
 exact h
theorem Aq {b c:Nat} {x:Int} (h:(x.natAbs:Int)<=2^b) (hbc:b<=c):(x.natAbs:Int)<=2^c:=Int.le_trans h (kw hbc)
def LB (s:Ls) (b:Nat):Prop:=∀ i,i<s.n->((iV (s.d i)).natAbs:Int)<=2^b
theorem LB.add {s:Ls} {b:Nat} (h:LB s b) {x:Int} (hx:((iV x).natAbs:Int)<=2^b):LB (s.add x) b:=by
 unfold Ls.add
 split
 ·exact h
 ·intro i hi
  show((iV (bP s.d s.n x i)).natAbs:Int)<=_
  by_cases e:i=s.n
  ·subst e;rw[bh];exact hx
  ·rw[aU _ _ e];exact h i (by have:i<s.n+1:=hi;omega)
theorem XV.fn {s:Ls} (h:XV s.d s.n):s.fin:=fun i hi=>⟨(h.fin i hi).1,(h.fin i hi).2.1⟩
def AO (T:Nat->Int):Nat->Int
 | 0=>0
 | k+1=>AO T k+T k
structure SI (d T:Nat->Int) (B N k:Nat) (L:Ls) (q:Int):Prop where
 xv:XV L.d L.n
 sum:AN L.d L.n+iV q=AO T (k+1)
 up:∀ i,i<L.n->∃ s:Nat,((iV (L.d i)).natAbs:Int)<2^s∧(2^s:Int) ∣ iV q∧∀ j,k<j->j<=N->(2^s:Int) ∣ T j
 small:∀ t:Nat,((iV (d k)).natAbs:Int)<2^t->∀ i,i<L.n->((iV (L.d i)).natAbs:Int)<2^(t+B-1074)
def PB (P:Nat->Prop) (w:World):Prop:=∀ k,P k->k<w.heap.size
structure iw (P:Nat->Prop) (w w':World):Prop where
 os:w'.os=w.os
 tape:w'.tape=w.tape
 output:w'.output=w.output
 size:w.heap.size<=w'.heap.size
 block:∀ k,P k->w'.heap[k]?=w.heap[k]?
theorem iw.refl (P:Nat->Prop) (w:World):iw P w w:=⟨rfl,rfl,rfl,Nat.le_refl _,fun _ _=>rfl⟩
theorem iw.trans {P:Nat->Prop} {a b c:World} (h:iw P a b) (k:iw P b c):iw P a c :=
 ⟨k.os.trans h.os,k.tape.trans h.tape,k.output.trans h.output,Nat.le_trans h.size k.size,fun i hi=>(k.block i hi).trans (h.block i hi)⟩
theorem iw.of {P:Nat->Prop} {w w':World} (h:Below w.heap.size w w') (hP:PB P w):iw P w w':=⟨h.os,h.tape,h.output,h.size,fun k hk=>h.block k (hP k hk)⟩
theorem PB.le {P:Nat->Prop} {w w':World} (h:PB P w) (hs:w.heap.size<=w'.heap.size):PB P w':=fun k hk=>Nat.lt_of_lt_of_le (h k hk) hs
def jP (P:Nat->Prop) (w:World) (v:Value) (s:Ls):Prop:=bc 0 w v s.n s.d∧∀ k,v.ownBlock=some k->¬ P k
theorem jP.shape {P:Nat->Prop} {w:World} {v:Value} {s:Ls} (h:jP P w v s):∃ ao cap,v=.slice ao s.n cap:=by
 obtain⟨ao,cap,e,_⟩:=h.1.row
 exact⟨ao,cap,e⟩
theorem jP.stays {P:Nat->Prop} {w w':World} {v:Value} {s:Ls} (h:jP P w v s) (hb:Below w.heap.size w w'):jP P w' v s:=⟨h.1.stays hb,h.2⟩
theorem jP.gr {P:Nat->Prop} {w w':World} {v:Value} {s:Ls} (h:jP P w v s) (hP:PB P w) (g:w.grownBy w' v.ownBlock):iw P w w' :=
 ⟨g.os,g.tape,g.output,g.size,fun k hk=>g.block k (hP k hk) fun e=>h.2 k e.symm hk⟩
theorem Ls.same.fin {s t:Ls} (h:s.same t) (ht:t.fin):s.fin:=fun i hi=>by
 rw[h.2 i hi]
 exact ht i (by rw[<- h.1];exact hi)
theorem iw.below {P:Nat->Prop} {N:Nat} {w w':World} (h:iw P w w') (hP:∀ k,k<N->P k):Below N w w':=⟨h.os,h.tape,h.output,h.size,fun k hk=>h.block k (hP k hk)⟩
theorem jP.raise {P:Nat->Prop} {N:Nat} {w:World} {v:Value} {s:Ls} (h:jP P w v s) (hP:∀ k,k<N->P k):bc N w v s.n s.d:=by
 have h1:=h.1
 rcases h1.2 with q|⟨g,cap,cur,q1,_,q3⟩
 ·exact⟨h1.1,.inl q⟩
 ·refine⟨h1.1,.inr ⟨g,cap,cur,q1,?_,q3⟩⟩
  have h2:=h.2 g (by rw[q1];rfl)
  exact Nat.le_of_not_lt fun e=>h2 (hP g e)
end Go.Proofs.YtcklaogdjpbagaaGreatDoor
namespace Go.Proofs.YtcklaogdjpbagaaGreatDoor
open Go Go.Proofs.Tryz Go.RowKit Go.Proofs.YtcklaogdjpbagaaGreatDoor.M Ieee
end Go.Proofs.YtcklaogdjpbagaaGreatDoor
namespace Go.Proofs.YtcklaogdjpbagaaGreatDoor
open Go Go.Proofs.Tryz Go.RowKit Go.Proofs.YtcklaogdjpbagaaGreatDoor.M
def Mz (x:Int):Prop:=ar x∧ay x=true∧(2^872:Int) ∣ iV x∧((iV x).natAbs:Int)<=2^1224
theorem je {x:Int} (hx:ar x) (ht:a9 x=true):Mz x:=by
 rw[lB hx] at ht
 by_cases h0:rg x=0
 ·have hc:=(mb hx).2 h0
  have hp:ay x=true:=by
   cases hp:ay x
   ·exfalso
    have hf:bG x=2047:=by simpa [ay] using hp
    unfold aF at hc
    rw[if_pos hf] at hc
    split at hc<;>omega
   ·rfl
  rw[Mz,t9 hx h0]
  exact⟨hx,hp,⟨0,by rw[Int.mul_zero]⟩,by have:=p2 1224;show(((0:Int).natAbs:Nat):Int)<=_;omega⟩
 ·have hz:decide (rg x=0)=false:=decide_eq_false h0
  rw[hz,Bool.false_or,Bool.and_eq_true] at ht
  have h1:=of_decide_eq_true ht.1
  have h2:=of_decide_eq_true ht.2
  have hf0:bG x≠2047:=by omega
  have hf1:bG x≠0:=by omega
  have hp:ay x=true:=by simp[ay,hf0]
  have hfr:=gI x
  have e1:bl x=4503599627370496+bT x:=by unfold bl;rw[if_neg hf0,if_neg hf1]
  have e2:bs x=bG x-1075:=by unfold bs;rw[if_neg hf0,if_neg hf1]
  have hm:bl x<=2^53:=by
   rw[e1]
   show _<=9007199254740992
   omega
  refine⟨hx,hp,?_,?_⟩
  ·apply Int.dvd_natAbs.1
   rw[jd hx hp]
   exact Int.dvd_trans (hG (show 872<=(bs x+1074).toNat by rw[e2];omega)) ⟨bl x,by rw[Int.mul_comm]⟩
  ·rw[jd hx hp]
   have p1:(2:Int)^(bs x+1074).toNat<=2^1171:=kw (by rw[e2];omega)
   have p0:=p2 (bs x+1074).toNat
   calc bl x*2^(bs x+1074).toNat<=2^53*2^(bs x+1074).toNat:=Int.mul_le_mul_of_nonneg_right hm (by omega)
    _<=2^53*2^1171:=Int.mul_le_mul_of_nonneg_left p1 (by decide)
    _=2^1224:=by rw[<- Int.pow_add]
theorem zc {p q:Int} (hp:Mz p) (hq:Mz q):ay (az p (neg q))=true∧ay (sL p (neg q))=true:=by
 obtain⟨n1,n2,n3⟩:=fM hq.1 hq.2.1
 have hM:=kT
 have h1:(2:Int)^1225<=2^2097:=kw (by decide)
 have h2:(2:Int)^1225=2*2^1224:=iI 1224
 have a:=hp.2.2.2
 have b:=hq.2.2.2
 exact qQ hp.1 n1 hp.2.1 n2 (by omega) (by rw[n3];omega)
def Un (S h:Int):Prop:=9007199254740992*((h-S).natAbs:Int)<=(S.natAbs:Int)∧9007199254740992*((h-S).natAbs:Int)<=(h.natAbs:Int)
theorem nL {S h:Int} (n:Nr S h) (h0:0<=S):Un S h:=by
 obtain⟨k,h1,h2⟩:=o5 S h0
 rcases h2 with h2|h2
 ·subst h2
  have e:=dI ⟨0,⟨S,by rw[Int.pow_zero];omega⟩,by omega⟩ n
  subst e
  rw[Un,Int.sub_self]
  simp
 ·have c:=yV n (i:=k) (by omega)
  have g:=Aj n (Ak k (m:=4503599627370496) (by decide)) h2
  have p0:=p2 k
  generalize (2:Int)^k=q at *
  have g':4503599627370496*q<=h:=g
  constructor<;>omega
theorem wJ {S h:Int} (n:Nr S h):Un S h:=by
 by_cases h0:0<=S
 ·exact nL n h0
 ·have:=nL n.neg (by omega)
  unfold Un at *
  omega
theorem Un.scale {S h:Int} (u:Un S h) {c:Int} (hc:0<=c):Un (c*S) (c*h):=by
 have e:∀ x:Int,((c*x).natAbs:Int)=c*(x.natAbs:Int):=fun x=>by
  rw[Int.natAbs_mul,Int.natCast_mul]
  congr 1
  omega
 rw[Un,<- Int.mul_sub,e,e,e,<- Int.mul_assoc,Int.mul_comm 9007199254740992 c,Int.mul_assoc]
 exact⟨Int.mul_le_mul_of_nonneg_left u.1 hc,Int.mul_le_mul_of_nonneg_left u.2 hc⟩
theorem kU (x y:Int):((x*y).natAbs:Int)=(x.natAbs:Int)*(y.natAbs:Int):=by rw[Int.natAbs_mul,Int.natCast_mul]
theorem ua {u e v:Int} (h:9007199254740992*(e.natAbs:Int)<=(u.natAbs:Int)):9007199254740992*((e*v).natAbs:Int)<=((u*v).natAbs:Int):=by
 rw[kU,kU,<- Int.mul_assoc]
 exact Int.mul_le_mul_of_nonneg_right h (by omega)
theorem ub {u e v:Int} (h:9007199254740992*(e.natAbs:Int)<=(u.natAbs:Int)):9007199254740992*((v*e).natAbs:Int)<=((v*u).natAbs:Int):=by
 rw[Int.mul_comm v e,Int.mul_comm v u]
 exact ua h
theorem vW {x y u v:Int} (hu:Un x u) (hv:Un y v):81129638414606681695789005144064*((x*y-u*v).natAbs:Int)<=18014398509481985*((u*v).natAbs:Int):=by
 obtain⟨e,he⟩:∃ e,x=u+e:=⟨x-u,by omega⟩
 obtain⟨f,hf⟩:∃ f,y=v+f:=⟨y-v,by omega⟩
 have h1:9007199254740992*(e.natAbs:Int)<=(u.natAbs:Int):=by have:=hu.2;omega
 have h2:9007199254740992*(f.natAbs:Int)<=(v.natAbs:Int):=by have:=hv.2;omega
 have a1:=ua (v:=v) h1
 have a2:=ub (v:=u) h2
 have a3:=ub (v:=e) h2
 have ee:x*y-u*v=u*f+e*v+e*f:=by
  rw[he,hf,Int.add_mul,Int.mul_add,Int.mul_add]
  omega
 rw[ee]
 generalize u*f=A at *
 generalize e*v=B at *
 generalize e*f=C at *
 generalize u*v=D at *
 omega
theorem Ba {X Z D:Int} (hD:Un Z D) (h:((X-Z).natAbs:Int)<(Z.natAbs:Int)):(0<X↔0<D)∧(X<0↔D<0):=by
 have d:=hD.1
 omega
theorem zd {T M:Int} (h:Un T M) (t:0<=T):9007199254740991*T<=9007199254740992*M:=by
 have:=h.1
 omega
theorem ze {Z D:Int} (h:Un Z D):9007199254740991*(D.natAbs:Int)<=9007199254740992*(Z.natAbs:Int):=by
 have:=h.2
 omega
theorem Ar {a b c d X Y Z:Int} (hb:0<=b) (hc:0<=c) (h1:a*X<=b*Y) (h2:c*Y<=d*Z):(c*a)*X<=(b*d)*Z:=by
 have a1:=Int.mul_le_mul_of_nonneg_left h1 hc
 have a2:=Int.mul_le_mul_of_nonneg_left h2 hb
 rw[Int.mul_assoc,Int.mul_assoc]
 refine Int.le_trans a1 (Int.le_trans (Int.le_of_eq ?_) a2)
 rw[<- Int.mul_assoc,<- Int.mul_assoc,Int.mul_comm c b]
end Go.Proofs.YtcklaogdjpbagaaGreatDoor
