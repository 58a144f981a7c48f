/- Parts of the proof. -/
import Derived.Test.YtcklaogdjpbagaaGreatDoorSp11
import Derived.Test.YtcklaogdjpbagaaGreatDoorSp15
import Derived.Deep.RegionHeld3
set_option maxRecDepth 100000
set_option maxHeartbeats 8000000
set_option linter.unusedVariables false
set_option linter.unusedSimpArgs false
namespace Go.Proofs.YtcklaogdjpbagaaGreatDoor
open Go Go.RowKit Go.Proofs.YtcklaogdjpbagaaGreatDoor.M
structure fy (w:World) (ao:Option Addr) (n cap:Nat) (s:Nat->Nat->Int):Prop where
 le:n<=cap
 max:cap<=9223372036854775807
 spot:0<n->∃ b off,ao=some ⟨b,off,none⟩∧b<w.heap.size∧∀ i,i<n->w.cell? ⟨b,off+i*3,none⟩=some (.int .i64 (s i 0))∧w.cell? ⟨b,off+i*3+1,none⟩=some (.int .i64 (s i 1))∧w.cell? ⟨b,off+i*3+2,none⟩=some (.int .i64 (s i 2))
theorem fy.keeps {w w':World} {ao:Option Addr} {n cap:Nat} {s:Nat->Nat->Int} (h:fy w ao n cap s) (hb:Below w.heap.size w w'):fy w' ao n cap s :=
  ⟨h.le,h.max,fun hn=>by
    obtain⟨b,off,rfl,hlt,hc⟩:=h.spot hn
    exact ⟨b,off,rfl,Nat.lt_of_lt_of_le hlt hb.size,fun i hi=>⟨(hb.cell (p:=⟨b,off+i*3,none⟩) hlt).trans (hc i hi).1,(hb.cell (p:=⟨b,off+i*3+1,none⟩) hlt).trans (hc i hi).2.1,(hb.cell (p:=⟨b,off+i*3+2,none⟩) hlt).trans (hc i hi).2.2⟩⟩⟩
def cD (s:Nat->Nat->Int) (i:Nat):Bool:=aF (s i 0)&&aF (s i 1)&&aF (s i 2)
def dz (s:Nat->Nat->Int) (i:Nat):Bool:=bz (s i 0)&&bz (s i 1)&&bz (s i 2)
theorem hG (x y z:Int) (w:World):Calls Tryz.prog 71 #[.agg #[.int .i64 x,.int .i64 y,.int .i64 z]] w fun e w'=>e=.returned (.agg #[.int .i64 x,.int .i64 y,.int .i64 z])∧Below w.heap.size w w':=by
 go_enter Tryz.func71,Tryz.ntmps71
 go_wp2
 exact bodyPost_ret (v:=.agg #[.int .i64 x,.int .i64 y,.int .i64 z]) (by simp[results,Tryz.results71,go_sem]) rfl ⟨rfl,aO _ _ _⟩
theorem eJ (ao:Option Addr) (n cap:Nat) (s:Nat->Nat->Int) (w:World) (h:fy w ao n cap s) (hs:∀ i k,ax (s i k)) :
  Calls Tryz.prog 38 #[.slice ao n cap] w fun x w'=>x=.returned (.bool (bL (cD s) n))∧Below w.heap.size w w':=by
 have hl:=h.le
 have hm:=h.max
 have e0:mc true=0:=rfl
 have e1:mc false=10:=rfl
 have CC:Hid (∀ i W,Calls Tryz.prog 70 #[.agg #[.int .i64 (s i 0),.int .i64 (s i 1),.int .i64 (s i 2)]] W fun e w'=>e=.returned (.int .i64 (mc (cD s i)))∧Below W.heap.size W w'):=fun i W=>nX (hs i 0) (hs i 1) (hs i 2) W
 clear hs
 go_enter Tryz.func38,Tryz.ntmps38
 go_wp2_with fail
 go_loopw [7] (fun i wr=>∃ k:Nat,k<=n∧i=.int .i64 k∧Hid (∀ j,j<k->cD s j=true)∧Below w.heap.size w wr) (fun i _=>n-(intOf i).toNat)
 case atStart=>exact⟨0,Nat.zero_le _,rfl,fun j hj=>by omega,ak _⟩
 case round=>
  obtain⟨k,hk,rfl,HO,hbw⟩:=hrel
  by_cases hlt:k<n
  ·obtain⟨b,off,rfl,hb,hc⟩:=h.spot (by omega)
   have c0:=(hbw.cell (p:=⟨b,off+k*3,none⟩) hb).trans (hc k hlt).1
   have c1:=(hbw.cell (p:=⟨b,off+k*3+1,none⟩) hb).trans (hc k hlt).2.1
   have c2:=(hbw.cell (p:=⟨b,off+k*3+2,none⟩) hb).trans (hc k hlt).2.2
   have CK:Hid (∀ W,Calls Tryz.prog 70 #[.agg #[.int .i64 (s k 0),.int .i64 (s k 1),.int .i64 (s k 2)]] W fun e w'=>e=.returned (.int .i64 (mc (cD s k)))∧Below W.heap.size W w'):=CC.out k
   have HK:Hid (∀ q:cD s k=false,false=bL (cD s) n):=fun q=>(decide_eq_false fun hx=>by have:=hx k hlt;rw[this] at q;cases q).symm
   have HY:Hid (cD s k=true->∀ j,j<k+1->cD s j=true):=fun q j hj=>by
    by_cases e:j=k
    ·subst e;exact q
    ·exact HO.out j (by omega)
   clear hc
   by_cases hok:cD s k=true
   ·rw[hok,e0] at CK
    replace HY:Hid (∀ j,j<k+1->cD s j=true):=HY.out hok
    clear hok
    go_wp2_with (go_at_call 70;refine(CK.out _).mono ?_;rintro x w1 ⟨rfl,hb1⟩)
    go_roundw
    case rel=>exact⟨k+1,by omega,by go_num,HY,hbw.trans ((ac (ah _ _) hb1).mono hbw.size)⟩
    case measure=>simp[intOf];omega
   ·have hok':cD s k=false:=by simpa using hok
    rw[hok',e1] at CK
    replace HK:Hid (false=bL (cD s) n):=HK.out hok'
    clear hok hok' HY
    go_wp2_with (go_at_call 70;refine(CK.out _).mono ?_;rintro x w1 ⟨rfl,hb1⟩)
    go_ret
    exact⟨bD HK.out,hbw.trans ((ac (ah _ _) hb1).mono hbw.size)⟩
  ·obtain rfl:k=n:=by omega
   have HD:Hid (true=bL (cD s) k):=(decide_eq_true HO.out).symm
   go_wp2
   go_ret
   exact⟨bD HD.out,hbw⟩
theorem vm {x y z:Int} (hx:ax x) (hy:ax y) (hz:ax z) (w:World) :
  Calls Tryz.prog 21 #[.agg #[.int .i64 x,.int .i64 y,.int .i64 z]] w fun e w'=>e=.returned (.bool (aF x&&aF y&&aF z))∧Below w.heap.size w w':=by
 cases h1:aF x<;>cases h2:aF y<;>cases h3:aF z
 all_goals
  go_enter Tryz.func21,Tryz.ntmps21
  go_wp2_with fail
  refine(oU hx _).mono ?_
  rintro _ _ ⟨rfl,rfl⟩
  go_wp2_with fail
  refine(oU hy _).mono ?_
  rintro _ _ ⟨rfl,rfl⟩
  go_wp2_with fail
  refine(oU hz _).mono ?_
  rintro _ _ ⟨rfl,rfl⟩
  go_wp2
  go_ret
  exact⟨rfl,ah _ _⟩
theorem oh (ao:Option Addr) (n cap:Nat) (s:Nat->Nat->Int) (w:World) (h:fy w ao n cap s) (hs:∀ i k,ax (s i k)) :
  Calls Tryz.prog 9 #[.slice ao n cap] w fun x w'=>x=.returned (.bool (bL (cD s) n))∧Below w.heap.size w w':=by
 have hl:=h.le
 have hm:=h.max
 have CC:Hid (∀ i W,Calls Tryz.prog 21 #[.agg #[.int .i64 (s i 0),.int .i64 (s i 1),.int .i64 (s i 2)]] W fun e w'=>e=.returned (.bool (cD s i))∧Below W.heap.size W w'):=fun i W=>vm (hs i 0) (hs i 1) (hs i 2) W
 clear hs
 go_enter Tryz.func9,Tryz.ntmps9
 go_wp2_with fail
 go_loopw [3] (fun i wr=>∃ k:Nat,k<=n∧i=.int .i64 k∧Hid (∀ j,j<k->cD s j=true)∧Below w.heap.size w wr) (fun i _=>n-(intOf i).toNat)
 case atStart=>exact⟨0,Nat.zero_le _,rfl,fun j hj=>by omega,ak _⟩
 case round=>
  obtain⟨k,hk,rfl,HO,hbw⟩:=hrel
  by_cases hlt:k<n
  ·obtain⟨b,off,rfl,hb,hc⟩:=h.spot (by omega)
   have c0:=(hbw.cell (p:=⟨b,off+k*3,none⟩) hb).trans (hc k hlt).1
   have c1:=(hbw.cell (p:=⟨b,off+k*3+1,none⟩) hb).trans (hc k hlt).2.1
   have c2:=(hbw.cell (p:=⟨b,off+k*3+2,none⟩) hb).trans (hc k hlt).2.2
   have CK:Hid (∀ W,Calls Tryz.prog 21 #[.agg #[.int .i64 (s k 0),.int .i64 (s k 1),.int .i64 (s k 2)]] W fun e w'=>e=.returned (.bool (cD s k))∧Below W.heap.size W w'):=CC.out k
   have HK:Hid (∀ q:cD s k=false,false=bL (cD s) n):=fun q=>(decide_eq_false fun hx=>by have:=hx k hlt;rw[this] at q;cases q).symm
   have HY:Hid (cD s k=true->∀ j,j<k+1->cD s j=true):=fun q j hj=>by
    by_cases e:j=k
    ·subst e;exact q
    ·exact HO.out j (by omega)
   clear hc
   by_cases hok:cD s k=true
   ·rw[hok] at CK
    replace HY:Hid (∀ j,j<k+1->cD s j=true):=HY.out hok
    clear hok
    go_wp2_with (go_at_call 21;refine(CK.out _).mono ?_;rintro x w1 ⟨rfl,hb1⟩)
    go_roundw
    case rel=>exact⟨k+1,by omega,by go_num,HY,hbw.trans (hb1.mono hbw.size)⟩
    case measure=>simp[intOf];omega
   ·have hok':cD s k=false:=by simpa using hok
    rw[hok'] at CK
    replace HK:Hid (false=bL (cD s) n):=HK.out hok'
    clear hok hok' HY
    go_wp2_with (go_at_call 21;refine(CK.out _).mono ?_;rintro x w1 ⟨rfl,hb1⟩)
    go_ret
    exact⟨bD HK.out,hbw.trans (hb1.mono hbw.size)⟩
  ·obtain rfl:k=n:=by omega
   have HD:Hid (true=bL (cD s) k):=(decide_eq_true HO.out).symm
   go_wp2
   go_ret
   exact⟨bD HD.out,hbw⟩
theorem gL (ao:Option Addr) (n cap:Nat) (s:Nat->Nat->Int) (w:World) (h:fy w ao n cap s) (hs:∀ i k,ax (s i k)) :
  Calls Tryz.prog 39 #[.slice ao n cap] w fun x w'=>x=.returned (.bool (bL (dz s) n))∧Below w.heap.size w w':=by
 have hl:=h.le
 have hm:=h.max
 have CT:Hid (∀ i k W,Calls Tryz.prog 72 #[.int .i64 (s i k)] W fun e w'=>e=.returned (.bool (bz (s i k)))∧w'=W):=fun i k W=>xh (hs i k) W
 clear hs
 go_enter Tryz.func39,Tryz.ntmps39
 go_wp2_with fail
 go_loopw [9] (fun i wr=>∃ k:Nat,k<=n∧i=.int .i64 k∧Hid (∀ j,j<k->dz s j=true)∧Below w.heap.size w wr) (fun i _=>n-(intOf i).toNat)
 case atStart=>exact⟨0,Nat.zero_le _,rfl,fun j hj=>by omega,ak _⟩
 case round=>
  obtain⟨k,hk,rfl,HO,hbw⟩:=hrel
  by_cases hlt:k<n
  ·obtain⟨b,off,rfl,hb,hc⟩:=h.spot (by omega)
   have c0:=(hbw.cell (p:=⟨b,off+k*3,none⟩) hb).trans (hc k hlt).1
   have c1:=(hbw.cell (p:=⟨b,off+k*3+1,none⟩) hb).trans (hc k hlt).2.1
   have c2:=(hbw.cell (p:=⟨b,off+k*3+2,none⟩) hb).trans (hc k hlt).2.2
   have C0:Hid (∀ W,Calls Tryz.prog 72 #[.int .i64 (s k 0)] W fun e w'=>e=.returned (.bool (bz (s k 0)))∧w'=W):=CT.out k 0
   have C1:Hid (∀ W,Calls Tryz.prog 72 #[.int .i64 (s k 1)] W fun e w'=>e=.returned (.bool (bz (s k 1)))∧w'=W):=CT.out k 1
   have C2:Hid (∀ W,Calls Tryz.prog 72 #[.int .i64 (s k 2)] W fun e w'=>e=.returned (.bool (bz (s k 2)))∧w'=W):=CT.out k 2
   have HK:Hid (∀ q:dz s k=false,false=bL (dz s) n):=fun q=>(decide_eq_false fun hx=>by have:=hx k hlt;rw[this] at q;cases q).symm
   have HY:Hid (dz s k=true->∀ j,j<k+1->dz s j=true):=fun q j hj=>by
    by_cases e:j=k
    ·subst e;exact q
    ·exact HO.out j (by omega)
   have HX:Hid (dz s k=(bz (s k 0)&&bz (s k 1)&&bz (s k 2))):=rfl
   clear hc
   generalize s k 0=x0 at *
   generalize s k 1=x1 at *
   generalize s k 2=x2 at *
   have i0:∀ w,(Instr.index 69 (.agg #[.int .i64 x0,.int .i64 x1,.int .i64 x2]) (.int .i64 0)).run Tryz.prog w=.ok (.int .i64 x0) w:=fun _=>by kernel_rfl
   have i1:∀ w,(Instr.index 69 (.agg #[.int .i64 x0,.int .i64 x1,.int .i64 x2]) (.int .i64 1)).run Tryz.prog w=.ok (.int .i64 x1) w:=fun _=>by kernel_rfl
   have i2:∀ w,(Instr.index 69 (.agg #[.int .i64 x0,.int .i64 x1,.int .i64 x2]) (.int .i64 2)).run Tryz.prog w=.ok (.int .i64 x2) w:=fun _=>by kernel_rfl
   go_wp2_with fail
   refine(hG _ _ _ _).mono ?_
   rintro _ y1 ⟨rfl,hy1⟩
   replace hbw:=hbw.trans ((ac (ah _ _) hy1).mono hbw.size)
   clear c0 c1 c2 hy1
   go_wp2_with fail
   go_loopw [15] (fun i wr=>Hid (wr=y1)∧(i=.int .i64 0∨(i=.int .i64 1∧bz x0=true)∨(i=.int .i64 2∧bz x0=true∧bz x1=true)∨(i=.int .i64 3∧bz x0=true∧bz x1=true∧bz x2=true))) (fun i _=>3-(intOf i).toNat)
   case atStart=>exact⟨rfl,.inl rfl⟩
   case round=>
    obtain⟨HW,hrel⟩:=hrel
    obtain rfl:=HW.out
    rcases hrel with rfl|⟨rfl,t0⟩|⟨rfl,t0,t1⟩|⟨rfl,t0,t1,t2⟩
    ·cases hp:bz x0
     ·rw[hp] at C0
      replace HK:Hid (false=bL (dz s) n):=HK.out (by rw[HX.out,hp];rfl)
      go_wp2_with fail
      refine(C0.out _).mono ?_
      rintro _ wz ⟨rfl,hwz⟩
      replace hwz:=hwz.symm
      subst hwz
      go_wp2
      go_ret
      exact⟨bD HK.out,hbw⟩
     ·have hp':Hid (bz x0=true):=hp
      rw[hp] at C0
      clear hp
      go_wp2_with fail
      refine(C0.out _).mono ?_
      rintro _ wz ⟨rfl,hwz⟩
      replace hwz:=hwz.symm
      subst hwz
      go_wp2
      go_roundw
      case rel=>exact⟨fO trivial,.inr (.inl ⟨by go_num,trivial⟩)⟩
      case measure=>simp[intOf]
    ·have t0:Hid (bz x0=true):=t0
     cases hp:bz x1
     ·rw[hp] at C1
      replace HK:Hid (false=bL (dz s) n):=HK.out (by rw[HX.out,hp,t0.out];rfl)
      go_wp2_with fail
      refine(C1.out _).mono ?_
      rintro _ wz ⟨rfl,hwz⟩
      replace hwz:=hwz.symm
      subst hwz
      go_wp2
      go_ret
      exact⟨bD HK.out,hbw⟩
     ·have hp':Hid (bz x1=true):=hp
      rw[hp] at C1
      clear hp
      go_wp2_with fail
      refine(C1.out _).mono ?_
      rintro _ wz ⟨rfl,hwz⟩
      replace hwz:=hwz.symm
      subst hwz
      go_wp2
      go_roundw
      case rel=>exact⟨fO trivial,.inr (.inr (.inl ⟨by go_num,t0.out,trivial⟩))⟩
      case measure=>simp[intOf]
    ·have t0:Hid (bz x0=true∧bz x1=true):=⟨t0,t1⟩
     clear t1
     cases hp:bz x2
     ·rw[hp] at C2
      replace HK:Hid (false=bL (dz s) n):=HK.out (by rw[HX.out,hp,t0.out.1,t0.out.2];rfl)
      go_wp2_with fail
      refine(C2.out _).mono ?_
      rintro _ wz ⟨rfl,hwz⟩
      replace hwz:=hwz.symm
      subst hwz
      go_wp2
      go_ret
      exact⟨bD HK.out,hbw⟩
     ·have hp':Hid (bz x2=true):=hp
      rw[hp] at C2
      clear hp
      go_wp2_with fail
      refine(C2.out _).mono ?_
      rintro _ wz ⟨rfl,hwz⟩
      replace hwz:=hwz.symm
      subst hwz
      go_wp2
      go_roundw
      case rel=>exact⟨fO trivial,.inr (.inr (.inr ⟨by go_num,t0.out.1,t0.out.2,trivial⟩))⟩
      case measure=>simp[intOf]
    ·replace HY:Hid (∀ j,j<k+1->dz s j=true):=HY.out (by rw[HX.out,t0,t1,t2];rfl)
     clear t0 t1 t2
     go_wp2
     go_roundw
     case rel=>exact⟨k+1,by omega,by go_num,HY,hbw⟩
     case measure=>simp[intOf];omega
  ·obtain rfl:k=n:=by omega
   have HD:Hid (true=bL (dz s) k):=(decide_eq_true HO.out).symm
   go_wp2
   go_ret
   exact⟨bD HD.out,hbw⟩
structure jG (arr:Array Value) (u:Nat->Nat->Int) (I J:Nat):Prop where
 n:arr.size=12
 e:∀ p,p<4->∀ k,k<3->arr[p*3+k]?=some (.float .f64 (wd (if p<I∨(p=I∧k<J) then u p k else 0)))
theorem kw {W:World} {p:Addr} {v:Value} (h:W.cell? p=some v) {g:Nat} (hg:p.block≠g) (o:Nat) (x:Value):(W.setCell ⟨g,o,none⟩ x).cell? p=some v:=by
 rw[World.cell?_setCell_far _ _ _ _ (Ne.symm hg)]
 exact h
theorem jG.step {arr:Array Value} {u:Nat->Nat->Int} {i j:Nat} (h:jG arr u i j) (i4:i<4) (j3:j<3):jG (arr.setIfInBounds (i*3+j) (.float .f64 (wd (u i j)))) u i (j+1):=by
 have hn:=h.n
 refine⟨by simp only[Array.size_setIfInBounds];exact hn,fun p hp k hk=>?_⟩
 rw[eZ _ _ _ _ (by omega)]
 by_cases e:p=i∧k=j
 ·obtain⟨rfl,rfl⟩:=e
  rw[if_pos rfl,if_pos (.inr ⟨rfl,by omega⟩)]
 ·rw[if_neg (by omega),h.e p hp k hk]
  by_cases c:p<i∨(p=i∧k<j)
  ·rw[if_pos c,if_pos (by omega)]
  ·rw[if_neg c,if_neg (by omega)]
theorem jG.roll {arr:Array Value} {u:Nat->Nat->Int} {i:Nat} (h:jG arr u i 3):jG arr u (i+1) 0:=by
 refine⟨h.n,fun p hp k hk=>?_⟩
 rw[h.e p hp k hk]
 by_cases c:p<i∨(p=i∧k<3)
 ·rw[if_pos c,if_pos (by omega)]
 ·rw[if_neg c,if_neg (by omega)]
def uL (s:Nat->Nat->Int) (m p k:Nat):Int:=if p<m then aE (s p k) (neg (s m k)) else 0
theorem Ea {arr:Array Value} {u:Nat->Nat->Int} (hn:arr.size=12) (h:∀ p,p<4->∀ k,k<3->arr[p*3+k]?=some (.float .f64 (wd (u p k)))):arr=#[.float .f64 (wd (u 0 0)),.float .f64 (wd (u 0 1)),.float .f64 (wd (u 0 2)),.float .f64 (wd (u 1 0)),.float .f64 (wd (u 1 1)),.float .f64 (wd (u 1 2)),.float .f64 (wd (u 2 0)),.float .f64 (wd (u 2 1)),.float .f64 (wd (u 2 2)),.float .f64 (wd (u 3 0)),.float .f64 (wd (u 3 1)),.float .f64 (wd (u 3 2))]:=by
 apply Array.ext_getElem?
 intro i
 by_cases hi:i<12
 ·have e:i=i/3*3+i % 3:=by omega
  rw[e,h (i/3) (by omega) (i % 3) (by omega),xF u (i/3) (by omega) (i % 3) (by omega)]
 ·rw[Array.getElem?_eq_none (by omega),Array.getElem?_eq_none (by show 12<=i;omega)]
theorem jG.all {arr:Array Value} {s:Nat->Nat->Int} {m:Nat} (h:jG arr (fun p k=>aE (s p k) (neg (s m k))) m 0) (u:Nat->Nat->Int) (hu:u=uL s m):arr=#[.float .f64 (wd (u 0 0)),.float .f64 (wd (u 0 1)),.float .f64 (wd (u 0 2)),.float .f64 (wd (u 1 0)),.float .f64 (wd (u 1 1)),.float .f64 (wd (u 1 2)),.float .f64 (wd (u 2 0)),.float .f64 (wd (u 2 1)),.float .f64 (wd (u 2 2)),.float .f64 (wd (u 3 0)),.float .f64 (wd (u 3 1)),.float .f64 (wd (u 3 2))]:=by
 subst hu
 refine Ea h.n fun p hp k hk=>?_
 rw[h.e p hp k hk]
 unfold uL
 by_cases c:p<m
 ·rw[if_pos (.inl c),if_pos c]
 ·rw[if_neg (by omega),if_neg c]
theorem qF {s:Nat->Nat->Int} {m:Nat} (hz:∀ i,i<=m->∀ k,k<3->Mz (s i k)):Lf (uL s m):=fun p hp k hk=>by
 unfold uL
 by_cases c:p<m
 ·rw[if_pos c]
  exact((hz p (by omega) k hk).diff (hz m (by omega) k hk)).1
 ·rw[if_neg c]
  exact fE
theorem jd (ao:Option Addr) (n m cap:Nat) (s:Nat->Nat->Int) (w:World) (h:fy w ao n cap s) (hn:n=m+1) (m4:m<=4) (hz:∀ i,i<=m->∀ k,k<3->Mz (s i k)) (u:Nat->Nat->Int) (hu:u=uL s m) :
    Calls Tryz.prog 41 #[.slice ao n cap,.func (.func 42) #[] #[]] w fun e w'=>e=.returned (.agg #[.float .f64 (wd (u 0 0)),.float .f64 (wd (u 0 1)),.float .f64 (wd (u 0 2)),.float .f64 (wd (u 1 0)),.float .f64 (wd (u 1 1)),.float .f64 (wd (u 1 2)),.float .f64 (wd (u 2 0)),.float .f64 (wd (u 2 1)),.float .f64 (wd (u 2 2)),.float .f64 (wd (u 3 0)),.float .f64 (wd (u 3 1)),.float .f64 (wd (u 3 2))])∧Below w.heap.size w w':=by
  have hl:=h.le
  have hm:=h.max
  have en:(n:Int)-1=m:=by omega
  have CN:Hid (∀ i k W,i<=m->k<3->Calls Tryz.prog 42 #[.int .i64 (s i k),.int .i64 (s m k)] W fun r w'=>r=.returned (.float .f64 (wd (aE (s i k) (neg (s m k)))))∧Below W.heap.size W w'):=fun i k W hi hk=>(DW (hz i hi k hk) (hz m (Nat.le_refl _) k hk) W).mono fun _ _ hh=>⟨hh.1,by rw[hh.2];exact ak _⟩
  have HU:Hid (u=uL s m):=hu
  clear hu hz
  obtain⟨b,off,rfl,hb,hc⟩:=h.spot (by omega)
  have l0:=(hc m (by omega)).1
  have l1:=(hc m (by omega)).2.1
  have l2:=(hc m (by omega)).2.2
  have hn':(m:Int)<n:=by omega
  have hb0:=aO w (.cells #[.float .f64 0,.float .f64 0,.float .f64 0,.float .f64 0,.float .f64 0,.float .f64 0,.float .f64 0,.float .f64 0,.float .f64 0,.float .f64 0,.float .f64 0,.float .f64 0] 82) (.cells #[.float .f64 0,.float .f64 0,.float .f64 0,.float .f64 0,.float .f64 0,.float .f64 0,.float .f64 0,.float .f64 0,.float .f64 0,.float .f64 0,.float .f64 0,.float .f64 0] 82)
  have r_k:=bX w (.cells #[.float .f64 0,.float .f64 0,.float .f64 0,.float .f64 0,.float .f64 0,.float .f64 0,.float .f64 0,.float .f64 0,.float .f64 0,.float .f64 0,.float .f64 0,.float .f64 0] 82) (.cells #[.float .f64 0,.float .f64 0,.float .f64 0,.float .f64 0,.float .f64 0,.float .f64 0,.float .f64 0,.float .f64 0,.float .f64 0,.float .f64 0,.float .f64 0,.float .f64 0] 82)
  have l_k:=bP w (.cells #[.float .f64 0,.float .f64 0,.float .f64 0,.float .f64 0,.float .f64 0,.float .f64 0,.float .f64 0,.float .f64 0,.float .f64 0,.float .f64 0,.float .f64 0,.float .f64 0] 82) (.cells #[.float .f64 0,.float .f64 0,.float .f64 0,.float .f64 0,.float .f64 0,.float .f64 0,.float .f64 0,.float .f64 0,.float .f64 0,.float .f64 0,.float .f64 0,.float .f64 0] 82)
  have HN:jG #[.float .f64 0,.float .f64 0,.float .f64 0,.float .f64 0,.float .f64 0,.float .f64 0,.float .f64 0,.float .f64 0,.float .f64 0,.float .f64 0,.float .f64 0,.float .f64 0] (fun p k=>aE (s p k) (neg (s m k))) 0 0:=⟨rfl,fun p hp k hk=>by
    rw[if_neg (by omega),zl]
    match p,hp,k,hk with
    | 0,_,0,_=>rfl
    | 0,_,1,_=>rfl
    | 0,_,2,_=>rfl
    | 1,_,0,_=>rfl
    | 1,_,1,_=>rfl
    | 1,_,2,_=>rfl
    | 2,_,0,_=>rfl
    | 2,_,1,_=>rfl
    | 2,_,2,_=>rfl
    | 3,_,0,_=>rfl
    | 3,_,1,_=>rfl
    | 3,_,2,_=>rfl⟩
  go_enter Tryz.func41,Tryz.ntmps41
  replace l0:=aP l0 hb0
  replace l1:=aP l1 hb0
  replace l2:=aP l2 hb0
  go_wp2_with fail
  clear l0 l1 l2
  generalize (w.alloc (.cells #[.float .f64 0,.float .f64 0,.float .f64 0,.float .f64 0,.float .f64 0,.float .f64 0,.float .f64 0,.float .f64 0,.float .f64 0,.float .f64 0,.float .f64 0,.float .f64 0] 82)).alloc (.cells #[.float .f64 0,.float .f64 0,.float .f64 0,.float .f64 0,.float .f64 0,.float .f64 0,.float .f64 0,.float .f64 0,.float .f64 0,.float .f64 0,.float .f64 0,.float .f64 0] 82)=x0 at hb0 r_k l_k ⊢
  have hsz:w.heap.size+1<x0.heap.size:=(aGe l_k).1
  refine(hG _ _ _ _).mono ?_
  rintro _ y1 ⟨rfl,hw1⟩
  have hsz1:w.heap.size+1<y1.heap.size:=Nat.lt_of_lt_of_le hsz hw1.size
  replace r_k:=ar (.cells #[.int .i64 (s m 0),.int .i64 (s m 1),.int .i64 (s m 2)] 69) (am hw1 r_k)
  replace l_k:=ar (.cells #[.int .i64 (s m 0),.int .i64 (s m 1),.int .i64 (s m 2)] 69) (am hw1 l_k)
  have f_k:=aC y1 (.cells #[.int .i64 (s m 0),.int .i64 (s m 1),.int .i64 (s m 2)] 69)
  replace hb0:=ac (ac hb0 hw1) (ah y1 (.cells #[.int .i64 (s m 0),.int .i64 (s m 1),.int .i64 (s m 2)] 69))
  clear hw1 hsz
  go_wp2_with fail
  generalize y1.alloc (.cells #[.int .i64 (s m 0),.int .i64 (s m 1),.int .i64 (s m 2)] 69)=x2 at hb0 r_k l_k f_k ⊢
  generalize y1.heap.size=fr at *
  generalize (#[.float .f64 0,.float .f64 0,.float .f64 0,.float .f64 0,.float .f64 0,.float .f64 0,.float .f64 0,.float .f64 0,.float .f64 0,.float .f64 0,.float .f64 0,.float .f64 0]:Array Value)=z12 at HN l_k
  go_loopw [20] (fun i wr=>∃ p:Nat,p<=m∧i=.int .i64 p∧∃ arr,Hid (jG arr (fun p k=>aE (s p k) (neg (s m k))) p 0)∧wr.heap[w.heap.size+1]?=some (.cells arr 82 (0,0))∧wr.heap[w.heap.size]?=some (.cells #[.float .f64 0,.float .f64 0,.float .f64 0,.float .f64 0,.float .f64 0,.float .f64 0,.float .f64 0,.float .f64 0,.float .f64 0,.float .f64 0,.float .f64 0,.float .f64 0] 82 (0,0))∧wr.heap[fr]?=some (.cells #[.int .i64 (s m 0),.int .i64 (s m 1),.int .i64 (s m 2)] 69 (0,0))∧Below w.heap.size w wr) (fun i _=>m-(intOf i).toNat)
  case atStart=>exact⟨0,by omega,rfl,z12,HN,l_k,r_k,f_k,hb0⟩
  case round=>
    clear l_k r_k f_k hb0 HN
    obtain⟨p,hp,rfl,arr,HN,l_k,r_k,f_k,hbw⟩:=hrel
    by_cases pm:p<m
    · have c0:=(hbw.cell (p:=⟨b,off+p*3,none⟩) hb).trans (hc p (by omega)).1
      have c1:=(hbw.cell (p:=⟨b,off+p*3+1,none⟩) hb).trans (hc p (by omega)).2.1
      have c2:=(hbw.cell (p:=⟨b,off+p*3+2,none⟩) hb).trans (hc p (by omega)).2.2
      have pm':(p:Int)<m:=by omega
      have pn':(p:Int)<n:=by omega
      have C0:Hid (∀ W,Calls Tryz.prog 42 #[.int .i64 (s p 0),.int .i64 (s m 0)] W fun r w'=>r=.returned (.float .f64 (wd (aE (s p 0) (neg (s m 0)))))∧Below W.heap.size W w'):=fun W=>CN.out p 0 W hp (by decide)
      have C1:Hid (∀ W,Calls Tryz.prog 42 #[.int .i64 (s p 1),.int .i64 (s m 1)] W fun r w'=>r=.returned (.float .f64 (wd (aE (s p 1) (neg (s m 1)))))∧Below W.heap.size W w'):=fun W=>CN.out p 1 W hp (by decide)
      have C2:Hid (∀ W,Calls Tryz.prog 42 #[.int .i64 (s p 2),.int .i64 (s m 2)] W fun r w'=>r=.returned (.float .f64 (wd (aE (s p 2) (neg (s m 2)))))∧Below W.heap.size W w'):=fun W=>CN.out p 2 W hp (by decide)
      have p4:Hid (p<4):=by exact(show p<4 by omega)
      have p4':(p:Int)<4:=by omega
      go_wp2_with fail
      clear c0 c1 c2
      refine(hG _ _ _ _).mono ?_
      rintro _ y3 ⟨rfl,hw3⟩
      replace r_k:=am hw3 r_k
      replace l_k:=am hw3 l_k
      replace f_k:=am hw3 f_k
      replace hbw:=ac hbw hw3
      clear hw3
      go_wp2_with fail
      go_loopw [28] (fun i wr=>∃ j:Nat,j<=3∧i=.int .i64 j∧∃ arr,Hid (jG arr (fun p k=>aE (s p k) (neg (s m k))) p j)∧wr.heap[w.heap.size+1]?=some (.cells arr 82 (0,0))∧wr.heap[w.heap.size]?=some (.cells #[.float .f64 0,.float .f64 0,.float .f64 0,.float .f64 0,.float .f64 0,.float .f64 0,.float .f64 0,.float .f64 0,.float .f64 0,.float .f64 0,.float .f64 0,.float .f64 0] 82 (0,0))∧wr.heap[fr]?=some (.cells #[.int .i64 (s m 0),.int .i64 (s m 1),.int .i64 (s m 2)] 69 (0,0))∧Below w.heap.size w wr) (fun i _=>3-(intOf i).toNat)
      case atStart=>exact⟨0,by omega,rfl,arr,HN,l_k,r_k,f_k,hbw⟩
      case round=>
        clear l_k r_k f_k hbw HN
        obtain⟨j,hj,rfl,arr,HN,l_k,r_k,f_k,hbw⟩:=hrel
        have j4:j=0∨j=1∨j=2∨j=3:=by omega
        rcases j4 with rfl|rfl|rfl|rfl
        · have HN':Hid (jG (arr.setIfInBounds (p*3) (.float .f64 (wd (aE (s p 0) (neg (s m 0)))))) (fun p k=>aE (s p k) (neg (s m k))) p (0+1)):=HN.out.step p4.out (by decide)
          obtain⟨v,ev⟩:∃ v,arr[p*3]?=some v:=⟨_,Array.getElem?_eq_getElem (by rw[HN.out.n];have:=p4.out;omega)⟩
          have i0:∀ w,(Instr.index 69 (.agg #[.int .i64 (s p 0),.int .i64 (s p 1),.int .i64 (s p 2)]) (.int .i64 0)).run Tryz.prog w=.ok (.int .i64 (s p 0)) w:=fun _=>by kernel_rfl
          go_wp2_with fail
          have KK:∀ W,Below wr.heap.size wr W->W.cell? ⟨fr,0,none⟩=some (.int .i64 (s m 0))∧W.cell? ⟨w.heap.size+1,p*3,none⟩=some v∧W.frozen? ⟨w.heap.size+1,p*3,none⟩=false:=fun W hb=>⟨aj (af f_k 0 rfl) hb,aj (af l_k _ ev) hb,av (am hb l_k) _⟩
          have hst:∀ p x m w,(store p (.float .f64 x) m).run Tryz.prog w=stored Tryz.prog w p (.float .f64 x) m:=fun p x m w=>run_store _ w p _ m rfl
          have hC0:=(ak wr).drew
          have hne:fr≠w.heap.size+1:=by omega
          go_region_held3 (fun W=>W.cell? ⟨fr,0,none⟩=some (.int .i64 (s m 0)))
            (with_reducible first|assumption|exact(KK _ hC0).1|exact(KK _ hC1).1|exact kw (KK _ hC1).1 hne _ _|fail)
            (first|(go_at_call 42;refine(C0.out _).mono ?_;rintro _ y5 ⟨rfl,hq⟩;have hC1:=ac hC0 hq;have e1:=(KK _ hC1).2.1;have e2:=(KK _ hC1).2.2))
          replace f_k:=aA (am hC1 f_k) hne (p*3) (.float .f64 (wd (aE (s p 0) (neg (s m 0)))))
          replace r_k:=aA (am hC1 r_k) (show w.heap.size≠w.heap.size+1 by omega) (p*3) (.float .f64 (wd (aE (s p 0) (neg (s m 0)))))
          replace l_k:=ap (am hC1 l_k) (p*3) (.float .f64 (wd (aE (s p 0) (neg (s m 0)))))
          replace hbw:=(ac hbw hC1).setCell (p:=⟨w.heap.size+1,p*3,none⟩) (show w.heap.size<=w.heap.size+1 by omega) (.float .f64 (wd (aE (s p 0) (neg (s m 0)))))
          clear hC0 hC1 hq e1 e2 KK ev hst
          go_wp2_with fail
          go_roundw
          case rel=>exact⟨0+1,by omega,by go_num,_,HN',l_k,r_k,f_k,hbw⟩
          case measure=>simp[intOf]
        · have HN':Hid (jG (arr.setIfInBounds (p*3+1) (.float .f64 (wd (aE (s p 1) (neg (s m 1)))))) (fun p k=>aE (s p k) (neg (s m k))) p (1+1)):=HN.out.step p4.out (by decide)
          obtain⟨v,ev⟩:∃ v,arr[p*3+1]?=some v:=⟨_,Array.getElem?_eq_getElem (by rw[HN.out.n];have:=p4.out;omega)⟩
          have i1:∀ w,(Instr.index 69 (.agg #[.int .i64 (s p 0),.int .i64 (s p 1),.int .i64 (s p 2)]) (.int .i64 1)).run Tryz.prog w=.ok (.int .i64 (s p 1)) w:=fun _=>by kernel_rfl
          go_wp2_with fail
          have KK:∀ W,Below wr.heap.size wr W->W.cell? ⟨fr,1,none⟩=some (.int .i64 (s m 1))∧W.cell? ⟨w.heap.size+1,p*3+1,none⟩=some v∧W.frozen? ⟨w.heap.size+1,p*3+1,none⟩=false:=fun W hb=>⟨aj (af f_k 1 rfl) hb,aj (af l_k _ ev) hb,av (am hb l_k) _⟩
          have hst:∀ p x m w,(store p (.float .f64 x) m).run Tryz.prog w=stored Tryz.prog w p (.float .f64 x) m:=fun p x m w=>run_store _ w p _ m rfl
          have hC0:=(ak wr).drew
          have hne:fr≠w.heap.size+1:=by omega
          go_region_held3 (fun W=>W.cell? ⟨fr,1,none⟩=some (.int .i64 (s m 1)))
            (with_reducible first|assumption|exact(KK _ hC0).1|exact(KK _ hC1).1|exact kw (KK _ hC1).1 hne _ _|fail)
            (first|(go_at_call 42;refine(C1.out _).mono ?_;rintro _ y5 ⟨rfl,hq⟩;have hC1:=ac hC0 hq;have e1:=(KK _ hC1).2.1;have e2:=(KK _ hC1).2.2))
          replace f_k:=aA (am hC1 f_k) hne (p*3+1) (.float .f64 (wd (aE (s p 1) (neg (s m 1)))))
          replace r_k:=aA (am hC1 r_k) (show w.heap.size≠w.heap.size+1 by omega) (p*3+1) (.float .f64 (wd (aE (s p 1) (neg (s m 1)))))
          replace l_k:=ap (am hC1 l_k) (p*3+1) (.float .f64 (wd (aE (s p 1) (neg (s m 1)))))
          replace hbw:=(ac hbw hC1).setCell (p:=⟨w.heap.size+1,p*3+1,none⟩) (show w.heap.size<=w.heap.size+1 by omega) (.float .f64 (wd (aE (s p 1) (neg (s m 1)))))
          clear hC0 hC1 hq e1 e2 KK ev hst
          go_wp2_with fail
          go_roundw
          case rel=>exact⟨1+1,by omega,by go_num,_,HN',l_k,r_k,f_k,hbw⟩
          case measure=>simp[intOf]
        · have HN':Hid (jG (arr.setIfInBounds (p*3+2) (.float .f64 (wd (aE (s p 2) (neg (s m 2)))))) (fun p k=>aE (s p k) (neg (s m k))) p (2+1)):=HN.out.step p4.out (by decide)
          obtain⟨v,ev⟩:∃ v,arr[p*3+2]?=some v:=⟨_,Array.getElem?_eq_getElem (by rw[HN.out.n];have:=p4.out;omega)⟩
          have i2:∀ w,(Instr.index 69 (.agg #[.int .i64 (s p 0),.int .i64 (s p 1),.int .i64 (s p 2)]) (.int .i64 2)).run Tryz.prog w=.ok (.int .i64 (s p 2)) w:=fun _=>by kernel_rfl
          go_wp2_with fail
          have KK:∀ W,Below wr.heap.size wr W->W.cell? ⟨fr,2,none⟩=some (.int .i64 (s m 2))∧W.cell? ⟨w.heap.size+1,p*3+2,none⟩=some v∧W.frozen? ⟨w.heap.size+1,p*3+2,none⟩=false:=fun W hb=>⟨aj (af f_k 2 rfl) hb,aj (af l_k _ ev) hb,av (am hb l_k) _⟩
          have hst:∀ p x m w,(store p (.float .f64 x) m).run Tryz.prog w=stored Tryz.prog w p (.float .f64 x) m:=fun p x m w=>run_store _ w p _ m rfl
          have hC0:=(ak wr).drew
          have hne:fr≠w.heap.size+1:=by omega
          go_region_held3 (fun W=>W.cell? ⟨fr,2,none⟩=some (.int .i64 (s m 2)))
            (with_reducible first|assumption|exact(KK _ hC0).1|exact(KK _ hC1).1|exact kw (KK _ hC1).1 hne _ _|fail)
            (first|(go_at_call 42;refine(C2.out _).mono ?_;rintro _ y5 ⟨rfl,hq⟩;have hC1:=ac hC0 hq;have e1:=(KK _ hC1).2.1;have e2:=(KK _ hC1).2.2))
          replace f_k:=aA (am hC1 f_k) hne (p*3+2) (.float .f64 (wd (aE (s p 2) (neg (s m 2)))))
          replace r_k:=aA (am hC1 r_k) (show w.heap.size≠w.heap.size+1 by omega) (p*3+2) (.float .f64 (wd (aE (s p 2) (neg (s m 2)))))
          replace l_k:=ap (am hC1 l_k) (p*3+2) (.float .f64 (wd (aE (s p 2) (neg (s m 2)))))
          replace hbw:=(ac hbw hC1).setCell (p:=⟨w.heap.size+1,p*3+2,none⟩) (show w.heap.size<=w.heap.size+1 by omega) (.float .f64 (wd (aE (s p 2) (neg (s m 2)))))
          clear hC0 hC1 hq e1 e2 KK ev hst
          go_wp2_with fail
          go_roundw
          case rel=>exact⟨2+1,by omega,by go_num,_,HN',l_k,r_k,f_k,hbw⟩
          case measure=>simp[intOf]
        · have HN':Hid (jG arr (fun p k=>aE (s p k) (neg (s m k))) (p+1) 0):=HN.out.roll
          go_wp2_with fail
          go_roundw
          case rel=>exact⟨p+1,by omega,by go_num,arr,HN',l_k,r_k,f_k,hbw⟩
          case measure=>simp[intOf];omega
    · obtain rfl:p=m:=by omega
      have HE:=HN.out.all _ HU.out
      have hi:(Tryz.prog.info? 82).map (·.size)=some arr.size:=by rw[HN.out.n];kernel_rfl
      have h12:(#[.float .f64 0,.float .f64 0,.float .f64 0,.float .f64 0,.float .f64 0,.float .f64 0,.float .f64 0,.float .f64 0,.float .f64 0,.float .f64 0,.float .f64 0,.float .f64 0]:Array Value).size=arr.size:=HN.out.n.symm
      have ho:arr.all (·.oneCell')=true:=by rw[HE];kernel_rfl
      repeat (first|(refine wp_load_row 82 _ rfl (w.heap.size+1) rfl _ _ _ _ l_k Tryz.underlying82 rfl hi ?_;dsimp only[Act.put])|(refine wp_store_row 82 _ _ rfl w.heap.size arr rfl rfl _ _ r_k hi h12 ho ?_;dsimp only[Act.put])|go_step)
      have r_k2:=setRow_heap _ _ _ arr _ _ r_k
      exact bodyPost_ret (v:=.agg arr) (results_cell_row Tryz.results41 _ _ w.heap.size 82 arr (0,0) _ (by simp) r_k2 Tryz.underlying82 rfl hi) rfl ⟨by rw[HE],below_setRow hbw (by omega) _⟩
end Go.Proofs.YtcklaogdjpbagaaGreatDoor
