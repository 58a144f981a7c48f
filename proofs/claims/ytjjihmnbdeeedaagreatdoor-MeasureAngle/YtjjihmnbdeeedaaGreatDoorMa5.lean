/- Parts of the proof. -/
import Derived.Test.YtjjihmnbdeeedaaGreatDoorMa1
import Derived.Test.YtjjihmnbdeeedaaGreatDoorRows
import Derived.ProofKit
import Derived.LaidMore
import Derived.Deep.Strs
import Derived.Lib.LaidTab
import Derived.MakeChecks
import Derived.Stop.LaidErr
import Derived.Test.YtjjihmnbdeeedaaGreatDoorMa4
import Derived.Test.YtjjihmnbdeeedaaGreatDoorMa3
import Derived.Laws.FloatArith
set_option maxRecDepth 100000
set_option maxHeartbeats 8000000
set_option linter.unusedVariables false
set_option linter.unusedSimpArgs false
namespace Go.Proofs.YtjjihmnbdeeedaaGreatDoor
open Go Go.Proofs.Tryz Go.RowKit Go.ChangeShapes Go.Proofs.YtjjihmnbdeeedaaGreatDoor.M
theorem Jp:prog.cellsOf 3=1:=by kernel_rfl
theorem BS:prog.cellsOf 255=3:=by kernel_rfl
theorem Sx : Tryz.prog.globalNamed "plumb/bits.binary64" = some 1 := by kernel_rfl
theorem MD:(prog.globals[(1:Nat)]?).map (·.type)=some 255:=by kernel_rfl
theorem oT {W:World} {name:String} {g:Nat} {a b c:Int} {rest:List (String × DataW Unit)} (hg:prog.globalNamed name=some g) (hty:(prog.globals[g]?).map (·.type)=some 255)
  (h:laidMet prog ((name,.agg [.lit (.int .i64 a),.lit (.int .i64 b),.lit (.int .i64 c)]) :: rest) W) :
  W.cell? ⟨g,0,none⟩=some (G6 a)∧W.cell? ⟨g,1,none⟩=some (G6 b)∧W.cell? ⟨g,2,none⟩=some (G6 c):=by
 obtain⟨ps,⟨g',t',cs,fuel,p,q,hg',ht',hvar,hd,_,_⟩,_⟩:=h
 obtain rfl:=Option.some.inj (hg.symm.trans hg')
 obtain rfl:=Option.some.inj (hty.symm.trans ht')
 obtain⟨y0,y1,y2,n,hx,hl,h0,h1,h2⟩:=Go.Deep.trod_struct3 underlying255 hd
 obtain⟨k0,e0,f0,_⟩:=DataW.trod_int underlying3 h0
 obtain⟨k1,e1,f1,_⟩:=DataW.trod_int underlying3 h1
 obtain⟨k2,e2,f2,_⟩:=DataW.trod_int underlying3 h2
 rw[f0,f1,f2] at hx
 simp only[Prod.mk.injEq,DataW.agg.injEq,List.cons.injEq,DataW.lit.injEq,Lit.int.injEq,true_and,and_true] at hx
 obtain⟨⟨rfl,rfl,rfl⟩,_⟩:=hx
 rw[BS] at hl
 rw[Jp] at e0 e1 e2
 have v:=fun i=>World.var?_cell hg hvar i
 obtain⟨l⟩:=cs
 simp only at hl e0 e1 e2
 match l,hl with
 | [c0,c1,c2],_=>
  simp at e0 e1 e2
  subst e0 e1 e2
  exact⟨by simpa using v 0,by simpa using v 1,by simpa using v 2⟩
end Go.Proofs.YtjjihmnbdeeedaaGreatDoor
namespace Go.Proofs.YtjjihmnbdeeedaaGreatDoor
open Go Go.Proofs.Tryz Go.ChangeShapes Go.WideShapes Go.ChangeAt Go.RowKit Go.Proofs.YtjjihmnbdeeedaaGreatDoor.M
structure RG (w:World):Prop where
 lay:qO w
 tab:gz w
theorem ME {W : World} (h : laidMetH Tryz.prog [("math/bits.deBruijn32tab", Rows.laid_math_bits_deBruijn32tab), ("math/bits.deBruijn64tab", Rows.laid_math_bits_deBruijn64tab), ("plumb/bits.binary64", Rows.laid_plumb_bits_binary64)] W) : RG W := by
 rw[MakeChecks.laidMetH_plain _ _ _ (by kernel_rfl)] at h
 have h' : laidMet Tryz.prog (("math/bits.deBruijn64tab", Lib.tabData .u8 De) :: [("plumb/bits.binary64", Rows.laid_plumb_bits_binary64)]) W := h.tail
 have t:=Lib.tabIs_of_head OG Jn underlying292 underlying5 Gk Jo h'
 obtain⟨a0,a1,a2⟩:=oT Sx MD h'.tail
 refine⟨⟨a0,a1,a2⟩,fun j hj=>?_⟩
 rw[<- MC j hj]
 exact t.cell OG j (by exact hj)
end Go.Proofs.YtjjihmnbdeeedaaGreatDoor
namespace Go.Proofs.YtjjihmnbdeeedaaGreatDoor
open Go Go.Proofs.Tryz Go.RowKit Go.Proofs.YtjjihmnbdeeedaaGreatDoor.M
theorem bZ {w w':World} {V:Int} {v:Value} (h:bw w w' V v):∃ ng so sn sc e,v=.agg #[.bool ng,.slice so sn sc,G6 e]:=by
 obtain⟨ng,s,m,e,h1,_,hA⟩:=h
 obtain⟨so,sn,sc,rfl⟩:=hA.num.shape
 exact⟨_,_,_,_,_,h1⟩
theorem Qp {w:World} {x y:Value} {A B:Int} {k:Nat} (hx:br w x A) (hy:br w y B) (bA:Bd k A) (bB:Bd k B) (hk:k<=28000) (hT:gz w) :
  Calls prog 97 #[x,y] w fun r w'=>∃ v,r=.returned (.tuple #[v,G6 0])∧bw w w' (A+B) v:=by
 refine(Qn hx hy (bA.ok (by omega)) (bB.ok (by omega)) hT).mono ?_
 rintro r w' ⟨v,er,rfl,hF⟩
 obtain⟨rfl,hD⟩:=hF.yes ((bA.add bB (by omega)).ok (by omega))
 exact⟨v,rfl,hD⟩
theorem Qq {w:World} {x y:Value} {A B:Int} {k:Nat} (hx:br w x A) (hy:br w y B) (bA:Bd k A) (bB:Bd k B) (hk:k<=28000) (hT:gz w) :
  Calls prog 98 #[x,y] w fun r w'=>∃ v,r=.returned (.tuple #[v,G6 0])∧bw w w' (A-B) v:=by
 refine(Qo hx hy (bA.ok (by omega)) (bB.ok (by omega)) hT).mono ?_
 rintro r w' ⟨v,er,rfl,hF⟩
 have hb:=bA.add bB.neg (by omega)
 rw[<- Int.sub_eq_add_neg] at hb
 obtain⟨rfl,hD⟩:=hF.yes (hb.ok (by omega))
 exact⟨v,rfl,hD⟩
theorem Lk {w:World} {x y:Value} {A B:Int} {k:Nat} (hx:br w x A) (hy:br w y B) (bA:Bd k A) (bB:Bd k B) (hk:k<=14000) (hT:gz w) :
  Calls prog 99 #[x,y] w fun r w'=>∃ v C,r=.returned (.tuple #[v,G6 0])∧bw w w' C v∧C*2^4194304=A*B∧Bd (2*k) C:=by
 refine(Lj hx hy (bA.ok (by omega)) (bB.ok (by omega)) hT).mono ?_
 rintro r w' ⟨v,er,C,rfl,hC,hF⟩
 have hb:=bA.mul bB hC (by omega)
 obtain⟨rfl,hD⟩:=hF.yes (hb.ok (by omega))
 exact⟨v,C,rfl,hD,hC,hb⟩
theorem MF (a b:Int):bH (a-b) 0=bH a b:=by
 rcases Int.lt_trichotomy a b with h|h|h
 ·rw[gd h,gd (by omega)]
 ·rw[jE h,jE (by omega)]
 ·rw[gf h,gf (by omega)]
def aq (b:Int):Int:=sg (dW b) (aN b)*pw (bh b)
def jY (A b:Int):Int:=if ak b=true then bH A (aq b) else if b<0 then 1 else -1
theorem zT {b:Int} (h:ak b=true):eR (aq b):=by
 obtain⟨i0,i1,i2,i3⟩:=eY h
 exact xO i0 (by omega) i2 i3
end Go.Proofs.YtjjihmnbdeeedaaGreatDoor
namespace Go.Proofs.YtjjihmnbdeeedaaGreatDoor
open Go Go.Proofs.Tryz Go.Proofs.YtjjihmnbdeeedaaGreatDoor.M
def vS (r:Nat):Int:=(V Ieee.double r:Int)*pw (-1074)
theorem mH {r s:Nat} (h:r<s):vS r<vS s:=Int.mul_lt_mul_of_pos_right (by have:=oc Ieee.double h;omega) (bR _)
structure fi (A:Int) (r0:Nat) (left:Int):Prop where
 lo:vS r0<=A
 hi:A<vS (r0+1)
 l0:left=0↔A=vS r0
 l1:left=1↔vS r0<A∧2*A<vS r0+vS (r0+1)
 l2:left=2↔2*A=vS r0+vS (r0+1)
 l3:left=3↔vS r0+vS (r0+1)<2*A
def bF (way:Int) (ng:Bool) (r0:Nat) (left:Int):Int:=if (r0:Int)<9218868437227405312 then (r0:Int)+(if bX way ng (decide (r0 % 2=1)) left then 1 else 0) else eL way ng
theorem jy {way:Int} {ng odd:Bool} (h:bX way ng odd 0=true):False:=by
 unfold bX at h
 split at h
 ·simp at h
 ·split at h
  ·simp at h
  ·split at h<;>simp at h
theorem uB {way:Int} {ng odd:Bool} {left:Int} (h:bX way ng odd left=true):bX way ng true 3=true:=by
 unfold bX at *
 split at h
 ·rename_i h1;rw[if_pos h1];rfl
 ·rename_i h1
  rw[if_neg h1]
  split at h
  ·rename_i h2;rw[if_pos h2];simp at h;simp[h.2]
  ·rename_i h2
   rw[if_neg h2]
   split at h
   ·rename_i h3;rw[if_pos h3];simp at h;simp[h.2]
   ·cases h
theorem sQ {A:Int} {u a r0:Nat} {left:Int} (h:M.qH A u (2^a*pw (-1074)) left) (h1:V Ieee.double r0=u*2^a) (h2:V Ieee.double (r0+1)=(u+1)*2^a):fi A r0 left:=by
 obtain⟨lo,hi,l0,l1,l2,l3⟩:=h
 have e1:vS r0=(u:Int)*(2^a*pw (-1074)):=by
  unfold vS
  rw[h1]
  push_cast
  rw[Int.mul_assoc]
 have e2:vS (r0+1)=(u:Int)*(2^a*pw (-1074))+2^a*pw (-1074):=by
  unfold vS
  rw[h2]
  push_cast
  rw[Int.add_mul,Int.add_mul,Int.one_mul,Int.mul_assoc]
 generalize (2:Int)^a*pw (-1074)=q at *
 generalize (u:Int)*q=U at *
 exact⟨by omega,by omega,by rw[e1];exact l0,by rw[e1,e2,l1];constructor<;>intro h<;>omega,by rw[e1,e2,l2];constructor<;>intro h<;>omega,by rw[e1,e2,l3];constructor<;>intro h<;>omega⟩
theorem zU {way:Int} {ng sd:Bool} {A:Int} {mag:Nat} {exp:Int} {cut:Bool} (hA:sJ A mag exp cut) (hm:mag<2^64) (h0:mag≠0) (he:-4194304<=exp) (hc:cut=true->2^60<=mag) :
    ∃ (r0:Nat) (left:Int),fi A r0 left∧mO way ng sd mag exp cut=(aG (ng&&(decide (0<bF way ng r0 left)||sd)) (bF way ng r0 left),decide (left≠0)||decide (9218868437227405312<=(r0:Int))):=by
  have e64:(2:Nat)^64=18446744073709551616:=by decide
  obtain⟨b1,b2,b3,b4⟩:=M.iF mag hm h0
  have hbits:=CE (size:=53) (low:=-1074) (exp:=exp) (by decide) hm h0
  have hE1:-1074<=rE 53 (-1074) mag exp:=by unfold rE;omega
  have hcs:cut=true->0<rE 53 (-1074) mag exp-exp:=fun h=>by
    have h1:=hc h
    have h2:60<Lib.bitLen mag:=by
      have:=(Nat.pow_lt_pow_iff_right (by decide:1<2)).1 (Nat.lt_of_le_of_lt h1 b2)
      exact this
    unfold rE
    omega
  have hL:=Cz hA hcs (by omega) he
  obtain⟨E,hE⟩:∃ E,rE 53 (-1074) mag exp=E:=⟨_,rfl⟩
  have HR:mO way ng sd mag exp cut=(let E:=rE 53 (-1074) mag exp
    let u:=rU mag (E-exp)
    let left:=rL mag cut (E-exp)
    let U:=u+(if bX way ng (decide (u % 2=1)) left then 1 else 0)
    let neg:=ng&&(decide (0<U)||sd)
    if jk 52 2047 (-1074) U E then (jp neg U E,decide (left≠0)) else (aG neg (eL way neg),true)):=rfl
  simp only at HR
  rw[hE] at hbits hE1 hL HR
  obtain⟨u,hu⟩:∃ u,rU mag (E-exp)=u:=⟨_,rfl⟩
  obtain⟨left,hl⟩:∃ l,rL mag cut (E-exp)=l:=⟨_,rfl⟩
  rw[hu] at hbits hL HR
  rw[hl] at hL HR
  obtain⟨a,ha⟩:∃ a,(E - -1074).toNat=a:=⟨_,rfl⟩
  have e53:(2:Nat)^(53:Int).toNat=9007199254740992:=by decide
  have e52:(2:Nat)^((53:Int).toNat-1)=4503599627370496:=by decide
  rw[e53,e52] at hbits
  have eB:Ieee.double.binade=4503599627370496:=by decide
  have hV:=pO Ieee.double a u (by rw[eB];omega) (fun h=>by rw[eB];exact hbits.2 (by omega))
  rw[eB] at hV
  have hpw:pw E=2^a*pw (-1074):=by rw[og (e:=E) (low:=-1074) (by decide) hE1,ha]
  rw[hpw] at hL
  refine⟨a*4503599627370496+u,left,sQ hL hV.1 hV.2,?_⟩
  rw[HR]
  have hodd:decide ((a*4503599627370496+u) % 2=1)=decide (u % 2=1):=by congr 1;apply propext;omega
  unfold bF
  rw[hodd]
  obtain⟨R,hR⟩:∃ R,bX way ng (decide (u % 2=1)) left=R:=⟨_,rfl⟩
  rw[hR]
  obtain⟨U,hU⟩:∃ U,u+(if R=true then 1 else 0)=U:=⟨_,rfl⟩
  rw[hU]
  have hR1:R=true->left≠0:=fun h hz=>by rw[hz,h] at hR;exact jy hR
  have hR2:R=true->bX way ng true 3=true:=fun h=>uB (hR.trans h)
  have hUle:U<=9007199254740992:=by rw[<- hU];split<;>omega
  have hcast:((a*4503599627370496+u:Nat):Int)+(if R=true then 1 else 0)=((a*4503599627370496+U:Nat):Int):=by
    rw[<- hU]
    cases R<;>simp only[if_true,if_false,Bool.false_eq_true]<;>omega
  rw[hcast]
  by_cases hU0:U=0
  · have hu0:u=0:=by rw[<- hU] at hU0;omega
    have ha0:a=0:=by
      rcases Nat.eq_zero_or_pos a with h|h
      · exact h
      · have:=hbits.2 (by omega);omega
    subst hU0 hu0 ha0
    have hj:jk 52 2047 (-1074) ((0:Nat):Int) E=true:=rfl
    rw[hj]
    rw[if_pos rfl,if_pos (by decide)]
    have hd:decide (9218868437227405312<=((0*4503599627370496+0:Nat):Int))=false:=by decide
    rw[hd,Bool.or_false]
    cases ng<;>cases sd<;>rfl
  · have hjr:=xH Ieee.double 52 (by decide) dB 2047 (-1074) (by decide) U E (by omega) (by rw[show(2:Nat)^(52+1)=9007199254740992 by decide];exact hUle) hE1 (fun h=>by rw[show(2:Nat)^52=4503599627370496 by decide];have:=hbits.2 h;rw[<- hU];omega)
    simp only at hjr
    rw[ha,show(2:Nat)^52=4503599627370496 by decide,show(2047:Int)*2^52=9218868437227405312 by decide] at hjr
    obtain⟨j1,j2⟩:=hjr
    have hpos:decide (0<U)=true:=decide_eq_true (by omega)
    rw[show jk ((52:Nat):Int) 2047 (-1074) (U:Int) E=jk 52 2047 (-1074) (U:Int) E from rfl] at j1
    rw[j1,hpos,Bool.true_or,Bool.and_true]
    by_cases hf:((a*4503599627370496+U:Nat):Int)<9218868437227405312
    · have huU:u<=U:=by rw[<- hU];omega
      have hf0:((a*4503599627370496+u:Nat):Int)<9218868437227405312:=by omega
      rw[decide_eq_true hf,if_pos rfl,if_pos hf0,decide_eq_false (p:=9218868437227405312<=((a*4503599627370496+u:Nat):Int)) (by omega),Bool.or_false]
      have hd:decide (0<((a*4503599627370496+U:Nat):Int))=true:=decide_eq_true (by omega)
      rw[hd,Bool.true_or,Bool.and_true]
      congr 1
      have hjk:jk 52 2047 (-1074) (U:Int) E=true:=by rw[j1];exact decide_eq_true hf
      have hjv:=j2 hf
      rw[show jv ((52:Nat):Int) 2047 (-1074) (U:Int) E=jv 52 2047 (-1074) (U:Int) E from rfl] at hjv
      unfold jp aG
      rw[hjk,hjv,Bool.true_and]
    · rw[decide_eq_false hf,if_neg (by simp)]
      by_cases hf0:((a*4503599627370496+u:Nat):Int)<9218868437227405312
      · have hRt:R=true:=by
          cases R
          · exfalso;simp at hU;omega
          · rfl
        have hUe:((a*4503599627370496+U:Nat):Int)=9218868437227405312:=by rw[hRt] at hU;simp at hU;omega
        rw[if_pos hf0,hUe,decide_eq_true (hR1 hRt),Bool.true_or]
        congr 1
        have:eL way ng=9218868437227405312:=by unfold eL;rw[hR2 hRt,if_pos rfl]
        rw[this]
        simp
      · rw[if_neg hf0,decide_eq_true (p:=9218868437227405312<=((a*4503599627370496+u:Nat):Int)) (by omega),Bool.or_true]
        congr 1
        have hd:decide (0<eL way ng)=true:=by unfold eL;split<;>decide
        rw[hd,Bool.true_or,Bool.and_true]
end Go.Proofs.YtjjihmnbdeeedaaGreatDoor
namespace Go.Proofs.YtjjihmnbdeeedaaGreatDoor
open Go Go.Proofs.Tryz Go.RowKit Go.Proofs.YtjjihmnbdeeedaaGreatDoor.M
theorem zV {M e:Int} (h:0<=M) (he:-4194304<=e) (k:Nat):sJ (M*pw e) (M/2^k).toNat (e+k) (decide (M % 2^k≠0)):=by
 have hp:=aR k
 have hq:=bR e
 have h0:0<=M/2^k:=Int.ediv_nonneg h (by omega)
 have hm0:=Int.emod_nonneg M (show(2:Int)^k≠0 by omega)
 have hm1:=Int.emod_lt_of_pos M hp
 have hd:=Int.mul_ediv_add_emod M (2^k)
 unfold sJ
 rw[Int.toNat_of_nonneg h0,gW he]
 generalize M/2^k=Q at *
 generalize M % 2^k=T at *
 generalize pw e=q at *
 generalize (2:Int)^k=D at *
 have e1:Q*(q*D)=(D*Q)*q:=by rw[Int.mul_comm q D,<- Int.mul_assoc,Int.mul_comm Q D]
 have e2:(Q+1)*(q*D)=(D*Q)*q+D*q:=by rw[Int.add_mul,e1,Int.one_mul,Int.mul_comm q D]
 have e3:M*q=(D*Q)*q+T*q:=by rw[<- hd,Int.add_mul]
 rw[e2,e1,e3]
 have t0:0<=T*q:=Int.mul_nonneg hm0 (by omega)
 have t1:T*q<D*q:=Int.mul_lt_mul_of_pos_right hm1 hq
 refine⟨by omega,by omega,?_⟩
 rw[decide_eq_false_iff_not]
 constructor
 ·intro h
  have:T=0:=by omega
  rw[this];simp
 ·intro h hT
  have:0<T*q:=Int.mul_pos (by omega) hq
  omega
theorem Df {way:Int} {x:aW} (ok:gK x=true) (h0:0<x.n) :
  ∃ (r0:Nat) (left:Int),fi (val x.d x.n*pw x.e) r0 left∧mO way x.ng false (val x.d x.n/2^vK (val x.d x.n)).toNat (x.e+vK (val x.d x.n)) (decide (val x.d x.n % 2^vK (val x.d x.n)≠0))=(aG (x.ng&&(decide (0<bF way x.ng r0 left)||false)) (bF way x.ng r0 left),decide (left≠0)||decide (9218868437227405312<=(r0:Int))):=by
 obtain⟨na,hn,he0,he1⟩:=ct ok
 have hv:=kv na h0
 have hsm:=qP (Int.le_of_lt hv)
 have hb:=iJ hv
 have hp:=aR (vK (val x.d x.n))
 have hge:2^(aQ (val x.d x.n)-1-vK (val x.d x.n))<=val x.d x.n/2^vK (val x.d x.n):=by
  rw[Int.le_ediv_iff_mul_le hp,<- Int.pow_add]
  by_cases hk:vK (val x.d x.n)<=aQ (val x.d x.n)-1
  ·rw[show aQ (val x.d x.n)-1-vK (val x.d x.n)+vK (val x.d x.n)=aQ (val x.d x.n)-1 by omega]
   exact hb.2
  ·exfalso;unfold vK at hk;omega
 have hpos:=aR (aQ (val x.d x.n)-1-vK (val x.d x.n))
 have e64:(2:Nat)^64=18446744073709551616:=by decide
 have e60:(2:Nat)^60=1152921504606846976:=by decide
 refine zU (zV (Int.le_of_lt hv) (by omega) _) (by omega) (by omega) (by omega) (fun hc=>?_)
 have hk0:0<vK (val x.d x.n):=by
  rcases Nat.eq_zero_or_pos (vK (val x.d x.n)) with h|h
  ·rw[h,Int.pow_zero,Int.emod_one] at hc;simp at hc
  ·exact h
 have h61:aQ (val x.d x.n)-1-vK (val x.d x.n)=61:=by unfold vK at hk0 ⊢;omega
 rw[h61] at hge
 have e61:(2:Int)^61=2305843009213693952:=by decide
 rw[e61] at hge
 omega
theorem nw {ng:Bool} {r:Int} (h0:0<=r) (h1:r<=9218868437227405312) (h:ng=true->0<r):ag (aG ng r)∧rg (aG ng r)=r∧(aG ng r<0↔ng=true):=by
 unfold aG rg ag
 cases ng
 ·simp only[Bool.false_eq_true,if_false]
  exact⟨by omega,by rw[if_neg (by omega)],by omega,fun h=>by cases h⟩
 ·simp only[if_true]
  exact⟨by have:=h rfl;omega,by have:=h rfl;rw[if_pos (by omega)];omega,fun _=>trivial,fun _=>by omega⟩
theorem uC {ng:Bool} {r:Int} (h0:0<=r) (h1:r<=9218868437227405312) (h:ng=true->0<r):ak (aG ng r)=decide (r<9218868437227405312):=by
 obtain⟨a,b,c⟩:=nw h0 h1 h
 have hp:=gU a
 rw[b] at hp
 have hf:0<=cA (aG ng r)∧cA (aG ng r)<4503599627370496:=by unfold cA;omega
 unfold ak
 by_cases hr:r<9218868437227405312
 ·rw[decide_eq_true hr]
  simp
  omega
 ·rw[decide_eq_false hr]
  simp
  omega
theorem jZ {ng:Bool} {r:Nat} (h1:(r:Int)<9218868437227405312) (h:ng=true->0<r):aq (aG ng r)=sg ng (vS r):=by
 have hh:ng=true->(0:Int)<r:=fun q=>by have:=h q;omega
 obtain⟨a,b,c⟩:=nw (ng:=ng) (r:=(r:Int)) (by omega) (by omega) hh
 have hp:ak (aG ng r)=true:=by rw[uC (by omega) (by omega) hh];exact decide_eq_true h1
 have hV:=Oi a hp
 rw[b,Int.toNat_natCast] at hV
 obtain⟨i0,i1,i2,i3⟩:=eY hp
 have hn:dW (aG ng r)=ng:=by
  unfold dW
  rw[hp,Bool.true_and]
  cases ng
  ·exact decide_eq_false (fun q=>by have:=c.1 q;cases this)
  ·exact decide_eq_true (c.2 rfl)
 unfold aq vS
 rw[hV,hn]
 have e:pw (bh (aG ng r))=2^(bh (aG ng r)+1074).toNat*pw (-1074):=by
  rw[og (e:=bh (aG ng r)) (low:=-1074) (by decide) i2]
  congr 2
 have e2:(((aN (aG ng r)).toNat*2^(bh (aG ng r)+1074).toNat:Nat):Int)*pw (-1074)=aN (aG ng r)*pw (bh (aG ng r)):=by
  push_cast
  rw[Int.toNat_of_nonneg i0,e,Int.mul_assoc]
 rw[e2]
 cases ng
 ·rfl
 ·show -aN _*_=-(aN _*_)
  rw[Int.neg_mul]
theorem fi.unique {A:Int} {r s:Nat} {l k:Int} (h:fi A r l) (g:fi A s k):r=s∧l=k:=by
 have e:r=s:=by
  rcases Nat.lt_trichotomy r s with q|q|q
  ·exfalso
   have h1:=h.hi
   have h2:=g.lo
   rcases Nat.lt_or_eq_of_le (show r+1<=s from q) with q2|q2
   ·have:=mH q2;omega
   ·rw[q2] at h1;omega
  ·exact q
  ·exfalso
   have h1:=g.hi
   have h2:=h.lo
   rcases Nat.lt_or_eq_of_le (show s+1<=r from q) with q2|q2
   ·have:=mH q2;omega
   ·rw[q2] at h1;omega
 subst e
 refine⟨rfl,?_⟩
 have a0:=h.lo
 by_cases c0:A=vS r
 ·rw[h.l0.2 c0,g.l0.2 c0]
 ·by_cases c1:2*A<vS r+vS (r+1)
  ·rw[h.l1.2 ⟨by omega,c1⟩,g.l1.2 ⟨by omega,c1⟩]
  ·by_cases c2:2*A=vS r+vS (r+1)
   ·rw[h.l2.2 c2,g.l2.2 c2]
   ·rw[h.l3.2 (by omega),g.l3.2 (by omega)]
def rV (way:Int) (x:aW):Int × Bool:=mO way x.ng false (val x.d x.n/2^vK (val x.d x.n)).toNat (x.e+vK (val x.d x.n)) (decide (val x.d x.n % 2^vK (val x.d x.n)≠0))
theorem OH {x:aW} (ok:gK x=true) (h0:0<x.n):∃ (r0:Nat) (left:Int),fi (val x.d x.n*pw x.e) r0 left∧∀ way,rV way x=(aG (x.ng&&decide (0<bF way x.ng r0 left)) (bF way x.ng r0 left),decide (left≠0)||decide (9218868437227405312<=(r0:Int))):=by
 obtain⟨r0,left,hR,_⟩:=Df (way:=0) ok h0
 refine⟨r0,left,hR,fun way=>?_⟩
 obtain⟨r1,l1,hR1,e1⟩:=Df (way:=way) ok h0
 obtain⟨rfl,rfl⟩:=hR.unique hR1
 unfold rV
 rw[e1,Bool.or_false]
theorem MG {x:aW} (ok:gK x=true) (h0:x.n=0) (way:Int):rV way x=(0,false):=by
  have hz:x.ng=false∧x.e=0:=by
    have:=of_decide_eq_true ok
    rcases this with⟨_,a,b⟩|⟨a,_⟩
    · exact⟨a,b⟩
    · omega
  have hv:val x.d x.n=0:=by rw[h0];rfl
  unfold rV
  rw[hv,hz.1,hz.2]
  have e:mO way false false ((0:Int)/2^vK 0).toNat (0+(vK 0:Int)) (decide ((0:Int) % 2^vK 0≠0))=mO way false false 0 0 false:=by
    rw[show vK 0=0 by decide]
    rfl
  rw[e]
  have HR:mO way false false 0 0 false=(let E:=rE 53 (-1074) 0 0
    let u:=rU 0 (E-0)
    let left:=rL 0 false (E-0)
    let U:=u+(if bX way false (decide (u % 2=1)) left then 1 else 0)
    let neg:=false&&(decide (0<U)||false)
    if jk 52 2047 (-1074) U E then (jp neg U E,decide (left≠0)) else (aG neg (eL way neg),true)):=rfl
  rw[HR]
  have hE:rE 53 (-1074) 0 0=-53:=by decide
  simp only[hE]
  have hu:rU 0 (-53-0)=0:=by decide
  have hl:rL 0 false (-53-0)=0:=by decide
  simp only[hu,hl]
  have hr:bX way false (decide (0 % 2=1)) 0=false:=by
    cases h:bX way false (decide (0 % 2=1)) 0
    · rfl
    · exact absurd h (fun q=>jy q)
  rw[hr]
  rfl
theorem iT:vS 0=0:=by unfold vS;rw[pJ];simp
theorem qQ {A:Int} {ng:Bool} {r:Nat} (h:(r:Int)<9218868437227405312):jY A (aG (ng&&decide ((0:Int)<r)) r)=bH A (sg ng (vS r)):=by
 by_cases h0:r=0
 ·subst h0
  have e:(ng&&decide ((0:Int)<((0:Nat):Int)))=false:=by simp
  rw[e,iT]
  have hp:ak (aG false ((0:Nat):Int))=true:=by decide
  have hv:aq (aG false ((0:Nat):Int))=0:=by rw[jZ (by decide) (fun q=>by cases q),iT];rfl
  unfold jY
  rw[if_pos hp,hv]
  cases ng<;>rfl
 ·have e:(ng&&decide ((0:Int)<(r:Int)))=ng:=by rw[decide_eq_true (by omega),Bool.and_true]
  rw[e]
  have hp:ak (aG ng r)=true:=by rw[uC (by omega) (by omega) (fun _=>by omega)];exact decide_eq_true h
  unfold jY
  rw[if_pos hp,jZ h (fun _=>by omega)]
theorem zW {A:Int} {ng:Bool}:jY A (aG (ng&&decide ((0:Int)<9218868437227405312)) 9218868437227405312)=if ng then 1 else -1:=by
 cases ng<;>rfl
theorem Jq (ng odd:Bool) (left:Int):bX 1 ng odd left=(decide (left≠0)&&ng):=rfl
theorem OI (ng odd:Bool) (left:Int):bX 2 ng odd left=(decide (left≠0)&&!ng):=rfl
theorem Jr (ng odd:Bool) (left:Int):bX 3 ng odd left=false:=rfl
theorem Dg {ng:Bool} {r0:Nat} {left:Int} (h:(r0:Int)<9218868437227405312) :
  bF 1 ng r0 left=(if left≠0∧ng=true then ((r0+1:Nat):Int) else (r0:Int))∧bF 2 ng r0 left=(if left≠0∧ng=false then ((r0+1:Nat):Int) else (r0:Int))∧bF 3 ng r0 left=(r0:Int)∧(bF 0 ng r0 left=(r0:Int)∨(left≠0∧bF 0 ng r0 left=((r0+1:Nat):Int))):=by
 unfold bF
 simp only[if_pos h]
 refine⟨?_,?_,?_,?_⟩
 ·rw[Jq]
  by_cases h0:left=0
  ·subst h0;simp
  ·cases ng<;>simp[h0]
 ·rw[OI]
  by_cases h0:left=0
  ·subst h0;simp
  ·cases ng<;>simp[h0]
 ·rw[Jr]
  simp
 ·cases hu:bX 0 ng (decide (r0 % 2=1)) left
  ·left;simp
  ·right
   refine⟨fun hz=>?_,by simp⟩
   rw[hz] at hu
   exact jy hu
theorem Dh {ng:Bool} {r0:Nat} {left:Int} (h:¬ (r0:Int)<9218868437227405312) :
  bF 1 ng r0 left=(if ng=true then 9218868437227405312 else 9218868437227405311)∧bF 2 ng r0 left=(if ng=true then 9218868437227405311 else 9218868437227405312)∧bF 3 ng r0 left=9218868437227405311∧bF 0 ng r0 left=9218868437227405312:=by
 unfold bF
 simp only[if_neg h]
 cases ng<;>decide
theorem eZ {b:Int} (hb:ag b):(aH b=4↔9218868437227405312<rg b)∧(aH b=0↔rg b=0):=by
 obtain⟨h0,h1⟩:=gU hb
 have hf:0<=cA b∧cA b<4503599627370496:=by unfold cA;omega
 have hg:0<=bQ b∧bQ b<2048:=by unfold bQ;omega
 generalize rg b=r at *
 unfold aH
 generalize bQ b=f at *
 generalize cA b=c at *
 constructor
 ·split
  ·split<;>constructor<;>intro h<;>omega
  ·split
   ·split<;>constructor<;>intro h<;>omega
   ·constructor<;>intro h<;>omega
 ·split
  ·split<;>constructor<;>intro h<;>omega
  ·split
   ·split<;>constructor<;>intro h<;>omega
   ·constructor<;>intro h<;>omega
theorem Gl {r:Int} (h0:0<=r) (h1:r<9218868437227405312):aL (next (aG false r))=r+1:=by
 have e:aG false r=r:=rfl
 rw[e]
 have a1:ag r:=by unfold ag;omega
 have a2:ag (r+1):=by unfold ag;omega
 have g1:rg r=r:=by unfold rg;rw[if_neg (by omega)]
 have g2:rg (r+1)=r+1:=by unfold rg;rw[if_neg (by omega)]
 have c1:=eZ a1
 have c2:=eZ a2
 rw[g1] at c1
 rw[g2] at c2
 have n:next r=r+1:=by
  unfold next
  rw[if_neg (by rw[c1.1];omega),if_neg (by omega),if_neg (by omega),if_neg (by omega)]
 rw[n]
 unfold aL
 rw[if_neg (by rw[c2.1];omega),if_neg (by rw[c2.2];omega)]
theorem Gm {r:Int} (h0:0<r) (h1:r<=9218868437227405312):aL (next (aG true r))=aG (decide (0<r-1)) (r-1):=by
 have e:aG true r=r-9223372036854775808:=rfl
 rw[e]
 have a1:ag (r-9223372036854775808):=by unfold ag;omega
 have a2:ag (r-9223372036854775808-1):=by unfold ag;omega
 have g1:rg (r-9223372036854775808)=r:=by unfold rg;rw[if_pos (by omega)];omega
 have g2:rg (r-9223372036854775808-1)=r-1:=by unfold rg;rw[if_pos (by omega)];omega
 have c1:=eZ a1
 have c2:=eZ a2
 rw[g1] at c1
 rw[g2] at c2
 have n:next (r-9223372036854775808)=r-9223372036854775808-1:=by
  unfold next
  rw[if_neg (by rw[c1.1];omega),if_neg (by omega),if_neg (by omega),if_pos (by omega)]
 rw[n]
 unfold aL
 rw[if_neg (by rw[c2.1];omega)]
 by_cases h:r-1=0
 ·rw[if_pos (c2.2.2 h),h]
  rfl
 ·rw[if_neg (by rw[c2.2];exact h),decide_eq_true (by omega)]
  unfold aG
  rw[if_pos rfl]
  omega
structure vx (V:Int) (ng:Bool) (f:Int->Int × Bool):Prop where
 o2:(f 2).2=(f 1).2
 o3:(f 3).2=(f 1).2
 o0:(f 0).2=(f 1).2
 lo:¬ jY V (f 1).1<0
 hi:¬ 0<jY V (f 2).1
 ex:(f 1).2=false->jY V (f 1).1=0∧(f 2).1=(f 1).1∧(f 3).1=(f 1).1∧(f 0).1=(f 1).1
 up:(f 1).2=true->jY V (f 1).1≠0∧aL (next (f 1).1)=(f 2).1∧((f 0).1=(f 1).1∨(f 0).1=(f 2).1)∧(ng=false->(f 3).1=(f 1).1)∧(ng=true->(f 3).1=(f 2).1)
theorem Js (a:Int):bH a a=0:=by unfold bH;rw[if_neg (by omega),if_neg (by omega)]
theorem vx.of {V:Int} {ng:Bool} {f:Int->Int × Bool} {o:Bool} {d u z n:Int} (f1:f 1=(aG (ng&&decide (0<d)) d,o)) (f2:f 2=(aG (ng&&decide (0<u)) u,o)) (f3:f 3=(aG (ng&&decide (0<z)) z,o)) (f0:f 0=(aG (ng&&decide (0<n)) n,o))
  (lo:¬ jY V (aG (ng&&decide (0<d)) d)<0) (hi:¬ 0<jY V (aG (ng&&decide (0<u)) u)) (ex:o=false->jY V (aG (ng&&decide (0<d)) d)=0∧u=d∧z=d∧n=d)
  (up:o=true->jY V (aG (ng&&decide (0<d)) d)≠0∧aL (next (aG (ng&&decide (0<d)) d))=aG (ng&&decide (0<u)) u∧(n=d∨n=u)∧(ng=false->z=d)∧(ng=true->z=u)):vx V ng f:=by
 refine⟨by rw[f1,f2],by rw[f1,f3],by rw[f1,f0],by rw[f1];exact lo,by rw[f2];exact hi,fun h=>?_,fun h=>?_⟩
 ·rw[f1] at h
  obtain⟨a,b,c,e⟩:=ex h
  rw[f1,f2,f3,f0,b,c,e]
  exact⟨a,rfl,rfl,rfl⟩
 ·rw[f1] at h
  obtain⟨a,b,c,e,g⟩:=up h
  rw[f1,f2,f3,f0]
  refine⟨a,b,?_,fun q=>by rw[e q],fun q=>by rw[g q]⟩
  rcases c with c|c
  ·left;rw[c]
  ·right;rw[c]
theorem Qr {r:Nat} (h:(r:Int)<9218868437227405312) (g:¬ ((r+1:Nat):Int)<9218868437227405312):((r+1:Nat):Int)=9218868437227405312:=by omega
theorem Ll (r:Nat):(0:Int)<((r+1:Nat):Int):=by omega
theorem RH {r:Nat} (h:(r:Int)<9218868437227405312):((r+1:Nat):Int)<=9218868437227405312:=by omega
theorem Qs (r:Nat):((r+1:Nat):Int)-1=(r:Int):=by omega
theorem Qt (r:Nat):((r+1:Nat):Int)=(r:Int)+1:=by omega
theorem RI {r k:Nat} (hk:(9218868437227405311:Int)=(k:Int)) (h:¬ (r:Int)<9218868437227405312):k<r:=by omega
theorem RJ:∃ k:Nat,(9218868437227405311:Int)=(k:Int):=⟨9218868437227405311,rfl⟩
theorem Qu {k:Nat} (hk:(9218868437227405311:Int)=(k:Int)):(k:Int)<9218868437227405312∧(k:Int)+1=9218868437227405312∧(9218868437227405312:Int)-1=(k:Int):=by omega
theorem Gn {ng:Bool} {A B:Int} (h:A<B):bH (sg ng A) (sg ng B)=if ng then 1 else -1:=by
 cases ng
 ·exact gd h
 ·exact gf (Int.neg_lt_neg h)
theorem xP {ng:Bool} {A B:Int} (h:B<A):bH (sg ng A) (sg ng B)=if ng then -1 else 1:=by
 cases ng
 ·exact gf h
 ·exact gd (Int.neg_lt_neg h)
theorem pV (ng:Bool) (a b:Int):sg ng a*b=sg ng (a*b):=by
 unfold sg
 cases ng
 ·rfl
 ·exact Int.neg_mul a b
theorem kC {x:aW} (ok:gK x=true):vx x.V x.ng (fun way=>rV way x):=by
 by_cases h0:x.n=0
 ·have hz:x.ng=false:=by
   have:=of_decide_eq_true ok
   rcases this with⟨_,a,b⟩|⟨a,_⟩
   ·exact a
   ·omega
  have hv:x.V=0:=by
   have hv:val x.d x.n=0:=by rw[h0];rfl
   unfold aW.V
   rw[hv,gN,Int.zero_mul]
  have hp:jY x.V (aG (x.ng&&decide ((0:Int)<0)) 0)=0:=by
   have:=qQ (A:=x.V) (ng:=x.ng) (r:=0) (by decide)
   rw[iT,hv,hz] at this
   rw[hv,hz]
   exact this
  have hz0:∀ way,rV way x=(aG (x.ng&&decide ((0:Int)<0)) 0,false):=fun way=>by
   rw[MG ok h0,hz]
   rfl
  exact vx.of (f:=fun way=>rV way x) (hz0 1) (hz0 2) (hz0 3) (hz0 0) (by rw[hp];decide) (by rw[hp];decide) (fun _=>⟨hp,rfl,rfl,rfl⟩) (fun h=>by cases h)
 ·obtain⟨r0,left,hR,hf⟩:=OH ok (by omega)
  obtain⟨A,hA⟩:∃ A,val x.d x.n*pw x.e=A:=⟨_,rfl⟩
  rw[hA] at hR
  have hV:x.V=sg x.ng A:=by
   unfold aW.V
   rw[<- hA]
   exact pV _ _ _
  clear hA
  have lo:=hR.lo
  have hi:=hR.hi
  have l0:=hR.l0
  rw[hV]
  by_cases hr:(r0:Int)<9218868437227405312
  ·obtain⟨t1,t2,t3,t0⟩:=Dg (ng:=x.ng) (left:=left) hr
   have ho:(decide (left≠0)||decide (9218868437227405312<=(r0:Int)))=decide (left≠0):=by rw[decide_eq_false (p:=9218868437227405312<=(r0:Int)) (Int.not_le.2 hr),Bool.or_false]
   rw[ho] at hf
   have P0:=qQ (A:=sg x.ng A) (ng:=x.ng) hr
   by_cases hl:left=0
   ·have hAe:=l0.1 hl
    have e1:bF 1 x.ng r0 left=(r0:Int):=by rw[t1,if_neg (fun h=>h.1 hl)]
    have e2:bF 2 x.ng r0 left=(r0:Int):=by rw[t2,if_neg (fun h=>h.1 hl)]
    have e0:bF 0 x.ng r0 left=(r0:Int):=by rcases t0 with h|h;exact h;exact absurd hl h.1
    rw[hAe,Js] at P0
    refine vx.of (f:=fun way=>rV way x) (hf 1) (hf 2) (hf 3) (hf 0) ?_ ?_ ?_ ?_
    ·rw[e1,hAe,P0];decide
    ·rw[e2,hAe,P0];decide
    ·intro _;rw[e1,e2,t3,e0,hAe];exact⟨P0,rfl,rfl,rfl⟩
    ·intro h;exact absurd hl (of_decide_eq_true h)
   ·have hAl:vS r0<A:=by
     rcases Int.lt_or_eq_of_le lo with h|h
     ·exact h
     ·exact absurd (l0.2 h.symm) hl
    have P1:jY (sg x.ng A) (aG (x.ng&&decide ((0:Int)<((r0+1:Nat):Int))) ((r0+1:Nat):Int))=if x.ng then 1 else -1:=by
     by_cases h1:((r0+1:Nat):Int)<9218868437227405312
     ·rw[qQ h1]
      exact Gn hi
     ·have e:=Qr hr h1
      rw[e]
      exact zW
    have P0':jY (sg x.ng A) (aG (x.ng&&decide ((0:Int)<(r0:Int))) (r0:Int))=if x.ng then -1 else 1:=by
     rw[P0]
     exact xP hAl
    clear hV
    generalize x.ng=ng at *
    cases ng
    ·have e1:bF 1 false r0 left=(r0:Int):=by rw[t1,if_neg (fun h=>by cases h.2)]
     have e2:bF 2 false r0 left=((r0+1:Nat):Int):=by rw[t2,if_pos ⟨hl,rfl⟩]
     refine vx.of (f:=fun way=>rV way x) (hf 1) (hf 2) (hf 3) (hf 0) ?_ ?_ ?_ ?_
     ·rw[e1,P0'];decide
     ·rw[e2,P1];decide
     ·intro h;exact absurd hl (by simpa using h)
     ·intro _
      rw[e1,e2,t3,P0']
      refine⟨by decide,?_,?_,(fun _=>rfl),(fun h=>by cases h)⟩
      ·rw[Bool.false_and,Bool.false_and,Gl (Int.natCast_nonneg _) hr];exact(Qt r0).symm
      ·rcases t0 with h|h
       ·exact .inl h
       ·exact .inr h.2
    ·have e1:bF 1 true r0 left=((r0+1:Nat):Int):=by rw[t1,if_pos ⟨hl,rfl⟩]
     have e2:bF 2 true r0 left=(r0:Int):=by rw[t2,if_neg (fun h=>by cases h.2)]
     refine vx.of (f:=fun way=>rV way x) (hf 1) (hf 2) (hf 3) (hf 0) ?_ ?_ ?_ ?_
     ·rw[e1,P1];decide
     ·rw[e2,P0'];decide
     ·intro h;exact absurd hl (by simpa using h)
     ·intro _
      rw[e1,e2,t3,P1]
      refine⟨by decide,?_,?_,(fun h=>by cases h),fun _=>rfl⟩
      ·rw[Bool.true_and,Bool.true_and,decide_eq_true (p:=(0:Int)<((r0+1:Nat):Int)) (Ll r0),Gm (Ll r0) (RH hr),Qs]
      ·rcases t0 with h|h
       ·exact .inr h
       ·exact .inl h.2
  ·obtain⟨t1,t2,t3,t0⟩:=Dh (ng:=x.ng) (left:=left) hr
   have ho:(decide (left≠0)||decide (9218868437227405312<=(r0:Int)))=true:=by rw[decide_eq_true (p:=9218868437227405312<=(r0:Int)) (Int.not_lt.1 hr),Bool.or_true]
   rw[ho] at hf
   obtain⟨k,hk⟩:=RJ
   obtain⟨hk1,hk2,hk3⟩:=Qu hk
   have hAl:vS k<A:=Int.lt_of_lt_of_le (mH (RI hk hr)) lo
   have P0:jY (sg x.ng A) (aG (x.ng&&decide ((0:Int)<(k:Int))) (k:Int))=if x.ng then -1 else 1:=by
    refine(qQ (A:=sg x.ng A) (ng:=x.ng) hk1).trans ?_
    exact xP hAl
   rw[hk] at t1 t2 t3
   have P1:jY (sg x.ng A) (aG (x.ng&&decide ((0:Int)<9218868437227405312)) 9218868437227405312)=if x.ng then 1 else -1:=zW
   clear hV hR lo hi l0
   generalize x.ng=ng at *
   cases ng
   ·rw[if_neg (by decide)] at t1 t2
    refine vx.of (f:=fun way=>rV way x) (hf 1) (hf 2) (hf 3) (hf 0) ?_ ?_ ?_ ?_
    ·rw[t1,P0];decide
    ·rw[t2,P1];decide
    ·intro h;cases h
    ·intro _
     rw[t1,t2,t3,t0,P0]
     refine⟨by decide,?_,.inr rfl,(fun _=>rfl),(fun h=>by cases h)⟩
     rw[Bool.false_and,Bool.false_and]
     rw[Gl (Int.natCast_nonneg _) hk1,hk2]
     rfl
   ·rw[if_pos rfl] at t1 t2
    refine vx.of (f:=fun way=>rV way x) (hf 1) (hf 2) (hf 3) (hf 0) ?_ ?_ ?_ ?_
    ·rw[t1,P1];decide
    ·rw[t2,P0];decide
    ·intro h;cases h
    ·intro _
     rw[t1,t2,t3,t0,P1]
     refine⟨by decide,?_,.inl rfl,(fun h=>by cases h),fun _=>rfl⟩
     rw[Bool.true_and,Bool.true_and]
     rw[decide_eq_true (p:=(0:Int)<9218868437227405312) (by decide),Gm (by decide) (Int.le_refl _),hk3]
end Go.Proofs.YtjjihmnbdeeedaaGreatDoor
namespace Go.Proofs.YtjjihmnbdeeedaaGreatDoor
open Go Go.Proofs.Tryz Go.ChangeShapes Go.WideShapes Go.ChangeAt Go.RowKit Go.Proofs.YtjjihmnbdeeedaaGreatDoor.M
end Go.Proofs.YtjjihmnbdeeedaaGreatDoor
namespace Go.Proofs.YtjjihmnbdeeedaaGreatDoor
open Go Go.Proofs.Tryz Go.RowKit Go.Proofs.YtjjihmnbdeeedaaGreatDoor.M
theorem br.open2 {w:World} {ng:Bool} {so:Option Addr} {sn sc:Nat} {e V:Int} (h:br w (.agg #[.bool ng,.slice so sn sc,G6 e]) V) (ok:eR V):∃ d,aU w so sn sc d∧gK ⟨ng,so,sn,sc,d,e⟩=true∧(⟨ng,so,sn,sc,d,e⟩:aW).V=V:=by
 obtain⟨x,h1,h2,h3,h4⟩:=h.open ok
 obtain⟨xg,xo,xn,xc,xd,xe⟩:=x
 simp only[aW.v,Value.agg.injEq,Array.mk.injEq,List.cons.injEq,Value.bool.injEq,Value.int.injEq,Value.slice.injEq,and_true,true_and] at h1
 obtain⟨rfl,⟨rfl,rfl,rfl⟩,rfl⟩:=h1
 exact⟨xd,h2,h3,h4⟩
end Go.Proofs.YtjjihmnbdeeedaaGreatDoor
namespace Go.Proofs.YtjjihmnbdeeedaaGreatDoor
open Go Go.Proofs.Tryz Go.ChangeShapes Go.WideShapes Go.ChangeAt Go.RowKit Go.Proofs.YtjjihmnbdeeedaaGreatDoor.M
structure aO (w:World):Prop where
 lay:qO w
 tab:gz w
 env:xI w
theorem aO.keeps {w w':World} (h:aO w) (hb:Below w.heap.size w w'):aO w':=⟨h.lay.keeps hb,h.tab.keeps hb,h.env.keeps hb⟩
theorem dJ (way:Int) (ng:Bool) (r0:Nat) (left:Int):0<=bF way ng r0 left∧bF way ng r0 left<=9218868437227405312:=by
 unfold bF
 split
 ·split<;>omega
 ·unfold eL
  repeat' split
  all_goals decide
end Go.Proofs.YtjjihmnbdeeedaaGreatDoor
namespace Go.Proofs.YtjjihmnbdeeedaaGreatDoor
open Go Go.Proofs.Tryz Go.RowKit Go.Proofs.YtjjihmnbdeeedaaGreatDoor.M
def pF (V:Int) (ng:Bool) (f:Int->Int × Bool):Prop:=∃ (A:Int) (r0:Nat) (left:Int),V=sg ng A∧(ng=true->0<A)∧fi A r0 left∧∀ way,f way=(aG (ng&&decide (0<bF way ng r0 left)) (bF way ng r0 left),decide (left≠0)||decide (9218868437227405312<=(r0:Int)))
theorem yN {a b:Int} (h0:a=0) (h1:a<b):(0:Int)<b∧(((0:Int)=0↔(0:Int)=a)∧((0:Int)=1↔a<0∧2*0<a+b)∧((0:Int)=2↔2*0=a+b)∧((0:Int)=3↔a+b<2*0)):=by
 subst h0
 exact⟨h1,by omega,by omega,by omega,by omega⟩
theorem xQ:fi 0 0 0:=by
 have h1:=mH (show 0<0+1 by decide)
 have h0:=iT
 obtain⟨q,a,b,c,d⟩:=yN h0 h1
 exact⟨Int.le_of_eq h0,q,a,b,c,d⟩
theorem zX (way:Int):bF way false 0 0=0:=by
 unfold bF
 rw[if_pos (by decide)]
 cases h:bX way false (decide (0 % 2=1)) 0
 ·rfl
 ·exact(jy h).elim
theorem ua {a b:Int}:bH a b<0↔a<b:=by
 rcases Int.lt_trichotomy a b with h|h|h
 ·rw[gd h];exact⟨fun _=>h,fun _=>by decide⟩
 ·rw[jE h];exact⟨fun q=>absurd q (by decide),fun q=>by omega⟩
 ·rw[gf h];exact⟨fun q=>absurd q (by decide),fun q=>by omega⟩
theorem ub {a b:Int}:0<bH a b↔b<a:=by
 rcases Int.lt_trichotomy a b with h|h|h
 ·rw[gd h];exact⟨fun q=>absurd q (by decide),fun q=>by omega⟩
 ·rw[jE h];exact⟨fun q=>absurd q (by decide),fun q=>by omega⟩
 ·rw[gf h];exact⟨fun _=>h,fun _=>by decide⟩
theorem sR {a b:Int}:bH a b=0↔a=b:=by
 rcases Int.lt_trichotomy a b with h|h|h
 ·rw[gd h];exact⟨fun q=>absurd q (by decide),fun q=>by omega⟩
 ·rw[jE h];exact⟨fun _=>h,fun _=>rfl⟩
 ·rw[gf h];exact⟨fun q=>absurd q (by decide),fun q=>by omega⟩
theorem Jt {A a b left:Int} (l1:left=1↔a<A∧2*A<a+b) (l2:left=2↔2*A=a+b) (l3:left=3↔a+b<2*A) (lo:a<A) :
  (bH (A-a) (b-A)<0->left=1)∧(0<bH (A-a) (b-A)->left=3)∧(bH (A-a) (b-A)=0->left=2) :=
 ⟨fun h=>l1.2 ⟨lo,by have:=ua.1 h;omega⟩,fun h=>l3.2 (by have:=ub.1 h;omega),fun h=>l2.2 (by have:=sR.1 h;omega)⟩
theorem Ju {A a b left:Int} (l1:left=1↔a<A∧2*A<a+b) (l2:left=2↔2*A=a+b) (l3:left=3↔a+b<2*A) (lo:a<A) :
  (bH (-A - -b) (-a - -A)<0->left=3)∧(0<bH (-A - -b) (-a - -A)->left=1)∧(bH (-A - -b) (-a - -A)=0->left=2) :=
 ⟨fun h=>l3.2 (by have:=ua.1 h;omega),fun h=>l1.2 ⟨lo,by have:=ub.1 h;omega⟩,fun h=>l2.2 (by have:=sR.1 h;omega)⟩
theorem Gp {A a b left:Int} (l1:left=1↔a<A∧2*A<a+b) (l2:left=2↔2*A=a+b) (l3:left=3↔a+b<2*A) (lo:a<A) :
  (bH (sg false A-sg false a) (sg false b-sg false A)<0->left=1)∧(0<bH (sg false A-sg false a) (sg false b-sg false A)->left=3)∧(bH (sg false A-sg false a) (sg false b-sg false A)=0->left=2):=Jt l1 l2 l3 lo
theorem Gq {A a b left:Int} (l1:left=1↔a<A∧2*A<a+b) (l2:left=2↔2*A=a+b) (l3:left=3↔a+b<2*A) (lo:a<A) :
  (bH (sg true A-sg true b) (sg true a-sg true A)<0->left=3)∧(0<bH (sg true A-sg true b) (sg true a-sg true A)->left=1)∧(bH (sg true A-sg true b) (sg true a-sg true A)=0->left=2):=Ju l1 l2 l3 lo
theorem Gs {ng:Bool} {r0:Nat} (h:(r0:Int)<9218868437227405312):bF 0 ng r0 1=(r0:Int):=by
 unfold bF
 rw[if_pos h]
 simp[bX]
theorem Gt {ng:Bool} {r0:Nat} (h:(r0:Int)<9218868437227405312):bF 0 ng r0 3=((r0+1:Nat):Int):=by
 unfold bF
 rw[if_pos h]
 simp[bX]
theorem Gu {ng:Bool} {r0:Nat} (h:(r0:Int)<9218868437227405312):bF 0 ng r0 2 % 2=0:=by
 unfold bF
 rw[if_pos h]
 by_cases hp:r0 % 2=1
 ·simp[bX,hp];omega
 ·simp[bX,hp];omega
theorem xR {b:Bool} {r:Int} (h:r % 2=0):aG b r % 2=0:=by
 unfold aG
 cases b
 ·exact h
 ·show(r-9223372036854775808) % 2=0;omega
theorem pW {ng:Bool} {r:Int} (h:(ng&&decide (0<r))=true):0<r:=by
 cases ng
 ·cases h
 ·rw[Bool.true_and] at h;exact of_decide_eq_true h
theorem Di {ng:Bool} {r:Int} (h0:0<=r) (h1:r<=9218868437227405312) (h:ak (aG (ng&&decide (0<r)) r)=true):r<9218868437227405312:=by
 rw[uC h0 h1 pW] at h
 exact of_decide_eq_true h
theorem sS {ng:Bool} {r:Nat} (h:(r:Int)<9218868437227405312):aq (aG (ng&&decide ((0:Int)<(r:Int))) (r:Int))=sg ng (vS r):=by
 rw[jZ h (fun q=>by have:=pW q;omega)]
 by_cases h0:r=0
 ·subst h0
  rw[iT]
  simp[sg]
 ·have e:(ng&&decide ((0:Int)<(r:Int)))=ng:=by rw[decide_eq_true (by omega),Bool.and_true]
  rw[e]
structure Gv (V:Int) (f:Int->Int × Bool):Prop where
 lo:bH (V-aq (f 1).1) (aq (f 2).1-V)<0->(f 0).1=(f 1).1
 hi:0<bH (V-aq (f 1).1) (aq (f 2).1-V)->(f 0).1=(f 2).1
 ev:bH (V-aq (f 1).1) (aq (f 2).1-V)=0->(f 0).1 % 2=0
theorem Gv.of {V:Int} {f:Int->Int × Bool} {d u n p q:Int} {o:Bool} (f1:f 1=(d,o)) (f2:f 2=(u,o)) (f0:f 0=(n,o)) (hd:aq d=p) (hu:aq u=q)
  (lo:bH (V-p) (q-V)<0->n=d) (hi:0<bH (V-p) (q-V)->n=u) (ev:bH (V-p) (q-V)=0->n % 2=0):Gv V f:=by
 subst hd hu
 exact⟨by rw[f1,f2,f0];exact lo,by rw[f1,f2,f0];exact hi,by rw[f1,f2,f0];exact ev⟩
theorem bS {V:Int} {ng:Bool} {f:Int->Int × Bool} (h:pF V ng f) (o:(f 0).2=true) (pd:ak (f 1).1=true) (pu:ak (f 2).1=true):Gv V f:=by
 obtain⟨A,r0,left,hV,hA,hR,hf⟩:=h
 have f1:=hf 1
 have f2:=hf 2
 have f0:=hf 0
 rw[f1] at pd
 rw[f2] at pu
 rw[f0] at o
 have g1:=dJ 1 ng r0 left
 have g2:=dJ 2 ng r0 left
 have q1:=Di g1.1 g1.2 pd
 have q2:=Di g2.1 g2.2 pu
 clear pd pu hf g1 g2
 by_cases hr:(r0:Int)<9218868437227405312
 ·obtain⟨t1,t2,t3,t0⟩:=Dg (ng:=ng) (left:=left) hr
  have hl:left≠0:=by
   have o':(decide (left≠0)||decide (9218868437227405312<=(r0:Int)))=true:=o
   rw[decide_eq_false (p:=9218868437227405312<=(r0:Int)) (Int.not_le.2 hr),Bool.or_false] at o'
   exact of_decide_eq_true o'
  have hAl:vS r0<A:=by
   rcases Int.lt_or_eq_of_le hR.lo with h|h
   ·exact h
   ·exact absurd (hR.l0.2 h.symm) hl
  have l1:=hR.l1
  have l2:=hR.l2
  have l3:=hR.l3
  clear hR t3 t0 hA
  have V0:=sS (ng:=ng) hr
  cases ng
  ·have e1:bF 1 false r0 left=(r0:Int):=by rw[t1,if_neg (fun h=>by cases h.2)]
   have e2:bF 2 false r0 left=((r0+1:Nat):Int):=by rw[t2,if_pos ⟨hl,rfl⟩]
   rw[e1] at f1
   rw[e2] at f2 q2
   have V1:=sS (ng:=false) q2
   obtain⟨n1,n2,n3⟩:=Gp l1 l2 l3 hAl
   refine Gv.of f1 f2 f0 V0 V1 ?_ ?_ ?_
   ·intro h
    rw[hV] at h
    have:=n1 h
    subst this
    rw[Gs hr]
   ·intro h
    rw[hV] at h
    have:=n2 h
    subst this
    rw[Gt hr]
   ·intro h
    rw[hV] at h
    have:=n3 h
    subst this
    exact xR (Gu hr)
  ·have e1:bF 1 true r0 left=((r0+1:Nat):Int):=by rw[t1,if_pos ⟨hl,rfl⟩]
   have e2:bF 2 true r0 left=(r0:Int):=by rw[t2,if_neg (fun h=>by cases h.2)]
   rw[e1] at f1 q1
   rw[e2] at f2
   have V1:=sS (ng:=true) q1
   obtain⟨n1,n2,n3⟩:=Gq l1 l2 l3 hAl
   refine Gv.of f1 f2 f0 V1 V0 ?_ ?_ ?_
   ·intro h
    rw[hV] at h
    have:=n1 h
    subst this
    rw[Gt hr]
   ·intro h
    rw[hV] at h
    have:=n2 h
    subst this
    rw[Gs hr]
   ·intro h
    rw[hV] at h
    have:=n3 h
    subst this
    exact xR (Gu hr)
 ·exfalso
  obtain⟨t1,t2,t3,t0⟩:=Dh (ng:=ng) (left:=left) hr
  rw[t1] at q1
  rw[t2] at q2
  clear f1 f2 f0 o hV hA hR
  cases ng
  ·rw[if_neg (by decide)] at q2;omega
  ·rw[if_pos rfl] at q1;omega
end Go.Proofs.YtjjihmnbdeeedaaGreatDoor
namespace Go.Proofs.YtjjihmnbdeeedaaGreatDoor.M
open Go Go.Proofs.Tryz
theorem uD {b:Int} (hb:ag b) (h4:¬ aH b=4) (hi:¬ b=9218868437227405312):au (next b)=au b+1∧¬ aH (next b)=4∧place b<place (next b)∧¬ next b=-4503599627370496:=by
 have n:=mh h4
 unfold ag at hb
 unfold next
 rw[if_neg h4,if_neg hi]
 by_cases h1:b=-9223372036854775808
 ·subst h1;rw[if_pos rfl];refine⟨by decide,by decide,by decide,by decide⟩
 ·rw[if_neg h1]
  by_cases h2:b<0
  ·rw[if_pos h2]
   refine⟨?_,?_,?_,?_⟩
   ·unfold au;split<;>omega
   ·rw[wB];unfold bQ cA at *;omega
   ·unfold place;split<;>omega
   ·unfold bQ cA at n;omega
  ·rw[if_neg h2]
   refine⟨?_,?_,?_,?_⟩
   ·unfold au;split<;>omega
   ·rw[wB];unfold bQ cA at *;omega
   ·unfold place;split<;>omega
   ·unfold bQ cA at n;omega
theorem wH {b:Int} (hb:ag b) (h4:¬ aH b=4):au (neg b)=- au b∧¬ aH (neg b)=4:=by
 have n:=mh h4
 unfold ag at hb
 unfold neg
 rw[if_neg h4]
 by_cases h2:b<0
 ·rw[if_pos h2]
  refine⟨?_,?_⟩
  ·unfold au;split<;>omega
  ·rw[wB];unfold bQ cA at *;omega
 ·rw[if_neg h2]
  refine⟨?_,?_⟩
  ·unfold au;split<;>omega
  ·rw[wB];unfold bQ cA at *;omega
theorem zY {b:Int} (hb:ag b) (h4:¬ aH b=4) (hi:¬ b=-4503599627370496):au (fm b)=au b-1∧¬ aH (fm b)=4:=by
 obtain⟨a1,a2⟩:=wH hb h4
 have r1:=kt hb
 have hi':¬ neg b=9218868437227405312:=by
  unfold neg;rw[if_neg h4];unfold ag at hb;split<;>omega
 obtain⟨c1,c2,_,_⟩:=uD r1 a2 hi'
 obtain⟨d1,d2⟩:=wH (um r1) c2
 unfold fm
 refine⟨by omega,d2⟩
theorem zZ:next 9218868437227405312=9218868437227405312:=by decide
/-! the order of all -/
end Go.Proofs.YtjjihmnbdeeedaaGreatDoor.M
namespace Go.Proofs.YtjjihmnbdeeedaaGreatDoor.M
open Go Go.Proofs.Tryz Ieee
theorem Jv (neg:Bool) (n:Nat):Toward.even.cut neg n 0=n:=by
 unfold Toward.cut
 have h1:n % 1=0:=Nat.mod_one n
 simp[h1]
def Sy:Nat:=925
theorem vy:Ieee.double.leastPlace=-1074:=by decide
end Go.Proofs.YtjjihmnbdeeedaaGreatDoor.M
namespace Go.Proofs.YtjjihmnbdeeedaaGreatDoor
open Go Go.Proofs.Tryz Go.RowKit Go.Proofs.YtjjihmnbdeeedaaGreatDoor.M Ieee
def wI (t D:Nat):Int:=if t=0 then 0 else if 2*t<D then 1 else if 2*t=D then 2 else 3
theorem Aa {mag u t D:Nat} {q:Int} (hq:0<q) (hm:mag=u*D+t) (ht:t<D):M.qH ((mag:Int)*q) u ((D:Int)*q) (wI t D):=by
 have e:(mag:Int)*q=(u:Int)*((D:Int)*q)+(t:Int)*q:=by
  rw[hm];push_cast;rw[Int.add_mul,Int.mul_assoc]
 have k1:∀ a b:Nat,a<b->(a:Int)*q<(b:Int)*q:=fun a b h=>Int.mul_lt_mul_of_pos_right (by omega) hq
 have t0:0<=(t:Int)*q:=Int.mul_nonneg (by omega) (Int.le_of_lt hq)
 have t1:=k1 t D ht
 have e2:((2*t:Nat):Int)*q=2*((t:Int)*q):=by push_cast;rw[Int.mul_assoc]
 have z1:2*t<D->2*((t:Int)*q)<(D:Int)*q:=fun h=>by rw[<- e2];exact k1 _ _ h
 have z2:2*t=D->2*((t:Int)*q)=(D:Int)*q:=fun h=>by rw[<- e2,h]
 have z3:D<2*t->(D:Int)*q<2*((t:Int)*q):=fun h=>by rw[<- e2];exact k1 _ _ h
 have z4:0<t->0<(t:Int)*q:=fun h=>Int.mul_pos (by omega) hq
 have z5:t=0->(t:Int)*q=0:=fun h=>by rw[h];simp
 obtain⟨U,hU⟩:∃ U,(u:Int)*((D:Int)*q)=U:=⟨_,rfl⟩
 rw[e,hU]
 generalize (t:Int)*q=T at *
 generalize (D:Int)*q=R at *
 unfold wI
 by_cases c0:t=0
 ·rw[if_pos c0]
  have:=z5 c0
  exact M.qH.mk' hU (by omega) (by omega) (by constructor<;>intro h<;>omega) (by constructor<;>intro h<;>omega) (by constructor<;>intro h<;>omega) (by constructor<;>intro h<;>omega)
 ·have:=z4 (by omega)
  rw[if_neg c0]
  by_cases c1:2*t<D
  ·rw[if_pos c1]
   have:=z1 c1
   exact M.qH.mk' hU (by omega) (by omega) (by constructor<;>intro h<;>omega) (by constructor<;>intro h<;>omega) (by constructor<;>intro h<;>omega) (by constructor<;>intro h<;>omega)
  ·rw[if_neg c1]
   by_cases c2:2*t=D
   ·rw[if_pos c2]
    have:=z2 c2
    exact M.qH.mk' hU (by omega) (by omega) (by constructor<;>intro h<;>omega) (by constructor<;>intro h<;>omega) (by constructor<;>intro h<;>omega) (by constructor<;>intro h<;>omega)
   ·rw[if_neg c2]
    have:=z3 (by omega)
    exact M.qH.mk' hU (by omega) (by omega) (by constructor<;>intro h<;>omega) (by constructor<;>intro h<;>omega) (by constructor<;>intro h<;>omega) (by constructor<;>intro h<;>omega)
theorem OJ (neg odd:Bool) (t D:Nat) (ht:t<D):bX 0 neg odd (wI t D)=(decide (D<2*t)||(decide (D=2*t)&&odd)):=by
 unfold bX wI
 rw[if_pos rfl]
 by_cases c0:t=0
 ·rw[if_pos c0,decide_eq_false (p:=D<2*t) (by omega),decide_eq_false (p:=D=2*t) (by omega)]
  simp
 ·rw[if_neg c0]
  by_cases c1:2*t<D
  ·rw[if_pos c1,decide_eq_false (p:=D<2*t) (by omega),decide_eq_false (p:=D=2*t) (by omega)]
   simp
  ·rw[if_neg c1]
   by_cases c2:2*t=D
   ·rw[if_pos c2,decide_eq_false (p:=D<2*t) (by omega),decide_eq_true (p:=D=2*t) (by omega)]
    simp
   ·rw[if_neg c2,decide_eq_true (p:=D<2*t) (by omega)]
    simp
theorem Jw (neg:Bool) (n d:Nat) (hn:n≠0):Toward.even.cut neg n d=n/2^d+(if bX 0 neg (decide (n/2^d % 2=1)) (wI (n % 2^d) (2^d)) then 1 else 0):=by
 have h2:n<2^(n.log2+1):=Nat.lt_log2_self
 have hD:=Nat.two_pow_pos d
 rw[OJ _ _ _ _ (Nat.mod_lt _ hD)]
 unfold Toward.cut
 dsimp only
 by_cases h:d<=n.log2+2
 ·rw[Nat.min_eq_left h,Nat.shiftLeft_eq,Nat.one_mul]
  congr 1
  have e1:(2^d == 2*(n % 2^d))=decide (2^d=2*(n % 2^d)):=rfl
  have e2:(n/2^d % 2 == 1)=decide (n/2^d % 2=1):=rfl
  rw[e1,e2]
  cases (decide (2^d<2*(n % 2^d))||decide (2^d=2*(n % 2^d))&&decide (n/2^d % 2=1))<;>rfl
 ·rw[Nat.min_eq_right (by omega),Nat.shiftLeft_eq,Nat.one_mul]
  have h3:2^(n.log2+2)=2*2^(n.log2+1):=by rw[Nat.pow_succ,Nat.mul_comm]
  have h4:2^(n.log2+2)<=2^d:=Nat.pow_le_pow_right (by decide) (by omega)
  have q1:n/2^(n.log2+2)=0:=Nat.div_eq_of_lt (by omega)
  have q2:n % 2^(n.log2+2)=n:=Nat.mod_eq_of_lt (by omega)
  have q3:n/2^d=0:=Nat.div_eq_of_lt (by omega)
  have q4:n % 2^d=n:=Nat.mod_eq_of_lt (by omega)
  rw[q1,q2,q3,q4,decide_eq_false (p:=2^d<2*n) (by omega),decide_eq_false (p:=2^d=2*n) (by omega),decide_eq_false (p:=2^(n.log2+2)<2*n) (by omega)]
  have e1:(2^(n.log2+2) == 2*n)=decide (2^(n.log2+2)=2*n):=rfl
  rw[e1,decide_eq_false (p:=2^(n.log2+2)=2*n) (by omega)]
  rfl
theorem vy:Ieee.double.leastPlace=-1074:=by decide
theorem Qv:Ieee.double.fractionBits=52:=by decide
theorem mu:Ieee.double.binade=4503599627370496:=by decide
def qR (mag:Nat) (place:Int):Int:=max (place+(mag.log2:Int)-52) (-1074)
theorem Ab (neg:Bool) {mag:Nat} (place:Int) (h:mag≠0):Ieee.double.nearest neg mag place=Ieee.double.word neg (min ((qR mag place+1074).toNat*4503599627370496+Toward.even.cut neg (mag*2^(place-qR mag place).toNat) (qR mag place-place).toNat) 9218868437227405312):=by
 unfold Format.nearest
 rw[if_neg h,vy,Qv,mu,oe]
 dsimp only
 rw[Nat.shiftLeft_eq,show(qR mag place+1074)=(qR mag place - -1074) by omega]
 rfl
theorem OL {r:Nat} {up:Bool} {neg:Bool} {left:Int} (hup:bX 0 neg (decide (r % 2=1)) left=up):((min (r+(if up=true then 1 else 0)) 9218868437227405312:Nat):Int)=bF 0 neg r left:=by
 unfold bF
 rw[hup]
 by_cases h:(r:Int)<9218868437227405312
 ·rw[if_pos h]
  cases up
  ·simp only[Bool.false_eq_true,if_false];omega
  ·simp only[if_true];omega
 ·rw[if_neg h]
  have hb:eL 0 neg=9218868437227405312:=by cases neg<;>rfl
  rw[hb]
  split<;>omega
theorem Jx (a u:Nat):decide ((a*4503599627370496+u) % 2=1)=decide (u % 2=1):=by congr 1;apply propext;omega
theorem sT (neg:Bool) {mag:Nat} {place:Int} (h:mag≠0) (hp:-4194304<=place) :
  ∃ (r0:Nat) (left:Int),fi ((mag:Int)*pw place) r0 left∧Ieee.double.nearest neg mag place=Ieee.double.word neg (bF 0 neg r0 left).toNat:=by
 rw[Ab neg place h]
 have h1:=Nat.log2_self_le h
 have h2:mag<2^(mag.log2+1):=Nat.lt_log2_self
 have hL:qR mag place=max (place+(mag.log2:Int)-52) (-1074):=rfl
 obtain⟨l,hl⟩:∃ l,qR mag place=l:=⟨_,rfl⟩
 rw[hl] at hL ⊢
 have hl0:-1074<=l:=by omega
 have hl1:place+(mag.log2:Int)-52<=l:=by omega
 have hl2:-1074<l->l=place+(mag.log2:Int)-52:=by omega
 obtain⟨a,ha⟩:∃ a:Nat,(l+1074).toNat=a:=⟨_,rfl⟩
 have hal:l=-1074+(a:Int):=by omega
 have e52:(2:Nat)^52=4503599627370496:=by decide
 have e53:(2:Nat)^53=9007199254740992:=by decide
 rw[ha]
 -- u units of 2^l and what is left
 have main:∃ (u:Nat) (left:Int),M.qH ((mag:Int)*pw place) u (pw l) left∧Toward.even.cut neg (mag*2^(place-l).toNat) (l-place).toNat=u+(if bX 0 neg (decide (u % 2=1)) left then 1 else 0)∧u<9007199254740992∧(0<a->4503599627370496<=u):=by
  by_cases hs:l<=place
  ·obtain⟨k,hk⟩:∃ k:Nat,(place-l).toNat=k:=⟨_,rfl⟩
   have hpl:place=l+(k:Int):=by omega
   rw[hk,show(l-place).toNat=0 by omega,Jv]
   refine⟨mag*2^k,0,?_,?_,?_,?_⟩
   ·have e:(mag:Int)*pw place=((mag*2^k:Nat):Int)*pw l:=by
     rw[hpl,gW (by omega),Int.mul_comm (pw l)]
     push_cast
     rw[Int.mul_assoc]
    have:=Aa (mag:=mag*2^k) (u:=mag*2^k) (t:=0) (D:=1) (bR l) (by omega) (by decide)
    rw[e]
    have e1:((1:Nat):Int)*pw l=pw l:=by rw[Int.natCast_one,Int.one_mul]
    rw[e1] at this
    exact this
   ·have:bX 0 neg (decide (mag*2^k % 2=1)) 0=false:=by
     cases hu:bX 0 neg (decide (mag*2^k % 2=1)) 0
     ·rfl
     ·exact(jy hu).elim
    rw[this]
    rfl
   ·have b1:mag*2^k<2^(mag.log2+1)*2^k:=Nat.mul_lt_mul_of_pos_right h2 (Nat.two_pow_pos _)
    rw[<- Nat.pow_add] at b1
    have b2:2^(mag.log2+1+k)<=2^53:=Nat.pow_le_pow_right (by decide) (by omega)
    omega
   ·intro h0
    have b1:2^mag.log2*2^k<=mag*2^k:=Nat.mul_le_mul_right _ h1
    rw[<- Nat.pow_add] at b1
    have b2:2^52<=2^(mag.log2+k):=Nat.pow_le_pow_right (by decide) (by have:=hl2 (by omega);omega)
    omega
  ·obtain⟨k,hk⟩:∃ k:Nat,(l-place).toNat=k:=⟨_,rfl⟩
   have hpl:l=place+(k:Int):=by omega
   rw[hk,show(place-l).toNat=0 by omega,Nat.pow_zero,Nat.mul_one,Jw neg mag k h]
   have hD:=Nat.two_pow_pos k
   have hdm:=Nat.div_add_mod mag (2^k)
   have hml:=Nat.mod_lt mag hD
   refine⟨mag/2^k,wI (mag % 2^k) (2^k),?_,rfl,?_,?_⟩
   ·have:=Aa (mag:=mag) (u:=mag/2^k) (t:=mag % 2^k) (D:=2^k) (bR place) (by rw[Nat.mul_comm];exact hdm.symm) hml
    have e:pw l=((2^k:Nat):Int)*pw place:=by
     rw[hpl,gW hp,Int.mul_comm]
     push_cast
     rfl
    rw[e]
    exact this
   ·rw[Nat.div_lt_iff_lt_mul hD,<- e53,<- Nat.pow_add]
    exact Nat.lt_of_lt_of_le h2 (Nat.pow_le_pow_right (by decide) (by omega))
   ·intro h0
    rw[Nat.le_div_iff_mul_le hD,<- e52,<- Nat.pow_add]
    exact Nat.le_trans (Nat.pow_le_pow_right (by decide) (by have:=hl2 (by omega);omega)) h1
 obtain⟨u,left,hLeft,hcut,hu1,hu2⟩:=main
 rw[hcut]
 have hV:=pO Ieee.double a u (by rw[mu];omega) (fun q=>by rw[mu];exact hu2 q)
 rw[mu] at hV
 have hpw:pw l=2^a*pw (-1074):=by rw[hal,gW (by decide),Int.mul_comm]
 rw[hpw] at hLeft
 refine⟨a*4503599627370496+u,left,sQ hLeft hV.1 hV.2,?_⟩
 have hm:=OL (r:=a*4503599627370496+u) (neg:=neg) (left:=left) rfl
 rw[Jx] at hm
 rw[<- hm,Int.toNat_natCast,Nat.add_assoc]
end Go.Proofs.YtjjihmnbdeeedaaGreatDoor
namespace Go.Proofs.YtjjihmnbdeeedaaGreatDoor
open Go Go.Proofs.Tryz Go.RowKit Go.Proofs.YtjjihmnbdeeedaaGreatDoor.M
theorem dp {b:Int} (h:ak b=true):Bd 4000 (aq b):=by
 obtain⟨i0,i1,i2,i3⟩:=eY h
 have h30:(9007199254740992:Int)<=P 30:=by unfold P;decide
 exact OF i0 (Int.lt_of_lt_of_le (by omega) h30) (by omega) (by omega)
theorem Bd.sub {B:Nat} {V W:Int} (h:Bd B V) (k:Bd B W) (hB:B<4194304):Bd (B+1) (V-W):=by
 rw[Int.sub_eq_add_neg]
 exact h.add k.neg hB
theorem yW {b:Int} {w:World} (h:ak b=true) (H:aO w):Calls prog 150 #[G6 b] w fun r w'=>∃ v,r=.returned (.tuple #[v,G6 0])∧bw w w' (aq b) v:=by
 refine(Dc b w H.lay H.tab).mono ?_
 rintro _ w' ⟨v,er,rfl,hb,(⟨_,rfl,hD⟩|⟨h',_⟩)⟩
 ·exact⟨v,rfl,hD⟩
 ·rw[h] at h';cases h'
theorem Qw {b:Int} {w:World} (h:ak b=false) (H:aO w):Calls prog 150 #[G6 b] w fun r w'=>r=.returned (.tuple #[.agg #[.bool false,.slice none 0 0,G6 0],G6 10])∧Below w.heap.size w w':=by
 refine(Dc b w H.lay H.tab).mono ?_
 rintro _ w' ⟨v,er,rfl,hb,(⟨h',_⟩|⟨_,rfl,rfl⟩)⟩
 ·rw[h] at h';cases h'
 ·exact⟨rfl,hb⟩
theorem MH {s:Bool} {r:Int} (h0:0<=r) (h1:r<=9218868437227405312) (h:s=true->0<r):aH (aG s r)≠4:=by
 obtain⟨a,b,_⟩:=nw h0 h1 h
 intro q
 have:=(eZ a).1.1 q
 omega
theorem MI {s:Bool} {r:Int} (h0:0<=r) (h1:r<=9218868437227405312) (h:s=true->0<r):au (aG s r)=sg s r:=by
 unfold au aG sg
 cases s
 ·simp only[Bool.false_eq_true,if_false]
  rw[if_neg (by omega)]
 ·have:=h rfl
  simp only[if_true]
  rw[if_pos (by omega)]
  omega
theorem OM {b:Int} (hb:ag b) (h:aH b≠4):rg (neg b)=rg b∧au (neg b)=-au b:=by
 unfold ag at hb
 unfold neg
 rw[if_neg h]
 unfold rg au
 by_cases h0:b<0
 ·rw[if_pos h0,if_neg (by omega),if_pos h0,if_neg (by omega),if_pos h0];omega
 ·rw[if_neg h0,if_pos (by omega),if_neg h0,if_pos (by omega),if_neg h0];omega
theorem MJ {b:Int} (hb:ag b) (h:aH b≠4):aH (neg b)≠4:=by
 intro q
 have h1:=(eZ (kt hb)).1.1 q
 rw[(OM hb h).1] at h1
 exact h ((eZ hb).1.2 h1)
theorem Jy {a b:Int} (h:au b<=au a):cm a b=false:=by
 unfold cm
 rw[decide_eq_false (p:=au a<au b) (by omega),Bool.and_false,Bool.and_false]
theorem Jz {way:Int} {ng odd:Bool} {A B a b l k:Int} (h0:l=0↔A=a) (h2:l=2↔2*A=a+b) (h3:l=3↔a+b<2*A) (g0:k=0↔B=a) (g2:k=2↔2*B=a+b) (g3:k=3↔a+b<2*B) (lo:a<=A) (AB:A<=B)
  (h:bX way ng odd l=true):bX way ng odd k=true:=by
 have nz:l≠0->k≠0:=fun q e=>by
  have e1:=g0.1 e
  exact q (h0.2 (by omega))
 unfold bX at *
 split at h
 ·rename_i e
  rw[if_pos e]
  simp only[Bool.or_eq_true,Bool.and_eq_true,decide_eq_true_eq] at *
  rcases h with h|⟨h,ho⟩
  ·left;exact g3.2 (by have:=h3.1 h;omega)
  ·have e2:=h2.1 h
   by_cases e3:2*B=a+b
   ·right;exact⟨g2.2 e3,ho⟩
   ·left;exact g3.2 (by omega)
 ·rename_i e
  rw[if_neg e]
  split at h
  ·rename_i e2
   rw[if_pos e2]
   simp only[Bool.and_eq_true,decide_eq_true_eq] at *
   exact⟨nz h.1,h.2⟩
  ·rename_i e2
   rw[if_neg e2]
   split at h
   ·rename_i e3
    rw[if_pos e3]
    simp only[Bool.and_eq_true,decide_eq_true_eq] at *
    exact⟨nz h.1,h.2⟩
   ·cases h
theorem MK {A B:Int} {r s:Nat} {l k:Int} (h:fi A r l) (g:fi B s k) (AB:A<=B):r<=s:=by
 rcases Nat.lt_or_ge s r with q|q
 ·exfalso
  have h1:=h.lo
  have g1:=g.hi
  have e:vS (s+1)<=vS r:=by
   rcases Nat.lt_or_eq_of_le (show s+1<=r from q) with q2|q2
   ·exact Int.le_of_lt (mH q2)
   ·rw[q2];exact Int.le_refl _
  exact absurd (Int.lt_of_lt_of_le g1 (Int.le_trans e (Int.le_trans h1 AB))) (Int.lt_irrefl _)
 ·exact q
theorem Ac {way:Int} {ng:Bool} {A B:Int} {r s:Nat} {l k:Int} (h:fi A r l) (g:fi B s k) (AB:A<=B):bF way ng r l<=bF way ng s k:=by
 have hrs:=MK h g AB
 rcases Nat.lt_or_eq_of_le hrs with q|q
 ·clear h g
  unfold bF
  by_cases hs:(s:Int)<9218868437227405312
  ·rw[if_pos hs,if_pos (by omega)]
   split<;>split<;>omega
  ·rw[if_neg hs]
   by_cases hr:(r:Int)<9218868437227405312
   ·rw[if_pos hr]
    unfold eL
    cases hu:bX way ng (decide (r % 2=1)) l
    ·simp only[Bool.false_eq_true,if_false]
     split<;>omega
    ·rw[if_pos rfl,if_pos (uB hu)]
     omega
   ·rw[if_neg hr]
    exact Int.le_refl _
 ·subst q
  have lo:=h.lo
  have h0:=h.l0
  have h2:=h.l2
  have h3:=h.l3
  have g0:=g.l0
  have g2:=g.l2
  have g3:=g.l3
  have hm:=fun odd=>@Jz way ng odd A B (vS r) (vS (r+1)) l k h0 h2 h3 g0 g2 g3 lo AB
  clear h g lo h0 h2 h3 g0 g2 g3
  unfold bF
  by_cases hr:(r:Int)<9218868437227405312
  ·rw[if_pos hr,if_pos hr]
   cases hu:bX way ng (decide (r % 2=1)) l
   ·simp only[Bool.false_eq_true,if_false]
    split<;>omega
   ·rw[hm _ hu]
    exact Int.le_refl _
  ·rw[if_neg hr,if_neg hr]
   exact Int.le_refl _
theorem xS (r:Nat):0<=vS r:=by
 rcases Nat.eq_zero_or_pos r with h|h
 ·subst h;rw[iT];exact Int.le_refl _
 ·have:=mH h
  rw[iT] at this
  exact Int.le_of_lt this
theorem ON (ng:Bool) {r:Int} (h0:0<=r):sg (ng&&decide (0<r)) r=sg ng r:=by
 by_cases h:0<r
 ·rw[decide_eq_true h,Bool.and_true]
 ·obtain rfl:r=0:=by omega
  cases ng<;>rfl
theorem pF.key {V:Int} {ng:Bool} {f:Int->Int × Bool} {A:Int} {r0:Nat} {left:Int} {way:Int} (hf:f way=(aG (ng&&decide (0<bF way ng r0 left)) (bF way ng r0 left),decide (left≠0)||decide (9218868437227405312<=(r0:Int)))) :
  M.au (f way).1=sg ng (bF way ng r0 left)∧aH (f way).1≠4∧ag (f way).1:=by
 obtain⟨g1,g2⟩:=dJ way ng r0 left
 rw[hf]
 exact⟨(MI g1 g2 pW).trans (ON ng g1),MH g1 g2 pW,(nw g1 g2 pW).1⟩
theorem Qx {ng mg:Bool} {A B r s:Int} (hA:0<=A) (hB:0<=B) (zB:mg=true->0<B) (r0:0<=r) (s0:0<=s) (h:sg ng A<=sg mg B) (up:ng=mg->A<=B->r<=s) (dn:ng=mg->B<=A->s<=r):sg ng r<=sg mg s:=by
 cases ng<;>cases mg
 ·exact up rfl h
 ·exfalso
  have h':A <= -B:=h
  have:=zB rfl
  omega
 ·show -r<=s
  omega
 ·have h':-A <= -B:=h
  have:=dn rfl (by omega)
  show -r <= -s
  omega
theorem Dj {V U:Int} {ng mg:Bool} {f g:Int->Int × Bool} (h:pF V ng f) (k:pF U mg g) (hVU:V<=U) (way:Int):cm (g way).1 (f way).1=false:=by
 obtain⟨A,r,l,eV,zA,RA,hf⟩:=h
 obtain⟨B,s,m,eU,zB,RB,hg⟩:=k
 have kf:=(pF.key (V:=V) (A:=A) (hf way)).1
 have kg:=(pF.key (V:=U) (A:=B) (hg way)).1
 have hA:0<=A:=Int.le_trans (xS r) RA.lo
 have hB:0<=B:=Int.le_trans (xS s) RB.lo
 refine Jy ?_
 rw[kf,kg]
 rw[eV,eU] at hVU
 refine Qx hA hB zB (dJ way ng r l).1 (dJ way mg s m).1 hVU (fun e AB=>?_) (fun e BA=>?_)
 ·subst e;exact Ac RA RB AB
 ·subst e;exact Ac RB RA BA
theorem ML:aN (-9223372036854775808)=0:=by decide
theorem uE {r:Nat} (h:(r:Int)<9218868437227405312):aq (aG true (r:Int))=sg true (vS r):=by
 by_cases h0:r=0
 ·subst h0
  rw[iT]
  show aq (-9223372036854775808)=sg true 0
  unfold aq
  rw[ML,gN,gN,Int.zero_mul]
 ·exact jZ h (fun _=>by omega)
theorem Sz (v:Int):sg false v=v:=rfl
theorem MM {b:Int} (hb:ag b) (hp:ak b=true):∃ (ng:Bool) (r:Nat),(r:Int)=rg b∧(r:Int)<9218868437227405312∧aq b=sg ng (vS r):=by
 obtain⟨r0,r1⟩:=gU hb
 have hlt:rg b<9218868437227405312:=by
  have hne:=vf hp
  have hf:0<=cA b∧cA b<4503599627370496:=by unfold cA;omega
  have hg:0<=bQ b∧bQ b<2048:=by unfold bQ;omega
  omega
 obtain⟨r,hr⟩:∃ r:Nat,(r:Int)=rg b:=⟨(rg b).toNat,Int.toNat_of_nonneg r0⟩
 have hs:b=aG (decide (b<0)) (r:Int):=by
  rw[hr]
  unfold aG rg
  by_cases h:b<0
  ·rw[decide_eq_true h,if_pos rfl,if_pos h];omega
  ·rw[decide_eq_false h,if_neg (by decide),if_neg h]
 refine⟨decide (b<0),r,hr,by rw[hr];exact hlt,?_⟩
 rw[<- hr] at hlt
 cases hd:decide (b<0)
 ·rw[hd] at hs
  rw[hs]
  exact jZ hlt (fun h=>by cases h)
 ·rw[hd] at hs
  rw[hs]
  exact uE hlt
end Go.Proofs.YtjjihmnbdeeedaaGreatDoor
namespace Go.Proofs.YtjjihmnbdeeedaaGreatDoor
open Go Go.Proofs.Tryz Go.RowKit Go.Proofs.YtjjihmnbdeeedaaGreatDoor.M Ieee
theorem mw {ng:Bool} {r:Int} (h0:0<=r) (h1:r<=9218868437227405312):Ieee.double.word ng r.toNat=wd (aG ng r):=by
 unfold Format.word wd aG
 rw[js]
 cases ng
 ·rw[if_neg (by decide),if_neg (by decide)];omega
 ·rw[if_pos rfl,if_pos rfl];omega
theorem yX {b:Int} (hb:ag b) (hp:ak b=true):0<=rg b∧rg b<9218868437227405312:=by
 obtain⟨_,r,hr,hlt,_⟩:=MM hb hp
 omega
theorem lj {b:Int} (hb:ag b) (hp:ak b=true):aq b=sg (decide (b<0)) (vS (rg b).toNat):=by
 obtain⟨h0,h1⟩:=yX hb hp
 obtain⟨r,hr⟩:∃ r:Nat,(r:Int)=rg b:=⟨(rg b).toNat,Int.toNat_of_nonneg h0⟩
 have hs:b=aG (decide (b<0)) (r:Int):=by
  rw[hr]
  unfold aG rg
  by_cases h:b<0
  ·rw[decide_eq_true h,if_pos rfl,if_pos h];omega
  ·rw[decide_eq_false h,if_neg (by decide),if_neg h]
 rw[<- hr] at h1 ⊢
 rw[Int.toNat_natCast]
 cases hd:decide (b<0)
 ·rw[hd] at hs
  rw[hs]
  exact jZ h1 (fun h=>by cases h)
 ·rw[hd] at hs
  rw[hs]
  exact uE h1
theorem dV {b:Int} (hb:ag b) (hp:ak b=true):∃ m u:Nat,Ieee.double.read (wd b)=.number (decide (b<0)) m (-1074+(u:Int))∧aq b=sg (decide (b<0)) ((m:Int)*pw (-1074+(u:Int))):=by
 obtain⟨h0,h1⟩:=yX hb hp
 have hw:((wd b % 9223372036854775808:Nat):Int)=rg b:=pK hb
 have hw2:wd b % 9223372036854775808=(rg b).toNat:=by omega
 obtain⟨m,u,h,hm⟩:=kO Ieee.double (wd b) (by rw[js,oe];omega)
 rw[js,vy,sj hb] at h
 rw[js,hw2] at hm
 refine⟨m,u,h,?_⟩
 have e:vS (rg b).toNat=(m:Int)*pw (-1074+(u:Int)):=by
  unfold vS
  rw[<- hm,gW (by decide),Int.mul_comm (pw (-1074))]
  generalize pw (-1074)=q
  push_cast
  rw[Int.mul_assoc]
 rw[lj hb hp,e]
theorem lv (s:Bool) (m k:Nat) {i base:Int} (h:i=base+(k:Int)) (hb:-4194304<=base):signed s m k*pw base=sg s ((m:Int)*pw i):=by
 rw[un,h,gW hb,Int.mul_comm (pw base),<- Int.mul_assoc]
 have e:((m*2^k:Nat):Int)=(m:Int)*2^k:=by push_cast;rfl
 rw[e]
 generalize (m:Int)*2^k=t
 unfold sg
 cases s
 ·rfl
 ·show -t*pw base=-(t*pw base)
  rw[Int.neg_mul]
theorem xU {t q:Int} (hq:0<q):t*q=sg (decide (t<0)) ((t.natAbs:Int)*q):=by
 by_cases h:t<0
 ·rw[decide_eq_true h]
  show t*q=-((t.natAbs:Int)*q)
  rw[<- Int.neg_mul,show -(t.natAbs:Int)=t by omega]
 ·rw[decide_eq_false h]
  show t*q=(t.natAbs:Int)*q
  rw[show(t.natAbs:Int)=t by omega]
theorem uc {t q:Int} (hq:0<q):t<0↔t*q<0:=by
 constructor
 ·exact fun h=>Int.mul_neg_of_neg_of_pos h hq
 ·intro h
  rcases Int.lt_or_le t 0 with g|g
  ·exact g
  ·exact absurd h (Int.not_lt.2 (Int.mul_nonneg g (Int.le_of_lt hq)))
theorem pG {t q:Int} (hq:0<q):t=0↔t*q=0:=by
 constructor
 ·intro h;rw[h,Int.zero_mul]
 ·intro h
  rcases Int.mul_eq_zero.1 h with g|g
  ·exact g
  ·omega
theorem qS {S t base:Int} (hb:-4194304<=base) (hS:t*pw base=S) (h0:S≠0) :
  ∃ (A:Int) (r0:Nat) (left:Int),S=sg (decide (S<0)) A∧fi A r0 left∧Ieee.double.nearest (decide (t<0)) t.natAbs base=wd (aG (decide (S<0)) (bF 0 (decide (S<0)) r0 left)):=by
 have hq:=bR base
 have ht:t≠0:=fun h=>h0 (by rw[<- hS,h,Int.zero_mul])
 have hd:decide (t<0)=decide (S<0):=by rw[<- hS];congr 1;exact propext (uc hq)
 obtain⟨r0,left,hR,hE⟩:=sT (decide (t<0)) (mag:=t.natAbs) (place:=base) (by omega) hb
 refine⟨_,r0,left,?_,hR,?_⟩
 ·rw[<- hd,<- hS];exact xU hq
 ·rw[hE,hd]
  obtain⟨g1,g2⟩:=dJ 0 (decide (S<0)) r0 left
  exact mw g1 g2
theorem RK {a b:Int} (ha:ag a) (hb:ag b) (pa:ak a=true) (pb:ak b=true) :
  (aq a+aq b=0->Ieee.double.add (wd a) (wd b)=some (wd (aG (decide (a<0)&&decide (b<0)) 0))) ∧
  (aq a+aq b≠0->∃ (A:Int) (r0:Nat) (left:Int),aq a+aq b=sg (decide (aq a+aq b<0)) A∧fi A r0 left∧Ieee.double.add (wd a) (wd b)=some (wd (aG (decide (aq a+aq b<0)) (bF 0 (decide (aq a+aq b<0)) r0 left)))):=by
 obtain⟨m,u,h1,v1⟩:=dV ha pa
 obtain⟨n,v,h2,v2⟩:=dV hb pb
 have hadd:Ieee.double.add (wd a) (wd b)=some (Ieee.double.nearest (if signed (decide (a<0)) m (u-min u v)+signed (decide (b<0)) n (v-min u v)=0 then decide (a<0)&&decide (b<0) else decide (signed (decide (a<0)) m (u-min u v)+signed (decide (b<0)) n (v-min u v)<0)) (signed (decide (a<0)) m (u-min u v)+signed (decide (b<0)) n (v-min u v)).natAbs (-1074+((min u v:Nat):Int))):=by
  unfold Format.add
  rw[h1,h2]
  unfold Datum.sum
  dsimp only
  have hmin:min (-1074+(u:Int)) (-1074+(v:Int))=-1074+((min u v:Nat):Int):=by omega
  have e1:(-1074+(u:Int)-(-1074+((min u v:Nat):Int))).toNat=u-min u v:=by omega
  have e2:(-1074+(v:Int)-(-1074+((min u v:Nat):Int))).toNat=v-min u v:=by omega
  rw[hmin,e1,e2]
  rfl
 have s1:=lv (decide (a<0)) m (u-min u v) (i:=-1074+(u:Int)) (base:=-1074+((min u v:Nat):Int)) (by omega) (by omega)
 have s2:=lv (decide (b<0)) n (v-min u v) (i:=-1074+(v:Int)) (base:=-1074+((min u v:Nat):Int)) (by omega) (by omega)
 rw[<- v1] at s1
 rw[<- v2] at s2
 have hB:-4194304 <= -1074+((min u v:Nat):Int):=by omega
 generalize -1074+((min u v:Nat):Int)=base at *
 have hq:=bR base
 have hS:(signed (decide (a<0)) m (u-min u v)+signed (decide (b<0)) n (v-min u v))*pw base=aq a+aq b:=by rw[Int.add_mul,s1,s2]
 generalize signed (decide (a<0)) m (u-min u v)+signed (decide (b<0)) n (v-min u v)=t at *
 clear s1 s2 v1 v2 h1 h2
 refine⟨fun h=>?_,fun h=>?_⟩
 ·have ht:t=0:=(pG hq).2 (hS.trans h)
  rw[hadd,ht,if_pos rfl]
  unfold Format.nearest
  rw[if_pos (show Int.natAbs 0=0 from rfl)]
  have:=mw (ng:=decide (a<0)&&decide (b<0)) (r:=0) (by decide) (by decide)
  rw[<- this]
  rfl
 ·have ht:t≠0:=fun e=>h (by rw[<- hS,e,Int.zero_mul])
  obtain⟨A,r0,left,q1,q2,q3⟩:=qS hB hS h
  refine⟨A,r0,left,q1,q2,?_⟩
  rw[hadd,if_neg ht,q3]
theorem sU {g h:Bool} {x y p q r Z:Int} (e:p*q=r*Z):sg (g != h) (x*y*r)*Z=sg g (x*p)*sg h (y*q):=by
 rw[FE,pV]
 congr 1
 rw[Int.mul_assoc (x*y),<- e,Int.mul_assoc x y,Int.mul_assoc x p]
 congr 1
 rw[<- Int.mul_assoc,<- Int.mul_assoc,Int.mul_comm y p]
theorem vz (g h:Bool):(g ^^ h)=(g != h):=by cases g<;>cases h<;>rfl
theorem RL {a b:Int} (ha:ag a) (hb:ag b) (pa:ak a=true) (pb:ak b=true) :
  ∃ D:Int,0<=D∧sg (decide (a<0) != decide (b<0)) D*2^4194304=aq a*aq b ∧
   (D=0->Ieee.double.mul (wd a) (wd b)=some (wd (aG (decide (a<0) != decide (b<0)) 0))) ∧
   (D≠0->∃ (r0:Nat) (left:Int),fi D r0 left∧Ieee.double.mul (wd a) (wd b)=some (wd (aG (decide (a<0) != decide (b<0)) (bF 0 (decide (a<0) != decide (b<0)) r0 left)))):=by
 obtain⟨m,u,h1,v1⟩:=dV ha pa
 obtain⟨n,v,h2,v2⟩:=dV hb pb
 have hmul:Ieee.double.mul (wd a) (wd b)=some (Ieee.double.nearest (decide (a<0) != decide (b<0)) (m*n) (-1074+(u:Int)+(-1074+(v:Int)))):=by
  unfold Format.mul
  rw[h1,h2]
  unfold Datum.product
  dsimp only
  rw[vz]
  rfl
 have hpm:=oh (a:=-1074+(u:Int)) (b:=-1074+(v:Int)) (by omega) (by omega)
 have hB:-4194304 <= -1074+(u:Int)+(-1074+(v:Int)):=by omega
 have hq:=bR (-1074+(u:Int)+(-1074+(v:Int)))
 have hC:=sU (g:=decide (a<0)) (h:=decide (b<0)) (x:=(m:Int)) (y:=(n:Int)) hpm
 rw[<- v1,<- v2] at hC
 generalize -1074+(u:Int)+(-1074+(v:Int))=base at *
 have hcast:((m*n:Nat):Int)=(m:Int)*(n:Int):=by push_cast;rfl
 refine⟨(m:Int)*(n:Int)*pw base,Int.mul_nonneg (by rw[<- hcast];omega) (Int.le_of_lt hq),hC,fun h=>?_,fun h=>?_⟩
 ·have h0:m*n=0:=by
   rcases Int.mul_eq_zero.1 h with g|g
   ·rw[<- hcast] at g;omega
   ·omega
  rw[hmul,h0]
  unfold Format.nearest
  rw[if_pos rfl]
  have:=mw (ng:=decide (a<0) != decide (b<0)) (r:=0) (by decide) (by decide)
  rw[<- this]
  rfl
 ·have h0:m*n≠0:=fun e=>h (by rw[<- hcast,e];simp)
  obtain⟨r0,left,hR,hE⟩:=sT (decide (a<0) != decide (b<0)) (place:=base) h0 hB
  rw[hcast] at hR
  refine⟨r0,left,hR,?_⟩
  rw[hmul,hE]
  obtain⟨g1,g2⟩:=dJ 0 (decide (a<0) != decide (b<0)) r0 left
  rw[mw g1 g2]
def Ad (z:Nat):Prop:=z<18446744073709551616∧9218868437227405312<z % 9223372036854775808
theorem Dk (x y t:Nat):Ad ((Question.nanBits .f64 x y).cut t):=by
 have h:(Question.nanBits .f64 x y).cut t=(t % 2)*2^63+0x7ff0000000000000+1+(t/2) % (2^52-1):=rfl
 have e63:(2:Nat)^63=9223372036854775808:=by decide
 have e52:(2:Nat)^52-1=4503599627370495:=by decide
 rw[h,e63,e52]
 have hc:=Nat.mod_lt (t/2) (show 0<4503599627370495 by decide)
 have hm:t % 2=0∨t % 2=1:=by omega
 generalize t/2 % 4503599627370495=c at *
 unfold Ad
 rcases hm with h2|h2
 ·rw[h2];omega
 ·rw[h2];omega
theorem kD {P:Program} (op:BinOp) (ho:op=.add∨op=.sub∨op=.mul∨op=.quo) (t:TypeId) (x y:Nat) (w:World) :
  ∃ z w',(binOp op t (G7 x) (G7 y)).run P w=.ok (G7 z) w'∧((floatBits op .f64 x y=some z∧w'=w)∨(floatBits op .f64 x y=none∧Ad z∧w'=w.drew)):=by
 cases h:floatBits op .f64 x y with
 | some r=>exact⟨r,w,run_float_arith w op t .f64 x y r h,.inl ⟨rfl,rfl⟩⟩
 | none=>
  refine⟨_,w.drew,?_,.inr ⟨rfl,Dk x y (w.tape w.drawn (.nanBits .f64 x y)),rfl⟩⟩
  unfold floatBits at h
  rcases ho with rfl|rfl|rfl|rfl<;>simp only at h<;>simp[binOp,Op.floatArith,h]<;>exact fun hf=>absurd (show false=true from hf) (by decide)
def FW (p:Int) (x:Nat):Prop:=(aH p≠4∧ag p∧x=wd p)∨(p=9221120237041090561∧Ad x)
def sW (x:Nat):Int:=if x<9223372036854775808 then (x:Int) else (x:Int)-18446744073709551616
theorem MN {p:Int} (h:ag p):sW (wd p)=p:=by
 unfold ag at h
 unfold sW wd
 split<;>omega
def bT (S:Int):Int:=sW (Ieee.double.nearest (decide (S<0)) S.natAbs (-4194304))
theorem Ae:pw (-4194304)=1:=by unfold pw;rfl
theorem jA {ng:Bool} {r:Int} (h0:0<=r) (h1:r<=9218868437227405312):ag (aG ng r)∧aH (aG ng r)≠4:=by
 have hr:ag (aG ng r):=by unfold ag aG;cases ng<;>simp<;>omega
 refine⟨hr,fun q=>?_⟩
 have:=(eZ hr).1.1 q
 unfold rg aG at this
 cases ng
 ·simp only[Bool.false_eq_true,if_false] at this;split at this<;>omega
 ·simp only[if_true] at this;split at this<;>omega
theorem iA {S:Int} (h:S≠0):∃ (A:Int) (r0:Nat) (left:Int),S=sg (decide (S<0)) A∧fi A r0 left∧bT S=aG (decide (S<0)) (bF 0 (decide (S<0)) r0 left):=by
 obtain⟨A,r0,left,h1,h2,h3⟩:=qS (S:=S) (t:=S) (base:=-4194304) (by decide) (by rw[Ae,Int.mul_one]) h
 refine⟨A,r0,left,h1,h2,?_⟩
 unfold bT
 rw[h3]
 obtain⟨g1,g2⟩:=dJ 0 (decide (S<0)) r0 left
 exact MN (jA g1 g2).1
theorem lR {g:Bool} {A B:Int} (h:sg g A=sg g B):A=B:=by
 cases g
 ·exact h
 ·exact Int.neg_inj.1 h
def aF (p q:Int):Int :=
 if aH p=4∨aH q=4 then 9221120237041090561
 else if rg p=9218868437227405312 then (if rg q=9218868437227405312∧decide (p<0)≠decide (q<0) then 9221120237041090561 else p)
 else if rg q=9218868437227405312 then q
 else if aq p+aq q=0 then aG (decide (p<0)&&decide (q<0)) 0 else bT (aq p+aq q)
theorem bM {p:Int} (hp:ag p):ak p=true↔rg p<9218868437227405312:=by
 obtain⟨r0,r1⟩:=gU hp
 have hf:0<=cA p∧cA p<4503599627370496:=by unfold cA;omega
 have hg:0<=bQ p∧bQ p<2048:=by unfold bQ;omega
 unfold ak
 simp
 omega
theorem JA {p q:Int} (hp:ag p) (hq:ag q) (pp:ak p=true) (pq:ak q=true):Ieee.double.add (wd p) (wd q)=some (wd (if aq p+aq q=0 then aG (decide (p<0)&&decide (q<0)) 0 else bT (aq p+aq q))):=by
 obtain⟨h0,h1⟩:=RK hp hq pp pq
 by_cases hS:aq p+aq q=0
 ·rw[if_pos hS];exact h0 hS
 ·rw[if_neg hS]
  obtain⟨A,r0,left,a1,a2,a3⟩:=h1 hS
  obtain⟨B,s0,k,b1,b2,b3⟩:=iA hS
  have hAB:=lR (a1.symm.trans b1)
  subst hAB
  obtain⟨h2,h3⟩:=a2.unique b2
  subst h2 h3
  rw[a3,b3]
theorem fv {p:Int} (hp:ag p) (h:rg p=9218868437227405312):Ieee.double.read (wd p)=.infinity (decide (p<0)):=by
 have hw:((wd p % 9223372036854775808:Nat):Int)=rg p:=pK hp
 have:=qq Ieee.double Fy (wd p) (by rw[js,oe];omega)
 rwa [js,sj hp] at this
theorem mI {p:Int} (hp:ag p) (h:rg p=9218868437227405312):Ieee.double.write (.infinity (decide (p<0)))=wd p:=by
 unfold Format.write
 dsimp only
 rw[oe]
 have:=mw (ng:=decide (p<0)) (r:=9218868437227405312) (by decide) (by decide)
 have e:aG (decide (p<0)) 9218868437227405312=p:=by
  unfold rg at h
  unfold aG
  by_cases h0:p<0
  ·rw[if_pos h0] at h;rw[decide_eq_true h0,if_pos rfl];omega
  ·rw[if_neg h0] at h;rw[decide_eq_false h0,if_neg (by decide)];omega
 rw[e] at this
 exact this
theorem ke:aH 9221120237041090561=4:=by decide
theorem FW.nan {x:Nat} (h:Ad x):FW 9221120237041090561 x:=.inr ⟨rfl,h⟩
theorem FW.pat {p:Int} (h:aH p≠4) (hp:ag p):FW p (wd p):=.inl ⟨h,hp,rfl⟩
theorem FW.read_nan {p:Int} {x:Nat} (h:FW p x) (h4:aH p=4):∃ s t,Ieee.double.read x=.nan s t:=by
 rcases h with⟨h,_⟩|⟨_,h⟩
 ·exact absurd h4 h
 ·exact M.zi Ieee.double Fy x (by rw[js,oe];exact h.2)
theorem FW.of {p:Int} {x:Nat} (h:FW p x) (h4:aH p≠4):ag p∧x=wd p∧0<=rg p∧rg p<=9218868437227405312:=by
 rcases h with⟨_,h1,h2⟩|⟨h,_⟩
 ·obtain⟨r0,_⟩:=gU h1
  refine⟨h1,h2,r0,?_⟩
  rcases Int.lt_or_le 9218868437227405312 (rg p) with g|g
  ·exact absurd ((eZ h1).1.2 g) h4
  ·exact g
 ·rw[h] at h4;exact absurd ke h4
theorem gh {S:Int} (h:S≠0):ag (bT S)∧aH (bT S)≠4:=by
 obtain⟨A,r0,left,_,_,e⟩:=iA h
 rw[e]
 obtain⟨g1,g2⟩:=dJ 0 (decide (S<0)) r0 left
 exact jA g1 g2
theorem Af {p q:Int} {x y:Nat} (hx:FW p x) (hy:FW q y):(∃ z,Ieee.double.add x y=some z∧FW (aF p q) z)∨(Ieee.double.add x y=none∧aF p q=9221120237041090561):=by
 by_cases h4:aH p=4∨aH q=4
 ·right
  refine⟨?_,by unfold aF;rw[if_pos h4]⟩
  unfold Format.add
  rcases h4 with h|h
  ·obtain⟨s,t,e⟩:=hx.read_nan h
   rw[e]
   rfl
  ·obtain⟨s,t,e⟩:=hy.read_nan h
   rw[e]
   cases Ieee.double.read x<;>rfl
 ·have h4p:aH p≠4:=fun h=>h4 (.inl h)
  have h4q:aH q≠4:=fun h=>h4 (.inr h)
  obtain⟨rp,rfl,p0,p1⟩:=hx.of h4p
  obtain⟨rq,rfl,q0,q1⟩:=hy.of h4q
  unfold aF
  rw[if_neg h4]
  by_cases ip:rg p=9218868437227405312
  ·rw[if_pos ip]
   have ep:=fv rp ip
   by_cases iq:rg q=9218868437227405312
   ·have eq:=fv rq iq
    by_cases hs:decide (p<0)=decide (q<0)
    ·left
     refine⟨wd p,?_,?_⟩
     ·unfold Format.add
      rw[ep,eq]
      unfold Datum.sum
      dsimp only
      rw[if_pos hs]
      show some (Ieee.double.write (.infinity (decide (p<0))))=_
      rw[mI rp ip]
     ·rw[if_neg (fun h=>h.2 hs)]
      exact FW.pat h4p rp
    ·right
     refine⟨?_,by rw[if_pos ⟨iq,hs⟩]⟩
     unfold Format.add
     rw[ep,eq]
     unfold Datum.sum
     dsimp only
     rw[if_neg hs]
     rfl
   ·left
    obtain⟨m,u,eq,_⟩:=dV rq ((bM rq).2 (by omega))
    refine⟨wd p,?_,?_⟩
    ·unfold Format.add
     rw[ep,eq]
     show some (Ieee.double.write (.infinity (decide (p<0))))=_
     rw[mI rp ip]
    ·rw[if_neg (fun h=>iq h.1)]
     exact FW.pat h4p rp
  ·rw[if_neg ip]
   have pp:=(bM rp).2 (by omega)
   by_cases iq:rg q=9218868437227405312
   ·left
    rw[if_pos iq]
    have eq:=fv rq iq
    obtain⟨m,u,ep,_⟩:=dV rp pp
    refine⟨wd q,?_,FW.pat h4q rq⟩
    unfold Format.add
    rw[ep,eq]
    show some (Ieee.double.write (.infinity (decide (q<0))))=_
    rw[mI rq iq]
   ·left
    rw[if_neg iq]
    refine⟨_,JA rp rq pp ((bM rq).2 (by omega)),?_⟩
    by_cases hS:aq p+aq q=0
    ·rw[if_pos hS]
     obtain⟨g1,g2⟩:=jA (ng:=decide (p<0)&&decide (q<0)) (r:=0) (by decide) (by decide)
     exact FW.pat g2 g1
    ·rw[if_neg hS]
     exact FW.pat (gh hS).2 (gh hS).1
theorem uF {P:Program} (t:TypeId) {p q:Int} {x y:Nat} (hx:FW p x) (hy:FW q y) (w:World) :
  ∃ z w',(binOp .add t (G7 x) (G7 y)).run P w=.ok (G7 z) w'∧FW (aF p q) z∧(w'=w∨w'=w.drew):=by
 obtain⟨z,w',h,hz⟩:=kD (P:=P) .add (.inl rfl) t x y w
 refine⟨z,w',h,?_⟩
 have hf:floatBits .add .f64 x y=Ieee.double.add x y:=rfl
 rw[hf] at hz
 rcases Af hx hy with⟨z',e1,e2⟩|⟨e1,e2⟩
 ·rcases hz with⟨h1,h2⟩|⟨h1,_⟩
  ·rw[e1] at h1;cases h1;exact⟨e2,.inl h2⟩
  ·rw[e1] at h1;cases h1
 ·rcases hz with⟨h1,_⟩|⟨_,h2,h3⟩
  ·rw[e1] at h1;cases h1
  ·rw[e2];exact⟨FW.nan h2,.inr h3⟩
theorem Gw {x y:Nat} (h1:x % Ieee.double.signWeight=y % Ieee.double.signWeight) (h2:(x/Ieee.double.signWeight % 2 == 1)=!(y/Ieee.double.signWeight % 2 == 1)):Ieee.double.read x=(Ieee.double.read y).opposite:=by
 unfold Format.read
 dsimp only
 rw[h1,h2]
 split
 ·rfl
 ·split
  ·rfl
  ·split
   ·rfl
   ·rfl
theorem JB {q:Int} (hq:ag q) (h4:aH q≠4):Ieee.double.read (wd (neg q))=(Ieee.double.read (wd q)).opposite:=by
 have hn:neg q=if q<0 then q+9223372036854775808 else q-9223372036854775808:=by unfold neg;rw[if_neg h4]
 refine Gw ?_ ?_
 ·rw[js,hn]
  unfold ag at hq
  unfold wd
  split<;>omega
 ·rw[js,sj (kt hq),sj hq,hn]
  unfold ag at hq
  by_cases h:q<0
  ·rw[if_pos h,decide_eq_false (p:=q+9223372036854775808<0) (by omega),decide_eq_true h];rfl
  ·rw[if_neg h,decide_eq_true (p:=q-9223372036854775808<0) (by omega),decide_eq_false h];rfl
theorem Dl {q:Int} (h:aH q=4):neg q=9221120237041090561:=by unfold neg;rw[if_pos h]
theorem Gx {p q:Int} {x y:Nat} (hx:FW p x) (hy:FW q y):(∃ z,Ieee.double.sub x y=some z∧FW (aF p (neg q)) z)∨(Ieee.double.sub x y=none∧aF p (neg q)=9221120237041090561):=by
 by_cases h4:aH q=4
 ·right
  refine⟨?_,by unfold aF;rw[Dl h4,if_pos (.inr ke)]⟩
  obtain⟨s,t,e⟩:=hy.read_nan h4
  unfold Format.sub
  rw[e]
  cases Ieee.double.read x<;>rfl
 ·obtain⟨rq,rfl,_,_⟩:=hy.of h4
  have hs:Ieee.double.sub x (wd q)=Ieee.double.add x (wd (neg q)):=by
   unfold Format.sub Format.add
   rw[JB rq h4]
  rw[hs]
  exact Af hx (FW.pat (MJ rq h4) (kt rq))
theorem dK {P:Program} (t:TypeId) {p q:Int} {x y:Nat} (hx:FW p x) (hy:FW q y) (w:World) :
  ∃ z w',(binOp .sub t (G7 x) (G7 y)).run P w=.ok (G7 z) w'∧FW (aF p (neg q)) z∧(w'=w∨w'=w.drew):=by
 obtain⟨z,w',h,hz⟩:=kD (P:=P) .sub (.inr (.inl rfl)) t x y w
 refine⟨z,w',h,?_⟩
 have hf:floatBits .sub .f64 x y=Ieee.double.sub x y:=rfl
 rw[hf] at hz
 rcases Gx hx hy with⟨z',e1,e2⟩|⟨e1,e2⟩
 ·rcases hz with⟨h1,h2⟩|⟨h1,_⟩
  ·rw[e1] at h1;cases h1;exact⟨e2,.inl h2⟩
  ·rw[e1] at h1;cases h1
 ·rcases hz with⟨h1,_⟩|⟨_,h2,h3⟩
  ·rw[e1] at h1;cases h1
  ·rw[e2];exact⟨FW.nan h2,.inr h3⟩
def bN (p q:Int):Bool:=decide (p<0) != decide (q<0)
def fV (p q:Int):Int:=sg (bN p q) (aq p*aq q/2^4194304)
def aC (p q:Int):Int :=
 if aH p=4∨aH q=4 then 9221120237041090561
 else if rg p=9218868437227405312∨rg q=9218868437227405312 then (if rg p=0∨rg q=0 then 9221120237041090561 else aG (bN p q) 9218868437227405312)
 else if fV p q=0 then aG (bN p q) 0 else bT (sg (bN p q) (fV p q))
theorem uG {g:Bool} {D Z C:Int} (hZ:0<Z) (h:sg g D*Z=C):sg g (C/Z)=D:=by
 rw[<- h,Int.mul_ediv_cancel _ (Int.ne_of_gt hZ)]
 cases g
 ·rfl
 ·exact Int.neg_neg D
theorem JC {g:Bool} {D:Int} {r0:Nat} {left:Int} (h0:0<D) (hR:fi D r0 left):bT (sg g D)=aG g (bF 0 g r0 left):=by
 have hd:decide (sg g D<0)=g:=by
  cases g
  ·exact decide_eq_false (by show ¬ D<0;omega)
  ·exact decide_eq_true (by show -D<0;omega)
 have hn:sg g D≠0:=by
  cases g
  ·show D≠0;omega
  ·show -D≠0;omega
 obtain⟨A,s0,k,e1,e2,e3⟩:=iA hn
 rw[hd] at e1 e3
 have:=lR e1
 subst this
 obtain⟨h1,h2⟩:=hR.unique e2
 subst h1 h2
 exact e3
theorem JD {p q:Int} (hp:ag p) (hq:ag q) (pp:ak p=true) (pq:ak q=true):Ieee.double.mul (wd p) (wd q)=some (wd (if fV p q=0 then aG (bN p q) 0 else bT (sg (bN p q) (fV p q)))):=by
 obtain⟨D,d0,d1,d2,d3⟩:=RL hp hq pp pq
 have hf:fV p q=D:=uG (aR 4194304) d1
 rw[hf]
 by_cases h:D=0
 ·rw[if_pos h];exact d2 h
 ·rw[if_neg h]
  obtain⟨r0,left,hR,hE⟩:=d3 h
  rw[hE,JC (by omega) hR]
  rfl
end Go.Proofs.YtjjihmnbdeeedaaGreatDoor
