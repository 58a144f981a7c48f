/- Parts of the proof. -/
import Derived.Test.YtjjihmnbdeeedaaGreatDoorCe7
import Derived.Test.YtjjihmnbdeeedaaGreatDoorCe5
import Derived.Test.YtjjihmnbdeeedaaGreatDoorCe6
import Derived.Test.YtjjihmnbdeeedaaGreatDoorCe1
import Derived.Laws.FloatArith
set_option linter.unusedVariables false
set_option linter.unusedSimpArgs false
namespace Go.Proofs.YtjjihmnbdeeedaaGreatDoor
open Go Go.ChangeShapes Go.WideShapes Go.ChangeAt Go.RowKit Go.Proofs.YtjjihmnbdeeedaaGreatDoor.M
end Go.Proofs.YtjjihmnbdeeedaaGreatDoor
namespace Go.Proofs.YtjjihmnbdeeedaaGreatDoor
open Go Go.RowKit Go.Proofs.YtjjihmnbdeeedaaGreatDoor.M
theorem DFit.no {w w':World} {V er:Int} {v:Value} (h:DFit w w' V v er) (no:¬ Dok V):er=2∧v=zeroV∧Below w.heap.size w w':=by
  rcases h.2 with ⟨ok,_⟩ | ⟨_,h1,h2⟩
  . exact absurd ok no
  . exact ⟨h1,h2,h.1⟩
end Go.Proofs.YtjjihmnbdeeedaaGreatDoor
namespace Go.Proofs.YtjjihmnbdeeedaaGreatDoor
open Go Go.ChangeShapes Go.WideShapes Go.ChangeAt Go.RowKit Go.Proofs.YtjjihmnbdeeedaaGreatDoor.M
structure Hold4 (w:World):Prop where
  lay:Lay64 w
  tab:Tab w
  env:Env w
theorem Hold4.keeps {w w':World} (h:Hold4 w) (hb:Below w.heap.size w w'):Hold4 w':=⟨h.lay.keeps hb,h.tab.keeps hb,h.env.keeps hb⟩
def To4 (w:World) (x:Value) (f:Int->Int × Bool):Prop:=∀ (way:Int) (W:World),0<=way∧way<=3->Below w.heap.size w W->Calls Tryz.prog 198 #[x,.int .i64 way] W fun e w'=>e=.returned (.tuple #[.int .i64 (f way).1,.bool (f way).2,.int .i64 0])∧Below W.heap.size W w'
theorem To4.keeps {w w':World} {x:Value} {f:Int->Int × Bool} (h:To4 w x f) (hb:Below w.heap.size w w'):To4 w' x f:=fun way W hw hB=>h way W hw (bel_trans hb hB)
theorem To4.at {w:World} {x:Value} {f:Int->Int × Bool} (h:To4 w x f) (way:Int) (hw:0<=way∧way<=3):Calls Tryz.prog 198 #[x,.int .i64 way] w fun e w'=>e=.returned (.tuple #[.int .i64 (f way).1,.bool (f way).2,.int .i64 0])∧Below w.heap.size w w':=h way w hw (bel_refl w)
theorem rTo_range (way:Int) (ng:Bool) (r0:Nat) (left:Int):0<=rTo way ng r0 left∧rTo way ng r0 left<=9218868437227405312:=by
  unfold rTo
  split
  . split <;> omega
  . unfold bRung
    repeat' split
    all_goals decide
end Go.Proofs.YtjjihmnbdeeedaaGreatDoor
namespace Go.Proofs.YtjjihmnbdeeedaaGreatDoor
open Go Go.RowKit Go.Proofs.YtjjihmnbdeeedaaGreatDoor.M
def RdOf (V:Int) (ng:Bool) (f:Int->Int × Bool):Prop:=∃ (A:Int) (r0:Nat) (left:Int),V=sg ng A∧(ng=true->0<A)∧Rung A r0 left∧∀ way,f way=(patS (ng && decide (0<rTo way ng r0 left)) (rTo way ng r0 left),decide (left≠0) || decide (9218868437227405312<=(r0:Int)))
theorem ord_neg_iff {a b:Int}:ord a b<0 ↔ a<b:=by
  rcases Int.lt_trichotomy a b with h | h | h
  . rw [ord_lt h]; exact ⟨fun _=>h,fun _=>by decide⟩
  . rw [ord_eq h]; exact ⟨fun q=>absurd q (by decide),fun q=>by omega⟩
  . rw [ord_gt h]; exact ⟨fun q=>absurd q (by decide),fun q=>by omega⟩
theorem ord_pos_iff {a b:Int}:0<ord a b ↔ b<a:=by
  rcases Int.lt_trichotomy a b with h | h | h
  . rw [ord_lt h]; exact ⟨fun q=>absurd q (by decide),fun q=>by omega⟩
  . rw [ord_eq h]; exact ⟨fun q=>absurd q (by decide),fun q=>by omega⟩
  . rw [ord_gt h]; exact ⟨fun _=>h,fun _=>by decide⟩
theorem ord_zero_iff {a b:Int}:ord a b=0 ↔ a=b:=by
  rcases Int.lt_trichotomy a b with h | h | h
  . rw [ord_lt h]; exact ⟨fun q=>absurd q (by decide),fun q=>by omega⟩
  . rw [ord_eq h]; exact ⟨fun _=>h,fun _=>rfl⟩
  . rw [ord_gt h]; exact ⟨fun q=>absurd q (by decide),fun q=>by omega⟩
theorem near_pos {A a b left:Int} (l1:left=1 ↔ a<A∧2*A<a+b) (l2:left=2 ↔ 2*A=a+b) (l3:left=3 ↔ a+b<2*A) (lo:a<A) :
    (ord (A-a) (b-A)<0->left=1)∧(0<ord (A-a) (b-A)->left=3)∧(ord (A-a) (b-A)=0->left=2) :=
  ⟨fun h=>l1.2 ⟨lo,by have:=ord_neg_iff.1 h; omega⟩,fun h=>l3.2 (by have:=ord_pos_iff.1 h; omega),fun h=>l2.2 (by have:=ord_zero_iff.1 h; omega)⟩
theorem near_neg {A a b left:Int} (l1:left=1 ↔ a<A∧2*A<a+b) (l2:left=2 ↔ 2*A=a+b) (l3:left=3 ↔ a+b<2*A) (lo:a<A) :
    (ord (-A - -b) (-a - -A)<0->left=3)∧(0<ord (-A - -b) (-a - -A)->left=1)∧(ord (-A - -b) (-a - -A)=0->left=2) :=
  ⟨fun h=>l3.2 (by have:=ord_neg_iff.1 h; omega),fun h=>l1.2 ⟨lo,by have:=ord_pos_iff.1 h; omega⟩,fun h=>l2.2 (by have:=ord_zero_iff.1 h; omega)⟩
theorem near_posS {A a b left:Int} (l1:left=1 ↔ a<A∧2*A<a+b) (l2:left=2 ↔ 2*A=a+b) (l3:left=3 ↔ a+b<2*A) (lo:a<A) :
    (ord (sg false A-sg false a) (sg false b-sg false A)<0->left=1)∧(0<ord (sg false A-sg false a) (sg false b-sg false A)->left=3)∧(ord (sg false A-sg false a) (sg false b-sg false A)=0->left=2):=near_pos l1 l2 l3 lo
theorem near_negS {A a b left:Int} (l1:left=1 ↔ a<A∧2*A<a+b) (l2:left=2 ↔ 2*A=a+b) (l3:left=3 ↔ a+b<2*A) (lo:a<A) :
    (ord (sg true A-sg true b) (sg true a-sg true A)<0->left=3)∧(0<ord (sg true A-sg true b) (sg true a-sg true A)->left=1)∧(ord (sg true A-sg true b) (sg true a-sg true A)=0->left=2):=near_neg l1 l2 l3 lo
theorem rTo0_1 {ng:Bool} {r0:Nat} (h:(r0:Int)<9218868437227405312):rTo 0 ng r0 1=(r0:Int):=by
  unfold rTo
  rw [if_pos h]
  simp [rUp]
theorem rTo0_3 {ng:Bool} {r0:Nat} (h:(r0:Int)<9218868437227405312):rTo 0 ng r0 3=((r0+1:Nat):Int):=by
  unfold rTo
  rw [if_pos h]
  simp [rUp]
theorem rTo0_2 {ng:Bool} {r0:Nat} (h:(r0:Int)<9218868437227405312):rTo 0 ng r0 2 % 2=0:=by
  unfold rTo
  rw [if_pos h]
  by_cases hp:r0 % 2=1
  . simp [rUp,hp]; omega
  . simp [rUp,hp]; omega
theorem patS_even {b:Bool} {r:Int} (h:r % 2=0):patS b r % 2=0:=by
  unfold patS
  cases b
  . exact h
  . show (r-9223372036854775808) % 2=0; omega
theorem and_pos {ng:Bool} {r:Int} (h:(ng && decide (0<r))=true):0<r:=by
  cases ng
  . cases h
  . rw [Bool.true_and] at h; exact of_decide_eq_true h
theorem pat_fin {ng:Bool} {r:Int} (h0:0<=r) (h1:r<=9218868437227405312) (h:pok (patS (ng && decide (0<r)) r)=true):r<9218868437227405312:=by
  rw [patS_pok h0 h1 and_pos] at h
  exact of_decide_eq_true h
theorem patV_rung {ng:Bool} {r:Nat} (h:(r:Int)<9218868437227405312):patV (patS (ng && decide ((0:Int)<(r:Int))) (r:Int))=sg ng (vS r):=by
  rw [patV_patS h (fun q=>by have:=and_pos q; omega)]
  by_cases h0:r=0
  . subst h0
    rw [vS_zero]
    simp [sg]
  . have e:(ng && decide ((0:Int)<(r:Int)))=ng:=by rw [decide_eq_true (by omega),Bool.and_true]
    rw [e]
structure Nea (V:Int) (f:Int->Int × Bool):Prop where
  lo:ord (V-patV (f 1).1) (patV (f 2).1-V)<0->(f 0).1=(f 1).1
  hi:0<ord (V-patV (f 1).1) (patV (f 2).1-V)->(f 0).1=(f 2).1
  ev:ord (V-patV (f 1).1) (patV (f 2).1-V)=0->(f 0).1 % 2=0
theorem Nea.of {V:Int} {f:Int->Int × Bool} {d u n p q:Int} {o:Bool} (f1:f 1=(d,o)) (f2:f 2=(u,o)) (f0:f 0=(n,o)) (hd:patV d=p) (hu:patV u=q)
    (lo:ord (V-p) (q-V)<0->n=d) (hi:0<ord (V-p) (q-V)->n=u) (ev:ord (V-p) (q-V)=0->n % 2=0):Nea V f:=by
  subst hd hu
  exact ⟨by rw [f1,f2,f0]; exact lo,by rw [f1,f2,f0]; exact hi,by rw [f1,f2,f0]; exact ev⟩
theorem nearest {V:Int} {ng:Bool} {f:Int->Int × Bool} (h:RdOf V ng f) (o:(f 0).2=true) (pd:pok (f 1).1=true) (pu:pok (f 2).1=true):Nea V f:=by
  obtain ⟨A,r0,left,hV,hA,hR,hf⟩:=h
  have f1:=hf 1
  have f2:=hf 2
  have f0:=hf 0
  rw [f1] at pd
  rw [f2] at pu
  rw [f0] at o
  have g1:=rTo_range 1 ng r0 left
  have g2:=rTo_range 2 ng r0 left
  have q1:=pat_fin g1.1 g1.2 pd
  have q2:=pat_fin g2.1 g2.2 pu
  clear pd pu hf g1 g2
  by_cases hr:(r0:Int)<9218868437227405312
  . obtain ⟨t1,t2,t3,t0⟩:=rTo_fin (ng:=ng) (left:=left) hr
    have hl:left≠0:=by
      have o':(decide (left≠0) || decide (9218868437227405312<=(r0:Int)))=true:=o
      rw [decide_eq_false (p:=9218868437227405312<=(r0:Int)) (Int.not_le.2 hr),Bool.or_false] at o'
      exact of_decide_eq_true o'
    have hAl:vS r0<A:=by
      rcases Int.lt_or_eq_of_le hR.lo with h | h
      . exact h
      . exact absurd (hR.l0.2 h.symm) hl
    have l1:=hR.l1
    have l2:=hR.l2
    have l3:=hR.l3
    clear hR t3 t0 hA
    have V0:=patV_rung (ng:=ng) hr
    cases ng
    . have e1:rTo 1 false r0 left=(r0:Int):=by rw [t1,if_neg (fun h=>by cases h.2)]
      have e2:rTo 2 false r0 left=((r0+1:Nat):Int):=by rw [t2,if_pos ⟨hl,rfl⟩]
      rw [e1] at f1
      rw [e2] at f2 q2
      have V1:=patV_rung (ng:=false) q2
      obtain ⟨n1,n2,n3⟩:=near_posS l1 l2 l3 hAl
      refine Nea.of f1 f2 f0 V0 V1 ?_ ?_ ?_
      . intro h
        rw [hV] at h
        have:=n1 h
        subst this
        rw [rTo0_1 hr]
      . intro h
        rw [hV] at h
        have:=n2 h
        subst this
        rw [rTo0_3 hr]
      . intro h
        rw [hV] at h
        have:=n3 h
        subst this
        exact patS_even (rTo0_2 hr)
    . have e1:rTo 1 true r0 left=((r0+1:Nat):Int):=by rw [t1,if_pos ⟨hl,rfl⟩]
      have e2:rTo 2 true r0 left=(r0:Int):=by rw [t2,if_neg (fun h=>by cases h.2)]
      rw [e1] at f1 q1
      rw [e2] at f2
      have V1:=patV_rung (ng:=true) q1
      obtain ⟨n1,n2,n3⟩:=near_negS l1 l2 l3 hAl
      refine Nea.of f1 f2 f0 V1 V0 ?_ ?_ ?_
      . intro h
        rw [hV] at h
        have:=n1 h
        subst this
        rw [rTo0_3 hr]
      . intro h
        rw [hV] at h
        have:=n2 h
        subst this
        rw [rTo0_1 hr]
      . intro h
        rw [hV] at h
        have:=n3 h
        subst this
        exact patS_even (rTo0_2 hr)
  . exfalso
    obtain ⟨t1,t2,t3,t0⟩:=rTo_inf (ng:=ng) (left:=left) hr
    rw [t1] at q1
    rw [t2] at q2
    clear f1 f2 f0 o hV hA hR
    cases ng
    . rw [if_neg (by decide)] at q2; omega
    . rw [if_pos rfl] at q1; omega
theorem patV_bd {b:Int} (h:pok b=true):Bd 4000 (patV b):=by
  obtain ⟨i0,i1,i2,i3⟩:=pmag_in h
  have h30:(9007199254740992:Int)<=P 30:=by unfold P; decide
  exact bd_num i0 (Int.lt_of_lt_of_le (by omega) h30) (by omega) (by omega)
theorem Bd.sub {B:Nat} {V W:Int} (h:Bd B V) (k:Bd B W) (hB:B<4194304):Bd (B+1) (V-W):=by
  rw [Int.sub_eq_add_neg]
  exact h.add k.neg hB
theorem of_ok {b:Int} {w:World} (h:pok b=true) (H:Hold4 w):Calls Tryz.prog 150 #[.int .i64 b] w fun r w'=>∃ v,r=.returned (.tuple #[v,.int .i64 0])∧DAns w w' (patV b) v:=by
  refine (dof_any b w H.lay H.tab).mono ?_
  rintro _ w' ⟨v,er,rfl,hb,(⟨_,rfl,hD⟩ | ⟨h',_⟩)⟩
  . exact ⟨v,rfl,hD⟩
  . rw [h] at h'; cases h'
end Go.Proofs.YtjjihmnbdeeedaaGreatDoor
namespace Go.Proofs.YtjjihmnbdeeedaaGreatDoor.M
open Go
/-! the order of all -/
end Go.Proofs.YtjjihmnbdeeedaaGreatDoor.M
namespace Go.Proofs.YtjjihmnbdeeedaaGreatDoor.M
open Go Ieee
theorem cut_zero (neg:Bool) (n:Nat):Toward.even.cut neg n 0=n:=by
  unfold Toward.cut
  have h1:n % 1=0:=Nat.mod_one n
  simp [h1]
theorem dLeast:Ieee.double.leastPlace=-1074:=by decide
end Go.Proofs.YtjjihmnbdeeedaaGreatDoor.M
namespace Go.Proofs.YtjjihmnbdeeedaaGreatDoor
open Go Go.RowKit Go.Proofs.YtjjihmnbdeeedaaGreatDoor.M Ieee
def lefN (t D:Nat):Int:=if t=0 then 0 else if 2*t<D then 1 else if 2*t=D then 2 else 3
theorem left_nat {mag u t D:Nat} {q:Int} (hq:0<q) (hm:mag=u*D+t) (ht:t<D):M.Left ((mag:Int)*q) u ((D:Int)*q) (lefN t D):=by
  have e:(mag:Int)*q=(u:Int)*((D:Int)*q)+(t:Int)*q:=by
    rw [hm]; push_cast; rw [Int.add_mul,Int.mul_assoc]
  have k1:∀ a b:Nat,a<b->(a:Int)*q<(b:Int)*q:=fun a b h=>Int.mul_lt_mul_of_pos_right (by omega) hq
  have t0:0<=(t:Int)*q:=Int.mul_nonneg (by omega) (Int.le_of_lt hq)
  have t1:=k1 t D ht
  have e2:((2*t:Nat):Int)*q=2*((t:Int)*q):=by push_cast; rw [Int.mul_assoc]
  have z1:2*t<D->2*((t:Int)*q)<(D:Int)*q:=fun h=>by rw [<- e2]; exact k1 _ _ h
  have z2:2*t=D->2*((t:Int)*q)=(D:Int)*q:=fun h=>by rw [<- e2,h]
  have z3:D<2*t->(D:Int)*q<2*((t:Int)*q):=fun h=>by rw [<- e2]; exact k1 _ _ h
  have z4:0<t->0<(t:Int)*q:=fun h=>Int.mul_pos (by omega) hq
  have z5:t=0->(t:Int)*q=0:=fun h=>by rw [h]; simp
  obtain ⟨U,hU⟩:∃ U,(u:Int)*((D:Int)*q)=U:=⟨_,rfl⟩
  rw [e,hU]
  generalize (t:Int)*q=T at *
  generalize (D:Int)*q=R at *
  unfold lefN
  by_cases c0:t=0
  . rw [if_pos c0]
    have:=z5 c0
    exact M.Left.mk' hU (by omega) (by omega) (by constructor <;> intro h <;> omega) (by constructor <;> intro h <;> omega) (by constructor <;> intro h <;> omega) (by constructor <;> intro h <;> omega)
  . have:=z4 (by omega)
    rw [if_neg c0]
    by_cases c1:2*t<D
    . rw [if_pos c1]
      have:=z1 c1
      exact M.Left.mk' hU (by omega) (by omega) (by constructor <;> intro h <;> omega) (by constructor <;> intro h <;> omega) (by constructor <;> intro h <;> omega) (by constructor <;> intro h <;> omega)
    . rw [if_neg c1]
      by_cases c2:2*t=D
      . rw [if_pos c2]
        have:=z2 c2
        exact M.Left.mk' hU (by omega) (by omega) (by constructor <;> intro h <;> omega) (by constructor <;> intro h <;> omega) (by constructor <;> intro h <;> omega) (by constructor <;> intro h <;> omega)
      . rw [if_neg c2]
        have:=z3 (by omega)
        exact M.Left.mk' hU (by omega) (by omega) (by constructor <;> intro h <;> omega) (by constructor <;> intro h <;> omega) (by constructor <;> intro h <;> omega) (by constructor <;> intro h <;> omega)
theorem up_lef (neg odd:Bool) (t D:Nat) (ht:t<D):rUp 0 neg odd (lefN t D)=(decide (D<2*t) || (decide (D=2*t) && odd)):=by
  unfold rUp lefN
  rw [if_pos rfl]
  by_cases c0:t=0
  . rw [if_pos c0,decide_eq_false (p:=D<2*t) (by omega),decide_eq_false (p:=D=2*t) (by omega)]
    simp
  . rw [if_neg c0]
    by_cases c1:2*t<D
    . rw [if_pos c1,decide_eq_false (p:=D<2*t) (by omega),decide_eq_false (p:=D=2*t) (by omega)]
      simp
    . rw [if_neg c1]
      by_cases c2:2*t=D
      . rw [if_pos c2,decide_eq_false (p:=D<2*t) (by omega),decide_eq_true (p:=D=2*t) (by omega)]
        simp
      . rw [if_neg c2,decide_eq_true (p:=D<2*t) (by omega)]
        simp
theorem cut_even (neg:Bool) (n d:Nat) (hn:n≠0):Toward.even.cut neg n d=n/2^d+(if rUp 0 neg (decide (n/2^d % 2=1)) (lefN (n % 2^d) (2^d)) then 1 else 0):=by
  have h2:n<2^(n.log2+1):=Nat.lt_log2_self
  have hD:=Nat.two_pow_pos d
  rw [up_lef _ _ _ _ (Nat.mod_lt _ hD)]
  unfold Toward.cut
  dsimp only
  by_cases h:d<=n.log2+2
  . rw [Nat.min_eq_left h,Nat.shiftLeft_eq,Nat.one_mul]
    congr 1
    have e1:(2^d == 2*(n % 2^d))=decide (2^d=2*(n % 2^d)):=rfl
    have e2:(n/2^d % 2 == 1)=decide (n/2^d % 2=1):=rfl
    rw [e1,e2]
    cases (decide (2^d<2*(n % 2^d)) || decide (2^d=2*(n % 2^d)) && decide (n/2^d % 2=1)) <;> rfl
  . rw [Nat.min_eq_right (by omega),Nat.shiftLeft_eq,Nat.one_mul]
    have h3:2^(n.log2+2)=2*2^(n.log2+1):=by rw [Nat.pow_succ,Nat.mul_comm]
    have h4:2^(n.log2+2)<=2^d:=Nat.pow_le_pow_right (by decide) (by omega)
    have q1:n/2^(n.log2+2)=0:=Nat.div_eq_of_lt (by omega)
    have q2:n % 2^(n.log2+2)=n:=Nat.mod_eq_of_lt (by omega)
    have q3:n/2^d=0:=Nat.div_eq_of_lt (by omega)
    have q4:n % 2^d=n:=Nat.mod_eq_of_lt (by omega)
    rw [q1,q2,q3,q4,decide_eq_false (p:=2^d<2*n) (by omega),decide_eq_false (p:=2^d=2*n) (by omega),decide_eq_false (p:=2^(n.log2+2)<2*n) (by omega)]
    have e1:(2^(n.log2+2) == 2*n)=decide (2^(n.log2+2)=2*n):=rfl
    rw [e1,decide_eq_false (p:=2^(n.log2+2)=2*n) (by omega)]
    rfl
theorem dLeast:Ieee.double.leastPlace=-1074:=by decide
theorem dFrac:Ieee.double.fractionBits=52:=by decide
theorem dBin:Ieee.double.binade=4503599627370496:=by decide
def lastP (mag:Nat) (place:Int):Int:=max (place+(mag.log2:Int)-52) (-1074)
theorem nearest_word (neg:Bool) {mag:Nat} (place:Int) (h:mag≠0):Ieee.double.nearest neg mag place=Ieee.double.word neg (min ((lastP mag place+1074).toNat*4503599627370496+Toward.even.cut neg (mag*2^(place-lastP mag place).toNat) (lastP mag place-place).toNat) 9218868437227405312):=by
  unfold Format.nearest
  rw [if_neg h,dLeast,dFrac,dBin,dInf]
  dsimp only
  rw [Nat.shiftLeft_eq,show (lastP mag place+1074)=(lastP mag place - -1074) by omega]
  rfl
theorem minInf {r:Nat} {up:Bool} {neg:Bool} {left:Int} (hup:rUp 0 neg (decide (r % 2=1)) left=up):((min (r+(if up=true then 1 else 0)) 9218868437227405312:Nat):Int)=rTo 0 neg r left:=by
  unfold rTo
  rw [hup]
  by_cases h:(r:Int)<9218868437227405312
  . rw [if_pos h]
    cases up
    . simp only [Bool.false_eq_true,if_false]; omega
    . simp only [if_true]; omega
  . rw [if_neg h]
    have hb:bRung 0 neg=9218868437227405312:=by cases neg <;> rfl
    rw [hb]
    split <;> omega
theorem odd_rung (a u:Nat):decide ((a*4503599627370496+u) % 2=1)=decide (u % 2=1):=by congr 1; apply propext; omega
theorem nearest_rung (neg:Bool) {mag:Nat} {place:Int} (h:mag≠0) (hp:-4194304<=place) :
    ∃ (r0:Nat) (left:Int),Rung ((mag:Int)*pw place) r0 left∧Ieee.double.nearest neg mag place=Ieee.double.word neg (rTo 0 neg r0 left).toNat:=by
  rw [nearest_word neg place h]
  have h1:=Nat.log2_self_le h
  have h2:mag<2^(mag.log2+1):=Nat.lt_log2_self
  have hL:lastP mag place=max (place+(mag.log2:Int)-52) (-1074):=rfl
  obtain ⟨l,hl⟩:∃ l,lastP mag place=l:=⟨_,rfl⟩
  rw [hl] at hL ⊢
  have hl0:-1074<=l:=by omega
  have hl1:place+(mag.log2:Int)-52<=l:=by omega
  have hl2:-1074<l->l=place+(mag.log2:Int)-52:=by omega
  obtain ⟨a,ha⟩:∃ a:Nat,(l+1074).toNat=a:=⟨_,rfl⟩
  have hal:l=-1074+(a:Int):=by omega
  have e52:(2:Nat)^52=4503599627370496:=by decide
  have e53:(2:Nat)^53=9007199254740992:=by decide
  rw [ha]
  -- u units of 2^l and what is left
  have main:∃ (u:Nat) (left:Int),M.Left ((mag:Int)*pw place) u (pw l) left∧Toward.even.cut neg (mag*2^(place-l).toNat) (l-place).toNat=u+(if rUp 0 neg (decide (u % 2=1)) left then 1 else 0)∧u<9007199254740992∧(0<a->4503599627370496<=u):=by
    by_cases hs:l<=place
    . obtain ⟨k,hk⟩:∃ k:Nat,(place-l).toNat=k:=⟨_,rfl⟩
      have hpl:place=l+(k:Int):=by omega
      rw [hk,show (l-place).toNat=0 by omega,cut_zero]
      refine ⟨mag*2^k,0,?_,?_,?_,?_⟩
      . have e:(mag:Int)*pw place=((mag*2^k:Nat):Int)*pw l:=by
          rw [hpl,pw_add (by omega),Int.mul_comm (pw l)]
          push_cast
          rw [Int.mul_assoc]
        have:=left_nat (mag:=mag*2^k) (u:=mag*2^k) (t:=0) (D:=1) (pw_pos l) (by omega) (by decide)
        rw [e]
        have e1:((1:Nat):Int)*pw l=pw l:=by rw [Int.natCast_one,Int.one_mul]
        rw [e1] at this
        exact this
      . have:rUp 0 neg (decide (mag*2^k % 2=1)) 0=false:=by
          cases hu:rUp 0 neg (decide (mag*2^k % 2=1)) 0
          . rfl
          . exact (rUp_left hu).elim
        rw [this]
        rfl
      . have b1:mag*2^k<2^(mag.log2+1)*2^k:=Nat.mul_lt_mul_of_pos_right h2 (Nat.two_pow_pos _)
        rw [<- Nat.pow_add] at b1
        have b2:2^(mag.log2+1+k)<=2^53:=Nat.pow_le_pow_right (by decide) (by omega)
        omega
      . intro h0
        have b1:2^mag.log2*2^k<=mag*2^k:=Nat.mul_le_mul_right _ h1
        rw [<- Nat.pow_add] at b1
        have b2:2^52<=2^(mag.log2+k):=Nat.pow_le_pow_right (by decide) (by have:=hl2 (by omega); omega)
        omega
    . obtain ⟨k,hk⟩:∃ k:Nat,(l-place).toNat=k:=⟨_,rfl⟩
      have hpl:l=place+(k:Int):=by omega
      rw [hk,show (place-l).toNat=0 by omega,Nat.pow_zero,Nat.mul_one,cut_even neg mag k h]
      have hD:=Nat.two_pow_pos k
      have hdm:=Nat.div_add_mod mag (2^k)
      have hml:=Nat.mod_lt mag hD
      refine ⟨mag/2^k,lefN (mag % 2^k) (2^k),?_,rfl,?_,?_⟩
      . have:=left_nat (mag:=mag) (u:=mag/2^k) (t:=mag % 2^k) (D:=2^k) (pw_pos place) (by rw [Nat.mul_comm]; exact hdm.symm) hml
        have e:pw l=((2^k:Nat):Int)*pw place:=by
          rw [hpl,pw_add hp,Int.mul_comm]
          push_cast
          rfl
        rw [e]
        exact this
      . rw [Nat.div_lt_iff_lt_mul hD,<- e53,<- Nat.pow_add]
        exact Nat.lt_of_lt_of_le h2 (Nat.pow_le_pow_right (by decide) (by omega))
      . intro h0
        rw [Nat.le_div_iff_mul_le hD,<- e52,<- Nat.pow_add]
        exact Nat.le_trans (Nat.pow_le_pow_right (by decide) (by have:=hl2 (by omega); omega)) h1
  obtain ⟨u,left,hLeft,hcut,hu1,hu2⟩:=main
  rw [hcut]
  have hV:=V_rung Ieee.double a u (by rw [dBin]; omega) (fun q=>by rw [dBin]; exact hu2 q)
  rw [dBin] at hV
  have hpw:pw l=2^a*pw (-1074):=by rw [hal,pw_add (by decide),Int.mul_comm]
  rw [hpw] at hLeft
  refine ⟨a*4503599627370496+u,left,left_rung hLeft hV.1 hV.2,?_⟩
  have hm:=minInf (r:=a*4503599627370496+u) (neg:=neg) (left:=left) rfl
  rw [odd_rung] at hm
  rw [<- hm,Int.toNat_natCast,Nat.add_assoc]
end Go.Proofs.YtjjihmnbdeeedaaGreatDoor
namespace Go.Proofs.YtjjihmnbdeeedaaGreatDoor
open Go Go.RowKit Go.Proofs.YtjjihmnbdeeedaaGreatDoor.M
theorem cls_pat {s:Bool} {r:Int} (h0:0<=r) (h1:r<=9218868437227405312) (h:s=true->0<r):cls (patS s r)≠4:=by
  obtain ⟨a,b,_⟩:=patS_facts h0 h1 h
  intro q
  have:=(cls_rg a).1.1 q
  omega
theorem key_pat {s:Bool} {r:Int} (h0:0<=r) (h1:r<=9218868437227405312) (h:s=true->0<r):key (patS s r)=sg s r:=by
  unfold key patS sg
  cases s
  . simp only [Bool.false_eq_true,if_false]
    rw [if_neg (by omega)]
  . have:=h rfl
    simp only [if_true]
    rw [if_pos (by omega)]
    omega
theorem rg_neg {b:Int} (hb:rng b) (h:cls b≠4):rg (neg b)=rg b∧key (neg b)=-key b:=by
  unfold rng at hb
  unfold neg
  rw [if_neg h]
  unfold rg key
  by_cases h0:b<0
  . rw [if_pos h0,if_neg (by omega),if_pos h0,if_neg (by omega),if_pos h0]; omega
  . rw [if_neg h0,if_pos (by omega),if_neg h0,if_pos (by omega),if_neg h0]; omega
theorem cls_neg {b:Int} (hb:rng b) (h:cls b≠4):cls (neg b)≠4:=by
  intro q
  have h1:=(cls_rg (rng_neg hb)).1.1 q
  rw [(rg_neg hb h).1] at h1
  exact h ((cls_rg hb).1.2 h1)
theorem vS_nonneg (r:Nat):0<=vS r:=by
  rcases Nat.eq_zero_or_pos r with h | h
  . subst h; rw [vS_zero]; exact Int.le_refl _
  . have:=vS_lt h
    rw [vS_zero] at this
    exact Int.le_of_lt this
theorem sg_key (ng:Bool) {r:Int} (h0:0<=r):sg (ng && decide (0<r)) r=sg ng r:=by
  by_cases h:0<r
  . rw [decide_eq_true h,Bool.and_true]
  . obtain rfl:r=0:=by omega
    cases ng <;> rfl
theorem RdOf.key {V:Int} {ng:Bool} {f:Int->Int × Bool} {A:Int} {r0:Nat} {left:Int} {way:Int} (hf:f way=(patS (ng && decide (0<rTo way ng r0 left)) (rTo way ng r0 left),decide (left≠0) || decide (9218868437227405312<=(r0:Int)))) :
    M.key (f way).1=sg ng (rTo way ng r0 left)∧cls (f way).1≠4∧rng (f way).1:=by
  obtain ⟨g1,g2⟩:=rTo_range way ng r0 left
  rw [hf]
  exact ⟨(key_pat g1 g2 and_pos).trans (sg_key ng g1),cls_pat g1 g2 and_pos,(patS_facts g1 g2 and_pos).1⟩
structure Quo (U S d:Int) (o:Bool):Prop where
  rg:rng d
  fin:pok d=true->patV d*S<=U∧(patV d*S=U ↔ o=false)
  nxt:pok (next d)=true->U<patV (next d)*S
  neg:pok d=false->d<0
theorem next_pos {r:Int} (h0:0<=r) (h1:r<9218868437227405312):next (patS false r)=patS false (r+1):=by
  have hc:=cls_pat (s:=false) (r:=r) h0 (by omega) (fun h=>by cases h)
  unfold next
  rw [if_neg hc]
  show (if r=9218868437227405312 then r else if r=-9223372036854775808 then 1 else if r<0 then r-1 else r+1)=r+1
  rw [if_neg (by omega),if_neg (by omega),if_neg (by omega)]
theorem pmag_nz:pmag (-9223372036854775808)=0:=by decide
theorem patV_neg {r:Nat} (h:(r:Int)<9218868437227405312):patV (patS true (r:Int))=sg true (vS r):=by
  by_cases h0:r=0
  . subst h0
    rw [vS_zero]
    show patV (-9223372036854775808)=sg true 0
    unfold patV
    rw [pmag_nz,sg_zero,sg_zero,Int.zero_mul]
  . exact patV_patS h (fun _=>by omega)
theorem pok_pos {r:Int} (h0:0<=r) (h1:r<=9218868437227405312) (h:pok (patS false r)=true):r<9218868437227405312:=by
  rw [patS_pok h0 h1 (fun q=>by cases q)] at h
  exact of_decide_eq_true h
theorem Quo.pos {S A:Int} {r:Nat} {o:Bool} (hr:(r:Int)<9218868437227405312) (lo:vS r*S<=A) (eq:vS r*S=A ↔ o=false) (hi:((r+1:Nat):Int)<9218868437227405312->A<vS (r+1)*S):Quo A S (patS false (r:Int)) o:=by
  have hv:patV (patS false (r:Int))=vS r:=by
    have:=patV_patS (ng:=false) hr (fun h=>by cases h)
    rw [this]
    unfold sg
    rw [if_neg (by decide)]
  have hnx:next (patS false (r:Int))=patS false ((r+1:Nat):Int):=by
    rw [next_pos (by omega) hr]; rfl
  refine ⟨(patS_facts (by omega) (by omega) (fun h=>by cases h)).1,fun _=>?_,fun h=>?_,fun h=>?_⟩
  . rw [hv]; exact ⟨lo,eq⟩
  . rw [hnx] at h ⊢
    have h1:=pok_pos (by omega) (by omega) h
    have:=patV_patS (ng:=false) h1 (fun h=>by cases h)
    rw [this]
    unfold sg
    rw [if_neg (by decide)]
    exact hi h1
  . exfalso
    rw [patS_pok (by omega) (by omega) (fun h=>by cases h)] at h
    exact absurd hr (of_decide_eq_false h)
structure RungR (X:Int) (r0:Nat) (left:Int):Prop where
  lo:vS r0*vS r0<=X
  hi:X<vS (r0+1)*vS (r0+1)
  l0:left=0 ↔ X=vS r0*vS r0
theorem sq_le {a b:Int} (h0:0<=a) (h:a<=b):a*a<=b*b:=Int.mul_le_mul h h h0 (Int.le_trans h0 h)
theorem RungR.unique {X:Int} {r s:Nat} {l k:Int} (h:RungR X r l) (g:RungR X s k):r=s:=by
  have key:∀ {r s:Nat} {l k:Int},RungR X r l->RungR X s k->¬ r<s:=fun {r s l k} h g q=>by
    have e:vS (r+1)<=vS s:=by
      rcases Nat.lt_or_eq_of_le (show r+1<=s from q) with q2 | q2
      . exact Int.le_of_lt (vS_lt q2)
      . rw [q2]; exact Int.le_refl _
    exact absurd (Int.lt_of_lt_of_le h.hi (Int.le_trans (sq_le (vS_nonneg _) e) g.lo)) (Int.lt_irrefl _)
  rcases Nat.lt_trichotomy r s with q | q | q
  . exact absurd q (key h g)
  . exact q
  . exact absurd q (key g h)
theorem Bd.sg {B:Nat} {V:Int} (g:Bool) (h:Bd B V):Bd B (M.sg g V):=by
  cases g
  . exact h
  . exact h.neg
theorem patV_rg {b:Int} (hb:rng b) (hp:pok b=true):∃ (ng:Bool) (r:Nat),(r:Int)=rg b∧(r:Int)<9218868437227405312∧patV b=sg ng (vS r):=by
  obtain ⟨r0,r1⟩:=rg_parts hb
  have hlt:rg b<9218868437227405312:=by
    have hne:=pparts hp
    have hf:0<=frc b∧frc b<4503599627370496:=by unfold frc; omega
    have hg:0<=fld b∧fld b<2048:=by unfold fld; omega
    omega
  obtain ⟨r,hr⟩:∃ r:Nat,(r:Int)=rg b:=⟨(rg b).toNat,Int.toNat_of_nonneg r0⟩
  have hs:b=patS (decide (b<0)) (r:Int):=by
    rw [hr]
    unfold patS rg
    by_cases h:b<0
    . rw [decide_eq_true h,if_pos rfl,if_pos h]; omega
    . rw [decide_eq_false h,if_neg (by decide),if_neg h]
  refine ⟨decide (b<0),r,hr,by rw [hr]; exact hlt,?_⟩
  rw [<- hr] at hlt
  cases hd:decide (b<0)
  . rw [hd] at hs
    rw [hs]
    exact patV_patS hlt (fun h=>by cases h)
  . rw [hd] at hs
    rw [hs]
    exact patV_neg hlt
end Go.Proofs.YtjjihmnbdeeedaaGreatDoor
namespace Go.Proofs.YtjjihmnbdeeedaaGreatDoor
open Go Go.RowKit Go.Proofs.YtjjihmnbdeeedaaGreatDoor.M Ieee
theorem wd_word {ng:Bool} {r:Int} (h0:0<=r) (h1:r<=9218868437227405312):Ieee.double.word ng r.toNat=wd (patS ng r):=by
  unfold Format.word wd patS
  rw [dSign]
  cases ng
  . rw [if_neg (by decide),if_neg (by decide)]; omega
  . rw [if_pos rfl,if_pos rfl]; omega
theorem rg_lt {b:Int} (hb:rng b) (hp:pok b=true):0<=rg b∧rg b<9218868437227405312:=by
  obtain ⟨_,r,hr,hlt,_⟩:=patV_rg hb hp
  omega
theorem patV_dec {b:Int} (hb:rng b) (hp:pok b=true):patV b=sg (decide (b<0)) (vS (rg b).toNat):=by
  obtain ⟨h0,h1⟩:=rg_lt hb hp
  obtain ⟨r,hr⟩:∃ r:Nat,(r:Int)=rg b:=⟨(rg b).toNat,Int.toNat_of_nonneg h0⟩
  have hs:b=patS (decide (b<0)) (r:Int):=by
    rw [hr]
    unfold patS rg
    by_cases h:b<0
    . rw [decide_eq_true h,if_pos rfl,if_pos h]; omega
    . rw [decide_eq_false h,if_neg (by decide),if_neg h]
  rw [<- hr] at h1 ⊢
  rw [Int.toNat_natCast]
  cases hd:decide (b<0)
  . rw [hd] at hs
    rw [hs]
    exact patV_patS h1 (fun h=>by cases h)
  . rw [hd] at hs
    rw [hs]
    exact patV_neg h1
theorem read_wd {b:Int} (hb:rng b) (hp:pok b=true):∃ m u:Nat,Ieee.double.read (wd b)=.number (decide (b<0)) m (-1074+(u:Int))∧patV b=sg (decide (b<0)) ((m:Int)*pw (-1074+(u:Int))):=by
  obtain ⟨h0,h1⟩:=rg_lt hb hp
  have hw:((wd b % 9223372036854775808:Nat):Int)=rg b:=wd_rung hb
  have hw2:wd b % 9223372036854775808=(rg b).toNat:=by omega
  obtain ⟨m,u,h,hm⟩:=read_finite Ieee.double (wd b) (by rw [dSign,dInf]; omega)
  rw [dSign,dLeast,wd_neg hb] at h
  rw [dSign,hw2] at hm
  refine ⟨m,u,h,?_⟩
  have e:vS (rg b).toNat=(m:Int)*pw (-1074+(u:Int)):=by
    unfold vS
    rw [<- hm,pw_add (by decide),Int.mul_comm (pw (-1074))]
    generalize pw (-1074)=q
    push_cast
    rw [Int.mul_assoc]
  rw [patV_dec hb hp,e]
theorem signed_pw (s:Bool) (m k:Nat) {i base:Int} (h:i=base+(k:Int)) (hb:-4194304<=base):signed s m k*pw base=sg s ((m:Int)*pw i):=by
  rw [signed_V,h,pw_add hb,Int.mul_comm (pw base),<- Int.mul_assoc]
  have e:((m*2^k:Nat):Int)=(m:Int)*2^k:=by push_cast; rfl
  rw [e]
  generalize (m:Int)*2^k=t
  unfold sg
  cases s
  . rfl
  . show -t*pw base=-(t*pw base)
    rw [Int.neg_mul]
theorem natAbs_sg {t q:Int} (hq:0<q):t*q=sg (decide (t<0)) ((t.natAbs:Int)*q):=by
  by_cases h:t<0
  . rw [decide_eq_true h]
    show t*q=-((t.natAbs:Int)*q)
    rw [<- Int.neg_mul,show -(t.natAbs:Int)=t by omega]
  . rw [decide_eq_false h]
    show t*q=(t.natAbs:Int)*q
    rw [show (t.natAbs:Int)=t by omega]
theorem lt_zero_iff {t q:Int} (hq:0<q):t<0 ↔ t*q<0:=by
  constructor
  . exact fun h=>Int.mul_neg_of_neg_of_pos h hq
  . intro h
    rcases Int.lt_or_le t 0 with g | g
    . exact g
    . exact absurd h (Int.not_lt.2 (Int.mul_nonneg g (Int.le_of_lt hq)))
theorem eq_zero_iff {t q:Int} (hq:0<q):t=0 ↔ t*q=0:=by
  constructor
  . intro h; rw [h,Int.zero_mul]
  . intro h
    rcases Int.mul_eq_zero.1 h with g | g
    . exact g
    . omega
theorem write_near {S t base:Int} (hb:-4194304<=base) (hS:t*pw base=S) (h0:S≠0) :
    ∃ (A:Int) (r0:Nat) (left:Int),S=sg (decide (S<0)) A∧Rung A r0 left∧Ieee.double.nearest (decide (t<0)) t.natAbs base=wd (patS (decide (S<0)) (rTo 0 (decide (S<0)) r0 left)):=by
  have hq:=pw_pos base
  have ht:t≠0:=fun h=>h0 (by rw [<- hS,h,Int.zero_mul])
  have hd:decide (t<0)=decide (S<0):=by rw [<- hS]; congr 1; exact propext (lt_zero_iff hq)
  obtain ⟨r0,left,hR,hE⟩:=nearest_rung (decide (t<0)) (mag:=t.natAbs) (place:=base) (by omega) hb
  refine ⟨_,r0,left,?_,hR,?_⟩
  . rw [<- hd,<- hS]; exact natAbs_sg hq
  . rw [hE,hd]
    obtain ⟨g1,g2⟩:=rTo_range 0 (decide (S<0)) r0 left
    exact wd_word g1 g2
theorem fadd {a b:Int} (ha:rng a) (hb:rng b) (pa:pok a=true) (pb:pok b=true) :
    (patV a+patV b=0->Ieee.double.add (wd a) (wd b)=some (wd (patS (decide (a<0) && decide (b<0)) 0))) ∧
    (patV a+patV b≠0->∃ (A:Int) (r0:Nat) (left:Int),patV a+patV b=sg (decide (patV a+patV b<0)) A∧Rung A r0 left∧Ieee.double.add (wd a) (wd b)=some (wd (patS (decide (patV a+patV b<0)) (rTo 0 (decide (patV a+patV b<0)) r0 left)))):=by
  obtain ⟨m,u,h1,v1⟩:=read_wd ha pa
  obtain ⟨n,v,h2,v2⟩:=read_wd hb pb
  have hadd:Ieee.double.add (wd a) (wd b)=some (Ieee.double.nearest (if signed (decide (a<0)) m (u-min u v)+signed (decide (b<0)) n (v-min u v)=0 then decide (a<0) && decide (b<0) else decide (signed (decide (a<0)) m (u-min u v)+signed (decide (b<0)) n (v-min u v)<0)) (signed (decide (a<0)) m (u-min u v)+signed (decide (b<0)) n (v-min u v)).natAbs (-1074+((min u v:Nat):Int))):=by
    unfold Format.add
    rw [h1,h2]
    unfold Datum.sum
    dsimp only
    have hmin:min (-1074+(u:Int)) (-1074+(v:Int))=-1074+((min u v:Nat):Int):=by omega
    have e1:(-1074+(u:Int)-(-1074+((min u v:Nat):Int))).toNat=u-min u v:=by omega
    have e2:(-1074+(v:Int)-(-1074+((min u v:Nat):Int))).toNat=v-min u v:=by omega
    rw [hmin,e1,e2]
    rfl
  have s1:=signed_pw (decide (a<0)) m (u-min u v) (i:=-1074+(u:Int)) (base:=-1074+((min u v:Nat):Int)) (by omega) (by omega)
  have s2:=signed_pw (decide (b<0)) n (v-min u v) (i:=-1074+(v:Int)) (base:=-1074+((min u v:Nat):Int)) (by omega) (by omega)
  rw [<- v1] at s1
  rw [<- v2] at s2
  have hB:-4194304 <= -1074+((min u v:Nat):Int):=by omega
  generalize -1074+((min u v:Nat):Int)=base at *
  have hq:=pw_pos base
  have hS:(signed (decide (a<0)) m (u-min u v)+signed (decide (b<0)) n (v-min u v))*pw base=patV a+patV b:=by rw [Int.add_mul,s1,s2]
  generalize signed (decide (a<0)) m (u-min u v)+signed (decide (b<0)) n (v-min u v)=t at *
  clear s1 s2 v1 v2 h1 h2
  refine ⟨fun h=>?_,fun h=>?_⟩
  . have ht:t=0:=(eq_zero_iff hq).2 (hS.trans h)
    rw [hadd,ht,if_pos rfl]
    unfold Format.nearest
    rw [if_pos (show Int.natAbs 0=0 from rfl)]
    have:=wd_word (ng:=decide (a<0) && decide (b<0)) (r:=0) (by decide) (by decide)
    rw [<- this]
    rfl
  . have ht:t≠0:=fun e=>h (by rw [<- hS,e,Int.zero_mul])
    obtain ⟨A,r0,left,q1,q2,q3⟩:=write_near hB hS h
    refine ⟨A,r0,left,q1,q2,?_⟩
    rw [hadd,if_neg ht,q3]
theorem fmul_core {g h:Bool} {x y p q r Z:Int} (e:p*q=r*Z):sg (g != h) (x*y*r)*Z=sg g (x*p)*sg h (y*q):=by
  rw [sg_mul,sg_prod]
  congr 1
  rw [Int.mul_assoc (x*y),<- e,Int.mul_assoc x y,Int.mul_assoc x p]
  congr 1
  rw [<- Int.mul_assoc,<- Int.mul_assoc,Int.mul_comm y p]
theorem xor_ne (g h:Bool):(g ^^ h)=(g != h):=by cases g <;> cases h <;> rfl
theorem fmul {a b:Int} (ha:rng a) (hb:rng b) (pa:pok a=true) (pb:pok b=true) :
    ∃ D:Int,0<=D∧sg (decide (a<0) != decide (b<0)) D*2^4194304=patV a*patV b ∧
      (D=0->Ieee.double.mul (wd a) (wd b)=some (wd (patS (decide (a<0) != decide (b<0)) 0))) ∧
      (D≠0->∃ (r0:Nat) (left:Int),Rung D r0 left∧Ieee.double.mul (wd a) (wd b)=some (wd (patS (decide (a<0) != decide (b<0)) (rTo 0 (decide (a<0) != decide (b<0)) r0 left)))):=by
  obtain ⟨m,u,h1,v1⟩:=read_wd ha pa
  obtain ⟨n,v,h2,v2⟩:=read_wd hb pb
  have hmul:Ieee.double.mul (wd a) (wd b)=some (Ieee.double.nearest (decide (a<0) != decide (b<0)) (m*n) (-1074+(u:Int)+(-1074+(v:Int)))):=by
    unfold Format.mul
    rw [h1,h2]
    unfold Datum.product
    dsimp only
    rw [xor_ne]
    rfl
  have hpm:=pw_mul (a:=-1074+(u:Int)) (b:=-1074+(v:Int)) (by omega) (by omega)
  have hB:-4194304 <= -1074+(u:Int)+(-1074+(v:Int)):=by omega
  have hq:=pw_pos (-1074+(u:Int)+(-1074+(v:Int)))
  have hC:=fmul_core (g:=decide (a<0)) (h:=decide (b<0)) (x:=(m:Int)) (y:=(n:Int)) hpm
  rw [<- v1,<- v2] at hC
  generalize -1074+(u:Int)+(-1074+(v:Int))=base at *
  have hcast:((m*n:Nat):Int)=(m:Int)*(n:Int):=by push_cast; rfl
  refine ⟨(m:Int)*(n:Int)*pw base,Int.mul_nonneg (by rw [<- hcast]; omega) (Int.le_of_lt hq),hC,fun h=>?_,fun h=>?_⟩
  . have h0:m*n=0:=by
      rcases Int.mul_eq_zero.1 h with g | g
      . rw [<- hcast] at g; omega
      . omega
    rw [hmul,h0]
    unfold Format.nearest
    rw [if_pos rfl]
    have:=wd_word (ng:=decide (a<0) != decide (b<0)) (r:=0) (by decide) (by decide)
    rw [<- this]
    rfl
  . have h0:m*n≠0:=fun e=>h (by rw [<- hcast,e]; simp)
    obtain ⟨r0,left,hR,hE⟩:=nearest_rung (decide (a<0) != decide (b<0)) (place:=base) h0 hB
    rw [hcast] at hR
    refine ⟨r0,left,hR,?_⟩
    rw [hmul,hE]
    obtain ⟨g1,g2⟩:=rTo_range 0 (decide (a<0) != decide (b<0)) r0 left
    rw [wd_word g1 g2]
def NanW (z:Nat):Prop:=z<18446744073709551616∧9218868437227405312<z % 9223372036854775808
theorem nan_cut (x y t:Nat):NanW ((Question.nanBits .f64 x y).cut t):=by
  have h:(Question.nanBits .f64 x y).cut t=(t % 2)*2^63+0x7ff0000000000000+1+(t/2) % (2^52-1):=rfl
  have e63:(2:Nat)^63=9223372036854775808:=by decide
  have e52:(2:Nat)^52-1=4503599627370495:=by decide
  rw [h,e63,e52]
  have hc:=Nat.mod_lt (t/2) (show 0<4503599627370495 by decide)
  have hm:t % 2=0∨t % 2=1:=by omega
  generalize t/2 % 4503599627370495=c at *
  unfold NanW
  rcases hm with h2 | h2
  . rw [h2]; omega
  . rw [h2]; omega
theorem run_farith {P:Program} (op:BinOp) (ho:op=.add∨op=.sub∨op=.mul∨op=.quo) (t:TypeId) (x y:Nat) (w:World) :
    ∃ z w',(binOp op t (.float .f64 x) (.float .f64 y)).run P w=.ok (.float .f64 z) w'∧((floatBits op .f64 x y=some z∧w'=w)∨(floatBits op .f64 x y=none∧NanW z∧w'=w.drew)):=by
  cases h:floatBits op .f64 x y with
  | some r=>exact ⟨r,w,run_float_arith w op t .f64 x y r h,.inl ⟨rfl,rfl⟩⟩
  | none=>
    refine ⟨_,w.drew,?_,.inr ⟨rfl,nan_cut x y (w.tape w.drawn (.nanBits .f64 x y)),rfl⟩⟩
    unfold floatBits at h
    rcases ho with rfl | rfl | rfl | rfl <;> simp only at h <;> simp [binOp,Op.floatArith,h] <;> exact fun hf=>absurd (show false=true from hf) (by decide)
def FW (p:Int) (x:Nat):Prop:=(cls p≠4∧rng p∧x=wd p)∨(p=9221120237041090561∧NanW x)
def patW (x:Nat):Int:=if x<9223372036854775808 then (x:Int) else (x:Int)-18446744073709551616
theorem patW_wd {p:Int} (h:rng p):patW (wd p)=p:=by
  unfold rng at h
  unfold patW wd
  split <;> omega
def nearP (S:Int):Int:=patW (Ieee.double.nearest (decide (S<0)) S.natAbs (-4194304))
theorem pw_least:pw (-4194304)=1:=by unfold pw; rfl
theorem patS_rng {ng:Bool} {r:Int} (h0:0<=r) (h1:r<=9218868437227405312):rng (patS ng r)∧cls (patS ng r)≠4:=by
  have hr:rng (patS ng r):=by unfold rng patS; cases ng <;> simp <;> omega
  refine ⟨hr,fun q=>?_⟩
  have:=(cls_rg hr).1.1 q
  unfold rg patS at this
  cases ng
  . simp only [Bool.false_eq_true,if_false] at this; split at this <;> omega
  . simp only [if_true] at this; split at this <;> omega
theorem nearP_rung {S:Int} (h:S≠0):∃ (A:Int) (r0:Nat) (left:Int),S=sg (decide (S<0)) A∧Rung A r0 left∧nearP S=patS (decide (S<0)) (rTo 0 (decide (S<0)) r0 left):=by
  obtain ⟨A,r0,left,h1,h2,h3⟩:=write_near (S:=S) (t:=S) (base:=-4194304) (by decide) (by rw [pw_least,Int.mul_one]) h
  refine ⟨A,r0,left,h1,h2,?_⟩
  unfold nearP
  rw [h3]
  obtain ⟨g1,g2⟩:=rTo_range 0 (decide (S<0)) r0 left
  exact patW_wd (patS_rng g1 g2).1
theorem sg_inj {g:Bool} {A B:Int} (h:sg g A=sg g B):A=B:=by
  cases g
  . exact h
  . exact Int.neg_inj.1 h
def fsum (p q:Int):Int :=
  if cls p=4∨cls q=4 then 9221120237041090561
  else if rg p=9218868437227405312 then (if rg q=9218868437227405312∧decide (p<0)≠decide (q<0) then 9221120237041090561 else p)
  else if rg q=9218868437227405312 then q
  else if patV p+patV q=0 then patS (decide (p<0) && decide (q<0)) 0 else nearP (patV p+patV q)
theorem pok_rg {p:Int} (hp:rng p):pok p=true ↔ rg p<9218868437227405312:=by
  obtain ⟨r0,r1⟩:=rg_parts hp
  have hf:0<=frc p∧frc p<4503599627370496:=by unfold frc; omega
  have hg:0<=fld p∧fld p<2048:=by unfold fld; omega
  unfold pok
  simp
  omega
theorem fadd_fin {p q:Int} (hp:rng p) (hq:rng q) (pp:pok p=true) (pq:pok q=true):Ieee.double.add (wd p) (wd q)=some (wd (if patV p+patV q=0 then patS (decide (p<0) && decide (q<0)) 0 else nearP (patV p+patV q))):=by
  obtain ⟨h0,h1⟩:=fadd hp hq pp pq
  by_cases hS:patV p+patV q=0
  . rw [if_pos hS]; exact h0 hS
  . rw [if_neg hS]
    obtain ⟨A,r0,left,a1,a2,a3⟩:=h1 hS
    obtain ⟨B,s0,k,b1,b2,b3⟩:=nearP_rung hS
    have hAB:=sg_inj (a1.symm.trans b1)
    subst hAB
    obtain ⟨h2,h3⟩:=a2.unique b2
    subst h2 h3
    rw [a3,b3]
theorem read_inf64 {p:Int} (hp:rng p) (h:rg p=9218868437227405312):Ieee.double.read (wd p)=.infinity (decide (p<0)):=by
  have hw:((wd p % 9223372036854775808:Nat):Int)=rg p:=wd_rung hp
  have:=read_inf Ieee.double dOk (wd p) (by rw [dSign,dInf]; omega)
  rwa [dSign,wd_neg hp] at this
theorem write_inf64 {p:Int} (hp:rng p) (h:rg p=9218868437227405312):Ieee.double.write (.infinity (decide (p<0)))=wd p:=by
  unfold Format.write
  dsimp only
  rw [dInf]
  have:=wd_word (ng:=decide (p<0)) (r:=9218868437227405312) (by decide) (by decide)
  have e:patS (decide (p<0)) 9218868437227405312=p:=by
    unfold rg at h
    unfold patS
    by_cases h0:p<0
    . rw [if_pos h0] at h; rw [decide_eq_true h0,if_pos rfl]; omega
    . rw [if_neg h0] at h; rw [decide_eq_false h0,if_neg (by decide)]; omega
  rw [e] at this
  exact this
theorem nan_canon:cls 9221120237041090561=4:=by decide
theorem FW.nan {x:Nat} (h:NanW x):FW 9221120237041090561 x:=.inr ⟨rfl,h⟩
theorem FW.pat {p:Int} (h:cls p≠4) (hp:rng p):FW p (wd p):=.inl ⟨h,hp,rfl⟩
theorem FW.read_nan {p:Int} {x:Nat} (h:FW p x) (h4:cls p=4):∃ s t,Ieee.double.read x=.nan s t:=by
  rcases h with ⟨h,_⟩ | ⟨_,h⟩
  . exact absurd h4 h
  . exact M.read_nan Ieee.double dOk x (by rw [dSign,dInf]; exact h.2)
theorem FW.of {p:Int} {x:Nat} (h:FW p x) (h4:cls p≠4):rng p∧x=wd p∧0<=rg p∧rg p<=9218868437227405312:=by
  rcases h with ⟨_,h1,h2⟩ | ⟨h,_⟩
  . obtain ⟨r0,_⟩:=rg_parts h1
    refine ⟨h1,h2,r0,?_⟩
    rcases Int.lt_or_le 9218868437227405312 (rg p) with g | g
    . exact absurd ((cls_rg h1).1.2 g) h4
    . exact g
  . rw [h] at h4; exact absurd nan_canon h4
theorem nearP_pat {S:Int} (h:S≠0):rng (nearP S)∧cls (nearP S)≠4:=by
  obtain ⟨A,r0,left,_,_,e⟩:=nearP_rung h
  rw [e]
  obtain ⟨g1,g2⟩:=rTo_range 0 (decide (S<0)) r0 left
  exact patS_rng g1 g2
theorem add_FW {p q:Int} {x y:Nat} (hx:FW p x) (hy:FW q y):(∃ z,Ieee.double.add x y=some z∧FW (fsum p q) z)∨(Ieee.double.add x y=none∧fsum p q=9221120237041090561):=by
  by_cases h4:cls p=4∨cls q=4
  . right
    refine ⟨?_,by unfold fsum; rw [if_pos h4]⟩
    unfold Format.add
    rcases h4 with h | h
    . obtain ⟨s,t,e⟩:=hx.read_nan h
      rw [e]
      rfl
    . obtain ⟨s,t,e⟩:=hy.read_nan h
      rw [e]
      cases Ieee.double.read x <;> rfl
  . have h4p:cls p≠4:=fun h=>h4 (.inl h)
    have h4q:cls q≠4:=fun h=>h4 (.inr h)
    obtain ⟨rp,rfl,p0,p1⟩:=hx.of h4p
    obtain ⟨rq,rfl,q0,q1⟩:=hy.of h4q
    unfold fsum
    rw [if_neg h4]
    by_cases ip:rg p=9218868437227405312
    . rw [if_pos ip]
      have ep:=read_inf64 rp ip
      by_cases iq:rg q=9218868437227405312
      . have eq:=read_inf64 rq iq
        by_cases hs:decide (p<0)=decide (q<0)
        . left
          refine ⟨wd p,?_,?_⟩
          . unfold Format.add
            rw [ep,eq]
            unfold Datum.sum
            dsimp only
            rw [if_pos hs]
            show some (Ieee.double.write (.infinity (decide (p<0))))=_
            rw [write_inf64 rp ip]
          . rw [if_neg (fun h=>h.2 hs)]
            exact FW.pat h4p rp
        . right
          refine ⟨?_,by rw [if_pos ⟨iq,hs⟩]⟩
          unfold Format.add
          rw [ep,eq]
          unfold Datum.sum
          dsimp only
          rw [if_neg hs]
          rfl
      . left
        obtain ⟨m,u,eq,_⟩:=read_wd rq ((pok_rg rq).2 (by omega))
        refine ⟨wd p,?_,?_⟩
        . unfold Format.add
          rw [ep,eq]
          show some (Ieee.double.write (.infinity (decide (p<0))))=_
          rw [write_inf64 rp ip]
        . rw [if_neg (fun h=>iq h.1)]
          exact FW.pat h4p rp
    . rw [if_neg ip]
      have pp:=(pok_rg rp).2 (by omega)
      by_cases iq:rg q=9218868437227405312
      . left
        rw [if_pos iq]
        have eq:=read_inf64 rq iq
        obtain ⟨m,u,ep,_⟩:=read_wd rp pp
        refine ⟨wd q,?_,FW.pat h4q rq⟩
        unfold Format.add
        rw [ep,eq]
        show some (Ieee.double.write (.infinity (decide (q<0))))=_
        rw [write_inf64 rq iq]
      . left
        rw [if_neg iq]
        refine ⟨_,fadd_fin rp rq pp ((pok_rg rq).2 (by omega)),?_⟩
        by_cases hS:patV p+patV q=0
        . rw [if_pos hS]
          obtain ⟨g1,g2⟩:=patS_rng (ng:=decide (p<0) && decide (q<0)) (r:=0) (by decide) (by decide)
          exact FW.pat g2 g1
        . rw [if_neg hS]
          exact FW.pat (nearP_pat hS).2 (nearP_pat hS).1
end Go.Proofs.YtjjihmnbdeeedaaGreatDoor
