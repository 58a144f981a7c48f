/-
  The document's rounding (plumbref4.Cut): what its walk is given, and what it tells.
-/
import Derived.Test.YtkkpppgfoilgmaaGreatDoorPart17
set_option maxRecDepth 100000
set_option maxHeartbeats 8000000
set_option linter.unusedVariables false
set_option linter.unusedSimpArgs false
namespace Go.Proofs.YtkkpppgfoilgmaaGreatDoor
open Go Go.Proofs.Tryz Go.RowKit Go.Proofs.YtkkpppgfoilgmaaGreatDoor.M
def bQ (way:Int) (ng hf rs:Bool) (K:Nat):Bool:=if way=0 then hf&&(rs||decide (K % 2=1)) else if way=1 then ng&&(hf||rs) else if way=2 then !ng&&(hf||rs) else false
def bg (way:Int) (ng hf rs:Bool) (K:Nat) (E:Int):Int × Bool :=
 let U:Nat:=K+(if bQ way ng hf rs K then 1 else 0)
 if 4503599627370496<=U∧1024<(aC (U:Int):Int)+E then ((if ng then -9223372036854775808 else 0)+(if way=0∨(way=2∧ng=false)∨(way=1∧ng=true) then 9218868437227405312 else 9218868437227405311),true) else ((if ng then -9223372036854775808 else 0)+jp false U E,hf||rs)
theorem zt {way:Int} {ng hf rs:Bool} {K:Nat} {E:Int} (U:Nat) (hU:K+(if bQ way ng hf rs K then 1 else 0)=U) (h:¬ (4503599627370496<=U∧1024<(aC (U:Int):Int)+E)):bg way ng hf rs K E=((if ng then -9223372036854775808 else 0)+jp false U E,hf||rs):=by
 unfold bg
 simp only
 rw[hU,if_neg h]
theorem zu {way:Int} {ng hf rs:Bool} {K:Nat} {E:Int} (U:Nat) (hU:K+(if bQ way ng hf rs K then 1 else 0)=U) (h:4503599627370496<=U∧1024<(aC (U:Int):Int)+E):bg way ng hf rs K E=((if ng then -9223372036854775808 else 0)+(if way=0∨(way=2∧ng=false)∨(way=1∧ng=true) then 9218868437227405312 else 9218868437227405311),true):=by
 unfold bg
 simp only
 rw[hU,if_pos h]
theorem cN {way:Int} {ng hf rs:Bool} {K:Nat} {E:Int} (U:Nat) (Ui:Int) (hi:((U:Nat):Int)=Ui) (hU:K+(if bQ way ng hf rs K then 1 else 0)=U) (h:¬ (4503599627370496<=Ui∧1024<(aC Ui:Int)+E)):bg way ng hf rs K E=((if ng then -9223372036854775808 else 0)+jp false Ui E,hf||rs):=by
 subst hi
 exact zt U hU (fun q=>h ⟨by omega,q.2⟩)
theorem kC {way:Int} {ng hf rs:Bool} {K:Nat} {E:Int} (U:Nat) (Ui:Int) (hi:((U:Nat):Int)=Ui) (hU:K+(if bQ way ng hf rs K then 1 else 0)=U) (h:4503599627370496<=Ui∧1024<(aC Ui:Int)+E):bg way ng hf rs K E=((if ng then -9223372036854775808 else 0)+(if way=0∨(way=2∧ng=false)∨(way=1∧ng=true) then 9218868437227405312 else 9218868437227405311),true):=by
 subst hi
 exact zu U hU ⟨by omega,h.2⟩
structure nP (ao:Option Addr) (n cap:Nat) (d:Nat->Int) (exp:Int) (more:Bool) (nb:Nat) (E lw:Int) (K:Nat) (hf rs:Bool) (l:Int):Prop where
 hnb:1<=nb∧nb<=300000
 he:-1300000<=exp∧exp<=1300000
 hlw:-100<=lw∧lw<=1700000
 hE:-1074<=E∧E<=1700000
 hEl:E-exp=lw
 hK:K<9007199254740992
 hl:0<=l∧l<=400000
 hr1:more=true->rs=true∧0<lw
 hr2:more=false->lw<=1->rs=false
 hr3:more=false->1<lw->rs=decide (l<lw-1)
 hm1:∀ (ts:Array TypeId) (t:TypeId) (w:World),(Builtin.max_ ts t #[.int .i64 ((nb:Int)+exp-53),.int .i64 (-1074)]).run prog w=.ok (.int .i64 E) w
 hm2:∀ (ts:Array TypeId) (t:TypeId) (w:World),(Builtin.max_ ts t #[.int .i64 lw,.int .i64 0]).run prog w=.ok (.int .i64 (max lw 0)) w
 CB:∀ W,aG W ao n cap d->Calls prog 136 #[.slice ao n cap] W fun e w'=>e=.returned (.int .i64 nb)∧w'=W
 CS:∀ W,aG W ao n cap d->Calls prog 104 #[.slice ao n cap,.int .i64 (max lw 0)] W fun e w'=>∃ so sn sc,e=.returned (.slice so sn sc)∧Below W.heap.size W w'∧(0<=lw->aT w' (.slice so sn sc) K)
 CL:lw<0->∀ W,aG W ao n cap d->Calls prog 97 #[.slice ao n cap,.int .i64 (-lw)] W fun e w'=>∃ so sn sc,e=.returned (.slice so sn sc)∧Below W.heap.size W w'∧aT w' (.slice so sn sc) K
 CI:∀ W,aG W ao n cap d->Calls prog 137 #[.slice ao n cap,.int .i64 (lw-1)] W fun e w'=>e=.returned (.bool hf)∧w'=W
 CW:∀ W,aG W ao n cap d->Calls prog 103 #[.slice ao n cap] W fun e w'=>e=.returned (.int .i64 l)∧w'=W
 CJ:∀ U:Int,0<=U->U<=9007199254740992->∃ J:Int,J=jp false U E∧(0<=J∧J<9218868437227405312)∧∀ W,Calls prog 139 #[gz,.int .i64 U,.int .i64 E] W fun x w'=>x=.returned (.int .i64 J)∧Below W.heap.size W w'
end Go.Proofs.YtkkpppgfoilgmaaGreatDoor
