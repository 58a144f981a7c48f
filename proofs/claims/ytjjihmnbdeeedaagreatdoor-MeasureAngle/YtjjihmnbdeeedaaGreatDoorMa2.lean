/- Parts of the proof. -/
import Derived.Test.YtjjihmnbdeeedaaGreatDoorMa1
import Derived.Tactics
import Derived.Tactics2
import Derived.Defers
import Derived.Recover
import Derived.Laws.Pointers
import Derived.WalkLawsBesides
import Derived.Deep.RegionHeld3
import Derived.Lib.BitFns
import Derived.Lib.ItoaNum
import Derived.Laws.Bits64b
import Derived.Deep.Cut
import Derived.BigRegion
import Derived.WideLaws
set_option maxRecDepth 100000
set_option maxHeartbeats 8000000
set_option linter.unusedVariables false
set_option linter.unusedSimpArgs false
namespace Go.Proofs.YtjjihmnbdeeedaaGreatDoor
open Go Go.Proofs.Tryz Go.RowKit Go.Proofs.YtjjihmnbdeeedaaGreatDoor.M
theorem ae {w:World} {g:Nat} {xs:Array Value} {t:TypeId} (h:w.heap[g]?=some (.cells xs t (0,0))) (i:Nat) {v:Value} (hi:xs[i]?=some v):w.cell? ⟨g,i,none⟩=some v:=by
 rw[cell_of_row w g i xs _ _ h];exact hi
theorem ah {w:World} {g:Nat} {xs:Array Value} {t:TypeId} (h:w.heap[g]?=some (.cells xs t (0,0))) (i:Nat):w.frozen? ⟨g,i,none⟩=false:=by
 simp[World.frozen?,h]
theorem ew (w:World) (a b:Obj):((w.alloc a).alloc b).heap[w.heap.size]?=some a:=by
 show((w.heap.push a).push b)[w.heap.size]?=some a
 simp[Array.getElem?_push]
theorem cZ (w:World) (a b:Obj):((w.alloc a).alloc b).heap[w.heap.size+1]?=some b:=by
 show((w.heap.push a).push b)[w.heap.size+1]?=some b
 rw[Array.getElem?_push,if_pos (by simp)]
theorem jR (w:World) (a b:Obj):((w.alloc a).alloc b).heap.size=w.heap.size+2:=by
 show((w.heap.push a).push b).size=_
 simp
theorem bI.set_below {B:Nat} {w:World} {v:Value} {n:Nat} {d:Nat->Int} (h:bI B w v n d) {a:Addr} (ha:a.block<B) (u:Value):bI B (w.setCell a u) v n d:=ownsRow_setCell_below h ha u
def br (w:World) (v:Value) (V:Int):Prop:=∃ ng s m e,v=.agg #[.bool ng,s,G6 e]∧Dy V ng m e∧dU w s m
def bw (w w':World) (V:Int) (v:Value):Prop:=∃ ng s m e,v=.agg #[.bool ng,s,G6 e]∧Dy V ng m e∧dE w w' m s
def iy:Value:=.agg #[.bool false,.slice none 0 0,G6 0]
theorem bw.below {w w':World} {V:Int} {v:Value} (h:bw w w' V v):Below w.heap.size w w':=by
 obtain⟨ng,s,m,e,_,_,h3⟩:=h
 exact h3.below
theorem bw.num {w w':World} {V:Int} {v:Value} (h:bw w w' V v):br w' v V:=by
 obtain⟨ng,s,m,e,h1,h2,h3⟩:=h
 exact⟨ng,s,m,e,h1,h2,h3.num⟩
theorem bw.from {w0 w w':World} {V:Int} {v:Value} (h:bw w w' V v) (hb:Below w0.heap.size w0 w):bw w0 w' V v:=by
 obtain⟨ng,s,m,e,h1,h2,h3⟩:=h
 exact⟨ng,s,m,e,h1,h2,h3.from hb⟩
theorem bw.stays {w w1 w2:World} {V:Int} {v:Value} (h:bw w w1 V v) (hb:Below w1.heap.size w1 w2):bw w w2 V v:=by
 obtain⟨ng,s,m,e,h1,h2,h3⟩:=h
 exact⟨ng,s,m,e,h1,h2,h3.stays hb⟩
theorem bw.zero {w w':World} (hb:Below w.heap.size w w'):bw w w' 0 iy:=⟨_,_,_,_,rfl,Dy.zero,dE.nil hb⟩
theorem br.keeps {w w':World} {v:Value} {V:Int} (h:br w v V) (hb:Below w.heap.size w w'):br w' v V:=by
 obtain⟨ng,s,m,e,h1,h2,h3⟩:=h
 exact⟨ng,s,m,e,h1,h2,h3.keeps hb⟩
theorem br.zero (w:World):br w iy 0:=(bw.zero (ap w)).num
def lN (w w':World) (V:Int) (v:Value) (er:Int):Prop:=Below w.heap.size w w'∧((eR V∧er=0∧bw w w' V v)∨(¬ eR V∧er=2∧v=iy))
theorem Ok (w:World):(binOp .eql 20 Value.nilIface Value.nilIface).run prog w=.ok (.bool true) w:=by kernel_rfl
theorem Ol (w:World):(binOp .eql 20 (.iface 29 (G6 2)) Value.nilIface).run prog w=.ok (.bool false) w:=by kernel_rfl
theorem Mk (w:World):(binOp .eql 20 (.iface 29 (G6 2)) (.iface 29 (G6 2))).run prog w=.ok (.bool true) w:=by kernel_rfl
theorem vj (p:Addr) (x:Value) (older:List PanicEntry) (w:World) (hc:w.cell? p=some x) (hz:w.frozen? p=false) :
  CallsD prog 218 #[.pointer (some p)] (.panicking ({ v:=.iface 29 (G6 2),recovered:=false } :: older)) w fun e u' w'=>
   e=.returned (.tuple #[])∧u'=.panicking ({ v:=.iface 29 (G6 2),recovered:=true } :: older)∧w'=w.setCell p (G6 2):=by
 have h1:=Ol
 have h2:=Mk
 refine callsD_of_wpS func218 rfl fun c₀ cs hu=>?_
 apply wpS_seq
 apply wpS_region
 simp[wpOpsS,go_sem,recoverD,hu,ntmps218,Exit.thenS]
 refine wpS_of_wp ?_
 go_wp2
 simp[bodyPostS,results,results218]
theorem Ej (p:Addr) (w:World) :
  CallsD prog 218 #[.pointer (some p)] .returning w fun e u' w'=>e=.returned (.tuple #[])∧u'=.returning∧w'=w:=by
 have h1:=Ok
 refine callsD_of_wpS func218 rfl fun c₀ cs hu=>?_
 apply wpS_seq
 apply wpS_region
 simp[wpOpsS,go_sem,recoverD,hu,ntmps218,Exit.thenS]
 refine wpS_of_wp ?_
 go_wp2
 cases c₀
 simp_all[bodyPostS,results,results218]
theorem Ml (F:Nat) (cap:Array Value) (w:World) (hE:∀ w,(callFunc F cap).run prog w=.ok (.enter F cap) w) (hF:∀ W,Below w.heap.size w W->Calls prog F cap W fun r W'=>r=.panicked [{ v:=.iface 29 (G6 2),recovered:=false }]∧Below W.heap.size W W') :
  Calls prog 163 #[.func (.func F) #[] cap] w fun r w'=>r=.returned (.tuple #[.agg #[.bool false,.slice none 0 0,G6 0],G6 2])∧Below w.heap.size w w':=by
 have hmf:∀ (fn:Fn) (first cap:Array Value) (w:World),(Instr.makeFunc fn first cap).run prog w=.ok (.func fn first cap) w:=fun _ _ _ _=>rfl
 go_enter_defers func163,ntmps163
 go_wp2_with fail
 refine(hF _ (aM _ _ _)).mono ?_
 rintro r W' ⟨rfl,hb⟩
 have q1:=(hb.block (w.heap.size+1) (by rw[jR];omega)).trans (cZ _ _ _)
 have q0:=(hb.block w.heap.size (by rw[jR];omega)).trans (ew _ _ _)
 have f0:=ah q1 0
 have k0:=ae q1 0 rfl
 go_wp2_with fail
 refine leaves_cons (f:=218) (args:=#[.pointer (some ⟨w.heap.size+1,0,none⟩)]) (by simp) (by simp[go_sem]) ?_
 refine(vj ⟨w.heap.size+1,0,none⟩ _ [] _ k0 f0).mono ?_
 rintro e u' w'' ⟨rfl,rfl,rfl⟩
 have c0:=ae q0 0 rfl
 have c1:=ae q0 1 rfl
 have c2:=ae q0 2 rfl
 simp[Leaves,settle,results,results163,go_sem,c0,c1,c2,k0]
 exact((aM _ _ _).trans (hb.mono (aM _ _ _).size)).setCell (Nat.le_succ _) _
theorem IR {w W w3:World} {V:Int} {v:Value} (hv:bw W w3 V v) (hb:Below w.heap.size w W) {g:Nat} (h0:w.heap.size<=g) (h1:g+1<W.heap.size) (a b c x:Value) :
  bw w ((((w3.setCell ⟨g,0,none⟩ a).setCell ⟨g,1,none⟩ b).setCell ⟨g,2,none⟩ c).setCell ⟨g+1,0,none⟩ x) V v:=by
 obtain⟨ng,s,m,e,h2,h3,t,d,hO,hN,hV,hB⟩:=hv
 refine⟨ng,s,m,e,h2,h3,t,d,?_,hN,hV,?_⟩
 ·exact((((hO.set_below (a:=⟨g,0,none⟩) (by show g<_;omega) a).set_below (a:=⟨g,1,none⟩) (by show g<_;omega) b).set_below (a:=⟨g,2,none⟩) (by show g<_;omega) c).set_below (a:=⟨g+1,0,none⟩) h1 x).lower hb.size
 ·exact((((hb.trans (hB.mono hb.size)).setCell (p:=⟨g,0,none⟩) h0 a).setCell (p:=⟨g,1,none⟩) h0 b).setCell (p:=⟨g,2,none⟩) h0 c).setCell (p:=⟨g+1,0,none⟩) (Nat.le_succ_of_le h0) x
theorem IS (F:Nat) (cap:Array Value) (w:World) (V:Int) (hE:∀ w,(callFunc F cap).run prog w=.ok (.enter F cap) w) (hF:∀ W,Below w.heap.size w W->Calls prog F cap W fun r W'=>∃ v,r=.returned v∧bw W W' V v) :
  Calls prog 163 #[.func (.func F) #[] cap] w fun r w'=>∃ v,r=.returned (.tuple #[v,G6 0])∧bw w w' V v:=by
 have hmf:∀ (fn:Fn) (first cap:Array Value) (w:World),(Instr.makeFunc fn first cap).run prog w=.ok (.func fn first cap) w:=fun _ _ _ _=>rfl
 go_enter_defers func163,ntmps163
 go_wp2_with fail
 refine(hF _ (aM _ _ _)).mono ?_
 rintro r W' ⟨v,rfl,hD⟩
 have hb:=hD.below
 obtain⟨ng,s,m,e,rfl,hy,hA⟩:=id hD
 obtain⟨so,sn,sc,rfl⟩:=hA.num.shape
 have q1:=(hb.block (w.heap.size+1) (by rw[jR];omega)).trans (cZ _ _ _)
 have q0:=(hb.block w.heap.size (by rw[jR];omega)).trans (ew _ _ _)
 have f0:=ah q1 0
 have k0:=ae q1 0 rfl
 have c0:=ae q0 0 rfl
 have c1:=ae q0 1 rfl
 have c2:=ae q0 2 rfl
 have z0:=ah q0 0
 have z1:=ah q0 1
 have z2:=ah q0 2
 go_wp2_with fail
 refine leaves_cons (f:=218) (args:=#[.pointer (some ⟨w.heap.size+1,0,none⟩)]) (by simp) (by simp[go_sem]) ?_
 refine(Ej ⟨w.heap.size+1,0,none⟩ _).mono ?_
 rintro e u' w'' ⟨rfl,rfl,rfl⟩
 simp[Leaves,settle,results,results163,go_sem,c0,c1,c2,k0]
 exact IR (g:=w.heap.size) hD (aM _ _ _) (Nat.le_refl _) (by rw[jR];omega) _ _ _ _
theorem eE {b:Int} (hb:ag b) (w:World) :
  Calls prog 34 #[G7 (wd b)] w fun e w'=>e=.returned (G7 (wd (rg b)))∧w'=w:=by
 have h1:=jt
 have h2:=gB
 go_enter func34,ntmps34
 go_wp2
 go_ret
 exact⟨gI (Qg hb),rfl⟩
theorem zw {b:Int} (hb:ag b) (w:World) :
  Calls prog 186 #[G7 (wd b)] w fun e w'=>e=.returned (.bool (ak b))∧w'=w:=by
 have n0:=IP hb
 obtain⟨r1,r2⟩:=jN hb
 by_cases h4:aH b=4
 ·have n1:(FloatKind.f64.format.order (wd b) (wd b) != some .eq)=true:=by rw[n0];simp[h4]
  have hp:ak b=false:=by
   cases h:ak b
   ·rfl
   ·exact absurd h4 (bW h)
  clear n0
  go_enter func186,ntmps186
  go_wp2
  go_ret
  exact⟨cX hp.symm,rfl⟩
 ·have n1:(FloatKind.f64.format.order (wd b) (wd b) != some .eq)=false:=by rw[n0];simp[h4]
  have c1:¬ aH (rg b)=4:=by rw[oO hb];exact h4
  have c2:¬ aH 9218868437227405311=4:=by decide
  have r3:ag 9218868437227405311:=by unfold ag;omega
  have k1:=lK r2
  have k2:au 9218868437227405311=9218868437227405311:=by decide
  have e2:wd 9218868437227405311=9218868437227405311:=by decide
  have hp:=lq hb
  clear n0
  rcases Int.lt_trichotomy (rg b) 9218868437227405311 with h|h|h
  ·have o:=iG r1 r3 c1 c2 (by rw[k1,k2];exact h)
   rw[e2] at o
   have hp':ak b=true:=by rw[hp];simp;omega
   clear hp
   go_enter func186,ntmps186
   go_wp2_with (go_at_call 34;refine(eE hb _).mono ?_;rintro _ _ ⟨rfl,rfl⟩)
   go_ret
   exact⟨cX hp'.symm,rfl⟩
  ·have o:=ii r1 r3 c1 c2 (by rw[k1,k2];exact h)
   rw[e2] at o
   have hp':ak b=true:=by rw[hp];simp;omega
   clear hp
   go_enter func186,ntmps186
   go_wp2_with (go_at_call 34;refine(eE hb _).mono ?_;rintro _ _ ⟨rfl,rfl⟩)
   go_ret
   exact⟨cX hp'.symm,rfl⟩
  ·have o:=iH r1 r3 c1 c2 (by rw[k1,k2];exact h)
   rw[e2] at o
   have hp':ak b=false:=by rw[hp];simp;omega
   clear hp
   go_enter func186,ntmps186
   go_wp2_with (go_at_call 34;refine(eE hb _).mono ?_;rintro _ _ ⟨rfl,rfl⟩)
   go_ret
   exact⟨cX hp'.symm,rfl⟩
theorem FF {b:Int} (hb:ag b) (w:World) :
    Calls prog 57 #[G6 b] w fun e w'=>e=.returned (.bool (dC b))∧w'=w:=by
  obtain⟨r1,r2⟩:=jN hb
  have k1:=lK r2
  have z1:wd 0=0:=by decide
  have z2:wd 3931642474694443008=3931642474694443008:=by decide
  have z3:wd 5282722362905591808=5282722362905591808:=by decide
  have s1:=qr r1 (show ag 0 by unfold ag;omega)
  have s2:=Ef r1 (show ag 5282722362905591808 by unfold ag;omega)
  have o0:=@gH
  by_cases h4:aH (rg b)=4
  · have o1:=gH r1 (show ag 0 by unfold ag;omega) (.inl h4)
    have o2:=gH (show ag 3931642474694443008 by unfold ag;omega) r1 (.inr h4)
    rw[z1] at o1
    rw[z2] at o2
    have ht:dC b=false:=by
      have h5:aH b=4:=by rw[<- oO hb];exact h4
      have h6:bQ b=2047:=by
        unfold aH at h5;split at h5
        · assumption
        · split at h5
          · split at h5<;>omega
          · omega
      have:=gU hb
      have h7:0<=cA b∧cA b<4503599627370496:=by unfold cA;omega
      rw[qt hb,h6]
      simp
      omega
    clear s1 s2 o0
    go_enter func57,ntmps57
    go_wp2_with (first
      | (go_at_call 58;refine(bU _ _).mono ?_;rintro _ _ ⟨rfl,rfl⟩)
      | (go_at_call 34; refine (eE hb _).mono ?_; rintro _ _ ⟨rfl,rfl⟩))
    go_ret
    exact⟨cX ht.symm,rfl⟩
  · have c0:¬ aH 0=4:=by decide
    have c2:¬ aH 3931642474694443008=4:=by decide
    have c3:¬ aH 5282722362905591808=4:=by decide
    have y0:ag 0:=by unfold ag;omega
    have y2:ag 3931642474694443008:=by unfold ag;omega
    have y3:ag 5282722362905591808:=by unfold ag;omega
    have m0:au 0=0:=by decide
    have m2:au 3931642474694443008=3931642474694443008:=by decide
    have m3:au 5282722362905591808=5282722362905591808:=by decide
    clear s1 s2 o0
    by_cases e0:rg b=0
    · have o1:=ii r1 y0 h4 c0 (by rw[k1,m0];exact e0)
      rw[z1] at o1
      have ht:dC b=true:=by unfold dC;simp[e0]
      go_enter func57,ntmps57
      go_wp2_with (first
        | (go_at_call 58;refine(bU _ _).mono ?_;rintro _ _ ⟨rfl,rfl⟩)
        | (go_at_call 34; refine (eE hb _).mono ?_; rintro _ _ ⟨rfl,rfl⟩))
      go_ret
      exact⟨cX ht.symm,rfl⟩
    have o1:=iH r1 y0 h4 c0 (by rw[k1,m0];omega)
    rw[z1] at o1
    by_cases e1:rg b<3931642474694443008
    · have o2:=iH y2 r1 c2 h4 (by rw[k1,m2];exact e1)
      rw[z2] at o2
      have ht:dC b=false:=by unfold dC;simp[e0];omega
      go_enter func57,ntmps57
      go_wp2_with (first
        | (go_at_call 58;refine(bU _ _).mono ?_;rintro _ _ ⟨rfl,rfl⟩)
        | (go_at_call 34; refine (eE hb _).mono ?_; rintro _ _ ⟨rfl,rfl⟩))
      go_ret
      exact⟨cX ht.symm,rfl⟩
    by_cases e2:rg b=3931642474694443008
    · have o2:=ii y2 r1 c2 h4 (by rw[k1,m2];exact e2.symm)
      have o3:=iG r1 y3 h4 c3 (by rw[k1,m3];omega)
      rw[z2] at o2
      rw[z3] at o3
      have ht:dC b=true:=by unfold dC;simp[e2]
      go_enter func57,ntmps57
      go_wp2_with (first
        | (go_at_call 58;refine(bU _ _).mono ?_;rintro _ _ ⟨rfl,rfl⟩)
        | (go_at_call 34; refine (eE hb _).mono ?_; rintro _ _ ⟨rfl,rfl⟩))
      go_ret
      exact⟨cX ht.symm,rfl⟩
    have o2:=iG y2 r1 c2 h4 (by rw[k1,m2];omega)
    rw[z2] at o2
    rcases Int.lt_trichotomy (rg b) 5282722362905591808 with h|h|h
    · have o3:=iG r1 y3 h4 c3 (by rw[k1,m3];omega)
      rw[z3] at o3
      have ht:dC b=true:=by unfold dC;simp[e0];omega
      go_enter func57,ntmps57
      go_wp2_with (first
        | (go_at_call 58;refine(bU _ _).mono ?_;rintro _ _ ⟨rfl,rfl⟩)
        | (go_at_call 34; refine (eE hb _).mono ?_; rintro _ _ ⟨rfl,rfl⟩))
      go_ret
      exact⟨cX ht.symm,rfl⟩
    · have o3:=ii r1 y3 h4 c3 (by rw[k1,m3];omega)
      rw[z3] at o3
      have ht:dC b=false:=by unfold dC;simp[e0];omega
      go_enter func57,ntmps57
      go_wp2_with (first
        | (go_at_call 58;refine(bU _ _).mono ?_;rintro _ _ ⟨rfl,rfl⟩)
        | (go_at_call 34; refine (eE hb _).mono ?_; rintro _ _ ⟨rfl,rfl⟩))
      go_ret
      exact⟨cX ht.symm,rfl⟩
    · have o3:=iH r1 y3 h4 c3 (by rw[k1,m3];omega)
      rw[z3] at o3
      have ht:dC b=false:=by unfold dC;simp[e0];omega
      go_enter func57,ntmps57
      go_wp2_with (first
        | (go_at_call 58;refine(bU _ _).mono ?_;rintro _ _ ⟨rfl,rfl⟩)
        | (go_at_call 34; refine (eE hb _).mono ?_; rintro _ _ ⟨rfl,rfl⟩))
      go_ret
      exact⟨cX ht.symm,rfl⟩
theorem xB {p B g o:Nat} {v x0 x1:Value} {W:World} (hg:B<=g) (h:p<B∧B<=W.heap.size∧W.cell? ⟨p,0,none⟩=some x0∧W.cell? ⟨p,1,none⟩=some x1) :
  p<B∧B<=(W.setCell ⟨g,o,none⟩ v).heap.size∧(W.setCell ⟨g,o,none⟩ v).cell? ⟨p,0,none⟩=some x0∧(W.setCell ⟨g,o,none⟩ v).cell? ⟨p,1,none⟩=some x1:=by
 have hw:Wr g W (W.setCell ⟨g,o,none⟩ v):=(Wr.refl g W).setCell o v
 obtain⟨h1,h2,a0,a1⟩:=h
 have hp:p<W.heap.size:=by omega
 have hne:p≠g:=by omega
 exact⟨h1,Nat.le_trans h2 hw.size,(hw.cell hp hne).trans a0,(hw.cell hp hne).trans a1⟩
theorem az {w:World} {g:Nat} {xs:Array Value} {t:TypeId} (h:w.heap[g]?=some (.cells xs t (0,0))) (i:Nat) (v:Value):(w.setCell ⟨g,i,none⟩ v).heap[g]?=some (.cells (xs.setIfInBounds i v) t (0,0)):=by
 simp[World.setCell,Array.getElem?_modify,h]
def sE (b:Bool):Int:=if b then 0 else 10
def vk (d:Nat->Int) (n:Nat):Bool:=decide (∀ i,i<n->ak (d i)=true)
theorem FG (ao:Option Addr) (n cap:Nat) (d:Nat->Int) (w:World) (h:aU w ao n cap d) (hd:∀ i,i<n->ag (d i)) :
    Calls prog 128 #[.slice ao n cap] w fun e w'=>e=.returned (G6 (sE (vk d n)))∧w'=w:=by
  have hl:=h.le
  have hm:=h.max
  go_enter func128,ntmps128
  go_wp2_with fail
  go_loop [7] (fun i=>∃ k:Nat,k<=n∧i=G6 k∧Hid (∀ j,j<k->ak (d j)=true)) (fun i=>n-(intOf i).toNat)
  case atStart=>exact⟨0,Nat.zero_le _,rfl,fun j hj=>by omega⟩
  case round=>
    obtain⟨k,hk,rfl,HO⟩:=hrel
    by_cases hlt:k<n
    · obtain⟨b,off,rfl,hb,hc⟩:=h.spot (by omega)
      have c0:=hc k hlt
      have hr:=hd k hlt
      by_cases hok:ak (d k)=true
      · go_wp2_with (first
          | (go_at_call 58;refine(bU _ _).mono ?_;rintro _ _ ⟨rfl,rfl⟩)
          | (go_at_call 186; refine (zw hr _).mono ?_; rintro _ _ ⟨rfl,rfl⟩))
        go_round
        case rel=>exact ⟨k+1,by omega,by go_num,fun j hj=>by
            by_cases e:j=k
            · subst e;exact hok
            · exact HO.out j (by omega)⟩
        case measure=>simp[intOf];omega
      · have hok':ak (d k)=false:=by simpa using hok
        go_wp2_with (first
          | (go_at_call 58;refine(bU _ _).mono ?_;rintro _ _ ⟨rfl,rfl⟩)
          | (go_at_call 186; refine (zw hr _).mono ?_; rintro _ _ ⟨rfl,rfl⟩))
        go_ret
        exact ⟨ce (by
          unfold sE
          rw[if_neg]
          intro hx
          exact hok (of_decide_eq_true hx k hlt)),rfl⟩
    · obtain rfl:k=n:=by omega
      go_wp2
      go_ret
      exact⟨ce (by unfold sE;rw[if_pos (show vk d k=true from decide_eq_true HO.out)]),rfl⟩
theorem Mm (x y:Int):vk (fun i=>if i=0 then x else y) 2=(ak x&&ak y):=by
 unfold vk
 rw[Bool.eq_iff_iff]
 simp
 constructor
 ·intro h
  exact⟨by simpa using h 0 (by omega),by simpa using h 1 (by omega)⟩
 ·rintro⟨h1,h2⟩ i hi
  split
  ·exact h1
  ·exact h2
theorem Om (w:World) (o:Obj) (x y:Int) (t:TypeId):aU ((w.alloc o).alloc (.cells #[G6 x,G6 y] t)) (some ⟨w.heap.size+1,0,none⟩) 2 2 (fun i=>if i=0 then x else y) :=
  ⟨by omega,by omega,(fun h=>by cases h),fun _=>⟨_,_,rfl,by simp,fun i hi=>by
    have e:((w.alloc o).alloc (.cells #[G6 x,G6 y] t)).heap[w.heap.size+1]?=some (.cells #[G6 x,G6 y] t):=cZ w o _
    unfold World.cell?
    rw[show((⟨w.heap.size+1,0+i,none⟩:Addr)).block=w.heap.size+1 from rfl,e]
    match i,hi with
    | 0,_=>rfl
    | 1,_=>rfl⟩⟩
theorem Ek {x y:Int} (hx:ag x) (hy:ag y) (w:World) :
  Calls prog 65 #[.agg #[G6 x,G6 y]] w fun e w'=>e=.returned (G6 (sE (ak x&&ak y)))∧Below w.heap.size w w':=by
 have hr:=Om w (.cells #[G6 x,G6 y] 33) x y 3
 have e2:=Mm x y
 go_enter func65,ntmps65
 go_wp2_with fail
 refine(FG _ _ _ _ _ hr (fun i _=>by show ag (if i=0 then x else y);split<;>assumption)).mono ?_
 rintro _ _ ⟨rfl,rfl⟩
 go_wp2
 go_ret
 exact⟨ce (by rw[<- e2]),aM _ _ _⟩
theorem Cu {b:Int} (hb:ag b) (w:World) :
  Calls prog 79 #[G6 b] w fun e w'=>e=.returned (.bool (ak b))∧w'=w:=by
 have hb':=hb
 unfold ag at hb'
 have hm:bits .and .i64 (b/4503599627370496) 2047=bQ b:=iQ (b/4503599627370496) 11 (by omega)
 go_enter func79,ntmps79
 go_wp2
 go_ret
 exact⟨cX (by unfold ak;by_cases h:bQ b=2047<;>simp[h]),rfl⟩
theorem BK {x y:Int} (hx:ag x) (hy:ag y) (w:World) :
  Calls prog 28 #[.agg #[G6 x,G6 y]] w fun e w'=>e=.returned (.bool (ak x&&ak y))∧Below w.heap.size w w':=by
 cases h1:ak x<;>cases h2:ak y
 all_goals
  go_enter func28,ntmps28
  go_wp2_with fail
  refine(Cu hx _).mono ?_
  rintro _ _ ⟨rfl,rfl⟩
  go_wp2_with fail
  refine(Cu hy _).mono ?_
  rintro _ _ ⟨rfl,rfl⟩
  go_wp2
  go_ret
  exact⟨rfl,af _ _⟩
def q0 (b:Int):Int:=if b=-9223372036854775808 then 0 else b
theorem zC (b:Int) (w:World) :
  Calls prog 170 #[G6 b] w fun e w'=>e=.returned (G6 (q0 b))∧w'=w:=by
 by_cases h:b=-9223372036854775808
 ·subst h
  go_enter func170,ntmps170
  go_wp2
  go_ret
  exact⟨rfl,rfl⟩
 ·have hr:q0 b=b:=by unfold q0;rw[if_neg h]
  go_enter func170,ntmps170
  go_wp2
  go_ret
  exact⟨ce (by first|rfl|exact hr.symm),rfl⟩
theorem FH {b:Int} (hb:ag b) (w:World) :
  Calls prog 120 #[G6 b] w fun e w'=>e=.returned (G6 (au b))∧w'=w:=by
 unfold ag at hb
 by_cases h:b<0
 ·have hr:au b=-(b+9223372036854775808):=by unfold au;rw[if_pos h]
  go_enter func120,ntmps120
  go_wp2
  go_ret
  exact⟨ce (by first|rfl|omega|(rw[hr];omega)),rfl⟩
 ·have hr:au b=b:=by unfold au;rw[if_neg h]
  go_enter func120,ntmps120
  go_wp2
  go_ret
  exact⟨ce (by first|rfl|exact hr.symm),rfl⟩
theorem Qh {b:Int} (hb:ag b):q0 b=0↔rg b=0:=by
 unfold ag at hb;unfold q0 rg
 repeat' split
 all_goals omega
theorem FI {b:Int} (hb:ag b) (w:World) :
  Calls prog 105 #[G6 b] w fun e w'=>e=.returned (.bool (dC b))∧w'=w:=by
 have ht:=qt hb
 have hz:=Qh hb
 have hf:=mJ b
 have hm:bits .and .i64 (b/4503599627370496) 2047=bQ b:=iQ (b/4503599627370496) 11 (by omega)
 have hb':=hb
 unfold ag at hb'
 generalize bQ b=f at *
 by_cases h0:q0 b=0
 ·rw[decide_eq_true (hz.1 h0),Bool.true_or] at ht
  go_enter func105,ntmps105
  go_wp2_with (go_at_call 170;refine(zC _ _).mono ?_;rintro _ _ ⟨rfl,rfl⟩)
  go_ret
  exact⟨cX (by first|rfl|exact ht.symm|(rw[ht];simp;omega)|(simp;omega)),rfl⟩
 ·rw[decide_eq_false (fun h=>h0 (hz.2 h)),Bool.false_or] at ht
  by_cases h1:873<=f
  ·by_cases h2:f<1173
   all_goals
    simp[h1,h2] at ht
    go_enter func105,ntmps105
    go_wp2_with (go_at_call 170;refine(zC _ _).mono ?_;rintro _ _ ⟨rfl,rfl⟩)
    go_ret
    exact⟨cX (by first|rfl|exact ht.symm|(rw[ht];simp;omega)|(simp;omega)),rfl⟩
  ·simp[h1] at ht
   go_enter func105,ntmps105
   go_wp2_with (go_at_call 170;refine(zC _ _).mono ?_;rintro _ _ ⟨rfl,rfl⟩)
   go_ret
   exact⟨cX (by first|rfl|exact ht.symm|(rw[ht];simp;omega)|(simp;omega)),rfl⟩
instance (d:Nat->Int) (n:Nat):Decidable (bP d n):=by unfold bP;infer_instance
instance (d:Nat->Int) (n:Nat):Decidable (sA d n):=by unfold sA;infer_instance
instance (d:Nat->Int) (n:Nat):Decidable (cT d n):=by unfold cT;infer_instance
def zD (d:Nat->Int) (n:Nat):Bool:=decide (n<=2000∧cT d n)
theorem Cv {d:Nat->Int} {n:Nat} (h:n<=2000) (k:cT d n):zD d n=true:=by simp[zD,h,k]
theorem vl {d:Nat->Int} {n:Nat} (h:¬ (n<=2000∧cT d n)):zD d n=false:=by simp only[zD,h,decide_false]
theorem bz {a b:Bool} (h:a=b):Ending.returned (.bool a)=.returned (.bool b):=by rw[h]
theorem de {k:IntKind} {a b:Int} (h:a=b):Ending.returned (.int k a)=.returned (.int k b):=by rw[h]
theorem zE {d:Nat->Int} {k:Nat} (h:bP d k) (h0:0<=d k) (h1:d k<1073741824):bP d (k+1):=fun i hi=>by
 by_cases e:i=k
 ·rw[e];exact⟨h0,h1⟩
 ·exact h i (by omega)
theorem FJ (ao:Option Addr) (n cap:Nat) (d:Nat->Int) (w:World) (h:aU w ao n cap d) :
  Calls prog 193 #[.slice ao n cap] w fun e w'=>e=.returned (.bool (zD d n))∧w'=w:=by
 have hl:=h.le
 have hm:=h.max
 by_cases h2k:n<=2000
 ·go_enter func193,ntmps193
  go_wp2
  go_loop [9] (fun i=>∃ k:Nat,k<=n∧i=G6 k∧bP d k) (fun i=>n-(intOf i).toNat)
  case atStart=>exact⟨0,Nat.zero_le _,rfl,fun i hi=>absurd hi (by omega)⟩
  case round=>
   obtain⟨k,hk,rfl,hd⟩:=hrel
   by_cases hlt:k<n
   ·obtain⟨b,off,rfl,hb,hc⟩:=h.spot (by omega)
    have c:=hc k hlt
    by_cases h0:d k<0
    ·go_wp2
     go_ret
     exact⟨bz (vl (fun ⟨_,q⟩=>by have:=(q.1 k hlt).1;omega)).symm,rfl⟩
    ·by_cases h1:1073741823<d k
     ·go_wp2
      go_ret
      exact⟨bz (vl (fun ⟨_,q⟩=>by have:=(q.1 k hlt).2;omega)).symm,rfl⟩
     ·go_wp2
      go_round
      case rel=>exact⟨k+1,by omega,by go_num,zE hd (by omega) (by omega)⟩
      case measure=>simp[intOf];omega
   ·obtain rfl:k=n:=by omega
    by_cases h0:k=0
    ·subst h0
     go_wp2
     go_ret
     exact⟨bz (Cv h2k ⟨hd,.inl rfl⟩).symm,rfl⟩
    ·obtain⟨b,off,rfl,hb,hc⟩:=h.spot (by omega)
     have c:=hc (k-1) (by omega)
     by_cases h1:d (k-1)=0
     ·go_wp2
      go_ret
      exact⟨bz ((show _=false by simp;omega).trans (vl (fun ⟨_,q⟩=>by rcases q.2 with e|e<;>omega)).symm),rfl⟩
     ·go_wp2
      go_ret
      exact⟨bz ((show _=true by simp;omega).trans (Cv h2k ⟨hd,.inr h1⟩).symm),rfl⟩
 ·go_enter func193,ntmps193
  go_wp2
  go_ret
  exact⟨bz (vl (fun ⟨q,_⟩=>h2k q)).symm,rfl⟩
theorem ml (ao:Option Addr) (n cap:Nat) (d:Nat->Int) (w:World) (h:aU w ao n cap d) :
  Calls prog 222 #[.slice ao n cap] w fun e w'=>∃ t:Nat,t<=n∧sA d t∧(∀ i,t<=i->i<n->d i=0)∧e=.returned (qy ao t cap)∧w'=w:=by
 have hl:=h.le
 have hm:=h.max
 go_enter func222,ntmps222
 go_wp2
 go_loop [3] (fun i=>∃ k:Nat,k<=n∧i=G6 k∧∀ i,k<=i->i<n->d i=0) (fun i=>(intOf i).toNat)
 case atStart=>exact⟨n,Nat.le_refl _,rfl,fun i a b=>by omega⟩
 case round=>
  obtain⟨k,hk,rfl,hz⟩:=hrel
  have HZ:Hid (∀ i,k<=i->i<n->d i=0):=hz
  clear hz
  by_cases h0:k=0
  ·subst h0
   go_wp2
   go_ret
   exact⟨0,by omega,.inl rfl,HZ.out,rfl,rfl⟩
  ·obtain⟨b,off,rfl,hb,hc⟩:=h.spot (by omega)
   have c:=hc (k-1) (by omega)
   by_cases h1:d (k-1)=0
   ·go_wp2
    go_round
    case rel=>exact⟨k-1,by omega,by go_num,fun i a b=>by by_cases e:i=k-1;(· rw[e];exact h1);(· exact HZ.out i (by omega) b)⟩
    case measure=>simp[intOf];omega
   ·go_wp2
    go_ret
    exact⟨k,hk,.inr h1,HZ.out,by unfold qy;rw[if_neg h0];simp,rfl⟩
end Go.Proofs.YtjjihmnbdeeedaaGreatDoor
namespace Go.Proofs.YtjjihmnbdeeedaaGreatDoor.M
open Go Go.Proofs.Tryz
def aQ (V:Int):Nat:=if V<=0 then 0 else Nat.log2 V.toNat+1
theorem sF:aQ 0=0:=by decide
theorem ls (V:Int):V<2^aQ V:=by
 unfold aQ
 split
 ·show V<1;omega
 ·have h:=@Nat.lt_log2_self V.toNat
  have e:((V.toNat:Nat):Int)<((2^(Nat.log2 V.toNat+1):Nat):Int):=Int.ofNat_lt.2 h
  rw[Int.toNat_of_nonneg (by omega)] at e
  simpa using e
theorem iJ {V:Int} (h:0<V):1<=aQ V∧2^(aQ V-1)<=V:=by
 unfold aQ
 rw[if_neg (by omega)]
 refine⟨by omega,?_⟩
 have h1:=Nat.log2_self_le (n:=V.toNat) (by omega)
 have e:((2^Nat.log2 V.toNat:Nat):Int)<=((V.toNat:Nat):Int):=Int.ofNat_le.2 h1
 rw[Int.toNat_of_nonneg (by omega)] at e
 simpa using e
theorem iz {j k:Nat} (h:(2:Int)^j<2^k):j<k:=by
 rcases Nat.lt_or_ge j k with h1|h1
 ·exact h1
 ·have:=eG h1;omega
theorem fO {V:Int} {k:Nat} (h:V<2^k):aQ V<=k:=by
 by_cases h0:0<V
 ·obtain⟨h1,h2⟩:=iJ h0
  have:=iz (show(2:Int)^(aQ V-1)<2^k by omega)
  omega
 ·unfold aQ;rw[if_pos (by omega)];omega
theorem wC {V:Int} {k:Nat} (h:2^k<=V):k<aQ V:=by
 have h1:=ls V
 exact iz (by omega)
theorem pN {V:Int} {k:Nat} (h1:2^k<=V) (h2:V<2^(k+1)):aQ V=k+1:=by
 have a:=wC h1
 have b:=fO h2
 omega
theorem FK {x:Int} (h0:0<=x) (h1:x<18446744073709551616):(Lib.bitLen x.toNat:Int)=aQ x:=by
 by_cases hx:x=0
 ·subst hx;decide
 ·obtain⟨a,b,c⟩:=Lib.bitLenAux_bounds 64 x.toNat (by omega) (by omega)
  have e:aQ x=Lib.bitLen x.toNat:=by
   have hb:Lib.bitLen x.toNat=Lib.bitLenAux 64 x.toNat:=rfl
   rw[<- hb] at a b c
   obtain⟨k,hk⟩:∃ k,Lib.bitLen x.toNat=k+1:=⟨Lib.bitLen x.toNat-1,by omega⟩
   rw[hk] at b c ⊢
   have b':((2^k:Nat):Int)<=((x.toNat:Nat):Int):=Int.ofNat_le.2 (by simpa using b)
   have c':((x.toNat:Nat):Int)<((2^(k+1):Nat):Int):=Int.ofNat_lt.2 c
   rw[Int.toNat_of_nonneg h0] at b' c'
   exact pN (by simpa using b') (by simpa using c')
  rw[e]
theorem qD {d:Nat->Int} {n:Nat} (h:cT d (n+1)):aQ (val d (n+1))=30*n+aQ (d n):=by
 have hd:=h.1 n (by omega)
 have ht:d n≠0:=by rcases h.2 with e|e;(· omega);(· simpa using e)
 have hp:0<d n:=by omega
 obtain⟨a,b⟩:=iJ hp
 have c:=ls (d n)
 have v0:=bL (h.1.le (Nat.le_succ n))
 have v1:=dF (h.1.le (Nat.le_succ n))
 have pp:=dt n
 obtain⟨k,hk⟩:∃ k,aQ (d n)=k+1:=⟨aQ (d n)-1,by omega⟩
 rw[hk] at b c ⊢
 rw[show 30*n+(k+1)=(30*n+k)+1 by omega]
 have e1:(2:Int)^(30*n+k)=2^k*P n:=by rw[Int.pow_add,ft,Int.mul_comm]
 have e2:(2:Int)^(30*n+k+1)=2^(k+1)*P n:=by rw[show 30*n+k+1=30*n+(k+1) by omega,Int.pow_add,ft,Int.mul_comm]
 have f1:(2:Int)^k*P n<=d n*P n:=Int.mul_le_mul_of_nonneg_right (by simpa using b) (by omega)
 have f2:(d n+1)*P n<=2^(k+1)*P n:=Int.mul_le_mul_of_nonneg_right (by omega) (by omega)
 rw[Int.add_mul] at f2
 apply pN
 ·rw[e1,aZ];omega
 ·rw[e2,aZ];omega
end Go.Proofs.YtjjihmnbdeeedaaGreatDoor.M
namespace Go.Proofs.YtjjihmnbdeeedaaGreatDoor
open Go Go.Proofs.Tryz Go.RowKit Go.Proofs.YtjjihmnbdeeedaaGreatDoor.M
theorem jg (x q:Int) (s:Nat) (h:q.toNat<Lib.len8tab.size) (hq0:0<=q) (hq:q<=255) (hs:s<=56) (hb:Lib.bitLen x.toNat=s+Lib.bitLen q.toNat) :
  wrap64 ((s:Int)+wrap64 ((Lib.len8tab[q.toNat]'h).toNat:Int))=(Lib.bitLen x.toNat:Int):=by
 have e:=Lib.len8_of q hq0 hq
 have l:=Lib.bitLen_le8' q hq0 hq
 unfold Lib.len8 at e
 rw[getElem?_pos Lib.len8tab q.toNat h] at e
 simp only[Option.getD_some] at e
 rw[e,hb]
 unfold wrap64
 omega
theorem El (x:Int) (h:x.toNat<Lib.len8tab.size) (hq0:0<=x) (hq:x<=255) :
  wrap64 (wrap64 ((Lib.len8tab[x.toNat]'h).toNat:Int))=(Lib.bitLen x.toNat:Int):=by
 have:=jg x x 0 h hq0 hq (by omega) (by omega)
 simpa using this
theorem qE (x q:Int) (s:Nat) (h0:0<=x) (h1:x<=18446744073709551615) (hx:((2^s:Nat):Int)<=x) (e:q=x/((2^s:Nat):Int)):Lib.bitLen x.toNat=s+Lib.bitLen q.toNat:=by
 rw[Lib.bitLen_shift s x.toNat (by omega) (by omega),e]
 congr 2
 obtain⟨n,rfl⟩:=Int.eq_ofNat_of_zero_le h0
 rw[<- Int.natCast_ediv,Int.toNat_natCast,Int.toNat_natCast]
theorem Qi (x:Int) (w:World) (h0:0<=x) (h1:x<=18446744073709551615) :
  Calls prog 288 #[.int .u64 x] w fun e w'=>e=.returned (G6 (Lib.bitLen x.toNat))∧w'=w:=by
 have hs:Lib.len8tab.size=256:=by decide +kernel
 go_enter func288,ntmps288
 go_wp2
 all_goals go_ret
 ·exact⟨de (jg x _ 56 _ (by omega) (by omega) (by omega) (qE x _ 56 h0 h1 (by omega) (by omega))),rfl⟩
 ·exact⟨de (jg x _ 48 _ (by omega) (by omega) (by omega) (qE x _ 48 h0 h1 (by omega) (by omega))),rfl⟩
 ·exact⟨de (jg x _ 40 _ (by omega) (by omega) (by omega) (qE x _ 40 h0 h1 (by omega) (by omega))),rfl⟩
 ·exact⟨de (jg x _ 32 _ (by omega) (by omega) (by omega) (qE x _ 32 h0 h1 (by omega) (by omega))),rfl⟩
 ·exact⟨de (jg x _ 24 _ (by omega) (by omega) (by omega) (qE x _ 24 h0 h1 (by omega) (by omega))),rfl⟩
 ·exact⟨de (jg x _ 16 _ (by omega) (by omega) (by omega) (qE x _ 16 h0 h1 (by omega) (by omega))),rfl⟩
 ·exact⟨de (jg x _ 8 _ (by omega) (by omega) (by omega) (qE x _ 8 h0 h1 (by omega) (by omega))),rfl⟩
 ·exact⟨de (El x _ (by omega) (by omega)),rfl⟩
theorem Cw (x:Int) (w:World) (h0:0<=x) (h1:x<=18446744073709551615) :
  Calls prog 245 #[.int .u64 x] w fun e w'=>e=.returned (G6 (aQ x))∧w'=w:=by
 go_enter func245,ntmps245
 go_wp2_with (go_at_call 288;refine(Qi _ _ (by omega) (by omega)).mono ?_;rintro e w' ⟨rfl,rfl⟩)
 go_ret
 exact⟨de (FK h0 (by omega)),rfl⟩
theorem FL (x:Int) (w:World) (h0:0<=x) (h1:x<9223372036854775808) :
  Calls prog 272 #[G6 x] w fun e w'=>e=.returned (G6 (aQ x))∧w'=w:=by
 go_enter func272,ntmps272
 go_wp2_with (go_at_call 245;refine(Cw _ _ (by omega) (by omega)).mono ?_;rintro e w' ⟨rfl,rfl⟩)
 go_ret
 exact⟨rfl,rfl⟩
theorem kZ (ao:Option Addr) (n cap:Nat) (d:Nat->Int) (w:World) (h:aU w ao n cap d) (hd:cT d n) (hn:n<=1000000) :
  Calls prog 224 #[.slice ao n cap] w fun e w'=>e=.returned (G6 (aQ (val d n)))∧w'=w:=by
 have hl:=h.le
 have hm:=h.max
 by_cases h0:n=0
 ·subst h0
  go_enter func224,ntmps224
  go_wp2
  go_ret
  exact⟨rfl,rfl⟩
 ·obtain⟨k,rfl⟩:∃ k,n=k+1:=⟨n-1,by omega⟩
  obtain⟨b,off,rfl,hb,hc⟩:=h.spot (by omega)
  have c:=hc k (by omega)
  have dk:=hd.1 k (by omega)
  have hbl:aQ (d k)<=30:=fO (by show d k<1073741824;exact dk.2)
  go_enter func224,ntmps224
  go_wp2_with (go_at_call 272;refine(FL _ _ (by omega) (by omega)).mono ?_;rintro e w' ⟨rfl,rfl⟩)
  go_ret
  exact⟨de (by rw[qD hd];omega),rfl⟩
theorem xC (r:Nat->Int) (q k:Nat) (x:Int):(fun i=>cr r (q+k) x (q+i))=cr (fun i=>r (q+i)) k x:=by
 funext i
 unfold cr
 by_cases h:i=k
 ·simp[h]
 ·simp[h]
theorem wD {x:Int} {p:Nat} (hx:0<=x∧x<1073741824) (hp:p<=30):0<=x*2^p∧x*2^p<=1073741823*2^p∧(2:Int)^p<=1073741824:=by
 have h:=aR p
 exact⟨Int.mul_nonneg hx.1 (by omega),Int.mul_le_mul_of_nonneg_right (by omega) (by omega),eG hp⟩
structure qF (q p N n:Nat) (a r0:Nat->Int) (s:Int) (k:Nat) (c:Int) (r:Nat->Int):Prop where
 rest:∀ i,q+k<=i->r i=r0 i
 near:∀ i,0<=s*(r i-r0 i)∧s*(r i-r0 i)<1073741824
 sum:∃ T,val r N=val r0 N+s*(P q*T)∧T+c*P k=2^p*val a k
theorem qF.put {q p N n:Nat} {a r0:Nat->Int} {s:Int} {k:Nat} {c:Int} {r:Nat->Int} (h:qF q p N n a r0 s k c r) (hs:s*s=1) (hN:q+k<N) {m c':Int} (hm:0<=m∧m<1073741824) (e:m+c'*1073741824=c+a k*2^p) :
  qF q p N n a r0 s (k+1) c' (cr r (q+k) (r (q+k)+s*m)):=by
 refine⟨fun i hi=>by rw[bg r _ (by omega)];exact h.rest i (by omega),fun i=>?_,?_⟩
 ·by_cases hi:i=q+k
  ·subst hi
   rw[bG,h.rest _ (Nat.le_refl _),show s*(r0 (q+k)+s*m-r0 (q+k))=s*s*m by grind,hs]
   omega
  ·rw[bg r _ hi];exact h.near i
 ·obtain⟨T,e1,e2⟩:=h.sum
  refine⟨T+m*P k,?_,?_⟩
  ·rw[Cn r _ hN,e1,qw];grind
  ·rw[aZ,kQ]
   have:c'*(P k*1073741824)=(c+a k*2^p-m)*P k:=by rw[show c+a k*2^p-m=c'*1073741824 by omega];grind
   rw[this,show T+m*P k+(c+a k*2^p-m)*P k=(T+c*P k)+a k*2^p*P k by grind,e2];grind
structure tw (N:Nat) (r0:Nat->Int) (s V:Int) (r:Nat->Int):Prop where
 near:∀ i,0<=s*(r i-r0 i)∧s*(r i-r0 i)<1073741824
 sum:val r N=val r0 N+s*V
theorem qF.done {q p N n:Nat} {a r0:Nat->Int} {s:Int} {c:Int} {r:Nat->Int} (h:qF q p N n a r0 s n c r) (hs:s*s=1) (hN:q+n<N) (hc:0<=c∧c<1073741824) :
  tw N r0 s (P q*(2^p*val a n)) (cr r (q+n) (r (q+n)+s*c)):=by
 refine⟨fun i=>?_,?_⟩
 ·by_cases hi:i=q+n
  ·subst hi
   rw[bG,h.rest _ (Nat.le_refl _),show s*(r0 (q+n)+s*c-r0 (q+n))=s*s*c by grind,hs]
   omega
  ·rw[bg r _ hi];exact h.near i
 ·obtain⟨T,e1,e2⟩:=h.sum
  rw[Cn r _ hN,e1,qw,<- e2];grind
theorem FM {s x y C:Int} (hs:s=1∨s=-1) (h:0<=s*(x-y)∧s*(x-y)<1073741824) (hy:-C<=y∧y<=C):-(C+1073741823)<=x∧x<=C+1073741823:=by
 rcases hs with rfl|rfl<;>omega
theorem Cx {s m:Int} (hs:s=1∨s=-1) (hm:0<=m∧m<1073741824):-1073741823<=s*m∧s*m<=1073741823:=by
 rcases hs with rfl|rfl<;>omega
theorem On {s:Int} (hs:s=1∨s=-1):s*s=1:=by rcases hs with rfl|rfl<;>rfl
theorem Cy (g N:Nat) (r0:Nat->Int) (ao:Option Addr) (n ca q p:Nat) (a:Nat->Int) (w:World) (hB0:dG w g N r0) (ha:sD g w ao n ca a) (da:bP a n) (hn:n<=100000) (hqN:q+n+1<=N) (hNm:N<=1000000) (hp:p<30) (k:Int) (hk:k=30*q+p)
  (s:Int) (hs:s=1∨s=-1) (C:Int) (hC0:∀ i,i<N->-C<=r0 i∧r0 i<=C) (hC1:C<=4611686018427387904) :
  Calls prog 220 #[.slice (some ⟨g,0,none⟩) N N,.slice ao n ca,G6 k,G6 s] w fun e w'=>e=.returned (.tuple #[])∧∃ r,dG w' g N r∧Wr g w w'∧tw N r0 s (P q*(2^p*val a n)) r:=by
 have hla:=ha.le
 have hma:=ha.max
 have e1:k/30=q:=by omega
 have e2:k % 30=p:=by omega
 have hk0:0<=k:=by omega
 have hk1:k<=40000000:=by omega
 clear hk
 have hu:=aR p
 have hu2:(2:Int)^p<=2^29:=eG (by omega)
 have HC:Hid (∀ i,i<N->-C<=r0 i∧r0 i<=C):=hC0
 have hss:=On hs
 have HS:Hid (s=1∨s=-1):=hs
 clear hC0 hs
 go_enter func220,ntmps220
 go_wp2
 go_loopw [10,18] (fun c i wr=>∃ (k:Nat) (c':Int) (r:Nat->Int),k<=n∧i=G6 k∧c=G6 c'∧0<=c'∧c'<2^p∧dG wr g N r∧Hid (qF q p N n a r0 s k c' r)∧Wr g w wr) (fun _ i _=>n-(intOf i).toNat)
 case atStart=>exact⟨0,0,r0,Nat.zero_le _,rfl,rfl,by omega,hu,hB0,⟨fun _ _=>rfl,fun i=>by rw[Int.sub_self,Int.mul_zero];omega,0,by rw[Int.mul_zero,Int.mul_zero,Int.add_zero],by show(0:Int)+0*1=2^p*0;omega⟩,Wr.refl _ _⟩
 case round=>
  obtain⟨k,c,r,hk,rfl,rfl,hc0,hc1,hB,HI,hW⟩:=hrel
  have hcap:-4611686018427387904-1073741823<=r (q+k)∧r (q+k)<=4611686018427387904+1073741823:=by
   have h1:=HC.out (q+k) (by omega)
   have h2:=HI.out.rest (q+k) (Nat.le_refl _)
   rw[h2];omega
  by_cases hlt:k<n
  ·obtain⟨ba,fa,rfl,hba,hbg,hca⟩:=ha.spot (by omega)
   have c1:=(hW.cell (p:=⟨ba,fa+k,none⟩) hba hbg).trans (hca k hlt)
   have cg:=hB.cell (show q+k<N by omega)
   have fg:=hB.frozen (q+k)
   have dk:=da k hlt
   obtain⟨s0,s1,s2⟩:=wD dk (show p<=30 by omega)
   have hw:wrap64 (a k*2^p)=a k*2^p:=IntWalk.wrap64_in _ ⟨by omega,by omega⟩
   have hor:bits .or .i64 c (a k*2^p)=c+a k*2^p:=zr c (a k) p hc0 hc1 dk.1 (by omega)
   have h30:=sC (c+a k*2^p)
   have hm:=jH (c+a k*2^p)
   have hc2:(c+a k*2^p)/1073741824<2^p:=by omega
   have hc3:0<=(c+a k*2^p)/1073741824:=by omega
   obtain⟨m0,m1⟩:=Cx HS.out hm
   have e4:(c+a k*2^p) % 1073741824+(c+a k*2^p)/1073741824*1073741824=c+a k*2^p:=by omega
   have HI2:Hid (qF q p N n a r0 s (k+1) ((c+a k*2^p)/1073741824) (cr r (q+k) (r (q+k)+s*((c+a k*2^p) % 1073741824)))):=HI.out.put hss (by omega) hm e4
   clear e4
   generalize hM:(c+a k*2^p) % 1073741824=M at *
   generalize hSM:s*M=SM at *
   go_wp2
   go_roundw
   case rel=>exact⟨k+1,_,_,by omega,by go_num,rfl,hc3,hc2,hB.store (q+k) _,HI2,hW.setCell _ _⟩
   case measure=>simp[intOf];omega
  ·obtain rfl:k=n:=by omega
   have cg:=hB.cell (show q+k<N by omega)
   have fg:=hB.frozen (q+k)
   have hc4:c<1073741824:=by omega
   obtain⟨m0,m1⟩:=Cx HS.out ⟨hc0,hc4⟩
   have HD:Hid (tw N r0 s (P q*(2^p*val a k)) (cr r (q+k) (r (q+k)+s*c))):=HI.out.done hss (by omega) ⟨hc0,hc4⟩
   generalize hSM:s*c=SM at *
   go_wp2
   first|go_end0|refine bodyPost_ret (results_none rfl _ _ _) rfl ?_
   exact⟨rfl,_,hB.store (q+k) _,hW.setCell _ _,HD.out⟩
theorem IT (ao:Option Addr) (n ca q p:Nat) (a:Nat->Int) (w:World) (ha:aU w ao n ca a) (da:bP a n) (hn:n<=100000) (hq:q<=100000) (hp:p<30) (k:Int) (hk:k=30*q+p) :
  Calls prog 332 #[.slice ao n ca,G6 k] w fun e w'=>∃ v,e=.returned v∧dE w w' (P q*(2^p*val a n)) v:=by
 have hla:=ha.le
 have hma:=ha.max
 have e1:k/30=q:=by omega
 have e2:k % 30=p:=by omega
 have hk0:0<=k:=by omega
 have HK:Hid (k=30*q+p):=hk
 clear hk
 go_enter func332,ntmps332
 go_wp2_with (at_make;refine lr rfl _ _ rfl _ _ (q+n+1) rfl rfl (by omega) (by omega) (by omega) ?_;intro w1 hB1 hb1)
 refine(Cy w.heap.size (q+n+1) (fun _=>0) ao n ca q p a w1 hB1 ((sD.of ha (Nat.le_refl _)).keeps (Lg hb1)) da hn (Nat.le_refl _) (by omega) hp k HK.out 1 (.inl rfl) 0 (fun _ _=>⟨by omega,by omega⟩) (by omega)).mono ?_
 rintro e w2 ⟨rfl,r,hB2,hW2,hP⟩
 have hb2:Below w.heap.size w w2:=hW2.below hb1 hb1.size (Nat.le_refl _)
 go_wp2_with fail
 refine(ml _ _ _ _ _ (hB2.row0 (Nat.le_refl _) (by omega))).mono ?_
 rintro e w3 ⟨t,ht,htop,hz,rfl,rfl⟩
 go_wp2
 go_ret
 have D2:bP r (q+n+1):=fun i hi=>by have:=hP.near i;omega
 obtain⟨hN,hv⟩:=ju D2 ht htop hz
 refine⟨_,rfl,t,r,hB2.cut (Nat.le_refl _) ht (by omega),hN,?_,hb2⟩
 rw[hv,hP.sum,ix (Nat.zero_le _) (fun _ _ _=>rfl)]
 show 0+1*_=_
 omega
theorem FN (ao:Option Addr) (n ca k:Nat) (a:Nat->Int) (w:World) (ha:aU w ao n ca a) (da:bP a n) (hn:n<=100000) (hk:k<=1000000) :
  Calls prog 332 #[.slice ao n ca,G6 k] w fun e w'=>∃ v,e=.returned v∧dE w w' (val a n*2^k) v:=by
 refine(IT ao n ca (k/30) (k % 30) a w ha da hn (by omega) (by omega) k (by omega)).mono ?_
 rintro e w' ⟨v,he,h⟩
 refine⟨v,he,?_⟩
 rw[oP k]
 rwa [show val a n*(P (k/30)*2^(k % 30))=P (k/30)*(2^(k % 30)*val a n) by grind]
theorem uu {x y:Int} {p:Nat} (hx:0<=x∧x<1073741824) (hy:0<=y∧y<1073741824) (hp:p<30) :
  0<=x/2^p∧x/2^p<2^(30-p)∧y*2^(30-p) % 1073741824=y % 2^p*2^(30-p)∧0<=y % 2^p∧y % 2^p*2^(30-p)<1073741824:=by
 have hu:=aR p
 have hv:=aR (30-p)
 have huv:(2:Int)^p*2^(30-p)=1073741824:=by rw[<- Int.pow_add,show p+(30-p)=30 by omega];rfl
 have m0:=Int.emod_nonneg y (show(2:Int)^p≠0 by omega)
 have m1:=Int.emod_lt_of_pos y hu
 refine⟨Int.ediv_nonneg hx.1 (by omega),(Int.ediv_lt_iff_lt_mul hu).2 (by rw[Int.mul_comm,huv];exact hx.2),?_,m0,?_⟩
 ·rw[<- huv,Int.mul_comm y,Int.mul_comm (2^p:Int),Int.mul_emod_mul_of_pos _ _ hv,Int.mul_comm]
 ·have h1:(y % 2^p+1)*2^(30-p)<=2^p*2^(30-p):=Int.mul_le_mul_of_nonneg_right (by omega) (by omega)
  rw[huv,Int.add_mul] at h1
  omega
theorem zF {s:Nat->Int} {u v:Int} {k:Nat} (h:s (k+1)=0):low s u v k=s k/u:=by
 unfold low;rw[h,Int.zero_emod,Int.zero_mul,Int.add_zero]
theorem IU (ao:Option Addr) (n ca q p:Nat) (a:Nat->Int) (w:World) (ha:aU w ao n ca a) (da:bP a n) (hn:n<=100000) (hp:p<30) (k:Int) (hk:k=30*q+p) (hkm:k<9223372036854775808) :
    Calls prog 225 #[.slice ao n ca,G6 k] w fun e w'=>∃ v,e=.returned v∧dE w w' (val a n/P q/2^p) v:=by
  have hla:=ha.le
  have hma:=ha.max
  have e1:k/30=q:=by omega
  have e2:k % 30=p:=by omega
  have hk0:0<=k:=by omega
  have hqm:(q:Int)<9223372036854775808:=by omega
  clear hk
  have hu:=aR p
  have huv:(2:Int)^p*2^(30-p)=1073741824:=by rw[<- Int.pow_add,show p+(30-p)=30 by omega];rfl
  have HU:Hid ((2:Int)^p*2^(30-p)=1073741824):=huv
  clear huv
  by_cases hqn:n<=q
  · have h0:val a n/P q/2^p=0:=by
      rw[Int.ediv_eq_zero_of_lt (bL da) (by have:=dF da;have:=nf hqn;omega)];exact Int.zero_ediv _
    have H0:Hid (val a n/P q/2^p=0):=h0
    clear h0
    go_enter func225,ntmps225
    go_wp2
    go_ret
    exact⟨_,rfl,by rw[H0.out];exact dE.nil (ap _)⟩
  · obtain⟨ba,fa,rfl,hba,hca⟩:=ha.spot (by omega)
    have sp:(((30:Int)-p).toNat)=30-p:=by omega
    obtain⟨N,hN⟩:∃ N,n=q+N:=⟨n-q,by omega⟩
    have HN:Hid (n=q+N):=hN
    have hn1:q+N<=n:=by omega
    have hn2:n<=q+N:=by omega
    have hN0:0<N:=by omega
    have hq1:q<=100000:=by omega
    have hk1:k<=4000000:=by omega
    clear hN hqn hqm hkm
    go_enter func225,ntmps225
    go_wp2_with (at_make;refine lr rfl _ _ rfl _ _ N rfl rfl (by omega) (by omega) (by omega) ?_;intro w1 hB1 hb1)
    go_loopw [24] (fun i wr=>∃ (k:Nat) (r:Nat->Int),k<=N∧i=G6 k∧dG wr w.heap.size N r∧Hid (∀ i,i<k->r i=low (fun j=>cd a n (q+j)) (2^p) (2^(30-p)) i)∧Below w.heap.size w wr) (fun i _=>N-(intOf i).toNat)
    case atStart=>exact⟨0,fun _=>0,Nat.zero_le _,rfl,hB1,fun i hi=>by omega,hb1⟩
    case round=>
      obtain⟨k,r,hk,rfl,hB,HV,hbw⟩:=hrel
      by_cases hlt:k<N
      · have c1:=(hbw.cell (p:=⟨ba,fa+(q+k),none⟩) hba).trans (hca (q+k) (by omega))
        have cg:=hB.cell hlt
        have fg:=hB.frozen k
        have hB2:=hB.store k (a (q+k)/2^p)
        by_cases hl2:q+k+1<n
        · have dx:=da (q+k) (by omega)
          have dy:=da (q+k+1) (by omega)
          obtain⟨s0,s1,s2,s3,s4⟩:=uu dx dy hp
          obtain⟨t0,t1,t2⟩:=wD dy (show 30-p<=30 by omega)
          have hw:wrap64 (a (q+k+1)*2^(30-p))=a (q+k+1)*2^(30-p):=IntWalk.wrap64_in _ ⟨by omega,by omega⟩
          have h30:bits .and .i64 (a (q+k+1)*2^(30-p)) 1073741823=a (q+k+1) % 2^p*2^(30-p):=(sC _).trans s2
          have hor:bits .or .i64 (a (q+k)/2^p) (a (q+k+1) % 2^p*2^(30-p))=a (q+k)/2^p+a (q+k+1) % 2^p*2^(30-p):=zr _ _ _ s0 s1 s3 (by have:(2:Int)^(30-p)<=2^30:=eG (by omega);omega)
          have c2:=(hbw.cell (p:=⟨ba,fa+(q+k+1),none⟩) hba).trans (hca (q+k+1) (by omega))
          clear s2
          go_wp2
          go_region
          go_wp2
          go_roundw
          case rel=>exact ⟨k+1,cr (cr r k (a (q+k)/2^p)) k (a (q+k)/2^p+a (q+k+1) % 2^p*2^(30-p)),by omega,by go_num,(hB2.store k _).of_block rfl,fun i hi=>by
              by_cases e:i=k
              · rw[e,bG]
                show _=cd a n (q+k)/2^p+cd a n (q+(k+1)) % 2^p*2^(30-p)
                rw[fY a (by omega),fY a (by omega),Nat.add_assoc]
              · rw [bg _ _ e,bg r _ e]; exact HV.out i (by omega),((hbw.setCell (Nat.le_refl _) _).setCell (Nat.le_refl _) _).drew⟩
          case measure=>simp[intOf];omega
        · go_wp2
          go_roundw
          case rel=>exact ⟨k+1,cr r k (a (q+k)/2^p),by omega,by go_num,hB2,fun i hi=>by
              by_cases e:i=k
              · rw[e,bG,zF (s:=fun j=>cd a n (q+j)) (jW a (by omega)),fY a (by omega)]
              · rw [bg r _ e]; exact HV.out i (by omega),hbw.setCell (Nat.le_refl _) _⟩
          case measure=>simp[intOf];omega
      · obtain rfl:k=N:=by omega
        go_wp2_with (go_at_call 222;refine(ml _ _ _ _ _ (hB.row0 (Nat.le_refl _) (by omega))).mono ?_;rintro e w3 ⟨t,ht,htop,hz,rfl,rfl⟩)
        go_ret
        have DS:bP (fun j=>cd a n (q+j)) (k+1):=fun i hi=>Co da (q+k+1) (q+i) (by omega)
        have D2:bP r k:=(Cp hu HU.out DS).congr fun i hi=>(HV.out i hi).symm
        obtain⟨hNr,hv⟩:=ju D2 ht htop hz
        refine⟨_,rfl,t,r,hB.cut (Nat.le_refl _) ht (by omega),hNr,?_,hbw⟩
        rw[hv,gJ HV.out,FD (s:=fun j=>cd a n (q+j)) hu HU.out (jW a (by omega))]
        have e3:=ur a (show q<=n by omega) da
        rw[<- e3,show n-q=k by omega]
        congr 1
        exact gJ fun i hi=>fY a (by omega)
theorem xD (ao:Option Addr) (n ca k:Nat) (a:Nat->Int) (w:World) (ha:aU w ao n ca a) (da:bP a n) (hn:n<=100000) (hk:(k:Int)<9223372036854775808) :
  Calls prog 225 #[.slice ao n ca,G6 k] w fun e w'=>∃ v,e=.returned v∧dE w w' (val a n/2^k) v:=by
 refine(IU ao n ca (k/30) (k % 30) a w ha da hn (by omega) k (by omega) hk).mono ?_
 rintro e w' ⟨v,he,h⟩
 refine⟨v,he,?_⟩
 rw[oP k,<- Int.ediv_ediv_of_nonneg (Int.le_of_lt (dt _))]
 exact h
def oi (ng:Bool) (d:Nat->Int) (n:Nat) (e:Int):Bool:=decide ((n=0∧ng=false∧e=0)∨(0<n∧(n<=2000∧cT d n)∧d 0 % 2=1∧-1048576<=e∧e<=1048576))
theorem Mn (x:Int):bits .and .i64 x 1=x % 2:=iQ x 1 (by decide)
theorem qG (ng:Bool) (ao:Option Addr) (n cap:Nat) (d:Nat->Int) (e:Int) (w:World) (h:aU w ao n cap d) :
  Calls prog 135 #[.agg #[.bool ng,.slice ao n cap,G6 e]] w fun r w'=>r=.returned (.bool (oi ng d n e))∧Below w.heap.size w w':=by
 have hl:=h.le
 have hm:=h.max
 by_cases h0:n=0
 ·subst h0
  have e0:oi ng d 0 e=(!ng&&(e == 0)):=by
   by_cases he:e=0<;>cases ng<;>simp[oi,he]
  cases ng
  ·go_enter func135,ntmps135
   go_wp2
   go_ret
   exact⟨bz (by rw[e0];rfl),af _ _⟩
  ·go_enter func135,ntmps135
   go_wp2
   go_ret
   exact⟨bz (by rw[e0];rfl),af _ _⟩
 ·obtain⟨b,off,rfl,hb,hc⟩:=h.spot (by omega)
  have c0:(w.alloc (.cells #[.bool ng,.slice (some ⟨b,off,none⟩) n cap,G6 e] 40)).cell? ⟨b,off,none⟩=some (G6 (d 0)):=((af w _).cell (p:=⟨b,off,none⟩) hb).trans (hc 0 (by omega))
  have hA:=Mn (d 0)
  have hn0:((n:Int) == 0)=false:=by simp;omega
  have hR:=h.alloc (.cells #[.bool ng,.slice (some ⟨b,off,none⟩) n cap,G6 e] 40)
  by_cases h1:d 0 % 2=1
  ·by_cases h2:-1048576<=e
   ·by_cases h3:e<=1048576
    ·have e0:oi ng d n e=zD d n:=by simp[oi,zD,h0,h1,h2,h3];omega
     go_enter func135,ntmps135
     go_wp2_with (go_at_call 193;refine(FJ _ _ _ _ _ hR).mono ?_;rintro r w1 ⟨rfl,rfl⟩)
     go_ret
     exact⟨bz e0.symm,af _ _⟩
    ·have e0:oi ng d n e=false:=by simp[oi];omega
     go_enter func135,ntmps135
     go_wp2
     go_ret
     exact⟨bz (by first|rfl|rw[e0]),af _ _⟩
   ·have e0:oi ng d n e=false:=by simp[oi];omega
    go_enter func135,ntmps135
    go_wp2
    go_ret
    exact⟨bz (by first|rfl|rw[e0]),af _ _⟩
  ·have e0:oi ng d n e=false:=by simp[oi];omega
   go_enter func135,ntmps135
   go_wp2
   go_ret
   exact⟨bz (by first|rfl|rw[e0]),af _ _⟩
def fK (ng:Bool) (n:Nat):Int:=if n=0 then 0 else if ng then -1 else 1
theorem xE (ng:Bool) (ao:Option Addr) (n cap:Nat) (e:Int) (w:World) (hm:n<=9223372036854775807) :
  Calls prog 136 #[.agg #[.bool ng,.slice ao n cap,G6 e]] w fun r w'=>r=.returned (G6 (fK ng n))∧Below w.heap.size w w':=by
 by_cases h0:n=0
 ·subst h0
  go_enter func136,ntmps136
  go_wp2
  go_ret
  exact⟨rfl,af _ _⟩
 ·have hn0:((n:Int) == 0)=false:=by simp;omega
  cases ng
  ·go_enter func136,ntmps136
   go_wp2
   go_ret
   exact⟨de (by simp[fK,h0]),af _ _⟩
  ·go_enter func136,ntmps136
   go_wp2
   go_ret
   exact⟨de (by simp[fK,h0]),af _ _⟩
theorem IV (ng:Bool) (ao:Option Addr) (n cap:Nat) (d:Nat->Int) (e:Int) (w:World) (h:aU w ao n cap d) (hd:cT d n) (hn:n<=100000) (he0:-8388608<=e) (he1:e<=8388608) :
  Calls prog 270 #[.agg #[.bool ng,.slice ao n cap,G6 e]] w fun r w'=>r=.returned (G6 (e+aQ (val d n)))∧Below w.heap.size w w':=by
 have hR:=h.alloc (.cells #[.bool ng,.slice ao n cap,G6 e] 40)
 have hb:aQ (val d n)<=30*n:=fO (by rw[<- ft];exact dF hd.1)
 go_enter func270,ntmps270
 go_wp2
 go_quiet ((refine(kZ _ _ _ _ _ (hR.keeps (cV (ap _) _)) hd (by omega)).mono ?_;rintro _ _ ⟨rfl,rfl⟩;exact⟨rfl,_,rfl⟩))
 go_wp2
 go_ret
 exact⟨rfl,cV (af _ _) _⟩
structure aW where
 ng:Bool
 ao:Option Addr
 n:Nat
 cap:Nat
 d:Nat->Int
 e:Int
instance:Inhabited aW:=⟨⟨false,none,0,0,fun _=>0,0⟩⟩
def aW.v (r:aW):Value:=.agg #[.bool r.ng,.slice r.ao r.n r.cap,G6 r.e]
structure FO (w:World) (b o:Nat) (r:aW):Prop where
 c0:w.cell? ⟨b,o,none⟩=some (.bool r.ng)
 c1:w.cell? ⟨b,o+1,none⟩=some (.slice r.ao r.n r.cap)
 c2:w.cell? ⟨b,o+2,none⟩=some (G6 r.e)
 row:aU w r.ao r.n r.cap r.d
structure kL (w:World) (ao:Option Addr) (n cap:Nat) (r:Nat->aW):Prop where
 le:n<=cap
 max:cap<=9223372036854775807
 spot:0<n->∃ b off,ao=some ⟨b,off,none⟩∧b<w.heap.size∧∀ i,i<n->FO w b (off+i*3) (r i)
theorem FO.keeps {w w':World} {b o:Nat} {r:aW} (h:FO w b o r) (hb:Below w.heap.size w w') (hlt:b<w.heap.size):FO w' b o r :=
 ⟨(hb.cell (p:=⟨b,o,none⟩) hlt).trans h.c0,(hb.cell (p:=⟨b,o+1,none⟩) hlt).trans h.c1,(hb.cell (p:=⟨b,o+2,none⟩) hlt).trans h.c2,h.row.keeps hb⟩
theorem kL.keeps {w w':World} {ao:Option Addr} {n cap:Nat} {r:Nat->aW} (h:kL w ao n cap r) (hb:Below w.heap.size w w'):kL w' ao n cap r :=
  ⟨h.le,h.max,fun hn=>by
    obtain⟨b,off,rfl,hlt,hc⟩:=h.spot hn
    exact ⟨b,off,rfl,Nat.lt_of_lt_of_le hlt hb.size,fun i hi=>(hc i hi).keeps hb hlt⟩⟩
def gK (r:aW):Bool:=oi r.ng r.d r.n r.e
def Em (r:Nat->aW) (n:Nat):Bool:=decide (∀ i,i<n->gK (r i)=true)
theorem pB (ao:Option Addr) (n cap:Nat) (r:Nat->aW) (w:World) (h:kL w ao n cap r) :
    Calls prog 162 #[.slice ao n cap] w fun x w'=>x=.returned (.bool (Em r n))∧Below w.heap.size w w':=by
  have hl:=h.le
  have hm:=h.max
  go_enter func162,ntmps162
  go_wp2_with fail
  go_loopw [7] (fun i wr=>∃ k:Nat,k<=n∧i=G6 k∧Hid (∀ j,j<k->gK (r j)=true)∧Below w.heap.size w wr) (fun i _=>n-(intOf i).toNat)
  case atStart=>exact⟨0,Nat.zero_le _,rfl,fun j hj=>by omega,ap _⟩
  case round=>
    obtain⟨k,hk,rfl,HO,hbw⟩:=hrel
    by_cases hlt:k<n
    · obtain⟨b,off,rfl,hb,hc⟩:=h.spot (by omega)
      obtain⟨c0,c1,c2,hR⟩:=(hc k hlt).keeps hbw hb
      generalize hr:r k=x at *
      obtain⟨ng,xo,xn,xc,xd,xe⟩:=x
      simp only at c0 c1 c2 hR
      by_cases hok:oi ng xd xn xe=true
      · go_wp2_with (go_at_call 135;refine(qG ng xo xn xc xd xe _ (hR.alloc _)).mono ?_;rintro x w1 ⟨rfl,hb1⟩)
        go_roundw
        case rel=>exact ⟨k+1,by omega,by go_num,fun j hj=>by
            by_cases e:j=k
            · subst e;rw[hr];exact hok
            · exact HO.out j (by omega),hbw.trans ((ac (af _ _) hb1).mono hbw.size)⟩
        case measure=>simp[intOf];omega
      · have hok':oi ng xd xn xe=false:=by simpa using hok
        go_wp2_with (go_at_call 135;refine(qG ng xo xn xc xd xe _ (hR.alloc _)).mono ?_;rintro x w1 ⟨rfl,hb1⟩)
        go_ret
        exact ⟨bz (by
          symm
          refine decide_eq_false fun hx=>?_
          have:=hx k hlt
          rw[hr] at this
          exact hok this),hbw.trans ((ac (af _ _) hb1).mono hbw.size)⟩
    · obtain rfl:k=n:=by omega
      go_wp2
      go_ret
      exact⟨bz (decide_eq_true HO.out).symm,hbw⟩
structure xF (w:World) (ao:Option Addr) (n cap:Nat) (px py:Nat->Int):Prop where
 le:n<=cap
 max:cap<=9223372036854775807
 spot:0<n->∃ b off,ao=some ⟨b,off,none⟩∧b<w.heap.size∧∀ i,i<n->w.cell? ⟨b,off+i*2,none⟩=some (G6 (px i))∧w.cell? ⟨b,off+i*2+1,none⟩=some (G6 (py i))
theorem xF.keeps {w w':World} {ao:Option Addr} {n cap:Nat} {px py:Nat->Int} (h:xF w ao n cap px py) (hb:Below w.heap.size w w'):xF w' ao n cap px py :=
  ⟨h.le,h.max,fun hn=>by
    obtain⟨b,off,rfl,hlt,hc⟩:=h.spot hn
    exact ⟨b,off,rfl,Nat.lt_of_lt_of_le hlt hb.size,fun i hi=>⟨(hb.cell (p:=⟨b,off+i*2,none⟩) hlt).trans (hc i hi).1,(hb.cell (p:=⟨b,off+i*2+1,none⟩) hlt).trans (hc i hi).2⟩⟩⟩
def gX (f:Nat->Bool) (n:Nat):Bool:=decide (∀ i,i<n->f i=true)
theorem sG (f:Nat->Bool) (n:Nat):gX f (n+1)=(gX f n&&f n):=by
 unfold gX
 by_cases h:f n=true
 ·rw[h,Bool.and_true]
  congr 1
  exact propext ⟨fun k i hi=>k i (by omega),fun k i hi=>by by_cases e:i=n;(· subst e;exact h);(· exact k i (by omega))⟩
 ·have h':f n=false:=by simpa using h
  rw[h',Bool.and_false]
  exact decide_eq_false fun k=>h (k n (by omega))
theorem FP (f:Nat->Bool):gX f 0=true:=decide_eq_true fun i hi=>absurd hi (Nat.not_lt_zero _)
def l2 (a b:Int) (i:Nat):Int:=if i=0 then a else b
def l3 (a b c:Int) (i:Nat):Int:=if i=0 then a else if i=1 then b else c
theorem pC (w:World) {g:Nat} {t:TypeId} {ax ay bx by' cx cy:Int} (h:w.heap[g]?=some (.cells #[G6 ax,G6 ay,G6 bx,G6 by',G6 cx,G6 cy] t (0,0))):xF w (some ⟨g,0,none⟩) 3 3 (l3 ax bx cx) (l3 ay by' cy) :=
  ⟨by omega,by omega,fun _=>⟨g,0,rfl,(Array.getElem?_eq_some_iff.1 h).1,fun i hi=>by
    match i,hi with
    | 0,_=>exact⟨ae h 0 rfl,ae h 1 rfl⟩
    | 1,_=>exact⟨ae h 2 rfl,ae h 3 rfl⟩
    | 2,_=>exact ⟨ae h 4 rfl,ae h 5 rfl⟩⟩⟩
theorem mG (P:Int->Int->Bool) (ax ay bx by' cx cy:Int):gX (fun i=>P (l3 ax bx cx i) (l3 ay by' cy i)) 3=(P ax ay&&P bx by'&&P cx cy):=by
 rw[sG,sG,sG,FP,Bool.true_and];rfl
theorem iS {a b c:Int} (ha:ag a) (hb:ag b) (hc:ag c) (i:Nat):ag (l3 a b c i):=by unfold l3;split;assumption;split<;>assumption
def co (x y:Int):Bool:=ak x&&ak y
theorem sH (ao:Option Addr) (n cap:Nat) (px py:Nat->Int) (w:World) (h:xF w ao n cap px py) (hx:∀ i,ag (px i)) (hy:∀ i,ag (py i)) :
  Calls prog 103 #[.slice ao n cap] w fun x w'=>x=.returned (.bool (gX (fun i=>co (px i) (py i)) n))∧Below w.heap.size w w':=by
 have hl:=h.le
 have hm:=h.max
 have e0:sE true=0:=rfl
 have e1:sE false=10:=rfl
 have CC:Hid (∀ i W,Calls prog 65 #[.agg #[G6 (px i),G6 (py i)]] W fun e w'=>e=.returned (G6 (sE (co (px i) (py i))))∧Below W.heap.size W w'):=fun i W=>Ek (hx i) (hy i) W
 clear hx hy
 go_enter func103,ntmps103
 go_wp2_with fail
 go_loopw [7] (fun i wr=>∃ k:Nat,k<=n∧i=G6 k∧Hid (∀ j,j<k->co (px j) (py j)=true)∧Below w.heap.size w wr) (fun i _=>n-(intOf i).toNat)
 case atStart=>exact⟨0,Nat.zero_le _,rfl,fun j hj=>by omega,ap _⟩
 case round=>
  obtain⟨k,hk,rfl,HO,hbw⟩:=hrel
  by_cases hlt:k<n
  ·obtain⟨b,off,rfl,hb,hc⟩:=h.spot (by omega)
   have c0:=(hbw.cell (p:=⟨b,off+k*2,none⟩) hb).trans (hc k hlt).1
   have c1:=(hbw.cell (p:=⟨b,off+k*2+1,none⟩) hb).trans (hc k hlt).2
   have CK:Hid (∀ W,Calls prog 65 #[.agg #[G6 (px k),G6 (py k)]] W fun e w'=>e=.returned (G6 (sE (co (px k) (py k))))∧Below W.heap.size W w'):=CC.out k
   have HK:Hid (∀ q:co (px k) (py k)=false,false=gX (fun i=>co (px i) (py i)) n):=fun q=>(decide_eq_false fun hx=>by have:=hx k hlt;simp only at this;rw[this] at q;cases q).symm
   have HY:Hid (co (px k) (py k)=true->∀ j,j<k+1->co (px j) (py j)=true):=fun q j hj=>by
    by_cases e:j=k
    ·subst e;exact q
    ·exact HO.out j (by omega)
   clear hc
   by_cases hok:co (px k) (py k)=true
   ·rw[hok,e0] at CK
    replace HY:Hid (∀ j,j<k+1->co (px j) (py j)=true):=HY.out hok
    clear hok
    go_wp2_with (go_at_call 65;refine(CK.out _).mono ?_;rintro x w1 ⟨rfl,hb1⟩)
    go_roundw
    case rel=>exact⟨k+1,by omega,by go_num,HY,hbw.trans ((ac (af _ _) hb1).mono hbw.size)⟩
    case measure=>simp[intOf];omega
   ·have hok':co (px k) (py k)=false:=by simpa using hok
    rw[hok',e1] at CK
    replace HK:Hid (false=gX (fun i=>co (px i) (py i)) n):=HK.out hok'
    clear hok hok' HY
    go_wp2_with (go_at_call 65;refine(CK.out _).mono ?_;rintro x w1 ⟨rfl,hb1⟩)
    go_ret
    exact⟨bz HK.out,hbw.trans ((ac (af _ _) hb1).mono hbw.size)⟩
  ·obtain rfl:k=n:=by omega
   have HD:Hid (true=gX (fun i=>co (px i) (py i)) k):=(decide_eq_true HO.out).symm
   go_wp2
   go_ret
   exact⟨bz HD.out,hbw⟩
theorem xG (ao:Option Addr) (n cap:Nat) (px py:Nat->Int) (w:World) (h:xF w ao n cap px py) (hx:∀ i,ag (px i)) (hy:∀ i,ag (py i)) :
  Calls prog 18 #[.slice ao n cap] w fun x w'=>x=.returned (.bool (gX (fun i=>co (px i) (py i)) n))∧Below w.heap.size w w':=by
 have hl:=h.le
 have hm:=h.max
 have CC:Hid (∀ i W,Calls prog 28 #[.agg #[G6 (px i),G6 (py i)]] W fun e w'=>e=.returned (.bool (co (px i) (py i)))∧Below W.heap.size W w'):=fun i W=>BK (hx i) (hy i) W
 clear hx hy
 go_enter func18,ntmps18
 go_wp2_with fail
 go_loopw [3] (fun i wr=>∃ k:Nat,k<=n∧i=G6 k∧Hid (∀ j,j<k->co (px j) (py j)=true)∧Below w.heap.size w wr) (fun i _=>n-(intOf i).toNat)
 case atStart=>exact⟨0,Nat.zero_le _,rfl,fun j hj=>by omega,ap _⟩
 case round=>
  obtain⟨k,hk,rfl,HO,hbw⟩:=hrel
  by_cases hlt:k<n
  ·obtain⟨b,off,rfl,hb,hc⟩:=h.spot (by omega)
   have c0:=(hbw.cell (p:=⟨b,off+k*2,none⟩) hb).trans (hc k hlt).1
   have c1:=(hbw.cell (p:=⟨b,off+k*2+1,none⟩) hb).trans (hc k hlt).2
   have CK:Hid (∀ W,Calls prog 28 #[.agg #[G6 (px k),G6 (py k)]] W fun e w'=>e=.returned (.bool (co (px k) (py k)))∧Below W.heap.size W w'):=CC.out k
   have HK:Hid (∀ q:co (px k) (py k)=false,false=gX (fun i=>co (px i) (py i)) n):=fun q=>(decide_eq_false fun hx=>by have:=hx k hlt;simp only at this;rw[this] at q;cases q).symm
   have HY:Hid (co (px k) (py k)=true->∀ j,j<k+1->co (px j) (py j)=true):=fun q j hj=>by
    by_cases e:j=k
    ·subst e;exact q
    ·exact HO.out j (by omega)
   clear hc
   by_cases hok:co (px k) (py k)=true
   ·rw[hok] at CK
    replace HY:Hid (∀ j,j<k+1->co (px j) (py j)=true):=HY.out hok
    clear hok
    go_wp2_with (go_at_call 28;refine(CK.out _).mono ?_;rintro x w1 ⟨rfl,hb1⟩)
    go_roundw
    case rel=>exact⟨k+1,by omega,by go_num,HY,hbw.trans (hb1.mono hbw.size)⟩
    case measure=>simp[intOf];omega
   ·have hok':co (px k) (py k)=false:=by simpa using hok
    rw[hok'] at CK
    replace HK:Hid (false=gX (fun i=>co (px i) (py i)) n):=HK.out hok'
    clear hok hok' HY
    go_wp2_with (go_at_call 28;refine(CK.out _).mono ?_;rintro x w1 ⟨rfl,hb1⟩)
    go_ret
    exact⟨bz HK.out,hbw.trans (hb1.mono hbw.size)⟩
  ·obtain rfl:k=n:=by omega
   have HD:Hid (true=gX (fun i=>co (px i) (py i)) k):=(decide_eq_true HO.out).symm
   go_wp2
   go_ret
   exact⟨bz HD.out,hbw⟩
def bk (x y:Int):Bool:=dC x&&dC y
theorem zG {x:Int} (hx:ag x) (h:dC x=true):ak x=true:=by
 rw[qt hx] at h
 cases hp:ak x
 ·have hf:bQ x=2047:=by simpa [ak] using hp
  rw[hf] at h
  have h0:rg x=0:=by
   by_cases e:rg x=0
   ·exact e
   ·simp[e] at h
  have:=lq hx
  rw[h0] at this
  rw[hp] at this
  simp at this
 ·rfl
theorem wE {x y:Int} (hx:ag x) (hy:ag y) (h:bk x y=true):co x y=true:=by
 unfold bk at h
 unfold co
 rw[Bool.and_eq_true] at h
 rw[zG hx h.1,zG hy h.2];rfl
theorem sI (ao:Option Addr) (n cap:Nat) (px py:Nat->Int) (w:World) (h:xF w ao n cap px py) (hx:∀ i,ag (px i)) (hy:∀ i,ag (py i)) :
  Calls prog 101 #[.slice ao n cap] w fun x w'=>x=.returned (.bool (gX (fun i=>bk (px i) (py i)) n))∧Below w.heap.size w w':=by
 have hl:=h.le
 have hm:=h.max
 have CC:Hid (∀ b W,ag b->Calls prog 57 #[G6 b] W fun e w'=>e=.returned (.bool (dC b))∧w'=W):=fun b W hb=>FF hb W
 have HX:Hid (∀ i,ag (px i)):=hx
 have HYY:Hid (∀ i,ag (py i)):=hy
 clear hx hy
 go_enter func101,ntmps101
 go_wp2_with fail
 go_loopw [7] (fun i wr=>∃ k:Nat,k<=n∧i=G6 k∧Hid (∀ j,j<k->bk (px j) (py j)=true)∧Below w.heap.size w wr) (fun i _=>n-(intOf i).toNat)
 case atStart=>exact⟨0,Nat.zero_le _,rfl,fun j hj=>by omega,ap _⟩
 case round=>
  obtain⟨k,hk,rfl,HO,hbw⟩:=hrel
  by_cases hlt:k<n
  ·obtain⟨b,off,rfl,hb,hc⟩:=h.spot (by omega)
   have c0:=(hbw.cell (p:=⟨b,off+k*2,none⟩) hb).trans (hc k hlt).1
   have c1:=(hbw.cell (p:=⟨b,off+k*2+1,none⟩) hb).trans (hc k hlt).2
   have CX:Hid (∀ W,Calls prog 57 #[G6 (px k)] W fun e w'=>e=.returned (.bool (dC (px k)))∧w'=W):=fun W=>CC.out _ W (HX.out k)
   have CY:Hid (∀ W,Calls prog 57 #[G6 (py k)] W fun e w'=>e=.returned (.bool (dC (py k)))∧w'=W):=fun W=>CC.out _ W (HYY.out k)
   have HK:Hid (bk (px k) (py k)=false->false=gX (fun i=>bk (px i) (py i)) n):=fun q=>(decide_eq_false fun hx=>by have:=hx k hlt;simp only at this;rw[this] at q;cases q).symm
   have HY:Hid (bk (px k) (py k)=true->∀ j,j<k+1->bk (px j) (py j)=true):=fun q j hj=>by
    by_cases e:j=k
    ·subst e;exact q
    ·exact HO.out j (by omega)
   clear hc
   cases hp:dC (px k)
   ·replace HK:Hid (false=gX (fun i=>bk (px i) (py i)) n):=HK.out (by unfold bk;rw[hp];rfl)
    rw[hp] at CX
    clear hp
    cases hq:dC (py k)
    ·rw[hq] at CY
     clear hq
     clear HY
     (go_wp2_with fail;refine(CX.out _).mono ?_;rintro _ wz ⟨rfl,hwz⟩;replace hwz:=hwz.symm;subst hwz;go_wp2)
     go_ret
     exact⟨bz HK.out,hbw.trans ((af _ _).mono hbw.size)⟩
    ·rw[hq] at CY
     clear hq
     clear HY
     (go_wp2_with fail;refine(CX.out _).mono ?_;rintro _ wz ⟨rfl,hwz⟩;replace hwz:=hwz.symm;subst hwz;go_wp2)
     go_ret
     exact⟨bz HK.out,hbw.trans ((af _ _).mono hbw.size)⟩
   ·rw[hp] at CX
    cases hq:dC (py k)
    ·replace HK:Hid (false=gX (fun i=>bk (px i) (py i)) n):=HK.out (by unfold bk;rw[hp,hq];rfl)
     rw[hq] at CY
     clear hp hq
     clear HY
     (go_wp2_with fail;refine(CX.out _).mono ?_;rintro _ wz ⟨rfl,hwz⟩;replace hwz:=hwz.symm;subst hwz;go_wp2_with fail;refine(CY.out _).mono ?_;rintro _ wz ⟨rfl,hwz⟩;replace hwz:=hwz.symm;subst hwz;go_wp2)
     go_ret
     exact⟨bz HK.out,hbw.trans ((af _ _).mono hbw.size)⟩
    ·replace HY:Hid (∀ j,j<k+1->bk (px j) (py j)=true):=HY.out (by unfold bk;rw[hp,hq];rfl)
     rw[hq] at CY
     clear hp hq HK
     (go_wp2_with fail;refine(CX.out _).mono ?_;rintro _ wz ⟨rfl,hwz⟩;replace hwz:=hwz.symm;subst hwz;go_wp2_with fail;refine(CY.out _).mono ?_;rintro _ wz ⟨rfl,hwz⟩;replace hwz:=hwz.symm;subst hwz;go_wp2)
     go_roundw
     case rel=>exact⟨k+1,by omega,by go_num,HY,hbw.trans ((af _ _).mono hbw.size)⟩
     case measure=>simp[intOf];omega
  ·obtain rfl:k=n:=by omega
   have HD:Hid (true=gX (fun i=>bk (px i) (py i)) k):=(decide_eq_true HO.out).symm
   go_wp2
   go_ret
   exact⟨bz HD.out,hbw⟩
theorem vm (ao:Option Addr) (n cap:Nat) (px py:Nat->Int) (w:World) (h:xF w ao n cap px py) (hx:∀ i,ag (px i)) (hy:∀ i,ag (py i)) :
  Calls prog 45 #[.slice ao n cap] w fun x w'=>x=.returned (.bool (gX (fun i=>bk (px i) (py i)) n))∧Below w.heap.size w w':=by
 have hl:=h.le
 have hm:=h.max
 have CC:Hid (∀ b W,ag b->Calls prog 105 #[G6 b] W fun e w'=>e=.returned (.bool (dC b))∧w'=W):=fun b W hb=>FI hb W
 have HX:Hid (∀ i,ag (px i)):=hx
 have HYY:Hid (∀ i,ag (py i)):=hy
 clear hx hy
 go_enter func45,ntmps45
 go_wp2_with fail
 go_loopw [3] (fun i wr=>∃ k:Nat,k<=n∧i=G6 k∧Hid (∀ j,j<k->bk (px j) (py j)=true)∧Below w.heap.size w wr) (fun i _=>n-(intOf i).toNat)
 case atStart=>exact⟨0,Nat.zero_le _,rfl,fun j hj=>by omega,ap _⟩
 case round=>
  obtain⟨k,hk,rfl,HO,hbw⟩:=hrel
  by_cases hlt:k<n
  ·obtain⟨b,off,rfl,hb,hc⟩:=h.spot (by omega)
   have c0:=(hbw.cell (p:=⟨b,off+k*2,none⟩) hb).trans (hc k hlt).1
   have c1:=(hbw.cell (p:=⟨b,off+k*2+1,none⟩) hb).trans (hc k hlt).2
   have CX:Hid (∀ W,Calls prog 105 #[G6 (px k)] W fun e w'=>e=.returned (.bool (dC (px k)))∧w'=W):=fun W=>CC.out _ W (HX.out k)
   have CY:Hid (∀ W,Calls prog 105 #[G6 (py k)] W fun e w'=>e=.returned (.bool (dC (py k)))∧w'=W):=fun W=>CC.out _ W (HYY.out k)
   have HK:Hid (bk (px k) (py k)=false->false=gX (fun i=>bk (px i) (py i)) n):=fun q=>(decide_eq_false fun hx=>by have:=hx k hlt;simp only at this;rw[this] at q;cases q).symm
   have HY:Hid (bk (px k) (py k)=true->∀ j,j<k+1->bk (px j) (py j)=true):=fun q j hj=>by
    by_cases e:j=k
    ·subst e;exact q
    ·exact HO.out j (by omega)
   clear hc
   cases hp:dC (px k)
   ·replace HK:Hid (false=gX (fun i=>bk (px i) (py i)) n):=HK.out (by unfold bk;rw[hp];rfl)
    rw[hp] at CX
    clear hp
    cases hq:dC (py k)
    ·rw[hq] at CY
     clear hq
     clear HY
     (go_wp2_with fail;refine(CX.out _).mono ?_;rintro _ wz ⟨rfl,hwz⟩;replace hwz:=hwz.symm;subst hwz;go_wp2_with fail;refine(CY.out _).mono ?_;rintro _ wz ⟨rfl,hwz⟩;replace hwz:=hwz.symm;subst hwz;go_wp2)
     go_ret
     exact⟨bz HK.out,hbw⟩
    ·rw[hq] at CY
     clear hq
     clear HY
     (go_wp2_with fail;refine(CX.out _).mono ?_;rintro _ wz ⟨rfl,hwz⟩;replace hwz:=hwz.symm;subst hwz;go_wp2_with fail;refine(CY.out _).mono ?_;rintro _ wz ⟨rfl,hwz⟩;replace hwz:=hwz.symm;subst hwz;go_wp2)
     go_ret
     exact⟨bz HK.out,hbw⟩
   ·rw[hp] at CX
    cases hq:dC (py k)
    ·replace HK:Hid (false=gX (fun i=>bk (px i) (py i)) n):=HK.out (by unfold bk;rw[hp,hq];rfl)
     rw[hq] at CY
     clear hp hq
     clear HY
     (go_wp2_with fail;refine(CX.out _).mono ?_;rintro _ wz ⟨rfl,hwz⟩;replace hwz:=hwz.symm;subst hwz;go_wp2_with fail;refine(CY.out _).mono ?_;rintro _ wz ⟨rfl,hwz⟩;replace hwz:=hwz.symm;subst hwz;go_wp2)
     go_ret
     exact⟨bz HK.out,hbw⟩
    ·replace HY:Hid (∀ j,j<k+1->bk (px j) (py j)=true):=HY.out (by unfold bk;rw[hp,hq];rfl)
     rw[hq] at CY
     clear hp hq HK
     (go_wp2_with fail;refine(CX.out _).mono ?_;rintro _ wz ⟨rfl,hwz⟩;replace hwz:=hwz.symm;subst hwz;go_wp2_with fail;refine(CY.out _).mono ?_;rintro _ wz ⟨rfl,hwz⟩;replace hwz:=hwz.symm;subst hwz;go_wp2)
     go_roundw
     case rel=>exact⟨k+1,by omega,by go_num,HY,hbw⟩
     case measure=>simp[intOf];omega
  ·obtain rfl:k=n:=by omega
   have HD:Hid (true=gX (fun i=>bk (px i) (py i)) k):=(decide_eq_true HO.out).symm
   go_wp2
   go_ret
   exact⟨bz HD.out,hbw⟩
end Go.Proofs.YtjjihmnbdeeedaaGreatDoor
namespace Go.Proofs.YtjjihmnbdeeedaaGreatDoor.M
open Go Go.Proofs.Tryz Ieee
def rU (mag:Nat) (sh:Int):Nat:=if sh<=0 then mag*2^(-sh).toNat else mag/2^sh.toNat
def rL (mag:Nat) (cut:Bool) (sh:Int):Int :=
 if sh<=0 then 0 else if mag % 2^sh.toNat=0∧cut=false then 0 else if 2*(mag % 2^sh.toNat)<2^sh.toNat then 1 else if 2*(mag % 2^sh.toNat)=2^sh.toNat∧cut=false then 2 else 3
def rE (size low:Int) (mag:Nat) (exp:Int):Int:=max (exp+(Lib.bitLen mag:Int)-size) low
def bX (way:Int) (neg odd:Bool) (left:Int):Bool :=
 if way=0 then decide (left=3)||(decide (left=2)&&odd) else if way=1 then decide (left≠0)&&neg else if way=2 then decide (left≠0)&&!neg else false
def sJ (A:Int) (mag:Nat) (exp:Int) (cut:Bool):Prop:=(mag:Int)*pw exp<=A∧A<((mag:Int)+1)*pw exp∧(cut=false↔A=(mag:Int)*pw exp)
structure qH (A:Int) (u:Nat) (q:Int) (left:Int):Prop where
 lo:(u:Int)*q<=A
 hi:A<(u:Int)*q+q
 l0:left=0↔A=(u:Int)*q
 l1:left=1↔(u:Int)*q<A∧2*A<2*((u:Int)*q)+q
 l2:left=2↔2*A=2*((u:Int)*q)+q
 l3:left=3↔2*((u:Int)*q)+q<2*A
theorem qH.mk' {A U q left:Int} {u:Nat} (hU:(u:Int)*q=U) (lo:U<=A) (hi:A<U+q) (l0:left=0↔A=U) (l1:left=1↔U<A∧2*A<2*U+q) (l2:left=2↔2*A=2*U+q) (l3:left=3↔2*U+q<2*A):qH A u q left:=by
 subst hU
 exact⟨lo,hi,l0,l1,l2,l3⟩
theorem zH (n:Nat) (h:0<n):∃ k,2^n=2*k∧0<k:=⟨2^(n-1),by rw[<- Nat.pow_succ',Nat.succ_eq_add_one,Nat.sub_add_cancel h],Nat.two_pow_pos _⟩
theorem Cz {A:Int} {mag:Nat} {exp e:Int} {cut:Bool} (h:sJ A mag exp cut) (hc:cut=true->0<e-exp) (h0:-4194304<=e) (h1:-4194304<=exp):qH A (rU mag (e-exp)) (pw e) (rL mag cut (e-exp)):=by
 obtain⟨a1,a2,a3⟩:=h
 have hq:=bR exp
 have hqe:=bR e
 by_cases hs:e-exp<=0
 ·have hcf:cut=false:=by cases cut;rfl;have:=hc rfl;omega
  have hA:=a3.1 hcf
  unfold rU rL
  rw[if_pos hs,if_pos hs]
  have e1:((mag*2^(-(e-exp)).toNat:Nat):Int)*pw e=A:=by
   rw[hA,og (e:=exp) (low:=e) h0 (by omega),show(exp-e).toNat=(-(e-exp)).toNat by omega]
   push_cast
   rw[Int.mul_assoc]
  exact⟨by rw[e1];omega,by rw[e1];omega,by rw[e1];simp,by rw[e1];constructor<;>intro h<;>omega,by rw[e1];constructor<;>intro h<;>omega,by rw[e1];constructor<;>intro h<;>omega⟩
 ·have hp:pw e=2^(e-exp).toNat*pw exp:=og h1 (by omega)
  obtain⟨s,hsn⟩:∃ s,(e-exp).toNat=s:=⟨_,rfl⟩
  have hs0:0<s:=by omega
  unfold rU rL
  rw[if_neg hs,if_neg hs,hsn]
  rw[hsn] at hp
  obtain⟨k,hk,hk0⟩:=zH s hs0
  have hpn:(2:Int)^s=((2^s:Nat):Int):=by simp
  rw[hpn,hk] at hp
  rw[hk]
  have hdm:=Nat.div_add_mod mag (2*k)
  have hml:=Nat.mod_lt mag (show 0<2*k by omega)
  generalize mag/(2*k)=u at *
  generalize mag % (2*k)=t at *
  generalize hQ:pw exp=q at *
  have e1:(mag:Int)*q=(u:Int)*(((2*k:Nat):Int)*q)+(t:Int)*q:=by
   rw[<- hdm];push_cast;rw[Int.add_mul];congr 1;rw[Int.mul_comm (2*(k:Int)) u,Int.mul_assoc]
  have e2:((mag:Int)+1)*q=(mag:Int)*q+q:=by rw[Int.add_mul,Int.one_mul]
  rw[e2,e1] at a2
  rw[e1] at a1 a3
  rw[hp]
  have e3:((2*k:Nat):Int)*q=2*((k:Int)*q):=by push_cast;rw[Int.mul_assoc]
  have t1:∀ x y:Nat,x<=y->(x:Int)*q<=(y:Int)*q:=fun x y h=>Int.mul_le_mul_of_nonneg_right (by omega) (by omega)
  have t2:∀ x y:Nat,x<y->(x:Int)*q+q<=(y:Int)*q:=fun x y h=>by
   have:=t1 (x+1) y h
   push_cast at this
   rwa [Int.add_mul,Int.one_mul] at this
  have t0:0<=(t:Int)*q:=Int.mul_nonneg (by omega) (by omega)
  have b1:(t:Int)*q+q<=2*((k:Int)*q):=by rw[<- e3];exact t2 t (2*k) hml
  rw[e3] at a1 a2 a3 ⊢
  have c1:t<k->(t:Int)*q+q<=(k:Int)*q:=t2 t k
  have c2:t=k->(t:Int)*q=(k:Int)*q:=fun h=>by rw[h]
  have c3:k<t->(k:Int)*q+q<=(t:Int)*q:=t2 k t
  have c4:t=0->(t:Int)*q=0:=fun h=>by rw[h];simp
  have c5:0<t->q<=(t:Int)*q:=fun h=>by have:=t1 1 t h;rwa [Int.natCast_one,Int.one_mul] at this
  clear e1 e2 e3 t1 t2 hp
  obtain⟨T,hT⟩:∃ T,(t:Int)*q=T:=⟨_,rfl⟩
  obtain⟨K,hK⟩:∃ K,(k:Int)*q=K:=⟨_,rfl⟩
  obtain⟨U,hU⟩:∃ U,(u:Int)*(2*K)=U:=⟨_,rfl⟩
  rw[hT] at c1 c2 c3 c4 c5 t0 b1 a1 a2 a3
  rw[hK] at c1 c2 c3 b1 a1 a2 a3 ⊢
  rw[hU] at a1 a2 a3
  have a3':cut=true->A≠U+T:=fun h h2=>by rw[a3.2 h2] at h;cases h
  cases cut
  ·have hA:=a3.1 rfl
   subst hA
   by_cases z0:t=0
   ·have:=c4 z0
    rw[if_pos ⟨z0,rfl⟩]
    exact qH.mk' hU (by omega) (by omega) (by constructor<;>intro h<;>omega) (by constructor<;>intro h<;>omega) (by constructor<;>intro h<;>omega) (by constructor<;>intro h<;>omega)
   ·have:=c5 (by omega)
    rw[if_neg (fun h=>z0 h.1)]
    by_cases z1:t<k
    ·have:=c1 z1
     rw[if_pos (by omega)]
     exact qH.mk' hU (by omega) (by omega) (by constructor<;>intro h<;>omega) (by constructor<;>intro h<;>omega) (by constructor<;>intro h<;>omega) (by constructor<;>intro h<;>omega)
    ·rw[if_neg (by omega)]
     by_cases z2:t=k
     ·have:=c2 z2
      rw[if_pos ⟨by omega,rfl⟩]
      exact qH.mk' hU (by omega) (by omega) (by constructor<;>intro h<;>omega) (by constructor<;>intro h<;>omega) (by constructor<;>intro h<;>omega) (by constructor<;>intro h<;>omega)
     ·have:=c3 (by omega)
      rw[if_neg (fun h=>z2 (by omega))]
      exact qH.mk' hU (by omega) (by omega) (by constructor<;>intro h<;>omega) (by constructor<;>intro h<;>omega) (by constructor<;>intro h<;>omega) (by constructor<;>intro h<;>omega)
  ·have hA:=a3' rfl
   rw[if_neg (fun h=>by cases h.2)]
   by_cases z1:t<k
   ·have:=c1 z1
    rw[if_pos (by omega)]
    exact qH.mk' hU (by omega) (by omega) (by constructor<;>intro h<;>omega) (by constructor<;>intro h<;>omega) (by constructor<;>intro h<;>omega) (by constructor<;>intro h<;>omega)
   ·rw[if_neg (by omega),if_neg (fun h=>by cases h.2)]
    have hkt:K<=T:=by
     by_cases z2:t=k
     ·have:=c2 z2;omega
     ·have:=c3 (by omega);omega
    exact qH.mk' hU (by omega) (by omega) (by constructor<;>intro h<;>omega) (by constructor<;>intro h<;>omega) (by constructor<;>intro h<;>omega) (by constructor<;>intro h<;>omega)
theorem CE {size low:Int} {mag:Nat} {exp:Int} (hs:0<size) (h:mag<2^64) (h0:mag≠0):rU mag (rE size low mag exp-exp)<2^size.toNat∧(low<rE size low mag exp->2^(size.toNat-1)<=rU mag (rE size low mag exp-exp)):=by
 obtain⟨b1,b2,b3,b4⟩:=iF mag h h0
 obtain⟨n,hn⟩:∃ n,Lib.bitLen mag=n:=⟨_,rfl⟩
 obtain⟨z,rfl⟩:∃ z:Nat,size=z:=⟨size.toNat,by omega⟩
 unfold rE rU
 rw[hn] at b1 b2 b3 b4 ⊢
 rw[Int.toNat_natCast]
 obtain⟨e,he⟩:∃ e,max (exp+(n:Int)-(z:Int)) low=e:=⟨_,rfl⟩
 have he1:exp+n-z<=e:=by omega
 have he2:low<e->e=exp+n-z:=by omega
 rw[he]
 by_cases hse:e-exp<=0
 ·rw[if_pos hse]
  obtain⟨k,hk⟩:∃ k,(-(e-exp)).toNat=k:=⟨_,rfl⟩
  rw[hk]
  refine⟨?_,fun hl=>?_⟩
  ·calc mag*2^k<2^n*2^k:=Nat.mul_lt_mul_of_pos_right b2 (Nat.two_pow_pos k)
    _=2^(n+k):=by rw[Nat.pow_add]
    _<=2^z:=Nat.pow_le_pow_right (by decide) (by omega)
  ·have:=he2 hl
   calc 2^(z-1)<=2^(n-1+k):=Nat.pow_le_pow_right (by decide) (by omega)
    _=2^(n-1)*2^k:=by rw[Nat.pow_add]
    _<=mag*2^k:=Nat.mul_le_mul_right _ b1
 ·rw[if_neg hse]
  obtain⟨k,hk⟩:∃ k,(e-exp).toNat=k:=⟨_,rfl⟩
  rw[hk]
  refine⟨?_,fun hl=>?_⟩
  ·rw[Nat.div_lt_iff_lt_mul (Nat.two_pow_pos k),<- Nat.pow_add]
   exact Nat.lt_of_lt_of_le b2 (Nat.pow_le_pow_right (by decide) (by omega))
  ·have:=he2 hl
   rw[Nat.le_div_iff_mul_le (Nat.two_pow_pos k),<- Nat.pow_add]
   exact Nat.le_trans (Nat.pow_le_pow_right (by decide) (by omega)) b1
theorem pO (f:Format) (a u:Nat) (h:u<2*f.binade) (h2:0<a->f.binade<=u):V f (a*f.binade+u)=u*2^a∧V f (a*f.binade+u+1)=(u+1)*2^a:=by
 have hB:=ku f
 refine⟨lp f a u (by by_cases ha:a=0<;>omega),?_⟩
 by_cases hu:u+1<2*f.binade
 ·rw[Nat.add_assoc]
  exact lp f a (u+1) (by by_cases ha:a=0<;>omega)
 ·have e:a*f.binade+u+1=(a+1)*f.binade+f.binade:=by rw[Nat.add_mul];omega
  rw[e,lp f (a+1) f.binade (by omega),Nat.pow_succ,show u+1=f.binade*2 by omega,Nat.mul_assoc,Nat.mul_comm (2^a) 2]
theorem FQ {mag:Int} (h0:0<mag) (h:mag<9223372036854775808) (k:Nat) (hk:2^k<=mag):(k:Int)+1<=(jz mag:Int)+jl mag:=by
 obtain⟨m,ez,z63,eo⟩:=fF h0 h
 have hj:=oN h0 h
 have sp:=iF (jo mag).toNat (by omega) (by omega)
 have h1:(jo mag).toNat*2^jz mag<2^Lib.bitLen (jo mag).toNat*2^jz mag:=Nat.mul_lt_mul_of_pos_right sp.2.1 (Nat.two_pow_pos _)
 rw[<- Nat.pow_add] at h1
 have h2:(((jo mag).toNat*2^jz mag:Nat):Int)=mag:=by
  rw[Int.natCast_mul,Int.toNat_of_nonneg (by omega),eo,Int.mul_comm]
  simp only[Int.natCast_pow]
  exact ez.symm
 have h3:2^k<=(jo mag).toNat*2^jz mag:=by
  have:((2^k:Nat):Int)=2^k:=by simp
  omega
 have h4:2^k<2^(Lib.bitLen (jo mag).toNat+jz mag):=by omega
 have:=(Nat.pow_lt_pow_iff_right (by decide:1<2)).1 h4
 unfold jl
 omega
theorem CH (n:Nat):(0:Int)<=2^n:=Int.le_of_lt (aR n)
theorem xH (f:Format) (fr:Nat) (hfr:fr<=60) (hB:f.binade=2^fr) (top least:Int) (ht:2<=top) (u:Nat) (e:Int) (h0:0<u) (hu:u<=2^(fr+1)) (he:least<=e) (hn:least<e->2^fr<=u) :
  let rung:=(e-least).toNat*2^fr+u
  jk fr top least (u:Int) e=decide ((rung:Int)<top*2^fr)∧((rung:Int)<top*2^fr->jv fr top least (u:Int) e=rung):=by
 intro rung
 have hp60:2^(fr+1)<=2^61:=Nat.pow_le_pow_right (by decide) (by omega)
 have hu63:(u:Int)<9223372036854775808:=by
  have:(2:Nat)^61=2305843009213693952:=by decide
  omega
 have hu0:(0:Int)<(u:Int):=by omega
 have hP:0<2^fr:=Nat.two_pow_pos fr
 have hPi:((2^fr:Nat):Int)=2^fr:=by simp
 have hlo:=tt hu0 hu63
 have hJ:cP fr top least (u:Int) e=decide ((rung:Int)<top*2^fr):=by
  obtain⟨a,ha⟩:∃ a,(e-least).toNat=a:=⟨_,rfl⟩
  have hr:(rung:Int)=(a:Int)*2^fr+u:=by simp only[rung,ha];push_cast;rfl
  rw[hr]
  by_cases hlt:u<2^(fr+1)
  ·by_cases hea:(a:Int)<=top-2
   ·have g:=BJ (fr:=(fr:Int)) (top:=top) (least:=least) (exp:=e) hu0 hu63 (by omega) (by rw[Int.toNat_natCast];exact_mod_cast hlt) he (by omega)
    rw[g]
    have:(a:Int)*2^fr<=(top-2)*2^fr:=Int.mul_le_mul_of_nonneg_right hea (by omega)
    have e2:(top-2)*2^fr=top*2^fr-2*2^fr:=by rw[Int.sub_mul]
    have hu2:(u:Int)<2*2^fr:=by rw[Nat.pow_succ] at hlt;omega
    exact(decide_eq_true (by omega)).symm
   ·have hge:=hn (by omega)
    have g2:=FQ hu0 hu63 fr (by rw[<- hPi];omega)
    have g:cP fr top least (u:Int) e=false:=by
     unfold cP kP eg jU
     simp only[Bool.and_eq_false_iff,decide_eq_false_iff_not]
     omega
    rw[g]
    have:(top-1)*2^fr<=(a:Int)*2^fr:=Int.mul_le_mul_of_nonneg_right (by omega) (by omega)
    have e2:(top-1)*2^fr=top*2^fr-2^fr:=by rw[Int.sub_mul,Int.one_mul]
    exact(decide_eq_false (by omega)).symm
  ·have hue:u=2^(fr+1):=by omega
   have hpp:2^(fr+1)<2^(fr+2):=Nat.pow_lt_pow_right (by decide) (by omega)
   have g1:=Rw hu0 hu63 (fr+2) (by rw[hue];exact_mod_cast hpp)
   have g2:=FQ hu0 hu63 (fr+1) (by rw[hue];simp)
   have hu2:(u:Int)=2*2^fr:=by rw[hue,Nat.pow_succ];push_cast;omega
   have hjo:jl (u:Int)<=fr+1:=by
    obtain⟨mm,ez,z63,eo⟩:=fF hu0 hu63
    by_cases hz:jz (u:Int)=0
    ·exfalso
     rw[hz] at ez
     rw[hu2] at ez
     simp at ez
     omega
    ·omega
   by_cases hea:(a:Int)<=top-3
   ·have g:cP fr top least (u:Int) e=true:=by
     unfold cP kP eg jU
     simp only[Bool.and_eq_true,decide_eq_true_eq]
     omega
    rw[g]
    have:(a:Int)*2^fr<=(top-3)*2^fr:=Int.mul_le_mul_of_nonneg_right hea (by omega)
    have e2:(top-3)*2^fr=top*2^fr-3*2^fr:=by rw[Int.sub_mul]
    exact(decide_eq_true (by omega)).symm
   ·have g:cP fr top least (u:Int) e=false:=by
     unfold cP kP eg jU
     simp only[Bool.and_eq_false_iff,decide_eq_false_iff_not]
     omega
    rw[g]
    have:(top-2)*2^fr<=(a:Int)*2^fr:=Int.mul_le_mul_of_nonneg_right (by omega) (by omega)
    have e2:(top-2)*2^fr=top*2^fr-2*2^fr:=by rw[Int.sub_mul]
    exact(decide_eq_false (by omega)).symm
 refine⟨?_,fun hlt=>?_⟩
 ·unfold jk
  rw[if_neg (by omega),if_neg (by omega)]
  exact hJ
 ·have hg:cP fr top least (u:Int) e=true:=by rw[hJ];exact decide_eq_true hlt
  have hv:=Oh f fr hB top least (u:Int) e hu0 hu63 hg he
  rw[Int.toNat_natCast] at hv
  have hj0:0<=jv fr top least (u:Int) e:=by
   unfold jv
   rw[if_neg (by omega),if_pos hg]
   have h1:=oN hu0 hu63
   have h2:0<=kP fr least (u:Int) e:=by unfold kP eg;unfold cP at hg;simp only[Bool.and_eq_true,decide_eq_true_eq] at hg;omega
   have h3:(0:Int)<=2^(fr:Int).toNat:=CH _
   have h4:(0:Int)<=2^(eg fr least (u:Int) e).toNat:=CH _
   have:=Int.mul_nonneg h2 h3
   have:=Int.mul_nonneg (show 0<=jo (u:Int) by omega) h4
   omega
  have hV:V f rung=u*2^(e-least).toNat:=by
   show V f ((e-least).toNat*2^fr+u)=_
   rw[<- hB]
   by_cases hlt2:u<2^(fr+1)
   ·exact(pO f (e-least).toNat u (by rw[hB];rw[Nat.pow_succ] at hlt2;omega) (fun h=>by rw[hB];exact hn (by omega))).1
   ·have hue:u=2*f.binade-1+1:=by rw[hB];rw[Nat.pow_succ] at hu hlt2;omega
    have hb:=ku f
    have:=(pO f (e-least).toNat (2*f.binade-1) (by omega) (fun h=>by omega)).2
    rw[<- hue,Nat.add_assoc,<- hue] at this
    exact this
  have:=Qf f (hv.trans hV.symm)
  omega
end Go.Proofs.YtjjihmnbdeeedaaGreatDoor.M
namespace Go.Proofs.YtjjihmnbdeeedaaGreatDoor
open Go Go.Proofs.Tryz Go.RowKit Go.Proofs.YtjjihmnbdeeedaaGreatDoor.M
theorem Oo (ng odd:Bool) (left:Int) (w:World):Calls prog 320 #[.bool ng,.bool odd,G6 left] w fun e w'=>e=.returned (.bool (bX 0 ng odd left))∧w'=w:=by
 unfold bX
 rw[if_pos rfl]
 go_enter func320,ntmps320
 by_cases h3:left=3
 ·subst h3
  go_wp2
  go_ret
  exact⟨by simp,rfl⟩
 ·by_cases h2:left=2
  ·subst h2
   go_wp2
   go_ret
   exact⟨by simp,rfl⟩
  ·go_wp2
   go_ret
   exact⟨by simp[h2,h3],rfl⟩
theorem Oq (ng odd:Bool) (left:Int) (w:World):Calls prog 321 #[.bool ng,.bool odd,G6 left] w fun e w'=>e=.returned (.bool (bX 1 ng odd left))∧w'=w:=by
 unfold bX
 rw[if_neg (by decide),if_pos rfl]
 go_enter func321,ntmps321
 by_cases h0:left=0
 ·subst h0
  go_wp2
  go_ret
  exact⟨by simp,rfl⟩
 ·go_wp2
  go_ret
  exact⟨by simp[h0],rfl⟩
theorem Or (ng odd:Bool) (left:Int) (w:World):Calls prog 322 #[.bool ng,.bool odd,G6 left] w fun e w'=>e=.returned (.bool (bX 2 ng odd left))∧w'=w:=by
 unfold bX
 rw[if_neg (by decide),if_neg (by decide),if_pos rfl]
 go_enter func322,ntmps322
 by_cases h0:left=0
 ·subst h0
  go_wp2
  go_ret
  exact⟨by simp,rfl⟩
 ·go_wp2
  go_ret
  exact⟨by simp[h0],rfl⟩
theorem Ot (ng odd:Bool) (left:Int) (w:World):Calls prog 323 #[.bool ng,.bool odd,G6 left] w fun e w'=>e=.returned (.bool (bX 3 ng odd left))∧w'=w:=by
 unfold bX
 rw[if_neg (by decide),if_neg (by decide),if_neg (by decide)]
 go_enter func323,ntmps323
 go_wp2
 go_ret
 exact⟨rfl,rfl⟩
def ld (way:Int):Nat:=if way=0 then 320 else if way=1 then 321 else if way=2 then 322 else 323
def mo (way:Int):Value:=.agg #[.func (.func (ld way)) #[] #[]]
theorem sK (way:Int) (w:World):Calls prog 299 #[G6 way] w fun e w'=>e=.returned (.tuple #[if 0<=way∧way<=3 then mo way else .agg #[.nilFunc],.bool (decide (0<=way∧way<=3))])∧Below w.heap.size w w':=by
 have hmf:∀ (fn:Fn) (first cap:Array Value) (w:World),(Instr.makeFunc fn first cap).run prog w=.ok (.func fn first cap) w:=fun _ _ _ _=>rfl
 have hst:∀ (p:Addr) (F:Nat) (m:Mode) (w:World),(store p (.func (.func F) #[] #[]) m).run prog w=stored prog w p (.func (.func F) #[] #[]) m:=fun p F m w=>run_store _ w p _ m rfl
 have hsn:∀ (p:Addr) (m:Mode) (w:World),(store p .nilFunc m).run prog w=stored prog w p .nilFunc m:=fun p m w=>run_store _ w p _ m rfl
 have hb2:=aM w (.cells #[.nilFunc] 282) (.cells #[.nilFunc,.nilFunc,.nilFunc,.nilFunc] 297)
 have q0:=ew w (.cells #[.nilFunc] 282) (.cells #[.nilFunc,.nilFunc,.nilFunc,.nilFunc] 297)
 have q1:=cZ w (.cells #[.nilFunc] 282) (.cells #[.nilFunc,.nilFunc,.nilFunc,.nilFunc] 297)
 have x0:=ae q1 0 rfl
 have x1:=ae q1 1 rfl
 have x2:=ae q1 2 rfl
 have x3:=ae q1 3 rfl
 have z0:=ah q1 0
 have z1:=ah q1 1
 have z2:=ah q1 2
 have z3:=ah q1 3
 have y0:=ae q0 0 rfl
 have y1:=ah q0 0
 by_cases h0:way<0
 ·go_enter func299,ntmps299
  go_wp2
  refine bodyPost_ret (v:=.tuple #[.agg #[.nilFunc],.bool false]) (by simp[results,results299,go_sem]) rfl ⟨?_,?_⟩
  ·rfl
  ·exact aM _ _ _
 by_cases h4:4<=way
 ·go_enter func299,ntmps299
  go_wp2
  refine bodyPost_ret (v:=.tuple #[.agg #[.nilFunc],.bool false]) (by simp[results,results299,go_sem]) rfl ⟨?_,?_⟩
  ·rfl
  ·exact aM _ _ _
 rw[if_pos (by omega),show decide (0<=way∧way<=3)=true from decide_eq_true (by omega)]
 have hc:way=0∨way=1∨way=2∨way=3:=by omega
 rcases hc with rfl|rfl|rfl|rfl
 all_goals
  go_enter func299,ntmps299
  go_wp2
  refine bodyPost_ret (v:=.tuple #[mo _,.bool true]) (by simp[results,results299,go_sem,mo,ld];first|done|rfl) rfl ⟨rfl,?_⟩
  exact aM _ _ _
def ij (ng:Bool) (mag:Nat) (exp:Int) (cut sd:Bool):Value:=.agg #[.bool ng,.int .u64 mag,G6 exp,.bool cut,.bool sd]
theorem FR (ng:Bool) (mag:Nat) (exp unit:Int) (cut sd:Bool) (w:World) (k:Nat) (hk:unit-exp=-(k:Int)) (hk2:k<20000000) (hm:mag*2^k<18446744073709551616) :
  Calls prog 330 #[ij ng mag exp cut sd,G6 unit] w fun e w'=>e=.returned (.tuple #[.int .u64 (mag*2^k:Nat),G6 0])∧Below w.heap.size w w':=by
 have h0:IntKind.i64.wrap (unit-exp)=-(k:Int):=by rw[bK];omega
 unfold ij
 go_enter func330,ntmps330
 have hw:IntKind.u64.wrap ((mag:Int)*2^min k 64)=((mag*2^k:Nat):Int):=by
  rw[IntKind.wrap_u64]
  by_cases h:k<=64
  ·rw[show min k 64=k by omega]
   have e:(mag:Int)*2^k=((mag*2^k:Nat):Int):=by push_cast;rfl
   rw[e]
   omega
  ·have hz:mag=0:=by
    rcases Nat.eq_zero_or_pos mag with h0|h0
    ·exact h0
    ·have h1:2^64<=2^k:=Nat.pow_le_pow_right (by decide) (by omega)
     have h2:1*2^k<=mag*2^k:=Nat.mul_le_mul_right _ h0
     have h3:(2:Nat)^64=18446744073709551616:=by decide
     omega
   subst hz
   simp
 generalize ((mag*2^k:Nat):Int)=R at hw ⊢
 go_wp2
 refine bodyPost_ret (v:=.tuple #[.int .u64 R,G6 0]) (by simp[results,results330,go_sem]) rfl ⟨rfl,af _ _⟩
theorem Ou {a b c d:Int} (h1:a=c) (h2:b=d):Ending.returned (.tuple #[.int .u64 a,G6 b])=Ending.returned (.tuple #[.int .u64 c,G6 d]):=by rw[h1,h2]
theorem Qj {mag k t m:Nat} {cut:Bool} (hk0:0<k) (hm:mag<18446744073709551616) (ht:mag % 2^k=t) (hmid:(if k<=64 then 2^(k-1) else 0)=m):rL mag cut (k:Int)=if t=0∧cut=false then 0 else if t<m∨64<k then 1 else if t=m∧cut=false then 2 else 3:=by
 unfold rL
 rw[if_neg (by omega),Int.toNat_natCast,ht]
 obtain⟨p,hp,hp0⟩:=zH k hk0
 have hp2:2^(k-1)=p:=by
  have:2^k=2*2^(k-1):=by rw[<- Nat.pow_succ',Nat.succ_eq_add_one,Nat.sub_add_cancel hk0]
  omega
 rw[hp]
 by_cases hk:k<=64
 ·rw[if_pos hk,hp2] at hmid
  subst hmid
  have e1:(2*t<2*p)=(t<p∨64<k):=propext ⟨fun h=>.inl (by omega),fun h=>by omega⟩
  have e2:(2*t=2*p∧cut=false)=(t=p∧cut=false):=propext ⟨fun h=>⟨by omega,h.2⟩,fun h=>⟨by omega,h.2⟩⟩
  simp only[e1,e2]
 ·have hlt:2*t<2*p:=by
   have h1:2^65<=2^k:=Nat.pow_le_pow_right (by decide) (by omega)
   have h2:(2:Nat)^65=36893488147419103232:=by decide
   have h3:=Nat.mod_le mag (2^k)
   omega
  rw[if_pos hlt,if_pos (show t<m∨64<k from .inr (by omega))]
theorem Eo (ng:Bool) (mag:Nat) (exp unit:Int) (cut sd:Bool) (w:World) (k:Nat) (hk:unit-exp=(k:Int)) (hk0:0<k) (hk2:k<20000000) (hm:mag<18446744073709551616) :
  Calls prog 330 #[ij ng mag exp cut sd,G6 unit] w fun e w'=>e=.returned (.tuple #[.int .u64 (mag/2^k:Nat),G6 (rL mag cut (k:Int))])∧Below w.heap.size w w':=by
 have h0:IntKind.i64.wrap (unit-exp)=(k:Int):=by rw[bK];omega
 unfold ij
 obtain⟨u,hu⟩:∃ u,mag/2^k=u:=⟨_,rfl⟩
 obtain⟨t,ht⟩:∃ t,mag % 2^k=t:=⟨_,rfl⟩
 obtain⟨m,hmid⟩:∃ m:Nat,(if k<=64 then 2^(k-1) else 0)=m:=⟨_,rfl⟩
 have hd:=Nat.div_add_mod mag (2^k)
 rw[hu,ht] at hd
 have hpc:∀ n:Nat,(2:Int)^n=((2^n:Nat):Int):=fun n=>by simp
 have hbig:64<k->u=0∧mag/2^64=0:=fun h=>by
  have h1:2^64<=2^k:=Nat.pow_le_pow_right (by decide) (by omega)
  have h2:(2:Nat)^64=18446744073709551616:=by decide
  exact⟨by rw[<- hu];exact Nat.div_eq_of_lt (by omega),Nat.div_eq_of_lt (by omega)⟩
 have r1:(mag:Int)/2^min k 64=(u:Int):=by
  rw[hpc,<- Int.natCast_ediv]
  by_cases h:k<=64
  ·rw[show min k 64=k by omega,hu]
  ·obtain⟨h1,h2⟩:=hbig (by omega)
   rw[show min k 64=64 by omega,h1,h2]
 have r2:IntKind.u64.wrap ((u:Int)*2^min k 64)=(u:Int)*2^k:=by
  rw[IntKind.wrap_u64]
  by_cases h:k<=64
  ·rw[show min k 64=k by omega,hpc,<- Int.natCast_mul]
   have:u*2^k<=mag:=by rw[Nat.mul_comm];omega
   omega
  ·obtain⟨h1,_⟩:=hbig (by omega)
   rw[h1]
   simp
 have r3:IntKind.u64.wrap ((mag:Int)-(u:Int)*2^k)=(t:Int):=by
  rw[IntKind.wrap_u64,hpc,<- Int.natCast_mul,Nat.mul_comm]
  have:t<=mag:=by omega
  omega
 have r4:IntKind.i64.wrap ((k:Int)-1)=((k-1:Nat):Int):=by rw[bK];omega
 have r5:IntKind.u64.wrap ((2:Int)^min (k-1) 64)=(m:Int):=by
  rw[IntKind.wrap_u64,<- hmid]
  by_cases h:k<=64
  ·rw[if_pos h,show min (k-1) 64=k-1 by omega,hpc]
   have h1:2^(k-1)<=2^63:=Nat.pow_le_pow_right (by decide) (by omega)
   have h2:(2:Nat)^63=9223372036854775808:=by decide
   rw[h2] at h1
   generalize 2^(k-1)=p at h1 ⊢
   omega
  ·rw[if_neg h,show min (k-1) 64=64 by omega]
   decide
 have HRL:Hid (rL mag cut (k:Int)=if t=0∧cut=false then 0 else if t<m∨64<k then 1 else if t=m∧cut=false then 2 else 3):=Qj hk0 hm ht hmid
 rw[hu]
 clear hd hpc hbig hmid ht hu
 have HW:Hid (IntKind.i64.wrap (unit-exp)=(k:Int)):=h0
 have g0:=heap_alloc_new w (.cells #[.bool ng,.int .u64 mag,G6 exp,.bool cut,.bool sd] 264)
 have k1:=ae g0 1 rfl
 go_enter func330,ntmps330
 go_wp2
 go_region_held3 (fun W=>W.cell? ⟨w.heap.size,1,none⟩=some (.int .u64 mag))
  (first|assumption|exact k1)
  (fail)
 all_goals go_wp2
 all_goals go_ret2
 all_goals exact⟨Ou rfl (by rw[HRL.out];clear HRL;cases cut<;>simp at *<;>(repeat' split)<;>omega),by first|exact(af _ _).drew|exact af _ _⟩
theorem FS (ng:Bool) (mag:Nat) (exp unit:Int) (cut sd:Bool) (w:World) (hm:mag<18446744073709551616) (hu:-5000000<=unit∧unit<=5000000) (he:-5000000<=exp∧exp<=5000000) (hs:unit-exp<=0->rU mag (unit-exp)<18446744073709551616) :
  Calls prog 330 #[ij ng mag exp cut sd,G6 unit] w fun e w'=>e=.returned (.tuple #[.int .u64 (rU mag (unit-exp):Nat),G6 (rL mag cut (unit-exp))])∧Below w.heap.size w w':=by
 by_cases h:unit-exp<=0
 ·have:=hs h
  unfold rU rL at *
  rw[if_pos h] at *
  rw[if_pos h]
  exact FR ng mag exp unit cut sd w (-(unit-exp)).toNat (by omega) (by omega) this
 ·have e:unit-exp=((unit-exp).toNat:Int):=by omega
  have e1:rU mag (unit-exp)=mag/2^(unit-exp).toNat:=by unfold rU;rw[if_neg h]
  rw[e1,e]
  exact Eo ng mag exp unit cut sd w (unit-exp).toNat e (by omega) (by omega) hm
end Go.Proofs.YtjjihmnbdeeedaaGreatDoor
