/- Parts of the proof. -/
import Derived.Test.YtjjihmnbdeeedaaGreatDoorKn9
import Derived.Test.YtjjihmnbdeeedaaGreatDoorKn5
import Derived.Laws.Externs
import Derived.Test.YtjjihmnbdeeedaaGreatDoorKn4
import Derived.Laws.MakeOwn
import Derived.Test.YtjjihmnbdeeedaaGreatDoorKn6
import Derived.Test.YtjjihmnbdeeedaaGreatDoorKn8
import Derived.Test.YtjjihmnbdeeedaaGreatDoorKn3
set_option maxRecDepth 100000
set_option maxHeartbeats 40000000
set_option linter.unusedVariables false
set_option linter.unusedSimpArgs false
namespace Go.Proofs.YtjjihmnbdeeedaaGreatDoor
open Go Go.RowKit Go.Proofs.YtjjihmnbdeeedaaGreatDoor.M
def prLo (p q:Int):Int:=if rg p=0∨rg q=0 then 0 else if rg p=9218868437227405312∨rg q=9218868437227405312 then patS (xsg p q) 9218868437227405312 else rdP 1 (prV p q)
def prHi (p q:Int):Int:=if rg p=0∨rg q=0 then 0 else if rg p=9218868437227405312∨rg q=9218868437227405312 then patS (xsg p q) 9218868437227405312 else rdP 2 (prV p q)
theorem nn_rg {p:Int} (h:nn p):0<=rg p∧rg p<=9218868437227405312:=by
 have:=(FW.pat h.2 h.1).of h.2
 exact this.2.2
theorem rg_pat0 {p:Int} (h:nn p) (hf:rg p≠9218868437227405312):pok p=true:=(pok_rg h.1).2 (by have:=nn_rg h; omega)
theorem patV_nz {p:Int} (h:rng p) (hp:pok p=true) (h0:rg p≠0):patV p≠0:=fun e=>by
 have hv:=patV_iV h hp
 have hi:iV p=0:=by
  rcases Int.mul_eq_zero.1 (hv.symm.trans e) with q | q
  ·exact q
  ·have:=pw_pos (-1074); omega
 have h5:=(rg_parts h).1
 unfold iV at hi
 have hV:(V Ieee.double (rg p).toNat:Int)=0:=by
  cases hd:decide (p<0) <;> rw [hd] at hi
  ·exact hi
  ·have:-(V Ieee.double (rg p).toNat:Int)=0:=hi
   omega
 rcases Nat.eq_zero_or_pos (rg p).toNat with q | q
 ·omega
 ·have:=V_lt Ieee.double q
  omega
theorem prV_nz {p q:Int} (rp:rng p) (rq:rng q) (hp:pok p=true) (hq:pok q=true) (p0:rg p≠0) (q0:rg q≠0):prV p q≠0:=fun e=>by
 obtain ⟨_,_,_,_,hC⟩:=prV_parts rp rq hp hq
 rw [e,Int.zero_mul] at hC
 rcases Int.mul_eq_zero.1 hC.symm with h | h
 ·exact patV_nz rp hp p0 h
 ·exact patV_nz rq hq q0 h
theorem fprod_fin {p q:Int} (rp:rng p) (rq:rng q) (hp:pok p=true) (hq:pok q=true) (h:prV p q≠0):fprod p q=nearP (prV p q):=by
 have h1:=(pok_rg rp).1 hp
 have h2:=(pok_rg rq).1 hq
 have hz:fsize p q≠0:=fun e=>h (by unfold prV; rw [e]; cases xsg p q <;> rfl)
 have n4:¬ (cls p=4∨cls q=4):=fun k=>by rcases k with k | k; exact pok_clsF rp hp k; exact pok_clsF rq hq k
 have i2:¬ (rg p=9218868437227405312∨rg q=9218868437227405312):=by omega
 unfold fprod
 rw [if_neg n4,if_neg i2,if_neg hz]
 rfl
theorem less_key {l:Int} (h:cls l≠4):(less l 0=true ↔ key l<0)∧(less 0 l=true ↔ 0<key l):=by
 have c0:¬ cls 0=4:=by decide
 have k0:key 0=0:=by decide
 unfold less
 rw [k0]
 simp [h,c0]
theorem pr_fin {p q:Int} (rp:rng p) (rq:rng q) (hp:pok p=true) (hq:pok q=true) (p0:rg p≠0) (q0:rg q≠0) (hd:283726776524341248<=rg (fprod p q)) :
  beLo (fprod p q) (ffma p q (neg (fprod p q)))=rdP 1 (prV p q)∧beHi (fprod p q) (ffma p q (neg (fprod p q)))=rdP 2 (prV p q):=by
 have hV:=prV_nz rp rq hp hq p0 q0
 have hN:=fprod_fin rp rq hp hq hV
 rw [hN] at hd ⊢
 obtain ⟨rn,cn⟩:=nearP_pat hV
 cases hf:pok (nearP (prV p q))
 ·have hi:=dir_inf hV hf
  have hm:∀ r,rng r->rg r=9218868437227405312->cls r≠4->ffma p q r=r:=fun r hr h1 h4=>by
   have h5:=(pok_rg rp).1 hp
   have h6:=(pok_rg rq).1 hq
   have n4:¬ (cls p=4∨cls q=4∨cls r=4):=fun k=>by rcases k with k | k | k; exact pok_clsF rp hp k; exact pok_clsF rq hq k; exact h4 k
   have i2:¬ (rg p=9218868437227405312∨rg q=9218868437227405312):=by omega
   unfold ffma
   rw [if_neg n4,if_neg i2,if_pos h1]
  rcases Int.lt_or_gt_of_ne hV with hn | hn
  ·obtain ⟨e0,e1,e2⟩:=hi.2 hn
   rw [e0,e1,e2,show neg (-4503599627370496)=9218868437227405312 by decide,hm _ (by unfold rng; omega) (by decide) (by decide)]
   exact ⟨by decide,by decide⟩
  ·obtain ⟨e0,e1,e2⟩:=hi.1 hn
   rw [e0,e1,e2,show neg 9218868437227405312=-4503599627370496 by decide,hm _ (by unfold rng; omega) (by decide) (by decide)]
   exact ⟨by decide,by decide⟩
 ·obtain ⟨d1,d2,d3⟩:=dir_fin hV hf
  have e0:=rdP_near hV
  have hr:=(pok_rg rn).1 hf
  obtain ⟨S,hS,hF,hb⟩:=fused_any (way:=0) rp rq hp hq hV (by rw [e0]; exact hd) (.inr ⟨rfl,by rw [e0]; exact hr⟩)
  rw [e0] at hS
  generalize nearP (prV p q)=n at *
  obtain ⟨rm,pm,im⟩:=neg_facts rn hf
  have hfS:fmaS p q (neg n)=prV p q-patV n:=by
   rw [fmaS_pr,patV_opp rn hf]
   omega
  by_cases h0:prV p q-patV n=0
  ·have hl:ffma p q (neg n)=patS (xsg p q && decide (neg n<0)) 0:=fma_zero rp rq rm hp hq pm (hfS.trans h0)
   have h1:less (ffma p q (neg n)) 0=false:=by rw [hl]; cases (xsg p q && decide (neg n<0)) <;> decide
   have h2:less 0 (ffma p q (neg n))=false:=by rw [hl]; cases (xsg p q && decide (neg n<0)) <;> decide
   unfold beLo beHi
   rw [h1,h2]
   have:=d3 (by omega)
   exact ⟨this.1,this.2⟩
  ·have hS0:S≠0:=fun e=>h0 (by rw [hS,e,Int.zero_mul])
   obtain ⟨g1,g2,g3⟩:=near_exact hF hS0 hb
   have hl:ffma p q (neg n)=nearP (S*pw (-1074)):=by
    have h5:=(pok_rg rp).1 hp
    have h6:=(pok_rg rq).1 hq
    have h7:=(pok_rg rm).1 pm
    have n4:¬ (cls p=4∨cls q=4∨cls (neg n)=4):=fun k=>by rcases k with k | k | k; exact pok_clsF rp hp k; exact pok_clsF rq hq k; exact pok_clsF rm pm k
    have i2:¬ (rg p=9218868437227405312∨rg q=9218868437227405312):=by omega
    have i3:¬ rg (neg n)=9218868437227405312:=by omega
    unfold ffma
    rw [if_neg n4,if_neg i2,if_neg i3,hfS,if_neg h0,hS]
   rw [hl]
   generalize nearP (S*pw (-1074))=l at *
   obtain ⟨k1,k2⟩:=iV_key g1
   rw [g3] at k1 k2
   obtain ⟨l1,l2⟩:=less_key (pok_clsF g1 g2)
   have hq2:=pw_pos (-1074)
   unfold beLo beHi
   rcases Int.lt_or_gt_of_ne hS0 with hn | hn
   ·have hD:prV p q-patV n<0:=by rw [hS]; exact Int.mul_neg_of_neg_of_pos hn hq2
    rw [l1.2 (k1.1 hn)]
    clear hS hq2
    have:=d1 (by omega)
    exact ⟨this.1,this.2⟩
   ·have hD:0<prV p q-patV n:=by rw [hS]; exact Int.mul_pos hn hq2
    have hno:less l 0=false:=by
     cases h:less l 0
     ·rfl
     ·have:=k1.2 (l1.1 h); omega
    rw [hno,l2.2 (k2.1 hn)]
    clear hS hq2
    have:=d2 (by omega)
    exact ⟨this.1,this.2⟩
theorem pr_infE {p q:Int} (hp:nn p) (hq:nn q) (p0:rg p≠0) (q0:rg q≠0) (hi:rg p=9218868437227405312∨rg q=9218868437227405312) :
  fprod p q=patS (xsg p q) 9218868437227405312∧ffma p q (neg (fprod p q))=9221120237041090561:=by
 have n4:¬ (cls p=4∨cls q=4):=fun k=>by rcases k with k | k; exact hp.2 k; exact hq.2 k
 have i2:¬ (rg p=0∨rg q=0):=by omega
 have e:fprod p q=patS (xsg p q) 9218868437227405312:=by
  unfold fprod
  rw [if_neg n4,if_pos hi,if_neg i2]
 refine ⟨e,?_⟩
 rw [e]
 have hneg:neg (patS (xsg p q) 9218868437227405312)=patS (!xsg p q) 9218868437227405312:=by cases xsg p q <;> decide
 rw [hneg]
 have c4:¬ cls (patS (!xsg p q) 9218868437227405312)=4:=by cases xsg p q <;> decide
 have r4:rg (patS (!xsg p q) 9218868437227405312)=9218868437227405312:=by cases xsg p q <;> decide
 have s4:decide (patS (!xsg p q) 9218868437227405312<0)=!xsg p q:=by cases xsg p q <;> decide
 have n5:¬ (cls p=4∨cls q=4∨cls (patS (!xsg p q) 9218868437227405312)=4):=fun k=>by rcases k with k | k | k; exact hp.2 k; exact hq.2 k; exact c4 k
 have n6:rg (patS (!xsg p q) 9218868437227405312)=9218868437227405312∧¬ xsg p q=decide (patS (!xsg p q) 9218868437227405312<0):=⟨r4,by rw [s4]; cases xsg p q <;> decide⟩
 unfold ffma
 rw [if_neg n5,if_pos hi,if_neg i2,if_pos n6]
end Go.Proofs.YtjjihmnbdeeedaaGreatDoor
namespace Go.Proofs.YtjjihmnbdeeedaaGreatDoor
open Go Go.RowKit Go.Proofs.YtjjihmnbdeeedaaGreatDoor.M Ieee
theorem ext_fma (x y z:Nat):∃ a b,Extern.MathFMA.fma #[.float .f64 x,.float .f64 y,.float .f64 z]=Option.casesOn (motive:=fun _=>Sem Value) (FloatKind.f64.format.fma x y z) (do pure (.float .f64 (<- choose (.nanBits .f64 a b)))) (fun r=>pure (.float .f64 r)):=by
  cases h1:Extern.MathFMA.isNaN x with
  | true=>exact ⟨x,y,by
      have:Extern.MathFMA.fma #[.float .f64 x,.float .f64 y,.float .f64 z]=Option.casesOn (motive:=fun _=>Sem Value) (FloatKind.f64.format.fma x y z) (match (if Extern.MathFMA.isNaN x then (x,y) else if Extern.MathFMA.isNaN y then (y,z) else (z,z)) with | (a,b)=>do pure (.float .f64 (<- choose (.nanBits .f64 a b)))) (fun r=>pure (.float .f64 r)):=by kernel_rfl
      rw [this,h1]; rfl⟩
  | false=>
    cases h2:Extern.MathFMA.isNaN y with
    | true=>exact ⟨y,z,by
        have:Extern.MathFMA.fma #[.float .f64 x,.float .f64 y,.float .f64 z]=Option.casesOn (motive:=fun _=>Sem Value) (FloatKind.f64.format.fma x y z) (match (if Extern.MathFMA.isNaN x then (x,y) else if Extern.MathFMA.isNaN y then (y,z) else (z,z)) with | (a,b)=>do pure (.float .f64 (<- choose (.nanBits .f64 a b)))) (fun r=>pure (.float .f64 r)):=by kernel_rfl
        rw [this,h1,h2]; rfl⟩
    | false=>exact ⟨z,z,by
        have:Extern.MathFMA.fma #[.float .f64 x,.float .f64 y,.float .f64 z]=Option.casesOn (motive:=fun _=>Sem Value) (FloatKind.f64.format.fma x y z) (match (if Extern.MathFMA.isNaN x then (x,y) else if Extern.MathFMA.isNaN y then (y,z) else (z,z)) with | (a,b)=>do pure (.float .f64 (<- choose (.nanBits .f64 a b)))) (fun r=>pure (.float .f64 r)):=by kernel_rfl
        rw [this,h1,h2]; rfl⟩
theorem run_ffma {p q r:Int} {x y z:Nat} (hx:FW p x) (hy:FW q y) (hz:FW r z) (w:World) :
  ∃ t w',(callFunc 249 #[.float .f64 x,.float .f64 y,.float .f64 z]).run Tryz.prog w=.ok (.value (.float .f64 t)) w'∧FW (ffma p q r) t∧(w'=w∨w'=w.drew):=by
 rw [run_callFunc_extern Tryz.func249 (by kernel_rfl) (by kernel_rfl) (by kernel_rfl) (e:=Extern.MathFMA.fma) (by kernel_rfl)]
 obtain ⟨a,b,hab⟩:=ext_fma x y z
 rw [hab]
 rcases fma_FW hx hy hz with ⟨t,e1,e2⟩ | ⟨e1,e2⟩
 ·refine ⟨t,w,?_,e2,.inl rfl⟩
  have e1':FloatKind.f64.format.fma x y z=some t:=e1
  rw [e1']
  simp
 ·have e1':FloatKind.f64.format.fma x y z=none:=e1
  rw [e1']
  refine ⟨(Question.nanBits .f64 a b).cut (w.tape w.drawn (.nanBits .f64 a b)),w.drew,?_,?_,.inr rfl⟩
  ·simp
   exact fun hf=>absurd (show false=true from hf) (by decide)
  ·rw [e2]
   exact FW.nan (nan_cut a b (w.tape w.drawn (.nanBits .f64 a b)))
end Go.Proofs.YtjjihmnbdeeedaaGreatDoor
namespace Go.Proofs.YtjjihmnbdeeedaaGreatDoor
open Go Go.RowKit Go.Proofs.YtjjihmnbdeeedaaGreatDoor.M
def BlkN (w:World) (g N k:Nat) (q:Nat->NumR):Prop :=
 ∃ cur:Array Value,w.heap[g]?=some (.cells cur 40 (0,0))∧cur.size=N*3∧∀ i,i<k->(cur[i*3]?=some (.bool (q i).ng)∧cur[i*3+1]?=some (.slice (q i).ao (q i).n (q i).cap)∧cur[i*3+2]?=some (.int .i64 (q i).e))∧Row w (q i).ao (q i).n (q i).cap (q i).d
theorem info_num:∃ i,Tryz.prog.info? 40=some i∧i.zero=some (.agg #[.bool false,.slice none 0 0,.int .i64 0])∧i.size=3∧i.bytes=40:=by
 have h:(Tryz.prog.info? 40).map (fun i=>(i.zero,i.size,i.bytes))=some (some (.agg #[.bool false,.slice none 0 0,.int .i64 0]),3,40):=by kernel_rfl
 obtain ⟨i,hi,hzz⟩:=Option.map_eq_some_iff.1 h
 simp only [Prod.mk.injEq] at hzz
 exact ⟨i,hi,hzz⟩
theorem make_nums (n:Nat) (hn:n<=100000) (w:World) :
  (Instr.makeSlice 231 (.int .i64 (n:Int)) (.int .i64 (n:Int))).run Tryz.prog w=.ok (.slice (some ⟨w.heap.size,0,none⟩) n n) (w.alloc (.cells (madeCells #[.bool false,.slice none 0 0,.int .i64 0] (n*3)) 40)):=by
 obtain ⟨i,hi,hz,hs,hb⟩:=info_num
 have:=run_make (P:=Tryz.prog) w 231 40 i _ Tryz.underlying231 hi hz .i64 .i64 n n (by omega) (Int.le_refl _) (by rw [hb]; omega) (by omega)
 simp only [Int.toNat_natCast,hs] at this
 exact this
def updN (q:Nat->NumR) (k:Nat) (x:NumR):Nat->NumR:=fun j=>if j=k then x else q j
theorem updN_same (q:Nat->NumR) (k:Nat) (x:NumR):updN q k x k=x:=by simp [updN]
theorem updN_other (q:Nat->NumR) {k j:Nat} (x:NumR) (h:j≠k):updN q k x j=q j:=by simp [updN,h]
theorem keep3W {W w':World} {b g o0 o1 o2:Nat} {x y z:Value} (h:W.cell? ⟨b,o0,none⟩=some x∧W.cell? ⟨b,o1,none⟩=some y∧W.cell? ⟨b,o2,none⟩=some z) (hw:Wr g W w') (hg:b≠g) :
  w'.cell? ⟨b,o0,none⟩=some x∧w'.cell? ⟨b,o1,none⟩=some y∧w'.cell? ⟨b,o2,none⟩=some z :=
 ⟨(hw.cell (World.block_lt_of_cell? W _ h.1) hg).trans h.1,(hw.cell (World.block_lt_of_cell? W _ h.2.1) hg).trans h.2.1,(hw.cell (World.block_lt_of_cell? W _ h.2.2) hg).trans h.2.2⟩
theorem keep3B {W w':World} {b o0 o1 o2:Nat} {x y z:Value} (h:W.cell? ⟨b,o0,none⟩=some x∧W.cell? ⟨b,o1,none⟩=some y∧W.cell? ⟨b,o2,none⟩=some z) (hb:Below W.heap.size W w') :
  w'.cell? ⟨b,o0,none⟩=some x∧w'.cell? ⟨b,o1,none⟩=some y∧w'.cell? ⟨b,o2,none⟩=some z:=⟨cell_keeps h.1 hb,cell_keeps h.2.1 hb,cell_keeps h.2.2 hb⟩
theorem wr3 (W:World) (g o0 o1 o2:Nat) (x y z:Value):Wr g W (((W.setCell ⟨g,o0,none⟩ x).setCell ⟨g,o1,none⟩ y).setCell ⟨g,o2,none⟩ z):=(((Wr.refl g W).setCell o0 x).setCell o1 y).setCell o2 z
theorem Row.wrN {w w':World} {g:Nat} {ao:Option Addr} {n cap:Nat} {d:Nat->Int} (h:Row w ao n cap d) (hw:Wr g w w') {cur:Array Value} {z:Nat × Nat} (hg:w.heap[g]?=some (.cells cur 40 z)) (ht:∀ b off,ao=some ⟨b,off,none⟩->0<n->b≠g):Row w' ao n cap d :=
  ⟨h.le,h.max,h.nl,fun hn=>by
    obtain ⟨b,off,rfl,hlt,hc⟩:=h.spot hn
    exact ⟨b,off,rfl,Nat.lt_of_lt_of_le hlt hw.size,fun i hi=>(hw.cell (p:=⟨b,off+i,none⟩) hlt (ht b off rfl hn)).trans (hc i hi)⟩⟩
theorem Ans.open {w w':World} {V:Int} {so:Option Addr} {sn sc:Nat} (h:Ans w w' V (.slice so sn sc)):∃ d,Row w' so sn sc d∧Nrm d sn∧val d sn=V∧∀ b off,so=some ⟨b,off,none⟩->w.heap.size<=b:=by
 obtain ⟨t,d,hO,hN,hV,_⟩:=h
 have hge:=own_ge hO
 obtain ⟨so',sc',e,hR⟩:=hO.row
 simp only [Value.slice.injEq] at e
 obtain ⟨rfl,rfl,rfl⟩:=e
 exact ⟨d,hR,hN,hV,fun b off hb=>hge b (by rw [hb]; rfl)⟩
theorem bel_set3' {w0 w:World} {g o0 o1 o2:Nat} (h:Below w0.heap.size w0 w) (hg:w0.heap.size<=g) (x y z:Value):Below w0.heap.size w0 (((w.setCell ⟨g,o0,none⟩ x).setCell ⟨g,o1,none⟩ y).setCell ⟨g,o2,none⟩ z):=((h.setCell (p:=⟨g,o0,none⟩) hg x).setCell (p:=⟨g,o1,none⟩) hg y).setCell (p:=⟨g,o2,none⟩) hg z
theorem set3_get {cur:Array Value} {k:Nat} {x y z:Value} (h:k*3+2<cur.size) (i:Nat) :
  let c:=((cur.setIfInBounds (k*3) x).setIfInBounds (k*3+1) y).setIfInBounds (k*3+2) z
  (i=k->c[i*3]?=some x∧c[i*3+1]?=some y∧c[i*3+2]?=some z)∧(i≠k->c[i*3]?=cur[i*3]?∧c[i*3+1]?=cur[i*3+1]?∧c[i*3+2]?=cur[i*3+2]?):=by
 intro c
 refine ⟨fun e=>?_,fun e=>?_⟩
 ·subst e
  refine ⟨?_,?_,?_⟩
  ·show (((cur.setIfInBounds (i*3) x).setIfInBounds (i*3+1) y).setIfInBounds (i*3+2) z)[i*3]?=some x
   rw [Array.getElem?_setIfInBounds_ne (by omega),Array.getElem?_setIfInBounds_ne (by omega),Array.getElem?_setIfInBounds_self_of_lt (by omega)]
  ·show (((cur.setIfInBounds (i*3) x).setIfInBounds (i*3+1) y).setIfInBounds (i*3+2) z)[i*3+1]?=some y
   rw [Array.getElem?_setIfInBounds_ne (by omega),Array.getElem?_setIfInBounds_self_of_lt (by simp; omega)]
  ·show (((cur.setIfInBounds (i*3) x).setIfInBounds (i*3+1) y).setIfInBounds (i*3+2) z)[i*3+2]?=some z
   rw [Array.getElem?_setIfInBounds_self_of_lt (by simp; omega)]
 ·refine ⟨?_,?_,?_⟩
  all_goals
   show (((cur.setIfInBounds (k*3) x).setIfInBounds (k*3+1) y).setIfInBounds (k*3+2) z)[_]?=_
   rw [Array.getElem?_setIfInBounds_ne (by omega),Array.getElem?_setIfInBounds_ne (by omega),Array.getElem?_setIfInBounds_ne (by omega)]
theorem BlkN.step {wr w3:World} {g N k:Nat} {q:Nat->NumR} (h:BlkN wr g N k q) (hb:Below wr.heap.size wr w3) (x:NumR) (hx:Row w3 x.ao x.n x.cap x.d) (hk:k<N) (hg:∀ i b' off,i<k->(q i).ao=some ⟨b',off,none⟩->0<(q i).n->g<b') (hg2:∀ b' off,x.ao=some ⟨b',off,none⟩->0<x.n->g<b') :
  BlkN (((w3.setCell ⟨g,k*3,none⟩ (.bool x.ng)).setCell ⟨g,k*3+1,none⟩ (.slice x.ao x.n x.cap)).setCell ⟨g,k*3+2,none⟩ (.int .i64 x.e)) g N (k+1) (updN q k x):=by
 obtain ⟨cur,hcur,hsz,hc⟩:=h
 have q0:=(hb.block g (Array.getElem?_eq_some_iff.1 hcur).1).trans hcur
 have q1:=heap_set (heap_set (heap_set q0 (k*3) (.bool x.ng)) (k*3+1) (.slice x.ao x.n x.cap)) (k*3+2) (.int .i64 x.e)
 have hw:=wr3 w3 g (k*3) (k*3+1) (k*3+2) (.bool x.ng) (.slice x.ao x.n x.cap) (.int .i64 x.e)
 refine ⟨_,q1,by simp [hsz],fun i hi=>?_⟩
 have hs:=set3_get (cur:=cur) (k:=k) (x:=.bool x.ng) (y:=.slice x.ao x.n x.cap) (z:=.int .i64 x.e) (by omega) i
 by_cases e:i=k
 ·subst e
  rw [updN_same]
  exact ⟨hs.1 rfl,hx.wrN hw q0 fun b' off he hn=>by have:=hg2 b' off he hn; omega⟩
 ·rw [updN_other q x e]
  obtain ⟨s0,s1,s2⟩:=hs.2 e
  obtain ⟨⟨c0,c1,c2⟩,hR⟩:=hc i (by omega)
  refine ⟨⟨s0.trans c0,s1.trans c1,s2.trans c2⟩,(hR.keeps hb).wrN hw q0 fun b' off he hn=>?_⟩
  have:=hg i b' off (by omega) he hn
  omega
theorem BlkN.nums {w:World} {g N:Nat} {q:Nat->NumR} (h:BlkN w g N N q) (hN:N<=100000):Nums w (some ⟨g,0,none⟩) N N q:=by
 obtain ⟨cur,hcur,hsz,hc⟩:=h
 refine ⟨Nat.le_refl _,by omega,fun _=>⟨g,0,rfl,(Array.getElem?_eq_some_iff.1 hcur).1,fun i hi=>?_⟩⟩
 obtain ⟨⟨c0,c1,c2⟩,hR⟩:=hc i hi
 rw [Nat.zero_add]
 exact ⟨blkC hcur _ c0,blkC hcur _ c1,blkC hcur _ c2,hR⟩
theorem products_any (ao bo:Option Addr) (n ca cb:Nat) (a b:Nat->NumR) (w:World) (ha:Nums w ao n ca a) (hb:Nums w bo n cb b) (hn:n<=100000) (sa:∀ i,i<n->Sane (a i)) (sb:∀ i,i<n->Sane (b i)) :
  Calls Tryz.prog 312 #[.slice ao n ca,.slice bo n cb] w fun x w'=>∃ g q,x=.returned (.slice (some ⟨g,0,none⟩) n n)∧w.heap.size<=g∧Nums w' (some ⟨g,0,none⟩) n n q∧Below w.heap.size w w'∧∀ i,i<n->Nrm (q i).d (q i).n∧(q i).ng=((a i).ng != (b i).ng)∧val (q i).d (q i).n=val (a i).d (a i).n*val (b i).d (b i).n∧(q i).e=(a i).e+(b i).e:=by
 have hla:=ha.le
 have hma:=ha.max
 have hlb:=hb.le
 have hmb:=hb.max
 have hmake:=make_nums n hn
 go_enter Tryz.func312,Tryz.ntmps312
 go_wp2_with fail
 have hb0:=bel_alloc w (.cells (madeCells #[.bool false,.slice none 0 0,.int .i64 0] (n*3)) 40)
 have g0:=heap_a1 w (.cells (madeCells #[.bool false,.slice none 0 0,.int .i64 0] (n*3)) 40)
 have HB0:Hid (BlkN (w.alloc (.cells (madeCells #[.bool false,.slice none 0 0,.int .i64 0] (n*3)) 40)) w.heap.size n 0 a):=⟨_,g0,by rw [size_madeCells],fun i hi=>by omega⟩
 clear g0 hmake
 generalize w.alloc (.cells (madeCells #[.bool false,.slice none 0 0,.int .i64 0] (n*3)) 40)=wx at hb0 HB0 ⊢
 go_loopw [12] (fun iv wr=>∃ (k:Nat) (q:Nat->NumR),k<=n∧iv=.int .i64 k∧Hid (BlkN wr w.heap.size n k q)∧Hid (∀ i,i<k->Nrm (q i).d (q i).n∧(q i).ng=((a i).ng != (b i).ng)∧val (q i).d (q i).n=val (a i).d (a i).n*val (b i).d (b i).n∧(q i).e=(a i).e+(b i).e)∧Hid (∀ i b' off,i<k->(q i).ao=some ⟨b',off,none⟩->0<(q i).n->w.heap.size<b')∧Below w.heap.size w wr) (fun iv _=>n-(intOf iv).toNat)
 case atStart=>exact ⟨0,a,Nat.zero_le _,rfl,HB0,fun i hi=>by omega,fun i b' off hi=>by omega,hb0⟩
 case round=>
  obtain ⟨k,q,hk,rfl,HQ,HF,HG,hbw⟩:=hrel
  clear HB0 hb0
  by_cases hlt:k<n
  ·obtain ⟨ba,oa,rfl,hba,hca⟩:=ha.spot (by omega)
   obtain ⟨bb,ob,rfl,hbb,hcb⟩:=hb.spot (by omega)
   obtain ⟨c0,c1,c2,ra⟩:=(hca k hlt).keeps hbw hba
   obtain ⟨d0,d1,d2,rb⟩:=(hcb k hlt).keeps hbw hbb
   have CP:=fun W (h:Below wr.heap.size wr W)=>dproduct_any (a k) (b k) W (ra.keeps h) (rb.keeps h) (sa k hlt) (sb k hlt)
   have hea:Hid (-1100000<=(a k).e∧(a k).e<=1100000):=(sa k hlt).2.2
   have heb:Hid (-1100000<=(b k).e∧(b k).e<=1100000):=(sb k hlt).2.2
   have HAK:Hid (∀ x,a k=x->a k=x):=fun _ h=>h
   clear hca hcb ra rb
   obtain ⟨xa,hxa⟩:∃ x,a k=x:=⟨_,rfl⟩
   obtain ⟨xb,hxb⟩:∃ x,b k=x:=⟨_,rfl⟩
   rw [hxa] at c0 c1 c2 CP hea
   rw [hxb] at d0 d1 d2 CP heb
   have HXA:Hid (a k=xa):=hxa
   have HXB:Hid (b k=xb):=hxb
   clear hxa hxb HAK
   unfold NumR.v at CP
   obtain ⟨ag,aao,an,aca,ad,ae⟩:=xa
   obtain ⟨bg,bao,bn,bca,bd,be⟩:=xb
   simp only at c0 c1 c2 d0 d1 d2 CP hea heb
   obtain ⟨cur,hcur,hsz,hcells⟩:=HQ.out
   have HCL:Hid _:=hcells
   have e0:k*3<cur.size:=by omega
   have e1:k*3+1<cur.size:=by omega
   have e2:k*3+2<cur.size:=by omega
   obtain ⟨v0,hv0⟩:∃ v,cur[k*3]?=some v:=⟨_,Array.getElem?_eq_getElem e0⟩
   obtain ⟨v1,hv1⟩:∃ v,cur[k*3+1]?=some v:=⟨_,Array.getElem?_eq_getElem e1⟩
   obtain ⟨v2,hv2⟩:∃ v,cur[k*3+2]?=some v:=⟨_,Array.getElem?_eq_getElem e2⟩
   have HV:Hid (cur[k*3]?=some v0∧cur[k*3+1]?=some v1∧cur[k*3+2]?=some v2):=⟨hv0,hv1,hv2⟩
   have HSZ:Hid (cur.size=n*3):=hsz
   have HCUR:Hid (wr.heap[w.heap.size]?=some (.cells cur 40 (0,0))):=hcur
   have hgs:w.heap.size<wr.heap.size:=(Array.getElem?_eq_some_iff.1 hcur).1
   clear hcells hv0 hv1 hv2 hcur hsz e0 e1 e2
   have i0:(0:Int)<=(k:Int):=by omega
   have i1:(k:Int)<(n:Int):=by omega
   have kc0:(wr.drew.cell? ⟨ba,oa+k*3,none⟩=some (.bool ag)∧wr.drew.cell? ⟨ba,oa+k*3+1,none⟩=some (.slice aao an aca)∧wr.drew.cell? ⟨ba,oa+k*3+2,none⟩=some (.int .i64 ae))∧wr.drew.cell? ⟨bb,ob+k*3,none⟩=some (.bool bg)∧wr.drew.cell? ⟨bb,ob+k*3+1,none⟩=some (.slice bao bn bca)∧wr.drew.cell? ⟨bb,ob+k*3+2,none⟩=some (.int .i64 be):=⟨⟨c0,c1,c2⟩,d0,d1,d2⟩
   have hb1:=bel_refl wr
   go_wp2_with fail
   go_region_held3 (fun W=>(W.cell? ⟨ba,oa+k*3,none⟩=some (.bool ag)∧W.cell? ⟨ba,oa+k*3+1,none⟩=some (.slice aao an aca)∧W.cell? ⟨ba,oa+k*3+2,none⟩=some (.int .i64 ae))∧W.cell? ⟨bb,ob+k*3,none⟩=some (.bool bg)∧W.cell? ⟨bb,ob+k*3+1,none⟩=some (.slice bao bn bca)∧W.cell? ⟨bb,ob+k*3+2,none⟩=some (.int .i64 be))
    (first | assumption | exact ⟨keep3W kc1.1 (wr3 _ _ _ _ _ _ _ _) (by omega),keep3W kc1.2 (wr3 _ _ _ _ _ _ _ _) (by omega)⟩)
    ((go_at_call 169; refine (CP _ hb1.drew).mono ?_; rintro y w3 ⟨s,rfl,hA⟩; have hbv1:=hA.below; have kc1:=And.intro (keep3B kc0.1 hbv1) (keep3B kc0.2 hbv1); obtain ⟨so,sn,sc,rfl⟩:=hA.num.shape; have q0:=(hbv1.block w.heap.size hgs).trans HCUR.out; have x0:=blkC q0 (k*3) HV.out.1; have x1:=blkC q0 (k*3+1) HV.out.2.1; have x2:=blkC q0 (k*3+2) HV.out.2.2; have z0:=blkF q0 (k*3); have z1:=blkF q0 (k*3+1); have z2:=blkF q0 (k*3+2)))
   all_goals go_wp2
   all_goals
    go_roundw
    case rel=>
     obtain ⟨dd,hRd,hNd,hVd,hgd⟩:=hA.open
     have hgs2:∀ b' off,so=some ⟨b',off,none⟩->0<sn->w.heap.size<b':=fun b' off he _=>by
      have h9:=hgd b' off he
      have h8:w.heap.size<wr.drew.heap.size:=hgs
      omega
     refine ⟨k+1,updN q k ⟨ag != bg,so,sn,sc,dd,ae+be⟩,by omega,by go_num,BlkN.step (x:=⟨ag != bg,so,sn,sc,dd,ae+be⟩) HQ.out (bel_trans hb1.drew hbv1) hRd hlt HG.out hgs2,fun i hi=>?_,fun i b' off hi he hn'=>?_,bel_set3' (bel_trans hbw (bel_trans hb1.drew hbv1)) (Nat.le_refl _) _ _ _⟩
     ·by_cases e:i=k
      ·subst e
       rw [updN_same,HXA.out,HXB.out]
       exact ⟨hNd,rfl,hVd,rfl⟩
      ·rw [updN_other _ _ e]
       exact HF.out i (by omega)
     ·by_cases e:i=k
      ·subst e
       rw [updN_same] at he hn'
       exact hgs2 b' off he hn'
      ·rw [updN_other _ _ e] at he hn'
       exact HG.out i b' off (by omega) he hn'
    case measure=>simp [intOf]; omega
  ·obtain rfl:k=n:=by omega
   go_wp2
   go_ret
   exact ⟨_,q,rfl,Nat.le_refl _,HQ.out.nums hn,hbw,HF.out⟩
def dotV (a b:Nat->NumR):Nat->Int | 0=>0 | k+1=>dotV a b k+mulV (a k) (b k)
theorem sumV_dot {a b q:Nat->NumR}:∀ n,(∀ i,i<n->(q i).ng=((a i).ng != (b i).ng)∧val (q i).d (q i).n=val (a i).d (a i).n*val (b i).d (b i).n∧(q i).e=(a i).e+(b i).e)->sumV q n=dotV a b n
 | 0,_=>rfl
 | k+1,h=>by
  obtain ⟨h1,h2,h3⟩:=h k (by omega)
  show sumV q k+sg (q k).ng (val (q k).d (q k).n)*pw (q k).e=dotV a b k+sg ((a k).ng != (b k).ng) (val (a k).d (a k).n*val (b k).d (b k).n)*pw ((a k).e+(b k).e)
  rw [sumV_dot k fun i hi=>h i (by omega),h1,h2,h3]
def Half (x:NumR):Prop:=-500000<=x.e∧x.e<=500000
theorem prod_sane {x y q:NumR} (ox:okR x=true) (oy:okR y=true) (hx:Half x) (hy:Half y) (h0:Nrm q.d q.n) (h2:val q.d q.n=val x.d x.n*val y.d y.n) (h3:q.e=x.e+y.e):Sane q:=by
 refine ⟨h0,?_,?_,?_⟩
 ·have a:=(okR_dy ox).2.1
  have b:=(okR_dy oy).2.1
  have a0:=val_nonneg (okR_sane ox).1.1
  have b0:=val_nonneg (okR_sane oy).1.1
  by_cases hq:q.n<=5000
  ·exact hq
  ·exfalso
   have c:=val_top h0.1 (by omega) h0.2
   have d:=P_le (show 4000<=q.n-1 by omega)
   have e:val x.d x.n*val y.d y.n<P 2000*P 2000:=by
    by_cases hz:val x.d x.n=0
    ·rw [hz,Int.zero_mul]; exact Int.mul_pos (P_pos _) (P_pos _)
    ·exact Int.lt_of_lt_of_le (Int.mul_lt_mul_of_pos_left b (by omega)) (Int.mul_le_mul_of_nonneg_right (by omega) (Int.le_of_lt (P_pos _)))
   have f:P 2000*P 2000=P 4000:=by rw [P_two 2000,P_two 4000,<- Int.pow_add,show 30*2000+30*2000=30*4000 from rfl]
   rw [f] at e
   rw [h2] at c
   generalize P 4000=Y at *
   omega
 ·unfold Half at *; omega
 ·unfold Half at *; omega
theorem dot1_any (ao bo:Option Addr) (n ca cb:Nat) (a b:Nat->NumR) (p p2:Addr) (w:World) (c:w.cell? p=some (.slice ao n ca)) (c2:w.cell? p2=some (.slice bo n cb)) (ha:Nums w ao n ca a) (hb:Nums w bo n cb b) (oa:∀ i,i<n->okR (a i)=true) (ob:∀ i,i<n->okR (b i)=true) (la:∀ i,i<n->Half (a i)) (lb:∀ i,i<n->Half (b i)) (hn:n<=100000) (hT:Tab w) :
  Calls Tryz.prog 311 #[.pointer (some p),.pointer (some p2)] w (DOut w (dotV a b n)):=by
 have hbe:=bel_alloc w (.cells #[.bool false,.slice none 0 0,.int .i64 0] 40)
 have k0:=cell_keeps c hbe
 have k1:=cell_keeps c2 hbe
 have g0:=heap_a1 w (.cells #[.bool false,.slice none 0 0,.int .i64 0] 40)
 have CP:=products_any ao bo n ca cb a b _ (ha.keeps hbe) (hb.keeps hbe) hn (fun i hi=>okR_sane (oa i hi)) (fun i hi=>okR_sane (ob i hi))
 have hTx:=hT.keeps hbe
 have HSUM:Hid (∀ W g q,Nums W (some ⟨g,0,none⟩) n n q->(∀ i,i<n->Nrm (q i).d (q i).n∧(q i).ng=((a i).ng != (b i).ng)∧val (q i).d (q i).n=val (a i).d (a i).n*val (b i).d (b i).n∧(q i).e=(a i).e+(b i).e)->Tab W->Calls Tryz.prog 165 #[.slice (some ⟨g,0,none⟩) n n] W (DOut W (dotV a b n))):=fun W g q hN hF hTW=>by
  have:=total_any (some ⟨g,0,none⟩) n n q W hN (fun i hi=>prod_sane (oa i hi) (ob i hi) (la i hi) (lb i hi) (hF i hi).1 (hF i hi).2.2.1 (hF i hi).2.2.2) hn hTW
  rwa [sumV_dot n fun i hi=>(hF i hi).2] at this
 generalize dotV a b n=V at HSUM ⊢
 clear oa ob la lb ha hb
 go_enter Tryz.func311,Tryz.ntmps311
 go_wp2_with fail
 generalize w.alloc (.cells #[.bool false,.slice none 0 0,.int .i64 0] 40)=wx at *
 refine CP.mono ?_
 rintro x w1 ⟨g,q,rfl,hg,hN,hb1,hF⟩
 have HF:Hid _:=hF
 clear hF
 go_wp2_with fail
 refine (HSUM.out _ _ _ hN HF.out (hTx.keeps hb1)).mono ?_
 rintro x w7 (⟨hok,v,rfl,hD⟩ | ⟨hno,rfl,hb7⟩)
 ·have hb7:=hD.below
  obtain ⟨ng',s',m',e',rfl,hyy,hA2⟩:=id hD
  obtain ⟨so',sn',sc',rfl⟩:=hA2.num.shape
  have hlt:=(Array.getElem?_eq_some_iff.1 g0).1
  have q0:=((bel_trans hb1 hb7).block w.heap.size hlt).trans g0
  have x0:=blkC q0 0 rfl
  have x1:=blkC q0 1 rfl
  have x2:=blkC q0 2 rfl
  have z0:=blkF q0 0
  have z1:=blkF q0 1
  have z2:=blkF q0 2
  go_wp2
  refine bodyPost_ret (v:=.agg #[.bool ng',.slice so' sn' sc',.int .i64 e']) (by simp [results,Tryz.results311,go_sem,x0,x1,x2]) rfl ?_
  exact .inl ⟨hok,_,rfl,dans_res3 (g:=w.heap.size) hD (bel_trans hbe hb1) (Nat.le_refl _) (Nat.lt_of_lt_of_le hlt hb1.size) _ _ _⟩
 ·exact ⟨rfl,.inr ⟨hno,rfl,bel_trans (bel_trans hbe hb1) hb7⟩⟩
theorem ddot_ok (ao bo:Option Addr) (n ca cb:Nat) (a b:Nat->NumR) (w:World) (ha:Nums w ao n ca a) (hb:Nums w bo n cb b) (oa:allOk a n=true) (ob:allOk b n=true) (la:∀ i,i<n->Half (a i)) (lb:∀ i,i<n->Half (b i)) (hn:n<=100000) (hT:Tab w) :
  Calls Tryz.prog 284 #[.slice ao n ca,.slice bo n cb] w fun x w'=>∃ v er,x=.returned (.tuple #[v,.int .i64 er])∧DFit w w' (dotV a b n) v er:=by
 have hmf:∀ (fn:Fn) (first cap:Array Value) (w:World),(Instr.makeFunc fn first cap).run Tryz.prog w=.ok (.func fn first cap) w:=fun _ _ _ _=>rfl
 have hE:∀ (cap:Array Value) (w:World),(callFunc 311 cap).run Tryz.prog w=.ok (.enter 311 cap) w:=by
  intro cap w
  simp [go_sem]
 have hla:=ha.le
 have hma:=ha.max
 have hlb:=hb.le
 have hmb:=hb.max
 have CA:=fun W (h:Below w.heap.size w W)=>dvalids_any ao n ca a W (ha.keeps h)
 have CB:=fun W (h:Below w.heap.size w W)=>dvalids_any bo n cb b W (hb.keeps h)
 have CD:Hid (∀ W p p2,Below w.heap.size w W->W.cell? p=some (.slice ao n ca)->W.cell? p2=some (.slice bo n cb)->Calls Tryz.prog 311 #[.pointer (some p),.pointer (some p2)] W (DOut W (dotV a b n))):=fun W p p2 h c1 c2=>dot1_any ao bo n ca cb a b p p2 W c1 c2 (ha.keeps h) (hb.keeps h) (allOk_out oa) (allOk_out ob) la lb hn (hT.keeps h)
 generalize dotV a b n=V at CD ⊢
 rw [oa] at CA
 rw [ob] at CB
 clear ha hb oa ob la lb hT
 have hb3:=bel_a3 w (.cells #[.slice ao n ca] 231) (.cells #[.slice bo n cb] 231) (.cells #[.bool false,.slice none 0 0,.int .i64 0] 40)
 have g0:=h3_0 w (.cells #[.slice ao n ca] 231) (.cells #[.slice bo n cb] 231) (.cells #[.bool false,.slice none 0 0,.int .i64 0] 40)
 have g1:=h3_1 w (.cells #[.slice ao n ca] 231) (.cells #[.slice bo n cb] 231) (.cells #[.bool false,.slice none 0 0,.int .i64 0] 40)
 have g2:=h3_2 w (.cells #[.slice ao n ca] 231) (.cells #[.slice bo n cb] 231) (.cells #[.bool false,.slice none 0 0,.int .i64 0] 40)
 go_enter Tryz.func284,Tryz.ntmps284
 go_wp2_with fail
 generalize ((w.alloc (.cells #[.slice ao n ca] 231)).alloc (.cells #[.slice bo n cb] 231)).alloc (.cells #[.bool false,.slice none 0 0,.int .i64 0] 40)=wx at hb3 g0 g1 g2 ⊢
 refine (CA _ hb3).mono ?_
 rintro x w1 ⟨rfl,hb1⟩
 have hbw:=bel_trans hb3 hb1
 replace g0:=(hb1.block _ (Array.getElem?_eq_some_iff.1 g0).1).trans g0
 replace g1:=(hb1.block _ (Array.getElem?_eq_some_iff.1 g1).1).trans g1
 replace g2:=(hb1.block _ (Array.getElem?_eq_some_iff.1 g2).1).trans g2
 have k1:=blkC g1 0 rfl
 go_wp2_with fail
 clear k1
 refine (CB _ hbw).mono ?_
 rintro x w2 ⟨rfl,hb2⟩
 have hbw2:=bel_trans hbw hb2
 replace g0:=(hb2.block _ (Array.getElem?_eq_some_iff.1 g0).1).trans g0
 replace g1:=(hb2.block _ (Array.getElem?_eq_some_iff.1 g1).1).trans g1
 replace g2:=(hb2.block _ (Array.getElem?_eq_some_iff.1 g2).1).trans g2
 have hs3:=(Array.getElem?_eq_some_iff.1 g2).1
 go_wp2_with fail
 refine (told_any (V:=V) (hE _) (fun W hW=>CD.out W _ _ (bel_trans hbw2 hW) (blkC ((hW.block _ (by omega)).trans g0) 0 rfl) (blkC ((hW.block _ (by omega)).trans g1) 0 rfl))).mono ?_
 rintro x w3 ⟨v,er,rfl,hF⟩
 obtain ⟨ng',so,sn,sc,e',rfl⟩:=hF.shape
 have q0:=(hF.1.block (w.heap.size+2) hs3).trans g2
 have x0:=blkC q0 0 rfl
 have x1:=blkC q0 1 rfl
 have x2:=blkC q0 2 rfl
 have z0:=blkF q0 0
 have z1:=blkF q0 1
 have z2:=blkF q0 2
 go_wp2
 refine bodyPost_ret (v:=.tuple #[.agg #[.bool ng',.slice so sn sc,.int .i64 e'],.int .i64 er]) (by simp [results,Tryz.results284,go_sem,x0,x1,x2]) rfl ⟨_,_,rfl,?_⟩
 exact dfit_res (g:=w.heap.size+2) hF hbw2 (by omega) (by omega) _ _ _
theorem values_ok (F G:Nat) (oo:Option Addr) (n cap:Nat) (d V:Nat->Int) (w:World) (hR:Row w oo n cap d) (hn:n<=100000)
  (hEF:∀ (cap:Array Value) (w:World),(callFunc F cap).run Tryz.prog w=.ok (.enter F cap) w)
  (C:∀ i,i<n->∀ W,Below w.heap.size w W->Calls Tryz.prog F #[.int .i64 (d i)] W fun r w'=>∃ v,r=.returned (.tuple #[v,.int .i64 0])∧DAns W w' (V i) v) :
  Calls Tryz.prog 329 #[.agg #[.func (.func F) #[] #[],.func (.func G) #[] #[]],.slice oo n cap] w fun x w'=>∃ g q,x=.returned (.tuple #[.slice (some ⟨g,0,none⟩) n n,.bool true])∧w.heap.size<=g∧Nums w' (some ⟨g,0,none⟩) n n q∧Below w.heap.size w w'∧∀ i,i<n->Nrm (q i).d (q i).n∧Dy (V i) (q i).ng (val (q i).d (q i).n) (q i).e:=by
 have hle:=hR.le
 have hma:=hR.max
 have hmake:=make_nums n hn
 have hst:∀ (p:Addr) (F:Nat) (m:Mode) (w:World),(store p (.func (.func F) #[] #[]) m).run Tryz.prog w=stored Tryz.prog w p (.func (.func F) #[] #[]) m:=fun p F m w=>run_store _ w p _ m rfl
 have ha1:=bel_alloc w (.cells #[.func (.func F) #[] #[],.func (.func G) #[] #[]] 294)
 have q1:=heap_alloc_new w (.cells #[.func (.func F) #[] #[],.func (.func G) #[] #[]] 294)
 have k0:=blkC q1 0 rfl
 have k1:=blkC q1 1 rfl
 go_enter Tryz.func329,Tryz.ntmps329
 go_wp2_with fail
 have hb0:=bel_alloc2 w (.cells #[.func (.func F) #[] #[],.func (.func G) #[] #[]] 294) (.cells (madeCells #[.bool false,.slice none 0 0,.int .i64 0] (n*3)) 40)
 have g1:=heap_b2 w (.cells #[.func (.func F) #[] #[],.func (.func G) #[] #[]] 294) (.cells (madeCells #[.bool false,.slice none 0 0,.int .i64 0] (n*3)) 40)
 have g0:=heap_a2 w (.cells #[.func (.func F) #[] #[],.func (.func G) #[] #[]] 294) (.cells (madeCells #[.bool false,.slice none 0 0,.int .i64 0] (n*3)) 40)
 have HB0:Hid (BlkN ((w.alloc (.cells #[.func (.func F) #[] #[],.func (.func G) #[] #[]] 294)).alloc (.cells (madeCells #[.bool false,.slice none 0 0,.int .i64 0] (n*3)) 40)) (w.heap.size+1) n 0 (fun _=>⟨false,none,0,0,fun _=>0,0⟩)):=⟨_,g1,by rw [size_madeCells],fun i hi=>by omega⟩
 clear g1 hmake q1 k0 k1 ha1
 generalize (w.alloc (.cells #[.func (.func F) #[] #[],.func (.func G) #[] #[]] 294)).alloc (.cells (madeCells #[.bool false,.slice none 0 0,.int .i64 0] (n*3)) 40)=wx at hb0 HB0 g0 ⊢
 go_loopw [16] (fun iv wr=>∃ (k:Nat) (q:Nat->NumR),k<=n∧iv=.int .i64 k∧Hid (BlkN wr (w.heap.size+1) n k q)∧Hid (∀ i,i<k->Nrm (q i).d (q i).n∧Dy (V i) (q i).ng (val (q i).d (q i).n) (q i).e)∧Hid (∀ i b' off,i<k->(q i).ao=some ⟨b',off,none⟩->0<(q i).n->w.heap.size+1<b')∧Hid (wr.heap[w.heap.size]?=some (.cells #[.func (.func F) #[] #[],.func (.func G) #[] #[]] 294 (0,0)))∧Below w.heap.size w wr) (fun iv _=>n-(intOf iv).toNat)
 case atStart=>exact ⟨0,_,Nat.zero_le _,rfl,HB0,fun i hi=>by omega,fun i b' off hi=>by omega,g0,hb0⟩
 case round=>
  obtain ⟨k,q,hk,rfl,HQ,HF,HG,HK,hbw⟩:=hrel
  clear HB0 hb0 g0
  by_cases hlt:k<n
  ·obtain ⟨ba,oa,rfl,hba,hca⟩:=hR.spot (by omega)
   have c0:=(hbw.cell (p:=⟨ba,oa+k,none⟩) hba).trans (hca k hlt)
   have CF:=C k hlt
   have kf:=blkC HK.out 0 rfl
   obtain ⟨cur,hcur,hsz,hcells⟩:=HQ.out
   have e0:k*3<cur.size:=by omega
   have e1:k*3+1<cur.size:=by omega
   have e2:k*3+2<cur.size:=by omega
   obtain ⟨v0,hv0⟩:∃ v,cur[k*3]?=some v:=⟨_,Array.getElem?_eq_getElem e0⟩
   obtain ⟨v1,hv1⟩:∃ v,cur[k*3+1]?=some v:=⟨_,Array.getElem?_eq_getElem e1⟩
   obtain ⟨v2,hv2⟩:∃ v,cur[k*3+2]?=some v:=⟨_,Array.getElem?_eq_getElem e2⟩
   have HV:Hid (cur[k*3]?=some v0∧cur[k*3+1]?=some v1∧cur[k*3+2]?=some v2):=⟨hv0,hv1,hv2⟩
   have HCUR:Hid (wr.heap[w.heap.size+1]?=some (.cells cur 40 (0,0))):=hcur
   have hgs:w.heap.size+1<wr.heap.size:=(Array.getElem?_eq_some_iff.1 hcur).1
   clear hcells hv0 hv1 hv2 hcur hsz e0 e1 e2 hca C
   have i0:(0:Int)<=(k:Int):=by omega
   have i1:(k:Int)<(n:Int):=by omega
   generalize d k=x at *
   go_wp2_with fail
   refine (CF _ hbw).mono ?_
   rintro _ w3 ⟨v,rfl,hD⟩
   have hb3:=hD.below
   have HD:Hid (DAns wr w3 (V k) v):=hD
   obtain ⟨g,s0,m0,e,rfl,_,hA0⟩:=id hD
   obtain ⟨so,sn,sc,rfl⟩:=hA0.num.shape
   clear hD CF hA0
   have hb4:=bel_trans hb3 (bel_alloc w3 (.cells #[.bool g,.slice so sn sc,.int .i64 e] 40))
   have q0:=(hb4.block (w.heap.size+1) hgs).trans HCUR.out
   have HK4:Hid ((w3.alloc (.cells #[.bool g,.slice so sn sc,.int .i64 e] 40)).heap[w.heap.size]?=some (.cells #[.func (.func F) #[] #[],.func (.func G) #[] #[]] 294 (0,0))):=(hb4.block _ (Array.getElem?_eq_some_iff.1 HK.out).1).trans HK.out
   have qx:=heap_a1 w3 (.cells #[.bool g,.slice so sn sc,.int .i64 e] 40)
   have t0:=blkC qx 0 rfl
   have t1:=blkC qx 1 rfl
   have t2:=blkC qx 2 rfl
   have x0:=blkC q0 (k*3) HV.out.1
   have x1:=blkC q0 (k*3+1) HV.out.2.1
   have x2:=blkC q0 (k*3+2) HV.out.2.2
   have f0:=blkF q0 (k*3)
   have f1:=blkF q0 (k*3+1)
   have f2:=blkF q0 (k*3+2)
   have hn1:w.heap.size+1≠w.heap.size:=by omega
   clear q0 qx kf
   go_wp2
   all_goals
    go_roundw
    case rel=>
     obtain ⟨ng,s,m,e',h1,hyy,hA⟩:=HD.out
     simp only [Value.agg.injEq,Array.mk.injEq,List.cons.injEq,Value.bool.injEq,Value.int.injEq,true_and,and_true] at h1
     obtain ⟨rfl,rfl,rfl⟩:=h1
     obtain ⟨dd,hRd,hNd,hVd,hgd⟩:=hA.open
     have hgs2:∀ b' off,so=some ⟨b',off,none⟩->0<sn->w.heap.size+1<b':=fun b' off he _=>by
      have h9:=hgd b' off he
      omega
     refine ⟨k+1,updN q k ⟨g,so,sn,sc,dd,e⟩,by omega,by go_num,BlkN.step (x:=⟨g,so,sn,sc,dd,e⟩) HQ.out hb4 (hRd.keeps (bel_alloc _ _)) hlt HG.out hgs2,fun i hi=>?_,fun i b' off hi he hn'=>?_,?_,bel_set3' (bel_trans hbw hb4) (by omega) _ _ _⟩
     ·by_cases ei:i=k
      ·subst ei
       rw [updN_same]
       exact ⟨hNd,by rw [hVd]; exact hyy⟩
      ·rw [updN_other _ _ ei]
       exact HF.out i (by omega)
     ·by_cases ei:i=k
      ·subst ei
       rw [updN_same] at he hn'
       exact hgs2 b' off he hn'
      ·rw [updN_other _ _ ei] at he hn'
       exact HG.out i b' off (by omega) he hn'
     ·show _=_
      rw [heap_setCell_other _ ⟨w.heap.size+1,_,none⟩ w.heap.size _ (Ne.symm hn1),heap_setCell_other _ ⟨w.heap.size+1,_,none⟩ w.heap.size _ (Ne.symm hn1),heap_setCell_other _ ⟨w.heap.size+1,_,none⟩ w.heap.size _ (Ne.symm hn1)]
      exact HK4.out
    case measure=>simp [intOf]; omega
  ·obtain rfl:k=n:=by omega
   go_wp2
   all_goals refine bodyPost_ret (v:=.tuple #[.slice (some ⟨w.heap.size+1,0,none⟩) k k,.bool true]) (by simp [results,Tryz.results329,go_sem]) rfl ⟨_,q,rfl,by omega,HQ.out.nums hn,hbw,HF.out⟩
theorem values_no (F G:Nat) (oo:Option Addr) (n cap:Nat) (d V:Nat->Int) (w:World) (hR:Row w oo n cap d) (hn:n<=100000) (K:Nat) (hK:K<n)
  (hEF:∀ (cap:Array Value) (w:World),(callFunc F cap).run Tryz.prog w=.ok (.enter F cap) w)
  (C:∀ i,i<K->∀ W,Below w.heap.size w W->Calls Tryz.prog F #[.int .i64 (d i)] W fun r w'=>∃ v,r=.returned (.tuple #[v,.int .i64 0])∧DAns W w' (V i) v)
  (CN:∀ W,Below w.heap.size w W->Calls Tryz.prog F #[.int .i64 (d K)] W fun r w'=>r=.returned (.tuple #[.agg #[.bool false,.slice none 0 0,.int .i64 0],.int .i64 10])∧Below W.heap.size W w') :
  Calls Tryz.prog 329 #[.agg #[.func (.func F) #[] #[],.func (.func G) #[] #[]],.slice oo n cap] w fun x w'=>x=.returned (.tuple #[.slice none 0 0,.bool false])∧Below w.heap.size w w':=by
 have hle:=hR.le
 have hma:=hR.max
 have hmake:=make_nums n hn
 have hst:∀ (p:Addr) (F:Nat) (m:Mode) (w:World),(store p (.func (.func F) #[] #[]) m).run Tryz.prog w=stored Tryz.prog w p (.func (.func F) #[] #[]) m:=fun p F m w=>run_store _ w p _ m rfl
 have ha1:=bel_alloc w (.cells #[.func (.func F) #[] #[],.func (.func G) #[] #[]] 294)
 have q1:=heap_alloc_new w (.cells #[.func (.func F) #[] #[],.func (.func G) #[] #[]] 294)
 have k0:=blkC q1 0 rfl
 have k1:=blkC q1 1 rfl
 go_enter Tryz.func329,Tryz.ntmps329
 go_wp2_with fail
 have hb0:=bel_alloc2 w (.cells #[.func (.func F) #[] #[],.func (.func G) #[] #[]] 294) (.cells (madeCells #[.bool false,.slice none 0 0,.int .i64 0] (n*3)) 40)
 have g1:=heap_b2 w (.cells #[.func (.func F) #[] #[],.func (.func G) #[] #[]] 294) (.cells (madeCells #[.bool false,.slice none 0 0,.int .i64 0] (n*3)) 40)
 have g0:=heap_a2 w (.cells #[.func (.func F) #[] #[],.func (.func G) #[] #[]] 294) (.cells (madeCells #[.bool false,.slice none 0 0,.int .i64 0] (n*3)) 40)
 have HB0:Hid (BlkN ((w.alloc (.cells #[.func (.func F) #[] #[],.func (.func G) #[] #[]] 294)).alloc (.cells (madeCells #[.bool false,.slice none 0 0,.int .i64 0] (n*3)) 40)) (w.heap.size+1) n 0 (fun _=>⟨false,none,0,0,fun _=>0,0⟩)):=⟨_,g1,by rw [size_madeCells],fun i hi=>by omega⟩
 clear g1 hmake q1 k0 k1 ha1
 generalize (w.alloc (.cells #[.func (.func F) #[] #[],.func (.func G) #[] #[]] 294)).alloc (.cells (madeCells #[.bool false,.slice none 0 0,.int .i64 0] (n*3)) 40)=wx at hb0 HB0 g0 ⊢
 go_loopw [16] (fun iv wr=>∃ (k:Nat) (q:Nat->NumR),k<=K∧iv=.int .i64 k∧Hid (BlkN wr (w.heap.size+1) n k q)∧Hid (∀ i,i<k->Nrm (q i).d (q i).n∧Dy (V i) (q i).ng (val (q i).d (q i).n) (q i).e)∧Hid (∀ i b' off,i<k->(q i).ao=some ⟨b',off,none⟩->0<(q i).n->w.heap.size+1<b')∧Hid (wr.heap[w.heap.size]?=some (.cells #[.func (.func F) #[] #[],.func (.func G) #[] #[]] 294 (0,0)))∧Below w.heap.size w wr) (fun iv _=>n-(intOf iv).toNat)
 case atStart=>exact ⟨0,_,Nat.zero_le _,rfl,HB0,fun i hi=>by omega,fun i b' off hi=>by omega,g0,hb0⟩
 case round=>
  obtain ⟨k,q,hk,rfl,HQ,HF,HG,HK,hbw⟩:=hrel
  clear HB0 hb0 g0
  have hlt:k<n:=by omega
  by_cases hltK:k<K
  ·obtain ⟨ba,oa,rfl,hba,hca⟩:=hR.spot (by omega)
   have c0:=(hbw.cell (p:=⟨ba,oa+k,none⟩) hba).trans (hca k hlt)
   have CF:=C k hltK
   have kf:=blkC HK.out 0 rfl
   obtain ⟨cur,hcur,hsz,hcells⟩:=HQ.out
   have e0:k*3<cur.size:=by omega
   have e1:k*3+1<cur.size:=by omega
   have e2:k*3+2<cur.size:=by omega
   obtain ⟨v0,hv0⟩:∃ v,cur[k*3]?=some v:=⟨_,Array.getElem?_eq_getElem e0⟩
   obtain ⟨v1,hv1⟩:∃ v,cur[k*3+1]?=some v:=⟨_,Array.getElem?_eq_getElem e1⟩
   obtain ⟨v2,hv2⟩:∃ v,cur[k*3+2]?=some v:=⟨_,Array.getElem?_eq_getElem e2⟩
   have HV:Hid (cur[k*3]?=some v0∧cur[k*3+1]?=some v1∧cur[k*3+2]?=some v2):=⟨hv0,hv1,hv2⟩
   have HCUR:Hid (wr.heap[w.heap.size+1]?=some (.cells cur 40 (0,0))):=hcur
   have hgs:w.heap.size+1<wr.heap.size:=(Array.getElem?_eq_some_iff.1 hcur).1
   clear hcells hv0 hv1 hv2 hcur hsz e0 e1 e2 hca C
   have i0:(0:Int)<=(k:Int):=by omega
   have i1:(k:Int)<(n:Int):=by omega
   generalize d k=x at *
   go_wp2_with fail
   refine (CF _ hbw).mono ?_
   rintro _ w3 ⟨v,rfl,hD⟩
   have hb3:=hD.below
   have HD:Hid (DAns wr w3 (V k) v):=hD
   obtain ⟨g,s0,m0,e,rfl,_,hA0⟩:=id hD
   obtain ⟨so,sn,sc,rfl⟩:=hA0.num.shape
   clear hD CF hA0
   have hb4:=bel_trans hb3 (bel_alloc w3 (.cells #[.bool g,.slice so sn sc,.int .i64 e] 40))
   have q0:=(hb4.block (w.heap.size+1) hgs).trans HCUR.out
   have HK4:Hid ((w3.alloc (.cells #[.bool g,.slice so sn sc,.int .i64 e] 40)).heap[w.heap.size]?=some (.cells #[.func (.func F) #[] #[],.func (.func G) #[] #[]] 294 (0,0))):=(hb4.block _ (Array.getElem?_eq_some_iff.1 HK.out).1).trans HK.out
   have qx:=heap_a1 w3 (.cells #[.bool g,.slice so sn sc,.int .i64 e] 40)
   have t0:=blkC qx 0 rfl
   have t1:=blkC qx 1 rfl
   have t2:=blkC qx 2 rfl
   have x0:=blkC q0 (k*3) HV.out.1
   have x1:=blkC q0 (k*3+1) HV.out.2.1
   have x2:=blkC q0 (k*3+2) HV.out.2.2
   have f0:=blkF q0 (k*3)
   have f1:=blkF q0 (k*3+1)
   have f2:=blkF q0 (k*3+2)
   have hn1:w.heap.size+1≠w.heap.size:=by omega
   clear q0 qx kf
   go_wp2
   all_goals
    go_roundw
    case rel=>
     obtain ⟨ng,s,m,e',h1,hyy,hA⟩:=HD.out
     simp only [Value.agg.injEq,Array.mk.injEq,List.cons.injEq,Value.bool.injEq,Value.int.injEq,true_and,and_true] at h1
     obtain ⟨rfl,rfl,rfl⟩:=h1
     obtain ⟨dd,hRd,hNd,hVd,hgd⟩:=hA.open
     have hgs2:∀ b' off,so=some ⟨b',off,none⟩->0<sn->w.heap.size+1<b':=fun b' off he _=>by
      have h9:=hgd b' off he
      omega
     refine ⟨k+1,updN q k ⟨g,so,sn,sc,dd,e⟩,by omega,by go_num,BlkN.step (x:=⟨g,so,sn,sc,dd,e⟩) HQ.out hb4 (hRd.keeps (bel_alloc _ _)) hlt HG.out hgs2,fun i hi=>?_,fun i b' off hi he hn'=>?_,?_,bel_set3' (bel_trans hbw hb4) (by omega) _ _ _⟩
     ·by_cases ei:i=k
      ·subst ei
       rw [updN_same]
       exact ⟨hNd,by rw [hVd]; exact hyy⟩
      ·rw [updN_other _ _ ei]
       exact HF.out i (by omega)
     ·by_cases ei:i=k
      ·subst ei
       rw [updN_same] at he hn'
       exact hgs2 b' off he hn'
      ·rw [updN_other _ _ ei] at he hn'
       exact HG.out i b' off (by omega) he hn'
     ·show _=_
      rw [heap_setCell_other _ ⟨w.heap.size+1,_,none⟩ w.heap.size _ (Ne.symm hn1),heap_setCell_other _ ⟨w.heap.size+1,_,none⟩ w.heap.size _ (Ne.symm hn1),heap_setCell_other _ ⟨w.heap.size+1,_,none⟩ w.heap.size _ (Ne.symm hn1)]
      exact HK4.out
    case measure=>simp [intOf]; omega
  ·obtain rfl:k=K:=by omega
   obtain ⟨ba,oa,rfl,hba,hca⟩:=hR.spot (by omega)
   have c0:=(hbw.cell (p:=⟨ba,oa+k,none⟩) hba).trans (hca k hlt)
   have kf:=blkC HK.out 0 rfl
   clear hca C
   have i0:(0:Int)<=(k:Int):=by omega
   have i1:(k:Int)<(n:Int):=by omega
   generalize d k=x at *
   go_wp2_with fail
   refine (CN _ hbw).mono ?_
   rintro _ w3 ⟨rfl,hb3⟩
   go_wp2
   all_goals refine bodyPost_ret (v:=.tuple #[.slice none 0 0,.bool false]) (by simp [results,Tryz.results329,go_sem]) rfl ⟨rfl,bel_trans hbw (bel_trans hb3 (bel_alloc _ _))⟩
def vlV (ng:Bool) (m e:Int) (sd:Bool):Value:=valV ng (m/2^vK m).toNat (e+vK m) (decide (m % 2^vK m≠0)) sd
theorem valueOf_D {w:World} {v:Value} {V:Int} {ng:Bool} {m e:Int} (hx:DNum w v V) (ok:Dok V) (hy:Dy V ng m e) (hT:Tab w) :
  Calls Tryz.prog 303 #[v] w fun r w'=>r=.returned (vlV ng m e false)∧Below w.heap.size w w':=by
 obtain ⟨x,rfl,hR,hok,rfl⟩:=hx.open ok
 obtain ⟨na,hn,he0,he1⟩:=okR_sane hok
 obtain ⟨rfl,rfl,rfl⟩:=(okR_dy hok).1.unique hy
 exact valueOf_any _ _ _ _ _ _ _ hR na hn ⟨he0,he1⟩ hT
def opT (er:Int) (mag:Nat) (sd:Bool) (b near:Int):Int:=if er≠0∨(mag=0∧sd=false) then near else b
theorem operate_go (way:Int) (hw:1<=way∧way<=3) (near:Int) (F G Rf:Nat) (rc:Array Value) (oo:Option Addr) (n cap:Nat) (w:World) (V:Nat->Int) (ng:Bool) (mag:Nat) (exp:Int) (cut sd:Bool) (er b:Int) (o:Bool)
  (hEG:∀ (cap:Array Value) (w:World),(callFunc G cap).run Tryz.prog w=.ok (.enter G cap) w)
  (hER:∀ (cap:Array Value) (w:World),(callFunc Rf cap).run Tryz.prog w=.ok (.enter Rf cap) w)
  (CV:∀ W,Below w.heap.size w W->Calls Tryz.prog 329 #[.agg #[.func (.func F) #[] #[],.func (.func G) #[] #[]],.slice oo n cap] W fun x w'=>∃ g q,x=.returned (.tuple #[.slice (some ⟨g,0,none⟩) n n,.bool true])∧W.heap.size<=g∧Nums w' (some ⟨g,0,none⟩) n n q∧Below W.heap.size W w'∧∀ i,i<n->Nrm (q i).d (q i).n∧Dy (V i) (q i).ng (val (q i).d (q i).n) (q i).e)
  (CR:∀ W g q,Below w.heap.size w W->Nums W (some ⟨g,0,none⟩) n n q->(∀ i,i<n->Nrm (q i).d (q i).n∧Dy (V i) (q i).ng (val (q i).d (q i).n) (q i).e)->Calls Tryz.prog Rf (#[.slice (some ⟨g,0,none⟩) n n] ++ rc) W fun e w'=>e=.returned (.tuple #[valV ng mag exp cut sd,.int .i64 er])∧Below W.heap.size W w')
  (CT:∀ W,Below w.heap.size w W->Calls Tryz.prog G #[valV ng mag exp cut true,wayV way] W fun e w'=>e=.returned (.tuple #[.int .i64 b,.bool o])∧Below W.heap.size W w') :
  Calls Tryz.prog 314 #[.agg #[.func (.func F) #[] #[],.func (.func G) #[] #[]],.int .i64 near,.int .i64 way,.func (.func Rf) #[] rc,.slice oo n cap] w fun e w'=>e=.returned (.tuple #[.int .i64 (opT er mag sd b near),.int .i64 0])∧Below w.heap.size w w':=by
 have hst:∀ (p:Addr) (F:Nat) (m:Mode) (w:World),(store p (.func (.func F) #[] #[]) m).run Tryz.prog w=stored Tryz.prog w p (.func (.func F) #[] #[]) m:=fun p F m w=>run_store _ w p _ m rfl
 have hw0:0<=way∧way<=3:=by omega
 have hne:way≠0:=by omega
 unfold valV wayV at *
 have CW:=fun W=>wayOf_any way W
 rw [if_pos hw0,decide_eq_true hw0] at CW
 unfold wayV at CW
 generalize wayF way=K at *
 have HV:Hid _:=CV
 have HR:Hid _:=CR
 have HT:Hid _:=CT
 clear CV CR CT
 have hb1:=bel_alloc w (.cells #[.func (.func F) #[] #[],.func (.func G) #[] #[]] 294)
 have q1:=heap_alloc_new w (.cells #[.func (.func F) #[] #[],.func (.func G) #[] #[]] 294)
 go_enter Tryz.func314,Tryz.ntmps314
 go_wp2_with fail
 generalize w.alloc (.cells #[.func (.func F) #[] #[],.func (.func G) #[] #[]] 294)=x0 at hb1 q1 ⊢
 refine (CW _).mono ?_
 rintro _ w2 ⟨rfl,hb2⟩
 have q2:=heap_alloc_new w2 (.cells #[.nilFunc] 282)
 have y0:=blkC q2 0 rfl
 have y1:=blkF q2 0
 have p1:=(hb2.block _ (Array.getElem?_eq_some_iff.1 q1).1).trans q1
 have hb3:=bel_alloc w2 (.cells #[.func (.func K) #[] #[]] 282)
 have p2:=(hb3.block _ (Array.getElem?_eq_some_iff.1 p1).1).trans p1
 have q3:=heap_alloc_new w2 (.cells #[.func (.func K) #[] #[]] 282)
 have c0:=blkC p2 0 rfl
 have c1:=blkC p2 1 rfl
 have hbx:=bel_trans (bel_trans hb1 hb2) hb3
 clear CW q1 p1
 go_wp2_with fail
 generalize w2.alloc (.cells #[.func (.func K) #[] #[]] 282)=x3 at hb3 p2 q3 c0 c1 hbx ⊢
 refine (HV.out _ hbx).mono ?_
 rintro _ w4 ⟨g,q,rfl,hg,hN,hb4,hf⟩
 have hb5:=bel_trans hbx hb4
 have p2:=(hb4.block _ (Array.getElem?_eq_some_iff.1 p2).1).trans p2
 have q3:=(hb4.block _ (Array.getElem?_eq_some_iff.1 q3).1).trans q3
 clear c0 c1 y0 y1 q2
 go_wp2_with fail
 refine (HR.out _ g q hb5 hN hf).mono ?_
 rintro _ w6 ⟨rfl,hb6⟩
 have hb7:=bel_trans hb5 hb6
 have p2:=(hb6.block _ (Array.getElem?_eq_some_iff.1 p2).1).trans p2
 have q3:=(hb6.block _ (Array.getElem?_eq_some_iff.1 q3).1).trans q3
 clear HV HR hN hf
 have hb8:=bel_alloc w6 (.cells #[.bool ng,.int .u64 mag,.int .i64 exp,.bool cut,.bool sd] 264)
 have q8:=heap_alloc_new w6 (.cells #[.bool ng,.int .u64 mag,.int .i64 exp,.bool cut,.bool sd] 264)
 have x1':=blkC q8 1 rfl
 have x4':=blkC q8 4 rfl
 have z4':=blkF q8 4
 have hb9:=bel_trans hb7 hb8
 have hbX:=bel_alloc w6 (.cells #[.bool ng,.int .u64 mag,.int .i64 exp,.bool cut,.bool true] 264)
 have qX:=heap_alloc_new w6 (.cells #[.bool ng,.int .u64 mag,.int .i64 exp,.bool cut,.bool true] 264)
 have pX:=(hbX.block _ (Array.getElem?_eq_some_iff.1 p2).1).trans p2
 have rX:=(hbX.block _ (Array.getElem?_eq_some_iff.1 q3).1).trans q3
 have u1:=blkC pX 1 rfl
 have u2:=blkC rX 0 rfl
 have v0:=blkC qX 0 rfl
 have v1:=blkC qX 1 rfl
 have v2:=blkC qX 2 rfl
 have v3:=blkC qX 3 rfl
 have v4:=blkC qX 4 rfl
 have hbY:=bel_trans hb7 hbX
 clear q8 qX pX rX p2 q3 hb8 hbX
 by_cases he:er=0
 ·subst he
  by_cases hm:mag=0
  ·subst hm
   cases sd
   ·go_wp2
    all_goals refine bodyPost_ret (v:=.tuple #[.int .i64 near,.int .i64 0]) (by simp [results,Tryz.results314,go_sem]) rfl ⟨by simp [opT],hb9⟩
   ·have e0:((0:Nat):Int)=0:=rfl
    have HT:=HT.out
    simp only [e0] at HT hbY u1 u2 v0 v1 v2 v3 v4
    go_wp2_with fail
    refine (HT _ hbY).mono ?_
    rintro _ w10 ⟨rfl,hb10⟩
    go_wp2
    all_goals refine bodyPost_ret (v:=.tuple #[.int .i64 b,.int .i64 0]) (by simp [results,Tryz.results314,go_sem]) rfl ⟨by simp [opT],bel_trans hbY hb10⟩
  ·have hm':¬ ((mag:Int)=0):=by omega
   go_wp2_with fail
   refine (HT.out _ hbY).mono ?_
   rintro _ w10 ⟨rfl,hb10⟩
   go_wp2
   all_goals refine bodyPost_ret (v:=.tuple #[.int .i64 b,.int .i64 0]) (by simp [results,Tryz.results314,go_sem]) rfl ⟨by simp [opT,hm],bel_trans hbY hb10⟩
 ·go_wp2
  all_goals refine bodyPost_ret (v:=.tuple #[.int .i64 near,.int .i64 0]) (by simp [results,Tryz.results314,go_sem]) rfl ⟨by simp [opT,he],hb9⟩
theorem operate_not (way:Int) (hw:1<=way∧way<=3) (near:Int) (F G Rf:Nat) (rc:Array Value) (oo:Option Addr) (n cap:Nat) (w:World)
  (CV:∀ W,Below w.heap.size w W->Calls Tryz.prog 329 #[.agg #[.func (.func F) #[] #[],.func (.func G) #[] #[]],.slice oo n cap] W fun x w'=>x=.returned (.tuple #[.slice none 0 0,.bool false])∧Below W.heap.size W w') :
  Calls Tryz.prog 314 #[.agg #[.func (.func F) #[] #[],.func (.func G) #[] #[]],.int .i64 near,.int .i64 way,.func (.func Rf) #[] rc,.slice oo n cap] w fun e w'=>e=.returned (.tuple #[.int .i64 near,.int .i64 0])∧Below w.heap.size w w':=by
 have hst:∀ (p:Addr) (F:Nat) (m:Mode) (w:World),(store p (.func (.func F) #[] #[]) m).run Tryz.prog w=stored Tryz.prog w p (.func (.func F) #[] #[]) m:=fun p F m w=>run_store _ w p _ m rfl
 have hw0:0<=way∧way<=3:=by omega
 have hne:way≠0:=by omega
 have CW:=fun W=>wayOf_any way W
 rw [if_pos hw0,decide_eq_true hw0] at CW
 unfold wayV at CW
 generalize wayF way=K at *
 have HV:Hid _:=CV
 clear CV
 have hb1:=bel_alloc w (.cells #[.func (.func F) #[] #[],.func (.func G) #[] #[]] 294)
 have q1:=heap_alloc_new w (.cells #[.func (.func F) #[] #[],.func (.func G) #[] #[]] 294)
 go_enter Tryz.func314,Tryz.ntmps314
 go_wp2_with fail
 generalize w.alloc (.cells #[.func (.func F) #[] #[],.func (.func G) #[] #[]] 294)=x0 at hb1 q1 ⊢
 refine (CW _).mono ?_
 rintro _ w2 ⟨rfl,hb2⟩
 have q2:=heap_alloc_new w2 (.cells #[.nilFunc] 282)
 have y0:=blkC q2 0 rfl
 have y1:=blkF q2 0
 have p1:=(hb2.block _ (Array.getElem?_eq_some_iff.1 q1).1).trans q1
 have hb3:=bel_alloc w2 (.cells #[.func (.func K) #[] #[]] 282)
 have p2:=(hb3.block _ (Array.getElem?_eq_some_iff.1 p1).1).trans p1
 have c0:=blkC p2 0 rfl
 have c1:=blkC p2 1 rfl
 have hbx:=bel_trans (bel_trans hb1 hb2) hb3
 clear CW q1 p1
 go_wp2_with fail
 refine (HV.out _ hbx).mono ?_
 rintro _ w4 ⟨rfl,hb4⟩
 go_wp2
 all_goals refine bodyPost_ret (v:=.tuple #[.int .i64 near,.int .i64 0]) (by simp [results,Tryz.results314,go_sem]) rfl ⟨rfl,bel_trans hbx hb4⟩
theorem Nums.at {w:World} {g n:Nat} {q:Nat->NumR} (h:Nums w (some ⟨g,0,none⟩) n n q) (i:Nat) (hi:i<n):At3 w g (i*3) (q i):=by
 obtain ⟨b,off,he,hlt,hc⟩:=h.spot (by omega)
 cases he
 have:=hc i hi
 rwa [Nat.zero_add] at this
theorem nums_D {w:World} {g n:Nat} {q:Nat->NumR} {V:Nat->Int} (h:Nums w (some ⟨g,0,none⟩) n n q) (hf:∀ i,i<n->Nrm (q i).d (q i).n∧Dy (V i) (q i).ng (val (q i).d (q i).n) (q i).e) (i:Nat) (hi:i<n):DNum w (q i).v (V i) :=
 ⟨_,_,_,_,rfl,(hf i hi).2,_,_,_,_,rfl,(h.at i hi).row,(hf i hi).1,rfl⟩
theorem scale_injF {C D A B:Int} (h:C*2^4194304=A*B) (k:D*2^4194304=A*B):C=D:=Int.eq_of_mul_eq_mul_right (Int.ne_of_gt (two_pos 4194304)) (h.trans k.symm)
theorem keep6B {W w':World} {g:Nat} {a b c d e f:Value} (h:W.cell? ⟨g,0,none⟩=some a∧W.cell? ⟨g,1,none⟩=some b∧W.cell? ⟨g,2,none⟩=some c∧W.cell? ⟨g,3,none⟩=some d∧W.cell? ⟨g,4,none⟩=some e∧W.cell? ⟨g,5,none⟩=some f) (hb:Below W.heap.size W w') :
  w'.cell? ⟨g,0,none⟩=some a∧w'.cell? ⟨g,1,none⟩=some b∧w'.cell? ⟨g,2,none⟩=some c∧w'.cell? ⟨g,3,none⟩=some d∧w'.cell? ⟨g,4,none⟩=some e∧w'.cell? ⟨g,5,none⟩=some f :=
 ⟨cell_keeps h.1 hb,cell_keeps h.2.1 hb,cell_keeps h.2.2.1 hb,cell_keeps h.2.2.2.1 hb,cell_keeps h.2.2.2.2.1 hb,cell_keeps h.2.2.2.2.2 hb⟩
theorem product_D (g:Nat) (w:World) (q:Nat->NumR) (A B C:Int) (ng:Bool) (m e:Int) (hN:Nums w (some ⟨g,0,none⟩) 2 2 q) (h0:DNum w (q 0).v A) (h1:DNum w (q 1).v B) (oA:Dok A) (oB:Dok B) (hC:C*2^4194304=A*B) (oC:Dok C) (hy:Dy C ng m e) (hT:Tab w) :
  Calls Tryz.prog 315 #[.slice (some ⟨g,0,none⟩) 2 2] w fun r w'=>r=.returned (.tuple #[vlV ng m e false,.int .i64 0])∧Below w.heap.size w w':=by
 have CM:Hid (∀ W,Below w.heap.size w W->Calls Tryz.prog 99 #[(q 0).v,(q 1).v] W fun r w'=>∃ v,r=.returned (.tuple #[v,.int .i64 0])∧DAns W w' C v):=fun W hb=>by
  refine (mul_D (h0.keeps hb) (h1.keeps hb) oA oB (hT.keeps hb)).mono ?_
  rintro r w' ⟨v,er,C',rfl,hC',hF⟩
  obtain rfl:=scale_injF hC' hC
  obtain ⟨rfl,hA⟩:=hF.yes oC
  exact ⟨v,rfl,hA⟩
 have CV:Hid (∀ W v,Below w.heap.size w W->DNum W v C->Calls Tryz.prog 303 #[v] W fun r w'=>r=.returned (vlV ng m e false)∧Below W.heap.size W w'):=fun W v hb hv=>valueOf_D hv oC hy (hT.keeps hb)
 obtain ⟨c0,c1,c2,_⟩:=hN.at 0 (by decide)
 obtain ⟨c3,c4,c5,_⟩:=hN.at 1 (by decide)
 unfold vlV valV NumR.v at *
 generalize (m/2^vK m).toNat=Q at CV ⊢
 generalize e+vK m=E at CV ⊢
 generalize decide (m % 2^vK m≠0)=R at CV ⊢
 clear h0 h1 hN oA oB hC oC hy hT
 generalize q 0=x at *
 generalize q 1=y at *
 obtain ⟨x_g,x_o,x_n,x_c,x_d,x_e⟩:=x
 obtain ⟨y_g,y_o,y_n,y_c,y_d,y_e⟩:=y
 simp only [Nat.zero_mul,Nat.zero_add,Nat.one_mul] at c0 c1 c2 c3 c4 c5 CM
 have q0:=heap_alloc_new w (.cells #[.bool false,.int .u64 0,.int .i64 0,.bool false,.bool false] 264)
 have hb1:=bel_alloc w (.cells #[.bool false,.int .u64 0,.int .i64 0,.bool false,.bool false] 264)
 have d0:=cell_keeps c0 hb1
 have d1:=cell_keeps c1 hb1
 have d2:=cell_keeps c2 hb1
 have d3:=cell_keeps c3 hb1
 have d4:=cell_keeps c4 hb1
 have d5:=cell_keeps c5 hb1
 clear c0 c1 c2 c3 c4 c5
 go_enter Tryz.func315,Tryz.ntmps315
 go_wp2_with fail
 generalize w.alloc (.cells #[.bool false,.int .u64 0,.int .i64 0,.bool false,.bool false] 264)=x1 at q0 hb1 d0 d1 d2 d3 d4 d5 ⊢
 have KK:∀ W,Below x1.heap.size x1 W->W.cell? ⟨g,0,none⟩=some (.bool x_g)∧W.cell? ⟨g,1,none⟩=some (.slice x_o x_n x_c)∧W.cell? ⟨g,2,none⟩=some (.int .i64 x_e)∧W.cell? ⟨g,3,none⟩=some (.bool y_g)∧W.cell? ⟨g,4,none⟩=some (.slice y_o y_n y_c)∧W.cell? ⟨g,5,none⟩=some (.int .i64 y_e):=fun W hb=>keep6B (W:=x1) ⟨d0,d1,d2,d3,d4,d5⟩ hb
 clear d0 d1 d2 d3 d4 d5
 have i0:(0:Int)<2:=by decide
 have i1:(1:Int)<2:=by decide
 have hx0:=(bel_refl x1).drew
 have hx1:=(bel_alloc x1 (.cells #[.bool false,.slice none 0 0,.int .i64 0] 40)).drew
 go_region_held3 (fun W=>W.cell? ⟨g,0,none⟩=some (.bool x_g)∧W.cell? ⟨g,1,none⟩=some (.slice x_o x_n x_c)∧W.cell? ⟨g,2,none⟩=some (.int .i64 x_e)∧W.cell? ⟨g,3,none⟩=some (.bool y_g)∧W.cell? ⟨g,4,none⟩=some (.slice y_o y_n y_c)∧W.cell? ⟨g,5,none⟩=some (.int .i64 y_e))
  (first | assumption | exact KK _ hx0 | exact KK _ hx1 | exact KK _ hw3 | exact KK _ (bel_trans hw3 (bel_alloc _ _)) | exact KK _ (bel_set3' hw3 (Nat.le_refl _) _ _ _) | fail)
  ((go_at_call 99; refine (CM.out _ (by first | exact hb1.drew | exact bel_trans hb1 hx1)).mono ?_; rintro _ w3 ⟨v,rfl,hD⟩; obtain ⟨n_g,n_o,n_n,n_c,n_e,rfl⟩:=dans_shape hD; have hw3:Below x1.heap.size x1 w3:=(by first | exact bel_trans hx0 hD.below | exact bel_trans hx1 hD.below); first | (have qz:w3.heap[x1.heap.size]?=some (.cells #[.bool false,.slice none 0 0,.int .i64 0] 40 (0,0)):=(hD.below.block _ (by first | exact (Array.getElem?_eq_some_iff.1 (heap_a1 x1 (.cells #[.bool false,.slice none 0 0,.int .i64 0] 40))).1)).trans (heap_a1 x1 (.cells #[.bool false,.slice none 0 0,.int .i64 0] 40)); have cz0:=blkC qz 0 rfl; have cz1:=blkC qz 1 rfl; have cz2:=blkC qz 2 rfl; have zz0:=blkF qz 0; have zz1:=blkF qz 1; have zz2:=blkF qz 2) | skip))
 ·have hb4:=bel_alloc w3 (.cells #[.bool n_g,.slice n_o n_n n_c,.int .i64 n_e] 40)
  have qn:=heap_a1 w3 (.cells #[.bool n_g,.slice n_o n_n n_c,.int .i64 n_e] 40)
  have hw4:=bel_trans hw3 hb4
  have q4:=(hw4.block _ (Array.getElem?_eq_some_iff.1 q0).1).trans q0
  have hD4:=hD.num.keeps hb4
  have hb5:=bel_trans hb1 hw4
  have c0:=blkC qn 0 rfl
  have c1:=blkC qn 1 rfl
  have c2:=blkC qn 2 rfl
  go_wp2_with fail
  refine (CV.out _ _ hb5 hD4).mono ?_
  rintro _ w6 ⟨rfl,hb6⟩
  have p1:=(hb6.block _ (Array.getElem?_eq_some_iff.1 q4).1).trans q4
  have hbw:=bel_trans hb5 hb6
  have x0:=blkC p1 0 rfl
  have x1':=blkC p1 1 rfl
  have x2:=blkC p1 2 rfl
  have x3:=blkC p1 3 rfl
  have x4:=blkC p1 4 rfl
  have z0:=blkF p1 0
  have z1:=blkF p1 1
  have z2:=blkF p1 2
  have z3:=blkF p1 3
  have z4:=blkF p1 4
  go_wp2
  all_goals refine bodyPost_ret (v:=.tuple #[.agg #[.bool ng,.int .u64 Q,.int .i64 E,.bool R,.bool false],.int .i64 0]) (by simp [results,Tryz.results315,go_sem,x0,x1',x2,x3,x4]) rfl ⟨rfl,?_⟩
  all_goals exact (wr5 w6 w.heap.size _ _ _ _ _).below hbw hbw.size (Nat.le_refl _)
 ·have hw4:=bel_set3' (o0:=0) (o1:=1) (o2:=2) hw3 (Nat.le_refl _) (.bool n_g) (.slice n_o n_n n_c) (.int .i64 n_e)
  have qn:=heap_set (heap_set (heap_set qz 0 (.bool n_g)) 1 (.slice n_o n_n n_c)) 2 (.int .i64 n_e)
  have q4:=(hw4.block _ (Array.getElem?_eq_some_iff.1 q0).1).trans q0
  have hD4:=(dans_res3 hD hx1 (Nat.le_refl _) (Array.getElem?_eq_some_iff.1 (heap_a1 x1 (.cells #[.bool false,.slice none 0 0,.int .i64 0] 40))).1 (.bool n_g) (.slice n_o n_n n_c) (.int .i64 n_e)).num
  have hb5:=bel_trans hb1 hw4
  clear cz0 cz1 cz2 zz0 zz1 zz2 qz
  have c0:=blkC qn 0 rfl
  have c1:=blkC qn 1 rfl
  have c2:=blkC qn 2 rfl
  go_wp2_with fail
  refine (CV.out _ _ hb5 hD4).mono ?_
  rintro _ w6 ⟨rfl,hb6⟩
  have p1:=(hb6.block _ (Array.getElem?_eq_some_iff.1 q4).1).trans q4
  have hbw:=bel_trans hb5 hb6
  have x0:=blkC p1 0 rfl
  have x1':=blkC p1 1 rfl
  have x2:=blkC p1 2 rfl
  have x3:=blkC p1 3 rfl
  have x4:=blkC p1 4 rfl
  have z0:=blkF p1 0
  have z1:=blkF p1 1
  have z2:=blkF p1 2
  have z3:=blkF p1 3
  have z4:=blkF p1 4
  go_wp2
  all_goals refine bodyPost_ret (v:=.tuple #[.agg #[.bool ng,.int .u64 Q,.int .i64 E,.bool R,.bool false],.int .i64 0]) (by simp [results,Tryz.results315,go_sem,x0,x1',x2,x3,x4]) rfl ⟨rfl,?_⟩
  all_goals exact (wr5 w6 w.heap.size _ _ _ _ _).below hbw hbw.size (Nat.le_refl _)
theorem operate_fin (way:Int) (hw:1<=way∧way<=3) (near:Int) (Rf:Nat) (rc:Array Value) (g n:Nat) (hn:n<=100) (d:Nat->Int) (w:World) (hR:Row w (some ⟨g,0,none⟩) n n d) (hp:∀ i,i<n->pok (d i)=true) (H:Hold4 w) (ng:Bool) (mag:Nat) (exp:Int) (cut sd:Bool) (hm:mag<18446744073709551616) (he:-4500000<=exp∧exp<=4500000)
    (hER:∀ (cap:Array Value) (w:World),(callFunc Rf cap).run Tryz.prog w=.ok (.enter Rf cap) w)
    (CR:∀ W g q,Below w.heap.size w W->Nums W (some ⟨g,0,none⟩) n n q->(∀ i,i<n->Nrm (q i).d (q i).n∧Dy (patV (d i)) (q i).ng (val (q i).d (q i).n) (q i).e)->Calls Tryz.prog Rf (#[.slice (some ⟨g,0,none⟩) n n] ++ rc) W fun e w'=>e=.returned (.tuple #[valV ng mag exp cut sd,.int .i64 0])∧Below W.heap.size W w') :
    Calls Tryz.prog 314 #[.agg #[.func (.func 150) #[] #[],.func (.func 255) #[] #[]],.int .i64 near,.int .i64 way,.func (.func Rf) #[] rc,.slice (some ⟨g,0,none⟩) n n] w fun e w'=>e=.returned (.tuple #[.int .i64 (opT 0 mag sd (r64 way ng true mag exp cut).1 near),.int .i64 0])∧Below w.heap.size w w':=by
  have hEF:∀ (cap:Array Value) (w:World),(callFunc 150 cap).run Tryz.prog w=.ok (.enter 150 cap) w:=by
    intro cap w
    simp [go_sem]
  have hEG:∀ (cap:Array Value) (w:World),(callFunc 255 cap).run Tryz.prog w=.ok (.enter 255 cap) w:=by
    intro cap w
    simp [go_sem]
  exact operate_go way hw near _ _ Rf rc _ n n w (fun i=>patV (d i)) ng mag exp cut sd 0 _ _ hEG hER
    (fun W hb=>(values_ok _ _ _ n n d _ W (hR.keeps hb) (by omega) hEF (fun i hi W' hb'=>of_ok (hp i hi) ((H.keeps hb).keeps hb'))).mono fun r w' h=>by
      obtain ⟨g,q,e1,e2,e3,e4,e5⟩:=h
      exact ⟨g,q,e1,e2,e3,e4,e5⟩)
    CR (fun W hb=>binary64_any way (by omega) ng true mag exp cut W (H.keeps hb).env hm he)
theorem operate_inf (way:Int) (hw:1<=way∧way<=3) (near:Int) (Rf:Nat) (rc:Array Value) (g n:Nat) (hn:n<=100) (d:Nat->Int) (w:World) (hR:Row w (some ⟨g,0,none⟩) n n d) (K:Nat) (hK:K<n) (hp:∀ i,i<K->pok (d i)=true) (hq:pok (d K)=false) (H:Hold4 w) :
  Calls Tryz.prog 314 #[.agg #[.func (.func 150) #[] #[],.func (.func 255) #[] #[]],.int .i64 near,.int .i64 way,.func (.func Rf) #[] rc,.slice (some ⟨g,0,none⟩) n n] w fun e w'=>e=.returned (.tuple #[.int .i64 near,.int .i64 0])∧Below w.heap.size w w':=by
 have hEF:∀ (cap:Array Value) (w:World),(callFunc 150 cap).run Tryz.prog w=.ok (.enter 150 cap) w:=by
  intro cap w
  simp [go_sem]
 exact operate_not way hw near _ _ Rf rc _ n n w (fun W hb=>values_no _ _ _ n n d (fun i=>patV (d i)) W (hR.keeps hb) (by omega) K hK hEF (fun i hi W' hb'=>of_ok (hp i hi) ((H.keeps hb).keeps hb')) (fun W' hb'=>of_no hq ((H.keeps hb).keeps hb')))
theorem rowT {w:World} {g:Nat} {a b:Int} (h:w.heap[g]?=some (.cells #[.int .i64 a,.int .i64 b] 3 (0,0))):Row w (some ⟨g,0,none⟩) 2 2 (fun i=>if i=0 then a else b) :=
  ⟨Nat.le_refl _,by decide,(fun h=>nomatch h),fun _=>⟨g,0,rfl,(Array.getElem?_eq_some_iff.1 h).1,fun i hi=>by
    match i,hi with
    | 0,_=>exact blkC h 0 rfl
    | 1,_=>exact blkC h 1 rfl⟩⟩
theorem mag_pos {m:Int} (h:0<m):(m/2^vK m).toNat≠0:=by
 have hb:=blen_pos h
 have hp:=two_pos (vK m)
 have h1:2^vK m<=m:=Int.le_trans (two_le (by unfold vK; omega)) hb.2
 have h2:1<=m/2^vK m:=by rw [Int.le_ediv_iff_mul_le hp,Int.one_mul]; exact h1
 omega
theorem mag_lt {m:Int} (h:0<=m):(m/2^vK m).toNat<18446744073709551616:=by
 have:=vK_small h
 omega
theorem exp_in {V:Int} {ng:Bool} {m e:Int} (hy:Dy V ng m e) (ok:Dok V):-4500000<=e+vK m∧e+vK m<=4500000:=by
 obtain ⟨h1,h2,h3⟩:=hy.ok.1 ok
 have h4:blen m<=30*2000:=blen_le (by rw [<- P_two]; exact h1)
 unfold vK
 omega
theorem opAdd_inf (way:Int) (hw:1<=way∧way<=3) (near a b:Int) (Rf:Nat) (rc:Array Value) (hp:(pok a && pok b)=false) (w:World) (go:Nat) (ko:w.heap[go]?=some (.cells #[.int .i64 a,.int .i64 b] 3 (0,0))) (H:Hold4 w) :
    Calls Tryz.prog 314 #[.agg #[.func (.func 150) #[] #[],.func (.func 255) #[] #[]],.int .i64 near,.int .i64 way,.func (.func Rf) #[] rc,.slice (some ⟨go,0,none⟩) 2 2] w fun e w'=>e=.returned (.tuple #[.int .i64 near,.int .i64 0])∧Below w.heap.size w w':=by
  cases h1:pok a
  · exact operate_inf way hw near Rf rc go 2 (by decide) (fun i=>if i=0 then a else b) w (rowT ko) 0 (by decide) (fun i hi=>by omega) h1 H
  · rw [h1] at hp
    exact operate_inf way hw near Rf rc go 2 (by decide) (fun i=>if i=0 then a else b) w (rowT ko) 1 (by decide) (fun i hi=>by
      obtain rfl:i=0:=by omega
      exact h1) hp H
theorem opMul (way:Int) (hw:1<=way∧way<=3) (near a b:Int) (ra:rng a) (rb:rng b) (w:World) (go:Nat) (ko:w.heap[go]?=some (.cells #[.int .i64 a,.int .i64 b] 3 (0,0))) (H:Hold4 w) :
  Calls Tryz.prog 314 #[.agg #[.func (.func 150) #[] #[],.func (.func 255) #[] #[]],.int .i64 near,.int .i64 way,.func (.func 315) #[] #[],.slice (some ⟨go,0,none⟩) 2 2] w fun e w'=>e=.returned (.tuple #[.int .i64 (if (pok a && pok b)=true∧prV a b≠0 then rdP way (prV a b) else near),.int .i64 0])∧Below w.heap.size w w':=by
 have hER:∀ (cap:Array Value) (w:World),(callFunc 315 cap).run Tryz.prog w=.ok (.enter 315 cap) w:=by
  intro cap w
  simp [go_sem]
 cases hpp:(pok a && pok b)
 ·have n1:¬ (false=true∧prV a b≠0):=fun q=>by cases q.1
  rw [if_neg n1]
  exact opAdd_inf way hw near a b _ _ hpp w go ko H
 ·simp only [Bool.and_eq_true] at hpp
  obtain ⟨pa,pb⟩:=hpp
  obtain ⟨_,_,_,_,hC⟩:=prV_parts ra rb pa pb
  have ok:Dok (prV a b):=((patV_bd pa).mul (patV_bd pb) hC (by omega)).ok (by omega)
  obtain ⟨ng,m,e,hy,hm⟩:=id ok
  clear hm
  have hp:∀ i,i<2->pok (if i=0 then a else b)=true:=fun i hi=>by split <;> assumption
  have:=operate_fin way hw near _ #[] go 2 (by decide) (fun i=>if i=0 then a else b) w (rowT ko) hp H ng _ _ _ false (mag_lt hy.nonneg) (exp_in hy ok) hER (fun W g q hb hN hf=>product_D g W q (patV a) (patV b) (prV a b) ng m e hN (nums_D hN hf 0 (by decide)) (nums_D hN hf 1 (by decide)) (patV_dok pa) (patV_dok pb) hC ok hy (H.keeps hb).tab)
  have hA:(if true=true∧prV a b≠0 then rdP way (prV a b) else near)=opT 0 (m/2^vK m).toNat false (r64 way ng true (m/2^vK m).toNat (e+vK m) (decide (m % 2^vK m≠0))).1 near:=by
   unfold opT
   by_cases h0:prV a b=0
   ·have hm0:=hy.eq_zero.1 h0
    have n1:¬ (true=true∧prV a b≠0):=fun q=>q.2 h0
    have n3:(0:Int)≠0∨((m/2^vK m).toNat=0∧false=false):=.inr ⟨by rw [hm0,Int.zero_ediv]; rfl,rfl⟩
    rw [if_neg n1,if_pos n3]
   ·have hm0:0<m:=by
     have:=hy.nonneg
     have:m≠0:=fun q=>h0 (hy.eq_zero.2 q)
     omega
    have n1:true=true∧prV a b≠0:=⟨rfl,h0⟩
    have n3:¬ ((0:Int)≠0∨((m/2^vK m).toNat=0∧false=false)):=fun q=>by
     rcases q with q | q
     ·exact q rfl
     ·exact mag_pos hm0 q.1
    rw [if_pos n1,if_neg n3,r64_dy hy h0 (by have:=(hy.ok.1 ok).2.1; omega)]
  rw [hA]
  exact this
theorem mul_A {a b way:Int} {w:World} (ra:rng a) (rb:rng b) (hw:0<=way∧way<=3) (H:Hold4 w) :
  Calls Tryz.prog 289 #[.int .i64 a,.int .i64 b,.int .i64 way] w fun e w'=>e=.returned (.tuple #[.int .i64 (mulP way a b),.int .i64 0])∧Below w.heap.size w w':=by
 have CK:Hid (∀ W go,W.heap[go]?=some (.cells #[.int .i64 a,.int .i64 b] 3 (0,0))->Hold4 W->Calls Tryz.prog 314 #[.agg #[.func (.func 150) #[] #[],.func (.func 255) #[] #[]],.int .i64 (fprod (told a) (told b)),.int .i64 way,.func (.func 315) #[] #[],.slice (some ⟨go,0,none⟩) 2 2] W fun e w'=>e=.returned (.tuple #[.int .i64 (mulP way a b),.int .i64 0])∧Below W.heap.size W w'):=fun W go ko H=>by
  by_cases h0:way=0
  ·have e:mulP way a b=fprod (told a) (told b):=by unfold mulP; rw [if_pos (.inl h0)]
   rw [e,h0]
   exact operate_near _ _ ⟨_,rfl⟩ ⟨_,rfl⟩ _ _ _ _ _ W
  ·have e:mulP way a b=if (pok a && pok b)=true∧prV a b≠0 then rdP way (prV a b) else fprod (told a) (told b):=by
    unfold mulP
    cases hp:(pok a && pok b)
    ·have n1:way=0∨false=false:=.inr rfl
     have n2:¬ (false=true∧prV a b≠0):=fun q=>by cases q.1
     rw [if_pos n1,if_neg n2]
    ·have n1:¬ (way=0∨true=false):=fun q=>by rcases q with q | q; exact h0 q; cases q
     rw [if_neg n1]
     by_cases h:prV a b≠0
     ·have n2:true=true∧prV a b≠0:=⟨rfl,h⟩
      rw [if_pos h,if_pos n2]
     ·have n2:¬ (true=true∧prV a b≠0):=fun q=>h q.2
      rw [if_neg h,if_neg n2]
   rw [e]
   exact opMul way (by omega) _ a b ra rb W go ko H
 generalize mulP way a b=R at CK ⊢
 have hcv:=cv64
 have hmf:∀ (fn:Fn) (first cap:Array Value) (w:World),(Instr.makeFunc fn first cap).run Tryz.prog w=.ok (.func fn first cap) w:=fun _ _ _ _=>rfl
 have CF:Hid (∀ W,Calls Tryz.prog 58 #[.int .i64 a] W fun e w'=>e=.returned (.float .f64 (wd a))∧w'=W):=fun W=>bitsFloat a W
 have CG:Hid (∀ W,Calls Tryz.prog 58 #[.int .i64 b] W fun e w'=>e=.returned (.float .f64 (wd b))∧w'=W):=fun W=>bitsFloat b W
 have RS:Hid (∀ W,_):=fun W=>run_fprod (P:=Tryz.prog) 59 (wd_told ra) (wd_told rb) W
 go_enter Tryz.func289,Tryz.ntmps289
 go_wp2_with fail
 refine (double_any _).mono ?_
 rintro _ w1 ⟨rfl,hb1⟩
 obtain ⟨z,w2,hrun,hz,hw2⟩:=RS.out w1
 clear RS
 generalize wd a=x at *
 generalize wd b=y at *
 generalize fprod (told a) (told b)=near at *
 go_wp2_with fail
 refine (CF.out _).mono ?_
 rintro _ _ ⟨rfl,rfl⟩
 go_wp2_with fail
 refine (CG.out _).mono ?_
 rintro _ _ ⟨rfl,rfl⟩
 go_wp2_with fail
 have hb2:Below w.heap.size w w2:=by rcases hw2 with rfl | rfl; exact hb1; exact hb1.drew
 refine (of_FW hz _).mono ?_
 rintro _ _ ⟨rfl,rfl⟩
 have hb3:=bel_trans hb2 (bel_alloc _ (.cells #[.int .i64 a,.int .i64 b] 3))
 go_wp2_with fail
 refine (CK.out _ _ (heap_a1 _ (.cells #[.int .i64 a,.int .i64 b] 3)) (H.keeps hb3)).mono ?_
 rintro _ w5 ⟨rfl,hb5⟩
 go_wp2
 all_goals refine bodyPost_ret (v:=.tuple #[.int .i64 R,.int .i64 0]) (by simp [results,Tryz.results289,go_sem]) rfl ⟨rfl,bel_trans hb3 hb5⟩
theorem fin2 {w w3:World} (h3:Below (w.alloc (.cells #[.float .f64 0,.float .f64 0] 160)).heap.size (w.alloc (.cells #[.float .f64 0,.float .f64 0] 160)) w3) (U V:Nat) :
  (store ⟨w.heap.size,0,none⟩ (.float .f64 U)).run Tryz.prog w3=.ok () (w3.setCell ⟨w.heap.size,0,none⟩ (.float .f64 U))∧(store ⟨w.heap.size,1,none⟩ (.float .f64 V)).run Tryz.prog (w3.setCell ⟨w.heap.size,0,none⟩ (.float .f64 U))=.ok () ((w3.setCell ⟨w.heap.size,0,none⟩ (.float .f64 U)).setCell ⟨w.heap.size,1,none⟩ (.float .f64 V))∧((w3.setCell ⟨w.heap.size,0,none⟩ (.float .f64 U)).setCell ⟨w.heap.size,1,none⟩ (.float .f64 V)).cell? ⟨w.heap.size,0,none⟩=some (.float .f64 U)∧((w3.setCell ⟨w.heap.size,0,none⟩ (.float .f64 U)).setCell ⟨w.heap.size,1,none⟩ (.float .f64 V)).cell? ⟨w.heap.size,1,none⟩=some (.float .f64 V)∧Below w.heap.size w ((w3.setCell ⟨w.heap.size,0,none⟩ (.float .f64 U)).setCell ⟨w.heap.size,1,none⟩ (.float .f64 V)):=by
 have hg:=q_heap_last w (.cells #[.float .f64 0,.float .f64 0] 160)
 have hba:=bel_alloc w (.cells #[.float .f64 0,.float .f64 0] 160)
 have d2:=(h3.block _ (Array.getElem?_eq_some_iff.1 hg).1).trans hg
 have d3:=q_heap_set d2 0 (.float .f64 U)
 have d4:=q_heap_set d3 1 (.float .f64 V)
 have f0:=blkC d2 0 rfl
 have z0:=blkF d2 0
 have f1:=blkC d3 1 rfl
 have z1:=blkF d3 1
 refine ⟨?_,?_,blkC d4 0 rfl,blkC d4 1 rfl,?_⟩
 ·rw [run_store _ _ _ _ _ rfl,f0]; simp only [z0]; rfl
 ·rw [run_store _ _ _ _ _ rfl,f1]; simp only [z1]; rfl
 ·exact ((bel_trans hba h3).setCell (p:=⟨w.heap.size,0,none⟩) (Nat.le_refl _) _).setCell (p:=⟨w.heap.size,1,none⟩) (Nat.le_refl _) _
theorem deepProd_any {a b:Int} (ra:rng a) (rb:rng b) (w:World) (H:Hold4 w) :
  Calls Tryz.prog 247 #[.int .i64 a,.int .i64 b] w fun e w'=>e=.returned (ivl (mulP 1 a b) (mulP 2 a b))∧Below w.heap.size w w':=by
 have C1:Hid (∀ W,Hold4 W->Calls Tryz.prog 289 #[.int .i64 a,.int .i64 b,.int .i64 1] W fun e w'=>e=.returned (.tuple #[.int .i64 (mulP 1 a b),.int .i64 0])∧Below W.heap.size W w'):=fun W h=>mul_A ra rb (by omega) h
 have C2:Hid (∀ W,Hold4 W->Calls Tryz.prog 289 #[.int .i64 a,.int .i64 b,.int .i64 2] W fun e w'=>e=.returned (.tuple #[.int .i64 (mulP 2 a b),.int .i64 0])∧Below W.heap.size W w'):=fun W h=>mul_A ra rb (by omega) h
 unfold ivl
 generalize mulP 1 a b=l at *
 generalize mulP 2 a b=h at *
 have hba:=bel_alloc w (.cells #[.float .f64 0,.float .f64 0] 160)
 go_enter Tryz.func247,Tryz.ntmps247
 go_wp2_with fail
 refine (C1.out _ (H.keeps hba)).mono ?_
 rintro _ w1 ⟨rfl,hb1⟩
 have hw1:=bel_trans hba hb1
 go_wp2_with fail
 refine (C2.out _ (H.keeps hw1)).mono ?_
 rintro _ w2 ⟨rfl,hb2⟩
 have hb3:=bel_trans hb1 hb2
 obtain ⟨s0,s1,e0,e1,hbe⟩:=fin2 hb3 (wd l) (wd h)
 have CF:Hid (∀ W,Calls Tryz.prog 58 #[.int .i64 l] W fun e w'=>e=.returned (.float .f64 (wd l))∧w'=W):=fun W=>bitsFloat l W
 have CG:Hid (∀ W,Calls Tryz.prog 58 #[.int .i64 h] W fun e w'=>e=.returned (.float .f64 (wd h))∧w'=W):=fun W=>bitsFloat h W
 go_wp2_with fail
 refine (CF.out _).mono ?_
 rintro _ wz ⟨rfl,hwz⟩
 replace hwz:=hwz.symm
 subst hwz
 go_wp2_with fail
 refine (CG.out _).mono ?_
 rintro _ wz ⟨rfl,hwz⟩
 replace hwz:=hwz.symm
 subst hwz
 go_wp2
 refine bodyPost_ret (v:=.agg #[.float .f64 (wd l),.float .f64 (wd h)]) (by simp [results,Tryz.results247,go_sem,e0,e1]) rfl ⟨rfl,hbe⟩
theorem run_prodN {P:Program} (t:TypeId) {p q:Int} {x y:Nat} (hx:FW p x) (hy:FW q y) (h:cls (fprod p q)≠4) (w:World):(binOp .mul t (.float .f64 x) (.float .f64 y)).run P w=.ok (.float .f64 (wd (fprod p q))) w:=by
 obtain ⟨z,w',hrun,hz⟩:=run_farith (P:=P) .mul (.inr (.inr (.inl rfl))) t x y w
 have hf:floatBits .mul .f64 x y=Ieee.double.mul x y:=rfl
 rw [hf] at hz
 rcases mul_FW hx hy with ⟨z',e1,e2⟩ | ⟨_,e2⟩
 ·rcases hz with ⟨h1,h2⟩ | ⟨h1,_⟩
  ·rw [e1] at h1
   cases h1
   rw [hrun,h2,(e2.of h).2.1]
  ·rw [e1] at h1; cases h1
 ·exact absurd (by rw [e2]; decide) h
theorem key_pos0 {p:Int} (h:nn p) (h0:rg p≠0):FloatKind.f64.format.order (wd p) 0=some .lt∨FloatKind.f64.format.order (wd p) 0=some .gt:=by
 have n0:=nn0.1
 have w0:wd 0=0:=by decide
 have k0:key 0=0:=by decide
 have hk:key p≠0:=by
  have:=nn_rg h
  unfold key
  unfold rg at h0 this
  split at h0 <;> simp_all <;> omega
 rcases Int.lt_or_gt_of_ne hk with q | q
 ·left
  have:=q_lt h.1 n0.1 h.2 n0.2 (by rw [k0]; exact q)
  rwa [w0] at this
 ·right
  have:=q_gt h.1 n0.1 h.2 n0.2 (by rw [k0]; exact q)
  rwa [w0] at this
theorem key_zero0 {p:Int} (h:nn p) (h0:rg p=0):FloatKind.f64.format.order (wd p) 0=some .eq:=by
 have n0:=nn0.1
 have w0:wd 0=0:=by decide
 have k0:key 0=0:=by decide
 have hk:key p=0:=by
  unfold key
  unfold rg at h0
  split at h0 <;> simp_all
 have:=q_eq h.1 n0.1 h.2 n0.2 (by rw [k0]; exact hk)
 rwa [w0] at this
theorem product_zero {p q:Int} (hp:nn p) (hq:nn q) (h0:rg p=0∨rg q=0) (w:World) :
  Calls Tryz.prog 188 #[.float .f64 (wd p),.float .f64 (wd q)] w fun e w'=>e=.returned (ivl 0 0)∧Below w.heap.size w w':=by
 have hcv:=cv64
 have w0:wd 0=0:=by decide
 unfold ivl
 rw [w0]
 have hba:=bel_alloc w (.cells #[.float .f64 0,.float .f64 0] 160)
 obtain ⟨z,w1,hrun,hz,hw1⟩:=run_fprod (P:=Tryz.prog) 59 (FW.pat hp.2 hp.1) (FW.pat hq.2 hq.1) (w.alloc (.cells #[.float .f64 0,.float .f64 0] 160))
 have hb1:Below (w.alloc (.cells #[.float .f64 0,.float .f64 0] 160)).heap.size (w.alloc (.cells #[.float .f64 0,.float .f64 0] 160)) w1:=by
  rcases hw1 with rfl | rfl
  ·exact bel_refl _
  ·exact (bel_refl _).drew
 obtain ⟨s0,s1,e0,e1,hbe⟩:=fin2 hb1 0 0
 by_cases hp0:rg p=0
 ·have o:=key_zero0 hp hp0
  generalize wd p=x at *
  generalize wd q=y at *
  clear hw1
  go_enter Tryz.func188,Tryz.ntmps188
  go_wp2
  refine bodyPost_ret (v:=.agg #[.float .f64 0,.float .f64 0]) (by simp [results,Tryz.results188,go_sem,e0,e1]) rfl ⟨rfl,hbe⟩
 ·have hq0:rg q=0:=by omega
  have o2:=key_zero0 hq hq0
  rcases key_pos0 hp hp0 with o | o
  all_goals
   generalize wd p=x at *
   generalize wd q=y at *
   clear hw1
   go_enter Tryz.func188,Tryz.ntmps188
   go_wp2
   refine bodyPost_ret (v:=.agg #[.float .f64 0,.float .f64 0]) (by simp [results,Tryz.results188,go_sem,e0,e1]) rfl ⟨rfl,hbe⟩
theorem product_deep {p q:Int} (hp:nn p) (hq:nn q) (p0:rg p≠0) (q0:rg q≠0) (hn:nn (fprod p q)) (hd:rg (fprod p q)<283726776524341248) (w:World) (H:Hold4 w) :
  Calls Tryz.prog 188 #[.float .f64 (wd p),.float .f64 (wd q)] w fun e w'=>e=.returned (ivl (mulP 1 p q) (mulP 2 p q))∧Below w.heap.size w w':=by
 have hcv:=cv64
 have hba:=bel_alloc w (.cells #[.float .f64 0,.float .f64 0] 160)
 have CD:Hid (∀ W,Hold4 W->Calls Tryz.prog 247 #[.int .i64 p,.int .i64 q] W fun e w'=>e=.returned (.agg #[.float .f64 (wd (mulP 1 p q)),.float .f64 (wd (mulP 2 p q))])∧Below W.heap.size W w'):=fun W h=>deepProd_any hp.1 hq.1 W h
 have CP:Hid (∀ W,Calls Tryz.prog 124 #[.float .f64 (wd p)] W fun e w'=>e=.returned (.int .i64 p)∧w'=W):=fun W=>of_FW (FW.pat hp.2 hp.1) W
 have CQ:Hid (∀ W,Calls Tryz.prog 124 #[.float .f64 (wd q)] W fun e w'=>e=.returned (.int .i64 q)∧w'=W):=fun W=>of_FW (FW.pat hq.2 hq.1) W
 have CA:Hid (∀ W,Calls Tryz.prog 34 #[.float .f64 (wd (fprod p q))] W fun e w'=>e=.returned (.float .f64 (wd (rg (fprod p q))))∧w'=W):=fun W=>mathAbs hn.1 W
 have hrun:∀ W,(binOp .mul 59 (.float .f64 (wd p)) (.float .f64 (wd q))).run Tryz.prog W=.ok (.float .f64 (wd (fprod p q))) W:=fun W=>run_prodN _ (FW.pat hp.2 hp.1) (FW.pat hq.2 hq.1) hn.2 W
 have od:FloatKind.f64.format.order (wd (rg (fprod p q))) 283726776524341248=some .lt:=by
  obtain ⟨a1,a2⟩:=q_rg hn.1
  have ca:¬ cls (rg (fprod p q))=4:=by rw [q_cls hn.1]; exact hn.2
  have:=q_lt a1 (show rng 283726776524341248 by unfold rng; omega) ca (by decide) (by rw [q_key a2,show key 283726776524341248=283726776524341248 by decide]; exact hd)
  rwa [show wd 283726776524341248=283726776524341248 by decide] at this
 have o1:=key_pos0 hp p0
 have o2:=key_pos0 hq q0
 unfold ivl
 generalize wd (mulP 1 p q)=U at *
 generalize wd (mulP 2 p q)=V at *
 generalize wd (rg (fprod p q))=A at *
 generalize wd (fprod p q)=N at *
 generalize wd p=x at *
 generalize wd q=y at *
 rcases o1 with o1 | o1 <;> rcases o2 with o2 | o2
 all_goals
  go_enter Tryz.func188,Tryz.ntmps188
  go_wp2_with fail
  refine (CA.out _).mono ?_
  rintro _ wz ⟨rfl,hwz⟩
  replace hwz:=hwz.symm
  subst hwz
  go_wp2_with fail
  refine (CP.out _).mono ?_
  rintro _ wz ⟨rfl,hwz⟩
  replace hwz:=hwz.symm
  subst hwz
  go_wp2_with fail
  refine (CQ.out _).mono ?_
  rintro _ wz ⟨rfl,hwz⟩
  replace hwz:=hwz.symm
  subst hwz
  go_wp2_with fail
  refine (CD.out _ (H.keeps hba)).mono ?_
  rintro _ w3 ⟨rfl,hb3⟩
  obtain ⟨s0,s1,e0,e1,hbe⟩:=fin2 hb3 U V
  go_wp2
  refine bodyPost_ret (v:=.agg #[.float .f64 U,.float .f64 V]) (by simp [results,Tryz.results188,go_sem,e0,e1]) rfl ⟨rfl,hbe⟩
theorem product_be {p q:Int} (hp:nn p) (hq:nn q) (p0:rg p≠0) (q0:rg q≠0) (hn:nn (fprod p q)) (hd:283726776524341248<=rg (fprod p q)) (w:World) :
  Calls Tryz.prog 188 #[.float .f64 (wd p),.float .f64 (wd q)] w fun e w'=>e=.returned (ivl (beLo (fprod p q) (ffma p q (neg (fprod p q)))) (beHi (fprod p q) (ffma p q (neg (fprod p q)))))∧Below w.heap.size w w':=by
 have hcv:=cv64
 have hba:=bel_alloc w (.cells #[.float .f64 0,.float .f64 0] 160)
 have CA:Hid (∀ W,Calls Tryz.prog 34 #[.float .f64 (wd (fprod p q))] W fun e w'=>e=.returned (.float .f64 (wd (rg (fprod p q))))∧w'=W):=fun W=>mathAbs hn.1 W
 have hrun:∀ W,(binOp .mul 59 (.float .f64 (wd p)) (.float .f64 (wd q))).run Tryz.prog W=.ok (.float .f64 (wd (fprod p q))) W:=fun W=>run_prodN _ (FW.pat hp.2 hp.1) (FW.pat hq.2 hq.1) hn.2 W
 have hneg:∀ W,(Op.unary UnOp.neg (.float .f64 (wd (fprod p q)))).run Tryz.prog W=.ok (.float .f64 (wd (neg (fprod p q)))) W:=fun W=>run_negF hn W
 have nm:=(nn_neg hn).1
 obtain ⟨L,w1,rF,hL,hw1⟩:=run_ffma (FW.pat hp.2 hp.1) (FW.pat hq.2 hq.1) (FW.pat nm.2 nm.1) (w.alloc (.cells #[.float .f64 0,.float .f64 0] 160))
 have hb1:Below (w.alloc (.cells #[.float .f64 0,.float .f64 0] 160)).heap.size (w.alloc (.cells #[.float .f64 0,.float .f64 0] 160)) w1:=by
  rcases hw1 with rfl | rfl
  ·exact bel_refl _
  ·exact (bel_refl _).drew
 have CB:Hid (∀ W,Calls Tryz.prog 248 #[.float .f64 (wd (fprod p q)),.float .f64 L] W fun e w'=>e=.returned (.agg #[.float .f64 (wd (beLo (fprod p q) (ffma p q (neg (fprod p q))))),.float .f64 (wd (beHi (fprod p q) (ffma p q (neg (fprod p q)))))])∧Below W.heap.size W w'):=fun W=>beside_any hn hL W
 have od:FloatKind.f64.format.order (wd (rg (fprod p q))) 283726776524341248=some .gt∨FloatKind.f64.format.order (wd (rg (fprod p q))) 283726776524341248=some .eq:=by
  obtain ⟨a1,a2⟩:=q_rg hn.1
  have ca:¬ cls (rg (fprod p q))=4:=by rw [q_cls hn.1]; exact hn.2
  have w9:wd 283726776524341248=283726776524341248:=by decide
  have k9:key 283726776524341248=283726776524341248:=by decide
  by_cases e:rg (fprod p q)=283726776524341248
  ·right
   have:=q_eq a1 (show rng 283726776524341248 by unfold rng; omega) ca (by decide) (by rw [q_key a2,k9]; exact e)
   rwa [w9] at this
  ·left
   have:=q_gt a1 (show rng 283726776524341248 by unfold rng; omega) ca (by decide) (by rw [q_key a2,k9]; omega)
   rwa [w9] at this
 have o1:=key_pos0 hp p0
 have o2:=key_pos0 hq q0
 unfold ivl
 generalize wd (beLo (fprod p q) (ffma p q (neg (fprod p q))))=U at *
 generalize wd (beHi (fprod p q) (ffma p q (neg (fprod p q))))=V at *
 generalize wd (rg (fprod p q))=A at *
 generalize wd (neg (fprod p q))=M at *
 generalize wd (fprod p q)=N at *
 generalize wd p=x at *
 generalize wd q=y at *
 clear hw1 hL hd
 rcases o1 with o1 | o1 <;> rcases o2 with o2 | o2 <;> rcases od with od | od
 all_goals
  go_enter Tryz.func188,Tryz.ntmps188
  go_wp2_with fail
  refine (CA.out _).mono ?_
  rintro _ wz ⟨rfl,hwz⟩
  replace hwz:=hwz.symm
  subst hwz
  go_wp2_with fail
  refine (CB.out _).mono ?_
  rintro _ w3 ⟨rfl,hb3⟩
  obtain ⟨s0,s1,e0,e1,hbe⟩:=fin2 (bel_trans hb1 hb3) U V
  go_wp2
  refine bodyPost_ret (v:=.agg #[.float .f64 U,.float .f64 V]) (by simp [results,Tryz.results188,go_sem,e0,e1]) rfl ⟨rfl,hbe⟩
theorem fx_fw {a b:Nat} {x:Int} (h:Fx a b x):FW x (wd x):=FW.pat (q_fin h.p) h.r
theorem dans_past {w w':World} {V:Int} {v:Value} (h:DAns w w' V v) (o:Obj):DAns w (w'.alloc o) V v:=h.stays (bel_alloc _ _)
theorem oapart_any {p q:Int} (pp:pok p=true) (pq:pok q=true) (w:World) (H:Hold4 w) :
  Calls Tryz.prog 78 #[.int .i64 p,.int .i64 q] w fun r w'=>∃ v,r=.returned v∧DAns w w' (patV p-patV q) v:=by
 have r_k:=heap_a1 w (.cells #[.bool false,.slice none 0 0,.int .i64 0] 40)
 have hb0:=bel_alloc w (.cells #[.bool false,.slice none 0 0,.int .i64 0] 40)
 have B1:=patV_bd pp
 have B2:=patV_bd pq
 go_enter Tryz.func78,Tryz.ntmps78
 go_wp2_with fail
 generalize w.alloc (.cells #[.bool false,.slice none 0 0,.int .i64 0] 40)=x0 at r_k hb0 ⊢
 have H:=H.keeps hb0
 refine (of_ok pp H).mono ?_
 rintro _ y1 ⟨v,rfl,h1⟩
 obtain ⟨x_g,x_o,x_n,x_c,x_e,rfl⟩:=dans_shape h1
 have hw1:=h1.below
 have x_D:=h1.num
 have H:=H.keeps hw1
 have r_k:=(hw1.block _ (Array.getElem?_eq_some_iff.1 r_k).1).trans r_k
 have hb1:=bel_trans hb0 hw1
 have r_k:=heap_past (.cells #[.bool x_g,.slice x_o x_n x_c,.int .i64 x_e] 40) r_k
 have x_k:=heap_a1 y1 (.cells #[.bool x_g,.slice x_o x_n x_c,.int .i64 x_e] 40)
 have x_D:=x_D.keeps (bel_alloc y1 (.cells #[.bool x_g,.slice x_o x_n x_c,.int .i64 x_e] 40))
 have H:=H.keeps (bel_alloc y1 (.cells #[.bool x_g,.slice x_o x_n x_c,.int .i64 x_e] 40))
 have hb2':=bel_trans hb1 (bel_alloc y1 (.cells #[.bool x_g,.slice x_o x_n x_c,.int .i64 x_e] 40))
 go_wp2_with fail
 generalize y1.alloc (.cells #[.bool x_g,.slice x_o x_n x_c,.int .i64 x_e] 40)=x2 at r_k x_k x_D H hb2' ⊢
 refine (of_ok pq H).mono ?_
 rintro _ y2 ⟨v,rfl,h2⟩
 obtain ⟨y_g,y_o,y_n,y_c,y_e,rfl⟩:=dans_shape h2
 have hw2:=h2.below
 have y_D:=h2.num
 have H:=H.keeps hw2
 have r_k:=(hw2.block _ (Array.getElem?_eq_some_iff.1 r_k).1).trans r_k
 have x_k:=(hw2.block _ (Array.getElem?_eq_some_iff.1 x_k).1).trans x_k
 have x_D:=x_D.keeps hw2
 have hb2:=bel_trans hb2' hw2
 have r_k:=heap_past (.cells #[.bool y_g,.slice y_o y_n y_c,.int .i64 y_e] 40) r_k
 have x_k:=heap_past (.cells #[.bool y_g,.slice y_o y_n y_c,.int .i64 y_e] 40) x_k
 have y_k:=heap_a1 y2 (.cells #[.bool y_g,.slice y_o y_n y_c,.int .i64 y_e] 40)
 have x_D:=x_D.keeps (bel_alloc y2 (.cells #[.bool y_g,.slice y_o y_n y_c,.int .i64 y_e] 40))
 have y_D:=y_D.keeps (bel_alloc y2 (.cells #[.bool y_g,.slice y_o y_n y_c,.int .i64 y_e] 40))
 have H:=H.keeps (bel_alloc y2 (.cells #[.bool y_g,.slice y_o y_n y_c,.int .i64 y_e] 40))
 have hb3':=bel_trans hb2 (bel_alloc y2 (.cells #[.bool y_g,.slice y_o y_n y_c,.int .i64 y_e] 40))
 have f_x0:=blkC x_k 0 rfl
 have f_x1:=blkC x_k 1 rfl
 have f_x2:=blkC x_k 2 rfl
 go_wp2_with fail
 clear f_x0 f_x1 f_x2
 generalize y2.alloc (.cells #[.bool y_g,.slice y_o y_n y_c,.int .i64 y_e] 40)=x3 at r_k x_k y_k x_D y_D H hb3' ⊢
 have hs0:=(Array.getElem?_eq_some_iff.1 r_k).1
 refine (sub_B x_D y_D B1 B2 (by omega) H.tab).mono ?_
 rintro _ y3 ⟨v,rfl,h3⟩
 obtain ⟨n_g,n_o,n_n,n_c,n_e,rfl⟩:=dans_shape h3
 have hw3:=h3.below
 have n_D:=h3.num
 have H:=H.keeps hw3
 have r_k:=(hw3.block _ (Array.getElem?_eq_some_iff.1 r_k).1).trans r_k
 have x_k:=(hw3.block _ (Array.getElem?_eq_some_iff.1 x_k).1).trans x_k
 have x_D:=x_D.keeps hw3
 have y_k:=(hw3.block _ (Array.getElem?_eq_some_iff.1 y_k).1).trans y_k
 have y_D:=y_D.keeps hw3
 have hb3:=bel_trans hb3' hw3
 have r_k:=heap_past (.cells #[.bool n_g,.slice n_o n_n n_c,.int .i64 n_e] 40) r_k
 have k0:=blkC r_k 0 rfl
 have k1:=blkC r_k 1 rfl
 have k2:=blkC r_k 2 rfl
 have z0:=blkF r_k 0
 have z1:=blkF r_k 1
 have z2:=blkF r_k 2
 go_wp2
 refine bodyPost_ret (v:=.agg #[.bool n_g,.slice n_o n_n n_c,.int .i64 n_e]) (by simp [results,Tryz.results78,go_sem,k0,k1,k2]) rfl ⟨_,rfl,?_⟩
 exact dans_res3 (g:=w.heap.size) (dans_past h3 _) (by assumption) (Nat.le_refl _) hs0 _ _ _
def RFit (w w':World) (V:Int) (v:Value) (er:Int):Prop:=DFit w w' V v er
theorem RFit.shape {w w':World} {V er:Int} {v:Value} (h:RFit w w' V v er):∃ ng so sn sc e,v=.agg #[.bool ng,.slice so sn sc,.int .i64 e]:=by
 exact DFit.shape h
theorem bd_form {K:Nat} {A:Int} {ng:Bool} {m e:Int} (h:Bd K A) (hy:Dy A ng m e) (hK:K<=4194304) (h0:0<m):-(K:Int)<=e∧e<=K∧m*2^(e+K).toNat<2^(2*K):=by
 obtain ⟨c,hc,c1,c2⟩:=h
 have key:∀ (b:Bool) (C:Int),0<C->C<2^(2*K)->A=sg b C*pw (-(K:Int))->-(K:Int)<=e∧e<=K∧m*2^(e+K).toNat<2^(2*K):=fun b C hC hlt hA=>by
  obtain ⟨l,hl⟩:=isLow_ex hC
  have hy2:=Dy.of b hl hC (show -4194304 <= -(K:Int) by omega)
  rw [<- hA] at hy2
  obtain ⟨_,rfl,rfl⟩:=hy.unique hy2
  obtain ⟨d1,d2,d3⟩:=isLow_odd hl hC
  have hl2:l<2*K:=by
   have h3:(1:Int)*2^l<=C/2^l*2^l:=Int.mul_le_mul_of_nonneg_right (by omega) (Int.le_of_lt (two_pos l))
   rw [d3] at h3
   exact two_lt_iff (by omega)
  refine ⟨by omega,by omega,?_⟩
  rw [show (-(K:Int)+l+K).toNat=l by omega,d3]
  exact hlt
 by_cases hz:c=0
 ·exfalso
  rw [hz,Int.zero_mul] at hc
  have:=hy.eq_zero.1 hc
  omega
 ·by_cases hp:0<c
  ·exact key false c hp c2 (by simpa [sg] using hc)
  ·exact key true (-c) (by omega) (by omega) (by simpa [sg] using hc)
def RSum (w w':World) (A B:Int) (x y v:Value):Prop:=Below w.heap.size w w'∧(DAns w w' (A+B) v∨(A=0∧v=y)∨(B=0∧v=x))
theorem RSum.num {w w':World} {A B:Int} {x y v:Value} (h:RSum w w' A B x y v) (hx:DNum w x A) (hy:DNum w y B):DNum w' v (A+B):=by
 rcases h.2 with h1 | ⟨rfl,rfl⟩ | ⟨rfl,rfl⟩
 ·exact h1.num
 ·rw [Int.zero_add]; exact hy.keeps h.1
 ·rw [Int.add_zero]; exact hx.keeps h.1
theorem Num.digits {w:World} {so:Option Addr} {sn sc:Nat} {M:Int} (h:Num w (.slice so sn sc) M) {K:Nat} (hK:K<=560000) (hM:M<2^(2*K)+2^(2*K)):∃ d,Row w so sn sc d∧Nrm d sn∧val d sn=M∧sn<=37500:=by
 obtain ⟨ao,n,ca,d,e,hR,hN,hv⟩:=h
 simp only [Value.slice.injEq] at e
 obtain ⟨rfl,rfl,rfl⟩:=e
 refine ⟨d,hR,hN,hv,?_⟩
 by_cases h1:sn<=37500
 ·exact h1
 ·exfalso
  have a:=val_top hN.1 (by omega) hN.2
  have b:=P_le (show 37500<=sn-1 by omega)
  have c:(2:Int)^(2*K)<=2^(30*37400):=two_le (by omega)
  have c2:(2:Int)^(30*37400)*2<=2^(30*37500):=by
   rw [<- Int.pow_succ]
   exact two_le (by omega)
  rw [<- P_two 37500] at c2
  generalize P 37500=Y at *
  generalize (2:Int)^(30*37400)=Z at *
  omega
def Lies (v:Value) (x y:Nat):Prop:=∀ g,v.ownBlock=some g->x<=g∧g<y
end Go.Proofs.YtjjihmnbdeeedaaGreatDoor
